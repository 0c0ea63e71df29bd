/- Terms that may be, of each kind; what is told is one, or none. -/
import Derived.Test.YteiacgpaocnofaaGreatOp7
namespace Go.Proofs.YteiacgpaocnofaaGreat
open Go.RowKit
/-- What is told is a term that may be; beside an error there is none. -/
def GoodR (r : Tm) (E : Int) : Prop := (E = 0 → fixT r = true) ∧ (E ≠ 0 → r.k = 0)
theorem good_true (b : Bool) : GoodR (trueT b) 0 := ⟨fun _ => by cases b <;> decide +kernel, fun h => absurd rfl h⟩
theorem good_zt {E : Int} (h : E ≠ 0) : GoodR zt E := ⟨fun e => absurd e h, fun _ => rfl⟩
theorem fix_may {t : Tm} (h : fixT t = true) : t.k ≠ 1 ∧ mayT t = true := by
  unfold fixT at h
  simp only [Bool.and_eq_true, bne_iff_ne, ne_eq] at h
  exact h
theorem fix_set {t : Tm} (h : fixT t = true) (h7 : t.k = 7) : fitB t.l = true ∧ riseB t.l = true ∧ t.n = 0 ∧ t.s.toList = [] := by
  have h1 := (fix_may h).2
  unfold mayT at h1
  rw [if_pos h7] at h1
  simp only [Bool.and_eq_true, beq_iff_eq, List.isEmpty_iff] at h1
  exact ⟨h1.1.2, h1.2, h1.1.1.1, h1.1.1.2⟩
theorem fix_flat {t : Tm} (h : fixT t = true) (h7 : t.k ≠ 7) : t.l = [] ∧ mayV t.k t.n t.s t.l.length = true := by
  have h1 := (fix_may h).2
  unfold mayT at h1
  rw [if_neg h7] at h1
  exact ⟨List.eq_nil_of_length_eq_zero (mayV_flat h1), h1⟩
theorem fix_kind {t : Tm} (h : fixT t = true) : 2 ≤ t.k ∧ t.k ≤ 7 := by
  by_cases h7 : t.k = 7
  · omega
  · have h1 := (fix_may h).1
    have h2 := (fix_flat h h7).2
    unfold mayV at h2
    split at h2
    · omega
    · split at h2
      · omega
      · split at h2
        · omega
        · split at h2
          · omega
          · split at h2
            · omega
            · cases h2
theorem fix_text {t : Tm} (h : fixT t = true) (hk : t.k = 3 ∨ t.k = 5) : t.s.size ≤ 256 ∧ t.n = 0 ∧ t.l = [] := by
  obtain ⟨hl, h2⟩ := fix_flat h (by omega)
  unfold mayV at h2
  rw [if_neg (by omega), if_neg (by omega), if_pos hk] at h2
  simp only [Bool.and_eq_true, beq_iff_eq, decide_eq_true_eq] at h2
  exact ⟨h2.2, h2.1.1, hl⟩
theorem fix_list {t : Tm} (h : fixT t = true) : t.l.length ≤ 16 ∧ ∀ x ∈ t.l, x.l = [] := by
  by_cases h7 : t.k = 7
  · have := fit_flat (fix_set h h7).1
    exact this
  · rw [(fix_flat h h7).1]
    exact ⟨by simp, fun x hx => by simp at hx⟩
theorem both_iff {k a b : Int} : bothB k a b = true ↔ a = k ∧ b = k := by
  unfold bothB
  simp
theorem fix_true (b : Bool) : fixT (trueT b) = true := by cases b <;> decide +kernel
theorem fix_num (z : Int) : fixT (numT z) = true := by
  show ((2 : Int) != 1 && if (2 : Int) = 7 then _ else mayV 2 z ⟨#[]⟩ 0) = true
  rw [if_neg (by decide)]
  unfold mayV
  rw [if_neg (by decide), if_pos rfl]
  decide +kernel
theorem fix_textT {s : ByteArray} (h : s.size ≤ 256) : fixT (textT s) = true := by
  show ((3 : Int) != 1 && if (3 : Int) = 7 then _ else mayV 3 0 s 0) = true
  rw [if_neg (by decide)]
  unfold mayV
  rw [if_neg (by decide), if_neg (by decide), if_pos (.inl rfl), decide_eq_true h]
  decide +kernel
theorem good_num (z : Int) : GoodR (numR z) (numE z) := by
  unfold numR numE
  split
  · exact ⟨fun _ => fix_num z, fun h => absurd rfl h⟩
  · exact good_zt (by decide)
theorem good_numT (z : Int) : GoodR (numT z) 0 := ⟨fun _ => fix_num z, fun h => absurd rfl h⟩
theorem bits_in (op : BinOp) (a b : Int) : inB (bits op .i64 a b) := by
  unfold bits
  simp only [IntKind.wrap_i64]
  unfold inB
  omega
theorem OpF.good {f : FuncId} {args : Array Value} {W : World} {r : Tm} {E : Int} {R : Tm → Int → Prop} (h : Calls Tryz.prog f args W (OpF r E W)) (hf : Fl r) (hR : R r E) : Calls Tryz.prog f args W (OpA R W) := h.mono fun _ _ h => h.toA hf hR
theorem OpA.good {f : FuncId} {args : Array Value} {W : World} {R S : Tm → Int → Prop} (h : Calls Tryz.prog f args W (OpA R W)) (hS : ∀ r E, R r E → S r E) : Calls Tryz.prog f args W (OpA S W) := h.mono fun _ _ h => h.imp hS
end Go.Proofs.YteiacgpaocnofaaGreat
