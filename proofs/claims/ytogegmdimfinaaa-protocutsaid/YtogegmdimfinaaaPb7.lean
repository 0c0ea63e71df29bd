/- A message in memory: its pieces, each a field's bytes; a field is put behind them. -/
import Derived.Test.YtogegmdimfinaaaPb6
namespace Go.Proofs.Ytogegmdimfinaaa
open Go.RowKit
/-- Pieces, the last one first; their bytes lie in blocks of a kind. -/
def PAt (w : World) (A : Nat → Prop) : List (List Nat) → Value → Prop
  | [], p => p = .pointer none
  | b :: bs, p => ∃ q pa bv, p = .pointer (some ⟨q, 0, none⟩) ∧ w.heap[q]? = some (.cells #[pa, bv] 64 (0, 0)) ∧ Own w 0 bv b ∧ (∀ k, bv.ownBlock = some k → A k) ∧ PAt w A bs pa
theorem PAt.ext {w w' : World} {A : Nat → Prop} (he : Below w.heap.size w w') : ∀ {bs : List (List Nat)} {p : Value}, PAt w A bs p → PAt w' A bs p
  | [], _, h => h
  | b :: bs, p, h => by
    obtain ⟨q, pa, bv, e1, e2, e3, e5, e4⟩ := h
    exact ⟨q, pa, bv, e1, Below.heap he (Array.getElem?_eq_some_iff.1 e2).1 e2, e3.ext he, e5, PAt.ext he e4⟩
theorem heap_off {w w' : World} {X : Option Nat} (hg : w.grownBy w' X) {q t : Nat} {c : Array Value} {fr : Nat × Nat} (h : w.heap[q]? = some (.cells c t fr)) (ho : Off w X t) : w'.heap[q]? = some (.cells c t fr) :=
  (hg.block q (Array.getElem?_eq_some_iff.1 h).1 (fun e => by
    obtain ⟨c', t', fr', h2, h3⟩ := ho q e.symm
    rw [h] at h2
    injection h2 with h2
    injection h2 with _ h2 _
    exact h3 h2.symm)).trans h
theorem PAt.off {w w' : World} {A : Nat → Prop} {X : Option Nat} (hg : w.grownBy w' X) (h1 : Off w X 64) (h5 : Off w X 5) : ∀ {bs : List (List Nat)} {p : Value}, PAt w A bs p → PAt w' A bs p
  | [], _, h => h
  | b :: bs, p, h => by
    obtain ⟨q, pa, bv, e1, e2, e3, e5, e4⟩ := h
    exact ⟨q, pa, bv, e1, heap_off hg e2 h1, e3.off hg h5, e5, PAt.off hg h1 h5 e4⟩
/-- What is written is no block of that kind. -/
theorem PAt.away {w w' : World} {A : Nat → Prop} {X : Option Nat} (hg : w.grownBy w' X) (h1 : Off w X 64) (hA : ∀ k, A k → some k ≠ X) : ∀ {bs : List (List Nat)} {p : Value}, PAt w A bs p → PAt w' A bs p
  | [], _, h => h
  | b :: bs, p, h => by
    obtain ⟨q, pa, bv, e1, e2, e3, e5, e4⟩ := h
    refine ⟨q, pa, bv, e1, heap_off hg e2 h1, ⟨e3.row.kept hg ?_, e3.lim⟩, e5, PAt.away hg h1 hA e4⟩
    cases hb : bv.ownBlock with
    | none => exact .inl rfl
    | some k => exact .inr (hA k (e5 k hb))
theorem PAt.mono {w : World} {A A' : Nat → Prop} (hA : ∀ k, k < w.heap.size → A k → A' k) : ∀ {bs : List (List Nat)} {p : Value}, PAt w A bs p → PAt w A' bs p
  | [], _, h => h
  | b :: bs, p, h => by
    obtain ⟨q, pa, bv, e1, e2, e3, e5, e4⟩ := h
    exact ⟨q, pa, bv, e1, e2, e3, fun k hk => hA k (e3.row.lt k hk).2 (e5 k hk), PAt.mono hA e4⟩
theorem PAt.form {w : World} {A : Nat → Prop} : ∀ {bs : List (List Nat)} {p : Value}, PAt w A bs p → ∃ x, p = .pointer x
  | [], _, h => ⟨_, h⟩
  | b :: bs, p, h => by
    obtain ⟨q, pa, bv, e1, _⟩ := h
    exact ⟨_, e1⟩
/-- A message with these pieces, in blocks of a kind. -/
def MAtX (w : World) (A : Nat → Prop) (g : Nat) (bs : List (List Nat)) : Prop := ∃ p, w.heap[g]? = some (.cells #[p] 29 (0, 0)) ∧ PAt w A bs.reverse p
/-- A message with these pieces. -/
abbrev MAt (w : World) (g : Nat) (bs : List (List Nat)) : Prop := MAtX w (fun _ => True) g bs
theorem MAtX.lt {w : World} {A : Nat → Prop} {g : Nat} {bs : List (List Nat)} (h : MAtX w A g bs) : g < w.heap.size := by
  obtain ⟨p, e1, _⟩ := h
  exact (Array.getElem?_eq_some_iff.1 e1).1
theorem MAtX.ext {w w' : World} {A : Nat → Prop} {g : Nat} {bs : List (List Nat)} (h : MAtX w A g bs) (he : Below w.heap.size w w') : MAtX w' A g bs := by
  obtain ⟨p, e1, e2⟩ := h
  exact ⟨p, Below.heap he (Array.getElem?_eq_some_iff.1 e1).1 e1, e2.ext he⟩
/-- Another message, or other memory, was written. -/
theorem MAtX.beside {w w' : World} {A : Nat → Prop} {g : Nat} {bs : List (List Nat)} (h : MAtX w A g bs) {X : Option Nat} (hg : w.grownBy w' X) (hne : X ≠ some g) (h1 : Off w X 64) (h5 : Off w X 5) : MAtX w' A g bs := by
  obtain ⟨p, e1, e2⟩ := h
  exact ⟨p, (hg.block g (Array.getElem?_eq_some_iff.1 e1).1 (fun e => hne e.symm)).trans e1, e2.off hg h1 h5⟩
/-- Bytes elsewhere were written. -/
theorem MAtX.away {w w' : World} {A : Nat → Prop} {g : Nat} {bs : List (List Nat)} (h : MAtX w A g bs) {X : Option Nat} (hg : w.grownBy w' X) (hm : Off w X 29) (h1 : Off w X 64) (hA : ∀ k, A k → some k ≠ X) : MAtX w' A g bs := by
  obtain ⟨p, e1, e2⟩ := h
  exact ⟨p, heap_off hg e1 hm, e2.away hg h1 hA⟩
theorem MAtX.mono {w : World} {A A' : Nat → Prop} {g : Nat} {bs : List (List Nat)} (h : MAtX w A g bs) (hA : ∀ k, k < w.heap.size → A k → A' k) : MAtX w A' g bs := by
  obtain ⟨p, e1, e2⟩ := h
  exact ⟨p, e1, e2.mono hA⟩
theorem MAtX.offs {w : World} {A : Nat → Prop} {g : Nat} {bs : List (List Nat)} (h : MAtX w A g bs) {e : TypeId} (hne : 29 ≠ e) : Off w (some g) e := by
  obtain ⟨p, e1, _⟩ := h
  exact off_of e1 hne
theorem MAtX.plain {w : World} {A : Nat → Prop} {g : Nat} {bs : List (List Nat)} (h : MAtX w A g bs) : MAt w g bs := h.mono (fun _ _ _ => trivial)
theorem MAt.new (w : World) {A : Nat → Prop} : MAtX (w.alloc (.cells #[.pointer none] 29)) A w.heap.size [] := ⟨_, heap_alloc_last _ _, rfl⟩
/-- Slices of bytes in a row. -/
def RsAt (w : World) (v : Value) (ls : List (List Nat)) : Prop :=
  ∃ (ao : Option Addr) (b c : Nat) (vs : List Value), v = .slice ao ls.length c ∧ vs.length = ls.length ∧ ls.length ≤ 1000000 ∧ ls.length ≤ c ∧
    (ls ≠ [] → ao = some ⟨b, 0, none⟩ ∧ b < w.heap.size ∧ ∀ i, i < ls.length → w.cell? ⟨b, i, none⟩ = some (vs.getD i undef) ∧ BsAt w (vs.getD i undef) (ls.getD i []))
theorem RsAt.ext {W w : World} {v : Value} {ls : List (List Nat)} (h : RsAt W v ls) (he : Below W.heap.size W w) : RsAt w v ls := by
  obtain ⟨ao, b, c, vs, e, hv, hl, hc, hh⟩ := h
  refine ⟨ao, b, c, vs, e, hv, hl, hc, fun hne => ?_⟩
  obtain ⟨e1, hb, hr⟩ := hh hne
  exact ⟨e1, Nat.lt_of_lt_of_le hb he.size, fun i hi => ⟨(Below.cell (p := ⟨b, i, none⟩) he hb).trans (hr i hi).1, (hr i hi).2.ext he⟩⟩
theorem flat_step (ls : List (List Nat)) (k : Nat) (h : k < ls.length) : (ls.take (k + 1)).flatten = (ls.take k).flatten ++ ls.getD k [] := by
  rw [List.take_add_one, List.flatten_append, List.getElem?_eq_getElem h, List.getD_eq_getElem?_getD, List.getElem?_eq_getElem h]
  simp
theorem flat_le (ls : List (List Nat)) (k : Nat) : (ls.take k).flatten.length ≤ ls.flatten.length := by
  conv => rhs; rw [← List.take_append_drop k ls, List.flatten_append, List.length_append]
  omega
theorem ix_rows (w : World) (b n c k : Nat) (hk : k < n) : (Instr.indexAt 62 (.slice (some ⟨b, 0, none⟩) n c) (.int .i64 (k : Int))).run Try.prog w = .ok (.pointer (some ⟨b, k, none⟩)) w := by
  have h1 : decide ((k : Int) < 0) = false := decide_eq_false (by omega)
  have h2 : ¬ ((n : Int) ≤ (k : Int)) := by omega
  go_simp
/-- What is put: nothing, if its number may not be. -/
def pbs (num : Int) (wire : Nat) (x : List Nat) : List (List Nat) := if 1 ≤ num ∧ num ≤ 100 then [vbn (8 * num.toNat + wire) ++ x] else []
set_option maxRecDepth 100000 in
set_option maxHeartbeats 2000000 in
theorem put_any {g wire : Nat} {bs : List (List Nat)} {num : Int} {pv : Value} {parts : List (List Nat)} {w : World} {A : Nat → Prop} (h : MAtX w A g bs) (hp : RsAt w pv parts) (hw : wire < 8) (hsz : parts.flatten.length ≤ 10000000) (hA : ∀ k, w.heap.size ≤ k → A k := by intros; trivial) :
    Calls Try.prog 25 #[.pointer (some ⟨g, 0, none⟩), .int .i64 num, .int .u64 (wire : Int), pv] w fun e w' => e = .returned (.tuple #[]) ∧ MAtX w' A g (bs ++ pbs num wire parts.flatten) ∧ w.grownBy w' (some g) := by
  unfold pbs
  have HAA := hide hA
  clear hA
  by_cases hnum : 1 ≤ num ∧ num ≤ 100
  · rw [if_pos hnum]
    obtain ⟨k, rfl⟩ : ∃ k : Nat, num = (k : Int) := ⟨num.toNat, by omega⟩
    have hk : 1 ≤ k ∧ k ≤ 100 := by omega
    rw [show ((k : Int)).toNat = k by omega]
    have hd0 : decide ((k : Int) < 1) = false := decide_eq_false (by omega)
    have hd1 : decide ((100 : Int) < (k : Int)) = false := decide_eq_false (by omega)
    obtain ⟨tag, htag⟩ : ∃ tag, 8 * k + wire = tag := ⟨_, rfl⟩
    rw [htag]
    have et : 8 * (k : Int) + (wire : Int) = (tag : Int) := by omega
    have HV := hide (varint_w tag w (by omega))
    obtain ⟨p, hr, hP⟩ := h
    have H0 := hide (And.intro hr (And.intro hP (And.intro hp (And.intro hsz (vbn_le tag)))))
    obtain ⟨ao, b, c, vs, rfl, hvl, hpl, hpc, hh⟩ := hp
    have HH := hide hh
    generalize vbn tag = TG at *
    clear hnum hr hP hsz hh htag hvl
    go_enter Try.func25, Try.ntmps25
    go_wp2_with fail
    refine HV.out.mono ?_
    rintro e w1 ⟨v1, rfl, o1, b1⟩
    have H1 := hide (And.intro o1 b1)
    clear o1 b1 HV
    go_wp2
    go_loopw [29, 8] (fun i f wr => ∃ j : Nat, j ≤ parts.length ∧ i = .int .i64 (j : Int) ∧ Own wr w.heap.size f (TG ++ (parts.take j).flatten) ∧ Below w.heap.size w wr) (fun i _ _ => parts.length - (intOf i).toNat)
    case atStart => exact ⟨0, Nat.zero_le _, rfl, by simpa using H1.out.1, H1.out.2⟩
    case round =>
      obtain ⟨j, hj, rfl, hO, hB⟩ := hrel
      by_cases hlt : j < parts.length
      · obtain ⟨rfl, hbb, hcs⟩ := HH.out (fun e => by subst e; simp at hlt)
        obtain ⟨hcell, hbs⟩ := hcs j hlt
        have hcr : wr.cell? ⟨b, j, none⟩ = some (vs.getD j undef) := (hB.cell (p := ⟨b, j, none⟩) hbb).trans hcell
        have hix := fun w_ => ix_rows w_ b parts.length c j hlt
        have hfl := flat_le parts (j + 1)
        rw [flat_step parts j hlt, List.length_append] at hfl
        have hnx : TG ++ (parts.take (j + 1)).flatten = (TG ++ (parts.take j).flatten) ++ parts.getD j [] := by rw [flat_step parts j hlt, List.append_assoc]
        have hbd : (TG ++ (parts.take j).flatten).length + (parts.getD j []).length ≤ 1000000000000 := by have h2 := H0.out.2.2.2; rw [List.length_append]; omega
        obtain ⟨S, hS⟩ : ∃ S, TG ++ (parts.take j).flatten = S := ⟨_, rfl⟩
        obtain ⟨PJ, hPJ⟩ : ∃ PJ, parts.getD j [] = PJ := ⟨_, rfl⟩
        rw [hS] at hO hnx hbd
        rw [hPJ] at hbs hnx hbd
        have HX := hide (And.intro hO (And.intro hB (And.intro (hbs.ext hB) (And.intro hbd hnx))))
        generalize vs.getD j undef = pj at *
        clear hO hB hbs hfl hcell hcs hbb hnx hbd hS hPJ
        go_wp2_with (at_builtin; refine wpList_append_b rfl (.tmp 33) (.tmp 34) rfl (base := w.heap.size) (l := S) (m := PJ) HX.out.1 HX.out.2.2.1 HX.out.2.2.2.1 HX.out.2.1.size ?_)
        intro v2 w2 o2 g2
        have R := hide (And.intro o2 (And.intro (below_gr HX.out.2.1 HX.out.1 (Nat.le_refl _) g2) HX.out.2.2.2.2))
        clear o2 g2 HX hcr hix
        go_wp2
        go_roundw
        case rel => exact ⟨j + 1, by omega, by go_num, by rw [R.out.2.2]; exact R.out.1, R.out.2.1⟩
        case measure => simp [intOf]; omega
      · obtain rfl : j = parts.length := by omega
        rw [List.take_of_length_le (Nat.le_refl _)] at hO
        obtain ⟨hr, hP, _⟩ := H0.out
        obtain ⟨x, rfl⟩ := hP.form
        have hgl : g < w.heap.size := (Array.getElem?_eq_some_iff.1 hr).1
        have hr2 := Below.heap hB hgl hr
        obtain ⟨x0, y0⟩ := row_reads hr2
        have hcl := x0 0
        have hfr := y0 0
        simp only [List.getElem?_toArray, List.getElem?_cons_zero] at hcl
        obtain ⟨E, hE⟩ : ∃ E, TG ++ parts.flatten = E := ⟨_, rfl⟩
        have HE := hide hE
        rw [hE] at hO
        obtain ⟨fa, fc, hf, _, _⟩ := hO.at.len
        have HX := hide (And.intro hO (And.intro hB (And.intro hr2 (And.intro (hP.ext hB) (And.intro hgl (x0 0))))))
        subst hf
        have hgr : g < wr.heap.size := Nat.lt_of_lt_of_le hgl hB.size
        have hne : g ≠ wr.heap.size := by omega
        clear hO hB hr2 hP hr hE x0 y0 H0 hj H1 HH
        go_wp2
        go_end0
        obtain ⟨hO, hB, hr2, hP, hgl, _⟩ := HX.out
        have hsz := hB.size
        have hg3 := grown_set wr g (.pointer (some ⟨wr.heap.size, 0, none⟩))
        have hb3 := alloc_below (wr.setCell ⟨g, 0, none⟩ (.pointer (some ⟨wr.heap.size, 0, none⟩))) (.cells #[.pointer x, .slice fa E.length fc] 64)
        have hl3 := heap_alloc_last (wr.setCell ⟨g, 0, none⟩ (.pointer (some ⟨wr.heap.size, 0, none⟩))) (.cells #[.pointer x, .slice fa E.length fc] 64)
        rw [show (wr.setCell ⟨g, 0, none⟩ (.pointer (some ⟨wr.heap.size, 0, none⟩))).heap.size = wr.heap.size by simp] at hl3
        refine ⟨rfl, ⟨_, Below.heap hb3 (by simp; omega) (heap_set0 hr2), ?_⟩, grown_trans (grown_trans (Ext.gr hB _) hg3) (Ext.gr hb3 _)⟩
        rw [HE.out, List.reverse_append]
        exact ⟨wr.heap.size, .pointer x, .slice fa E.length fc, rfl, hl3, ((hO.off hg3 (off_of hr2 (by decide))).ext hb3).low (Nat.zero_le _), fun k hk => HAA.out k (hO.row.lt k hk).1, (hP.off hg3 (off_of hr2 (by decide)) (off_of hr2 (by decide))).ext hb3⟩
  · rw [if_neg hnum, List.append_nil]
    have H0 := hide (And.intro h (grown_refl w (some g)))
    obtain ⟨ao, b, c, vs, rfl, _, _, _, _⟩ := hp
    by_cases h1 : num < 1
    · have hd0 : decide (num < 1) = true := decide_eq_true h1
      clear h hsz hnum hw
      go_enter Try.func25, Try.ntmps25
      go_wp2
      exact bodyPost_ret_by (v := .tuple #[]) (results_none rfl _ _ _) rfl ⟨rfl, H0.out.1, H0.out.2⟩
    · have hd0 : decide (num < 1) = false := decide_eq_false h1
      have hd1 : decide (100 < num) = true := decide_eq_true (by omega)
      clear h hsz hnum hw
      go_enter Try.func25, Try.ntmps25
      go_wp2
      exact bodyPost_ret_by (v := .tuple #[]) (results_none rfl _ _ _) rfl ⟨rfl, H0.out.1, H0.out.2⟩
end Go.Proofs.Ytogegmdimfinaaa
