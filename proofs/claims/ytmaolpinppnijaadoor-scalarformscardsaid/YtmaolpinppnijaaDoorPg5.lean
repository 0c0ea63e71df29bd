/- The page's sum, and all of the page's and the program's calls beside one another, whatever the lengths. -/
import Derived.Test.YtmaolpinppnijaaDoorPg4
namespace Go.Proofs.YtmaolpinppnijaaDoor
open Go.RowKit
set_option maxHeartbeats 1000000 in
theorem mulAdd_ref_other (u v t : Value) (xs bs cs : List Nat) (w : World) (h1 : BsAt w u xs) (h2 : BsAt w v bs) (h3 : BsAt w t cs) (hne : ¬ (xs.length = 32 ∧ bs.length = 32 ∧ cs.length = 32)) :
    Calls Tryd.prog 16 #[u, v, t] w fun e w' => e = .returned (.slice none 0 0) ∧ Below w.heap.size w w' := by
  obtain ⟨a1, c1, rfl, _, m1⟩ := h1.len
  obtain ⟨a2, c2, rfl, _, m2⟩ := h2.len
  obtain ⟨a3, c3, rfl, _, m3⟩ := h3.len
  clear h1 h2 h3
  by_cases l1 : xs.length = 32
  · by_cases l2 : bs.length = 32
    · have d1 : ((xs.length : Int) == 32) = true := by rw [beq_iff_eq]; omega
      have d2 : ((bs.length : Int) == 32) = true := by rw [beq_iff_eq]; omega
      have d3 : ((cs.length : Int) == 32) = false := by rw [beq_eq_false_iff_ne]; omega
      clear l1 l2 hne
      go_enter Tryd.func16, Tryd.ntmps16
      go_wp2
      all_goals (go_ret; exact ⟨rfl, Below.refl _ _⟩)
    · have d1 : ((xs.length : Int) == 32) = true := by rw [beq_iff_eq]; omega
      have d2 : ((bs.length : Int) == 32) = false := by rw [beq_eq_false_iff_ne]; omega
      clear l1 l2 hne
      go_enter Tryd.func16, Tryd.ntmps16
      go_wp2
      all_goals (go_ret; exact ⟨rfl, Below.refl _ _⟩)
  · have d1 : ((xs.length : Int) == 32) = false := by rw [beq_eq_false_iff_ne]; omega
    clear l1 hne
    go_enter Tryd.func16, Tryd.ntmps16
    go_wp2
    all_goals (go_ret; exact ⟨rfl, Below.refl _ _⟩)
/-- What each call answers. -/
def redb (l : List Nat) : List Nat := if l.length ≤ 64 then bys (bval l % ll) 32 else []
def madb (a b c : List Nat) : List Nat := if a.length = 32 ∧ b.length = 32 ∧ c.length = 32 then bys ((bval a * bval b + bval c) % ll) 32 else []
def addb (a b : List Nat) : List Nat := if a.length = 32 ∧ b.length = 32 then bys ((bval a + bval b) % ll) 32 else []
def clb (l : List Nat) : List Nat := if l.length = 32 then clampb l else []
def mayb (l : List Nat) : Bool := decide (l.length = 32 ∧ bval l < ll)
section
variable {u v t : Value} {a b c : List Nat} {w : World}
theorem hands_nil {f : FuncId} {vals : Array Value} (h : Calls Tryd.prog f vals w fun e w' => e = .returned (.slice none 0 0) ∧ Below w.heap.size w w') : Hands Tryd.prog f vals w (isb []) := h.mono fun _ _ ⟨he, h2⟩ => ⟨_, he, h2, nil_at _⟩
theorem hands_ret {f : FuncId} {vals : Array Value} {l : List Nat} (h : Calls Tryd.prog f vals w (Bret w l)) : Hands Tryd.prog f vals w (isb l) := h.mono fun _ _ ⟨v, he, h1, h2⟩ => ⟨v, he, h2, h1⟩
theorem f_red (h : BsAt w u a) (hL : Laid w) : Hands Tryd.prog 11 #[u] w (isb (redb a)) := by
  unfold redb
  split
  · rename_i hl; exact hands_ret (reduce_ret u a w h hL hl)
  · rename_i hl; exact hands_nil (reduce_long u a w h (by omega))
theorem f_red' (h : BsAt w u a) : Hands Tryd.prog 12 #[u] w (isb (redb a)) := by
  unfold redb
  split
  · rename_i hl; exact hands_ret (reduce_ref u a w h hl)
  · rename_i hl; exact hands_nil (reduce_ref_long u a w h (by omega))
theorem f_mad (h1 : BsAt w u a) (h2 : BsAt w v b) (h3 : BsAt w t c) (hL : Laid w) : Hands Tryd.prog 15 #[u, v, t] w (isb (madb a b c)) := by
  unfold madb
  split
  · rename_i hl; exact hands_ret (mulAdd_ret u v t a b c w h1 h2 h3 hL hl.1 hl.2.1 hl.2.2)
  · rename_i hl; exact hands_nil (mulAdd_other u v t a b c w h1 h2 h3 hl)
theorem f_mad' (h1 : BsAt w u a) (h2 : BsAt w v b) (h3 : BsAt w t c) : Hands Tryd.prog 16 #[u, v, t] w (isb (madb a b c)) := by
  unfold madb
  split
  · rename_i hl; exact hands_ret (mulAdd_ref u v t a b c w h1 h2 h3 hl.1 hl.2.1 hl.2.2)
  · rename_i hl; exact hands_nil (mulAdd_ref_other u v t a b c w h1 h2 h3 hl)
theorem f_add (h1 : BsAt w u a) (h2 : BsAt w v b) (hL : Laid w) : Hands Tryd.prog 13 #[u, v] w (isb (addb a b)) := by
  unfold addb
  split
  · rename_i hl; exact hands_ret (add_ret u v a b w h1 h2 hL hl.1 hl.2)
  · rename_i hl; exact hands_nil (add_other u v a b w h1 h2 hl)
theorem f_clamp (h : BsAt w u a) : Hands Tryd.prog 17 #[u] w (isb (clb a)) := by
  unfold clb
  split
  · rename_i hl; exact hands_ret (clamp_32 u a w h hl)
  · rename_i hl; exact hands_nil (clamp_other u a w h hl)
theorem f_clamp' (h : BsAt w u a) : Hands Tryd.prog 18 #[u] w (isb (clb a)) := by
  unfold clb
  split
  · rename_i hl; exact hands_ret (clamp_ref u a w h hl)
  · rename_i hl; exact hands_nil (clamp_ref_other u a w h hl)
theorem f_may (h : BsAt w u a) (hL : Laid w) : Hands Tryd.prog 9 #[u] w (isv (.bool (mayb a))) := by
  by_cases hl : a.length = 32
  · exact (may_32 u a w h hL hl).mono fun e w' ⟨he, hb⟩ => ⟨_, he, hb, by unfold mayb; simp only [hl, true_and]; rfl⟩
  · exact (may_other u a w h hl).mono fun e w' ⟨he, hb⟩ => ⟨_, he, hb, by unfold mayb; simp only [hl, false_and, decide_false]; rfl⟩
theorem f_may' (h : BsAt w u a) : Hands Tryd.prog 10 #[u] w (isv (.bool (mayb a))) := by
  by_cases hl : a.length = 32
  · exact (may_ref u a w h hl).mono fun e w' ⟨he, hb⟩ => ⟨_, he, hb, by unfold mayb; simp only [hl, true_and]; rfl⟩
  · exact (may_ref_other u a w h hl).mono fun e w' ⟨he, hb⟩ => ⟨_, he, hb, by unfold mayb; simp only [hl, false_and, decide_false]; rfl⟩
end
def one32 : List Nat := (zz 32).set 0 1
theorem one32_len : one32.length = 32 := by decide
theorem one32_val : bval one32 = 1 := by decide
theorem mad_one (a b : List Nat) : madb a one32 b = addb a b := by
  unfold madb addb
  simp only [one32_len, true_and, one32_val, Nat.mul_one]
set_option maxRecDepth 100000 in
set_option maxHeartbeats 1000000 in
theorem add_ref {u v : Value} {a b : List Nat} {w : World} (h1 : BsAt w u a) (h2 : BsAt w v b) : Hands Tryd.prog 14 #[u, v] w (isb (addb a b)) := by
  have H1 := hide h1
  have H2 := hide h2
  have HM : Hid (∀ W o, BsAt W u a → BsAt W o one32 → BsAt W v b → Hands Tryd.prog 16 #[u, o, v] W (isb (addb a b))) := fun W o g1 g2 g3 => by
    have := f_mad' g1 g2 g3
    rwa [mad_one] at this
  have hmk := make32
  have hz0 : ba (List.replicate 32 0) = ba (zz 32) := rfl
  rw [hz0] at hmk
  have OW : Hid (Own (w.alloc (.cells (ba (zz 32)) 5)) w.heap.size (.slice (some ⟨w.heap.size, 0, none⟩) 32 32) (zz 32)) := own_lit (zz 32) (zeros_lim 32) (by decide)
  have B0 := hide ((Below.refl w.heap.size w).alloc (Nat.le_refl _) (.cells (ba (zz 32)) 5))
  have f0 := OW.out.row.frozenAt 0
  have c0 : (w.alloc (.cells (ba (zz 32)) 5)).cell? ⟨w.heap.size, 0, none⟩ = some (.int .u8 0) := by rw [OW.out.row.cellAt 0 (by decide)]; rfl
  generalize addb a b = AB at *
  generalize ba (zz 32) = ZB at *
  obtain ⟨W1, hW1⟩ : ∃ W, w.alloc (.cells ZB 5) = W := ⟨_, rfl⟩
  have hmk2 : (Instr.makeSlice 22 (.int .i64 32) (.int .i64 32)).run Tryd.prog w = .ok (.slice (some ⟨w.heap.size, 0, none⟩) 32 32) W1 := by rw [hmk, hW1]
  rw [hW1] at OW B0 f0 c0
  clear hmk hz0 h1 h2 hW1
  unfold Hands
  go_enter Tryd.func14, Tryd.ntmps14
  go_wp2_with fail
  have B1 := hide (B0.out.setCell (p := ⟨w.heap.size, 0, none⟩) (Nat.le_refl _) (.int .u8 (1 : Int)))
  refine (HM.out _ _ (H1.out.ext B1.out) (OW.out.set 0 1 (by decide)).at (H2.out.ext B1.out)).mono ?_
  rintro e w2 ⟨y, rfl, x2, hy⟩
  have HY := hide hy
  have B2 := hide (Below.chain B1.out x2)
  clear hy x2
  go_wp2
  go_ret
  exact ⟨_, rfl, B2.out, HY.out⟩
end Go.Proofs.YtmaolpinppnijaaDoor
