/- A product and a number, and a sum, modulo the order: as the program's calls answer them, in any world where the order lies as the program's text lays it. -/
import Derived.Test.YtmaolpinppnijaaDoorOps
namespace Go.Proofs.YtmaolpinppnijaaDoor
open Go.RowKit
theorem low_32 (bs : List Nat) (h : ∀ i, bs.getD i 0 < 256) (hl : bs.length = 32) (W : World) :
    Calls Tryd.prog 22 #[.agg (el8 (bval bs))] W fun e w' => e = .returned (.agg (el (bval bs))) ∧ Below W.heap.size W w' := by
  have := low_any (bval bs) (bval_64 h (by omega)) W
  rwa [Nat.mod_eq_of_lt (bval_32 h hl)] at this
set_option maxRecDepth 100000 in
set_option maxHeartbeats 2000000 in
theorem mulAdd_ret (u v t : Value) (xs bs cs : List Nat) (w : World) (h1 : BsAt w u xs) (h2 : BsAt w v bs) (h3 : BsAt w t cs) (hL : Laid w) (l1 : xs.length = 32) (l2 : bs.length = 32) (l3 : cs.length = 32) :
    Calls Tryd.prog 15 #[u, v, t] w (Bret w (bys ((bval xs * bval bs + bval cs) % ll) 32)) := by
  have HF1 : Hid (∀ W, BsAt W u xs → _) := fun W => from_any u xs (by omega) W
  have HF2 : Hid (∀ W, BsAt W v bs → _) := fun W => from_any v bs (by omega) W
  have HF3 : Hid (∀ W, BsAt W t cs → _) := fun W => from_any t cs (by omega) W
  have HL1 := hide (low_32 xs h1.lim l1)
  have HL2 := hide (low_32 bs h2.lim l2)
  have HL3 := hide (low_32 cs h3.lim l3)
  have HM := hide (multiply_any (bval xs) (bval bs) (bval cs) (bval_32 h1.lim l1) (bval_32 h2.lim l2) (bval_32 h3.lim l3))
  have HR : Hid (∀ W : World, Laid W → _) := rem_any (bval xs * bval bs + bval cs) (mad_big (bval_32 h1.lim l1) (bval_32 h2.lim l2) (bval_32 h3.lim l3))
  have HY := hide (bytes_ret ((bval xs * bval bs + bval cs) % ll) (lt_big (ll_mod _)))
  have LD := hide hL
  have A1 := hide h1
  have A2 := hide h2
  have A3 := hide h3
  obtain ⟨a1, c1, rfl, _, m1⟩ := h1.len
  obtain ⟨a2, c2, rfl, _, m2⟩ := h2.len
  obtain ⟨a3, c3, rfl, _, m3⟩ := h3.len
  rw [l1] at HF1 A1 ⊢
  rw [l2] at HF2 A2 ⊢
  rw [l3] at HF3 A3 ⊢
  generalize el8 (bval xs) = P1 at *
  generalize el8 (bval bs) = P2 at *
  generalize el8 (bval cs) = P3 at *
  generalize el (bval xs) = Q1 at *
  generalize el (bval bs) = Q2 at *
  generalize el (bval cs) = Q3 at *
  generalize el ((bval xs * bval bs + bval cs) % ll) = E at *
  generalize bys ((bval xs * bval bs + bval cs) % ll) 32 = Y at *
  obtain ⟨x0, x1, x2, x3, x4, x5, x6, x7, hx⟩ : ∃ x0 x1 x2 x3 x4 x5 x6 x7 : Nat, el8 (bval xs * bval bs + bval cs) = #[.int .u64 (x0 : Int), .int .u64 (x1 : Int), .int .u64 (x2 : Int), .int .u64 (x3 : Int), .int .u64 (x4 : Int), .int .u64 (x5 : Int), .int .u64 (x6 : Int), .int .u64 (x7 : Int)] := ⟨_, _, _, _, _, _, _, _, rfl⟩
  rw [hx] at HM HR
  clear hL h1 h2 h3 l1 l2 l3 hx
  go_enter Tryd.func15, Tryd.ntmps15
  go_wp2_with fail
  refine (HF1.out _ A1.out).mono ?_
  rintro e w1 ⟨rfl, b1⟩
  go_wp2_with fail
  refine (HL1.out _).mono ?_
  rintro e w2 ⟨rfl, b2⟩
  have K2 := hide (Below.chain b1 b2)
  clear b1 b2
  go_wp2_with fail
  refine (HF2.out _ (A2.out.ext K2.out)).mono ?_
  rintro e w3 ⟨rfl, b3⟩
  go_wp2_with fail
  refine (HL2.out _).mono ?_
  rintro e w4 ⟨rfl, b4⟩
  have K4 := hide (Below.chain (Below.chain K2.out b3) b4)
  clear b3 b4 K2
  go_wp2_with fail
  refine (HF3.out _ (A3.out.ext K4.out)).mono ?_
  rintro e w5 ⟨rfl, b5⟩
  go_wp2_with fail
  refine (HL3.out _).mono ?_
  rintro e w6 ⟨rfl, b6⟩
  have K6 := hide (Below.chain (Below.chain K4.out b5) b6)
  clear b5 b6 K4
  go_wp2_with fail
  refine (HM.out _).mono ?_
  rintro e w7 ⟨rfl, b7⟩
  have K7 := hide (Below.chain K6.out b7)
  clear b7 K6
  go_wp2_with fail
  refine (HR.out _ ((LD.out.step K7.out).step ((Below.refl _ _).alloc (Nat.le_refl _) _))).mono ?_
  rintro e w8 ⟨rfl, b8⟩
  have K8 := hide (Below.chain (K7.out.alloc K7.out.size _) b8)
  clear b8 K7
  go_wp2_with fail
  refine (HY.out _).mono ?_
  rintro e w9 ⟨u, rfl, hu, b9⟩
  have K9 := hide (Below.chain K8.out b9)
  have HU := hide hu
  clear b9 K8 hu
  go_wp2
  go_ret
  exact ⟨_, rfl, HU.out, K9.out⟩
set_option maxHeartbeats 1000000 in
theorem mulAdd_other (u v t : Value) (xs bs cs : List Nat) (w : World) (h1 : BsAt w u xs) (h2 : BsAt w v bs) (h3 : BsAt w t cs) (hne : ¬ (xs.length = 32 ∧ bs.length = 32 ∧ cs.length = 32)) :
    Calls Tryd.prog 15 #[u, v, t] w fun e w' => e = .returned (.slice none 0 0) ∧ Below w.heap.size w w' := by
  obtain ⟨a1, c1, rfl, _, m1⟩ := h1.len
  obtain ⟨a2, c2, rfl, _, m2⟩ := h2.len
  obtain ⟨a3, c3, rfl, _, m3⟩ := h3.len
  clear h1 h2 h3
  by_cases l1 : xs.length = 32
  · by_cases l2 : bs.length = 32
    · have d1 : ((xs.length : Int) == 32) = true := by rw [beq_iff_eq]; omega
      have d2 : ((bs.length : Int) == 32) = true := by rw [beq_iff_eq]; omega
      have d3 : ((cs.length : Int) == 32) = false := by rw [beq_eq_false_iff_ne]; omega
      clear l1 l2 hne
      go_enter Tryd.func15, Tryd.ntmps15
      go_wp2
      all_goals (go_ret; exact ⟨rfl, Below.refl _ _⟩)
    · have d1 : ((xs.length : Int) == 32) = true := by rw [beq_iff_eq]; omega
      have d2 : ((bs.length : Int) == 32) = false := by rw [beq_eq_false_iff_ne]; omega
      clear l1 l2 hne
      go_enter Tryd.func15, Tryd.ntmps15
      go_wp2
      all_goals (go_ret; exact ⟨rfl, Below.refl _ _⟩)
  · have d1 : ((xs.length : Int) == 32) = false := by rw [beq_eq_false_iff_ne]; omega
    clear l1 hne
    go_enter Tryd.func15, Tryd.ntmps15
    go_wp2
    all_goals (go_ret; exact ⟨rfl, Below.refl _ _⟩)
theorem one_el : #[.int .u64 1, .int .u64 0, .int .u64 0, .int .u64 0] = el 1 := rfl
theorem one_val : bval (bys 1 32) = 1 := bys_val 1 (by decide)
set_option maxRecDepth 100000 in
set_option maxHeartbeats 2000000 in
theorem add_ret (u v : Value) (xs bs : List Nat) (w : World) (h1 : BsAt w u xs) (h2 : BsAt w v bs) (hL : Laid w) (l1 : xs.length = 32) (l2 : bs.length = 32) :
    Calls Tryd.prog 13 #[u, v] w (Bret w (bys ((bval xs + bval bs) % ll) 32)) := by
  have HY : Hid (∀ W : World, Calls Tryd.prog 25 #[.agg #[.int .u64 1, .int .u64 0, .int .u64 0, .int .u64 0]] W (Bret W (bys 1 32))) := fun W => bytes_ret 1 (by decide) W
  have HM : Hid (∀ W t, BsAt W u xs → BsAt W t (bys 1 32) → BsAt W v bs → Laid W → Calls Tryd.prog 15 #[u, t, v] W (Bret W (bys ((bval xs + bval bs) % ll) 32))) := fun W t g1 g2 g3 g4 => by
    have := mulAdd_ret u t v xs (bys 1 32) bs W g1 g2 g3 g4 l1 (bys_len 1 32) l2
    rwa [one_val, Nat.mul_one] at this
  have LD := hide hL
  have A1 := hide h1
  have A2 := hide h2
  generalize bys ((bval xs + bval bs) % ll) 32 = Y at *
  generalize bys 1 32 = O at *
  clear hL h1 h2 l1 l2
  go_enter Tryd.func13, Tryd.ntmps13
  go_wp2_with fail
  refine (HY.out _).mono ?_
  rintro e w1 ⟨o, rfl, ho, b1⟩
  have K1 := hide (Below.chain ((Below.refl _ _).alloc (Nat.le_refl _) _) b1)
  have HO := hide ho
  clear b1 ho
  go_wp2_with fail
  refine (HM.out _ _ (A1.out.ext K1.out) HO.out (A2.out.ext K1.out) (LD.out.step K1.out)).mono ?_
  rintro e w2 ⟨y, rfl, hy, b2⟩
  have K2 := hide (Below.chain K1.out b2)
  have HU := hide hy
  clear b2 hy
  go_wp2
  go_ret
  exact ⟨_, rfl, HU.out, K2.out⟩
set_option maxRecDepth 100000 in
set_option maxHeartbeats 2000000 in
theorem add_other (u v : Value) (xs bs : List Nat) (w : World) (h1 : BsAt w u xs) (h2 : BsAt w v bs) (hne : ¬ (xs.length = 32 ∧ bs.length = 32)) :
    Calls Tryd.prog 13 #[u, v] w fun e w' => e = .returned (.slice none 0 0) ∧ Below w.heap.size w w' := by
  have HY : Hid (∀ W : World, Calls Tryd.prog 25 #[.agg #[.int .u64 1, .int .u64 0, .int .u64 0, .int .u64 0]] W (Bret W (bys 1 32))) := fun W => bytes_ret 1 (by decide) W
  have HM : Hid (∀ W t, BsAt W u xs → BsAt W t (bys 1 32) → BsAt W v bs → Calls Tryd.prog 15 #[u, t, v] W fun e w' => e = .returned (.slice none 0 0) ∧ Below W.heap.size W w') := fun W t g1 g2 g3 =>
    mulAdd_other u t v xs (bys 1 32) bs W g1 g2 g3 (fun h => hne ⟨h.1, h.2.2⟩)
  have A1 := hide h1
  have A2 := hide h2
  generalize bys 1 32 = O at *
  clear h1 h2 hne
  go_enter Tryd.func13, Tryd.ntmps13
  go_wp2_with fail
  refine (HY.out _).mono ?_
  rintro e w1 ⟨o, rfl, ho, b1⟩
  have K1 := hide (Below.chain ((Below.refl _ _).alloc (Nat.le_refl _) _) b1)
  have HO := hide ho
  clear b1 ho
  go_wp2_with fail
  refine (HM.out _ _ (A1.out.ext K1.out) HO.out (A2.out.ext K1.out)).mono ?_
  rintro e w2 ⟨rfl, b2⟩
  have K2 := hide (Below.chain K1.out b2)
  clear b2
  go_wp2
  go_ret
  exact ⟨rfl, K2.out⟩
end Go.Proofs.YtmaolpinppnijaaDoor
