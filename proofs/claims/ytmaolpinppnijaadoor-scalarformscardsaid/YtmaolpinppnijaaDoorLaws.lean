/- Sums and products in any order are the same; one over the other; what is told is below the order: the law ScalarLaws answers true for all bytes of at most 100, in any world where the order lies as the program's text lays it. -/
import Derived.Test.YtmaolpinppnijaaDoorClamps
namespace Go.Proofs.YtmaolpinppnijaaDoor
open Go.RowKit
theorem bv_mod (n : Nat) : bval (bys (n % ll) 32) = n % ll := bys_val _ (lt_big (ll_mod _))
theorem cg {m n : Nat} (h : m = n) : bys m 32 = bys n 32 := by rw [h]
theorem may_mod (n : Nat) : (bys (n % ll) 32).length = 32 ∧ bval (bys (n % ll) 32) < ll := ⟨bys_len _ _, by rw [bv_mod]; exact ll_mod _⟩
theorem zero_zz : bval (zz 32) = 0 := by decide
theorem one_full : bval (fullb [1]) = 1 := by decide
theorem hands_full {v : Value} {l : List Nat} {w : World} (h : BsAt w v l) (hl : l.length ≤ 100) : Hands Tryd.prog 19 #[v] w (isb (fullb l)) := (full_any v l w h hl).mono fun _ _ ⟨v, he, h1, h2⟩ => ⟨v, he, h2, h1⟩
theorem hands_add {u v : Value} {l m : List Nat} {w : World} {x y : Nat} (h1 : BsAt w u l) (h2 : BsAt w v m) (hL : Laid w) (l1 : l.length = 32) (l2 : m.length = 32) (hx : bval l = x) (hy : bval m = y) : Hands Tryd.prog 13 #[u, v] w (isb (bys ((x + y) % ll) 32)) := by
  subst hx hy
  exact (add_ret u v l m w h1 h2 hL l1 l2).mono fun _ _ ⟨v, he, h1, h2⟩ => ⟨v, he, h2, h1⟩
theorem hands_mad {u v t : Value} {l m n : List Nat} {w : World} {x y z : Nat} (h1 : BsAt w u l) (h2 : BsAt w v m) (h3 : BsAt w t n) (hL : Laid w) (l1 : l.length = 32) (l2 : m.length = 32) (l3 : n.length = 32) (hx : bval l = x) (hy : bval m = y) (hz : bval n = z) : Hands Tryd.prog 15 #[u, v, t] w (isb (bys ((x * y + z) % ll) 32)) := by
  subst hx hy hz
  exact (mulAdd_ret u v t l m n w h1 h2 h3 hL l1 l2 l3).mono fun _ _ ⟨v, he, h1, h2⟩ => ⟨v, he, h2, h1⟩
theorem hands_red {v : Value} {l : List Nat} {w : World} {x : Nat} (h : BsAt w v l) (hL : Laid w) (hl : l.length = 32) (hx : bval l = x) : Hands Tryd.prog 11 #[v] w (isb (bys (x % ll) 32)) := by
  subst hx
  exact (reduce_ret v l w h hL (by omega)).mono fun _ _ ⟨v, he, h1, h2⟩ => ⟨v, he, h2, h1⟩
theorem add_as (x y z : Nat) : ((x + y) % ll + z) % ll = (x + (y + z) % ll) % ll := by rw [Nat.mod_add_mod, Nat.add_mod_mod, Nat.add_assoc]
theorem mul_one_ (x : Nat) : (x * 1 + 0) % ll = x % ll := by rw [Nat.mul_one, Nat.add_zero]
theorem distr (x y z : Nat) : (x * ((y + z) % ll) + 0) % ll = ((x * y + 0) % ll + (x * z + 0) % ll) % ll := by
  rw [Nat.add_zero, Nat.add_zero, Nat.add_zero, ← Nat.add_mod, ← Nat.mul_add, Nat.mul_mod, Nat.mod_mod, ← Nat.mul_mod]
theorem mul_as (x y z : Nat) : ((x * y + 0) % ll * z + 0) % ll = (x * ((y * z + 0) % ll) + 0) % ll := by
  rw [Nat.add_zero, Nat.add_zero, Nat.add_zero, Nat.add_zero, Nat.mul_mod, Nat.mod_mod, ← Nat.mul_mod, Nat.mul_mod x (y * z % ll), Nat.mod_mod, ← Nat.mul_mod, Nat.mul_assoc]
set_option linter.unusedSimpArgs false in
set_option maxRecDepth 100000 in
set_option maxHeartbeats 8000000 in
theorem laws_100 (a b c : Value) (A1 A2 A3 : List Nat) (w : World) (LD0 : Laid w) (b1 : BsAt w a A1) (b2 : BsAt w b A2) (b3 : BsAt w c A3) (g1 : A1.length ≤ 100) (g2 : A2.length ≤ 100) (g3 : A3.length ≤ 100) :
    Calls Tryd.prog 4 #[a, b, c] w fun e w' => e = .returned (.bool true) ∧ Below w.heap.size w w' := by
  have H1 := hide b1
  have H2 := hide b2
  have H3 := hide b3
  have h1 := hide g1
  have h2 := hide g2
  have h3 := hide g3
  have LD := hide LD0
  have BB := hide (Below.refl w.heap.size w)
  obtain ⟨a1, c1, rfl, _, m1⟩ := b1.len
  obtain ⟨a2, c2, rfl, _, m2⟩ := b2.len
  obtain ⟨a3, c3, rfl, _, m3⟩ := b3.len
  have d1 : decide ((100 : Int) < (A1.length : Int)) = false := decide_eq_false (by omega)
  have d2 : decide ((100 : Int) < (A2.length : Int)) = false := decide_eq_false (by omega)
  have d3 : decide ((100 : Int) < (A3.length : Int)) = false := decide_eq_false (by omega)
  obtain ⟨X, hX⟩ : ∃ n, bval (fullb A1) = n := ⟨_, rfl⟩
  obtain ⟨Y, hY⟩ : ∃ n, bval (fullb A2) = n := ⟨_, rfl⟩
  obtain ⟨Z, hZ⟩ : ∃ n, bval (fullb A3) = n := ⟨_, rfl⟩
  clear b1 b2 b3 g1 g2 g3 LD0
  go_enter Tryd.func4, Tryd.ntmps4
  go_wp2_with fail
  refine (hands_full H1.out h1.out).mono ?_
  rintro e w1 ⟨u1, rfl, X1, k1⟩
  replace H1 := hide (H1.out.ext X1)
  replace H2 := hide (H2.out.ext X1)
  replace H3 := hide (H3.out.ext X1)
  replace LD := hide (LD.out.step X1)
  replace BB := hide (Below.chain BB.out X1)
  have FX : Hid (BsAt w1 u1 (fullb A1)) := k1
  clear X1 k1
  clear H1
  go_wp2_with fail
  refine (hands_full H2.out h2.out).mono ?_
  rintro e w2 ⟨u2, rfl, X1, k1⟩
  replace H2 := hide (H2.out.ext X1)
  replace H3 := hide (H3.out.ext X1)
  replace LD := hide (LD.out.step X1)
  replace BB := hide (Below.chain BB.out X1)
  replace FX := hide (FX.out.ext X1)
  have FY : Hid (BsAt w2 u2 (fullb A2)) := k1
  clear X1 k1
  clear H2
  go_wp2_with fail
  refine (hands_full H3.out h3.out).mono ?_
  rintro e w3 ⟨u3, rfl, X1, k1⟩
  replace H3 := hide (H3.out.ext X1)
  replace LD := hide (LD.out.step X1)
  replace BB := hide (Below.chain BB.out X1)
  replace FX := hide (FX.out.ext X1)
  replace FY := hide (FY.out.ext X1)
  have FZ : Hid (BsAt w3 u3 (fullb A3)) := k1
  clear X1 k1
  clear H3
  go_wp2_with fail
  refine wp_region_typed (tys := fun n => List.getD [isb (zz 32), isb ([1]), isb (fullb ([1]))] n anyv) (pre := [])
    (plan := [([], 0), ([], 1), ([(37, 1)], 2), ([(36, 0)], 0), ([(38, 2)], 2)])
    (by kernel_rfl) 136 (by kernel_rfl) rfl trivial
      (OkL.cons (fun a w X h => g_new (l := zz 32) (wanted_none rfl) (zeros_lim 32) (by decide) (by kernel_rfl))
      (OkL.cons (fun a w X h => g_new (l := [1]) (wanted_none rfl) (lim_all rfl) (by decide) (by kernel_rfl))
      (OkL.cons (fun a w X h => g_call1 (wanted_none rfl) (by kernel_rfl) rfl (hands_full h.1 (by decide)))
      (OkL.cons (fun a w X h => g_move (wanted_none rfl) (.inr rfl) h.1)
      (OkL.cons (fun a w X h => g_move (wanted_none rfl) (.inr rfl) h.1)
      OkL.nil))))) ?_
  rintro w4 X4 v36 - v37 - v38 - v10 k10 v11 k11
  refine FinL.done ?_
  simp only [Act.put, List.setIfInBounds_toArray, List.set_cons_zero, List.set_cons_succ]
  replace LD := hide (LD.out.step X4)
  replace BB := hide (Below.chain BB.out X4)
  replace FX := hide (FX.out.ext X4)
  replace FY := hide (FY.out.ext X4)
  replace FZ := hide (FZ.out.ext X4)
  have FO : Hid (BsAt w4 v10 (zz 32)) := k10
  have FE : Hid (BsAt w4 v11 (fullb [1])) := k11
  clear X4 k10 k11
  go_wp2_with fail
  refine (hands_add FX.out FY.out LD.out (fullb_len _) (fullb_len _) hX hY).mono ?_
  rintro e w5 ⟨v12, rfl, X5, k5⟩
  replace LD := hide (LD.out.step X5)
  replace BB := hide (Below.chain BB.out X5)
  replace FX := hide (FX.out.ext X5)
  replace FY := hide (FY.out.ext X5)
  replace FZ := hide (FZ.out.ext X5)
  replace FO := hide (FO.out.ext X5)
  replace FE := hide (FE.out.ext X5)
  have FS : Hid (BsAt w5 v12 (bys ((X + Y) % ll) 32)) := k5
  clear X5 k5
  go_wp2_with fail
  refine (hands_mad FX.out FY.out FZ.out LD.out (fullb_len _) (fullb_len _) (fullb_len _) hX hY hZ).mono ?_
  rintro e w6 ⟨v13, rfl, X6, k6⟩
  replace LD := hide (LD.out.step X6)
  replace BB := hide (Below.chain BB.out X6)
  replace FX := hide (FX.out.ext X6)
  replace FY := hide (FY.out.ext X6)
  replace FZ := hide (FZ.out.ext X6)
  replace FO := hide (FO.out.ext X6)
  replace FE := hide (FE.out.ext X6)
  replace FS := hide (FS.out.ext X6)
  have FP : Hid (BsAt w6 v13 (bys ((X * Y + Z) % ll) 32)) := k6
  clear X6 k6
  go_wp2_with fail
  refine wp_region_typed (tys := fun n => List.getD [isb (bys ((X + Y) % ll) 32), isv (.bool true), isv (.bool false), isb (bys ((X * Y + Z) % ll) 32), isv (.string (sob (bys ((X + Y) % ll) 32))), isb (fullb A2), isb (fullb A1), isb (bys ((Y + X) % ll) 32), isv (.string (sob (bys ((Y + X) % ll) 32))), isv (.string (sob (bys ((X * Y + Z) % ll) 32))), isb (fullb A3), isb (bys ((Y * X + Z) % ll) 32), isv (.string (sob (bys ((Y * X + Z) % ll) 32))), isb (bys ((((X + Y) % ll) + Z) % ll) 32), isv (.string (sob (bys ((((X + Y) % ll) + Z) % ll) 32))), isb (bys ((Y + Z) % ll) 32), isb (bys ((X + ((Y + Z) % ll)) % ll) 32), isv (.string (sob (bys ((X + ((Y + Z) % ll)) % ll) 32)))] n anyv) (pre := [(7, 6), (8, 5), (9, 10), (12, 0), (13, 3)])
    (plan := [([(12, 0)], 0), ([(46, 0)], 1), ([(47, 1)], 2), ([(48, 2)], 2), ([(49, 2), (13, 3)], 3), ([(49, 2), (50, 3)], 1), ([(49, 2), (51, 1)], 2), ([(49, 2), (52, 2)], 2), ([(53, 2)], 2), ([(54, 2), (12, 0)], 0), ([(54, 2), (55, 0)], 4), ([(54, 2), (8, 5)], 5), ([(54, 2), (7, 6)], 6), ([(54, 2), (57, 5), (58, 6)], 7), ([(54, 2), (59, 7)], 8), ([(54, 2), (56, 4), (60, 8)], 2), ([(54, 2), (61, 2)], 2), ([(62, 2)], 2), ([(63, 2), (13, 3)], 3), ([(63, 2), (64, 3)], 9), ([(63, 2), (8, 5)], 5), ([(63, 2), (7, 6)], 6), ([(63, 2), (9, 10)], 10), ([(63, 2), (66, 5), (67, 6), (68, 10)], 11), ([(63, 2), (69, 11)], 12), ([(63, 2), (65, 9), (70, 12)], 2), ([(63, 2), (71, 2)], 2), ([(72, 2)], 2), ([(73, 2), (12, 0)], 0), ([(73, 2), (9, 10)], 10), ([(73, 2), (74, 0), (75, 10)], 13), ([(73, 2), (76, 13)], 14), ([(73, 2), (7, 6)], 6), ([(73, 2), (8, 5)], 5), ([(73, 2), (9, 10)], 10), ([(73, 2), (79, 5), (80, 10)], 15), ([(73, 2), (78, 6), (81, 15)], 16), ([(73, 2), (82, 16)], 17), ([(73, 2), (77, 14), (83, 17)], 2), ([(73, 2), (84, 2)], 2)])
    (by kernel_rfl) 136 (by kernel_rfl) rfl ⟨FX.out, ⟨FY.out, ⟨FZ.out, ⟨FS.out, ⟨FP.out, trivial⟩⟩⟩⟩⟩
      (OkL.cons (fun a w X h => g_move (wanted_none rfl) (.inl rfl) h.1)
      (OkL.cons (fun a w X h => g_call1 (wanted_none rfl) (by kernel_rfl) rfl (hands_may h.1 (LD.out.step X) (may_mod _)))
      (OkL.cons (fun a w X h => g_not (wanted_none rfl) rfl h.1 rfl)
      (OkL.cons (fun a w X h => g_move (wanted_none rfl) (.inl rfl) h.1)
      (OkL.cons (fun a w X h => g_move (wanted_some rfl rfl h.1) (.inl rfl) h.2.1)
      (OkL.cons (fun a w X h => g_call1 (wanted_some rfl rfl h.1) (by kernel_rfl) rfl (hands_may h.2.1 (LD.out.step X) (may_mod _)))
      (OkL.cons (fun a w X h => g_not (wanted_some rfl rfl h.1) rfl h.2.1 rfl)
      (OkL.cons (fun a w X h => g_pick (wanted_none rfl) rfl h.1 h.2.1)
      (OkL.cons (fun a w X h => g_move (wanted_none rfl) (.inl rfl) h.1)
      (OkL.cons (fun a w X h => g_move (wanted_some rfl rfl h.1) (.inl rfl) h.2.1)
      (OkL.cons (fun a w X h => g_str (wanted_some rfl rfl h.1) rfl h.2.1 rfl)
      (OkL.cons (fun a w X h => g_move (wanted_some rfl rfl h.1) (.inl rfl) h.2.1)
      (OkL.cons (fun a w X h => g_move (wanted_some rfl rfl h.1) (.inl rfl) h.2.1)
      (OkL.cons (fun a w X h => g_call2 (wanted_some rfl rfl h.1) (by kernel_rfl) rfl (hands_add h.2.1 h.2.2.1 (LD.out.step X) (fullb_len _) (fullb_len _) (hY) (hX)))
      (OkL.cons (fun a w X h => g_str (wanted_some rfl rfl h.1) rfl h.2.1 rfl)
      (OkL.cons (fun a w X h => g_nes (wanted_some rfl rfl h.1) rfl h.2.1 h.2.2.1 (sob_nt (cg (by rw [Nat.add_comm]))))
      (OkL.cons (fun a w X h => g_pick (wanted_none rfl) rfl h.1 h.2.1)
      (OkL.cons (fun a w X h => g_move (wanted_none rfl) (.inl rfl) h.1)
      (OkL.cons (fun a w X h => g_move (wanted_some rfl rfl h.1) (.inl rfl) h.2.1)
      (OkL.cons (fun a w X h => g_str (wanted_some rfl rfl h.1) rfl h.2.1 rfl)
      (OkL.cons (fun a w X h => g_move (wanted_some rfl rfl h.1) (.inl rfl) h.2.1)
      (OkL.cons (fun a w X h => g_move (wanted_some rfl rfl h.1) (.inl rfl) h.2.1)
      (OkL.cons (fun a w X h => g_move (wanted_some rfl rfl h.1) (.inl rfl) h.2.1)
      (OkL.cons (fun a w X h => g_call3 (wanted_some rfl rfl h.1) (by kernel_rfl) rfl (hands_mad h.2.1 h.2.2.1 h.2.2.2.1 (LD.out.step X) (fullb_len _) (fullb_len _) (fullb_len _) (hY) (hX) (hZ)))
      (OkL.cons (fun a w X h => g_str (wanted_some rfl rfl h.1) rfl h.2.1 rfl)
      (OkL.cons (fun a w X h => g_nes (wanted_some rfl rfl h.1) rfl h.2.1 h.2.2.1 (sob_nt (cg (by rw [Nat.mul_comm]))))
      (OkL.cons (fun a w X h => g_pick (wanted_none rfl) rfl h.1 h.2.1)
      (OkL.cons (fun a w X h => g_move (wanted_none rfl) (.inl rfl) h.1)
      (OkL.cons (fun a w X h => g_move (wanted_some rfl rfl h.1) (.inl rfl) h.2.1)
      (OkL.cons (fun a w X h => g_move (wanted_some rfl rfl h.1) (.inl rfl) h.2.1)
      (OkL.cons (fun a w X h => g_call2 (wanted_some rfl rfl h.1) (by kernel_rfl) rfl (hands_add h.2.1 h.2.2.1 (LD.out.step X) (bys_len _ 32) (fullb_len _) (bv_mod _) (hZ)))
      (OkL.cons (fun a w X h => g_str (wanted_some rfl rfl h.1) rfl h.2.1 rfl)
      (OkL.cons (fun a w X h => g_move (wanted_some rfl rfl h.1) (.inl rfl) h.2.1)
      (OkL.cons (fun a w X h => g_move (wanted_some rfl rfl h.1) (.inl rfl) h.2.1)
      (OkL.cons (fun a w X h => g_move (wanted_some rfl rfl h.1) (.inl rfl) h.2.1)
      (OkL.cons (fun a w X h => g_call2 (wanted_some rfl rfl h.1) (by kernel_rfl) rfl (hands_add h.2.1 h.2.2.1 (LD.out.step X) (fullb_len _) (fullb_len _) (hY) (hZ)))
      (OkL.cons (fun a w X h => g_call2 (wanted_some rfl rfl h.1) (by kernel_rfl) rfl (hands_add h.2.1 h.2.2.1 (LD.out.step X) (fullb_len _) (bys_len _ 32) (hX) (bv_mod _)))
      (OkL.cons (fun a w X h => g_str (wanted_some rfl rfl h.1) rfl h.2.1 rfl)
      (OkL.cons (fun a w X h => g_nes (wanted_some rfl rfl h.1) rfl h.2.1 h.2.2.1 (sob_nt (cg (add_as _ _ _))))
      (OkL.cons (fun a w X h => g_pick (wanted_none rfl) rfl h.1 h.2.1)
      OkL.nil)))))))))))))))))))))))))))))))))))))))) ?_
  rintro w7 X7 v46 - _ rfl _ rfl _ rfl v50 - _ rfl _ rfl _ rfl _ rfl v55 - _ rfl v57 - v58 - v59 - _ rfl _ rfl _ rfl _ rfl v64 - _ rfl v66 - v67 - v68 - v69 - _ rfl _ rfl _ rfl _ rfl v74 - v75 - v76 - _ rfl v78 - v79 - v80 - v81 - v82 - _ rfl _ rfl _ rfl
  refine FinL.done ?_
  simp only [Act.put, List.setIfInBounds_toArray, List.set_cons_zero, List.set_cons_succ]
  replace LD := hide (LD.out.step X7)
  replace BB := hide (Below.chain BB.out X7)
  replace FX := hide (FX.out.ext X7)
  replace FY := hide (FY.out.ext X7)
  replace FZ := hide (FZ.out.ext X7)
  replace FO := hide (FO.out.ext X7)
  replace FE := hide (FE.out.ext X7)
  replace FS := hide (FS.out.ext X7)
  replace FP := hide (FP.out.ext X7)
  clear X7
  go_wp2_with fail
  refine (hands_mad FX.out FY.out FO.out LD.out (fullb_len _) (fullb_len _) (zz_len 32) hX hY zero_zz).mono ?_
  rintro e w9 ⟨v14, rfl, X9, k9⟩
  replace LD := hide (LD.out.step X9)
  replace BB := hide (Below.chain BB.out X9)
  replace FX := hide (FX.out.ext X9)
  replace FY := hide (FY.out.ext X9)
  replace FZ := hide (FZ.out.ext X9)
  replace FO := hide (FO.out.ext X9)
  replace FE := hide (FE.out.ext X9)
  replace FS := hide (FS.out.ext X9)
  replace FP := hide (FP.out.ext X9)
  have FQ : Hid (BsAt w9 v14 (bys ((X * Y + 0) % ll) 32)) := k9
  clear X9 k9
  go_wp2_with fail
  refine (hands_mad FX.out FZ.out FO.out LD.out (fullb_len _) (fullb_len _) (zz_len 32) hX hZ zero_zz).mono ?_
  rintro e w10 ⟨v15, rfl, X10, k10⟩
  replace LD := hide (LD.out.step X10)
  replace BB := hide (Below.chain BB.out X10)
  replace FX := hide (FX.out.ext X10)
  replace FY := hide (FY.out.ext X10)
  replace FZ := hide (FZ.out.ext X10)
  replace FO := hide (FO.out.ext X10)
  replace FE := hide (FE.out.ext X10)
  replace FS := hide (FS.out.ext X10)
  replace FP := hide (FP.out.ext X10)
  replace FQ := hide (FQ.out.ext X10)
  have FR : Hid (BsAt w10 v15 (bys ((X * Z + 0) % ll) 32)) := k10
  clear X10 k10
  go_wp2_with fail
  refine wp_region_typed (tys := fun n => List.getD [isb (fullb A1), isb (fullb A2), isb (fullb A3), isb (bys ((Y + Z) % ll) 32), isb (zz 32), isb (bys ((X * ((Y + Z) % ll) + 0) % ll) 32), isv (.string (sob (bys ((X * ((Y + Z) % ll) + 0) % ll) 32))), isb (bys ((X * Y + 0) % ll) 32), isb (bys ((X * Z + 0) % ll) 32), isb (bys ((((X * Y + 0) % ll) + ((X * Z + 0) % ll)) % ll) 32), isv (.string (sob (bys ((((X * Y + 0) % ll) + ((X * Z + 0) % ll)) % ll) 32))), isv (.bool true), isb (bys ((((X * Y + 0) % ll) * Z + 0) % ll) 32), isv (.string (sob (bys ((((X * Y + 0) % ll) * Z + 0) % ll) 32))), isb (bys ((Y * Z + 0) % ll) 32), isb (bys ((X * ((Y * Z + 0) % ll) + 0) % ll) 32), isv (.string (sob (bys ((X * ((Y * Z + 0) % ll) + 0) % ll) 32))), isb (fullb [1]), isb (bys ((X * 1 + 0) % ll) 32), isv (.string (sob (bys ((X * 1 + 0) % ll) 32))), isb (bys ((X) % ll) 32), isv (.string (sob (bys ((X) % ll) 32)))] n anyv) (pre := [(7, 0), (8, 1), (9, 2), (10, 4), (11, 17), (14, 7), (15, 8)])
    (plan := [([(7, 0)], 0), ([(8, 1)], 1), ([(9, 2)], 2), ([(95, 1), (96, 2)], 3), ([(10, 4)], 4), ([(94, 0), (97, 3), (98, 4)], 5), ([(99, 5)], 6), ([(14, 7)], 7), ([(15, 8)], 8), ([(101, 7), (102, 8)], 9), ([(103, 9)], 10), ([(100, 6), (104, 10)], 11), ([(105, 11)], 11), ([(106, 11), (14, 7)], 7), ([(106, 11), (9, 2)], 2), ([(106, 11), (10, 4)], 4), ([(106, 11), (107, 7), (108, 2), (109, 4)], 12), ([(106, 11), (110, 12)], 13), ([(106, 11), (7, 0)], 0), ([(106, 11), (8, 1)], 1), ([(106, 11), (9, 2)], 2), ([(106, 11), (10, 4)], 4), ([(106, 11), (113, 1), (114, 2), (115, 4)], 14), ([(106, 11), (10, 4)], 4), ([(106, 11), (112, 0), (116, 14), (117, 4)], 15), ([(106, 11), (118, 15)], 16), ([(106, 11), (111, 13), (119, 16)], 11), ([(106, 11), (120, 11)], 11), ([(121, 11)], 11), ([(122, 11), (7, 0)], 0), ([(122, 11), (11, 17)], 17), ([(122, 11), (10, 4)], 4), ([(122, 11), (123, 0), (124, 17), (125, 4)], 18), ([(122, 11), (126, 18)], 19), ([(122, 11), (7, 0)], 0), ([(122, 11), (128, 0)], 20), ([(122, 11), (129, 20)], 21), ([(122, 11), (127, 19), (130, 21)], 11), ([(122, 11), (131, 11)], 11), ([(132, 11)], 11), ([(133, 11)], 11), ([(133, 11), (134, 11)], 11), ([(135, 11)], 11)])
    (by kernel_rfl) 136 (by kernel_rfl) rfl ⟨FX.out, ⟨FY.out, ⟨FZ.out, ⟨FO.out, ⟨FE.out, ⟨FQ.out, ⟨FR.out, trivial⟩⟩⟩⟩⟩⟩⟩
      (OkL.cons (fun a w X h => g_move (wanted_none rfl) (.inl rfl) h.1)
      (OkL.cons (fun a w X h => g_move (wanted_none rfl) (.inl rfl) h.1)
      (OkL.cons (fun a w X h => g_move (wanted_none rfl) (.inl rfl) h.1)
      (OkL.cons (fun a w X h => g_call2 (wanted_none rfl) (by kernel_rfl) rfl (hands_add h.1 h.2.1 (LD.out.step X) (fullb_len _) (fullb_len _) (hY) (hZ)))
      (OkL.cons (fun a w X h => g_move (wanted_none rfl) (.inl rfl) h.1)
      (OkL.cons (fun a w X h => g_call3 (wanted_none rfl) (by kernel_rfl) rfl (hands_mad h.1 h.2.1 h.2.2.1 (LD.out.step X) (fullb_len _) (bys_len _ 32) (zz_len 32) (hX) (bv_mod _) (zero_zz)))
      (OkL.cons (fun a w X h => g_str (wanted_none rfl) rfl h.1 rfl)
      (OkL.cons (fun a w X h => g_move (wanted_none rfl) (.inl rfl) h.1)
      (OkL.cons (fun a w X h => g_move (wanted_none rfl) (.inl rfl) h.1)
      (OkL.cons (fun a w X h => g_call2 (wanted_none rfl) (by kernel_rfl) rfl (hands_add h.1 h.2.1 (LD.out.step X) (bys_len _ 32) (bys_len _ 32) (bv_mod _) (bv_mod _)))
      (OkL.cons (fun a w X h => g_str (wanted_none rfl) rfl h.1 rfl)
      (OkL.cons (fun a w X h => g_eqs (wanted_none rfl) rfl h.1 h.2.1 (sob_t (cg (distr _ _ _))))
      (OkL.cons (fun a w X h => g_move (wanted_none rfl) (.inl rfl) h.1)
      (OkL.cons (fun a w X h => g_move (wanted_some rfl rfl h.1) (.inl rfl) h.2.1)
      (OkL.cons (fun a w X h => g_move (wanted_some rfl rfl h.1) (.inl rfl) h.2.1)
      (OkL.cons (fun a w X h => g_move (wanted_some rfl rfl h.1) (.inl rfl) h.2.1)
      (OkL.cons (fun a w X h => g_call3 (wanted_some rfl rfl h.1) (by kernel_rfl) rfl (hands_mad h.2.1 h.2.2.1 h.2.2.2.1 (LD.out.step X) (bys_len _ 32) (fullb_len _) (zz_len 32) (bv_mod _) (hZ) (zero_zz)))
      (OkL.cons (fun a w X h => g_str (wanted_some rfl rfl h.1) rfl h.2.1 rfl)
      (OkL.cons (fun a w X h => g_move (wanted_some rfl rfl h.1) (.inl rfl) h.2.1)
      (OkL.cons (fun a w X h => g_move (wanted_some rfl rfl h.1) (.inl rfl) h.2.1)
      (OkL.cons (fun a w X h => g_move (wanted_some rfl rfl h.1) (.inl rfl) h.2.1)
      (OkL.cons (fun a w X h => g_move (wanted_some rfl rfl h.1) (.inl rfl) h.2.1)
      (OkL.cons (fun a w X h => g_call3 (wanted_some rfl rfl h.1) (by kernel_rfl) rfl (hands_mad h.2.1 h.2.2.1 h.2.2.2.1 (LD.out.step X) (fullb_len _) (fullb_len _) (zz_len 32) (hY) (hZ) (zero_zz)))
      (OkL.cons (fun a w X h => g_move (wanted_some rfl rfl h.1) (.inl rfl) h.2.1)
      (OkL.cons (fun a w X h => g_call3 (wanted_some rfl rfl h.1) (by kernel_rfl) rfl (hands_mad h.2.1 h.2.2.1 h.2.2.2.1 (LD.out.step X) (fullb_len _) (bys_len _ 32) (zz_len 32) (hX) (bv_mod _) (zero_zz)))
      (OkL.cons (fun a w X h => g_str (wanted_some rfl rfl h.1) rfl h.2.1 rfl)
      (OkL.cons (fun a w X h => g_eqs (wanted_some rfl rfl h.1) rfl h.2.1 h.2.2.1 (sob_t (cg (mul_as _ _ _))))
      (OkL.cons (fun a w X h => g_pick (wanted_none rfl) rfl h.1 h.2.1)
      (OkL.cons (fun a w X h => g_move (wanted_none rfl) (.inl rfl) h.1)
      (OkL.cons (fun a w X h => g_move (wanted_some rfl rfl h.1) (.inl rfl) h.2.1)
      (OkL.cons (fun a w X h => g_move (wanted_some rfl rfl h.1) (.inl rfl) h.2.1)
      (OkL.cons (fun a w X h => g_move (wanted_some rfl rfl h.1) (.inl rfl) h.2.1)
      (OkL.cons (fun a w X h => g_call3 (wanted_some rfl rfl h.1) (by kernel_rfl) rfl (hands_mad h.2.1 h.2.2.1 h.2.2.2.1 (LD.out.step X) (fullb_len _) (fullb_len _) (zz_len 32) (hX) (one_full) (zero_zz)))
      (OkL.cons (fun a w X h => g_str (wanted_some rfl rfl h.1) rfl h.2.1 rfl)
      (OkL.cons (fun a w X h => g_move (wanted_some rfl rfl h.1) (.inl rfl) h.2.1)
      (OkL.cons (fun a w X h => g_call1 (wanted_some rfl rfl h.1) (by kernel_rfl) rfl (hands_red h.2.1 (LD.out.step X) (fullb_len _) (hX)))
      (OkL.cons (fun a w X h => g_str (wanted_some rfl rfl h.1) rfl h.2.1 rfl)
      (OkL.cons (fun a w X h => g_eqs (wanted_some rfl rfl h.1) rfl h.2.1 h.2.2.1 (sob_t (cg (mul_one_ _))))
      (OkL.cons (fun a w X h => g_pick (wanted_none rfl) rfl h.1 h.2.1)
      (OkL.cons (fun a w X h => g_move (wanted_none rfl) (.inl rfl) h.1)
      (OkL.cons (fun a w X h => g_call0 (wanted_some rfl rfl h.1) (by kernel_rfl) rfl (hands_awake (LD.out.step X)))
      (OkL.cons (fun a w X h => g_pick (wanted_none rfl) rfl h.1 h.2.1)
      (OkL.cons (fun a w X h => g_move (wanted_none rfl) (.inr rfl) h.1)
      OkL.nil))))))))))))))))))))))))))))))))))))))))))) ?_
  rintro w11 X11 v94 - v95 - v96 - v97 - v98 - v99 - _ rfl v101 - v102 - v103 - _ rfl _ rfl _ rfl v107 - v108 - v109 - v110 - _ rfl v112 - v113 - v114 - v115 - v116 - v117 - v118 - _ rfl _ rfl _ rfl _ rfl v123 - v124 - v125 - v126 - _ rfl v128 - v129 - _ rfl _ rfl _ rfl _ rfl _ rfl _ rfl _ rfl
  refine FinL.done ?_
  simp only [Act.put, List.setIfInBounds_toArray, List.set_cons_zero, List.set_cons_succ]
  replace BB := hide (Below.chain BB.out X11)
  clear X11
  go_wp2
  go_ret
  exact ⟨rfl, BB.out⟩
set_option maxHeartbeats 1000000 in
theorem laws_any (a b c : Value) (A1 A2 A3 : List Nat) (w : World) (LD : Laid w) (b1 : BsAt w a A1) (b2 : BsAt w b A2) (b3 : BsAt w c A3) :
    Calls Tryd.prog 4 #[a, b, c] w fun e w' => e = .returned (.bool true) ∧ Below w.heap.size w w' := by
  by_cases hl1 : A1.length ≤ 100
  · by_cases hl2 : A2.length ≤ 100
    · by_cases hl3 : A3.length ≤ 100
      · exact laws_100 a b c A1 A2 A3 w LD b1 b2 b3 hl1 hl2 hl3
      · obtain ⟨a0, c0, rfl, _, hm0⟩ := b1.len
        obtain ⟨a1, c1, rfl, _, hm1⟩ := b2.len
        obtain ⟨a2, c2, rfl, _, hm2⟩ := b3.len
        have d1 : decide ((100 : Int) < (A1.length : Int)) = false := decide_eq_false (by omega)
        have d2 : decide ((100 : Int) < (A2.length : Int)) = false := decide_eq_false (by omega)
        have d3 : decide ((100 : Int) < (A3.length : Int)) = true := decide_eq_true (by omega)
        clear b1 b2 b3 hl1 hl2 hl3
        go_enter Tryd.func4, Tryd.ntmps4
        go_wp2_with fail
        refine (awake_any _ LD).mono ?_
        rintro e w1 ⟨rfl, b1⟩
        go_wp2
        go_ret
        exact ⟨rfl, b1⟩
    · obtain ⟨a0, c0, rfl, _, hm0⟩ := b1.len
      obtain ⟨a1, c1, rfl, _, hm1⟩ := b2.len
      obtain ⟨a2, c2, rfl, _, hm2⟩ := b3.len
      have d1 : decide ((100 : Int) < (A1.length : Int)) = false := decide_eq_false (by omega)
      have d2 : decide ((100 : Int) < (A2.length : Int)) = true := decide_eq_true (by omega)
      clear b1 b2 b3 hl1 hl2
      go_enter Tryd.func4, Tryd.ntmps4
      go_wp2_with fail
      refine (awake_any _ LD).mono ?_
      rintro e w1 ⟨rfl, b1⟩
      go_wp2
      go_ret
      exact ⟨rfl, b1⟩
  · obtain ⟨a0, c0, rfl, _, hm0⟩ := b1.len
    obtain ⟨a1, c1, rfl, _, hm1⟩ := b2.len
    obtain ⟨a2, c2, rfl, _, hm2⟩ := b3.len
    have d1 : decide ((100 : Int) < (A1.length : Int)) = true := decide_eq_true (by omega)
    clear b1 b2 b3 hl1
    go_enter Tryd.func4, Tryd.ntmps4
    go_wp2_with fail
    refine (awake_any _ LD).mono ?_
    rintro e w1 ⟨rfl, b1⟩
    go_wp2
    go_ret
    exact ⟨rfl, b1⟩
end Go.Proofs.YtmaolpinppnijaaDoor
