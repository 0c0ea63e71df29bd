/- What is below the order stays; long bytes are their low half, and their high half 2^256 times: the law ScalarLow answers true for all bytes of at most 100, in any world where the order lies as the program's text lays it. -/
import Derived.Test.YtmaolpinppnijaaDoorSmall
import Derived.Test.YtmaolpinppnijaaDoorTyW
namespace Go.Proofs.YtmaolpinppnijaaDoor
open Go.RowKit
theorem hands_mayd {v : Value} {l : List Nat} {w : World} {d : Bool} (h : BsAt w v l) (hL : Laid w) (hl : l.length = 32) (hd : decide (bval l < ll) = d) : Hands Tryd.prog 9 #[v] w (isv (.bool d)) :=
  (may_32 v l w h hL hl).mono fun e w' ⟨he, hb⟩ => ⟨_, he, hb, by rw [hd]; rfl⟩
theorem hands_redl {v : Value} {l : List Nat} {w : World} {x : Nat} (h : BsAt w v l) (hL : Laid w) (hl : l.length ≤ 64) (hx : bval l = x) : Hands Tryd.prog 11 #[v] w (isb (bys (x % ll) 32)) := by
  subst hx
  exact (reduce_ret v l w h hL hl).mono fun _ _ ⟨v, he, h1, h2⟩ => ⟨v, he, h2, h1⟩
theorem nil_at (w : World) : BsAt w (.slice none 0 0) [] := ⟨0, 0, 0, none, rfl, Nat.le_refl _, by unfold maxLen; omega, by simp, fun h => absurd rfl h⟩
theorem hands_long {v : Value} {l : List Nat} {w : World} (h : BsAt w v l) (hl : 64 < l.length) : Hands Tryd.prog 11 #[v] w (isb []) :=
  (reduce_long v l w h hl).mono fun _ _ ⟨he, h2⟩ => ⟨_, he, h2, nil_at _⟩
theorem bval_byte : ∀ (l : List Nat) (q : Nat), (∀ i, l.getD i 0 < 256) → bval l / 256 ^ q % 256 = l.getD q 0 := by
  intro l
  induction l with
  | nil => intro q _; simp [bval]
  | cons x t ih =>
    intro q h
    have hx := h 0
    simp only [List.getD_cons_zero] at hx
    cases q with
    | zero => simp only [bval, Nat.pow_zero, Nat.div_one, List.getD_cons_zero]; omega
    | succ q =>
      rw [List.getD_cons_succ, ← ih q (fun i => h (i + 1)), bval, Nat.pow_succ, Nat.mul_comm (256 ^ q) 256, ← Nat.div_div_eq_div_mul]
      congr 2; omega
theorem bys_bval {l : List Nat} (hl : l.length = 32) (h : ∀ i, l.getD i 0 < 256) : bys (bval l) 32 = l := (bys_list _ l hl fun i _ => (bval_byte l i h).symm).symm
theorem low_same {l : List Nat} {x : Nat} {d : Bool} (hx : bval l = x) (hlim : ∀ i, l.getD i 0 < 256) (hl : l.length = 32) (hd : decide (x < ll) = d) : Value.bool ((sob (bys (x % ll) 32)).toList == (sob l).toList) = .bool d := by
  rw [sob_eq (bys_lim _) hlim, ← hd]
  refine congrArg Value.bool (decide_eq_decide.2 ?_)
  constructor
  · intro e
    have := congrArg bval e
    rw [bv_mod, hx] at this
    rw [← this]
    exact ll_mod _
  · intro h
    rw [Nat.mod_eq_of_lt h, ← hx]
    exact bys_bval hl hlim
theorem full_lim {l : List Nat} (h : ∀ i, l.getD i 0 < 256) : ∀ i, (fullb l).getD i 0 < 256 := take_lim (getD_append_lim h (zeros_lim 32)) 32
theorem both_len (l m : List Nat) : ([] ++ fullb l ++ fullb m).length ≤ 64 := by simp [fullb_len]
theorem k_val : bval (zz 32 ++ [1]) = 256 ^ 32 := by decide +kernel
theorem both_val {l m : List Nat} {x y k xy : Nat} (hx : bval (fullb l) = x) (hy : bval (fullb m) = y) (hk : bval (zz 32 ++ [1]) = k) (h : x + k * y = xy) : bval ([] ++ fullb l ++ fullb m) = xy := by
  rw [List.nil_append, bval_append, hx, hy, fullb_len, ← k_val, hk, h]
theorem low_math {x y k xy : Nat} (h : x + k * y = xy) : xy % ll = (y * (k % ll) + x) % ll := by
  rw [← h, Nat.add_comm x, Nat.mul_comm k, Nat.add_mod, Nat.mul_mod, ← Nat.mod_mod k, ← Nat.mul_mod, ← Nat.add_mod, Nat.mod_mod]
set_option linter.unusedSimpArgs false in
set_option maxRecDepth 100000 in
set_option maxHeartbeats 8000000 in
theorem low_100 (a b : Value) (A1 A2 : List Nat) (w : World) (LD0 : Laid w) (b1 : BsAt w a A1) (b2 : BsAt w b A2) (g1 : A1.length ≤ 100) (g2 : A2.length ≤ 100) :
    Calls Tryd.prog 5 #[a, b] w fun e w' => e = .returned (.bool true) ∧ Below w.heap.size w w' := by
  have H1 := hide b1
  have H2 := hide b2
  have h1 := hide g1
  have h2 := hide g2
  have LD := hide LD0
  have BB := hide (Below.refl w.heap.size w)
  have HLX := hide (full_lim b1.lim)
  obtain ⟨a1, c1, rfl, _, m1⟩ := b1.len
  obtain ⟨a2, c2, rfl, _, m2⟩ := b2.len
  have d1 : decide ((100 : Int) < (A1.length : Int)) = false := decide_eq_false (by omega)
  have d2 : decide ((100 : Int) < (A2.length : Int)) = false := decide_eq_false (by omega)
  obtain ⟨X, hX⟩ : ∃ n, bval (fullb A1) = n := ⟨_, rfl⟩
  obtain ⟨Y, hY⟩ : ∃ n, bval (fullb A2) = n := ⟨_, rfl⟩
  obtain ⟨K, HK⟩ : ∃ n, Hid (bval (zz 32 ++ [1]) = n) := ⟨bval (zz 32 ++ [1]), hide rfl⟩
  obtain ⟨XY, HXY⟩ : ∃ n, Hid (X + K * Y = n) := ⟨X + K * Y, hide rfl⟩
  obtain ⟨d, hd⟩ : ∃ d, decide (X < ll) = d := ⟨_, rfl⟩
  clear b1 b2 g1 g2 LD0
  go_enter Tryd.func5, Tryd.ntmps5
  go_wp2_with fail
  refine (hands_full H1.out h1.out).mono ?_
  rintro e w1 ⟨u1, rfl, X1, k1⟩
  replace H1 := hide (H1.out.ext X1)
  replace H2 := hide (H2.out.ext X1)
  replace LD := hide (LD.out.step X1)
  replace BB := hide (Below.chain BB.out X1)
  have FX : Hid (BsAt w1 u1 (fullb A1)) := k1
  clear X1 k1
  clear H1
  go_wp2_with fail
  refine (hands_full H2.out h2.out).mono ?_
  rintro e w2 ⟨u2, rfl, X1, k1⟩
  replace H2 := hide (H2.out.ext X1)
  replace LD := hide (LD.out.step X1)
  replace BB := hide (Below.chain BB.out X1)
  replace FX := hide (FX.out.ext X1)
  have FY : Hid (BsAt w2 u2 (fullb A2)) := k1
  clear X1 k1
  clear H2
  go_wp2_with fail
  refine (hands_red FX.out LD.out (fullb_len _) hX).mono ?_
  rintro e w4 ⟨v7, rfl, X4, k4⟩
  replace LD := hide (LD.out.step X4)
  replace BB := hide (Below.chain BB.out X4)
  replace FX := hide (FX.out.ext X4)
  replace FY := hide (FY.out.ext X4)
  have FR : Hid (BsAt w4 v7 (bys (X % ll) 32)) := k4
  clear X4 k4
  go_wp2_with fail
  refine wp_region_typed (tys := fun ix_ => List.getD [isb (bys (X % ll) 32), isv (.int .i64 32), isv (.bool false), isv (.bool true), isb (bys ((X % ll) % ll) 32), isv (.string (sob (bys ((X % ll) % ll) 32))), isv (.string (sob (bys (X % ll) 32))), isb (fullb A1), isv (.bool d), isv (.string (sob (fullb A1)))] ix_ anyv) (pre := [(5, 7), (7, 0)])
    (plan := [([(7, 0)], 0), ([(24, 0)], 1), ([(25, 1)], 2), ([(26, 2)], 2), ([(27, 2), (7, 0)], 0), ([(27, 2), (28, 0)], 3), ([(27, 2), (29, 3)], 2), ([(27, 2), (30, 2)], 2), ([(31, 2)], 2), ([(32, 2), (7, 0)], 0), ([(32, 2), (33, 0)], 4), ([(32, 2), (34, 4)], 5), ([(32, 2), (7, 0)], 0), ([(32, 2), (36, 0)], 6), ([(32, 2), (35, 5), (37, 6)], 2), ([(32, 2), (38, 2)], 2), ([(39, 2)], 2), ([(40, 2), (5, 7)], 7), ([(40, 2), (41, 7)], 8), ([(40, 2), (7, 0)], 0), ([(40, 2), (43, 0)], 6), ([(40, 2), (5, 7)], 7), ([(40, 2), (45, 7)], 9), ([(40, 2), (44, 6), (46, 9)], 8), ([(40, 2), (42, 8), (47, 8)], 2), ([(40, 2), (48, 2)], 2)])
    (by kernel_rfl) 76 (by kernel_rfl) rfl ⟨FX.out, ⟨FR.out, trivial⟩⟩
      (OkL.cons (fun a w X_ h => g_move (wanted_none rfl) (.inl rfl) h.1)
      (OkL.cons (fun a w X_ h => g_lenb (wanted_none rfl) rfl h.1 (by rw [bys_len _ 32]; rfl) rfl)
      (OkL.cons (fun a w X_ h => g_bin (wanted_none rfl) rfl (v := .bool false) (by rw [show a.eval (.tmp 25) = .int .i64 32 from h.1]; go_simp) rfl)
      (OkL.cons (fun a w X_ h => g_move (wanted_none rfl) (.inl rfl) h.1)
      (OkL.cons (fun a w X_ h => g_move (wanted_some rfl rfl h.1) (.inl rfl) h.2.1)
      (OkL.cons (fun a w X_ h => g_call1 (wanted_some rfl rfl h.1) (by kernel_rfl) rfl (hands_may h.2.1 (LD.out.step X_) (may_mod _)))
      (OkL.cons (fun a w X_ h => g_not (wanted_some rfl rfl h.1) rfl h.2.1 rfl)
      (OkL.cons (fun a w X_ h => g_pick (wanted_none rfl) rfl h.1 h.2.1)
      (OkL.cons (fun a w X_ h => g_move (wanted_none rfl) (.inl rfl) h.1)
      (OkL.cons (fun a w X_ h => g_move (wanted_some rfl rfl h.1) (.inl rfl) h.2.1)
      (OkL.cons (fun a w X_ h => g_call1 (wanted_some rfl rfl h.1) (by kernel_rfl) rfl (hands_red h.2.1 (LD.out.step X_) (bys_len _ 32) (bv_mod _)))
      (OkL.cons (fun a w X_ h => g_str (wanted_some rfl rfl h.1) rfl h.2.1 rfl)
      (OkL.cons (fun a w X_ h => g_move (wanted_some rfl rfl h.1) (.inl rfl) h.2.1)
      (OkL.cons (fun a w X_ h => g_str (wanted_some rfl rfl h.1) rfl h.2.1 rfl)
      (OkL.cons (fun a w X_ h => g_nes (wanted_some rfl rfl h.1) rfl h.2.1 h.2.2.1 (sob_nt (cg (Nat.mod_mod _ _))))
      (OkL.cons (fun a w X_ h => g_pick (wanted_none rfl) rfl h.1 h.2.1)
      (OkL.cons (fun a w X_ h => g_move (wanted_none rfl) (.inl rfl) h.1)
      (OkL.cons (fun a w X_ h => g_move (wanted_some rfl rfl h.1) (.inl rfl) h.2.1)
      (OkL.cons (fun a w X_ h => g_call1 (wanted_some rfl rfl h.1) (by kernel_rfl) rfl (hands_mayd h.2.1 (LD.out.step X_) (fullb_len _) (by rw [hX]; exact hd)))
      (OkL.cons (fun a w X_ h => g_move (wanted_some rfl rfl h.1) (.inl rfl) h.2.1)
      (OkL.cons (fun a w X_ h => g_str (wanted_some rfl rfl h.1) rfl h.2.1 rfl)
      (OkL.cons (fun a w X_ h => g_move (wanted_some rfl rfl h.1) (.inl rfl) h.2.1)
      (OkL.cons (fun a w X_ h => g_str (wanted_some rfl rfl h.1) rfl h.2.1 rfl)
      (OkL.cons (fun a w X_ h => g_eqs (wanted_some rfl rfl h.1) rfl h.2.1 h.2.2.1 (low_same hX HLX.out (fullb_len _) hd))
      (OkL.cons (fun a w X_ h => g_neb (wanted_some rfl rfl h.1) rfl h.2.1 h.2.2.1 (bne_b _))
      (OkL.cons (fun a w X_ h => g_pick (wanted_none rfl) rfl h.1 h.2.1)
      OkL.nil)))))))))))))))))))))))))) ?_
  rintro w5 X5 v24 - _ rfl _ rfl _ rfl v28 - _ rfl _ rfl _ rfl _ rfl v33 - v34 - _ rfl v36 - _ rfl _ rfl _ rfl _ rfl v41 - _ rfl v43 - _ rfl v45 - _ rfl _ rfl _ rfl _ rfl
  refine FinL.done ?_
  simp only [Act.put, List.setIfInBounds_toArray, List.set_cons_zero, List.set_cons_succ]
  replace LD := hide (LD.out.step X5)
  replace BB := hide (Below.chain BB.out X5)
  replace FX := hide (FX.out.ext X5)
  replace FY := hide (FY.out.ext X5)
  replace FR := hide (FR.out.ext X5)
  clear X5
  have hmk := make32
  have hz0 : ba (List.replicate 32 0) = ba (zz 32) := rfl
  rw [hz0] at hmk
  generalize hZB : ba (zz 32) = ZB at hmk
  have X6 : Ext w5 ((w5.alloc (.cells ZB 5)).alloc (.cells #[.int .u8 1] 5)) := below2 _ _ _
  have O1 : Hid (BsAt ((w5.alloc (.cells ZB 5)).alloc (.cells #[.int .u8 1] 5)) (.slice (some ⟨w5.heap.size, 0, none⟩) 32 32) (zz 32)) := by
    rw [← hZB]
    exact (own_lit (w := w5) (zz 32) (zeros_lim 32) (by decide)).at.ext ((Below.refl _ _).alloc (Nat.le_refl _) _)
  have O2 : Hid (BsAt ((w5.alloc (.cells ZB 5)).alloc (.cells #[.int .u8 1] 5)) (.slice (some ⟨w5.heap.size + 1, 0, none⟩) 1 1) [1]) := by
    have := (own_lit (w := w5.alloc (.cells ZB 5)) [1] (lim_all rfl) (by decide)).at
    rw [World.size_alloc] at this
    exact this
  replace LD := hide (LD.out.step X6)
  replace BB := hide (Below.chain BB.out X6)
  replace FX := hide (FX.out.ext X6)
  replace FY := hide (FY.out.ext X6)
  replace FR := hide (FR.out.ext X6)
  clear X6 hz0 hZB
  go_wp2_with (at_builtin; refine wpList_append_bg rfl (.tmp 50) (.tmp 51) rfl rfl O1.out O2.out (by decide) (by decide) (by decide) ?_)
  intro v52 w6 o6 g6
  have X6 : Ext ((w5.alloc (.cells ZB 5)).alloc (.cells #[.int .u8 1] 5)) w6 := Ext.of g6
  replace LD := hide (LD.out.step X6)
  replace BB := hide (Below.chain BB.out X6)
  replace FX := hide (FX.out.ext X6)
  replace FY := hide (FY.out.ext X6)
  replace FR := hide (FR.out.ext X6)
  have FA : Hid (BsAt w6 v52 (zz 32 ++ [1])) := o6.at
  clear X6 g6 o6 O1 O2 hmk
  go_wp2_with fail
  refine (hands_redl FA.out LD.out (by decide) HK.out).mono ?_
  rintro e w7 ⟨v8, rfl, X7, k7⟩
  replace LD := hide (LD.out.step X7)
  replace BB := hide (Below.chain BB.out X7)
  replace FX := hide (FX.out.ext X7)
  replace FY := hide (FY.out.ext X7)
  replace FR := hide (FR.out.ext X7)
  have FT : Hid (BsAt w7 v8 (bys (K % ll) 32)) := k7
  clear X7 k7 FA
  go_wp2_with fail
  refine wp_region_typed2 (tys := fun ix_ => List.getD [ownb w7.heap.size ([]), oldb w7 (fullb A1), ownb w7.heap.size ([] ++ (fullb A1)), oldb w7 (fullb A2), ownb w7.heap.size ([] ++ (fullb A1) ++ (fullb A2)), isb (bys (XY % ll) 32), isv (.string (sob (bys (XY % ll) 32))), oldb w7 (bys (K % ll) 32), isb (bys ((Y * (K % ll) + X) % ll) 32), isv (.string (sob (bys ((Y * (K % ll) + X) % ll) 32))), isv (.bool true), isb (zz 65), isb ([]), isv (.int .i64 0)] ix_ anyv) (pre := [(5, 1), (6, 3), (8, 7)])
    (plan := [([], 0, []), ([(5, 1)], 1, []), ([(54, 0), (55, 1)], 2, [0]), ([(6, 3)], 3, []), ([(56, 2), (57, 3)], 4, [2, 0]), ([(58, 4)], 5, []), ([(59, 5)], 6, []), ([(6, 3)], 3, []), ([(8, 7)], 7, []), ([(5, 1)], 1, []), ([(61, 3), (62, 7), (63, 1)], 8, []), ([(64, 8)], 9, []), ([(60, 6), (65, 9)], 10, []), ([(66, 10)], 10, []), ([(67, 10)], 11, []), ([(67, 10), (68, 11)], 12, []), ([(67, 10), (69, 12)], 13, []), ([(67, 10), (70, 13)], 10, []), ([(67, 10), (71, 10)], 10, []), ([(72, 10)], 10, []), ([(73, 10)], 10, []), ([(73, 10), (74, 10)], 10, []), ([(75, 10)], 10, [])])
    (by kernel_rfl) [1, 3, 6, 7, 9, 10, 13] 76 (by kernel_rfl) rfl
    (fun c hc => by
      have hc : c = 1 ∨ c = 3 ∨ c = 6 ∨ c = 7 ∨ c = 9 ∨ c = 10 ∨ c = 13 := by simpa using hc
      rcases hc with rfl | rfl | rfl | rfl | rfl | rfl | rfl
      · exact old_old _ _
      · exact old_old _ _
      · exact old_isv _ _
      · exact old_old _ _
      · exact old_isv _ _
      · exact old_isv _ _
      · exact old_isv _ _)
    ⟨old_mk (FX.out), ⟨old_mk (FY.out), ⟨old_mk (FT.out), trivial⟩⟩⟩
      (OkL2.cons (fun a w X_ h => g_own0 (wanted_none rfl) rfl X_)
      (OkL2.cons (fun a w X_ h => g_move (wanted_none rfl) (.inl rfl) h.1)
      (OkL2.wcons (fun a w X_ h => g_appw (wanted_none rfl) rfl X_ h.1 (old_at h.2.1) (by simp [fullb_len]))
      (OkL2.cons (fun a w X_ h => g_move (wanted_none rfl) (.inl rfl) h.1)
      (OkL2.wcons (fun a w X_ h => g_appw (wanted_none rfl) rfl X_ h.1 (old_at h.2.1) (by simp [fullb_len]))
      (OkL2.cons (fun a w X_ h => g_call1 (wanted_none rfl) (by kernel_rfl) rfl (hands_redl (own_at h.1) (LD.out.step X_) (both_len _ _) (both_val hX hY HK.out HXY.out)))
      (OkL2.cons (fun a w X_ h => g_str (wanted_none rfl) rfl h.1 rfl)
      (OkL2.cons (fun a w X_ h => g_move (wanted_none rfl) (.inl rfl) h.1)
      (OkL2.cons (fun a w X_ h => g_move (wanted_none rfl) (.inl rfl) h.1)
      (OkL2.cons (fun a w X_ h => g_move (wanted_none rfl) (.inl rfl) h.1)
      (OkL2.cons (fun a w X_ h => g_call3 (wanted_none rfl) (by kernel_rfl) rfl (hands_mad (old_at h.1) (old_at h.2.1) (old_at h.2.2.1) (LD.out.step X_) (fullb_len _) (bys_len _ 32) (fullb_len _) (hY) (bv_mod _) (hX)))
      (OkL2.cons (fun a w X_ h => g_str (wanted_none rfl) rfl h.1 rfl)
      (OkL2.cons (fun a w X_ h => g_eqs (wanted_none rfl) rfl h.1 h.2.1 (sob_t (cg (low_math HXY.out))))
      (OkL2.cons (fun a w X_ h => g_move (wanted_none rfl) (.inl rfl) h.1)
      (OkL2.cons (fun a w X_ h => g_new (l := zz 65) (wanted_some rfl rfl h.1) (zeros_lim 65) (by decide) (by kernel_rfl))
      (OkL2.cons (fun a w X_ h => g_call1 (wanted_some rfl rfl h.1) (by kernel_rfl) rfl (hands_long h.2.1 (by rw [zz_len]; decide)))
      (OkL2.cons (fun a w X_ h => g_lenb (wanted_some rfl rfl h.1) rfl h.2.1 (rfl) rfl)
      (OkL2.cons (fun a w X_ h => g_bin (wanted_some rfl rfl h.1) rfl (v := .bool true) (by rw [show a.eval (.tmp 70) = .int .i64 0 from h.2.1]; go_simp) rfl)
      (OkL2.cons (fun a w X_ h => g_pick (wanted_none rfl) rfl h.1 h.2.1)
      (OkL2.cons (fun a w X_ h => g_move (wanted_none rfl) (.inl rfl) h.1)
      (OkL2.cons (fun a w X_ h => g_call0 (wanted_some rfl rfl h.1) (by kernel_rfl) rfl (hands_awake (LD.out.step X_)))
      (OkL2.cons (fun a w X_ h => g_pick (wanted_none rfl) rfl h.1 h.2.1)
      (OkL2.cons (fun a w X_ h => g_move (wanted_none rfl) (.inr rfl) h.1)
      OkL2.nil))))))))))))))))))))))) ?_
  rintro w8 X8 v54 - v55 - v56 - v57 - v58 - v59 - _ rfl v61 - v62 - v63 - v64 - _ rfl _ rfl _ rfl v68 - v69 - _ rfl _ rfl _ rfl _ rfl _ rfl _ rfl _ rfl
  refine FinL.done ?_
  simp only [Act.put, List.setIfInBounds_toArray, List.set_cons_zero, List.set_cons_succ]
  replace BB := hide (Below.chain BB.out X8)
  clear X8
  go_wp2
  go_ret
  exact ⟨rfl, BB.out⟩
set_option maxHeartbeats 1000000 in
theorem low_any' (a b : Value) (A1 A2 : List Nat) (w : World) (LD : Laid w) (b1 : BsAt w a A1) (b2 : BsAt w b A2) :
    Calls Tryd.prog 5 #[a, b] w fun e w' => e = .returned (.bool true) ∧ Below w.heap.size w w' := by
  by_cases hl1 : A1.length ≤ 100
  · by_cases hl2 : A2.length ≤ 100
    · exact low_100 a b A1 A2 w LD b1 b2 hl1 hl2
    · obtain ⟨a0, c0, rfl, _, hm0⟩ := b1.len
      obtain ⟨a1, c1, rfl, _, hm1⟩ := b2.len
      have d1 : decide ((100 : Int) < (A1.length : Int)) = false := decide_eq_false (by omega)
      have d2 : decide ((100 : Int) < (A2.length : Int)) = true := decide_eq_true (by omega)
      clear b1 b2 hl1 hl2
      go_enter Tryd.func5, Tryd.ntmps5
      go_wp2_with fail
      refine (awake_any _ LD).mono ?_
      rintro e w1 ⟨rfl, b1⟩
      go_wp2
      go_ret
      exact ⟨rfl, b1⟩
  · obtain ⟨a0, c0, rfl, _, hm0⟩ := b1.len
    obtain ⟨a1, c1, rfl, _, hm1⟩ := b2.len
    have d1 : decide ((100 : Int) < (A1.length : Int)) = true := decide_eq_true (by omega)
    clear b1 b2 hl1
    go_enter Tryd.func5, Tryd.ntmps5
    go_wp2_with fail
    refine (awake_any _ LD).mono ?_
    rintro e w1 ⟨rfl, b1⟩
    go_wp2
    go_ret
    exact ⟨rfl, b1⟩
end Go.Proofs.YtmaolpinppnijaaDoor
