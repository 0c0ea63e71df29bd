/- Bytes are read as the page reads them: the law PointReads answers true for all bytes, in any world where the exponent of a root and the root of -1 lie as the program's text lays them. -/
import Derived.Test.YteplbagjagimdaaDoorRf6
import Derived.Test.YteplbagjagimdaaDoorPtBytes
namespace Go.Proofs.YteplbagjagimdaaDoor
open Go.RowKit
/-- A byte with its highest bit set. -/
def orb (x : Nat) : Nat := if x < 128 then x + 128 else x
theorem orb_lt {x : Nat} (h : x < 256) : orb x < 256 := by unfold orb; split <;> omega
theorem bits_orb (x : Nat) (h : x < 256) : bits .or .u8 (x : Int) 128 = ((orb x : Nat) : Int) := by
  have : ∀ y : Fin 256, bits .or .u8 ((y.1 : Nat) : Int) 128 = ((orb y.1 : Nat) : Int) := by decide +kernel
  exact this ⟨x, h⟩
set_option linter.unusedSimpArgs false in
set_option maxRecDepth 100000 in
set_option maxHeartbeats 4000000 in
theorem pr_other (odd : Bool) (u : Value) (l : List Nat) {w : World} (h : BsAt w u l) (hl : l.length ≤ 100 ∧ l.length ≠ 32) (hd : dec l = none) (LDe : LaidW 3 eiw w) (LDm : LaidW 0 rmw w) : Calls Tryd.prog 3 #[u, .bool odd] w fun e w' => e = .returned (.bool true) ∧ Below w.heap.size w w' := by
  replace LDe := hide LDe
  replace LDm := hide LDm
  have HD := hide hd
  have BS := hide h
  obtain ⟨ao, cp, rfl, _, hcm⟩ := h.len
  have d0 : decide ((100 : Int) < (l.length : Int)) = false := decide_eq_false (by omega)
  have d1 : ((l.length : Int) == 32) = false := by rw [beq_eq_false_iff_ne]; omega
  clear h hd hl
  have BEL := hide (Below.refl w.heap.size w)
  have SZ := hide BEL.out.size
  go_enter Tryd.func3, Tryd.ntmps3
  go_upto_region 6 with fail
  refine wp_region_lined3 (tl := [isb l, isv (.tuple #[.agg (pe (0 : Kp) ((1 : Kp) - 1)), .bool false]), ipt (0 : Kp) (1 : Kp), isv (.bool false)]) (pre := [(0, 0)])
    (plan := [Pk.val [(0, 0)] 0, Pk.val [(28, 0)] 1, Pk.val [(29, 1)] 1, Pk.val [(27, 1)] 2, Pk.val [(27, 1)] 3, Pk.alc 30 8, Pk.sto 5 30 2, Pk.val [(31, 3)] 3])
    [0] [] [] 64 (by kernel_rfl) rfl (by kernel_rfl) ⟨.inl rfl, ⟨.inr (lull_isv _ _ _), ⟨.inr (lull_p _ _ _ _), ⟨.inr (lull_isv _ _ _), trivial⟩⟩⟩⟩
    snkAt0 snk0 ⟨BS.out, trivial⟩
      (OkL3.cons (fun a w X_ h => g_move (wanted_none rfl) (.inl rfl) h.1)
      (OkL3.cons (fun a w X_ h => g_call1 (wanted_none rfl) (by kernel_rfl) rfl (p_from_n h.1 (LDe.out.step (X_.on BEL.out SZ.out none_le)) (LDm.out.step (X_.on BEL.out SZ.out none_le)) HD.out))
      (OkL3.cons (fun a w X_ h => g_move (wanted_none rfl) (.inl rfl) h.1)
      (OkL3.cons (fun a w X_ h => g_ext (wanted_none rfl) rfl h.1 rfl rfl)
      (OkL3.cons (fun a w X_ h => g_ext (wanted_none rfl) rfl h.1 rfl rfl)
      (OkL3.cons (alc_of zp rfl rfl rfl newP)
      (OkL3.cons (⟨rfl, _, _, _, rfl, rfl, rfl, by kernel_rfl, row_p _ _⟩)
      (OkL3.cons (fun a w X_ h => g_move (wanted_none rfl) (.inr rfl) h.1)
      OkL3.nil)))))))) ?_
  rintro W6 X6 v28 - _ rfl _ rfl _ rfl _ rfl g5 c5 ⟨L5, Z5, -⟩ r5 H5 _ rfl
  refine FinL3.done ?_
  simp only [Act.put, List.setIfInBounds_toArray, List.set_cons_zero, List.set_cons_succ]
  obtain rfl : c5 = pe (0 : Kp) ((1 : Kp) - 1) := agg_inj H5
  have R5 := hide (And.intro Z5 r5)
  clear r5
  replace BS := hide (BS.out.ext X6.ext)
  replace BEL := hide (X6.on BEL.out SZ.out none_le)
  replace SZ := hide BEL.out.size
  have SW6 := X6.size
  clear X6 H5
  go_upto_region 7 with fail
  refine wp_region_lined3 (tl := [isb l, upb (0 : Kp) (1 : Kp) false, qk (0 : Kp) (1 : Kp) (1 : Kp) ((0 : Kp) * (1 : Kp)), isv (.bool false)]) (pre := [(0, 0)])
    (plan := [Pk.val [(0, 0)] 0, Pk.val [(33, 0)] 1, Pk.val [(34, 1)] 1, Pk.val [(32, 1)] 2, Pk.val [(32, 1)] 3, Pk.alc 36 64, Pk.sto 5 35 2, Pk.val [(36, 3)] 3])
    [0] [] [] 64 (by kernel_rfl) rfl (by kernel_rfl) ⟨.inl rfl, ⟨.inr (lull_ub _ _ _ _ _), ⟨.inr (lull_q _ _ _ _ _ _), ⟨.inr (lull_isv _ _ _), trivial⟩⟩⟩⟩
    snkAt0 snk0 ⟨BS.out, trivial⟩
      (OkL3.cons (fun a w X_ h => g_move (wanted_none rfl) (.inl rfl) h.1)
      (OkL3.cons (fun a w X_ h => g_call1 (wanted_none rfl) (by kernel_rfl) rfl (r_unpack_n HD.out h.1))
      (OkL3.cons (fun a w X_ h => g_move (wanted_none rfl) (.inl rfl) h.1)
      (OkL3.cons (fun a w X_ h => g_ext_q0 (wanted_none rfl) rfl h.1)
      (OkL3.cons (fun a w X_ h => g_ext_q1 (wanted_none rfl) rfl h.1)
      (OkL3.cons (alc_of zq rfl rfl rfl newQ)
      (OkL3.cons (⟨rfl, _, _, _, rfl, rfl, rfl, by kernel_rfl, row_q _ _ _ _⟩)
      (OkL3.cons (fun a w X_ h => g_move (wanted_none rfl) (.inr rfl) h.1)
      OkL3.nil)))))))) ?_
  rintro W7 X7 v33 - v34 - v32 - v35 - _ rfl g7 c7 ⟨L7, Z7, -⟩ r7 H7 _ rfl
  refine FinL3.done ?_
  simp only [Act.put, List.setIfInBounds_toArray, List.set_cons_zero, List.set_cons_succ]
  have N7 := hide (qk_of H7)
  have R7 := hide (And.intro Z7 r7)
  clear r7
  replace R5 := hide (X7.row out0 R5.out)
  replace BS := hide (BS.out.ext X7.ext)
  replace BEL := hide (X7.on BEL.out SZ.out none_le)
  replace SZ := hide BEL.out.size
  have SW7 := X7.size
  clear X7 H7
  go_upto_region 8 with fail
  refine wp_region_typed3 (tl := [isv (.bool false), isv (.bool true), isv (.pointer (some ⟨g5, 0, none⟩)), ipt (0 : Kp) (1 : Kp), isb (pkb (0 : Kp) (1 : Kp)), isv (.string (sob (pkb (0 : Kp) (1 : Kp)))), isv (.pointer (some ⟨g7, 0, none⟩)), qk (0 : Kp) (1 : Kp) (1 : Kp) ((0 : Kp) * (1 : Kp)), isv (undef)]) (pre := [(5, 2), (6, 0), (7, 6), (8, 0)])
    (plan := (Pk.val [(6, 0)] 0 :: Pk.val [(8, 0)] 0 :: Pk.val [(37, 0), (38, 0)] 1 :: Pk.val [(39, 1)] 1 :: Pk.val [(40, 1), (5, 2)] 3 :: Pk.val [(40, 1), (41, 3)] 4 :: Pk.val [(40, 1), (42, 4)] 5 :: Pk.val [(40, 1), (7, 6)] 7 :: Pk.val [(40, 1), (44, 7)] 4 :: Pk.val [(40, 1), (45, 4)] 5 :: Pk.val [(40, 1), (43, 5), (46, 5)] 1 :: Pk.val [(40, 1), (47, 1)] 1 :: Pk.val [(48, 1)] 1 :: Pk.val [(49, 1), (6, 0)] 0 :: Pk.val [(49, 1), (50, 0)] 1 :: Pk.val [(49, 1), (51, 1)] 1 :: Pk.val [(52, 1)] 8 :: Pk.val [(52, 1)] 8 :: Pk.val [(52, 1)] 8 :: Pk.val [(52, 1)] 8 :: Pk.val [(52, 1)] 8 :: Pk.val [(52, 1)] 8 :: Pk.val [(49, 1), (52, 1)] 1 :: Pk.val [(49, 1), (59, 1)] 1 :: Pk.val [(60, 1)] 1 :: Pk.val [(61, 1)] 1 :: Pk.val [(61, 1), (62, 1)] 1 :: Pk.val [(63, 1)] 1 :: []))
    [4] [] [] (by kernel_rfl) 64 (by kernel_rfl) rfl (by kernel_rfl) ⟨.inr (lull_isv _ _ _), ⟨.inr (lull_isv _ _ _), ⟨.inr (lull_isv _ _ _), ⟨.inr (lull_p _ _ _ _), ⟨.inl rfl, ⟨.inr (lull_isv _ _ _), ⟨.inr (lull_isv _ _ _), ⟨.inr (lull_q _ _ _ _ _ _), ⟨.inr (lull_isv _ _ _), trivial⟩⟩⟩⟩⟩⟩⟩⟩⟩
    snkAt0 snk0 ⟨rfl, ⟨rfl, ⟨rfl, ⟨rfl, trivial⟩⟩⟩⟩
      (OkL3.cons (fun a w X_ h => g_move (wanted_none rfl) (.inl rfl) h.1)
      (OkL3.cons (fun a w X_ h => g_move (wanted_none rfl) (.inl rfl) h.1)
      (OkL3.cons (fun a w X_ h => g_eqb (wanted_none rfl) rfl h.1 h.2.1 rfl)
      (OkL3.cons (fun a w X_ h => g_move (wanted_none rfl) (.inl rfl) h.1)
      (OkL3.cons (fun a w X_ h => g_ldp (wanted_some rfl rfl h.1) rfl h.2.1 (X_.at_ R5.out.1 out0 R5.out.2))
      (OkL3.cons (fun a w X_ h => g_call1 (wanted_some rfl rfl h.1) (by kernel_rfl) rfl (h_bytes h.2.1))
      (OkL3.cons (fun a w X_ h => g_str (wanted_some rfl rfl h.1) rfl h.2.1 rfl)
      (OkL3.cons (fun a w X_ h => g_ldq N7.out (wanted_some rfl rfl h.1) rfl h.2.1 (X_.at_ R7.out.1 out0 R7.out.2))
      (OkL3.cons (fun a w X_ h => g_call1 (wanted_some rfl rfl h.1) (by kernel_rfl) rfl (q_packk h.2.1))
      (OkL3.cons (fun a w X_ h => g_str (wanted_some rfl rfl h.1) rfl h.2.1 rfl)
      (OkL3.cons (fun a w X_ h => g_eqs (wanted_some rfl rfl h.1) rfl h.2.1 h.2.2.1 (sob_t rfl))
      (OkL3.cons (fun a w X_ h => g_pick (wanted_none rfl) rfl h.1 h.2.1)
      (OkL3.cons (fun a w X_ h => g_move (wanted_none rfl) (.inl rfl) h.1)
      (OkL3.cons (fun a w X_ h => g_move (wanted_some rfl rfl h.1) (.inl rfl) h.2.1)
      (OkL3.cons (fun a w X_ h => g_not (wanted_some rfl rfl h.1) rfl h.2.1 rfl)
      (OkL3.cons (fun a w X_ h => g_move (wanted_some rfl rfl h.1) (.inl rfl) h.2.1)
      (OkL3.cons (fun a w X_ h => g_skip rfl rfl h.1 rfl)
      (OkL3.cons (fun a w X_ h => g_skip rfl rfl h.1 rfl)
      (OkL3.cons (fun a w X_ h => g_skip rfl rfl h.1 rfl)
      (OkL3.cons (fun a w X_ h => g_skip rfl rfl h.1 rfl)
      (OkL3.cons (fun a w X_ h => g_skip rfl rfl h.1 rfl)
      (OkL3.cons (fun a w X_ h => g_skip rfl rfl h.1 rfl)
      (OkL3.cons (fun a w X_ h => g_pick (wanted_some rfl rfl h.1) rfl h.2.1 rfl)
      (OkL3.cons (fun a w X_ h => g_pick (wanted_none rfl) rfl h.1 h.2.1)
      (OkL3.cons (fun a w X_ h => g_move (wanted_none rfl) (.inl rfl) h.1)
      (OkL3.cons (fun a w X_ h => g_call0 (wanted_some rfl rfl h.1) (by kernel_rfl) rfl (awake_h))
      (OkL3.cons (fun a w X_ h => g_pick (wanted_none rfl) rfl h.1 h.2.1)
      (OkL3.cons (fun a w X_ h => g_move (wanted_none rfl) (.inr rfl) h.1)
      OkL3.nil)))))))))))))))))))))))))))) ?_
  rintro W8 X8 _ rfl _ rfl _ rfl _ rfl _ rfl v42 - _ rfl v44 - v45 - _ rfl _ rfl _ rfl _ rfl _ rfl _ rfl _ rfl _ rfl _ rfl _ rfl _ rfl _ rfl _ rfl _ rfl _ rfl _ rfl _ rfl _ rfl _ rfl
  refine FinL3.done ?_
  simp only [Act.put, List.setIfInBounds_toArray, List.set_cons_zero, List.set_cons_succ]
  replace R5 := hide (X8.row out0 R5.out)
  replace R7 := hide (X8.row out0 R7.out)
  replace BS := hide (BS.out.ext X8.ext)
  replace BEL := hide (X8.on BEL.out SZ.out none_le)
  replace SZ := hide BEL.out.size
  have SW8 := X8.size
  clear X8
  go_wp2
  go_ret
  exact ⟨rfl, BEL.out⟩
set_option linter.unusedSimpArgs false in
set_option maxRecDepth 100000 in
set_option maxHeartbeats 4000000 in
theorem pr_some (u : Value) (l : List Nat) (X Y : Kp) {w : World} (h : BsAt w u l) (hl : l.length = 32) (hd : dec l = some (X, Y)) (LDe : LaidW 3 eiw w) (LDm : LaidW 0 rmw w) : Calls Tryd.prog 3 #[u, .bool false] w fun e w' => e = .returned (.bool true) ∧ Below w.heap.size w w' := by
  replace LDe := hide LDe
  replace LDm := hide LDm
  have HD := hide hd
  have HB := hide (dec_bytes hd)
  have BS := hide h
  obtain ⟨ao, cp, rfl, _, hcm⟩ := h.len
  rw [hl] at BS ⊢
  clear h hd hl hcm
  have BEL := hide (Below.refl w.heap.size w)
  have SZ := hide BEL.out.size
  go_enter Tryd.func3, Tryd.ntmps3
  go_upto_region 6 with fail
  refine wp_region_lined3 (tl := [isb l, isv (.tuple #[.agg (pe X (Y - 1)), .bool true]), ipt X Y, isv (.bool true)]) (pre := [(0, 0)])
    (plan := [Pk.val [(0, 0)] 0, Pk.val [(28, 0)] 1, Pk.val [(29, 1)] 1, Pk.val [(27, 1)] 2, Pk.val [(27, 1)] 3, Pk.alc 30 8, Pk.sto 5 30 2, Pk.val [(31, 3)] 3])
    [0] [] [] 64 (by kernel_rfl) rfl (by kernel_rfl) ⟨.inl rfl, ⟨.inr (lull_isv _ _ _), ⟨.inr (lull_p _ _ _ _), ⟨.inr (lull_isv _ _ _), trivial⟩⟩⟩⟩
    snkAt0 snk0 ⟨BS.out, trivial⟩
      (OkL3.cons (fun a w X_ h => g_move (wanted_none rfl) (.inl rfl) h.1)
      (OkL3.cons (fun a w X_ h => g_call1 (wanted_none rfl) (by kernel_rfl) rfl (p_from_s h.1 (LDe.out.step (X_.on BEL.out SZ.out none_le)) (LDm.out.step (X_.on BEL.out SZ.out none_le)) HD.out))
      (OkL3.cons (fun a w X_ h => g_move (wanted_none rfl) (.inl rfl) h.1)
      (OkL3.cons (fun a w X_ h => g_ext (wanted_none rfl) rfl h.1 rfl rfl)
      (OkL3.cons (fun a w X_ h => g_ext (wanted_none rfl) rfl h.1 rfl rfl)
      (OkL3.cons (alc_of zp rfl rfl rfl newP)
      (OkL3.cons (⟨rfl, _, _, _, rfl, rfl, rfl, by kernel_rfl, row_p _ _⟩)
      (OkL3.cons (fun a w X_ h => g_move (wanted_none rfl) (.inr rfl) h.1)
      OkL3.nil)))))))) ?_
  rintro W6 X6 v28 - _ rfl _ rfl _ rfl _ rfl g5 c5 ⟨L5, Z5, -⟩ r5 H5 _ rfl
  refine FinL3.done ?_
  simp only [Act.put, List.setIfInBounds_toArray, List.set_cons_zero, List.set_cons_succ]
  obtain rfl : c5 = pe X (Y - 1) := agg_inj H5
  have R5 := hide (And.intro Z5 r5)
  clear r5
  replace BS := hide (BS.out.ext X6.ext)
  replace BEL := hide (X6.on BEL.out SZ.out none_le)
  replace SZ := hide BEL.out.size
  have SW6 := X6.size
  clear X6 H5
  go_upto_region 7 with fail
  refine wp_region_lined3 (tl := [isb l, upb X Y true, qk X Y (1 : Kp) (X * Y), isv (.bool true)]) (pre := [(0, 0)])
    (plan := [Pk.val [(0, 0)] 0, Pk.val [(33, 0)] 1, Pk.val [(34, 1)] 1, Pk.val [(32, 1)] 2, Pk.val [(32, 1)] 3, Pk.alc 36 64, Pk.sto 5 35 2, Pk.val [(36, 3)] 3])
    [0] [] [] 64 (by kernel_rfl) rfl (by kernel_rfl) ⟨.inl rfl, ⟨.inr (lull_ub _ _ _ _ _), ⟨.inr (lull_q _ _ _ _ _ _), ⟨.inr (lull_isv _ _ _), trivial⟩⟩⟩⟩
    snkAt0 snk0 ⟨BS.out, trivial⟩
      (OkL3.cons (fun a w X_ h => g_move (wanted_none rfl) (.inl rfl) h.1)
      (OkL3.cons (fun a w X_ h => g_call1 (wanted_none rfl) (by kernel_rfl) rfl (r_unpack_s HD.out h.1))
      (OkL3.cons (fun a w X_ h => g_move (wanted_none rfl) (.inl rfl) h.1)
      (OkL3.cons (fun a w X_ h => g_ext_q0 (wanted_none rfl) rfl h.1)
      (OkL3.cons (fun a w X_ h => g_ext_q1 (wanted_none rfl) rfl h.1)
      (OkL3.cons (alc_of zq rfl rfl rfl newQ)
      (OkL3.cons (⟨rfl, _, _, _, rfl, rfl, rfl, by kernel_rfl, row_q _ _ _ _⟩)
      (OkL3.cons (fun a w X_ h => g_move (wanted_none rfl) (.inr rfl) h.1)
      OkL3.nil)))))))) ?_
  rintro W7 X7 v33 - v34 - v32 - v35 - _ rfl g7 c7 ⟨L7, Z7, -⟩ r7 H7 _ rfl
  refine FinL3.done ?_
  simp only [Act.put, List.setIfInBounds_toArray, List.set_cons_zero, List.set_cons_succ]
  have N7 := hide (qk_of H7)
  have R7 := hide (And.intro Z7 r7)
  clear r7
  replace R5 := hide (X7.row out0 R5.out)
  replace BS := hide (BS.out.ext X7.ext)
  replace BEL := hide (X7.on BEL.out SZ.out none_le)
  replace SZ := hide BEL.out.size
  have SW7 := X7.size
  clear X7 H7
  go_upto_region 8 with fail
  refine wp_region_typed3 (tl := [isv (.bool true), isv (.pointer (some ⟨g5, 0, none⟩)), ipt X Y, isb (pkb X Y), isv (.string (sob (pkb X Y))), isv (.pointer (some ⟨g7, 0, none⟩)), qk X Y (1 : Kp) (X * Y), isv (.bool false), isb l, isv (.string (sob l))]) (pre := [(0, 8), (5, 1), (6, 0), (7, 5), (8, 0)])
    (plan := (Pk.val [(6, 0)] 0 :: Pk.val [(8, 0)] 0 :: Pk.val [(37, 0), (38, 0)] 0 :: Pk.val [(39, 0)] 0 :: Pk.val [(40, 0), (5, 1)] 2 :: Pk.val [(40, 0), (41, 2)] 3 :: Pk.val [(40, 0), (42, 3)] 4 :: Pk.val [(40, 0), (7, 5)] 6 :: Pk.val [(40, 0), (44, 6)] 3 :: Pk.val [(40, 0), (45, 3)] 4 :: Pk.val [(40, 0), (43, 4), (46, 4)] 0 :: Pk.val [(40, 0), (47, 0)] 0 :: Pk.val [(48, 0)] 0 :: Pk.val [(49, 0), (6, 0)] 0 :: Pk.val [(49, 0), (50, 0)] 7 :: Pk.val [(49, 0), (51, 7)] 7 :: Pk.val [(52, 7), (5, 1)] 2 :: Pk.val [(52, 7), (53, 2)] 3 :: Pk.val [(52, 7), (54, 3)] 4 :: Pk.val [(52, 7), (0, 8)] 8 :: Pk.val [(52, 7), (56, 8)] 9 :: Pk.val [(52, 7), (55, 4), (57, 9)] 0 :: Pk.val [(49, 0), (52, 7), (58, 0)] 0 :: Pk.val [(49, 0), (59, 0)] 0 :: Pk.val [(60, 0)] 0 :: Pk.val [(61, 0)] 0 :: Pk.val [(61, 0), (62, 0)] 0 :: Pk.val [(63, 0)] 0 :: []))
    [3, 8] [] [] (by kernel_rfl) 64 (by kernel_rfl) rfl (by kernel_rfl) ⟨.inr (lull_isv _ _ _), ⟨.inr (lull_isv _ _ _), ⟨.inr (lull_p _ _ _ _), ⟨.inl rfl, ⟨.inr (lull_isv _ _ _), ⟨.inr (lull_isv _ _ _), ⟨.inr (lull_q _ _ _ _ _ _), ⟨.inr (lull_isv _ _ _), ⟨.inl rfl, ⟨.inr (lull_isv _ _ _), trivial⟩⟩⟩⟩⟩⟩⟩⟩⟩⟩
    snkAt0 snk0 ⟨BS.out, ⟨rfl, ⟨rfl, ⟨rfl, ⟨rfl, trivial⟩⟩⟩⟩⟩
      (OkL3.cons (fun a w X_ h => g_move (wanted_none rfl) (.inl rfl) h.1)
      (OkL3.cons (fun a w X_ h => g_move (wanted_none rfl) (.inl rfl) h.1)
      (OkL3.cons (fun a w X_ h => g_eqb (wanted_none rfl) rfl h.1 h.2.1 rfl)
      (OkL3.cons (fun a w X_ h => g_move (wanted_none rfl) (.inl rfl) h.1)
      (OkL3.cons (fun a w X_ h => g_ldp (wanted_some rfl rfl h.1) rfl h.2.1 (X_.at_ R5.out.1 out0 R5.out.2))
      (OkL3.cons (fun a w X_ h => g_call1 (wanted_some rfl rfl h.1) (by kernel_rfl) rfl (h_bytes h.2.1))
      (OkL3.cons (fun a w X_ h => g_str (wanted_some rfl rfl h.1) rfl h.2.1 rfl)
      (OkL3.cons (fun a w X_ h => g_ldq N7.out (wanted_some rfl rfl h.1) rfl h.2.1 (X_.at_ R7.out.1 out0 R7.out.2))
      (OkL3.cons (fun a w X_ h => g_call1 (wanted_some rfl rfl h.1) (by kernel_rfl) rfl (q_packk h.2.1))
      (OkL3.cons (fun a w X_ h => g_str (wanted_some rfl rfl h.1) rfl h.2.1 rfl)
      (OkL3.cons (fun a w X_ h => g_eqs (wanted_some rfl rfl h.1) rfl h.2.1 h.2.2.1 (sob_t rfl))
      (OkL3.cons (fun a w X_ h => g_pick (wanted_none rfl) rfl h.1 h.2.1)
      (OkL3.cons (fun a w X_ h => g_move (wanted_none rfl) (.inl rfl) h.1)
      (OkL3.cons (fun a w X_ h => g_move (wanted_some rfl rfl h.1) (.inl rfl) h.2.1)
      (OkL3.cons (fun a w X_ h => g_not (wanted_some rfl rfl h.1) rfl h.2.1 rfl)
      (OkL3.cons (fun a w X_ h => g_move (wanted_some rfl rfl h.1) (.inl rfl) h.2.1)
      (OkL3.cons (fun a w X_ h => g_ldp (wanted_some rfl rfl h.1) rfl h.2.1 (X_.at_ R5.out.1 out0 R5.out.2))
      (OkL3.cons (fun a w X_ h => g_call1 (wanted_some rfl rfl h.1) (by kernel_rfl) rfl (h_bytes h.2.1))
      (OkL3.cons (fun a w X_ h => g_str (wanted_some rfl rfl h.1) rfl h.2.1 rfl)
      (OkL3.cons (fun a w X_ h => g_move (wanted_some rfl rfl h.1) (.inl rfl) h.2.1)
      (OkL3.cons (fun a w X_ h => g_str (wanted_some rfl rfl h.1) rfl h.2.1 rfl)
      (OkL3.cons (fun a w X_ h => g_eqs (wanted_some rfl rfl h.1) rfl h.2.1 h.2.2.1 (sob_t HB.out))
      (OkL3.cons (fun a w X_ h => g_pick (wanted_some rfl rfl h.1) rfl h.2.1 h.2.2.1)
      (OkL3.cons (fun a w X_ h => g_pick (wanted_none rfl) rfl h.1 h.2.1)
      (OkL3.cons (fun a w X_ h => g_move (wanted_none rfl) (.inl rfl) h.1)
      (OkL3.cons (fun a w X_ h => g_call0 (wanted_some rfl rfl h.1) (by kernel_rfl) rfl (awake_h))
      (OkL3.cons (fun a w X_ h => g_pick (wanted_none rfl) rfl h.1 h.2.1)
      (OkL3.cons (fun a w X_ h => g_move (wanted_none rfl) (.inr rfl) h.1)
      OkL3.nil)))))))))))))))))))))))))))) ?_
  rintro W8 X8 _ rfl _ rfl _ rfl _ rfl _ rfl v42 - _ rfl v44 - v45 - _ rfl _ rfl _ rfl _ rfl _ rfl _ rfl _ rfl _ rfl v54 - _ rfl v56 - _ rfl _ rfl _ rfl _ rfl _ rfl _ rfl _ rfl _ rfl
  refine FinL3.done ?_
  simp only [Act.put, List.setIfInBounds_toArray, List.set_cons_zero, List.set_cons_succ]
  replace R5 := hide (X8.row out0 R5.out)
  replace R7 := hide (X8.row out0 R7.out)
  replace BS := hide (BS.out.ext X8.ext)
  replace BEL := hide (X8.on BEL.out SZ.out none_le)
  replace SZ := hide BEL.out.size
  have SW8 := X8.size
  clear X8
  go_wp2
  go_ret
  exact ⟨rfl, BEL.out⟩
set_option linter.unusedSimpArgs false in
set_option maxRecDepth 100000 in
set_option maxHeartbeats 4000000 in
theorem pr_none (u : Value) (l : List Nat) {w : World} (h : BsAt w u l) (hl : l.length = 32) (hd : dec l = none) (LDe : LaidW 3 eiw w) (LDm : LaidW 0 rmw w) : Calls Tryd.prog 3 #[u, .bool false] w fun e w' => e = .returned (.bool true) ∧ Below w.heap.size w w' := by
  replace LDe := hide LDe
  replace LDm := hide LDm
  have HD := hide hd
  have BS := hide h
  obtain ⟨ao, cp, rfl, _, hcm⟩ := h.len
  rw [hl] at BS ⊢
  clear h hd hl hcm
  have BEL := hide (Below.refl w.heap.size w)
  have SZ := hide BEL.out.size
  go_enter Tryd.func3, Tryd.ntmps3
  go_upto_region 6 with fail
  refine wp_region_lined3 (tl := [isb l, isv (.tuple #[.agg (pe (0 : Kp) ((1 : Kp) - 1)), .bool false]), ipt (0 : Kp) (1 : Kp), isv (.bool false)]) (pre := [(0, 0)])
    (plan := [Pk.val [(0, 0)] 0, Pk.val [(28, 0)] 1, Pk.val [(29, 1)] 1, Pk.val [(27, 1)] 2, Pk.val [(27, 1)] 3, Pk.alc 30 8, Pk.sto 5 30 2, Pk.val [(31, 3)] 3])
    [0] [] [] 64 (by kernel_rfl) rfl (by kernel_rfl) ⟨.inl rfl, ⟨.inr (lull_isv _ _ _), ⟨.inr (lull_p _ _ _ _), ⟨.inr (lull_isv _ _ _), trivial⟩⟩⟩⟩
    snkAt0 snk0 ⟨BS.out, trivial⟩
      (OkL3.cons (fun a w X_ h => g_move (wanted_none rfl) (.inl rfl) h.1)
      (OkL3.cons (fun a w X_ h => g_call1 (wanted_none rfl) (by kernel_rfl) rfl (p_from_n h.1 (LDe.out.step (X_.on BEL.out SZ.out none_le)) (LDm.out.step (X_.on BEL.out SZ.out none_le)) HD.out))
      (OkL3.cons (fun a w X_ h => g_move (wanted_none rfl) (.inl rfl) h.1)
      (OkL3.cons (fun a w X_ h => g_ext (wanted_none rfl) rfl h.1 rfl rfl)
      (OkL3.cons (fun a w X_ h => g_ext (wanted_none rfl) rfl h.1 rfl rfl)
      (OkL3.cons (alc_of zp rfl rfl rfl newP)
      (OkL3.cons (⟨rfl, _, _, _, rfl, rfl, rfl, by kernel_rfl, row_p _ _⟩)
      (OkL3.cons (fun a w X_ h => g_move (wanted_none rfl) (.inr rfl) h.1)
      OkL3.nil)))))))) ?_
  rintro W6 X6 v28 - _ rfl _ rfl _ rfl _ rfl g5 c5 ⟨L5, Z5, -⟩ r5 H5 _ rfl
  refine FinL3.done ?_
  simp only [Act.put, List.setIfInBounds_toArray, List.set_cons_zero, List.set_cons_succ]
  obtain rfl : c5 = pe (0 : Kp) ((1 : Kp) - 1) := agg_inj H5
  have R5 := hide (And.intro Z5 r5)
  clear r5
  replace BS := hide (BS.out.ext X6.ext)
  replace BEL := hide (X6.on BEL.out SZ.out none_le)
  replace SZ := hide BEL.out.size
  have SW6 := X6.size
  clear X6 H5
  go_upto_region 7 with fail
  refine wp_region_lined3 (tl := [isb l, upb (0 : Kp) (1 : Kp) false, qk (0 : Kp) (1 : Kp) (1 : Kp) ((0 : Kp) * (1 : Kp)), isv (.bool false)]) (pre := [(0, 0)])
    (plan := [Pk.val [(0, 0)] 0, Pk.val [(33, 0)] 1, Pk.val [(34, 1)] 1, Pk.val [(32, 1)] 2, Pk.val [(32, 1)] 3, Pk.alc 36 64, Pk.sto 5 35 2, Pk.val [(36, 3)] 3])
    [0] [] [] 64 (by kernel_rfl) rfl (by kernel_rfl) ⟨.inl rfl, ⟨.inr (lull_ub _ _ _ _ _), ⟨.inr (lull_q _ _ _ _ _ _), ⟨.inr (lull_isv _ _ _), trivial⟩⟩⟩⟩
    snkAt0 snk0 ⟨BS.out, trivial⟩
      (OkL3.cons (fun a w X_ h => g_move (wanted_none rfl) (.inl rfl) h.1)
      (OkL3.cons (fun a w X_ h => g_call1 (wanted_none rfl) (by kernel_rfl) rfl (r_unpack_n HD.out h.1))
      (OkL3.cons (fun a w X_ h => g_move (wanted_none rfl) (.inl rfl) h.1)
      (OkL3.cons (fun a w X_ h => g_ext_q0 (wanted_none rfl) rfl h.1)
      (OkL3.cons (fun a w X_ h => g_ext_q1 (wanted_none rfl) rfl h.1)
      (OkL3.cons (alc_of zq rfl rfl rfl newQ)
      (OkL3.cons (⟨rfl, _, _, _, rfl, rfl, rfl, by kernel_rfl, row_q _ _ _ _⟩)
      (OkL3.cons (fun a w X_ h => g_move (wanted_none rfl) (.inr rfl) h.1)
      OkL3.nil)))))))) ?_
  rintro W7 X7 v33 - v34 - v32 - v35 - _ rfl g7 c7 ⟨L7, Z7, -⟩ r7 H7 _ rfl
  refine FinL3.done ?_
  simp only [Act.put, List.setIfInBounds_toArray, List.set_cons_zero, List.set_cons_succ]
  have N7 := hide (qk_of H7)
  have R7 := hide (And.intro Z7 r7)
  clear r7
  replace R5 := hide (X7.row out0 R5.out)
  replace BS := hide (BS.out.ext X7.ext)
  replace BEL := hide (X7.on BEL.out SZ.out none_le)
  replace SZ := hide BEL.out.size
  have SW7 := X7.size
  clear X7 H7
  go_upto_region 8 with fail
  refine wp_region_typed3 (tl := [isv (.bool false), isv (.bool true), isv (.pointer (some ⟨g5, 0, none⟩)), ipt (0 : Kp) (1 : Kp), isb (pkb (0 : Kp) (1 : Kp)), isv (.string (sob (pkb (0 : Kp) (1 : Kp)))), isv (.pointer (some ⟨g7, 0, none⟩)), qk (0 : Kp) (1 : Kp) (1 : Kp) ((0 : Kp) * (1 : Kp)), isv (undef)]) (pre := [(5, 2), (6, 0), (7, 6), (8, 0)])
    (plan := (Pk.val [(6, 0)] 0 :: Pk.val [(8, 0)] 0 :: Pk.val [(37, 0), (38, 0)] 1 :: Pk.val [(39, 1)] 1 :: Pk.val [(40, 1), (5, 2)] 3 :: Pk.val [(40, 1), (41, 3)] 4 :: Pk.val [(40, 1), (42, 4)] 5 :: Pk.val [(40, 1), (7, 6)] 7 :: Pk.val [(40, 1), (44, 7)] 4 :: Pk.val [(40, 1), (45, 4)] 5 :: Pk.val [(40, 1), (43, 5), (46, 5)] 1 :: Pk.val [(40, 1), (47, 1)] 1 :: Pk.val [(48, 1)] 1 :: Pk.val [(49, 1), (6, 0)] 0 :: Pk.val [(49, 1), (50, 0)] 1 :: Pk.val [(49, 1), (51, 1)] 1 :: Pk.val [(52, 1)] 8 :: Pk.val [(52, 1)] 8 :: Pk.val [(52, 1)] 8 :: Pk.val [(52, 1)] 8 :: Pk.val [(52, 1)] 8 :: Pk.val [(52, 1)] 8 :: Pk.val [(49, 1), (52, 1)] 1 :: Pk.val [(49, 1), (59, 1)] 1 :: Pk.val [(60, 1)] 1 :: Pk.val [(61, 1)] 1 :: Pk.val [(61, 1), (62, 1)] 1 :: Pk.val [(63, 1)] 1 :: []))
    [4] [] [] (by kernel_rfl) 64 (by kernel_rfl) rfl (by kernel_rfl) ⟨.inr (lull_isv _ _ _), ⟨.inr (lull_isv _ _ _), ⟨.inr (lull_isv _ _ _), ⟨.inr (lull_p _ _ _ _), ⟨.inl rfl, ⟨.inr (lull_isv _ _ _), ⟨.inr (lull_isv _ _ _), ⟨.inr (lull_q _ _ _ _ _ _), ⟨.inr (lull_isv _ _ _), trivial⟩⟩⟩⟩⟩⟩⟩⟩⟩
    snkAt0 snk0 ⟨rfl, ⟨rfl, ⟨rfl, ⟨rfl, trivial⟩⟩⟩⟩
      (OkL3.cons (fun a w X_ h => g_move (wanted_none rfl) (.inl rfl) h.1)
      (OkL3.cons (fun a w X_ h => g_move (wanted_none rfl) (.inl rfl) h.1)
      (OkL3.cons (fun a w X_ h => g_eqb (wanted_none rfl) rfl h.1 h.2.1 rfl)
      (OkL3.cons (fun a w X_ h => g_move (wanted_none rfl) (.inl rfl) h.1)
      (OkL3.cons (fun a w X_ h => g_ldp (wanted_some rfl rfl h.1) rfl h.2.1 (X_.at_ R5.out.1 out0 R5.out.2))
      (OkL3.cons (fun a w X_ h => g_call1 (wanted_some rfl rfl h.1) (by kernel_rfl) rfl (h_bytes h.2.1))
      (OkL3.cons (fun a w X_ h => g_str (wanted_some rfl rfl h.1) rfl h.2.1 rfl)
      (OkL3.cons (fun a w X_ h => g_ldq N7.out (wanted_some rfl rfl h.1) rfl h.2.1 (X_.at_ R7.out.1 out0 R7.out.2))
      (OkL3.cons (fun a w X_ h => g_call1 (wanted_some rfl rfl h.1) (by kernel_rfl) rfl (q_packk h.2.1))
      (OkL3.cons (fun a w X_ h => g_str (wanted_some rfl rfl h.1) rfl h.2.1 rfl)
      (OkL3.cons (fun a w X_ h => g_eqs (wanted_some rfl rfl h.1) rfl h.2.1 h.2.2.1 (sob_t rfl))
      (OkL3.cons (fun a w X_ h => g_pick (wanted_none rfl) rfl h.1 h.2.1)
      (OkL3.cons (fun a w X_ h => g_move (wanted_none rfl) (.inl rfl) h.1)
      (OkL3.cons (fun a w X_ h => g_move (wanted_some rfl rfl h.1) (.inl rfl) h.2.1)
      (OkL3.cons (fun a w X_ h => g_not (wanted_some rfl rfl h.1) rfl h.2.1 rfl)
      (OkL3.cons (fun a w X_ h => g_move (wanted_some rfl rfl h.1) (.inl rfl) h.2.1)
      (OkL3.cons (fun a w X_ h => g_skip rfl rfl h.1 rfl)
      (OkL3.cons (fun a w X_ h => g_skip rfl rfl h.1 rfl)
      (OkL3.cons (fun a w X_ h => g_skip rfl rfl h.1 rfl)
      (OkL3.cons (fun a w X_ h => g_skip rfl rfl h.1 rfl)
      (OkL3.cons (fun a w X_ h => g_skip rfl rfl h.1 rfl)
      (OkL3.cons (fun a w X_ h => g_skip rfl rfl h.1 rfl)
      (OkL3.cons (fun a w X_ h => g_pick (wanted_some rfl rfl h.1) rfl h.2.1 rfl)
      (OkL3.cons (fun a w X_ h => g_pick (wanted_none rfl) rfl h.1 h.2.1)
      (OkL3.cons (fun a w X_ h => g_move (wanted_none rfl) (.inl rfl) h.1)
      (OkL3.cons (fun a w X_ h => g_call0 (wanted_some rfl rfl h.1) (by kernel_rfl) rfl (awake_h))
      (OkL3.cons (fun a w X_ h => g_pick (wanted_none rfl) rfl h.1 h.2.1)
      (OkL3.cons (fun a w X_ h => g_move (wanted_none rfl) (.inr rfl) h.1)
      OkL3.nil)))))))))))))))))))))))))))) ?_
  rintro W8 X8 _ rfl _ rfl _ rfl _ rfl _ rfl v42 - _ rfl v44 - v45 - _ rfl _ rfl _ rfl _ rfl _ rfl _ rfl _ rfl _ rfl _ rfl _ rfl _ rfl _ rfl _ rfl _ rfl _ rfl _ rfl _ rfl _ rfl _ rfl
  refine FinL3.done ?_
  simp only [Act.put, List.setIfInBounds_toArray, List.set_cons_zero, List.set_cons_succ]
  replace R5 := hide (X8.row out0 R5.out)
  replace R7 := hide (X8.row out0 R7.out)
  replace BS := hide (BS.out.ext X8.ext)
  replace BEL := hide (X8.on BEL.out SZ.out none_le)
  replace SZ := hide BEL.out.size
  have SW8 := X8.size
  clear X8
  go_wp2
  go_ret
  exact ⟨rfl, BEL.out⟩
set_option linter.unusedSimpArgs false in
set_option maxRecDepth 100000 in
set_option maxHeartbeats 4000000 in
theorem pr_osome (u : Value) (l : List Nat) (X Y : Kp) {w : World} (h : BsAt w u l) (hl : l.length = 32) (hd : dec (l.set 31 (orb (l.getD 31 0))) = some (X, Y)) (LDe : LaidW 3 eiw w) (LDm : LaidW 0 rmw w) : Calls Tryd.prog 3 #[u, .bool true] w fun e w' => e = .returned (.bool true) ∧ Below w.heap.size w w' := by
  replace LDe := hide LDe
  replace LDm := hide LDm
  have HD := hide hd
  have HB := hide (dec_bytes hd)
  have BS := hide h
  have H := hide h
  have hl31 := h.lim 31
  obtain ⟨ao, cp, rfl, _, hcm⟩ := h.len
  rw [hl] at H ⊢
  have HL := hide hl
  clear BS h hd hl
  go_enter Tryd.func3, Tryd.ntmps3
  have BE := hide ((Below.refl w.heap.size w).alloc (Nat.le_refl _) (.cells #[] 5))
  go_wp2_with (at_builtin; refine wpList_append_b rfl (.tmp 19) (.tmp 20) rfl (base := w.heap.size) (l := []) (m := l) own_none (H.out.ext BE.out) (by rw [HL.out]; decide) (by simp) ?_)
  intro u1 w1 o1 g1
  have b1 : Below w.heap.size w w1 := BE.out.grown g1 (by simp) (by simp [Value.ownBlock])
  have hl1 := HL.out
  obtain ⟨g, cap, rfl, hg1, hg2, hcap, hcm2⟩ := o1.form (by omega)
  have c31 : w1.cell? ⟨g, 31, none⟩ = some (.int .u8 ((l.getD 31 0 : Nat) : Int)) := by rw [o1.row.cellAt 31 (by omega), nv_get l 31 (by omega)]
  have f31 := o1.row.frozenAt 31
  have e1 := bits_orb _ hl31
  have OA0 : BsAt _ _ (l.set 31 (orb (l.getD 31 0))) := (o1.set 31 (orb (l.getD 31 0)) (orb_lt hl31)).at
  have BS := hide OA0
  have BEL := hide (Below.setCell b1 (p := ⟨g, 31, none⟩) hg1 (.int .u8 ((orb (l.getD 31 0) : Nat) : Int)))
  rw [hl1] at BS hcap ⊢
  obtain ⟨M, hM⟩ : ∃ M, l.set 31 (orb (l.getD 31 0)) = M := ⟨_, rfl⟩
  rw [hM] at BS HD HB
  clear hM OA0
  generalize l.getD 31 0 = x31 at *
  generalize orb x31 = z31 at *
  clear hl31 HL hl1 o1 b1 g1 H BE
  go_upto_region 6 with fail
  generalize w1.setCell ⟨g, 31, none⟩ (.int .u8 (z31 : Int)) = W5 at *
  have SZ := hide BEL.out.size
  clear e1 f31 c31 hg2 hcap hcm2 hg1
  refine wp_region_lined3 (tl := [isb M, isv (.tuple #[.agg (pe X (Y - 1)), .bool true]), ipt X Y, isv (.bool true)]) (pre := [(0, 0)])
    (plan := [Pk.val [(0, 0)] 0, Pk.val [(28, 0)] 1, Pk.val [(29, 1)] 1, Pk.val [(27, 1)] 2, Pk.val [(27, 1)] 3, Pk.alc 30 8, Pk.sto 5 30 2, Pk.val [(31, 3)] 3])
    [0] [] [] 64 (by kernel_rfl) rfl (by kernel_rfl) ⟨.inl rfl, ⟨.inr (lull_isv _ _ _), ⟨.inr (lull_p _ _ _ _), ⟨.inr (lull_isv _ _ _), trivial⟩⟩⟩⟩
    snkAt0 snk0 ⟨BS.out, trivial⟩
      (OkL3.cons (fun a w X_ h => g_move (wanted_none rfl) (.inl rfl) h.1)
      (OkL3.cons (fun a w X_ h => g_call1 (wanted_none rfl) (by kernel_rfl) rfl (p_from_s h.1 (LDe.out.step (X_.on BEL.out SZ.out none_le)) (LDm.out.step (X_.on BEL.out SZ.out none_le)) HD.out))
      (OkL3.cons (fun a w X_ h => g_move (wanted_none rfl) (.inl rfl) h.1)
      (OkL3.cons (fun a w X_ h => g_ext (wanted_none rfl) rfl h.1 rfl rfl)
      (OkL3.cons (fun a w X_ h => g_ext (wanted_none rfl) rfl h.1 rfl rfl)
      (OkL3.cons (alc_of zp rfl rfl rfl newP)
      (OkL3.cons (⟨rfl, _, _, _, rfl, rfl, rfl, by kernel_rfl, row_p _ _⟩)
      (OkL3.cons (fun a w X_ h => g_move (wanted_none rfl) (.inr rfl) h.1)
      OkL3.nil)))))))) ?_
  rintro W6 X6 v28 - _ rfl _ rfl _ rfl _ rfl g5 c5 ⟨L5, Z5, -⟩ r5 H5 _ rfl
  refine FinL3.done ?_
  simp only [Act.put, List.setIfInBounds_toArray, List.set_cons_zero, List.set_cons_succ]
  obtain rfl : c5 = pe X (Y - 1) := agg_inj H5
  have R5 := hide (And.intro Z5 r5)
  clear r5
  replace BS := hide (BS.out.ext X6.ext)
  replace BEL := hide (X6.on BEL.out SZ.out none_le)
  replace SZ := hide BEL.out.size
  have SW6 := X6.size
  clear X6 H5
  go_upto_region 7 with fail
  refine wp_region_lined3 (tl := [isb M, upb X Y true, qk X Y (1 : Kp) (X * Y), isv (.bool true)]) (pre := [(0, 0)])
    (plan := [Pk.val [(0, 0)] 0, Pk.val [(33, 0)] 1, Pk.val [(34, 1)] 1, Pk.val [(32, 1)] 2, Pk.val [(32, 1)] 3, Pk.alc 36 64, Pk.sto 5 35 2, Pk.val [(36, 3)] 3])
    [0] [] [] 64 (by kernel_rfl) rfl (by kernel_rfl) ⟨.inl rfl, ⟨.inr (lull_ub _ _ _ _ _), ⟨.inr (lull_q _ _ _ _ _ _), ⟨.inr (lull_isv _ _ _), trivial⟩⟩⟩⟩
    snkAt0 snk0 ⟨BS.out, trivial⟩
      (OkL3.cons (fun a w X_ h => g_move (wanted_none rfl) (.inl rfl) h.1)
      (OkL3.cons (fun a w X_ h => g_call1 (wanted_none rfl) (by kernel_rfl) rfl (r_unpack_s HD.out h.1))
      (OkL3.cons (fun a w X_ h => g_move (wanted_none rfl) (.inl rfl) h.1)
      (OkL3.cons (fun a w X_ h => g_ext_q0 (wanted_none rfl) rfl h.1)
      (OkL3.cons (fun a w X_ h => g_ext_q1 (wanted_none rfl) rfl h.1)
      (OkL3.cons (alc_of zq rfl rfl rfl newQ)
      (OkL3.cons (⟨rfl, _, _, _, rfl, rfl, rfl, by kernel_rfl, row_q _ _ _ _⟩)
      (OkL3.cons (fun a w X_ h => g_move (wanted_none rfl) (.inr rfl) h.1)
      OkL3.nil)))))))) ?_
  rintro W7 X7 v33 - v34 - v32 - v35 - _ rfl g7 c7 ⟨L7, Z7, -⟩ r7 H7 _ rfl
  refine FinL3.done ?_
  simp only [Act.put, List.setIfInBounds_toArray, List.set_cons_zero, List.set_cons_succ]
  have N7 := hide (qk_of H7)
  have R7 := hide (And.intro Z7 r7)
  clear r7
  replace R5 := hide (X7.row out0 R5.out)
  replace BS := hide (BS.out.ext X7.ext)
  replace BEL := hide (X7.on BEL.out SZ.out none_le)
  replace SZ := hide BEL.out.size
  have SW7 := X7.size
  clear X7 H7
  go_upto_region 8 with fail
  refine wp_region_typed3 (tl := [isv (.bool true), isv (.pointer (some ⟨g5, 0, none⟩)), ipt X Y, isb (pkb X Y), isv (.string (sob (pkb X Y))), isv (.pointer (some ⟨g7, 0, none⟩)), qk X Y (1 : Kp) (X * Y), isv (.bool false), isb M, isv (.string (sob M))]) (pre := [(0, 8), (5, 1), (6, 0), (7, 5), (8, 0)])
    (plan := (Pk.val [(6, 0)] 0 :: Pk.val [(8, 0)] 0 :: Pk.val [(37, 0), (38, 0)] 0 :: Pk.val [(39, 0)] 0 :: Pk.val [(40, 0), (5, 1)] 2 :: Pk.val [(40, 0), (41, 2)] 3 :: Pk.val [(40, 0), (42, 3)] 4 :: Pk.val [(40, 0), (7, 5)] 6 :: Pk.val [(40, 0), (44, 6)] 3 :: Pk.val [(40, 0), (45, 3)] 4 :: Pk.val [(40, 0), (43, 4), (46, 4)] 0 :: Pk.val [(40, 0), (47, 0)] 0 :: Pk.val [(48, 0)] 0 :: Pk.val [(49, 0), (6, 0)] 0 :: Pk.val [(49, 0), (50, 0)] 7 :: Pk.val [(49, 0), (51, 7)] 7 :: Pk.val [(52, 7), (5, 1)] 2 :: Pk.val [(52, 7), (53, 2)] 3 :: Pk.val [(52, 7), (54, 3)] 4 :: Pk.val [(52, 7), (0, 8)] 8 :: Pk.val [(52, 7), (56, 8)] 9 :: Pk.val [(52, 7), (55, 4), (57, 9)] 0 :: Pk.val [(49, 0), (52, 7), (58, 0)] 0 :: Pk.val [(49, 0), (59, 0)] 0 :: Pk.val [(60, 0)] 0 :: Pk.val [(61, 0)] 0 :: Pk.val [(61, 0), (62, 0)] 0 :: Pk.val [(63, 0)] 0 :: []))
    [3, 8] [] [] (by kernel_rfl) 64 (by kernel_rfl) rfl (by kernel_rfl) ⟨.inr (lull_isv _ _ _), ⟨.inr (lull_isv _ _ _), ⟨.inr (lull_p _ _ _ _), ⟨.inl rfl, ⟨.inr (lull_isv _ _ _), ⟨.inr (lull_isv _ _ _), ⟨.inr (lull_q _ _ _ _ _ _), ⟨.inr (lull_isv _ _ _), ⟨.inl rfl, ⟨.inr (lull_isv _ _ _), trivial⟩⟩⟩⟩⟩⟩⟩⟩⟩⟩
    snkAt0 snk0 ⟨BS.out, ⟨rfl, ⟨rfl, ⟨rfl, ⟨rfl, trivial⟩⟩⟩⟩⟩
      (OkL3.cons (fun a w X_ h => g_move (wanted_none rfl) (.inl rfl) h.1)
      (OkL3.cons (fun a w X_ h => g_move (wanted_none rfl) (.inl rfl) h.1)
      (OkL3.cons (fun a w X_ h => g_eqb (wanted_none rfl) rfl h.1 h.2.1 rfl)
      (OkL3.cons (fun a w X_ h => g_move (wanted_none rfl) (.inl rfl) h.1)
      (OkL3.cons (fun a w X_ h => g_ldp (wanted_some rfl rfl h.1) rfl h.2.1 (X_.at_ R5.out.1 out0 R5.out.2))
      (OkL3.cons (fun a w X_ h => g_call1 (wanted_some rfl rfl h.1) (by kernel_rfl) rfl (h_bytes h.2.1))
      (OkL3.cons (fun a w X_ h => g_str (wanted_some rfl rfl h.1) rfl h.2.1 rfl)
      (OkL3.cons (fun a w X_ h => g_ldq N7.out (wanted_some rfl rfl h.1) rfl h.2.1 (X_.at_ R7.out.1 out0 R7.out.2))
      (OkL3.cons (fun a w X_ h => g_call1 (wanted_some rfl rfl h.1) (by kernel_rfl) rfl (q_packk h.2.1))
      (OkL3.cons (fun a w X_ h => g_str (wanted_some rfl rfl h.1) rfl h.2.1 rfl)
      (OkL3.cons (fun a w X_ h => g_eqs (wanted_some rfl rfl h.1) rfl h.2.1 h.2.2.1 (sob_t rfl))
      (OkL3.cons (fun a w X_ h => g_pick (wanted_none rfl) rfl h.1 h.2.1)
      (OkL3.cons (fun a w X_ h => g_move (wanted_none rfl) (.inl rfl) h.1)
      (OkL3.cons (fun a w X_ h => g_move (wanted_some rfl rfl h.1) (.inl rfl) h.2.1)
      (OkL3.cons (fun a w X_ h => g_not (wanted_some rfl rfl h.1) rfl h.2.1 rfl)
      (OkL3.cons (fun a w X_ h => g_move (wanted_some rfl rfl h.1) (.inl rfl) h.2.1)
      (OkL3.cons (fun a w X_ h => g_ldp (wanted_some rfl rfl h.1) rfl h.2.1 (X_.at_ R5.out.1 out0 R5.out.2))
      (OkL3.cons (fun a w X_ h => g_call1 (wanted_some rfl rfl h.1) (by kernel_rfl) rfl (h_bytes h.2.1))
      (OkL3.cons (fun a w X_ h => g_str (wanted_some rfl rfl h.1) rfl h.2.1 rfl)
      (OkL3.cons (fun a w X_ h => g_move (wanted_some rfl rfl h.1) (.inl rfl) h.2.1)
      (OkL3.cons (fun a w X_ h => g_str (wanted_some rfl rfl h.1) rfl h.2.1 rfl)
      (OkL3.cons (fun a w X_ h => g_eqs (wanted_some rfl rfl h.1) rfl h.2.1 h.2.2.1 (sob_t HB.out))
      (OkL3.cons (fun a w X_ h => g_pick (wanted_some rfl rfl h.1) rfl h.2.1 h.2.2.1)
      (OkL3.cons (fun a w X_ h => g_pick (wanted_none rfl) rfl h.1 h.2.1)
      (OkL3.cons (fun a w X_ h => g_move (wanted_none rfl) (.inl rfl) h.1)
      (OkL3.cons (fun a w X_ h => g_call0 (wanted_some rfl rfl h.1) (by kernel_rfl) rfl (awake_h))
      (OkL3.cons (fun a w X_ h => g_pick (wanted_none rfl) rfl h.1 h.2.1)
      (OkL3.cons (fun a w X_ h => g_move (wanted_none rfl) (.inr rfl) h.1)
      OkL3.nil)))))))))))))))))))))))))))) ?_
  rintro W8 X8 _ rfl _ rfl _ rfl _ rfl _ rfl v42 - _ rfl v44 - v45 - _ rfl _ rfl _ rfl _ rfl _ rfl _ rfl _ rfl _ rfl v54 - _ rfl v56 - _ rfl _ rfl _ rfl _ rfl _ rfl _ rfl _ rfl _ rfl
  refine FinL3.done ?_
  simp only [Act.put, List.setIfInBounds_toArray, List.set_cons_zero, List.set_cons_succ]
  replace R5 := hide (X8.row out0 R5.out)
  replace R7 := hide (X8.row out0 R7.out)
  replace BS := hide (BS.out.ext X8.ext)
  replace BEL := hide (X8.on BEL.out SZ.out none_le)
  replace SZ := hide BEL.out.size
  have SW8 := X8.size
  clear X8
  go_wp2
  go_ret
  exact ⟨rfl, BEL.out⟩
set_option linter.unusedSimpArgs false in
set_option maxRecDepth 100000 in
set_option maxHeartbeats 4000000 in
theorem pr_onone (u : Value) (l : List Nat) {w : World} (h : BsAt w u l) (hl : l.length = 32) (hd : dec (l.set 31 (orb (l.getD 31 0))) = none) (LDe : LaidW 3 eiw w) (LDm : LaidW 0 rmw w) : Calls Tryd.prog 3 #[u, .bool true] w fun e w' => e = .returned (.bool true) ∧ Below w.heap.size w w' := by
  replace LDe := hide LDe
  replace LDm := hide LDm
  have HD := hide hd
  have BS := hide h
  have H := hide h
  have hl31 := h.lim 31
  obtain ⟨ao, cp, rfl, _, hcm⟩ := h.len
  rw [hl] at H ⊢
  have HL := hide hl
  clear BS h hd hl
  go_enter Tryd.func3, Tryd.ntmps3
  have BE := hide ((Below.refl w.heap.size w).alloc (Nat.le_refl _) (.cells #[] 5))
  go_wp2_with (at_builtin; refine wpList_append_b rfl (.tmp 19) (.tmp 20) rfl (base := w.heap.size) (l := []) (m := l) own_none (H.out.ext BE.out) (by rw [HL.out]; decide) (by simp) ?_)
  intro u1 w1 o1 g1
  have b1 : Below w.heap.size w w1 := BE.out.grown g1 (by simp) (by simp [Value.ownBlock])
  have hl1 := HL.out
  obtain ⟨g, cap, rfl, hg1, hg2, hcap, hcm2⟩ := o1.form (by omega)
  have c31 : w1.cell? ⟨g, 31, none⟩ = some (.int .u8 ((l.getD 31 0 : Nat) : Int)) := by rw [o1.row.cellAt 31 (by omega), nv_get l 31 (by omega)]
  have f31 := o1.row.frozenAt 31
  have e1 := bits_orb _ hl31
  have OA0 : BsAt _ _ (l.set 31 (orb (l.getD 31 0))) := (o1.set 31 (orb (l.getD 31 0)) (orb_lt hl31)).at
  have BS := hide OA0
  have BEL := hide (Below.setCell b1 (p := ⟨g, 31, none⟩) hg1 (.int .u8 ((orb (l.getD 31 0) : Nat) : Int)))
  rw [hl1] at BS hcap ⊢
  obtain ⟨M, hM⟩ : ∃ M, l.set 31 (orb (l.getD 31 0)) = M := ⟨_, rfl⟩
  rw [hM] at BS HD
  clear hM OA0
  generalize l.getD 31 0 = x31 at *
  generalize orb x31 = z31 at *
  clear hl31 HL hl1 o1 b1 g1 H BE
  go_upto_region 6 with fail
  generalize w1.setCell ⟨g, 31, none⟩ (.int .u8 (z31 : Int)) = W5 at *
  have SZ := hide BEL.out.size
  clear e1 f31 c31 hg2 hcap hcm2 hg1
  refine wp_region_lined3 (tl := [isb M, isv (.tuple #[.agg (pe (0 : Kp) ((1 : Kp) - 1)), .bool false]), ipt (0 : Kp) (1 : Kp), isv (.bool false)]) (pre := [(0, 0)])
    (plan := [Pk.val [(0, 0)] 0, Pk.val [(28, 0)] 1, Pk.val [(29, 1)] 1, Pk.val [(27, 1)] 2, Pk.val [(27, 1)] 3, Pk.alc 30 8, Pk.sto 5 30 2, Pk.val [(31, 3)] 3])
    [0] [] [] 64 (by kernel_rfl) rfl (by kernel_rfl) ⟨.inl rfl, ⟨.inr (lull_isv _ _ _), ⟨.inr (lull_p _ _ _ _), ⟨.inr (lull_isv _ _ _), trivial⟩⟩⟩⟩
    snkAt0 snk0 ⟨BS.out, trivial⟩
      (OkL3.cons (fun a w X_ h => g_move (wanted_none rfl) (.inl rfl) h.1)
      (OkL3.cons (fun a w X_ h => g_call1 (wanted_none rfl) (by kernel_rfl) rfl (p_from_n h.1 (LDe.out.step (X_.on BEL.out SZ.out none_le)) (LDm.out.step (X_.on BEL.out SZ.out none_le)) HD.out))
      (OkL3.cons (fun a w X_ h => g_move (wanted_none rfl) (.inl rfl) h.1)
      (OkL3.cons (fun a w X_ h => g_ext (wanted_none rfl) rfl h.1 rfl rfl)
      (OkL3.cons (fun a w X_ h => g_ext (wanted_none rfl) rfl h.1 rfl rfl)
      (OkL3.cons (alc_of zp rfl rfl rfl newP)
      (OkL3.cons (⟨rfl, _, _, _, rfl, rfl, rfl, by kernel_rfl, row_p _ _⟩)
      (OkL3.cons (fun a w X_ h => g_move (wanted_none rfl) (.inr rfl) h.1)
      OkL3.nil)))))))) ?_
  rintro W6 X6 v28 - _ rfl _ rfl _ rfl _ rfl g5 c5 ⟨L5, Z5, -⟩ r5 H5 _ rfl
  refine FinL3.done ?_
  simp only [Act.put, List.setIfInBounds_toArray, List.set_cons_zero, List.set_cons_succ]
  obtain rfl : c5 = pe (0 : Kp) ((1 : Kp) - 1) := agg_inj H5
  have R5 := hide (And.intro Z5 r5)
  clear r5
  replace BS := hide (BS.out.ext X6.ext)
  replace BEL := hide (X6.on BEL.out SZ.out none_le)
  replace SZ := hide BEL.out.size
  have SW6 := X6.size
  clear X6 H5
  go_upto_region 7 with fail
  refine wp_region_lined3 (tl := [isb M, upb (0 : Kp) (1 : Kp) false, qk (0 : Kp) (1 : Kp) (1 : Kp) ((0 : Kp) * (1 : Kp)), isv (.bool false)]) (pre := [(0, 0)])
    (plan := [Pk.val [(0, 0)] 0, Pk.val [(33, 0)] 1, Pk.val [(34, 1)] 1, Pk.val [(32, 1)] 2, Pk.val [(32, 1)] 3, Pk.alc 36 64, Pk.sto 5 35 2, Pk.val [(36, 3)] 3])
    [0] [] [] 64 (by kernel_rfl) rfl (by kernel_rfl) ⟨.inl rfl, ⟨.inr (lull_ub _ _ _ _ _), ⟨.inr (lull_q _ _ _ _ _ _), ⟨.inr (lull_isv _ _ _), trivial⟩⟩⟩⟩
    snkAt0 snk0 ⟨BS.out, trivial⟩
      (OkL3.cons (fun a w X_ h => g_move (wanted_none rfl) (.inl rfl) h.1)
      (OkL3.cons (fun a w X_ h => g_call1 (wanted_none rfl) (by kernel_rfl) rfl (r_unpack_n HD.out h.1))
      (OkL3.cons (fun a w X_ h => g_move (wanted_none rfl) (.inl rfl) h.1)
      (OkL3.cons (fun a w X_ h => g_ext_q0 (wanted_none rfl) rfl h.1)
      (OkL3.cons (fun a w X_ h => g_ext_q1 (wanted_none rfl) rfl h.1)
      (OkL3.cons (alc_of zq rfl rfl rfl newQ)
      (OkL3.cons (⟨rfl, _, _, _, rfl, rfl, rfl, by kernel_rfl, row_q _ _ _ _⟩)
      (OkL3.cons (fun a w X_ h => g_move (wanted_none rfl) (.inr rfl) h.1)
      OkL3.nil)))))))) ?_
  rintro W7 X7 v33 - v34 - v32 - v35 - _ rfl g7 c7 ⟨L7, Z7, -⟩ r7 H7 _ rfl
  refine FinL3.done ?_
  simp only [Act.put, List.setIfInBounds_toArray, List.set_cons_zero, List.set_cons_succ]
  have N7 := hide (qk_of H7)
  have R7 := hide (And.intro Z7 r7)
  clear r7
  replace R5 := hide (X7.row out0 R5.out)
  replace BS := hide (BS.out.ext X7.ext)
  replace BEL := hide (X7.on BEL.out SZ.out none_le)
  replace SZ := hide BEL.out.size
  have SW7 := X7.size
  clear X7 H7
  go_upto_region 8 with fail
  refine wp_region_typed3 (tl := [isv (.bool false), isv (.bool true), isv (.pointer (some ⟨g5, 0, none⟩)), ipt (0 : Kp) (1 : Kp), isb (pkb (0 : Kp) (1 : Kp)), isv (.string (sob (pkb (0 : Kp) (1 : Kp)))), isv (.pointer (some ⟨g7, 0, none⟩)), qk (0 : Kp) (1 : Kp) (1 : Kp) ((0 : Kp) * (1 : Kp)), isv (undef)]) (pre := [(5, 2), (6, 0), (7, 6), (8, 0)])
    (plan := (Pk.val [(6, 0)] 0 :: Pk.val [(8, 0)] 0 :: Pk.val [(37, 0), (38, 0)] 1 :: Pk.val [(39, 1)] 1 :: Pk.val [(40, 1), (5, 2)] 3 :: Pk.val [(40, 1), (41, 3)] 4 :: Pk.val [(40, 1), (42, 4)] 5 :: Pk.val [(40, 1), (7, 6)] 7 :: Pk.val [(40, 1), (44, 7)] 4 :: Pk.val [(40, 1), (45, 4)] 5 :: Pk.val [(40, 1), (43, 5), (46, 5)] 1 :: Pk.val [(40, 1), (47, 1)] 1 :: Pk.val [(48, 1)] 1 :: Pk.val [(49, 1), (6, 0)] 0 :: Pk.val [(49, 1), (50, 0)] 1 :: Pk.val [(49, 1), (51, 1)] 1 :: Pk.val [(52, 1)] 8 :: Pk.val [(52, 1)] 8 :: Pk.val [(52, 1)] 8 :: Pk.val [(52, 1)] 8 :: Pk.val [(52, 1)] 8 :: Pk.val [(52, 1)] 8 :: Pk.val [(49, 1), (52, 1)] 1 :: Pk.val [(49, 1), (59, 1)] 1 :: Pk.val [(60, 1)] 1 :: Pk.val [(61, 1)] 1 :: Pk.val [(61, 1), (62, 1)] 1 :: Pk.val [(63, 1)] 1 :: []))
    [4] [] [] (by kernel_rfl) 64 (by kernel_rfl) rfl (by kernel_rfl) ⟨.inr (lull_isv _ _ _), ⟨.inr (lull_isv _ _ _), ⟨.inr (lull_isv _ _ _), ⟨.inr (lull_p _ _ _ _), ⟨.inl rfl, ⟨.inr (lull_isv _ _ _), ⟨.inr (lull_isv _ _ _), ⟨.inr (lull_q _ _ _ _ _ _), ⟨.inr (lull_isv _ _ _), trivial⟩⟩⟩⟩⟩⟩⟩⟩⟩
    snkAt0 snk0 ⟨rfl, ⟨rfl, ⟨rfl, ⟨rfl, trivial⟩⟩⟩⟩
      (OkL3.cons (fun a w X_ h => g_move (wanted_none rfl) (.inl rfl) h.1)
      (OkL3.cons (fun a w X_ h => g_move (wanted_none rfl) (.inl rfl) h.1)
      (OkL3.cons (fun a w X_ h => g_eqb (wanted_none rfl) rfl h.1 h.2.1 rfl)
      (OkL3.cons (fun a w X_ h => g_move (wanted_none rfl) (.inl rfl) h.1)
      (OkL3.cons (fun a w X_ h => g_ldp (wanted_some rfl rfl h.1) rfl h.2.1 (X_.at_ R5.out.1 out0 R5.out.2))
      (OkL3.cons (fun a w X_ h => g_call1 (wanted_some rfl rfl h.1) (by kernel_rfl) rfl (h_bytes h.2.1))
      (OkL3.cons (fun a w X_ h => g_str (wanted_some rfl rfl h.1) rfl h.2.1 rfl)
      (OkL3.cons (fun a w X_ h => g_ldq N7.out (wanted_some rfl rfl h.1) rfl h.2.1 (X_.at_ R7.out.1 out0 R7.out.2))
      (OkL3.cons (fun a w X_ h => g_call1 (wanted_some rfl rfl h.1) (by kernel_rfl) rfl (q_packk h.2.1))
      (OkL3.cons (fun a w X_ h => g_str (wanted_some rfl rfl h.1) rfl h.2.1 rfl)
      (OkL3.cons (fun a w X_ h => g_eqs (wanted_some rfl rfl h.1) rfl h.2.1 h.2.2.1 (sob_t rfl))
      (OkL3.cons (fun a w X_ h => g_pick (wanted_none rfl) rfl h.1 h.2.1)
      (OkL3.cons (fun a w X_ h => g_move (wanted_none rfl) (.inl rfl) h.1)
      (OkL3.cons (fun a w X_ h => g_move (wanted_some rfl rfl h.1) (.inl rfl) h.2.1)
      (OkL3.cons (fun a w X_ h => g_not (wanted_some rfl rfl h.1) rfl h.2.1 rfl)
      (OkL3.cons (fun a w X_ h => g_move (wanted_some rfl rfl h.1) (.inl rfl) h.2.1)
      (OkL3.cons (fun a w X_ h => g_skip rfl rfl h.1 rfl)
      (OkL3.cons (fun a w X_ h => g_skip rfl rfl h.1 rfl)
      (OkL3.cons (fun a w X_ h => g_skip rfl rfl h.1 rfl)
      (OkL3.cons (fun a w X_ h => g_skip rfl rfl h.1 rfl)
      (OkL3.cons (fun a w X_ h => g_skip rfl rfl h.1 rfl)
      (OkL3.cons (fun a w X_ h => g_skip rfl rfl h.1 rfl)
      (OkL3.cons (fun a w X_ h => g_pick (wanted_some rfl rfl h.1) rfl h.2.1 rfl)
      (OkL3.cons (fun a w X_ h => g_pick (wanted_none rfl) rfl h.1 h.2.1)
      (OkL3.cons (fun a w X_ h => g_move (wanted_none rfl) (.inl rfl) h.1)
      (OkL3.cons (fun a w X_ h => g_call0 (wanted_some rfl rfl h.1) (by kernel_rfl) rfl (awake_h))
      (OkL3.cons (fun a w X_ h => g_pick (wanted_none rfl) rfl h.1 h.2.1)
      (OkL3.cons (fun a w X_ h => g_move (wanted_none rfl) (.inr rfl) h.1)
      OkL3.nil)))))))))))))))))))))))))))) ?_
  rintro W8 X8 _ rfl _ rfl _ rfl _ rfl _ rfl v42 - _ rfl v44 - v45 - _ rfl _ rfl _ rfl _ rfl _ rfl _ rfl _ rfl _ rfl _ rfl _ rfl _ rfl _ rfl _ rfl _ rfl _ rfl _ rfl _ rfl _ rfl _ rfl
  refine FinL3.done ?_
  simp only [Act.put, List.setIfInBounds_toArray, List.set_cons_zero, List.set_cons_succ]
  replace R5 := hide (X8.row out0 R5.out)
  replace R7 := hide (X8.row out0 R7.out)
  replace BS := hide (BS.out.ext X8.ext)
  replace BEL := hide (X8.on BEL.out SZ.out none_le)
  replace SZ := hide BEL.out.size
  have SW8 := X8.size
  clear X8
  go_wp2
  go_ret
  exact ⟨rfl, BEL.out⟩
set_option maxRecDepth 100000 in
set_option maxHeartbeats 1000000 in
theorem pointReads_walk (u : Value) (l : List Nat) (odd : Bool) {w : World} (h : BsAt w u l) (LDe : LaidW 3 eiw w) (LDm : LaidW 0 rmw w) : Calls Tryd.prog 3 #[u, .bool odd] w fun e w' => e = .returned (.bool true) ∧ Below w.heap.size w w' := by
  by_cases hl : l.length ≤ 100
  · by_cases h32 : l.length = 32
    · cases odd with
      | false =>
        cases hd : dec l with
        | none => exact pr_none u l h h32 hd LDe LDm
        | some p => obtain ⟨X, Y⟩ := p; exact pr_some u l X Y h h32 hd LDe LDm
      | true =>
        cases hd : dec (l.set 31 (orb (l.getD 31 0))) with
        | none => exact pr_onone u l h h32 hd LDe LDm
        | some p => obtain ⟨X, Y⟩ := p; exact pr_osome u l X Y h h32 hd LDe LDm
    · exact pr_other odd u l h ⟨hl, h32⟩ (by unfold dec; rw [if_neg h32]) LDe LDm
  · obtain ⟨ao, cp, rfl, _, hcm⟩ := h.len
    have d0 : decide ((100 : Int) < (l.length : Int)) = true := decide_eq_true (by omega)
    have HW : Hid (∀ W : World, Hands Tryd.prog 9 #[] W (isv (.bool true))) := fun W => awake_h
    clear h hl
    go_enter Tryd.func3, Tryd.ntmps3
    go_wp2_with fail
    refine (HW.out _).mono ?_
    rintro e w1 ⟨v, rfl, b1, rfl⟩
    go_wp2
    go_ret
    exact ⟨rfl, b1⟩
end Go.Proofs.YteplbagjagimdaaDoor
