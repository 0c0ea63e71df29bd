/- Multiples of the base, sums of them, one taken from another, as the page has them: the law PointForms answers true for all numbers and bytes, in any world where the exponent lies as the program's text lays it. -/
import Derived.Test.YteplbagjagimdaaDoorRf3
import Derived.Test.YteplbagjagimdaaDoorLaw1
namespace Go.Proofs.YteplbagjagimdaaDoor
open Go.RowKit
theorem r_timesN {P : Pt} {u v : Value} {l : List Nat} {n : Nat} {w : World} (hn : bval (l.take 32) = n) (h1 : (qp P).p w u) (h : BsAt w v l) (hl : l.length ≤ 100) : Hands Tryd.prog 17 #[u, v] w (qp (Pt.mul n P)) := by
  subst hn; exact r_times h1 h hl
set_option linter.unusedSimpArgs false in
set_option maxRecDepth 100000 in
set_option maxHeartbeats 4000000 in
theorem pf_same (n m : Int) (u : Value) (l : List Nat) {w : World} (h : BsAt w u l) (hl : l.length ≤ 40) (hpq : Pt.mul (n % 65536).toNat Bp = Pt.mul (bval (l.take 32)) Bp) (LDi : LaidW 1 exw w) : Calls Tryd.prog 4 #[.int .i64 n, .int .i64 m, u] w fun e w' => e = .returned (.bool true) ∧ Below w.heap.size w w' := by
  obtain ⟨A, hA⟩ : ∃ A, (n % 65536).toNat = A := ⟨_, rfl⟩
  obtain ⟨S, hS⟩ : ∃ S, bval (l.take 32) = S := ⟨_, rfl⟩
  rw [hA, hS] at hpq
  have HA := hide ((smb_val n).trans hA)
  have HS := hide hS
  have HPQ := hide hpq
  have HLN : Hid (l.length ≤ 100) := by show _ ≤ _; omega
  have BS := hide h
  obtain ⟨ao, cp, rfl, _, hcm⟩ := h.len
  have d0 : decide ((40 : Int) < (l.length : Int)) = false := decide_eq_false (by omega)
  clear hA hS hpq h
  replace LDi := hide LDi
  have BEL := hide (Below.refl w.heap.size w)
  have SZ := hide BEL.out.size
  go_enter Tryd.func4, Tryd.ntmps4
  go_upto_region 3 with fail
  refine wp_region_lined3 (tl := [isP Bp, isv (.int .i64 n), isb (smb n), isP (Pt.mul A Bp), isb l, isP (Pt.mul S Bp)]) (pre := [(0, 1), (2, 4)])
    (plan := [Pk.val [] 0, Pk.val [(0, 1)] 1, Pk.val [(16, 1)] 2, Pk.val [(15, 0), (17, 2)] 3, Pk.val [] 0, Pk.val [(2, 4)] 4, Pk.val [(19, 0), (20, 4)] 5, Pk.alc 30 8, Pk.alc 30 8, Pk.sto 7 18 3, Pk.sto 8 21 5])
    [2, 4] [] [] 81 (by kernel_rfl) rfl (by kernel_rfl) ⟨.inr (lull_P _ _ _), ⟨.inr (lull_isv _ _ _), ⟨.inl rfl, ⟨.inr (lull_P _ _ _), ⟨.inl rfl, ⟨.inr (lull_P _ _ _), trivial⟩⟩⟩⟩⟩⟩
    snkAt0 snk0 ⟨rfl, ⟨BS.out, trivial⟩⟩
      (OkL3.cons (fun a w X_ h => g_call0 (wanted_none rfl) (by kernel_rfl) rfl (p_baseP))
      (OkL3.cons (fun a w X_ h => g_move (wanted_none rfl) (.inl rfl) h.1)
      (OkL3.cons (fun a w X_ h => g_call1 (wanted_none rfl) (by kernel_rfl) rfl (small_h h.1))
      (OkL3.cons (fun a w X_ h => g_call2 (wanted_none rfl) (by kernel_rfl) rfl (p_mulN (n := A) (HA.out) h.1 h.2.1 (LDi.out.step (X_.on BEL.out SZ.out none_le))))
      (OkL3.cons (fun a w X_ h => g_call0 (wanted_none rfl) (by kernel_rfl) rfl (p_baseP))
      (OkL3.cons (fun a w X_ h => g_move (wanted_none rfl) (.inl rfl) h.1)
      (OkL3.cons (fun a w X_ h => g_call2 (wanted_none rfl) (by kernel_rfl) rfl (p_mulN (n := S) (HS.out) h.1 h.2.1 (LDi.out.step (X_.on BEL.out SZ.out none_le))))
      (OkL3.cons (alc_of zp rfl rfl rfl newP)
      (OkL3.cons (alc_of zp rfl rfl rfl newP)
      (OkL3.cons (⟨rfl, _, _, _, rfl, rfl, rfl, by kernel_rfl, row_P _⟩)
      (OkL3.cons (⟨rfl, _, _, _, rfl, rfl, rfl, by kernel_rfl, row_P _⟩)
      OkL3.nil))))))))))) ?_
  rintro W3 X3 _ rfl _ rfl v17 - _ rfl _ rfl v20 - _ rfl g7 c7 ⟨L7, Z7, -⟩ r7 H7 g8 c8 ⟨L8, Z8, -⟩ r8 H8
  refine FinL3.fill ?_
  refine FinL3.fill ?_
  refine FinL3.done ?_
  simp only [Act.put, List.setIfInBounds_toArray, List.set_cons_zero, List.set_cons_succ]
  obtain rfl : c7 = pe (Pt.mul A Bp).x ((Pt.mul A Bp).y - 1) := agg_inj H7
  have R7 := hide (And.intro Z7 r7)
  clear r7
  obtain rfl : c8 = pe (Pt.mul S Bp).x ((Pt.mul S Bp).y - 1) := agg_inj H8
  have R8 := hide (And.intro Z8 r8)
  clear r8
  replace BS := hide (BS.out.ext X3.ext)
  replace BEL := hide (X3.on BEL.out SZ.out none_le)
  replace SZ := hide BEL.out.size
  have SW3 := X3.size
  clear X3 H7 H8
  go_upto_region 4 with fail
  refine wp_region_lined3 (tl := [qp Bp, isv (.int .i64 n), isb (smb n), qp (Pt.mul A Bp), isb l, qp (Pt.mul S Bp)]) (pre := [(0, 1), (2, 4)])
    (plan := [Pk.val [] 0, Pk.val [(0, 1)] 1, Pk.val [(23, 1)] 2, Pk.val [(22, 0), (24, 2)] 3, Pk.val [] 0, Pk.val [(2, 4)] 4, Pk.val [(26, 0), (27, 4)] 5, Pk.alc 36 64, Pk.alc 36 64, Pk.sto 7 25 3, Pk.sto 8 28 5])
    [2, 4] [] [] 81 (by kernel_rfl) rfl (by kernel_rfl) ⟨.inr (lull_qp _ _ _), ⟨.inr (lull_isv _ _ _), ⟨.inl rfl, ⟨.inr (lull_qp _ _ _), ⟨.inl rfl, ⟨.inr (lull_qp _ _ _), trivial⟩⟩⟩⟩⟩⟩
    snkAt0 snk0 ⟨rfl, ⟨BS.out, trivial⟩⟩
      (OkL3.cons (fun a w X_ h => g_call0 (wanted_none rfl) (by kernel_rfl) rfl (r_base))
      (OkL3.cons (fun a w X_ h => g_move (wanted_none rfl) (.inl rfl) h.1)
      (OkL3.cons (fun a w X_ h => g_call1 (wanted_none rfl) (by kernel_rfl) rfl (small_h h.1))
      (OkL3.cons (fun a w X_ h => g_call2 (wanted_none rfl) (by kernel_rfl) rfl (r_timesN (n := A) HA.out h.1 h.2.1 (by show 2 ≤ 100; decide)))
      (OkL3.cons (fun a w X_ h => g_call0 (wanted_none rfl) (by kernel_rfl) rfl (r_base))
      (OkL3.cons (fun a w X_ h => g_move (wanted_none rfl) (.inl rfl) h.1)
      (OkL3.cons (fun a w X_ h => g_call2 (wanted_none rfl) (by kernel_rfl) rfl (r_timesN (n := S) HS.out h.1 h.2.1 HLN.out))
      (OkL3.cons (alc_of zq rfl rfl rfl newQ)
      (OkL3.cons (alc_of zq rfl rfl rfl newQ)
      (OkL3.cons (⟨rfl, _, _, _, rfl, rfl, rfl, by kernel_rfl, row_qp _⟩)
      (OkL3.cons (⟨rfl, _, _, _, rfl, rfl, rfl, by kernel_rfl, row_qp _⟩)
      OkL3.nil))))))))))) ?_
  rintro W4 X4 v22 - _ rfl v24 - v25 - v26 - v27 - v28 - g9 c9 ⟨L9, Z9, -⟩ r9 H9 g10 c10 ⟨L10, Z10, -⟩ r10 H10
  refine FinL3.fill ?_
  refine FinL3.fill ?_
  refine FinL3.done ?_
  simp only [Act.put, List.setIfInBounds_toArray, List.set_cons_zero, List.set_cons_succ]
  have N9 := hide (qp_of H9)
  have R9 := hide (And.intro Z9 r9)
  clear r9
  have N10 := hide (qp_of H10)
  have R10 := hide (And.intro Z10 r10)
  clear r10
  replace R7 := hide (X4.row out0 R7.out)
  replace R8 := hide (X4.row out0 R8.out)
  replace BS := hide (BS.out.ext X4.ext)
  replace BEL := hide (X4.on BEL.out SZ.out none_le)
  replace SZ := hide BEL.out.size
  have SW4 := X4.size
  clear X4 H9 H10
  go_upto_region 5 with fail
  refine wp_region_typed3 (tl := (isv (.pointer (some ⟨g7, 0, none⟩)) :: isP (Pt.mul A Bp) :: isb (pkb (Pt.mul A Bp).x (Pt.mul A Bp).y) :: isv (.string (sob (pkb (Pt.mul A Bp).x (Pt.mul A Bp).y))) :: isv (.pointer (some ⟨g9, 0, none⟩)) :: qp (Pt.mul A Bp) :: isv (.bool true) :: isv (.pointer (some ⟨g8, 0, none⟩)) :: isP (Pt.mul S Bp) :: isb (pkb (Pt.mul S Bp).x (Pt.mul S Bp).y) :: isv (.string (sob (pkb (Pt.mul S Bp).x (Pt.mul S Bp).y))) :: isv (.pointer (some ⟨g10, 0, none⟩)) :: qp (Pt.mul S Bp) :: isP ((Pt.mul A Bp).add (Pt.mul S Bp)) :: isb (pkb ((Pt.mul A Bp).add (Pt.mul S Bp)).x ((Pt.mul A Bp).add (Pt.mul S Bp)).y) :: isv (.string (sob (pkb ((Pt.mul A Bp).add (Pt.mul S Bp)).x ((Pt.mul A Bp).add (Pt.mul S Bp)).y))) :: qp ((Pt.mul A Bp).add (Pt.mul S Bp)) :: isP ((Pt.mul A Bp).neg) :: isb (pkb ((Pt.mul A Bp).neg).x ((Pt.mul A Bp).neg).y) :: isv (.string (sob (pkb ((Pt.mul A Bp).neg).x ((Pt.mul A Bp).neg).y))) :: qp ((Pt.mul A Bp).neg) :: [])) (pre := [(7, 0), (8, 7), (9, 4), (10, 11)])
    (plan := (Pk.val [(7, 0)] 1 :: Pk.val [(29, 1)] 2 :: Pk.val [(30, 2)] 3 :: Pk.val [(9, 4)] 5 :: Pk.val [(32, 5)] 2 :: Pk.val [(33, 2)] 3 :: Pk.val [(31, 3), (34, 3)] 6 :: Pk.val [(35, 6)] 6 :: Pk.val [(36, 6), (8, 7)] 8 :: Pk.val [(36, 6), (37, 8)] 9 :: Pk.val [(36, 6), (38, 9)] 10 :: Pk.val [(36, 6), (10, 11)] 12 :: Pk.val [(36, 6), (40, 12)] 9 :: Pk.val [(36, 6), (41, 9)] 10 :: Pk.val [(36, 6), (39, 10), (42, 10)] 6 :: Pk.val [(36, 6), (43, 6)] 6 :: Pk.val [(44, 6)] 6 :: Pk.val [(45, 6), (7, 0)] 1 :: Pk.val [(45, 6), (8, 7)] 8 :: Pk.val [(45, 6), (46, 1), (47, 8)] 13 :: Pk.val [(45, 6), (48, 13)] 14 :: Pk.val [(45, 6), (49, 14)] 15 :: Pk.val [(45, 6), (9, 4)] 5 :: Pk.val [(45, 6), (10, 11)] 12 :: Pk.val [(45, 6), (51, 5), (52, 12)] 16 :: Pk.val [(45, 6), (53, 16)] 14 :: Pk.val [(45, 6), (54, 14)] 15 :: Pk.val [(45, 6), (50, 15), (55, 15)] 6 :: Pk.val [(45, 6), (56, 6)] 6 :: Pk.val [(57, 6)] 6 :: Pk.val [(58, 6), (7, 0)] 1 :: Pk.val [(58, 6), (59, 1)] 17 :: Pk.val [(58, 6), (60, 17)] 18 :: Pk.val [(58, 6), (61, 18)] 19 :: Pk.val [(58, 6), (9, 4)] 5 :: Pk.val [(58, 6), (63, 5)] 20 :: Pk.val [(58, 6), (64, 20)] 18 :: Pk.val [(58, 6), (65, 18)] 19 :: Pk.val [(58, 6), (62, 19), (66, 19)] 6 :: Pk.val [(58, 6), (67, 6)] 6 :: Pk.val [(68, 6)] 6 :: Pk.val [(69, 6), (7, 0)] 1 :: Pk.val [(69, 6), (8, 7)] 8 :: Pk.val [(69, 6), (70, 1), (71, 8)] 6 :: Pk.val [(69, 6), (9, 4)] 5 :: Pk.val [(69, 6), (10, 11)] 12 :: Pk.val [(69, 6), (73, 5), (74, 12)] 6 :: Pk.val [(69, 6), (72, 6), (75, 6)] 6 :: Pk.val [(69, 6), (76, 6)] 6 :: Pk.val [(77, 6)] 6 :: Pk.val [(78, 6)] 6 :: Pk.val [(78, 6), (79, 6)] 6 :: Pk.val [(80, 6)] 6 :: []))
    [2, 9, 14, 18] [] [] (by kernel_rfl) 81 (by kernel_rfl) rfl (by kernel_rfl) ⟨.inr (lull_isv _ _ _), ⟨.inr (lull_P _ _ _), ⟨.inl rfl, ⟨.inr (lull_isv _ _ _), ⟨.inr (lull_isv _ _ _), ⟨.inr (lull_qp _ _ _), ⟨.inr (lull_isv _ _ _), ⟨.inr (lull_isv _ _ _), ⟨.inr (lull_P _ _ _), ⟨.inl rfl, ⟨.inr (lull_isv _ _ _), ⟨.inr (lull_isv _ _ _), ⟨.inr (lull_qp _ _ _), ⟨.inr (lull_P _ _ _), ⟨.inl rfl, ⟨.inr (lull_isv _ _ _), ⟨.inr (lull_qp _ _ _), ⟨.inr (lull_P _ _ _), ⟨.inl rfl, ⟨.inr (lull_isv _ _ _), ⟨.inr (lull_qp _ _ _), trivial⟩⟩⟩⟩⟩⟩⟩⟩⟩⟩⟩⟩⟩⟩⟩⟩⟩⟩⟩⟩⟩
    snkAt0 snk0 ⟨rfl, ⟨rfl, ⟨rfl, ⟨rfl, trivial⟩⟩⟩⟩
      (OkL3.cons (fun a w X_ h => g_ldp (wanted_none rfl) rfl h.1 (X_.at_ R7.out.1 out0 R7.out.2))
      (OkL3.cons (fun a w X_ h => g_call1 (wanted_none rfl) (by kernel_rfl) rfl (h_bytes h.1))
      (OkL3.cons (fun a w X_ h => g_str (wanted_none rfl) rfl h.1 rfl)
      (OkL3.cons (fun a w X_ h => g_ldqp N9.out (wanted_none rfl) rfl h.1 (X_.at_ R9.out.1 out0 R9.out.2))
      (OkL3.cons (fun a w X_ h => g_call1 (wanted_none rfl) (by kernel_rfl) rfl (r_pack h.1))
      (OkL3.cons (fun a w X_ h => g_str (wanted_none rfl) rfl h.1 rfl)
      (OkL3.cons (fun a w X_ h => g_eqs (wanted_none rfl) rfl h.1 h.2.1 (sob_t rfl))
      (OkL3.cons (fun a w X_ h => g_move (wanted_none rfl) (.inl rfl) h.1)
      (OkL3.cons (fun a w X_ h => g_ldp (wanted_some rfl rfl h.1) rfl h.2.1 (X_.at_ R8.out.1 out0 R8.out.2))
      (OkL3.cons (fun a w X_ h => g_call1 (wanted_some rfl rfl h.1) (by kernel_rfl) rfl (h_bytes h.2.1))
      (OkL3.cons (fun a w X_ h => g_str (wanted_some rfl rfl h.1) rfl h.2.1 rfl)
      (OkL3.cons (fun a w X_ h => g_ldqp N10.out (wanted_some rfl rfl h.1) rfl h.2.1 (X_.at_ R10.out.1 out0 R10.out.2))
      (OkL3.cons (fun a w X_ h => g_call1 (wanted_some rfl rfl h.1) (by kernel_rfl) rfl (r_pack h.2.1))
      (OkL3.cons (fun a w X_ h => g_str (wanted_some rfl rfl h.1) rfl h.2.1 rfl)
      (OkL3.cons (fun a w X_ h => g_eqs (wanted_some rfl rfl h.1) rfl h.2.1 h.2.2.1 (sob_t rfl))
      (OkL3.cons (fun a w X_ h => g_pick (wanted_none rfl) rfl h.1 h.2.1)
      (OkL3.cons (fun a w X_ h => g_move (wanted_none rfl) (.inl rfl) h.1)
      (OkL3.cons (fun a w X_ h => g_ldp (wanted_some rfl rfl h.1) rfl h.2.1 (X_.at_ R7.out.1 out0 R7.out.2))
      (OkL3.cons (fun a w X_ h => g_ldp (wanted_some rfl rfl h.1) rfl h.2.1 (X_.at_ R8.out.1 out0 R8.out.2))
      (OkL3.cons (fun a w X_ h => g_call2 (wanted_some rfl rfl h.1) (by kernel_rfl) rfl (p_addP h.2.1 h.2.2.1 (LDi.out.step (X_.on BEL.out SZ.out none_le))))
      (OkL3.cons (fun a w X_ h => g_call1 (wanted_some rfl rfl h.1) (by kernel_rfl) rfl (h_bytes h.2.1))
      (OkL3.cons (fun a w X_ h => g_str (wanted_some rfl rfl h.1) rfl h.2.1 rfl)
      (OkL3.cons (fun a w X_ h => g_ldqp N9.out (wanted_some rfl rfl h.1) rfl h.2.1 (X_.at_ R9.out.1 out0 R9.out.2))
      (OkL3.cons (fun a w X_ h => g_ldqp N10.out (wanted_some rfl rfl h.1) rfl h.2.1 (X_.at_ R10.out.1 out0 R10.out.2))
      (OkL3.cons (fun a w X_ h => g_call2 (wanted_some rfl rfl h.1) (by kernel_rfl) rfl (r_plus h.2.1 h.2.2.1))
      (OkL3.cons (fun a w X_ h => g_call1 (wanted_some rfl rfl h.1) (by kernel_rfl) rfl (r_pack h.2.1))
      (OkL3.cons (fun a w X_ h => g_str (wanted_some rfl rfl h.1) rfl h.2.1 rfl)
      (OkL3.cons (fun a w X_ h => g_eqs (wanted_some rfl rfl h.1) rfl h.2.1 h.2.2.1 (sob_t rfl))
      (OkL3.cons (fun a w X_ h => g_pick (wanted_none rfl) rfl h.1 h.2.1)
      (OkL3.cons (fun a w X_ h => g_move (wanted_none rfl) (.inl rfl) h.1)
      (OkL3.cons (fun a w X_ h => g_ldp (wanted_some rfl rfl h.1) rfl h.2.1 (X_.at_ R7.out.1 out0 R7.out.2))
      (OkL3.cons (fun a w X_ h => g_call1 (wanted_some rfl rfl h.1) (by kernel_rfl) rfl (p_negP h.2.1))
      (OkL3.cons (fun a w X_ h => g_call1 (wanted_some rfl rfl h.1) (by kernel_rfl) rfl (h_bytes h.2.1))
      (OkL3.cons (fun a w X_ h => g_str (wanted_some rfl rfl h.1) rfl h.2.1 rfl)
      (OkL3.cons (fun a w X_ h => g_ldqp N9.out (wanted_some rfl rfl h.1) rfl h.2.1 (X_.at_ R9.out.1 out0 R9.out.2))
      (OkL3.cons (fun a w X_ h => g_call1 (wanted_some rfl rfl h.1) (by kernel_rfl) rfl (r_neg h.2.1))
      (OkL3.cons (fun a w X_ h => g_call1 (wanted_some rfl rfl h.1) (by kernel_rfl) rfl (r_pack h.2.1))
      (OkL3.cons (fun a w X_ h => g_str (wanted_some rfl rfl h.1) rfl h.2.1 rfl)
      (OkL3.cons (fun a w X_ h => g_eqs (wanted_some rfl rfl h.1) rfl h.2.1 h.2.2.1 (sob_t rfl))
      (OkL3.cons (fun a w X_ h => g_pick (wanted_none rfl) rfl h.1 h.2.1)
      (OkL3.cons (fun a w X_ h => g_move (wanted_none rfl) (.inl rfl) h.1)
      (OkL3.cons (fun a w X_ h => g_ldp (wanted_some rfl rfl h.1) rfl h.2.1 (X_.at_ R7.out.1 out0 R7.out.2))
      (OkL3.cons (fun a w X_ h => g_ldp (wanted_some rfl rfl h.1) rfl h.2.1 (X_.at_ R8.out.1 out0 R8.out.2))
      (OkL3.cons (fun a w X_ h => g_call2 (wanted_some rfl rfl h.1) (by kernel_rfl) rfl (p_same h.2.1 h.2.2.1 (iff_t (HPQ.out))))
      (OkL3.cons (fun a w X_ h => g_ldqp N9.out (wanted_some rfl rfl h.1) rfl h.2.1 (X_.at_ R9.out.1 out0 R9.out.2))
      (OkL3.cons (fun a w X_ h => g_ldqp N10.out (wanted_some rfl rfl h.1) rfl h.2.1 (X_.at_ R10.out.1 out0 R10.out.2))
      (OkL3.cons (fun a w X_ h => g_call2 (wanted_some rfl rfl h.1) (by kernel_rfl) rfl (r_same h.2.1 h.2.2.1 (iff_t HPQ.out)))
      (OkL3.cons (fun a w X_ h => g_eqb (wanted_some rfl rfl h.1) rfl h.2.1 h.2.2.1 rfl)
      (OkL3.cons (fun a w X_ h => g_pick (wanted_none rfl) rfl h.1 h.2.1)
      (OkL3.cons (fun a w X_ h => g_move (wanted_none rfl) (.inl rfl) h.1)
      (OkL3.cons (fun a w X_ h => g_call0 (wanted_some rfl rfl h.1) (by kernel_rfl) rfl (awake_h))
      (OkL3.cons (fun a w X_ h => g_pick (wanted_none rfl) rfl h.1 h.2.1)
      (OkL3.cons (fun a w X_ h => g_move (wanted_none rfl) (.inr rfl) h.1)
      OkL3.nil))))))))))))))))))))))))))))))))))))))))))))))))))))) ?_
  rintro W5 X5 _ rfl v30 - _ rfl v32 - v33 - _ rfl _ rfl _ rfl _ rfl v38 - _ rfl v40 - v41 - _ rfl _ rfl _ rfl _ rfl _ rfl _ rfl _ rfl v49 - _ rfl v51 - v52 - v53 - v54 - _ rfl _ rfl _ rfl _ rfl _ rfl _ rfl v61 - _ rfl v63 - v64 - v65 - _ rfl _ rfl _ rfl _ rfl _ rfl _ rfl _ rfl v73 - v74 - _ rfl _ rfl _ rfl _ rfl _ rfl _ rfl _ rfl
  refine FinL3.done ?_
  simp only [Act.put, List.setIfInBounds_toArray, List.set_cons_zero, List.set_cons_succ]
  replace R7 := hide (X5.row out0 R7.out)
  replace R8 := hide (X5.row out0 R8.out)
  replace R9 := hide (X5.row out0 R9.out)
  replace R10 := hide (X5.row out0 R10.out)
  replace BS := hide (BS.out.ext X5.ext)
  replace BEL := hide (X5.on BEL.out SZ.out none_le)
  replace SZ := hide BEL.out.size
  have SW5 := X5.size
  clear X5
  go_wp2
  go_ret
  exact ⟨rfl, BEL.out⟩
set_option linter.unusedSimpArgs false in
set_option maxRecDepth 100000 in
set_option maxHeartbeats 4000000 in
theorem pf_all (n m : Int) (u : Value) (l : List Nat) {w : World} (h : BsAt w u l) (hl : l.length ≤ 40) (hpq : ¬ Pt.mul (n % 65536).toNat Bp = Pt.mul (bval (l.take 32)) Bp) (LDi : LaidW 1 exw w) : Calls Tryd.prog 4 #[.int .i64 n, .int .i64 m, u] w fun e w' => e = .returned (.bool true) ∧ Below w.heap.size w w' := by
  obtain ⟨A, hA⟩ : ∃ A, (n % 65536).toNat = A := ⟨_, rfl⟩
  obtain ⟨S, hS⟩ : ∃ S, bval (l.take 32) = S := ⟨_, rfl⟩
  rw [hA, hS] at hpq
  have HA := hide ((smb_val n).trans hA)
  have HS := hide hS
  have HPQ := hide hpq
  have HLN : Hid (l.length ≤ 100) := by show _ ≤ _; omega
  have BS := hide h
  obtain ⟨ao, cp, rfl, _, hcm⟩ := h.len
  have d0 : decide ((40 : Int) < (l.length : Int)) = false := decide_eq_false (by omega)
  clear hA hS hpq h
  replace LDi := hide LDi
  have BEL := hide (Below.refl w.heap.size w)
  have SZ := hide BEL.out.size
  go_enter Tryd.func4, Tryd.ntmps4
  go_upto_region 3 with fail
  refine wp_region_lined3 (tl := [isP Bp, isv (.int .i64 n), isb (smb n), isP (Pt.mul A Bp), isb l, isP (Pt.mul S Bp)]) (pre := [(0, 1), (2, 4)])
    (plan := [Pk.val [] 0, Pk.val [(0, 1)] 1, Pk.val [(16, 1)] 2, Pk.val [(15, 0), (17, 2)] 3, Pk.val [] 0, Pk.val [(2, 4)] 4, Pk.val [(19, 0), (20, 4)] 5, Pk.alc 30 8, Pk.alc 30 8, Pk.sto 7 18 3, Pk.sto 8 21 5])
    [2, 4] [] [] 81 (by kernel_rfl) rfl (by kernel_rfl) ⟨.inr (lull_P _ _ _), ⟨.inr (lull_isv _ _ _), ⟨.inl rfl, ⟨.inr (lull_P _ _ _), ⟨.inl rfl, ⟨.inr (lull_P _ _ _), trivial⟩⟩⟩⟩⟩⟩
    snkAt0 snk0 ⟨rfl, ⟨BS.out, trivial⟩⟩
      (OkL3.cons (fun a w X_ h => g_call0 (wanted_none rfl) (by kernel_rfl) rfl (p_baseP))
      (OkL3.cons (fun a w X_ h => g_move (wanted_none rfl) (.inl rfl) h.1)
      (OkL3.cons (fun a w X_ h => g_call1 (wanted_none rfl) (by kernel_rfl) rfl (small_h h.1))
      (OkL3.cons (fun a w X_ h => g_call2 (wanted_none rfl) (by kernel_rfl) rfl (p_mulN (n := A) (HA.out) h.1 h.2.1 (LDi.out.step (X_.on BEL.out SZ.out none_le))))
      (OkL3.cons (fun a w X_ h => g_call0 (wanted_none rfl) (by kernel_rfl) rfl (p_baseP))
      (OkL3.cons (fun a w X_ h => g_move (wanted_none rfl) (.inl rfl) h.1)
      (OkL3.cons (fun a w X_ h => g_call2 (wanted_none rfl) (by kernel_rfl) rfl (p_mulN (n := S) (HS.out) h.1 h.2.1 (LDi.out.step (X_.on BEL.out SZ.out none_le))))
      (OkL3.cons (alc_of zp rfl rfl rfl newP)
      (OkL3.cons (alc_of zp rfl rfl rfl newP)
      (OkL3.cons (⟨rfl, _, _, _, rfl, rfl, rfl, by kernel_rfl, row_P _⟩)
      (OkL3.cons (⟨rfl, _, _, _, rfl, rfl, rfl, by kernel_rfl, row_P _⟩)
      OkL3.nil))))))))))) ?_
  rintro W3 X3 _ rfl _ rfl v17 - _ rfl _ rfl v20 - _ rfl g7 c7 ⟨L7, Z7, -⟩ r7 H7 g8 c8 ⟨L8, Z8, -⟩ r8 H8
  refine FinL3.fill ?_
  refine FinL3.fill ?_
  refine FinL3.done ?_
  simp only [Act.put, List.setIfInBounds_toArray, List.set_cons_zero, List.set_cons_succ]
  obtain rfl : c7 = pe (Pt.mul A Bp).x ((Pt.mul A Bp).y - 1) := agg_inj H7
  have R7 := hide (And.intro Z7 r7)
  clear r7
  obtain rfl : c8 = pe (Pt.mul S Bp).x ((Pt.mul S Bp).y - 1) := agg_inj H8
  have R8 := hide (And.intro Z8 r8)
  clear r8
  replace BS := hide (BS.out.ext X3.ext)
  replace BEL := hide (X3.on BEL.out SZ.out none_le)
  replace SZ := hide BEL.out.size
  have SW3 := X3.size
  clear X3 H7 H8
  go_upto_region 4 with fail
  refine wp_region_lined3 (tl := [qp Bp, isv (.int .i64 n), isb (smb n), qp (Pt.mul A Bp), isb l, qp (Pt.mul S Bp)]) (pre := [(0, 1), (2, 4)])
    (plan := [Pk.val [] 0, Pk.val [(0, 1)] 1, Pk.val [(23, 1)] 2, Pk.val [(22, 0), (24, 2)] 3, Pk.val [] 0, Pk.val [(2, 4)] 4, Pk.val [(26, 0), (27, 4)] 5, Pk.alc 36 64, Pk.alc 36 64, Pk.sto 7 25 3, Pk.sto 8 28 5])
    [2, 4] [] [] 81 (by kernel_rfl) rfl (by kernel_rfl) ⟨.inr (lull_qp _ _ _), ⟨.inr (lull_isv _ _ _), ⟨.inl rfl, ⟨.inr (lull_qp _ _ _), ⟨.inl rfl, ⟨.inr (lull_qp _ _ _), trivial⟩⟩⟩⟩⟩⟩
    snkAt0 snk0 ⟨rfl, ⟨BS.out, trivial⟩⟩
      (OkL3.cons (fun a w X_ h => g_call0 (wanted_none rfl) (by kernel_rfl) rfl (r_base))
      (OkL3.cons (fun a w X_ h => g_move (wanted_none rfl) (.inl rfl) h.1)
      (OkL3.cons (fun a w X_ h => g_call1 (wanted_none rfl) (by kernel_rfl) rfl (small_h h.1))
      (OkL3.cons (fun a w X_ h => g_call2 (wanted_none rfl) (by kernel_rfl) rfl (r_timesN (n := A) HA.out h.1 h.2.1 (by show 2 ≤ 100; decide)))
      (OkL3.cons (fun a w X_ h => g_call0 (wanted_none rfl) (by kernel_rfl) rfl (r_base))
      (OkL3.cons (fun a w X_ h => g_move (wanted_none rfl) (.inl rfl) h.1)
      (OkL3.cons (fun a w X_ h => g_call2 (wanted_none rfl) (by kernel_rfl) rfl (r_timesN (n := S) HS.out h.1 h.2.1 HLN.out))
      (OkL3.cons (alc_of zq rfl rfl rfl newQ)
      (OkL3.cons (alc_of zq rfl rfl rfl newQ)
      (OkL3.cons (⟨rfl, _, _, _, rfl, rfl, rfl, by kernel_rfl, row_qp _⟩)
      (OkL3.cons (⟨rfl, _, _, _, rfl, rfl, rfl, by kernel_rfl, row_qp _⟩)
      OkL3.nil))))))))))) ?_
  rintro W4 X4 v22 - _ rfl v24 - v25 - v26 - v27 - v28 - g9 c9 ⟨L9, Z9, -⟩ r9 H9 g10 c10 ⟨L10, Z10, -⟩ r10 H10
  refine FinL3.fill ?_
  refine FinL3.fill ?_
  refine FinL3.done ?_
  simp only [Act.put, List.setIfInBounds_toArray, List.set_cons_zero, List.set_cons_succ]
  have N9 := hide (qp_of H9)
  have R9 := hide (And.intro Z9 r9)
  clear r9
  have N10 := hide (qp_of H10)
  have R10 := hide (And.intro Z10 r10)
  clear r10
  replace R7 := hide (X4.row out0 R7.out)
  replace R8 := hide (X4.row out0 R8.out)
  replace BS := hide (BS.out.ext X4.ext)
  replace BEL := hide (X4.on BEL.out SZ.out none_le)
  replace SZ := hide BEL.out.size
  have SW4 := X4.size
  clear X4 H9 H10
  go_upto_region 5 with fail
  refine wp_region_typed3 (tl := (isv (.pointer (some ⟨g7, 0, none⟩)) :: isP (Pt.mul A Bp) :: isb (pkb (Pt.mul A Bp).x (Pt.mul A Bp).y) :: isv (.string (sob (pkb (Pt.mul A Bp).x (Pt.mul A Bp).y))) :: isv (.pointer (some ⟨g9, 0, none⟩)) :: qp (Pt.mul A Bp) :: isv (.bool true) :: isv (.pointer (some ⟨g8, 0, none⟩)) :: isP (Pt.mul S Bp) :: isb (pkb (Pt.mul S Bp).x (Pt.mul S Bp).y) :: isv (.string (sob (pkb (Pt.mul S Bp).x (Pt.mul S Bp).y))) :: isv (.pointer (some ⟨g10, 0, none⟩)) :: qp (Pt.mul S Bp) :: isP ((Pt.mul A Bp).add (Pt.mul S Bp)) :: isb (pkb ((Pt.mul A Bp).add (Pt.mul S Bp)).x ((Pt.mul A Bp).add (Pt.mul S Bp)).y) :: isv (.string (sob (pkb ((Pt.mul A Bp).add (Pt.mul S Bp)).x ((Pt.mul A Bp).add (Pt.mul S Bp)).y))) :: qp ((Pt.mul A Bp).add (Pt.mul S Bp)) :: isP ((Pt.mul A Bp).neg) :: isb (pkb ((Pt.mul A Bp).neg).x ((Pt.mul A Bp).neg).y) :: isv (.string (sob (pkb ((Pt.mul A Bp).neg).x ((Pt.mul A Bp).neg).y))) :: qp ((Pt.mul A Bp).neg) :: isv (.bool false) :: [])) (pre := [(7, 0), (8, 7), (9, 4), (10, 11)])
    (plan := (Pk.val [(7, 0)] 1 :: Pk.val [(29, 1)] 2 :: Pk.val [(30, 2)] 3 :: Pk.val [(9, 4)] 5 :: Pk.val [(32, 5)] 2 :: Pk.val [(33, 2)] 3 :: Pk.val [(31, 3), (34, 3)] 6 :: Pk.val [(35, 6)] 6 :: Pk.val [(36, 6), (8, 7)] 8 :: Pk.val [(36, 6), (37, 8)] 9 :: Pk.val [(36, 6), (38, 9)] 10 :: Pk.val [(36, 6), (10, 11)] 12 :: Pk.val [(36, 6), (40, 12)] 9 :: Pk.val [(36, 6), (41, 9)] 10 :: Pk.val [(36, 6), (39, 10), (42, 10)] 6 :: Pk.val [(36, 6), (43, 6)] 6 :: Pk.val [(44, 6)] 6 :: Pk.val [(45, 6), (7, 0)] 1 :: Pk.val [(45, 6), (8, 7)] 8 :: Pk.val [(45, 6), (46, 1), (47, 8)] 13 :: Pk.val [(45, 6), (48, 13)] 14 :: Pk.val [(45, 6), (49, 14)] 15 :: Pk.val [(45, 6), (9, 4)] 5 :: Pk.val [(45, 6), (10, 11)] 12 :: Pk.val [(45, 6), (51, 5), (52, 12)] 16 :: Pk.val [(45, 6), (53, 16)] 14 :: Pk.val [(45, 6), (54, 14)] 15 :: Pk.val [(45, 6), (50, 15), (55, 15)] 6 :: Pk.val [(45, 6), (56, 6)] 6 :: Pk.val [(57, 6)] 6 :: Pk.val [(58, 6), (7, 0)] 1 :: Pk.val [(58, 6), (59, 1)] 17 :: Pk.val [(58, 6), (60, 17)] 18 :: Pk.val [(58, 6), (61, 18)] 19 :: Pk.val [(58, 6), (9, 4)] 5 :: Pk.val [(58, 6), (63, 5)] 20 :: Pk.val [(58, 6), (64, 20)] 18 :: Pk.val [(58, 6), (65, 18)] 19 :: Pk.val [(58, 6), (62, 19), (66, 19)] 6 :: Pk.val [(58, 6), (67, 6)] 6 :: Pk.val [(68, 6)] 6 :: Pk.val [(69, 6), (7, 0)] 1 :: Pk.val [(69, 6), (8, 7)] 8 :: Pk.val [(69, 6), (70, 1), (71, 8)] 21 :: Pk.val [(69, 6), (9, 4)] 5 :: Pk.val [(69, 6), (10, 11)] 12 :: Pk.val [(69, 6), (73, 5), (74, 12)] 21 :: Pk.val [(69, 6), (72, 21), (75, 21)] 6 :: Pk.val [(69, 6), (76, 6)] 6 :: Pk.val [(77, 6)] 6 :: Pk.val [(78, 6)] 6 :: Pk.val [(78, 6), (79, 6)] 6 :: Pk.val [(80, 6)] 6 :: []))
    [2, 9, 14, 18] [] [] (by kernel_rfl) 81 (by kernel_rfl) rfl (by kernel_rfl) ⟨.inr (lull_isv _ _ _), ⟨.inr (lull_P _ _ _), ⟨.inl rfl, ⟨.inr (lull_isv _ _ _), ⟨.inr (lull_isv _ _ _), ⟨.inr (lull_qp _ _ _), ⟨.inr (lull_isv _ _ _), ⟨.inr (lull_isv _ _ _), ⟨.inr (lull_P _ _ _), ⟨.inl rfl, ⟨.inr (lull_isv _ _ _), ⟨.inr (lull_isv _ _ _), ⟨.inr (lull_qp _ _ _), ⟨.inr (lull_P _ _ _), ⟨.inl rfl, ⟨.inr (lull_isv _ _ _), ⟨.inr (lull_qp _ _ _), ⟨.inr (lull_P _ _ _), ⟨.inl rfl, ⟨.inr (lull_isv _ _ _), ⟨.inr (lull_qp _ _ _), ⟨.inr (lull_isv _ _ _), trivial⟩⟩⟩⟩⟩⟩⟩⟩⟩⟩⟩⟩⟩⟩⟩⟩⟩⟩⟩⟩⟩⟩
    snkAt0 snk0 ⟨rfl, ⟨rfl, ⟨rfl, ⟨rfl, trivial⟩⟩⟩⟩
      (OkL3.cons (fun a w X_ h => g_ldp (wanted_none rfl) rfl h.1 (X_.at_ R7.out.1 out0 R7.out.2))
      (OkL3.cons (fun a w X_ h => g_call1 (wanted_none rfl) (by kernel_rfl) rfl (h_bytes h.1))
      (OkL3.cons (fun a w X_ h => g_str (wanted_none rfl) rfl h.1 rfl)
      (OkL3.cons (fun a w X_ h => g_ldqp N9.out (wanted_none rfl) rfl h.1 (X_.at_ R9.out.1 out0 R9.out.2))
      (OkL3.cons (fun a w X_ h => g_call1 (wanted_none rfl) (by kernel_rfl) rfl (r_pack h.1))
      (OkL3.cons (fun a w X_ h => g_str (wanted_none rfl) rfl h.1 rfl)
      (OkL3.cons (fun a w X_ h => g_eqs (wanted_none rfl) rfl h.1 h.2.1 (sob_t rfl))
      (OkL3.cons (fun a w X_ h => g_move (wanted_none rfl) (.inl rfl) h.1)
      (OkL3.cons (fun a w X_ h => g_ldp (wanted_some rfl rfl h.1) rfl h.2.1 (X_.at_ R8.out.1 out0 R8.out.2))
      (OkL3.cons (fun a w X_ h => g_call1 (wanted_some rfl rfl h.1) (by kernel_rfl) rfl (h_bytes h.2.1))
      (OkL3.cons (fun a w X_ h => g_str (wanted_some rfl rfl h.1) rfl h.2.1 rfl)
      (OkL3.cons (fun a w X_ h => g_ldqp N10.out (wanted_some rfl rfl h.1) rfl h.2.1 (X_.at_ R10.out.1 out0 R10.out.2))
      (OkL3.cons (fun a w X_ h => g_call1 (wanted_some rfl rfl h.1) (by kernel_rfl) rfl (r_pack h.2.1))
      (OkL3.cons (fun a w X_ h => g_str (wanted_some rfl rfl h.1) rfl h.2.1 rfl)
      (OkL3.cons (fun a w X_ h => g_eqs (wanted_some rfl rfl h.1) rfl h.2.1 h.2.2.1 (sob_t rfl))
      (OkL3.cons (fun a w X_ h => g_pick (wanted_none rfl) rfl h.1 h.2.1)
      (OkL3.cons (fun a w X_ h => g_move (wanted_none rfl) (.inl rfl) h.1)
      (OkL3.cons (fun a w X_ h => g_ldp (wanted_some rfl rfl h.1) rfl h.2.1 (X_.at_ R7.out.1 out0 R7.out.2))
      (OkL3.cons (fun a w X_ h => g_ldp (wanted_some rfl rfl h.1) rfl h.2.1 (X_.at_ R8.out.1 out0 R8.out.2))
      (OkL3.cons (fun a w X_ h => g_call2 (wanted_some rfl rfl h.1) (by kernel_rfl) rfl (p_addP h.2.1 h.2.2.1 (LDi.out.step (X_.on BEL.out SZ.out none_le))))
      (OkL3.cons (fun a w X_ h => g_call1 (wanted_some rfl rfl h.1) (by kernel_rfl) rfl (h_bytes h.2.1))
      (OkL3.cons (fun a w X_ h => g_str (wanted_some rfl rfl h.1) rfl h.2.1 rfl)
      (OkL3.cons (fun a w X_ h => g_ldqp N9.out (wanted_some rfl rfl h.1) rfl h.2.1 (X_.at_ R9.out.1 out0 R9.out.2))
      (OkL3.cons (fun a w X_ h => g_ldqp N10.out (wanted_some rfl rfl h.1) rfl h.2.1 (X_.at_ R10.out.1 out0 R10.out.2))
      (OkL3.cons (fun a w X_ h => g_call2 (wanted_some rfl rfl h.1) (by kernel_rfl) rfl (r_plus h.2.1 h.2.2.1))
      (OkL3.cons (fun a w X_ h => g_call1 (wanted_some rfl rfl h.1) (by kernel_rfl) rfl (r_pack h.2.1))
      (OkL3.cons (fun a w X_ h => g_str (wanted_some rfl rfl h.1) rfl h.2.1 rfl)
      (OkL3.cons (fun a w X_ h => g_eqs (wanted_some rfl rfl h.1) rfl h.2.1 h.2.2.1 (sob_t rfl))
      (OkL3.cons (fun a w X_ h => g_pick (wanted_none rfl) rfl h.1 h.2.1)
      (OkL3.cons (fun a w X_ h => g_move (wanted_none rfl) (.inl rfl) h.1)
      (OkL3.cons (fun a w X_ h => g_ldp (wanted_some rfl rfl h.1) rfl h.2.1 (X_.at_ R7.out.1 out0 R7.out.2))
      (OkL3.cons (fun a w X_ h => g_call1 (wanted_some rfl rfl h.1) (by kernel_rfl) rfl (p_negP h.2.1))
      (OkL3.cons (fun a w X_ h => g_call1 (wanted_some rfl rfl h.1) (by kernel_rfl) rfl (h_bytes h.2.1))
      (OkL3.cons (fun a w X_ h => g_str (wanted_some rfl rfl h.1) rfl h.2.1 rfl)
      (OkL3.cons (fun a w X_ h => g_ldqp N9.out (wanted_some rfl rfl h.1) rfl h.2.1 (X_.at_ R9.out.1 out0 R9.out.2))
      (OkL3.cons (fun a w X_ h => g_call1 (wanted_some rfl rfl h.1) (by kernel_rfl) rfl (r_neg h.2.1))
      (OkL3.cons (fun a w X_ h => g_call1 (wanted_some rfl rfl h.1) (by kernel_rfl) rfl (r_pack h.2.1))
      (OkL3.cons (fun a w X_ h => g_str (wanted_some rfl rfl h.1) rfl h.2.1 rfl)
      (OkL3.cons (fun a w X_ h => g_eqs (wanted_some rfl rfl h.1) rfl h.2.1 h.2.2.1 (sob_t rfl))
      (OkL3.cons (fun a w X_ h => g_pick (wanted_none rfl) rfl h.1 h.2.1)
      (OkL3.cons (fun a w X_ h => g_move (wanted_none rfl) (.inl rfl) h.1)
      (OkL3.cons (fun a w X_ h => g_ldp (wanted_some rfl rfl h.1) rfl h.2.1 (X_.at_ R7.out.1 out0 R7.out.2))
      (OkL3.cons (fun a w X_ h => g_ldp (wanted_some rfl rfl h.1) rfl h.2.1 (X_.at_ R8.out.1 out0 R8.out.2))
      (OkL3.cons (fun a w X_ h => g_call2 (wanted_some rfl rfl h.1) (by kernel_rfl) rfl (p_same h.2.1 h.2.2.1 (iff_f (HPQ.out))))
      (OkL3.cons (fun a w X_ h => g_ldqp N9.out (wanted_some rfl rfl h.1) rfl h.2.1 (X_.at_ R9.out.1 out0 R9.out.2))
      (OkL3.cons (fun a w X_ h => g_ldqp N10.out (wanted_some rfl rfl h.1) rfl h.2.1 (X_.at_ R10.out.1 out0 R10.out.2))
      (OkL3.cons (fun a w X_ h => g_call2 (wanted_some rfl rfl h.1) (by kernel_rfl) rfl (r_same h.2.1 h.2.2.1 (iff_f HPQ.out)))
      (OkL3.cons (fun a w X_ h => g_eqb (wanted_some rfl rfl h.1) rfl h.2.1 h.2.2.1 rfl)
      (OkL3.cons (fun a w X_ h => g_pick (wanted_none rfl) rfl h.1 h.2.1)
      (OkL3.cons (fun a w X_ h => g_move (wanted_none rfl) (.inl rfl) h.1)
      (OkL3.cons (fun a w X_ h => g_call0 (wanted_some rfl rfl h.1) (by kernel_rfl) rfl (awake_h))
      (OkL3.cons (fun a w X_ h => g_pick (wanted_none rfl) rfl h.1 h.2.1)
      (OkL3.cons (fun a w X_ h => g_move (wanted_none rfl) (.inr rfl) h.1)
      OkL3.nil))))))))))))))))))))))))))))))))))))))))))))))))))))) ?_
  rintro W5 X5 _ rfl v30 - _ rfl v32 - v33 - _ rfl _ rfl _ rfl _ rfl v38 - _ rfl v40 - v41 - _ rfl _ rfl _ rfl _ rfl _ rfl _ rfl _ rfl v49 - _ rfl v51 - v52 - v53 - v54 - _ rfl _ rfl _ rfl _ rfl _ rfl _ rfl v61 - _ rfl v63 - v64 - v65 - _ rfl _ rfl _ rfl _ rfl _ rfl _ rfl _ rfl v73 - v74 - _ rfl _ rfl _ rfl _ rfl _ rfl _ rfl _ rfl
  refine FinL3.done ?_
  simp only [Act.put, List.setIfInBounds_toArray, List.set_cons_zero, List.set_cons_succ]
  replace R7 := hide (X5.row out0 R7.out)
  replace R8 := hide (X5.row out0 R8.out)
  replace R9 := hide (X5.row out0 R9.out)
  replace R10 := hide (X5.row out0 R10.out)
  replace BS := hide (BS.out.ext X5.ext)
  replace BEL := hide (X5.on BEL.out SZ.out none_le)
  replace SZ := hide BEL.out.size
  have SW5 := X5.size
  clear X5
  go_wp2
  go_ret
  exact ⟨rfl, BEL.out⟩
set_option maxRecDepth 100000 in
set_option maxHeartbeats 1000000 in
theorem pointForms_walk (n m : Int) (u : Value) (l : List Nat) {w : World} (h : BsAt w u l) (LDi : LaidW 1 exw w) : Calls Tryd.prog 4 #[.int .i64 n, .int .i64 m, u] w fun e w' => e = .returned (.bool true) ∧ Below w.heap.size w w' := by
  by_cases hl : l.length ≤ 40
  · by_cases hpq : Pt.mul (n % 65536).toNat Bp = Pt.mul (bval (l.take 32)) Bp
    · exact pf_same n m u l h hl hpq LDi
    · exact pf_all n m u l h hl hpq LDi
  · obtain ⟨ao, cp, rfl, _, hcm⟩ := h.len
    have d0 : decide ((40 : Int) < (l.length : Int)) = true := decide_eq_true (by omega)
    have HW : Hid (∀ W : World, Hands Tryd.prog 9 #[] W (isv (.bool true))) := fun W => awake_h
    clear h hl
    go_enter Tryd.func4, Tryd.ntmps4
    go_wp2_with fail
    refine (HW.out _).mono ?_
    rintro e w1 ⟨v, rfl, b1, rfl⟩
    go_wp2
    go_ret
    exact ⟨rfl, b1⟩
end Go.Proofs.YteplbagjagimdaaDoor
