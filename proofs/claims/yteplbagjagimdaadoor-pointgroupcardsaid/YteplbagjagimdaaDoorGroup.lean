/- The points are a group: sums in any order, what is taken away, multiples, and l times the base: the law PointGroup answers true for all numbers, in any world where the exponent lies as the program's text lays it. -/
import Derived.Test.YteplbagjagimdaaDoorLaw1
namespace Go.Proofs.YteplbagjagimdaaDoor
open Go.RowKit
set_option linter.unusedSimpArgs false in
set_option maxRecDepth 100000 in
set_option maxHeartbeats 4000000 in
theorem pg_all (a b c : Int) {w : World} (LDi : LaidW 1 exw w) : Calls Tryd.prog 5 #[.int .i64 a, .int .i64 b, .int .i64 c, .bool false] w fun e w' => e = .returned (.bool true) ∧ Below w.heap.size w w' := by
  obtain ⟨A, hA⟩ : ∃ A, (a % 65536).toNat = A := ⟨_, rfl⟩
  obtain ⟨B, hB⟩ : ∃ B, (b % 65536).toNat = B := ⟨_, rfl⟩
  obtain ⟨C, hC⟩ : ∃ C, (c % 65536).toNat = C := ⟨_, rfl⟩
  have ea : bits BinOp.and IntKind.i64 a 65535 = (A : Int) := by rw [and_65535]; omega
  have eb : bits BinOp.and IntKind.i64 b 65535 = (B : Int) := by rw [and_65535]; omega
  have HAB : Hid (A + B < 1000000000) := by show _ < _; omega
  have HS3 : Hid (bval ([(A + B) % 256, (A + B) / 256 % 256, (A + B) / 65536 % 256].take 32) = A + B) := by
    show (A + B) % 256 + 256 * ((A + B) / 256 % 256 + 256 * ((A + B) / 65536 % 256 + 256 * 0)) = A + B
    omega
  have HA := hide ((smb_val a).trans hA)
  have HB := hide ((smb_val b).trans hB)
  have HC := hide ((smb_val c).trans hC)
  clear hA hB hC
  replace LDi := hide LDi
  have hcv := fun (W : World) (C : Array Value) => Lib.run_convert_bytes_const (P := Tryd.prog) W 22 5 C 16 16 und22 Tryd.underlying5
  have BEL := hide (Below.refl w.heap.size w)
  have SZ := hide BEL.out.size
  go_enter Tryd.func5, Tryd.ntmps5
  go_upto_region 1 with fail
  refine wp_region_lined3 (tl := [isP Bp, isv (.int .i64 a), isb (smb a), isP (Pt.mul A Bp), isv (.int .i64 b), isb (smb b), isP (Pt.mul B Bp), isv (.int .i64 c), isb (smb c), isP (Pt.mul C Bp)]) (pre := [(0, 1), (1, 4), (2, 7)])
    (plan := (Pk.val [] 0 :: Pk.val [(0, 1)] 1 :: Pk.val [(14, 1)] 2 :: Pk.val [(13, 0), (15, 2)] 3 :: Pk.val [] 0 :: Pk.val [(1, 4)] 4 :: Pk.val [(18, 4)] 5 :: Pk.val [(17, 0), (19, 5)] 6 :: Pk.val [] 0 :: Pk.val [(2, 7)] 7 :: Pk.val [(22, 7)] 8 :: Pk.val [(21, 0), (23, 8)] 9 :: Pk.alc 30 8 :: Pk.alc 30 8 :: Pk.alc 30 8 :: Pk.sto 12 16 3 :: Pk.sto 13 20 6 :: Pk.sto 14 24 9 :: []))
    [2, 5, 8] [] [] 109 (by kernel_rfl) rfl (by kernel_rfl) ⟨.inr (lull_P _ _ _), ⟨.inr (lull_isv _ _ _), ⟨.inl rfl, ⟨.inr (lull_P _ _ _), ⟨.inr (lull_isv _ _ _), ⟨.inl rfl, ⟨.inr (lull_P _ _ _), ⟨.inr (lull_isv _ _ _), ⟨.inl rfl, ⟨.inr (lull_P _ _ _), trivial⟩⟩⟩⟩⟩⟩⟩⟩⟩⟩
    snkAt0 snk0 ⟨rfl, ⟨rfl, ⟨rfl, trivial⟩⟩⟩
      (OkL3.cons (fun a w X_ h => g_call0 (wanted_none rfl) (by kernel_rfl) rfl (p_baseP))
      (OkL3.cons (fun a w X_ h => g_move (wanted_none rfl) (.inl rfl) h.1)
      (OkL3.cons (fun a w X_ h => g_call1 (wanted_none rfl) (by kernel_rfl) rfl (small_h h.1))
      (OkL3.cons (fun a w X_ h => g_call2 (wanted_none rfl) (by kernel_rfl) rfl (p_mulN (n := A) (HA.out) h.1 h.2.1 (LDi.out.step (X_.on BEL.out SZ.out none_le))))
      (OkL3.cons (fun a w X_ h => g_call0 (wanted_none rfl) (by kernel_rfl) rfl (p_baseP))
      (OkL3.cons (fun a w X_ h => g_move (wanted_none rfl) (.inl rfl) h.1)
      (OkL3.cons (fun a w X_ h => g_call1 (wanted_none rfl) (by kernel_rfl) rfl (small_h h.1))
      (OkL3.cons (fun a w X_ h => g_call2 (wanted_none rfl) (by kernel_rfl) rfl (p_mulN (n := B) (HB.out) h.1 h.2.1 (LDi.out.step (X_.on BEL.out SZ.out none_le))))
      (OkL3.cons (fun a w X_ h => g_call0 (wanted_none rfl) (by kernel_rfl) rfl (p_baseP))
      (OkL3.cons (fun a w X_ h => g_move (wanted_none rfl) (.inl rfl) h.1)
      (OkL3.cons (fun a w X_ h => g_call1 (wanted_none rfl) (by kernel_rfl) rfl (small_h h.1))
      (OkL3.cons (fun a w X_ h => g_call2 (wanted_none rfl) (by kernel_rfl) rfl (p_mulN (n := C) (HC.out) h.1 h.2.1 (LDi.out.step (X_.on BEL.out SZ.out none_le))))
      (OkL3.cons (alc_of zp rfl rfl rfl newP)
      (OkL3.cons (alc_of zp rfl rfl rfl newP)
      (OkL3.cons (alc_of zp rfl rfl rfl newP)
      (OkL3.cons (⟨rfl, _, _, _, rfl, rfl, rfl, by kernel_rfl, row_P _⟩)
      (OkL3.cons (⟨rfl, _, _, _, rfl, rfl, rfl, by kernel_rfl, row_P _⟩)
      (OkL3.cons (⟨rfl, _, _, _, rfl, rfl, rfl, by kernel_rfl, row_P _⟩)
      OkL3.nil)))))))))))))))))) ?_
  rintro W1 X1 _ rfl _ rfl v15 - _ rfl _ rfl _ rfl v19 - _ rfl _ rfl _ rfl v23 - _ rfl g9 c9 ⟨L9, Z9, -⟩ r9 H9 g10 c10 ⟨L10, Z10, -⟩ r10 H10 g11 c11 ⟨L11, Z11, -⟩ r11 H11
  refine FinL3.fill ?_
  refine FinL3.fill ?_
  refine FinL3.fill ?_
  refine FinL3.done ?_
  simp only [Act.put, List.setIfInBounds_toArray, List.set_cons_zero, List.set_cons_succ]
  obtain rfl : c9 = pe (Pt.mul A Bp).x ((Pt.mul A Bp).y - 1) := agg_inj H9
  have R9 := hide (And.intro Z9 r9)
  clear r9
  obtain rfl : c10 = pe (Pt.mul B Bp).x ((Pt.mul B Bp).y - 1) := agg_inj H10
  have R10 := hide (And.intro Z10 r10)
  clear r10
  obtain rfl : c11 = pe (Pt.mul C Bp).x ((Pt.mul C Bp).y - 1) := agg_inj H11
  have R11 := hide (And.intro Z11 r11)
  clear r11
  replace BEL := hide (X1.on BEL.out SZ.out none_le)
  replace SZ := hide BEL.out.size
  have SW1 := X1.size
  clear X1
  clear H9 H10 H11
  go_upto_region 4 with fail
  refine wp_region_typed3 (tl := (isv (.pointer (some ⟨g9, 0, none⟩)) :: isP (Pt.mul A Bp) :: isv (.pointer (some ⟨g10, 0, none⟩)) :: isP (Pt.mul B Bp) :: isP ((Pt.mul A Bp).add (Pt.mul B Bp)) :: isP ((Pt.mul B Bp).add (Pt.mul A Bp)) :: isv (.bool true) :: isv (.bool false) :: isv (.pointer (some ⟨g11, 0, none⟩)) :: isP (Pt.mul C Bp) :: isP (((Pt.mul A Bp).add (Pt.mul B Bp)).add (Pt.mul C Bp)) :: isP ((Pt.mul B Bp).add (Pt.mul C Bp)) :: isP ((Pt.mul A Bp).add ((Pt.mul B Bp).add (Pt.mul C Bp))) :: isP ((Pt.mul A Bp).neg) :: isP ((Pt.mul A Bp).add ((Pt.mul A Bp).neg)) :: isP Pt.zero :: isP ((Pt.mul A Bp).add Pt.zero) :: [])) (pre := [(9, 0), (10, 2), (11, 8)])
    (plan := (Pk.val [(9, 0)] 1 :: Pk.val [(10, 2)] 3 :: Pk.val [(27, 1), (28, 3)] 4 :: Pk.val [(10, 2)] 3 :: Pk.val [(9, 0)] 1 :: Pk.val [(30, 3), (31, 1)] 5 :: Pk.val [(29, 4), (32, 5)] 6 :: Pk.val [(33, 6)] 7 :: Pk.val [(34, 7)] 7 :: Pk.val [(35, 7), (9, 0)] 1 :: Pk.val [(35, 7), (10, 2)] 3 :: Pk.val [(35, 7), (36, 1), (37, 3)] 4 :: Pk.val [(35, 7), (11, 8)] 9 :: Pk.val [(35, 7), (38, 4), (39, 9)] 10 :: Pk.val [(35, 7), (9, 0)] 1 :: Pk.val [(35, 7), (10, 2)] 3 :: Pk.val [(35, 7), (11, 8)] 9 :: Pk.val [(35, 7), (42, 3), (43, 9)] 11 :: Pk.val [(35, 7), (41, 1), (44, 11)] 12 :: Pk.val [(35, 7), (40, 10), (45, 12)] 6 :: Pk.val [(35, 7), (46, 6)] 7 :: Pk.val [(35, 7), (47, 7)] 7 :: Pk.val [(48, 7)] 7 :: Pk.val [(49, 7), (9, 0)] 1 :: Pk.val [(49, 7), (9, 0)] 1 :: Pk.val [(49, 7), (51, 1)] 13 :: Pk.val [(49, 7), (50, 1), (52, 13)] 14 :: Pk.val [(49, 7)] 15 :: Pk.val [(49, 7), (53, 14), (54, 15)] 6 :: Pk.val [(49, 7), (55, 6)] 7 :: Pk.val [(49, 7), (56, 7)] 7 :: Pk.val [(57, 7)] 7 :: Pk.val [(58, 7), (9, 0)] 1 :: Pk.val [(58, 7)] 15 :: Pk.val [(58, 7), (59, 1), (60, 15)] 16 :: Pk.val [(58, 7), (9, 0)] 1 :: Pk.val [(58, 7), (61, 16), (62, 1)] 6 :: Pk.val [(58, 7), (63, 6)] 7 :: Pk.val [(58, 7), (64, 7)] 7 :: []))
    [] [] [] (by kernel_rfl) 109 (by kernel_rfl) rfl (by kernel_rfl) ⟨.inr (lull_isv _ _ _), ⟨.inr (lull_P _ _ _), ⟨.inr (lull_isv _ _ _), ⟨.inr (lull_P _ _ _), ⟨.inr (lull_P _ _ _), ⟨.inr (lull_P _ _ _), ⟨.inr (lull_isv _ _ _), ⟨.inr (lull_isv _ _ _), ⟨.inr (lull_isv _ _ _), ⟨.inr (lull_P _ _ _), ⟨.inr (lull_P _ _ _), ⟨.inr (lull_P _ _ _), ⟨.inr (lull_P _ _ _), ⟨.inr (lull_P _ _ _), ⟨.inr (lull_P _ _ _), ⟨.inr (lull_P _ _ _), ⟨.inr (lull_P _ _ _), trivial⟩⟩⟩⟩⟩⟩⟩⟩⟩⟩⟩⟩⟩⟩⟩⟩⟩
    snkAt0 snk0 ⟨rfl, ⟨rfl, ⟨rfl, trivial⟩⟩⟩
      (OkL3.cons (fun a w X_ h => g_ldp (wanted_none rfl) rfl h.1 (X_.at_ R9.out.1 out0 R9.out.2))
      (OkL3.cons (fun a w X_ h => g_ldp (wanted_none rfl) rfl h.1 (X_.at_ R10.out.1 out0 R10.out.2))
      (OkL3.cons (fun a w X_ h => g_call2 (wanted_none rfl) (by kernel_rfl) rfl (p_addP h.1 h.2.1 (LDi.out.step (X_.on BEL.out SZ.out none_le))))
      (OkL3.cons (fun a w X_ h => g_ldp (wanted_none rfl) rfl h.1 (X_.at_ R10.out.1 out0 R10.out.2))
      (OkL3.cons (fun a w X_ h => g_ldp (wanted_none rfl) rfl h.1 (X_.at_ R9.out.1 out0 R9.out.2))
      (OkL3.cons (fun a w X_ h => g_call2 (wanted_none rfl) (by kernel_rfl) rfl (p_addP h.1 h.2.1 (LDi.out.step (X_.on BEL.out SZ.out none_le))))
      (OkL3.cons (fun a w X_ h => g_call2 (wanted_none rfl) (by kernel_rfl) rfl (p_same h.1 h.2.1 (iff_t (add_comm' _ _))))
      (OkL3.cons (fun a w X_ h => g_not (wanted_none rfl) rfl h.1 rfl)
      (OkL3.cons (fun a w X_ h => g_move (wanted_none rfl) (.inl rfl) h.1)
      (OkL3.cons (fun a w X_ h => g_ldp (wanted_some rfl rfl h.1) rfl h.2.1 (X_.at_ R9.out.1 out0 R9.out.2))
      (OkL3.cons (fun a w X_ h => g_ldp (wanted_some rfl rfl h.1) rfl h.2.1 (X_.at_ R10.out.1 out0 R10.out.2))
      (OkL3.cons (fun a w X_ h => g_call2 (wanted_some rfl rfl h.1) (by kernel_rfl) rfl (p_addP h.2.1 h.2.2.1 (LDi.out.step (X_.on BEL.out SZ.out none_le))))
      (OkL3.cons (fun a w X_ h => g_ldp (wanted_some rfl rfl h.1) rfl h.2.1 (X_.at_ R11.out.1 out0 R11.out.2))
      (OkL3.cons (fun a w X_ h => g_call2 (wanted_some rfl rfl h.1) (by kernel_rfl) rfl (p_addP h.2.1 h.2.2.1 (LDi.out.step (X_.on BEL.out SZ.out none_le))))
      (OkL3.cons (fun a w X_ h => g_ldp (wanted_some rfl rfl h.1) rfl h.2.1 (X_.at_ R9.out.1 out0 R9.out.2))
      (OkL3.cons (fun a w X_ h => g_ldp (wanted_some rfl rfl h.1) rfl h.2.1 (X_.at_ R10.out.1 out0 R10.out.2))
      (OkL3.cons (fun a w X_ h => g_ldp (wanted_some rfl rfl h.1) rfl h.2.1 (X_.at_ R11.out.1 out0 R11.out.2))
      (OkL3.cons (fun a w X_ h => g_call2 (wanted_some rfl rfl h.1) (by kernel_rfl) rfl (p_addP h.2.1 h.2.2.1 (LDi.out.step (X_.on BEL.out SZ.out none_le))))
      (OkL3.cons (fun a w X_ h => g_call2 (wanted_some rfl rfl h.1) (by kernel_rfl) rfl (p_addP h.2.1 h.2.2.1 (LDi.out.step (X_.on BEL.out SZ.out none_le))))
      (OkL3.cons (fun a w X_ h => g_call2 (wanted_some rfl rfl h.1) (by kernel_rfl) rfl (p_same h.2.1 h.2.2.1 (iff_t (add_assoc' _ _ _))))
      (OkL3.cons (fun a w X_ h => g_not (wanted_some rfl rfl h.1) rfl h.2.1 rfl)
      (OkL3.cons (fun a w X_ h => g_pick (wanted_none rfl) rfl h.1 h.2.1)
      (OkL3.cons (fun a w X_ h => g_move (wanted_none rfl) (.inl rfl) h.1)
      (OkL3.cons (fun a w X_ h => g_ldp (wanted_some rfl rfl h.1) rfl h.2.1 (X_.at_ R9.out.1 out0 R9.out.2))
      (OkL3.cons (fun a w X_ h => g_ldp (wanted_some rfl rfl h.1) rfl h.2.1 (X_.at_ R9.out.1 out0 R9.out.2))
      (OkL3.cons (fun a w X_ h => g_call1 (wanted_some rfl rfl h.1) (by kernel_rfl) rfl (p_negP h.2.1))
      (OkL3.cons (fun a w X_ h => g_call2 (wanted_some rfl rfl h.1) (by kernel_rfl) rfl (p_addP h.2.1 h.2.2.1 (LDi.out.step (X_.on BEL.out SZ.out none_le))))
      (OkL3.cons (fun a w X_ h => g_call0 (wanted_some rfl rfl h.1) (by kernel_rfl) rfl (p_zeroP))
      (OkL3.cons (fun a w X_ h => g_call2 (wanted_some rfl rfl h.1) (by kernel_rfl) rfl (p_same h.2.1 h.2.2.1 (iff_t (add_neg' _))))
      (OkL3.cons (fun a w X_ h => g_not (wanted_some rfl rfl h.1) rfl h.2.1 rfl)
      (OkL3.cons (fun a w X_ h => g_pick (wanted_none rfl) rfl h.1 h.2.1)
      (OkL3.cons (fun a w X_ h => g_move (wanted_none rfl) (.inl rfl) h.1)
      (OkL3.cons (fun a w X_ h => g_ldp (wanted_some rfl rfl h.1) rfl h.2.1 (X_.at_ R9.out.1 out0 R9.out.2))
      (OkL3.cons (fun a w X_ h => g_call0 (wanted_some rfl rfl h.1) (by kernel_rfl) rfl (p_zeroP))
      (OkL3.cons (fun a w X_ h => g_call2 (wanted_some rfl rfl h.1) (by kernel_rfl) rfl (p_addP h.2.1 h.2.2.1 (LDi.out.step (X_.on BEL.out SZ.out none_le))))
      (OkL3.cons (fun a w X_ h => g_ldp (wanted_some rfl rfl h.1) rfl h.2.1 (X_.at_ R9.out.1 out0 R9.out.2))
      (OkL3.cons (fun a w X_ h => g_call2 (wanted_some rfl rfl h.1) (by kernel_rfl) rfl (p_same h.2.1 h.2.2.1 (iff_t (add_zero' _))))
      (OkL3.cons (fun a w X_ h => g_not (wanted_some rfl rfl h.1) rfl h.2.1 rfl)
      (OkL3.cons (fun a w X_ h => g_pick (wanted_none rfl) rfl h.1 h.2.1)
      OkL3.nil))))))))))))))))))))))))))))))))))))))) ?_
  rintro W4 X4 _ rfl _ rfl _ rfl _ rfl _ rfl _ rfl _ rfl _ rfl _ rfl _ rfl _ rfl _ rfl _ rfl _ rfl _ rfl _ rfl _ rfl _ rfl _ rfl _ rfl _ rfl _ rfl _ rfl _ rfl _ rfl _ rfl _ rfl _ rfl _ rfl _ rfl _ rfl _ rfl _ rfl _ rfl _ rfl _ rfl _ rfl _ rfl _ rfl
  refine FinL3.done ?_
  simp only [Act.put, List.setIfInBounds_toArray, List.set_cons_zero, List.set_cons_succ]
  replace R9 := hide (X4.row out0 R9.out)
  replace R10 := hide (X4.row out0 R10.out)
  replace R11 := hide (X4.row out0 R11.out)
  replace BEL := hide (X4.on BEL.out SZ.out none_le)
  replace SZ := hide BEL.out.size
  have SW4 := X4.size
  clear X4
  go_upto_region 7 with fail
  refine wp_region_lined3 (tl := (isv (.bool false) :: isv (.bool true) :: isv (.pointer (some ⟨g9, 0, none⟩)) :: isP (Pt.mul A Bp) :: isv (.pointer (some ⟨g10, 0, none⟩)) :: isP (Pt.mul B Bp) :: isP ((Pt.mul A Bp).add (Pt.mul B Bp)) :: isP Bp :: isv (.int .i64 (A : Int)) :: isv (.int .i64 (B : Int)) :: isv (.int .i64 ((A + B : Nat) : Int)) :: isv (.int .u8 (((A + B) % 256 : Nat) : Int)) :: isv (.int .i64 (((A + B) / 256 : Nat) : Int)) :: isv (.int .u8 ((((A + B) / 256) % 256 : Nat) : Int)) :: isv (.int .i64 (((A + B) / 65536 : Nat) : Int)) :: isv (.int .u8 ((((A + B) / 65536) % 256 : Nat) : Int)) :: isb ([(A + B) % 256, ((A + B) / 256) % 256, ((A + B) / 65536) % 256]) :: isP (Pt.mul (A + B) Bp) :: [])) (pre := [(0, 8), (1, 9), (3, 0), (9, 2), (10, 4)])
    (plan := (Pk.val [(3, 0)] 0 :: Pk.val [(70, 0)] 1 :: Pk.val [(71, 1)] 1 :: Pk.val [(72, 1), (9, 2)] 3 :: Pk.val [(72, 1), (10, 4)] 5 :: Pk.val [(72, 1), (73, 3), (74, 5)] 6 :: Pk.val [(72, 1)] 7 :: Pk.val [(72, 1), (0, 8)] 8 :: Pk.val [(72, 1), (1, 9)] 9 :: Pk.val [(72, 1), (77, 8), (78, 9)] 10 :: Pk.val [(72, 1), (79, 10)] 11 :: Pk.val [(72, 1), (0, 8)] 8 :: Pk.val [(72, 1), (1, 9)] 9 :: Pk.val [(72, 1), (81, 8), (82, 9)] 10 :: Pk.val [(72, 1), (83, 10)] 12 :: Pk.val [(72, 1), (84, 12)] 13 :: Pk.val [(72, 1), (0, 8)] 8 :: Pk.val [(72, 1), (1, 9)] 9 :: Pk.val [(72, 1), (86, 8), (87, 9)] 10 :: Pk.val [(72, 1), (88, 10)] 14 :: Pk.val [(72, 1), (89, 14)] 15 :: Pk.val [(72, 1), (80, 11), (85, 13), (90, 15)] 16 :: Pk.val [(72, 1), (76, 7), (91, 16)] 17 :: Pk.val [(72, 1), (75, 6), (92, 17)] 1 :: Pk.val [(72, 1), (93, 1)] 0 :: Pk.val [(72, 1), (94, 0)] 0 :: []))
    [16] [] [] 109 (by kernel_rfl) rfl (by kernel_rfl) ⟨.inr (lull_isv _ _ _), ⟨.inr (lull_isv _ _ _), ⟨.inr (lull_isv _ _ _), ⟨.inr (lull_P _ _ _), ⟨.inr (lull_isv _ _ _), ⟨.inr (lull_P _ _ _), ⟨.inr (lull_P _ _ _), ⟨.inr (lull_P _ _ _), ⟨.inr (lull_isv _ _ _), ⟨.inr (lull_isv _ _ _), ⟨.inr (lull_isv _ _ _), ⟨.inr (lull_isv _ _ _), ⟨.inr (lull_isv _ _ _), ⟨.inr (lull_isv _ _ _), ⟨.inr (lull_isv _ _ _), ⟨.inr (lull_isv _ _ _), ⟨.inl rfl, ⟨.inr (lull_P _ _ _), trivial⟩⟩⟩⟩⟩⟩⟩⟩⟩⟩⟩⟩⟩⟩⟩⟩⟩⟩
    snkAt0 snk0 ⟨rfl, ⟨rfl, ⟨rfl, ⟨rfl, ⟨rfl, trivial⟩⟩⟩⟩⟩
      (OkL3.cons (fun a w X_ h => g_move (wanted_none rfl) (.inl rfl) h.1)
      (OkL3.cons (fun a w X_ h => g_not (wanted_none rfl) rfl h.1 rfl)
      (OkL3.cons (fun a w X_ h => g_move (wanted_none rfl) (.inl rfl) h.1)
      (OkL3.cons (fun a w X_ h => g_ldp (wanted_some rfl rfl h.1) rfl h.2.1 (X_.at_ R9.out.1 out0 R9.out.2))
      (OkL3.cons (fun a w X_ h => g_ldp (wanted_some rfl rfl h.1) rfl h.2.1 (X_.at_ R10.out.1 out0 R10.out.2))
      (OkL3.cons (fun a w X_ h => g_call2 (wanted_some rfl rfl h.1) (by kernel_rfl) rfl (p_addP h.2.1 h.2.2.1 (LDi.out.step (X_.on BEL.out SZ.out none_le))))
      (OkL3.cons (fun a w X_ h => g_call0 (wanted_some rfl rfl h.1) (by kernel_rfl) rfl (p_baseP))
      (OkL3.cons (fun a w X_ h => g_move (wanted_some rfl rfl h.1) (.inl rfl) h.2.1)
      (OkL3.cons (fun a w X_ h => g_move (wanted_some rfl rfl h.1) (.inl rfl) h.2.1)
      (OkL3.cons (fun a w X_ h => g_addn (wanted_some rfl rfl h.1) rfl h.2.1 h.2.2.1 HAB.out)
      (OkL3.cons (fun a w X_ h => g_cv8 (wanted_some rfl rfl h.1) rfl h.2.1)
      (OkL3.cons (fun a w X_ h => g_move (wanted_some rfl rfl h.1) (.inl rfl) h.2.1)
      (OkL3.cons (fun a w X_ h => g_move (wanted_some rfl rfl h.1) (.inl rfl) h.2.1)
      (OkL3.cons (fun a w X_ h => g_addn (wanted_some rfl rfl h.1) rfl h.2.1 h.2.2.1 HAB.out)
      (OkL3.cons (fun a w X_ h => g_shr8 (wanted_some rfl rfl h.1) rfl h.2.1)
      (OkL3.cons (fun a w X_ h => g_cv8 (wanted_some rfl rfl h.1) rfl h.2.1)
      (OkL3.cons (fun a w X_ h => g_move (wanted_some rfl rfl h.1) (.inl rfl) h.2.1)
      (OkL3.cons (fun a w X_ h => g_move (wanted_some rfl rfl h.1) (.inl rfl) h.2.1)
      (OkL3.cons (fun a w X_ h => g_addn (wanted_some rfl rfl h.1) rfl h.2.1 h.2.2.1 HAB.out)
      (OkL3.cons (fun a w X_ h => g_shr16 (wanted_some rfl rfl h.1) rfl h.2.1)
      (OkL3.cons (fun a w X_ h => g_cv8 (wanted_some rfl rfl h.1) rfl h.2.1)
      (OkL3.cons (fun a w X_ h => g_news (l := [(A + B) % 256, ((A + B) / 256) % 256, ((A + B) / 65536) % 256]) (cs := #[.int .u8 (((A + B) % 256 : Nat) : Int), .int .u8 ((((A + B) / 256) % 256 : Nat) : Int), .int .u8 ((((A + B) / 65536) % 256 : Nat) : Int)]) (n := 3) (wanted_some rfl rfl h.1) (lim_list (by simp; omega)) (by simp) rfl rfl (by have e80 : a.tmps[80]?.getD undef = .int .u8 (((A + B) % 256 : Nat) : Int) := (by rw [← Array.getD_eq_getD_getElem?]; exact h.2.1); have e85 : a.tmps[85]?.getD undef = .int .u8 ((((A + B) / 256) % 256 : Nat) : Int) := (by rw [← Array.getD_eq_getD_getElem?]; exact h.2.2.1); have e90 : a.tmps[90]?.getD undef = .int .u8 ((((A + B) / 65536) % 256 : Nat) : Int) := (by rw [← Array.getD_eq_getD_getElem?]; exact h.2.2.2.1); go_simp))
      (OkL3.cons (fun a w X_ h => g_call2 (wanted_some rfl rfl h.1) (by kernel_rfl) rfl (p_mulN (n := A + B) (HS3.out) h.2.1 h.2.2.1 (LDi.out.step (X_.on BEL.out SZ.out none_le))))
      (OkL3.cons (fun a w X_ h => g_call2 (wanted_some rfl rfl h.1) (by kernel_rfl) rfl (p_same h.2.1 h.2.2.1 (iff_t ((mul_add' A B Bp).symm))))
      (OkL3.cons (fun a w X_ h => g_not (wanted_some rfl rfl h.1) rfl h.2.1 rfl)
      (OkL3.cons (fun a w X_ h => g_pick (wanted_none rfl) rfl h.1 h.2.1)
      OkL3.nil)))))))))))))))))))))))))) ?_
  rintro W7 X7 _ rfl _ rfl _ rfl _ rfl _ rfl _ rfl _ rfl _ rfl _ rfl _ rfl _ rfl _ rfl _ rfl _ rfl _ rfl _ rfl _ rfl _ rfl _ rfl _ rfl _ rfl v91 - _ rfl _ rfl _ rfl _ rfl
  refine FinL3.done ?_
  simp only [Act.put, List.setIfInBounds_toArray, List.set_cons_zero, List.set_cons_succ]
  replace R9 := hide (X7.row out0 R9.out)
  replace R10 := hide (X7.row out0 R10.out)
  replace R11 := hide (X7.row out0 R11.out)
  replace BEL := hide (X7.on BEL.out SZ.out none_le)
  replace SZ := hide BEL.out.size
  have SW7 := X7.size
  clear X7
  clear ea eb R9 R10 R11
  have O0 : Hid (BsAt (W7.alloc (.cells (ba l16) 5 (16, 17))) (.slice (some ⟨W7.heap.size, 0, none⟩) 16 16) l16) := marked_at l16 l16_lim (by decide) _
  have B0 := hide (BEL.out.alloc BEL.out.size (.cells (ba l16) 5 (16, 17)))
  rw [ba_l16] at O0 B0
  go_wp2_with (at_builtin; refine wpList_append_zg rfl 16 (by decide) (.tmp 97) _ rfl rfl rfl O0.out (by decide) (by decide) ?_)
  intro v1 w1 o1 q1
  have B1 := hide (B0.out.grown q1 B0.out.size (by simp))
  obtain ⟨g, cap, rfl, hg1, hg2, hcap, hcm⟩ := o1.form (by decide)
  replace hg1 : w.heap.size ≤ g := by have := SZ.out; have := hg1; omega
  have hle : (l16 ++ zz 16).length = 32 := by decide
  rw [hle] at hcap o1 ⊢
  have f31 := o1.row.frozenAt 31
  have c31 : w1.cell? ⟨g, 31, none⟩ = some (.int .u8 0) := by rw [o1.row.cellAt 31 (by decide)]; rfl
  have O1 : Hid (BsAt (w1.setCell ⟨g, 31, none⟩ (.int .u8 16)) (.slice (some ⟨g, 0, none⟩) 32 cap) lbs) := (o1.set 31 16 (by decide)).at
  have B2 : Hid (Below w.heap.size w (w1.setCell ⟨g, 31, none⟩ (.int .u8 16))) := B1.out.setCell (p := ⟨g, 31, none⟩) hg1 (.int .u8 (16 : Int))
  clear q1 o1 B0 O0 B1 hle
  go_upto_region 11 with fail
  generalize w1.setCell ⟨g, 31, none⟩ (.int .u8 16) = W8 at *
  replace BEL := B2
  replace SZ := hide BEL.out.size
  clear B2 f31 c31 hg2 hcap hcm
  refine wp_region_lined3 (tl := [isP Bp, isb lbs, isP (Pt.mul lq Bp), isP Pt.zero, isv (.bool true)]) (pre := [(12, 1)])
    (plan := [Pk.val [] 0, Pk.val [(12, 1)] 1, Pk.val [(101, 0), (102, 1)] 2, Pk.val [] 3, Pk.val [(103, 2), (104, 3)] 4, Pk.val [(105, 4)] 4, Pk.val [(106, 4)] 4, Pk.val [(106, 4), (107, 4)] 4, Pk.val [(108, 4)] 4])
    [1] [] [] 109 (by kernel_rfl) rfl (by kernel_rfl) ⟨.inr (lull_P _ _ _), ⟨.inl rfl, ⟨.inr (lull_P _ _ _), ⟨.inr (lull_P _ _ _), ⟨.inr (lull_isv _ _ _), trivial⟩⟩⟩⟩⟩
    snkAt0 snk0 ⟨O1.out, trivial⟩
      (OkL3.cons (fun a w X_ h => g_call0 (wanted_none rfl) (by kernel_rfl) rfl (p_baseP))
      (OkL3.cons (fun a w X_ h => g_move (wanted_none rfl) (.inl rfl) h.1)
      (OkL3.cons (fun a w X_ h => g_call2 (wanted_none rfl) (by kernel_rfl) rfl (p_mulN (n := lq) (lbs_val) h.1 h.2.1 (LDi.out.step (X_.on BEL.out SZ.out none_le))))
      (OkL3.cons (fun a w X_ h => g_call0 (wanted_none rfl) (by kernel_rfl) rfl (p_zeroP))
      (OkL3.cons (fun a w X_ h => g_call2 (wanted_none rfl) (by kernel_rfl) rfl (p_same h.1 h.2.1 (iff_t (l_base))))
      (OkL3.cons (fun a w X_ h => g_move (wanted_none rfl) (.inl rfl) h.1)
      (OkL3.cons (fun a w X_ h => g_call0 (wanted_some rfl rfl h.1) (by kernel_rfl) rfl (awake_h))
      (OkL3.cons (fun a w X_ h => g_pick (wanted_none rfl) rfl h.1 h.2.1)
      (OkL3.cons (fun a w X_ h => g_move (wanted_none rfl) (.inr rfl) h.1)
      OkL3.nil))))))))) ?_
  rintro W9 X9 _ rfl v102 - _ rfl _ rfl _ rfl _ rfl _ rfl _ rfl _ rfl
  refine FinL3.done ?_
  simp only [Act.put, List.setIfInBounds_toArray, List.set_cons_zero, List.set_cons_succ]
  replace BEL := hide (X9.on BEL.out SZ.out none_le)
  replace SZ := hide BEL.out.size
  have SW9 := X9.size
  clear X9
  go_wp2
  go_ret
  exact ⟨rfl, BEL.out⟩
set_option linter.unusedSimpArgs false in
set_option maxRecDepth 100000 in
set_option maxHeartbeats 4000000 in
theorem pg_same (a b c : Int) {w : World} (LDi : LaidW 1 exw w) : Calls Tryd.prog 5 #[.int .i64 a, .int .i64 b, .int .i64 c, .bool true] w fun e w' => e = .returned (.bool true) ∧ Below w.heap.size w w' := by
  obtain ⟨A, hA⟩ : ∃ A, (a % 65536).toNat = A := ⟨_, rfl⟩
  obtain ⟨B, hB⟩ : ∃ B, (b % 65536).toNat = B := ⟨_, rfl⟩
  obtain ⟨C, hC⟩ : ∃ C, (c % 65536).toNat = C := ⟨_, rfl⟩
  have ea : bits BinOp.and IntKind.i64 a 65535 = (A : Int) := by rw [and_65535]; omega
  have eb : bits BinOp.and IntKind.i64 b 65535 = (B : Int) := by rw [and_65535]; omega
  have HAB : Hid (A + B < 1000000000) := by show _ < _; omega
  have HS3 : Hid (bval ([(A + B) % 256, (A + B) / 256 % 256, (A + B) / 65536 % 256].take 32) = A + B) := by
    show (A + B) % 256 + 256 * ((A + B) / 256 % 256 + 256 * ((A + B) / 65536 % 256 + 256 * 0)) = A + B
    omega
  have HA := hide ((smb_val a).trans hA)
  have HB := hide ((smb_val b).trans hB)
  have HC := hide ((smb_val c).trans hC)
  clear hA hB hC
  replace LDi := hide LDi
  have hcv := fun (W : World) (C : Array Value) => Lib.run_convert_bytes_const (P := Tryd.prog) W 22 5 C 16 16 und22 Tryd.underlying5
  have BEL := hide (Below.refl w.heap.size w)
  have SZ := hide BEL.out.size
  go_enter Tryd.func5, Tryd.ntmps5
  go_upto_region 1 with fail
  refine wp_region_lined3 (tl := [isP Bp, isv (.int .i64 a), isb (smb a), isP (Pt.mul A Bp), isv (.int .i64 b), isb (smb b), isP (Pt.mul B Bp), isv (.int .i64 c), isb (smb c), isP (Pt.mul C Bp)]) (pre := [(0, 1), (1, 4), (2, 7)])
    (plan := (Pk.val [] 0 :: Pk.val [(0, 1)] 1 :: Pk.val [(14, 1)] 2 :: Pk.val [(13, 0), (15, 2)] 3 :: Pk.val [] 0 :: Pk.val [(1, 4)] 4 :: Pk.val [(18, 4)] 5 :: Pk.val [(17, 0), (19, 5)] 6 :: Pk.val [] 0 :: Pk.val [(2, 7)] 7 :: Pk.val [(22, 7)] 8 :: Pk.val [(21, 0), (23, 8)] 9 :: Pk.alc 30 8 :: Pk.alc 30 8 :: Pk.alc 30 8 :: Pk.sto 12 16 3 :: Pk.sto 13 20 6 :: Pk.sto 14 24 9 :: []))
    [2, 5, 8] [] [] 109 (by kernel_rfl) rfl (by kernel_rfl) ⟨.inr (lull_P _ _ _), ⟨.inr (lull_isv _ _ _), ⟨.inl rfl, ⟨.inr (lull_P _ _ _), ⟨.inr (lull_isv _ _ _), ⟨.inl rfl, ⟨.inr (lull_P _ _ _), ⟨.inr (lull_isv _ _ _), ⟨.inl rfl, ⟨.inr (lull_P _ _ _), trivial⟩⟩⟩⟩⟩⟩⟩⟩⟩⟩
    snkAt0 snk0 ⟨rfl, ⟨rfl, ⟨rfl, trivial⟩⟩⟩
      (OkL3.cons (fun a w X_ h => g_call0 (wanted_none rfl) (by kernel_rfl) rfl (p_baseP))
      (OkL3.cons (fun a w X_ h => g_move (wanted_none rfl) (.inl rfl) h.1)
      (OkL3.cons (fun a w X_ h => g_call1 (wanted_none rfl) (by kernel_rfl) rfl (small_h h.1))
      (OkL3.cons (fun a w X_ h => g_call2 (wanted_none rfl) (by kernel_rfl) rfl (p_mulN (n := A) (HA.out) h.1 h.2.1 (LDi.out.step (X_.on BEL.out SZ.out none_le))))
      (OkL3.cons (fun a w X_ h => g_call0 (wanted_none rfl) (by kernel_rfl) rfl (p_baseP))
      (OkL3.cons (fun a w X_ h => g_move (wanted_none rfl) (.inl rfl) h.1)
      (OkL3.cons (fun a w X_ h => g_call1 (wanted_none rfl) (by kernel_rfl) rfl (small_h h.1))
      (OkL3.cons (fun a w X_ h => g_call2 (wanted_none rfl) (by kernel_rfl) rfl (p_mulN (n := B) (HB.out) h.1 h.2.1 (LDi.out.step (X_.on BEL.out SZ.out none_le))))
      (OkL3.cons (fun a w X_ h => g_call0 (wanted_none rfl) (by kernel_rfl) rfl (p_baseP))
      (OkL3.cons (fun a w X_ h => g_move (wanted_none rfl) (.inl rfl) h.1)
      (OkL3.cons (fun a w X_ h => g_call1 (wanted_none rfl) (by kernel_rfl) rfl (small_h h.1))
      (OkL3.cons (fun a w X_ h => g_call2 (wanted_none rfl) (by kernel_rfl) rfl (p_mulN (n := C) (HC.out) h.1 h.2.1 (LDi.out.step (X_.on BEL.out SZ.out none_le))))
      (OkL3.cons (alc_of zp rfl rfl rfl newP)
      (OkL3.cons (alc_of zp rfl rfl rfl newP)
      (OkL3.cons (alc_of zp rfl rfl rfl newP)
      (OkL3.cons (⟨rfl, _, _, _, rfl, rfl, rfl, by kernel_rfl, row_P _⟩)
      (OkL3.cons (⟨rfl, _, _, _, rfl, rfl, rfl, by kernel_rfl, row_P _⟩)
      (OkL3.cons (⟨rfl, _, _, _, rfl, rfl, rfl, by kernel_rfl, row_P _⟩)
      OkL3.nil)))))))))))))))))) ?_
  rintro W1 X1 _ rfl _ rfl v15 - _ rfl _ rfl _ rfl v19 - _ rfl _ rfl _ rfl v23 - _ rfl g9 c9 ⟨L9, Z9, D9⟩ r9 H9 g10 c10 ⟨L10, Z10, D10⟩ r10 H10 g11 c11 ⟨L11, Z11, D11⟩ r11 H11
  refine FinL3.fill ?_
  refine FinL3.fill ?_
  refine FinL3.fill ?_
  refine FinL3.done ?_
  simp only [Act.put, List.setIfInBounds_toArray, List.set_cons_zero, List.set_cons_succ]
  obtain rfl : c9 = pe (Pt.mul A Bp).x ((Pt.mul A Bp).y - 1) := agg_inj H9
  have R9 := hide (And.intro Z9 r9)
  clear r9
  obtain rfl : c10 = pe (Pt.mul B Bp).x ((Pt.mul B Bp).y - 1) := agg_inj H10
  have R10 := hide (And.intro Z10 r10)
  clear r10
  obtain rfl : c11 = pe (Pt.mul C Bp).x ((Pt.mul C Bp).y - 1) := agg_inj H11
  have R11 := hide (And.intro Z11 r11)
  clear r11
  replace BEL := hide (X1.on BEL.out SZ.out none_le)
  replace SZ := hide BEL.out.size
  have SW1 := X1.size
  clear X1
  clear H9 H10 H11
  have d1 : ¬ g9 = g10 := fun e => by subst e; simp at D10
  have d2 : ¬ g11 = g10 := fun e => by subst e; simp at D11
  clear D9 D10 D11
  go_upto_region 3 with fail
  refine wp_region_lined3 (tl := [isv (.pointer (some ⟨g9, 0, none⟩)), isP (Pt.mul A Bp)]) (pre := [(9, 0)])
    (plan := [Pk.val [(9, 0)] 1, Pk.put 0 10 26 1])
    [] [(g10, 30, 8)] [(0, 10)] 109 (by kernel_rfl) rfl (by kernel_rfl) ⟨.inr (lull_isv _ _ _), ⟨.inr (lull_P _ _ _), trivial⟩⟩
    (snkAt1 R10.out rfl rfl) (snk1 _) ⟨rfl, trivial⟩
      (OkL3.cons (fun a w X_ h => g_ldp (wanted_none rfl) rfl h.1 (X_.at_ R9.out.1 (out1 (by omega)) R9.out.2))
      (OkL3.cons (⟨rfl, _, _, _, rfl, rfl, by kernel_rfl, row_P _⟩)
      OkL3.nil)) ?_
  rintro W2 X2 _ rfl c10 r10 H10
  refine FinL3.done ?_
  simp only [Act.put, List.setIfInBounds_toArray, List.set_cons_zero, List.set_cons_succ]
  obtain rfl : c10 = pe (Pt.mul A Bp).x ((Pt.mul A Bp).y - 1) := agg_inj H10
  replace R10 := hide (And.intro (Nat.lt_of_lt_of_le R10.out.1 X2.size) r10)
  clear r10
  replace R9 := hide (X2.row (out1 (by omega)) R9.out)
  replace R11 := hide (X2.row (out1 (by omega)) R11.out)
  replace BEL := hide (X2.on BEL.out SZ.out (one_le (by omega)))
  replace SZ := hide BEL.out.size
  have SW2 := X2.size
  clear X2
  clear H10
  go_upto_region 4 with fail
  refine wp_region_typed3 (tl := [isv (.pointer (some ⟨g9, 0, none⟩)), isP (Pt.mul A Bp), isv (.pointer (some ⟨g10, 0, none⟩)), isP ((Pt.mul A Bp).add (Pt.mul A Bp)), isv (.bool true), isv (.bool false), isv (.pointer (some ⟨g11, 0, none⟩)), isP (Pt.mul C Bp), isP (((Pt.mul A Bp).add (Pt.mul A Bp)).add (Pt.mul C Bp)), isP ((Pt.mul A Bp).add (Pt.mul C Bp)), isP ((Pt.mul A Bp).add ((Pt.mul A Bp).add (Pt.mul C Bp))), isP ((Pt.mul A Bp).neg), isP ((Pt.mul A Bp).add ((Pt.mul A Bp).neg)), isP Pt.zero, isP ((Pt.mul A Bp).add Pt.zero)]) (pre := [(9, 0), (10, 2), (11, 6)])
    (plan := (Pk.val [(9, 0)] 1 :: Pk.val [(10, 2)] 1 :: Pk.val [(27, 1), (28, 1)] 3 :: Pk.val [(10, 2)] 1 :: Pk.val [(9, 0)] 1 :: Pk.val [(30, 1), (31, 1)] 3 :: Pk.val [(29, 3), (32, 3)] 4 :: Pk.val [(33, 4)] 5 :: Pk.val [(34, 5)] 5 :: Pk.val [(35, 5), (9, 0)] 1 :: Pk.val [(35, 5), (10, 2)] 1 :: Pk.val [(35, 5), (36, 1), (37, 1)] 3 :: Pk.val [(35, 5), (11, 6)] 7 :: Pk.val [(35, 5), (38, 3), (39, 7)] 8 :: Pk.val [(35, 5), (9, 0)] 1 :: Pk.val [(35, 5), (10, 2)] 1 :: Pk.val [(35, 5), (11, 6)] 7 :: Pk.val [(35, 5), (42, 1), (43, 7)] 9 :: Pk.val [(35, 5), (41, 1), (44, 9)] 10 :: Pk.val [(35, 5), (40, 8), (45, 10)] 4 :: Pk.val [(35, 5), (46, 4)] 5 :: Pk.val [(35, 5), (47, 5)] 5 :: Pk.val [(48, 5)] 5 :: Pk.val [(49, 5), (9, 0)] 1 :: Pk.val [(49, 5), (9, 0)] 1 :: Pk.val [(49, 5), (51, 1)] 11 :: Pk.val [(49, 5), (50, 1), (52, 11)] 12 :: Pk.val [(49, 5)] 13 :: Pk.val [(49, 5), (53, 12), (54, 13)] 4 :: Pk.val [(49, 5), (55, 4)] 5 :: Pk.val [(49, 5), (56, 5)] 5 :: Pk.val [(57, 5)] 5 :: Pk.val [(58, 5), (9, 0)] 1 :: Pk.val [(58, 5)] 13 :: Pk.val [(58, 5), (59, 1), (60, 13)] 14 :: Pk.val [(58, 5), (9, 0)] 1 :: Pk.val [(58, 5), (61, 14), (62, 1)] 4 :: Pk.val [(58, 5), (63, 4)] 5 :: Pk.val [(58, 5), (64, 5)] 5 :: []))
    [] [] [] (by kernel_rfl) 109 (by kernel_rfl) rfl (by kernel_rfl) ⟨.inr (lull_isv _ _ _), ⟨.inr (lull_P _ _ _), ⟨.inr (lull_isv _ _ _), ⟨.inr (lull_P _ _ _), ⟨.inr (lull_isv _ _ _), ⟨.inr (lull_isv _ _ _), ⟨.inr (lull_isv _ _ _), ⟨.inr (lull_P _ _ _), ⟨.inr (lull_P _ _ _), ⟨.inr (lull_P _ _ _), ⟨.inr (lull_P _ _ _), ⟨.inr (lull_P _ _ _), ⟨.inr (lull_P _ _ _), ⟨.inr (lull_P _ _ _), ⟨.inr (lull_P _ _ _), trivial⟩⟩⟩⟩⟩⟩⟩⟩⟩⟩⟩⟩⟩⟩⟩
    snkAt0 snk0 ⟨rfl, ⟨rfl, ⟨rfl, trivial⟩⟩⟩
      (OkL3.cons (fun a w X_ h => g_ldp (wanted_none rfl) rfl h.1 (X_.at_ R9.out.1 out0 R9.out.2))
      (OkL3.cons (fun a w X_ h => g_ldp (wanted_none rfl) rfl h.1 (X_.at_ R10.out.1 out0 R10.out.2))
      (OkL3.cons (fun a w X_ h => g_call2 (wanted_none rfl) (by kernel_rfl) rfl (p_addP h.1 h.2.1 (LDi.out.step (X_.on BEL.out SZ.out none_le))))
      (OkL3.cons (fun a w X_ h => g_ldp (wanted_none rfl) rfl h.1 (X_.at_ R10.out.1 out0 R10.out.2))
      (OkL3.cons (fun a w X_ h => g_ldp (wanted_none rfl) rfl h.1 (X_.at_ R9.out.1 out0 R9.out.2))
      (OkL3.cons (fun a w X_ h => g_call2 (wanted_none rfl) (by kernel_rfl) rfl (p_addP h.1 h.2.1 (LDi.out.step (X_.on BEL.out SZ.out none_le))))
      (OkL3.cons (fun a w X_ h => g_call2 (wanted_none rfl) (by kernel_rfl) rfl (p_same h.1 h.2.1 (iff_t (add_comm' _ _))))
      (OkL3.cons (fun a w X_ h => g_not (wanted_none rfl) rfl h.1 rfl)
      (OkL3.cons (fun a w X_ h => g_move (wanted_none rfl) (.inl rfl) h.1)
      (OkL3.cons (fun a w X_ h => g_ldp (wanted_some rfl rfl h.1) rfl h.2.1 (X_.at_ R9.out.1 out0 R9.out.2))
      (OkL3.cons (fun a w X_ h => g_ldp (wanted_some rfl rfl h.1) rfl h.2.1 (X_.at_ R10.out.1 out0 R10.out.2))
      (OkL3.cons (fun a w X_ h => g_call2 (wanted_some rfl rfl h.1) (by kernel_rfl) rfl (p_addP h.2.1 h.2.2.1 (LDi.out.step (X_.on BEL.out SZ.out none_le))))
      (OkL3.cons (fun a w X_ h => g_ldp (wanted_some rfl rfl h.1) rfl h.2.1 (X_.at_ R11.out.1 out0 R11.out.2))
      (OkL3.cons (fun a w X_ h => g_call2 (wanted_some rfl rfl h.1) (by kernel_rfl) rfl (p_addP h.2.1 h.2.2.1 (LDi.out.step (X_.on BEL.out SZ.out none_le))))
      (OkL3.cons (fun a w X_ h => g_ldp (wanted_some rfl rfl h.1) rfl h.2.1 (X_.at_ R9.out.1 out0 R9.out.2))
      (OkL3.cons (fun a w X_ h => g_ldp (wanted_some rfl rfl h.1) rfl h.2.1 (X_.at_ R10.out.1 out0 R10.out.2))
      (OkL3.cons (fun a w X_ h => g_ldp (wanted_some rfl rfl h.1) rfl h.2.1 (X_.at_ R11.out.1 out0 R11.out.2))
      (OkL3.cons (fun a w X_ h => g_call2 (wanted_some rfl rfl h.1) (by kernel_rfl) rfl (p_addP h.2.1 h.2.2.1 (LDi.out.step (X_.on BEL.out SZ.out none_le))))
      (OkL3.cons (fun a w X_ h => g_call2 (wanted_some rfl rfl h.1) (by kernel_rfl) rfl (p_addP h.2.1 h.2.2.1 (LDi.out.step (X_.on BEL.out SZ.out none_le))))
      (OkL3.cons (fun a w X_ h => g_call2 (wanted_some rfl rfl h.1) (by kernel_rfl) rfl (p_same h.2.1 h.2.2.1 (iff_t (add_assoc' _ _ _))))
      (OkL3.cons (fun a w X_ h => g_not (wanted_some rfl rfl h.1) rfl h.2.1 rfl)
      (OkL3.cons (fun a w X_ h => g_pick (wanted_none rfl) rfl h.1 h.2.1)
      (OkL3.cons (fun a w X_ h => g_move (wanted_none rfl) (.inl rfl) h.1)
      (OkL3.cons (fun a w X_ h => g_ldp (wanted_some rfl rfl h.1) rfl h.2.1 (X_.at_ R9.out.1 out0 R9.out.2))
      (OkL3.cons (fun a w X_ h => g_ldp (wanted_some rfl rfl h.1) rfl h.2.1 (X_.at_ R9.out.1 out0 R9.out.2))
      (OkL3.cons (fun a w X_ h => g_call1 (wanted_some rfl rfl h.1) (by kernel_rfl) rfl (p_negP h.2.1))
      (OkL3.cons (fun a w X_ h => g_call2 (wanted_some rfl rfl h.1) (by kernel_rfl) rfl (p_addP h.2.1 h.2.2.1 (LDi.out.step (X_.on BEL.out SZ.out none_le))))
      (OkL3.cons (fun a w X_ h => g_call0 (wanted_some rfl rfl h.1) (by kernel_rfl) rfl (p_zeroP))
      (OkL3.cons (fun a w X_ h => g_call2 (wanted_some rfl rfl h.1) (by kernel_rfl) rfl (p_same h.2.1 h.2.2.1 (iff_t (add_neg' _))))
      (OkL3.cons (fun a w X_ h => g_not (wanted_some rfl rfl h.1) rfl h.2.1 rfl)
      (OkL3.cons (fun a w X_ h => g_pick (wanted_none rfl) rfl h.1 h.2.1)
      (OkL3.cons (fun a w X_ h => g_move (wanted_none rfl) (.inl rfl) h.1)
      (OkL3.cons (fun a w X_ h => g_ldp (wanted_some rfl rfl h.1) rfl h.2.1 (X_.at_ R9.out.1 out0 R9.out.2))
      (OkL3.cons (fun a w X_ h => g_call0 (wanted_some rfl rfl h.1) (by kernel_rfl) rfl (p_zeroP))
      (OkL3.cons (fun a w X_ h => g_call2 (wanted_some rfl rfl h.1) (by kernel_rfl) rfl (p_addP h.2.1 h.2.2.1 (LDi.out.step (X_.on BEL.out SZ.out none_le))))
      (OkL3.cons (fun a w X_ h => g_ldp (wanted_some rfl rfl h.1) rfl h.2.1 (X_.at_ R9.out.1 out0 R9.out.2))
      (OkL3.cons (fun a w X_ h => g_call2 (wanted_some rfl rfl h.1) (by kernel_rfl) rfl (p_same h.2.1 h.2.2.1 (iff_t (add_zero' _))))
      (OkL3.cons (fun a w X_ h => g_not (wanted_some rfl rfl h.1) rfl h.2.1 rfl)
      (OkL3.cons (fun a w X_ h => g_pick (wanted_none rfl) rfl h.1 h.2.1)
      OkL3.nil))))))))))))))))))))))))))))))))))))))) ?_
  rintro W4 X4 _ rfl _ rfl _ rfl _ rfl _ rfl _ rfl _ rfl _ rfl _ rfl _ rfl _ rfl _ rfl _ rfl _ rfl _ rfl _ rfl _ rfl _ rfl _ rfl _ rfl _ rfl _ rfl _ rfl _ rfl _ rfl _ rfl _ rfl _ rfl _ rfl _ rfl _ rfl _ rfl _ rfl _ rfl _ rfl _ rfl _ rfl _ rfl _ rfl
  refine FinL3.done ?_
  simp only [Act.put, List.setIfInBounds_toArray, List.set_cons_zero, List.set_cons_succ]
  replace R9 := hide (X4.row out0 R9.out)
  replace R10 := hide (X4.row out0 R10.out)
  replace R11 := hide (X4.row out0 R11.out)
  replace BEL := hide (X4.on BEL.out SZ.out none_le)
  replace SZ := hide BEL.out.size
  have SW4 := X4.size
  clear X4
  go_upto_region 7 with fail
  refine wp_region_lined3 (tl := [isv (.bool true), isv (.bool false), isv (undef)]) (pre := [(3, 0)])
    (plan := (Pk.val [(3, 0)] 0 :: Pk.val [(70, 0)] 1 :: Pk.val [(71, 1)] 1 :: Pk.val [(72, 1)] 2 :: Pk.val [(72, 1)] 2 :: Pk.val [(72, 1)] 2 :: Pk.val [(72, 1)] 2 :: Pk.val [(72, 1)] 2 :: Pk.val [(72, 1)] 2 :: Pk.val [(72, 1)] 2 :: Pk.val [(72, 1)] 2 :: Pk.val [(72, 1)] 2 :: Pk.val [(72, 1)] 2 :: Pk.val [(72, 1)] 2 :: Pk.val [(72, 1)] 2 :: Pk.val [(72, 1)] 2 :: Pk.val [(72, 1)] 2 :: Pk.val [(72, 1)] 2 :: Pk.val [(72, 1)] 2 :: Pk.val [(72, 1)] 2 :: Pk.val [(72, 1)] 2 :: Pk.val [(72, 1)] 2 :: Pk.val [(72, 1)] 2 :: Pk.val [(72, 1)] 2 :: Pk.val [(72, 1)] 2 :: Pk.val [(72, 1)] 1 :: []))
    [] [] [] 109 (by kernel_rfl) rfl (by kernel_rfl) ⟨.inr (lull_isv _ _ _), ⟨.inr (lull_isv _ _ _), ⟨.inr (lull_isv _ _ _), trivial⟩⟩⟩
    snkAt0 snk0 ⟨rfl, trivial⟩
      (OkL3.cons (fun a w X_ h => g_move (wanted_none rfl) (.inl rfl) h.1)
      (OkL3.cons (fun a w X_ h => g_not (wanted_none rfl) rfl h.1 rfl)
      (OkL3.cons (fun a w X_ h => g_move (wanted_none rfl) (.inl rfl) h.1)
      (OkL3.cons (fun a w X_ h => g_skip rfl rfl h.1 rfl)
      (OkL3.cons (fun a w X_ h => g_skip rfl rfl h.1 rfl)
      (OkL3.cons (fun a w X_ h => g_skip rfl rfl h.1 rfl)
      (OkL3.cons (fun a w X_ h => g_skip rfl rfl h.1 rfl)
      (OkL3.cons (fun a w X_ h => g_skip rfl rfl h.1 rfl)
      (OkL3.cons (fun a w X_ h => g_skip rfl rfl h.1 rfl)
      (OkL3.cons (fun a w X_ h => g_skip rfl rfl h.1 rfl)
      (OkL3.cons (fun a w X_ h => g_skip rfl rfl h.1 rfl)
      (OkL3.cons (fun a w X_ h => g_skip rfl rfl h.1 rfl)
      (OkL3.cons (fun a w X_ h => g_skip rfl rfl h.1 rfl)
      (OkL3.cons (fun a w X_ h => g_skip rfl rfl h.1 rfl)
      (OkL3.cons (fun a w X_ h => g_skip rfl rfl h.1 rfl)
      (OkL3.cons (fun a w X_ h => g_skip rfl rfl h.1 rfl)
      (OkL3.cons (fun a w X_ h => g_skip rfl rfl h.1 rfl)
      (OkL3.cons (fun a w X_ h => g_skip rfl rfl h.1 rfl)
      (OkL3.cons (fun a w X_ h => g_skip rfl rfl h.1 rfl)
      (OkL3.cons (fun a w X_ h => g_skip rfl rfl h.1 rfl)
      (OkL3.cons (fun a w X_ h => g_skip rfl rfl h.1 rfl)
      (OkL3.cons (fun a w X_ h => g_skip rfl rfl h.1 rfl)
      (OkL3.cons (fun a w X_ h => g_skip rfl rfl h.1 rfl)
      (OkL3.cons (fun a w X_ h => g_skip rfl rfl h.1 rfl)
      (OkL3.cons (fun a w X_ h => g_skip rfl rfl h.1 rfl)
      (OkL3.cons (fun a w X_ h => g_pick (wanted_none rfl) rfl h.1 rfl)
      OkL3.nil)))))))))))))))))))))))))) ?_
  rintro W7 X7 _ rfl _ rfl _ rfl _ rfl _ rfl _ rfl _ rfl _ rfl _ rfl _ rfl _ rfl _ rfl _ rfl _ rfl _ rfl _ rfl _ rfl _ rfl _ rfl _ rfl _ rfl _ rfl _ rfl _ rfl _ rfl _ rfl
  refine FinL3.done ?_
  simp only [Act.put, List.setIfInBounds_toArray, List.set_cons_zero, List.set_cons_succ]
  replace R9 := hide (X7.row out0 R9.out)
  replace R10 := hide (X7.row out0 R10.out)
  replace R11 := hide (X7.row out0 R11.out)
  replace BEL := hide (X7.on BEL.out SZ.out none_le)
  replace SZ := hide BEL.out.size
  have SW7 := X7.size
  clear X7
  clear ea eb R9 R10 R11
  have O0 : Hid (BsAt (W7.alloc (.cells (ba l16) 5 (16, 17))) (.slice (some ⟨W7.heap.size, 0, none⟩) 16 16) l16) := marked_at l16 l16_lim (by decide) _
  have B0 := hide (BEL.out.alloc BEL.out.size (.cells (ba l16) 5 (16, 17)))
  rw [ba_l16] at O0 B0
  go_wp2_with (at_builtin; refine wpList_append_zg rfl 16 (by decide) (.tmp 97) _ rfl rfl rfl O0.out (by decide) (by decide) ?_)
  intro v1 w1 o1 q1
  have B1 := hide (B0.out.grown q1 B0.out.size (by simp))
  obtain ⟨g, cap, rfl, hg1, hg2, hcap, hcm⟩ := o1.form (by decide)
  replace hg1 : w.heap.size ≤ g := by have := SZ.out; have := hg1; omega
  have hle : (l16 ++ zz 16).length = 32 := by decide
  rw [hle] at hcap o1 ⊢
  have f31 := o1.row.frozenAt 31
  have c31 : w1.cell? ⟨g, 31, none⟩ = some (.int .u8 0) := by rw [o1.row.cellAt 31 (by decide)]; rfl
  have O1 : Hid (BsAt (w1.setCell ⟨g, 31, none⟩ (.int .u8 16)) (.slice (some ⟨g, 0, none⟩) 32 cap) lbs) := (o1.set 31 16 (by decide)).at
  have B2 : Hid (Below w.heap.size w (w1.setCell ⟨g, 31, none⟩ (.int .u8 16))) := B1.out.setCell (p := ⟨g, 31, none⟩) hg1 (.int .u8 (16 : Int))
  clear q1 o1 B0 O0 B1 hle
  go_upto_region 11 with fail
  generalize w1.setCell ⟨g, 31, none⟩ (.int .u8 16) = W8 at *
  replace BEL := B2
  replace SZ := hide BEL.out.size
  clear B2 f31 c31 hg2 hcap hcm
  refine wp_region_lined3 (tl := [isP Bp, isb lbs, isP (Pt.mul lq Bp), isP Pt.zero, isv (.bool true)]) (pre := [(12, 1)])
    (plan := [Pk.val [] 0, Pk.val [(12, 1)] 1, Pk.val [(101, 0), (102, 1)] 2, Pk.val [] 3, Pk.val [(103, 2), (104, 3)] 4, Pk.val [(105, 4)] 4, Pk.val [(106, 4)] 4, Pk.val [(106, 4), (107, 4)] 4, Pk.val [(108, 4)] 4])
    [1] [] [] 109 (by kernel_rfl) rfl (by kernel_rfl) ⟨.inr (lull_P _ _ _), ⟨.inl rfl, ⟨.inr (lull_P _ _ _), ⟨.inr (lull_P _ _ _), ⟨.inr (lull_isv _ _ _), trivial⟩⟩⟩⟩⟩
    snkAt0 snk0 ⟨O1.out, trivial⟩
      (OkL3.cons (fun a w X_ h => g_call0 (wanted_none rfl) (by kernel_rfl) rfl (p_baseP))
      (OkL3.cons (fun a w X_ h => g_move (wanted_none rfl) (.inl rfl) h.1)
      (OkL3.cons (fun a w X_ h => g_call2 (wanted_none rfl) (by kernel_rfl) rfl (p_mulN (n := lq) (lbs_val) h.1 h.2.1 (LDi.out.step (X_.on BEL.out SZ.out none_le))))
      (OkL3.cons (fun a w X_ h => g_call0 (wanted_none rfl) (by kernel_rfl) rfl (p_zeroP))
      (OkL3.cons (fun a w X_ h => g_call2 (wanted_none rfl) (by kernel_rfl) rfl (p_same h.1 h.2.1 (iff_t (l_base))))
      (OkL3.cons (fun a w X_ h => g_move (wanted_none rfl) (.inl rfl) h.1)
      (OkL3.cons (fun a w X_ h => g_call0 (wanted_some rfl rfl h.1) (by kernel_rfl) rfl (awake_h))
      (OkL3.cons (fun a w X_ h => g_pick (wanted_none rfl) rfl h.1 h.2.1)
      (OkL3.cons (fun a w X_ h => g_move (wanted_none rfl) (.inr rfl) h.1)
      OkL3.nil))))))))) ?_
  rintro W9 X9 _ rfl v102 - _ rfl _ rfl _ rfl _ rfl _ rfl _ rfl _ rfl
  refine FinL3.done ?_
  simp only [Act.put, List.setIfInBounds_toArray, List.set_cons_zero, List.set_cons_succ]
  replace BEL := hide (X9.on BEL.out SZ.out none_le)
  replace SZ := hide BEL.out.size
  have SW9 := X9.size
  clear X9
  go_wp2
  go_ret
  exact ⟨rfl, BEL.out⟩
theorem pointGroup_walk (a b c : Int) (same : Bool) {w : World} (LDi : LaidW 1 exw w) : Calls Tryd.prog 5 #[.int .i64 a, .int .i64 b, .int .i64 c, .bool same] w fun e w' => e = .returned (.bool true) ∧ Below w.heap.size w w' := by
  cases same with
  | false => exact pg_all a b c LDi
  | true => exact pg_same a b c LDi
end Go.Proofs.YteplbagjagimdaaDoor
