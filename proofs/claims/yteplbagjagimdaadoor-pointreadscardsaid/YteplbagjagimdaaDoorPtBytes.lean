/- A point's bytes are read as it, and with the other sign as the point turned about: the law PointBytes answers true for all numbers, in any world where the listed variables lie as the program's text lays them. -/
import Derived.Test.YteplbagjagimdaaDoorLaw1
import Derived.Test.YteplbagjagimdaaDoorDec
namespace Go.Proofs.YteplbagjagimdaaDoor
open Go.RowKit
theorem h_bytes_own {x y : Kp} {u : Value} {w : World} {B : Nat} (h : u = .agg (pe x (y - 1))) (hB : B ≤ w.heap.size) : Hands Tryd.prog 12 #[u] w (ownb B (pkb x y)) := by
  subst h
  refine (p_bytes x y w).mono ?_
  rintro e w' ⟨v, rfl, ho, hb⟩
  exact ⟨v, rfl, hb, ho.base hB⟩
theorem p_from_s {x y : Kp} {l : List Nat} {u0 : Value} {w : World} (h : BsAt w u0 l) (LDe : LaidW 3 eiw w) (LDm : LaidW 0 rmw w) (hd : dec l = some (x, y)) : Hands Tryd.prog 10 #[u0] w (isv (.tuple #[.agg (pe x (y - 1)), .bool true])) := by
  have := p_from h LDe LDm
  rwa [hd] at this
theorem p_from_n {l : List Nat} {u0 : Value} {w : World} (h : BsAt w u0 l) (LDe : LaidW 3 eiw w) (LDm : LaidW 0 rmw w) (hd : dec l = none) : Hands Tryd.prog 10 #[u0] w (isv (.tuple #[.agg (pe (0 : Kp) ((1 : Kp) - 1)), .bool false])) := by
  have := p_from h LDe LDm
  rwa [hd] at this
theorem bits_xor128 (x : Nat) (h : x < 256) : bits .xor .u8 (x : Int) 128 = ((if x < 128 then x + 128 else x - 128 : Nat) : Int) := by
  have : ∀ y : Fin 256, bits .xor .u8 ((y.1 : Nat) : Int) 128 = ((if y.1 < 128 then y.1 + 128 else y.1 - 128 : Nat) : Int) := by decide +kernel
  exact this ⟨x, h⟩
theorem neg_ne {P : Pt} (h : P.x ≠ 0) : ¬ P.neg = P := fun e => by
  have h1 : -P.x = P.x := congrArg Pt.x e
  have h2 : 2 * P.x = 0 := by generalize P.x = x at *; grind
  exact h ((mul_zero_or h2).resolve_left two_ne_zero)
set_option linter.unusedSimpArgs false in
set_option maxRecDepth 100000 in
set_option maxHeartbeats 4000000 in
theorem pb_all (n : Int) (A : Nat) (hA : n % 65536 = (A : Int)) (hz : 0 < A) {w : World} (LDi : LaidW 1 exw w) (LDe : LaidW 3 eiw w) (LDm : LaidW 0 rmw w) : Calls Tryd.prog 8 #[.int .i64 n] w fun e w' => e = .returned (.bool true) ∧ Below w.heap.size w w' := by
  have hA5 : A < 65536 := by omega
  have ea : bits BinOp.and IntKind.i64 n 65535 = (A : Int) := by rw [and_65535]; exact hA
  have HA : Hid (bval ((smb n).take 32) = A) := (smb_val n).trans (by omega)
  have HX := hide (x_ne hz hA5)
  have HF := hide (dec_flip HX.out)
  have HN : Hid (¬ (Pt.mul A Bp).neg = Pt.mul A Bp) := neg_ne HX.out
  have hq : ((A : Int) == 0) = false := by rw [beq_eq_false_iff_ne]; omega
  replace LDi := hide LDi
  replace LDe := hide LDe
  replace LDm := hide LDm
  clear hA hA5 hz
  have BEL := hide (Below.refl w.heap.size w)
  have SZ := hide BEL.out.size
  go_enter Tryd.func8, Tryd.ntmps8
  go_upto_region 1 with fail
  refine wp_region_lined3 (tl := [isP Bp, isv (.int .i64 n), isb (smb n), isP (Pt.mul A Bp)]) (pre := [(0, 1)])
    (plan := [Pk.val [] 0, Pk.val [(0, 1)] 1, Pk.val [(10, 1)] 2, Pk.val [(9, 0), (11, 2)] 3, Pk.alc 30 8, Pk.sto 4 12 3])
    [2] [] [] 67 (by kernel_rfl) rfl (by kernel_rfl) ⟨.inr (lull_P _ _ _), ⟨.inr (lull_isv _ _ _), ⟨.inl rfl, ⟨.inr (lull_P _ _ _), trivial⟩⟩⟩⟩
    snkAt0 snk0 ⟨rfl, trivial⟩
      (OkL3.cons (fun a w X_ h => g_call0 (wanted_none rfl) (by kernel_rfl) rfl (p_baseP))
      (OkL3.cons (fun a w X_ h => g_move (wanted_none rfl) (.inl rfl) h.1)
      (OkL3.cons (fun a w X_ h => g_call1 (wanted_none rfl) (by kernel_rfl) rfl (small_h h.1))
      (OkL3.cons (fun a w X_ h => g_call2 (wanted_none rfl) (by kernel_rfl) rfl (p_mulN (n := A) (HA.out) h.1 h.2.1 (LDi.out.step (X_.on BEL.out SZ.out none_le))))
      (OkL3.cons (alc_of zp rfl rfl rfl newP)
      (OkL3.cons (⟨rfl, _, _, _, rfl, rfl, rfl, by kernel_rfl, row_P _⟩)
      OkL3.nil)))))) ?_
  rintro W1 X1 _ rfl _ rfl v11 - _ rfl g3 c3 ⟨L3, Z3, -⟩ r3 H3
  refine FinL3.fill ?_
  refine FinL3.done ?_
  simp only [Act.put, List.setIfInBounds_toArray, List.set_cons_zero, List.set_cons_succ]
  obtain rfl : c3 = pe (Pt.mul A Bp).x ((Pt.mul A Bp).y - 1) := agg_inj H3
  have R3 := hide (And.intro Z3 r3)
  clear r3
  replace BEL := hide (X1.on BEL.out SZ.out none_le)
  replace SZ := hide BEL.out.size
  have SW1 := X1.size
  clear X1 H3
  have SZ1 := SZ
  go_upto_region 2 with fail
  refine wp_region_lined3 (tl := [isv (.pointer (some ⟨g3, 0, none⟩)), isP (Pt.mul A Bp), ownb W1.heap.size (pkb (Pt.mul A Bp).x (Pt.mul A Bp).y)]) (pre := [(3, 0)])
    (plan := [Pk.val [(3, 0)] 1, Pk.val [(13, 1)] 2, Pk.val [(14, 2)] 2])
    [2] [] [] 67 (by kernel_rfl) rfl (by kernel_rfl) ⟨.inr (lull_isv _ _ _), ⟨.inr (lull_P _ _ _), ⟨.inl rfl, trivial⟩⟩⟩
    snkAt0 snk0 ⟨rfl, trivial⟩
      (OkL3.cons (fun a w X_ h => g_ldp (wanted_none rfl) rfl h.1 (X_.at_ R3.out.1 out0 R3.out.2))
      (OkL3.cons (fun a w X_ h => g_call1 (wanted_none rfl) (by kernel_rfl) rfl (h_bytes_own h.1 X_.size))
      (OkL3.cons (fun a w X_ h => g_move (wanted_none rfl) (.inr rfl) h.1)
      OkL3.nil))) ?_
  rintro W2 X2 _ rfl v14 - v4 k4
  refine FinL3.done ?_
  simp only [Act.put, List.setIfInBounds_toArray, List.set_cons_zero, List.set_cons_succ]
  replace R3 := hide (X2.row out0 R3.out)
  replace BEL := hide (X2.on BEL.out SZ.out none_le)
  replace SZ := hide BEL.out.size
  have SW2 := X2.size
  clear X2
  have OW : Hid (Own W2 W1.heap.size v4 (pkb (Pt.mul A Bp).x (Pt.mul A Bp).y)) := k4
  clear k4
  go_upto_region 3 with fail
  refine wp_region_lined3 (tl := [isb (pkb (Pt.mul A Bp).x (Pt.mul A Bp).y), isv (.tuple #[.agg (pe (Pt.mul A Bp).x ((Pt.mul A Bp).y - 1)), .bool true]), isP (Pt.mul A Bp), isv (.bool true)]) (pre := [(4, 0)])
    (plan := [Pk.val [(4, 0)] 0, Pk.val [(16, 0)] 1, Pk.val [(17, 1)] 1, Pk.val [(15, 1)] 2, Pk.val [(15, 1)] 3, Pk.alc 30 8, Pk.sto 5 18 2, Pk.val [(19, 3)] 3])
    [0] [] [] 67 (by kernel_rfl) rfl (by kernel_rfl) ⟨.inl rfl, ⟨.inr (lull_isv _ _ _), ⟨.inr (lull_P _ _ _), ⟨.inr (lull_isv _ _ _), trivial⟩⟩⟩⟩
    snkAt0 snk0 ⟨OW.out.at, trivial⟩
      (OkL3.cons (fun a w X_ h => g_move (wanted_none rfl) (.inl rfl) h.1)
      (OkL3.cons (fun a w X_ h => g_call1 (wanted_none rfl) (by kernel_rfl) rfl (p_from_s h.1 (LDe.out.step (X_.on BEL.out SZ.out none_le)) (LDm.out.step (X_.on BEL.out SZ.out none_le)) (dec_pkb _)))
      (OkL3.cons (fun a w X_ h => g_move (wanted_none rfl) (.inl rfl) h.1)
      (OkL3.cons (fun a w X_ h => g_ext (wanted_none rfl) rfl h.1 rfl rfl)
      (OkL3.cons (fun a w X_ h => g_ext (wanted_none rfl) rfl h.1 rfl rfl)
      (OkL3.cons (alc_of zp rfl rfl rfl newP)
      (OkL3.cons (⟨rfl, _, _, _, rfl, rfl, rfl, by kernel_rfl, row_P _⟩)
      (OkL3.cons (fun a w X_ h => g_move (wanted_none rfl) (.inr rfl) h.1)
      OkL3.nil)))))))) ?_
  rintro W3 X3 v16 - _ rfl _ rfl _ rfl _ rfl g5 c5 ⟨L5, Z5, -⟩ r5 H5 _ rfl
  refine FinL3.done ?_
  simp only [Act.put, List.setIfInBounds_toArray, List.set_cons_zero, List.set_cons_succ]
  obtain rfl : c5 = pe (Pt.mul A Bp).x ((Pt.mul A Bp).y - 1) := agg_inj H5
  have R5 := hide (And.intro Z5 r5)
  clear r5
  replace R3 := hide (X3.row out0 R3.out)
  replace OW := hide (OW.out.ext X3.ext)
  replace BEL := hide (X3.on BEL.out SZ.out none_le)
  replace SZ := hide BEL.out.size
  have SW3 := X3.size
  clear X3 H5
  go_upto_region 4 with fail
  refine wp_region_lined3 (tl := [isb (pkb (Pt.mul A Bp).x (Pt.mul A Bp).y), isv (.int .i64 32), isv (.bool false), isv (.bool true), isv (.pointer (some ⟨g5, 0, none⟩)), isP (Pt.mul A Bp), isv (.pointer (some ⟨g3, 0, none⟩))]) (pre := [(3, 6), (4, 0), (5, 4), (6, 3)])
    (plan := [Pk.val [(4, 0)] 0, Pk.val [(20, 0)] 1, Pk.val [(21, 1)] 2, Pk.val [(22, 2)] 2, Pk.val [(23, 2), (6, 3)] 3, Pk.val [(23, 2), (24, 3)] 2, Pk.val [(23, 2), (25, 2)] 2, Pk.val [(26, 2)] 2, Pk.val [(27, 2), (5, 4)] 5, Pk.val [(27, 2), (3, 6)] 5, Pk.val [(27, 2), (28, 5), (29, 5)] 3, Pk.val [(27, 2), (30, 3)] 2, Pk.val [(27, 2), (31, 2)] 2])
    [0] [] [] 67 (by kernel_rfl) rfl (by kernel_rfl) ⟨.inl rfl, ⟨.inr (lull_isv _ _ _), ⟨.inr (lull_isv _ _ _), ⟨.inr (lull_isv _ _ _), ⟨.inr (lull_isv _ _ _), ⟨.inr (lull_P _ _ _), ⟨.inr (lull_isv _ _ _), trivial⟩⟩⟩⟩⟩⟩⟩
    snkAt0 snk0 ⟨rfl, ⟨OW.out.at, ⟨rfl, ⟨rfl, trivial⟩⟩⟩⟩
      (OkL3.cons (fun a w X_ h => g_move (wanted_none rfl) (.inl rfl) h.1)
      (OkL3.cons (fun a w X_ h => g_lenb (wanted_none rfl) rfl h.1 (by rw [pkb_len]; rfl) rfl)
      (OkL3.cons (fun a w X_ h => g_bin (wanted_none rfl) rfl (v := .bool false) (by rw [show a.eval (.tmp 21) = .int .i64 32 from h.1]; go_simp) rfl)
      (OkL3.cons (fun a w X_ h => g_move (wanted_none rfl) (.inl rfl) h.1)
      (OkL3.cons (fun a w X_ h => g_move (wanted_some rfl rfl h.1) (.inl rfl) h.2.1)
      (OkL3.cons (fun a w X_ h => g_not (wanted_some rfl rfl h.1) rfl h.2.1 rfl)
      (OkL3.cons (fun a w X_ h => g_pick (wanted_none rfl) rfl h.1 h.2.1)
      (OkL3.cons (fun a w X_ h => g_move (wanted_none rfl) (.inl rfl) h.1)
      (OkL3.cons (fun a w X_ h => g_ldp (wanted_some rfl rfl h.1) rfl h.2.1 (X_.at_ R5.out.1 out0 R5.out.2))
      (OkL3.cons (fun a w X_ h => g_ldp (wanted_some rfl rfl h.1) rfl h.2.1 (X_.at_ R3.out.1 out0 R3.out.2))
      (OkL3.cons (fun a w X_ h => g_call2 (wanted_some rfl rfl h.1) (by kernel_rfl) rfl (p_same h.2.1 h.2.2.1 (iff_t (rfl))))
      (OkL3.cons (fun a w X_ h => g_not (wanted_some rfl rfl h.1) rfl h.2.1 rfl)
      (OkL3.cons (fun a w X_ h => g_pick (wanted_none rfl) rfl h.1 h.2.1)
      OkL3.nil))))))))))))) ?_
  rintro W4 X4 v20 - _ rfl _ rfl _ rfl _ rfl _ rfl _ rfl _ rfl _ rfl _ rfl _ rfl _ rfl _ rfl
  refine FinL3.done ?_
  simp only [Act.put, List.setIfInBounds_toArray, List.set_cons_zero, List.set_cons_succ]
  replace R3 := hide (X4.row out0 R3.out)
  replace R5 := hide (X4.row out0 R5.out)
  replace OW := hide (OW.out.ext X4.ext)
  replace BEL := hide (X4.on BEL.out SZ.out none_le)
  replace SZ := hide BEL.out.size
  have SW4 := X4.size
  clear X4
  have hlen : (pkb (Pt.mul A Bp).x (Pt.mul A Bp).y).length = 32 := pkb_len _ _
  obtain ⟨g, cap, rfl, hg1, hg2, hcap, hcm⟩ := OW.out.form (by omega)
  have c31 : W4.cell? ⟨g, 31, none⟩ = some (.int .u8 (((pkb (Pt.mul A Bp).x (Pt.mul A Bp).y).getD 31 0 : Nat) : Int)) := by rw [OW.out.row.cellAt 31 (by omega), nv_get _ 31 (by omega)]
  have f31 := OW.out.row.frozenAt 31
  have hlim := OW.out.lim 31
  have ex := bits_xor128 _ hlim
  have OA : Hid (BsAt (W4.setCell ⟨g, 31, none⟩ (.int .u8 ((if (pkb (Pt.mul A Bp).x (Pt.mul A Bp).y).getD 31 0 < 128 then (pkb (Pt.mul A Bp).x (Pt.mul A Bp).y).getD 31 0 + 128 else (pkb (Pt.mul A Bp).x (Pt.mul A Bp).y).getD 31 0 - 128 : Nat) : Int))) (.slice (some ⟨g, 0, none⟩) (pkb (Pt.mul A Bp).x (Pt.mul A Bp).y).length cap) (flipb (pkb (Pt.mul A Bp).x (Pt.mul A Bp).y))) := (OW.out.set 31 (if (pkb (Pt.mul A Bp).x (Pt.mul A Bp).y).getD 31 0 < 128 then (pkb (Pt.mul A Bp).x (Pt.mul A Bp).y).getD 31 0 + 128 else (pkb (Pt.mul A Bp).x (Pt.mul A Bp).y).getD 31 0 - 128) (by split <;> omega)).at
  have B1 := hide (BEL.out.setCell (p := ⟨g, 31, none⟩) (Nat.le_trans SZ1.out hg1) (.int .u8 ((if (pkb (Pt.mul A Bp).x (Pt.mul A Bp).y).getD 31 0 < 128 then (pkb (Pt.mul A Bp).x (Pt.mul A Bp).y).getD 31 0 + 128 else (pkb (Pt.mul A Bp).x (Pt.mul A Bp).y).getD 31 0 - 128 : Nat) : Int)))
  have NE3 : Hid (g3 ≠ g) := by show g3 ≠ g; omega
  rw [hlen] at OA hcap ⊢
  generalize (pkb (Pt.mul A Bp).x (Pt.mul A Bp).y).getD 31 0 = x31 at *
  generalize (if x31 < 128 then x31 + 128 else x31 - 128) = z31 at *
  have R3' := hide (And.intro (show g3 < (W4.setCell ⟨g, 31, none⟩ (.int .u8 (z31 : Int))).heap.size by simpa using R3.out.1) ((keep_block (u := .int .u8 (z31 : Int)) (j := 31) NE3.out).trans R3.out.2))
  clear hlim OW R3 R5 NE3
  go_upto_region 7 with fail
  generalize W4.setCell ⟨g, 31, none⟩ (.int .u8 (z31 : Int)) = W6 at *
  have R3 := R3'
  replace BEL := B1
  replace SZ := hide BEL.out.size
  clear B1 R3' ex f31 c31 hg2 hcap hcm
  refine wp_region_lined3 (tl := [isb (flipb (pkb (Pt.mul A Bp).x (Pt.mul A Bp).y)), isv (.tuple #[.agg (pe ((Pt.mul A Bp).neg).x (((Pt.mul A Bp).neg).y - 1)), .bool true]), isP ((Pt.mul A Bp).neg), isv (.bool true)]) (pre := [(4, 0)])
    (plan := [Pk.val [(4, 0)] 0, Pk.val [(39, 0)] 1, Pk.val [(40, 1)] 1, Pk.val [(38, 1)] 2, Pk.val [(38, 1)] 3, Pk.alc 30 8, Pk.sto 5 41 2, Pk.val [(42, 3)] 3])
    [0] [] [] 67 (by kernel_rfl) rfl (by kernel_rfl) ⟨.inl rfl, ⟨.inr (lull_isv _ _ _), ⟨.inr (lull_P _ _ _), ⟨.inr (lull_isv _ _ _), trivial⟩⟩⟩⟩
    snkAt0 snk0 ⟨OA.out, trivial⟩
      (OkL3.cons (fun a w X_ h => g_move (wanted_none rfl) (.inl rfl) h.1)
      (OkL3.cons (fun a w X_ h => g_call1 (wanted_none rfl) (by kernel_rfl) rfl (p_from_s h.1 (LDe.out.step (X_.on BEL.out SZ.out none_le)) (LDm.out.step (X_.on BEL.out SZ.out none_le)) HF.out))
      (OkL3.cons (fun a w X_ h => g_move (wanted_none rfl) (.inl rfl) h.1)
      (OkL3.cons (fun a w X_ h => g_ext (wanted_none rfl) rfl h.1 rfl rfl)
      (OkL3.cons (fun a w X_ h => g_ext (wanted_none rfl) rfl h.1 rfl rfl)
      (OkL3.cons (alc_of zp rfl rfl rfl newP)
      (OkL3.cons (⟨rfl, _, _, _, rfl, rfl, rfl, by kernel_rfl, row_P _⟩)
      (OkL3.cons (fun a w X_ h => g_move (wanted_none rfl) (.inr rfl) h.1)
      OkL3.nil)))))))) ?_
  rintro W7 X7 v39 - _ rfl _ rfl _ rfl _ rfl g7 c7 ⟨L7, Z7, -⟩ r7 H7 _ rfl
  refine FinL3.done ?_
  simp only [Act.put, List.setIfInBounds_toArray, List.set_cons_zero, List.set_cons_succ]
  obtain rfl : c7 = pe ((Pt.mul A Bp).neg).x (((Pt.mul A Bp).neg).y - 1) := agg_inj H7
  have R7 := hide (And.intro Z7 r7)
  clear r7
  replace R3 := hide (X7.row out0 R3.out)
  replace BEL := hide (X7.on BEL.out SZ.out none_le)
  replace SZ := hide BEL.out.size
  have SW7 := X7.size
  clear X7 H7
  go_upto_region 10 with fail
  refine wp_region_typed3 (tl := [isv (.bool true), isv (.pointer (some ⟨g7, 0, none⟩)), isP ((Pt.mul A Bp).neg), isv (.pointer (some ⟨g3, 0, none⟩)), isP (Pt.mul A Bp), isv (.bool false)]) (pre := [(3, 3), (7, 1), (8, 0)])
    (plan := (Pk.val [(8, 0)] 0 :: Pk.val [(51, 0)] 0 :: Pk.val [(52, 0), (7, 1)] 2 :: Pk.val [(52, 0), (3, 3)] 4 :: Pk.val [(52, 0), (54, 4)] 2 :: Pk.val [(52, 0), (53, 2), (55, 2)] 0 :: Pk.val [(52, 0), (56, 0)] 0 :: Pk.val [(57, 0)] 0 :: Pk.val [(58, 0), (7, 1)] 2 :: Pk.val [(58, 0), (3, 3)] 4 :: Pk.val [(58, 0), (59, 2), (60, 4)] 5 :: Pk.val [(58, 0), (61, 5)] 0 :: Pk.val [(58, 0), (62, 0)] 0 :: Pk.val [(63, 0)] 0 :: Pk.val [(64, 0)] 0 :: Pk.val [(64, 0), (65, 0)] 0 :: Pk.val [(66, 0)] 0 :: []))
    [] [] [] (by kernel_rfl) 67 (by kernel_rfl) rfl (by kernel_rfl) ⟨.inr (lull_isv _ _ _), ⟨.inr (lull_isv _ _ _), ⟨.inr (lull_P _ _ _), ⟨.inr (lull_isv _ _ _), ⟨.inr (lull_P _ _ _), ⟨.inr (lull_isv _ _ _), trivial⟩⟩⟩⟩⟩⟩
    snkAt0 snk0 ⟨rfl, ⟨rfl, ⟨rfl, trivial⟩⟩⟩
      (OkL3.cons (fun a w X_ h => g_move (wanted_none rfl) (.inl rfl) h.1)
      (OkL3.cons (fun a w X_ h => g_move (wanted_none rfl) (.inl rfl) h.1)
      (OkL3.cons (fun a w X_ h => g_ldp (wanted_some rfl rfl h.1) rfl h.2.1 (X_.at_ R7.out.1 out0 R7.out.2))
      (OkL3.cons (fun a w X_ h => g_ldp (wanted_some rfl rfl h.1) rfl h.2.1 (X_.at_ R3.out.1 out0 R3.out.2))
      (OkL3.cons (fun a w X_ h => g_call1 (wanted_some rfl rfl h.1) (by kernel_rfl) rfl (p_negP h.2.1))
      (OkL3.cons (fun a w X_ h => g_call2 (wanted_some rfl rfl h.1) (by kernel_rfl) rfl (p_same h.2.1 h.2.2.1 (iff_t (rfl))))
      (OkL3.cons (fun a w X_ h => g_pick (wanted_none rfl) rfl h.1 h.2.1)
      (OkL3.cons (fun a w X_ h => g_move (wanted_none rfl) (.inl rfl) h.1)
      (OkL3.cons (fun a w X_ h => g_ldp (wanted_some rfl rfl h.1) rfl h.2.1 (X_.at_ R7.out.1 out0 R7.out.2))
      (OkL3.cons (fun a w X_ h => g_ldp (wanted_some rfl rfl h.1) rfl h.2.1 (X_.at_ R3.out.1 out0 R3.out.2))
      (OkL3.cons (fun a w X_ h => g_call2 (wanted_some rfl rfl h.1) (by kernel_rfl) rfl (p_same h.2.1 h.2.2.1 (iff_f (HN.out))))
      (OkL3.cons (fun a w X_ h => g_not (wanted_some rfl rfl h.1) rfl h.2.1 rfl)
      (OkL3.cons (fun a w X_ h => g_pick (wanted_none rfl) rfl h.1 h.2.1)
      (OkL3.cons (fun a w X_ h => g_move (wanted_none rfl) (.inl rfl) h.1)
      (OkL3.cons (fun a w X_ h => g_call0 (wanted_some rfl rfl h.1) (by kernel_rfl) rfl (awake_h))
      (OkL3.cons (fun a w X_ h => g_pick (wanted_none rfl) rfl h.1 h.2.1)
      (OkL3.cons (fun a w X_ h => g_move (wanted_none rfl) (.inr rfl) h.1)
      OkL3.nil))))))))))))))))) ?_
  rintro W9 X9 _ rfl _ rfl _ rfl _ rfl _ rfl _ rfl _ rfl _ rfl _ rfl _ rfl _ rfl _ rfl _ rfl _ rfl _ rfl _ rfl _ rfl
  refine FinL3.done ?_
  simp only [Act.put, List.setIfInBounds_toArray, List.set_cons_zero, List.set_cons_succ]
  replace R3 := hide (X9.row out0 R3.out)
  replace R7 := hide (X9.row out0 R7.out)
  replace BEL := hide (X9.on BEL.out SZ.out none_le)
  replace SZ := hide BEL.out.size
  have SW9 := X9.size
  clear X9
  go_wp2
  go_ret
  exact ⟨rfl, BEL.out⟩
set_option linter.unusedSimpArgs false in
set_option maxRecDepth 100000 in
set_option maxHeartbeats 4000000 in
theorem pb_zero (n : Int) (A : Nat) (hA : n % 65536 = (A : Int)) (hz : A = 0) {w : World} (LDi : LaidW 1 exw w) (LDe : LaidW 3 eiw w) (LDm : LaidW 0 rmw w) : Calls Tryd.prog 8 #[.int .i64 n] w fun e w' => e = .returned (.bool true) ∧ Below w.heap.size w w' := by
  have hA5 : A < 65536 := by omega
  have ea : bits BinOp.and IntKind.i64 n 65535 = (A : Int) := by rw [and_65535]; exact hA
  have HA : Hid (bval ((smb n).take 32) = A) := (smb_val n).trans (by omega)
  have HX : Hid ((Pt.mul A Bp).x = 0) := by show _ = _; rw [hz, mul_none]; rfl
  have HF := hide (dec_flip0 HX.out)
  have hq : ((A : Int) == 0) = true := by rw [hz]; rfl
  replace LDi := hide LDi
  replace LDe := hide LDe
  replace LDm := hide LDm
  clear hA hA5 hz
  have BEL := hide (Below.refl w.heap.size w)
  have SZ := hide BEL.out.size
  go_enter Tryd.func8, Tryd.ntmps8
  go_upto_region 1 with fail
  refine wp_region_lined3 (tl := [isP Bp, isv (.int .i64 n), isb (smb n), isP (Pt.mul A Bp)]) (pre := [(0, 1)])
    (plan := [Pk.val [] 0, Pk.val [(0, 1)] 1, Pk.val [(10, 1)] 2, Pk.val [(9, 0), (11, 2)] 3, Pk.alc 30 8, Pk.sto 4 12 3])
    [2] [] [] 67 (by kernel_rfl) rfl (by kernel_rfl) ⟨.inr (lull_P _ _ _), ⟨.inr (lull_isv _ _ _), ⟨.inl rfl, ⟨.inr (lull_P _ _ _), trivial⟩⟩⟩⟩
    snkAt0 snk0 ⟨rfl, trivial⟩
      (OkL3.cons (fun a w X_ h => g_call0 (wanted_none rfl) (by kernel_rfl) rfl (p_baseP))
      (OkL3.cons (fun a w X_ h => g_move (wanted_none rfl) (.inl rfl) h.1)
      (OkL3.cons (fun a w X_ h => g_call1 (wanted_none rfl) (by kernel_rfl) rfl (small_h h.1))
      (OkL3.cons (fun a w X_ h => g_call2 (wanted_none rfl) (by kernel_rfl) rfl (p_mulN (n := A) (HA.out) h.1 h.2.1 (LDi.out.step (X_.on BEL.out SZ.out none_le))))
      (OkL3.cons (alc_of zp rfl rfl rfl newP)
      (OkL3.cons (⟨rfl, _, _, _, rfl, rfl, rfl, by kernel_rfl, row_P _⟩)
      OkL3.nil)))))) ?_
  rintro W1 X1 _ rfl _ rfl v11 - _ rfl g3 c3 ⟨L3, Z3, -⟩ r3 H3
  refine FinL3.fill ?_
  refine FinL3.done ?_
  simp only [Act.put, List.setIfInBounds_toArray, List.set_cons_zero, List.set_cons_succ]
  obtain rfl : c3 = pe (Pt.mul A Bp).x ((Pt.mul A Bp).y - 1) := agg_inj H3
  have R3 := hide (And.intro Z3 r3)
  clear r3
  replace BEL := hide (X1.on BEL.out SZ.out none_le)
  replace SZ := hide BEL.out.size
  have SW1 := X1.size
  clear X1 H3
  have SZ1 := SZ
  go_upto_region 2 with fail
  refine wp_region_lined3 (tl := [isv (.pointer (some ⟨g3, 0, none⟩)), isP (Pt.mul A Bp), ownb W1.heap.size (pkb (Pt.mul A Bp).x (Pt.mul A Bp).y)]) (pre := [(3, 0)])
    (plan := [Pk.val [(3, 0)] 1, Pk.val [(13, 1)] 2, Pk.val [(14, 2)] 2])
    [2] [] [] 67 (by kernel_rfl) rfl (by kernel_rfl) ⟨.inr (lull_isv _ _ _), ⟨.inr (lull_P _ _ _), ⟨.inl rfl, trivial⟩⟩⟩
    snkAt0 snk0 ⟨rfl, trivial⟩
      (OkL3.cons (fun a w X_ h => g_ldp (wanted_none rfl) rfl h.1 (X_.at_ R3.out.1 out0 R3.out.2))
      (OkL3.cons (fun a w X_ h => g_call1 (wanted_none rfl) (by kernel_rfl) rfl (h_bytes_own h.1 X_.size))
      (OkL3.cons (fun a w X_ h => g_move (wanted_none rfl) (.inr rfl) h.1)
      OkL3.nil))) ?_
  rintro W2 X2 _ rfl v14 - v4 k4
  refine FinL3.done ?_
  simp only [Act.put, List.setIfInBounds_toArray, List.set_cons_zero, List.set_cons_succ]
  replace R3 := hide (X2.row out0 R3.out)
  replace BEL := hide (X2.on BEL.out SZ.out none_le)
  replace SZ := hide BEL.out.size
  have SW2 := X2.size
  clear X2
  have OW : Hid (Own W2 W1.heap.size v4 (pkb (Pt.mul A Bp).x (Pt.mul A Bp).y)) := k4
  clear k4
  go_upto_region 3 with fail
  refine wp_region_lined3 (tl := [isb (pkb (Pt.mul A Bp).x (Pt.mul A Bp).y), isv (.tuple #[.agg (pe (Pt.mul A Bp).x ((Pt.mul A Bp).y - 1)), .bool true]), isP (Pt.mul A Bp), isv (.bool true)]) (pre := [(4, 0)])
    (plan := [Pk.val [(4, 0)] 0, Pk.val [(16, 0)] 1, Pk.val [(17, 1)] 1, Pk.val [(15, 1)] 2, Pk.val [(15, 1)] 3, Pk.alc 30 8, Pk.sto 5 18 2, Pk.val [(19, 3)] 3])
    [0] [] [] 67 (by kernel_rfl) rfl (by kernel_rfl) ⟨.inl rfl, ⟨.inr (lull_isv _ _ _), ⟨.inr (lull_P _ _ _), ⟨.inr (lull_isv _ _ _), trivial⟩⟩⟩⟩
    snkAt0 snk0 ⟨OW.out.at, trivial⟩
      (OkL3.cons (fun a w X_ h => g_move (wanted_none rfl) (.inl rfl) h.1)
      (OkL3.cons (fun a w X_ h => g_call1 (wanted_none rfl) (by kernel_rfl) rfl (p_from_s h.1 (LDe.out.step (X_.on BEL.out SZ.out none_le)) (LDm.out.step (X_.on BEL.out SZ.out none_le)) (dec_pkb _)))
      (OkL3.cons (fun a w X_ h => g_move (wanted_none rfl) (.inl rfl) h.1)
      (OkL3.cons (fun a w X_ h => g_ext (wanted_none rfl) rfl h.1 rfl rfl)
      (OkL3.cons (fun a w X_ h => g_ext (wanted_none rfl) rfl h.1 rfl rfl)
      (OkL3.cons (alc_of zp rfl rfl rfl newP)
      (OkL3.cons (⟨rfl, _, _, _, rfl, rfl, rfl, by kernel_rfl, row_P _⟩)
      (OkL3.cons (fun a w X_ h => g_move (wanted_none rfl) (.inr rfl) h.1)
      OkL3.nil)))))))) ?_
  rintro W3 X3 v16 - _ rfl _ rfl _ rfl _ rfl g5 c5 ⟨L5, Z5, -⟩ r5 H5 _ rfl
  refine FinL3.done ?_
  simp only [Act.put, List.setIfInBounds_toArray, List.set_cons_zero, List.set_cons_succ]
  obtain rfl : c5 = pe (Pt.mul A Bp).x ((Pt.mul A Bp).y - 1) := agg_inj H5
  have R5 := hide (And.intro Z5 r5)
  clear r5
  replace R3 := hide (X3.row out0 R3.out)
  replace OW := hide (OW.out.ext X3.ext)
  replace BEL := hide (X3.on BEL.out SZ.out none_le)
  replace SZ := hide BEL.out.size
  have SW3 := X3.size
  clear X3 H5
  go_upto_region 4 with fail
  refine wp_region_lined3 (tl := [isb (pkb (Pt.mul A Bp).x (Pt.mul A Bp).y), isv (.int .i64 32), isv (.bool false), isv (.bool true), isv (.pointer (some ⟨g5, 0, none⟩)), isP (Pt.mul A Bp), isv (.pointer (some ⟨g3, 0, none⟩))]) (pre := [(3, 6), (4, 0), (5, 4), (6, 3)])
    (plan := [Pk.val [(4, 0)] 0, Pk.val [(20, 0)] 1, Pk.val [(21, 1)] 2, Pk.val [(22, 2)] 2, Pk.val [(23, 2), (6, 3)] 3, Pk.val [(23, 2), (24, 3)] 2, Pk.val [(23, 2), (25, 2)] 2, Pk.val [(26, 2)] 2, Pk.val [(27, 2), (5, 4)] 5, Pk.val [(27, 2), (3, 6)] 5, Pk.val [(27, 2), (28, 5), (29, 5)] 3, Pk.val [(27, 2), (30, 3)] 2, Pk.val [(27, 2), (31, 2)] 2])
    [0] [] [] 67 (by kernel_rfl) rfl (by kernel_rfl) ⟨.inl rfl, ⟨.inr (lull_isv _ _ _), ⟨.inr (lull_isv _ _ _), ⟨.inr (lull_isv _ _ _), ⟨.inr (lull_isv _ _ _), ⟨.inr (lull_P _ _ _), ⟨.inr (lull_isv _ _ _), trivial⟩⟩⟩⟩⟩⟩⟩
    snkAt0 snk0 ⟨rfl, ⟨OW.out.at, ⟨rfl, ⟨rfl, trivial⟩⟩⟩⟩
      (OkL3.cons (fun a w X_ h => g_move (wanted_none rfl) (.inl rfl) h.1)
      (OkL3.cons (fun a w X_ h => g_lenb (wanted_none rfl) rfl h.1 (by rw [pkb_len]; rfl) rfl)
      (OkL3.cons (fun a w X_ h => g_bin (wanted_none rfl) rfl (v := .bool false) (by rw [show a.eval (.tmp 21) = .int .i64 32 from h.1]; go_simp) rfl)
      (OkL3.cons (fun a w X_ h => g_move (wanted_none rfl) (.inl rfl) h.1)
      (OkL3.cons (fun a w X_ h => g_move (wanted_some rfl rfl h.1) (.inl rfl) h.2.1)
      (OkL3.cons (fun a w X_ h => g_not (wanted_some rfl rfl h.1) rfl h.2.1 rfl)
      (OkL3.cons (fun a w X_ h => g_pick (wanted_none rfl) rfl h.1 h.2.1)
      (OkL3.cons (fun a w X_ h => g_move (wanted_none rfl) (.inl rfl) h.1)
      (OkL3.cons (fun a w X_ h => g_ldp (wanted_some rfl rfl h.1) rfl h.2.1 (X_.at_ R5.out.1 out0 R5.out.2))
      (OkL3.cons (fun a w X_ h => g_ldp (wanted_some rfl rfl h.1) rfl h.2.1 (X_.at_ R3.out.1 out0 R3.out.2))
      (OkL3.cons (fun a w X_ h => g_call2 (wanted_some rfl rfl h.1) (by kernel_rfl) rfl (p_same h.2.1 h.2.2.1 (iff_t (rfl))))
      (OkL3.cons (fun a w X_ h => g_not (wanted_some rfl rfl h.1) rfl h.2.1 rfl)
      (OkL3.cons (fun a w X_ h => g_pick (wanted_none rfl) rfl h.1 h.2.1)
      OkL3.nil))))))))))))) ?_
  rintro W4 X4 v20 - _ rfl _ rfl _ rfl _ rfl _ rfl _ rfl _ rfl _ rfl _ rfl _ rfl _ rfl _ rfl
  refine FinL3.done ?_
  simp only [Act.put, List.setIfInBounds_toArray, List.set_cons_zero, List.set_cons_succ]
  replace R3 := hide (X4.row out0 R3.out)
  replace R5 := hide (X4.row out0 R5.out)
  replace OW := hide (OW.out.ext X4.ext)
  replace BEL := hide (X4.on BEL.out SZ.out none_le)
  replace SZ := hide BEL.out.size
  have SW4 := X4.size
  clear X4
  have hlen : (pkb (Pt.mul A Bp).x (Pt.mul A Bp).y).length = 32 := pkb_len _ _
  obtain ⟨g, cap, rfl, hg1, hg2, hcap, hcm⟩ := OW.out.form (by omega)
  have c31 : W4.cell? ⟨g, 31, none⟩ = some (.int .u8 (((pkb (Pt.mul A Bp).x (Pt.mul A Bp).y).getD 31 0 : Nat) : Int)) := by rw [OW.out.row.cellAt 31 (by omega), nv_get _ 31 (by omega)]
  have f31 := OW.out.row.frozenAt 31
  have hlim := OW.out.lim 31
  have ex := bits_xor128 _ hlim
  have OA : Hid (BsAt (W4.setCell ⟨g, 31, none⟩ (.int .u8 ((if (pkb (Pt.mul A Bp).x (Pt.mul A Bp).y).getD 31 0 < 128 then (pkb (Pt.mul A Bp).x (Pt.mul A Bp).y).getD 31 0 + 128 else (pkb (Pt.mul A Bp).x (Pt.mul A Bp).y).getD 31 0 - 128 : Nat) : Int))) (.slice (some ⟨g, 0, none⟩) (pkb (Pt.mul A Bp).x (Pt.mul A Bp).y).length cap) (flipb (pkb (Pt.mul A Bp).x (Pt.mul A Bp).y))) := (OW.out.set 31 (if (pkb (Pt.mul A Bp).x (Pt.mul A Bp).y).getD 31 0 < 128 then (pkb (Pt.mul A Bp).x (Pt.mul A Bp).y).getD 31 0 + 128 else (pkb (Pt.mul A Bp).x (Pt.mul A Bp).y).getD 31 0 - 128) (by split <;> omega)).at
  have B1 := hide (BEL.out.setCell (p := ⟨g, 31, none⟩) (Nat.le_trans SZ1.out hg1) (.int .u8 ((if (pkb (Pt.mul A Bp).x (Pt.mul A Bp).y).getD 31 0 < 128 then (pkb (Pt.mul A Bp).x (Pt.mul A Bp).y).getD 31 0 + 128 else (pkb (Pt.mul A Bp).x (Pt.mul A Bp).y).getD 31 0 - 128 : Nat) : Int)))
  have NE3 : Hid (g3 ≠ g) := by show g3 ≠ g; omega
  rw [hlen] at OA hcap ⊢
  generalize (pkb (Pt.mul A Bp).x (Pt.mul A Bp).y).getD 31 0 = x31 at *
  generalize (if x31 < 128 then x31 + 128 else x31 - 128) = z31 at *
  have R3' := hide (And.intro (show g3 < (W4.setCell ⟨g, 31, none⟩ (.int .u8 (z31 : Int))).heap.size by simpa using R3.out.1) ((keep_block (u := .int .u8 (z31 : Int)) (j := 31) NE3.out).trans R3.out.2))
  clear hlim OW R3 R5 NE3
  go_upto_region 7 with fail
  generalize W4.setCell ⟨g, 31, none⟩ (.int .u8 (z31 : Int)) = W6 at *
  have R3 := R3'
  replace BEL := B1
  replace SZ := hide BEL.out.size
  clear B1 R3' ex f31 c31 hg2 hcap hcm
  refine wp_region_lined3 (tl := [isb (flipb (pkb (Pt.mul A Bp).x (Pt.mul A Bp).y)), isv (.tuple #[.agg (pe (0 : Kp) ((1 : Kp) - 1)), .bool false]), ipt (0 : Kp) (1 : Kp), isv (.bool false)]) (pre := [(4, 0)])
    (plan := [Pk.val [(4, 0)] 0, Pk.val [(39, 0)] 1, Pk.val [(40, 1)] 1, Pk.val [(38, 1)] 2, Pk.val [(38, 1)] 3, Pk.alc 30 8, Pk.sto 5 41 2, Pk.val [(42, 3)] 3])
    [0] [] [] 67 (by kernel_rfl) rfl (by kernel_rfl) ⟨.inl rfl, ⟨.inr (lull_isv _ _ _), ⟨.inr (lull_p _ _ _ _), ⟨.inr (lull_isv _ _ _), trivial⟩⟩⟩⟩
    snkAt0 snk0 ⟨OA.out, trivial⟩
      (OkL3.cons (fun a w X_ h => g_move (wanted_none rfl) (.inl rfl) h.1)
      (OkL3.cons (fun a w X_ h => g_call1 (wanted_none rfl) (by kernel_rfl) rfl (p_from_n h.1 (LDe.out.step (X_.on BEL.out SZ.out none_le)) (LDm.out.step (X_.on BEL.out SZ.out none_le)) HF.out))
      (OkL3.cons (fun a w X_ h => g_move (wanted_none rfl) (.inl rfl) h.1)
      (OkL3.cons (fun a w X_ h => g_ext (wanted_none rfl) rfl h.1 rfl rfl)
      (OkL3.cons (fun a w X_ h => g_ext (wanted_none rfl) rfl h.1 rfl rfl)
      (OkL3.cons (alc_of zp rfl rfl rfl newP)
      (OkL3.cons (⟨rfl, _, _, _, rfl, rfl, rfl, by kernel_rfl, row_p _ _⟩)
      (OkL3.cons (fun a w X_ h => g_move (wanted_none rfl) (.inr rfl) h.1)
      OkL3.nil)))))))) ?_
  rintro W7 X7 v39 - _ rfl _ rfl _ rfl _ rfl g7 c7 ⟨L7, Z7, -⟩ r7 H7 _ rfl
  refine FinL3.done ?_
  simp only [Act.put, List.setIfInBounds_toArray, List.set_cons_zero, List.set_cons_succ]
  obtain rfl : c7 = pe (0 : Kp) ((1 : Kp) - 1) := agg_inj H7
  have R7 := hide (And.intro Z7 r7)
  clear r7
  replace R3 := hide (X7.row out0 R3.out)
  replace BEL := hide (X7.on BEL.out SZ.out none_le)
  replace SZ := hide BEL.out.size
  have SW7 := X7.size
  clear X7 H7
  go_upto_region 9 with fail
  refine wp_region_lined3 (tl := [isv (.bool false), isv (.bool true)]) (pre := [(8, 0)])
    (plan := [Pk.val [(8, 0)] 0, Pk.val [(46, 0)] 1, Pk.val [(47, 1)] 1, Pk.val [(48, 1)] 1, Pk.val [(48, 1), (49, 1)] 1, Pk.val [(50, 1)] 1])
    [] [] [] 67 (by kernel_rfl) rfl (by kernel_rfl) ⟨.inr (lull_isv _ _ _), ⟨.inr (lull_isv _ _ _), trivial⟩⟩
    snkAt0 snk0 ⟨rfl, trivial⟩
      (OkL3.cons (fun a w X_ h => g_move (wanted_none rfl) (.inl rfl) h.1)
      (OkL3.cons (fun a w X_ h => g_not (wanted_none rfl) rfl h.1 rfl)
      (OkL3.cons (fun a w X_ h => g_move (wanted_none rfl) (.inl rfl) h.1)
      (OkL3.cons (fun a w X_ h => g_call0 (wanted_some rfl rfl h.1) (by kernel_rfl) rfl (awake_h))
      (OkL3.cons (fun a w X_ h => g_pick (wanted_none rfl) rfl h.1 h.2.1)
      (OkL3.cons (fun a w X_ h => g_move (wanted_none rfl) (.inr rfl) h.1)
      OkL3.nil)))))) ?_
  rintro W9 X9 _ rfl _ rfl _ rfl _ rfl _ rfl _ rfl
  refine FinL3.done ?_
  simp only [Act.put, List.setIfInBounds_toArray, List.set_cons_zero, List.set_cons_succ]
  replace R3 := hide (X9.row out0 R3.out)
  replace R7 := hide (X9.row out0 R7.out)
  replace BEL := hide (X9.on BEL.out SZ.out none_le)
  replace SZ := hide BEL.out.size
  have SW9 := X9.size
  clear X9
  go_wp2
  go_ret
  exact ⟨rfl, BEL.out⟩
theorem pointBytes_walk (n : Int) {w : World} (LDi : LaidW 1 exw w) (LDe : LaidW 3 eiw w) (LDm : LaidW 0 rmw w) : Calls Tryd.prog 8 #[.int .i64 n] w fun e w' => e = .returned (.bool true) ∧ Below w.heap.size w w' := by
  obtain ⟨A, hA⟩ : ∃ A : Nat, n % 65536 = (A : Int) := ⟨(n % 65536).toNat, by omega⟩
  rcases Nat.eq_zero_or_pos A with h | h
  · exact pb_zero n A hA h LDi LDe LDm
  · exact pb_all n A hA h LDi LDe LDm
end Go.Proofs.YteplbagjagimdaaDoor
