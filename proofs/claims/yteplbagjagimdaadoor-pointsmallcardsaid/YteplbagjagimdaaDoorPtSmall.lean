/- Eight times a point is it added up; the point of order two is small, the base is not: the law PointSmall answers true for all numbers, in any world where the listed variables lie as the program's text lays them. -/
import Derived.Test.YteplbagjagimdaaDoorPtBytes
namespace Go.Proofs.YteplbagjagimdaaDoor
open Go.RowKit
/-- Bytes of 255, so many. -/
def fil (k : Nat) : List Nat := List.replicate k 255 ++ List.replicate (32 - k) 0
theorem fil_len (k : Nat) : (fil k).length = k + (32 - k) := by simp [fil]
theorem fil_zero : fil 0 = List.replicate 32 0 := rfl
theorem fil_succ (k : Nat) (h : k < 32) : (fil k).set k 255 = fil (k + 1) := by
  unfold fil
  have e : 32 - k = (32 - (k + 1)) + 1 := by omega
  rw [e, List.replicate_succ, List.set_append_right _ _ (by simp), List.length_replicate, Nat.sub_self, List.set_cons_zero, List.replicate_succ', List.append_assoc]
  rfl
theorem on_two : On 0 (-1) := by unfold On; decide +kernel
/-- The point of order two. -/
def Tw : Pt := ⟨0, -1, on_two⟩
theorem tw_row : some (Obj.cells (((ba (fil 32)).setIfInBounds 0 (.int .u8 236)).setIfInBounds 31 (.int .u8 127)) 5 (0, 0)) = some (.cells (ba (pkb Tw.x Tw.y)) 5 (0, 0)) := by
  have h : pkb Tw.x Tw.y = ((fil 32).set 0 236).set 31 127 := by decide +kernel
  rw [h, ← ba_set, ← ba_set]
  rfl
theorem pkb_lim (x y : Kp) : ∀ i, (pkb x y).getD i 0 < 256 := fun i => by
  have hb := byt31 y.isLt
  unfold pkb
  split
  · by_cases e : 31 = i
    · subst e
      rw [getD_set (by rw [bys_len]; decide)]; omega
    · rw [getD_set_ne' e]; exact bys_lim _ i
  · exact bys_lim _ i
theorem mul_two2 (P : Pt) : Pt.mul 2 P = P.add P := by rw [show (2 : Nat) = 1 + 1 from rfl, mul_succ', mul_one']
theorem mul_eight (P : Pt) : Pt.mul 8 P = (((P.add P).add (P.add P)).add ((P.add P).add (P.add P))) := by
  rw [show (8 : Nat) = 2 * 4 from rfl, mul_two, show (4 : Nat) = 2 * 2 from rfl, mul_two, mul_two2]
theorem tw_two : Tw.add Tw = .zero := by rw [← mul_two2]; exact half_order rfl
theorem tw_small : Pt.mul 8 Tw = .zero := by rw [mul_eight, tw_two, add_zero', add_zero']
theorem tw_ne : ¬ Tw = .zero := fun h => by
  have := congrArg Pt.y h
  exact absurd this (by show ¬ (-1 : Kp) = 1; exact neg_one_ne)
theorem B_big : ¬ Pt.mul 8 Bp = .zero := mul8_ne (n := 1) (by decide) (by decide)
theorem small_two (A : Nat) (hA : A < 65536) : Pt.mul 8 ((Pt.mul A Bp).add Tw) = .zero ↔ A = 0 := by
  rw [mul_sum, tw_small, add_zero']
  exact small_iff hA
set_option linter.unusedSimpArgs false in
set_option maxRecDepth 100000 in
set_option maxHeartbeats 4000000 in
theorem ps_all (n : Int) (A : Nat) (hA : n % 65536 = (A : Int)) (hz : 0 < A) {w : World} (LDi : LaidW 1 exw w) (LDe : LaidW 3 eiw w) (LDm : LaidW 0 rmw w) : Calls Tryd.prog 6 #[.int .i64 n] w fun e w' => e = .returned (.bool true) ∧ Below w.heap.size w w' := by
  have hA5 : A < 65536 := by omega
  have HA6 := hide hA
  have HA : Hid (bval ((smb n).take 32) = A) := (smb_val n).trans (by omega)
  have HSM := hide (small_iff hA5)
  have HST := hide (small_two A hA5)
  have HZ := hide hz
  replace LDi := hide LDi
  replace LDe := hide LDe
  replace LDm := hide LDm
  clear hA hA5 hz
  have hmk := make32
  go_enter Tryd.func6, Tryd.ntmps6
  go_wp2
  go_loopw [12] (fun i wr => ∃ k : Nat, k ≤ 32 ∧ i = .int .i64 (k : Int) ∧ wr.heap[w.heap.size]? = some (.cells (ba (fil k)) 5 (0, 0)) ∧ w.heap.size < wr.heap.size ∧ Below w.heap.size w wr) (fun i _ => 32 - (intOf i).toNat)
  case atStart => exact ⟨0, by omega, rfl, by rw [fil_zero]; exact heap_alloc_last _ _, by simp, (Below.refl _ _).alloc (Nat.le_refl _) _⟩
  case round =>
    obtain ⟨k, hk, rfl, hr, hlt, hb⟩ := hrel
    by_cases hk32 : k < 32
    · have d1 : decide ((k : Int) < 32) = true := decide_eq_true (by omega)
      have hcell := cell_of_row _ _ k _ _ _ hr
      rw [ba_get _ _ (by rw [fil_len]; omega)] at hcell
      have hfro : wr.frozen? ⟨w.heap.size, k, none⟩ = false := frozen_of_row _ _ _ _ _ hr
      have h0 : (0 : Int) ≤ (k : Int) := by omega
      have h1 : (k : Int) < 32 := by omega
      have HK := hide (And.intro hk32 (And.intro hr (And.intro hlt hb)))
      clear hr hlt hb hk hk32
      go_wp2
      go_roundw
      case rel =>
        refine ⟨k + 1, by have := HK.out.1; omega, rfl, ?_, by simpa using HK.out.2.2.1, HK.out.2.2.2.setCell (Nat.le_refl _) _⟩
        rw [heap_setCell_same _ _ _ _ _ _ HK.out.2.1, show Value.int .u8 (255 : Int) = .int .u8 ((255 : Nat) : Int) from rfl, ba_set, fil_succ k HK.out.1]
      case measure => simp [intOf]; omega
    · obtain rfl : k = 32 := by omega
      have f0 : wr.frozen? ⟨w.heap.size, 0, none⟩ = false := frozen_of_row _ _ _ _ _ hr
      have f31 : wr.frozen? ⟨w.heap.size, 31, none⟩ = false := frozen_of_row _ _ _ _ _ hr
      have c0 := cell_of_row _ _ 0 _ _ _ hr
      have c31 := cell_of_row _ _ 31 _ _ _ hr
      rw [ba_get _ _ (by rw [fil_len]; decide)] at c0 c31
      have HR1 : Hid (((wr.setCell ⟨w.heap.size, 0, none⟩ (.int .u8 236)).setCell ⟨w.heap.size, 31, none⟩ (.int .u8 127)).heap[w.heap.size]? = some (.cells (ba (pkb Tw.x Tw.y)) 5 (0, 0))) := by
        show _ = _
        rw [heap_setCell_same _ _ _ _ _ _ (heap_setCell_same _ _ _ _ _ _ hr)]
        exact tw_row
      have BEL : Hid (Below w.heap.size w ((wr.setCell ⟨w.heap.size, 0, none⟩ (.int .u8 236)).setCell ⟨w.heap.size, 31, none⟩ (.int .u8 127))) := (hb.setCell (Nat.le_refl _) _).setCell (Nat.le_refl _) _
      have HLT : Hid (w.heap.size < ((wr.setCell ⟨w.heap.size, 0, none⟩ (.int .u8 236)).setCell ⟨w.heap.size, 31, none⟩ (.int .u8 127)).heap.size) := by show _ < _; simpa using hlt
      clear hr hlt hb hk32 hk
      go_upto_region 8 with fail
      generalize (wr.setCell ⟨w.heap.size, 0, none⟩ (.int .u8 236)).setCell ⟨w.heap.size, 31, none⟩ (.int .u8 127) = W0 at *
      have SZ := hide BEL.out.size
      have SZP : w.heap.size ≤ W0.heap.size := SZ.out
      have BT : Hid (BsAt W0 (.slice (some ⟨w.heap.size, 0, none⟩) 32 32) (pkb Tw.x Tw.y)) := by
        have h := (own_of_row (w := W0) (base := w.heap.size) (Nat.le_refl _) HR1.out (pkb_lim _ _) (by rw [pkb_len]; decide)).at
        rw [pkb_len] at h
        exact h
      clear HR1 HLT f0 f31 c0 c31 hmk
      refine wp_region_lined3 (tl := [isb (pkb Tw.x Tw.y), isv (.tuple #[.agg (pe Tw.x (Tw.y - 1)), .bool true]), isP Tw, isv (.bool true)]) (pre := [(3, 0)])
        (plan := [Pk.val [(3, 0)] 0, Pk.val [(24, 0)] 1, Pk.val [(25, 1)] 1, Pk.val [(23, 1)] 2, Pk.val [(23, 1)] 3, Pk.alc 30 8, Pk.sto 5 26 2, Pk.val [(27, 3)] 3])
        [0] [] [] 92 (by kernel_rfl) rfl (by kernel_rfl) ⟨.inl rfl, ⟨.inr (lull_isv _ _ _), ⟨.inr (lull_P _ _ _), ⟨.inr (lull_isv _ _ _), trivial⟩⟩⟩⟩
        snkAt0 snk0 ⟨BT.out, trivial⟩
          (OkL3.cons (fun a w X_ h => g_move (wanted_none rfl) (.inl rfl) h.1)
          (OkL3.cons (fun a w X_ h => g_call1 (wanted_none rfl) (by kernel_rfl) rfl (p_from_s h.1 (LDe.out.step (X_.on BEL.out SZ.out none_le)) (LDm.out.step (X_.on BEL.out SZ.out none_le)) (dec_pkb Tw)))
          (OkL3.cons (fun a w X_ h => g_move (wanted_none rfl) (.inl rfl) h.1)
          (OkL3.cons (fun a w X_ h => g_ext (wanted_none rfl) rfl h.1 rfl rfl)
          (OkL3.cons (fun a w X_ h => g_ext (wanted_none rfl) rfl h.1 rfl rfl)
          (OkL3.cons (alc_of zp rfl rfl rfl newP)
          (OkL3.cons (⟨rfl, _, _, _, rfl, rfl, rfl, by kernel_rfl, row_P _⟩)
          (OkL3.cons (fun a w X_ h => g_move (wanted_none rfl) (.inr rfl) h.1)
          OkL3.nil)))))))) ?_
      rintro W8 X8 v24 - _ rfl _ rfl _ rfl _ rfl g5 c5 ⟨L5, Z5, -⟩ r5 H5 _ rfl
      refine FinL3.done ?_
      simp only [Act.put, List.setIfInBounds_toArray, List.set_cons_zero, List.set_cons_succ]
      obtain rfl : c5 = pe Tw.x (Tw.y - 1) := agg_inj H5
      have R5 := hide (And.intro Z5 r5)
      clear r5
      replace BEL := hide (X8.on BEL.out SZ.out none_le)
      replace SZ := hide BEL.out.size
      have SW8 := X8.size
      clear X8 H5
      clear BT
      go_upto_region 9 with fail
      refine wp_region_lined3 (tl := [isP Bp, isv (.int .i64 n), isb (smb n), isP (Pt.mul A Bp)]) (pre := [(0, 1)])
        (plan := [Pk.val [] 0, Pk.val [(0, 1)] 1, Pk.val [(29, 1)] 2, Pk.val [(28, 0), (30, 2)] 3, Pk.alc 30 8, Pk.sto 4 31 3])
        [2] [] [] 92 (by kernel_rfl) rfl (by kernel_rfl) ⟨.inr (lull_P _ _ _), ⟨.inr (lull_isv _ _ _), ⟨.inl rfl, ⟨.inr (lull_P _ _ _), trivial⟩⟩⟩⟩
        snkAt0 snk0 ⟨rfl, trivial⟩
          (OkL3.cons (fun a w X_ h => g_call0 (wanted_none rfl) (by kernel_rfl) rfl (p_baseP))
          (OkL3.cons (fun a w X_ h => g_move (wanted_none rfl) (.inl rfl) h.1)
          (OkL3.cons (fun a w X_ h => g_call1 (wanted_none rfl) (by kernel_rfl) rfl (small_h h.1))
          (OkL3.cons (fun a w X_ h => g_call2 (wanted_none rfl) (by kernel_rfl) rfl (p_mulN (n := A) (HA.out) h.1 h.2.1 (LDi.out.step (X_.on BEL.out SZ.out none_le))))
          (OkL3.cons (alc_of zp rfl rfl rfl newP)
          (OkL3.cons (⟨rfl, _, _, _, rfl, rfl, rfl, by kernel_rfl, row_P _⟩)
          OkL3.nil)))))) ?_
      rintro W9 X9 _ rfl _ rfl v30 - _ rfl g7 c7 ⟨L7, Z7, -⟩ r7 H7
      refine FinL3.fill ?_
      refine FinL3.done ?_
      simp only [Act.put, List.setIfInBounds_toArray, List.set_cons_zero, List.set_cons_succ]
      obtain rfl : c7 = pe (Pt.mul A Bp).x ((Pt.mul A Bp).y - 1) := agg_inj H7
      have R7 := hide (And.intro Z7 r7)
      clear r7
      replace R5 := hide (X9.row out0 R5.out)
      replace BEL := hide (X9.on BEL.out SZ.out none_le)
      replace SZ := hide BEL.out.size
      have SW9 := X9.size
      clear X9 H7
      go_upto_region 10 with fail
      refine wp_region_lined3 (tl := [isv (.pointer (some ⟨g7, 0, none⟩)), isP (Pt.mul A Bp), isP ((Pt.mul A Bp).add (Pt.mul A Bp))]) (pre := [(7, 0)])
        (plan := [Pk.val [(7, 0)] 1, Pk.val [(7, 0)] 1, Pk.val [(32, 1), (33, 1)] 2, Pk.alc 30 8, Pk.sto 3 34 2])
        [] [] [] 92 (by kernel_rfl) rfl (by kernel_rfl) ⟨.inr (lull_isv _ _ _), ⟨.inr (lull_P _ _ _), ⟨.inr (lull_P _ _ _), trivial⟩⟩⟩
        snkAt0 snk0 ⟨rfl, trivial⟩
          (OkL3.cons (fun a w X_ h => g_ldp (wanted_none rfl) rfl h.1 (X_.at_ R7.out.1 out0 R7.out.2))
          (OkL3.cons (fun a w X_ h => g_ldp (wanted_none rfl) rfl h.1 (X_.at_ R7.out.1 out0 R7.out.2))
          (OkL3.cons (fun a w X_ h => g_call2 (wanted_none rfl) (by kernel_rfl) rfl (p_addP h.1 h.2.1 (LDi.out.step (X_.on BEL.out SZ.out none_le))))
          (OkL3.cons (alc_of zp rfl rfl rfl newP)
          (OkL3.cons (⟨rfl, _, _, _, rfl, rfl, rfl, by kernel_rfl, row_P _⟩)
          OkL3.nil))))) ?_
      rintro W10 X10 _ rfl _ rfl _ rfl g8 c8 ⟨L8, Z8, -⟩ r8 H8
      refine FinL3.fill ?_
      refine FinL3.done ?_
      simp only [Act.put, List.setIfInBounds_toArray, List.set_cons_zero, List.set_cons_succ]
      obtain rfl : c8 = pe ((Pt.mul A Bp).add (Pt.mul A Bp)).x (((Pt.mul A Bp).add (Pt.mul A Bp)).y - 1) := agg_inj H8
      have R8 := hide (And.intro Z8 r8)
      clear r8
      replace R5 := hide (X10.row out0 R5.out)
      replace R7 := hide (X10.row out0 R7.out)
      replace BEL := hide (X10.on BEL.out SZ.out none_le)
      replace SZ := hide BEL.out.size
      have SW10 := X10.size
      clear X10 H8
      go_upto_region 11 with fail
      refine wp_region_lined3 (tl := [isP ((Pt.mul A Bp).add (Pt.mul A Bp)), isP (((Pt.mul A Bp).add (Pt.mul A Bp)).add ((Pt.mul A Bp).add (Pt.mul A Bp)))]) (pre := [])
        (plan := [Pk.ld 0 8 0, Pk.ld 0 8 0, Pk.val [(35, 0), (36, 0)] 1, Pk.put 0 8 37 1])
        [] [(g8, 30, 8)] [(0, 8)] 92 (by kernel_rfl) rfl (by kernel_rfl) ⟨.inr (lull_P _ _ _), ⟨.inr (lull_P _ _ _), trivial⟩⟩
        (snkAt1 R8.out rfl rfl) (snk1 _) trivial
          (OkL3.cons (fun a w X_ h hr => g_ldp (wanted_none rfl) rfl h (hr.trans R8.out.2))
          (OkL3.cons (fun a w X_ h hr => g_ldp (wanted_none rfl) rfl h (hr.trans R8.out.2))
          (OkL3.cons (fun a w X_ h => g_call2 (wanted_none rfl) (by kernel_rfl) rfl (p_addP h.1 h.2.1 (LDi.out.step (X_.on BEL.out SZ.out (one_le (by omega))))))
          (OkL3.cons (⟨rfl, _, _, _, rfl, rfl, by kernel_rfl, row_P _⟩)
          OkL3.nil)))) ?_
      rintro W11 X11 _ rfl _ rfl _ rfl c8 r8 H8
      refine FinL3.done ?_
      simp only [Act.put, List.setIfInBounds_toArray, List.set_cons_zero, List.set_cons_succ]
      obtain rfl : c8 = pe (((Pt.mul A Bp).add (Pt.mul A Bp)).add ((Pt.mul A Bp).add (Pt.mul A Bp))).x ((((Pt.mul A Bp).add (Pt.mul A Bp)).add ((Pt.mul A Bp).add (Pt.mul A Bp))).y - 1) := agg_inj H8
      replace R8 := hide (And.intro (Nat.lt_of_lt_of_le R8.out.1 X11.size) r8)
      clear r8
      replace R5 := hide (X11.row (out1 (by omega)) R5.out)
      replace R7 := hide (X11.row (out1 (by omega)) R7.out)
      replace BEL := hide (X11.on BEL.out SZ.out (one_le (by omega)))
      replace SZ := hide BEL.out.size
      have SW11 := X11.size
      clear X11 H8
      go_upto_region 12 with fail
      refine wp_region_lined3 (tl := [isP (((Pt.mul A Bp).add (Pt.mul A Bp)).add ((Pt.mul A Bp).add (Pt.mul A Bp))), isP ((((Pt.mul A Bp).add (Pt.mul A Bp)).add ((Pt.mul A Bp).add (Pt.mul A Bp))).add (((Pt.mul A Bp).add (Pt.mul A Bp)).add ((Pt.mul A Bp).add (Pt.mul A Bp))))]) (pre := [])
        (plan := [Pk.ld 0 8 0, Pk.ld 0 8 0, Pk.val [(38, 0), (39, 0)] 1, Pk.put 0 8 40 1])
        [] [(g8, 30, 8)] [(0, 8)] 92 (by kernel_rfl) rfl (by kernel_rfl) ⟨.inr (lull_P _ _ _), ⟨.inr (lull_P _ _ _), trivial⟩⟩
        (snkAt1 R8.out rfl rfl) (snk1 _) trivial
          (OkL3.cons (fun a w X_ h hr => g_ldp (wanted_none rfl) rfl h (hr.trans R8.out.2))
          (OkL3.cons (fun a w X_ h hr => g_ldp (wanted_none rfl) rfl h (hr.trans R8.out.2))
          (OkL3.cons (fun a w X_ h => g_call2 (wanted_none rfl) (by kernel_rfl) rfl (p_addP h.1 h.2.1 (LDi.out.step (X_.on BEL.out SZ.out (one_le (by omega))))))
          (OkL3.cons (⟨rfl, _, _, _, rfl, rfl, by kernel_rfl, row_P _⟩)
          OkL3.nil)))) ?_
      rintro W12 X12 _ rfl _ rfl _ rfl c8 r8 H8
      refine FinL3.done ?_
      simp only [Act.put, List.setIfInBounds_toArray, List.set_cons_zero, List.set_cons_succ]
      obtain rfl : c8 = pe ((((Pt.mul A Bp).add (Pt.mul A Bp)).add ((Pt.mul A Bp).add (Pt.mul A Bp))).add (((Pt.mul A Bp).add (Pt.mul A Bp)).add ((Pt.mul A Bp).add (Pt.mul A Bp)))).x (((((Pt.mul A Bp).add (Pt.mul A Bp)).add ((Pt.mul A Bp).add (Pt.mul A Bp))).add (((Pt.mul A Bp).add (Pt.mul A Bp)).add ((Pt.mul A Bp).add (Pt.mul A Bp)))).y - 1) := agg_inj H8
      replace R8 := hide (And.intro (Nat.lt_of_lt_of_le R8.out.1 X12.size) r8)
      clear r8
      replace R5 := hide (X12.row (out1 (by omega)) R5.out)
      replace R7 := hide (X12.row (out1 (by omega)) R7.out)
      replace BEL := hide (X12.on BEL.out SZ.out (one_le (by omega)))
      replace SZ := hide BEL.out.size
      have SW12 := X12.size
      clear X12 H8
      go_upto_region 13 with fail
      refine wp_region_typed3 (tl := [isv (.bool true), isv (.pointer (some ⟨g5, 0, none⟩)), isP Tw, isP (Tw.add Tw), isP Pt.zero, isv (.bool false), isP Bp, isv (.pointer (some ⟨g7, 0, none⟩)), isP (Pt.mul A Bp), isb ([8]), isP (Pt.mul 8 (Pt.mul A Bp)), isv (.pointer (some ⟨g8, 0, none⟩)), isP ((((Pt.mul A Bp).add (Pt.mul A Bp)).add ((Pt.mul A Bp).add (Pt.mul A Bp))).add (((Pt.mul A Bp).add (Pt.mul A Bp)).add ((Pt.mul A Bp).add (Pt.mul A Bp)))), isv (.int .i64 n), isv (.int .i64 (A : Int)), isP ((Pt.mul A Bp).add Tw)]) (pre := [(0, 13), (5, 1), (6, 0), (7, 7), (8, 11)])
        (plan := (Pk.val [(6, 0)] 0 :: Pk.val [(41, 0)] 0 :: Pk.val [(42, 0), (5, 1)] 2 :: Pk.val [(42, 0), (43, 2)] 0 :: Pk.val [(42, 0), (44, 0)] 0 :: Pk.val [(45, 0)] 0 :: Pk.val [(46, 0), (5, 1)] 2 :: Pk.val [(46, 0), (5, 1)] 2 :: Pk.val [(46, 0), (47, 2), (48, 2)] 3 :: Pk.val [(46, 0)] 4 :: Pk.val [(46, 0), (49, 3), (50, 4)] 0 :: Pk.val [(46, 0), (51, 0)] 0 :: Pk.val [(52, 0)] 0 :: Pk.val [(53, 0), (5, 1)] 2 :: Pk.val [(53, 0)] 4 :: Pk.val [(53, 0), (54, 2), (55, 4)] 5 :: Pk.val [(53, 0), (56, 5)] 0 :: Pk.val [(53, 0), (57, 0)] 0 :: Pk.val [(58, 0)] 0 :: Pk.val [(59, 0)] 6 :: Pk.val [(59, 0), (60, 6)] 5 :: Pk.val [(59, 0), (61, 5)] 0 :: Pk.val [(59, 0), (62, 0)] 0 :: Pk.val [(63, 0)] 0 :: Pk.val [(64, 0), (7, 7)] 8 :: Pk.val [(64, 0)] 9 :: Pk.val [(64, 0), (65, 8), (66, 9)] 10 :: Pk.val [(64, 0), (8, 11)] 12 :: Pk.val [(64, 0), (67, 10), (68, 12)] 0 :: Pk.val [(64, 0), (69, 0)] 0 :: Pk.val [(70, 0)] 0 :: Pk.val [(71, 0), (7, 7)] 8 :: Pk.val [(71, 0), (72, 8)] 5 :: Pk.val [(71, 0), (0, 13)] 13 :: Pk.val [(71, 0), (74, 13)] 14 :: Pk.val [(71, 0), (75, 14)] 5 :: Pk.val [(71, 0), (73, 5), (76, 5)] 0 :: Pk.val [(71, 0), (77, 0)] 0 :: Pk.val [(78, 0)] 0 :: Pk.val [(79, 0), (7, 7)] 8 :: Pk.val [(79, 0), (5, 1)] 2 :: Pk.val [(79, 0), (80, 8), (81, 2)] 15 :: Pk.val [(79, 0), (82, 15)] 5 :: Pk.val [(79, 0), (0, 13)] 13 :: Pk.val [(79, 0), (84, 13)] 14 :: Pk.val [(79, 0), (85, 14)] 5 :: Pk.val [(79, 0), (83, 5), (86, 5)] 0 :: Pk.val [(79, 0), (87, 0)] 0 :: Pk.val [(88, 0)] 0 :: Pk.val [(89, 0)] 0 :: Pk.val [(89, 0), (90, 0)] 0 :: Pk.val [(91, 0)] 0 :: []))
        [9] [] [] (by kernel_rfl) 92 (by kernel_rfl) rfl (by kernel_rfl) ⟨.inr (lull_isv _ _ _), ⟨.inr (lull_isv _ _ _), ⟨.inr (lull_P _ _ _), ⟨.inr (lull_P _ _ _), ⟨.inr (lull_P _ _ _), ⟨.inr (lull_isv _ _ _), ⟨.inr (lull_P _ _ _), ⟨.inr (lull_isv _ _ _), ⟨.inr (lull_P _ _ _), ⟨.inl rfl, ⟨.inr (lull_P _ _ _), ⟨.inr (lull_isv _ _ _), ⟨.inr (lull_P _ _ _), ⟨.inr (lull_isv _ _ _), ⟨.inr (lull_isv _ _ _), ⟨.inr (lull_P _ _ _), trivial⟩⟩⟩⟩⟩⟩⟩⟩⟩⟩⟩⟩⟩⟩⟩⟩
        snkAt0 snk0 ⟨rfl, ⟨rfl, ⟨rfl, ⟨rfl, ⟨rfl, trivial⟩⟩⟩⟩⟩
          (OkL3.cons (fun a w X_ h => g_move (wanted_none rfl) (.inl rfl) h.1)
          (OkL3.cons (fun a w X_ h => g_move (wanted_none rfl) (.inl rfl) h.1)
          (OkL3.cons (fun a w X_ h => g_ldp (wanted_some rfl rfl h.1) rfl h.2.1 (X_.at_ R5.out.1 out0 R5.out.2))
          (OkL3.cons (fun a w X_ h => g_call1 (wanted_some rfl rfl h.1) (by kernel_rfl) rfl (p_smallP h.2.1 (LDi.out.step (X_.on BEL.out SZ.out none_le)) (iff_t (tw_small))))
          (OkL3.cons (fun a w X_ h => g_pick (wanted_none rfl) rfl h.1 h.2.1)
          (OkL3.cons (fun a w X_ h => g_move (wanted_none rfl) (.inl rfl) h.1)
          (OkL3.cons (fun a w X_ h => g_ldp (wanted_some rfl rfl h.1) rfl h.2.1 (X_.at_ R5.out.1 out0 R5.out.2))
          (OkL3.cons (fun a w X_ h => g_ldp (wanted_some rfl rfl h.1) rfl h.2.1 (X_.at_ R5.out.1 out0 R5.out.2))
          (OkL3.cons (fun a w X_ h => g_call2 (wanted_some rfl rfl h.1) (by kernel_rfl) rfl (p_addP h.2.1 h.2.2.1 (LDi.out.step (X_.on BEL.out SZ.out none_le))))
          (OkL3.cons (fun a w X_ h => g_call0 (wanted_some rfl rfl h.1) (by kernel_rfl) rfl (p_zeroP))
          (OkL3.cons (fun a w X_ h => g_call2 (wanted_some rfl rfl h.1) (by kernel_rfl) rfl (p_same h.2.1 h.2.2.1 (iff_t (tw_two))))
          (OkL3.cons (fun a w X_ h => g_pick (wanted_none rfl) rfl h.1 h.2.1)
          (OkL3.cons (fun a w X_ h => g_move (wanted_none rfl) (.inl rfl) h.1)
          (OkL3.cons (fun a w X_ h => g_ldp (wanted_some rfl rfl h.1) rfl h.2.1 (X_.at_ R5.out.1 out0 R5.out.2))
          (OkL3.cons (fun a w X_ h => g_call0 (wanted_some rfl rfl h.1) (by kernel_rfl) rfl (p_zeroP))
          (OkL3.cons (fun a w X_ h => g_call2 (wanted_some rfl rfl h.1) (by kernel_rfl) rfl (p_same h.2.1 h.2.2.1 (iff_f (tw_ne))))
          (OkL3.cons (fun a w X_ h => g_not (wanted_some rfl rfl h.1) rfl h.2.1 rfl)
          (OkL3.cons (fun a w X_ h => g_pick (wanted_none rfl) rfl h.1 h.2.1)
          (OkL3.cons (fun a w X_ h => g_move (wanted_none rfl) (.inl rfl) h.1)
          (OkL3.cons (fun a w X_ h => g_call0 (wanted_some rfl rfl h.1) (by kernel_rfl) rfl (p_baseP))
          (OkL3.cons (fun a w X_ h => g_call1 (wanted_some rfl rfl h.1) (by kernel_rfl) rfl (p_smallP h.2.1 (LDi.out.step (X_.on BEL.out SZ.out none_le)) (iff_f (B_big))))
          (OkL3.cons (fun a w X_ h => g_not (wanted_some rfl rfl h.1) rfl h.2.1 rfl)
          (OkL3.cons (fun a w X_ h => g_pick (wanted_none rfl) rfl h.1 h.2.1)
          (OkL3.cons (fun a w X_ h => g_move (wanted_none rfl) (.inl rfl) h.1)
          (OkL3.cons (fun a w X_ h => g_ldp (wanted_some rfl rfl h.1) rfl h.2.1 (X_.at_ R7.out.1 out0 R7.out.2))
          (OkL3.cons (fun a w X_ h => g_new (l := [8]) (wanted_some rfl rfl h.1) (lim_all rfl) (by decide) (by kernel_rfl))
          (OkL3.cons (fun a w X_ h => g_call2 (wanted_some rfl rfl h.1) (by kernel_rfl) rfl (p_mulN (n := 8) (by decide) h.2.1 h.2.2.1 (LDi.out.step (X_.on BEL.out SZ.out none_le))))
          (OkL3.cons (fun a w X_ h => g_ldp (wanted_some rfl rfl h.1) rfl h.2.1 (X_.at_ R8.out.1 out0 R8.out.2))
          (OkL3.cons (fun a w X_ h => g_call2 (wanted_some rfl rfl h.1) (by kernel_rfl) rfl (p_same h.2.1 h.2.2.1 (iff_t (mul_eight _))))
          (OkL3.cons (fun a w X_ h => g_pick (wanted_none rfl) rfl h.1 h.2.1)
          (OkL3.cons (fun a w X_ h => g_move (wanted_none rfl) (.inl rfl) h.1)
          (OkL3.cons (fun a w X_ h => g_ldp (wanted_some rfl rfl h.1) rfl h.2.1 (X_.at_ R7.out.1 out0 R7.out.2))
          (OkL3.cons (fun a w X_ h => g_call1 (wanted_some rfl rfl h.1) (by kernel_rfl) rfl (p_smallP h.2.1 (LDi.out.step (X_.on BEL.out SZ.out none_le)) (iff_f ((fun h => Nat.lt_irrefl 0 (HSM.out.1 h ▸ HZ.out))))))
          (OkL3.cons (fun a w X_ h => g_move (wanted_some rfl rfl h.1) (.inl rfl) h.2.1)
          (OkL3.cons (fun a w X_ h => g_and16 (n := n) (wanted_some rfl rfl h.1) rfl (show a.eval (.tmp 74) = .int .i64 n from h.2.1) HA6.out)
          (OkL3.cons (fun a w X_ h => g_eqn0 (wanted_some rfl rfl h.1) rfl h.2.1 (iff_f (fun h => Nat.lt_irrefl 0 (h ▸ HZ.out))))
          (OkL3.cons (fun a w X_ h => g_eqb (wanted_some rfl rfl h.1) rfl h.2.1 h.2.2.1 rfl)
          (OkL3.cons (fun a w X_ h => g_pick (wanted_none rfl) rfl h.1 h.2.1)
          (OkL3.cons (fun a w X_ h => g_move (wanted_none rfl) (.inl rfl) h.1)
          (OkL3.cons (fun a w X_ h => g_ldp (wanted_some rfl rfl h.1) rfl h.2.1 (X_.at_ R7.out.1 out0 R7.out.2))
          (OkL3.cons (fun a w X_ h => g_ldp (wanted_some rfl rfl h.1) rfl h.2.1 (X_.at_ R5.out.1 out0 R5.out.2))
          (OkL3.cons (fun a w X_ h => g_call2 (wanted_some rfl rfl h.1) (by kernel_rfl) rfl (p_addP h.2.1 h.2.2.1 (LDi.out.step (X_.on BEL.out SZ.out none_le))))
          (OkL3.cons (fun a w X_ h => g_call1 (wanted_some rfl rfl h.1) (by kernel_rfl) rfl (p_smallP h.2.1 (LDi.out.step (X_.on BEL.out SZ.out none_le)) (iff_f ((fun h => Nat.lt_irrefl 0 (HST.out.1 h ▸ HZ.out))))))
          (OkL3.cons (fun a w X_ h => g_move (wanted_some rfl rfl h.1) (.inl rfl) h.2.1)
          (OkL3.cons (fun a w X_ h => g_and16 (n := n) (wanted_some rfl rfl h.1) rfl (show a.eval (.tmp 84) = .int .i64 n from h.2.1) HA6.out)
          (OkL3.cons (fun a w X_ h => g_eqn0 (wanted_some rfl rfl h.1) rfl h.2.1 (iff_f (fun h => Nat.lt_irrefl 0 (h ▸ HZ.out))))
          (OkL3.cons (fun a w X_ h => g_eqb (wanted_some rfl rfl h.1) rfl h.2.1 h.2.2.1 rfl)
          (OkL3.cons (fun a w X_ h => g_pick (wanted_none rfl) rfl h.1 h.2.1)
          (OkL3.cons (fun a w X_ h => g_move (wanted_none rfl) (.inl rfl) h.1)
          (OkL3.cons (fun a w X_ h => g_call0 (wanted_some rfl rfl h.1) (by kernel_rfl) rfl (awake_h))
          (OkL3.cons (fun a w X_ h => g_pick (wanted_none rfl) rfl h.1 h.2.1)
          (OkL3.cons (fun a w X_ h => g_move (wanted_none rfl) (.inr rfl) h.1)
          OkL3.nil)))))))))))))))))))))))))))))))))))))))))))))))))))) ?_
      rintro W13 X13 _ rfl _ rfl _ rfl _ rfl _ rfl _ rfl _ rfl _ rfl _ rfl _ rfl _ rfl _ rfl _ rfl _ rfl _ rfl _ rfl _ rfl _ rfl _ rfl _ rfl _ rfl _ rfl _ rfl _ rfl _ rfl v66 - _ rfl _ rfl _ rfl _ rfl _ rfl _ rfl _ rfl _ rfl _ rfl _ rfl _ rfl _ rfl _ rfl _ rfl _ rfl _ rfl _ rfl _ rfl _ rfl _ rfl _ rfl _ rfl _ rfl _ rfl _ rfl _ rfl
      refine FinL3.done ?_
      simp only [Act.put, List.setIfInBounds_toArray, List.set_cons_zero, List.set_cons_succ]
      replace R5 := hide (X13.row out0 R5.out)
      replace R7 := hide (X13.row out0 R7.out)
      replace R8 := hide (X13.row out0 R8.out)
      replace BEL := hide (X13.on BEL.out SZ.out none_le)
      replace SZ := hide BEL.out.size
      have SW13 := X13.size
      clear X13
      go_wp2
      go_ret
      exact ⟨rfl, BEL.out⟩
set_option linter.unusedSimpArgs false in
set_option maxRecDepth 100000 in
set_option maxHeartbeats 4000000 in
theorem ps_zero (n : Int) (A : Nat) (hA : n % 65536 = (A : Int)) (hz : A = 0) {w : World} (LDi : LaidW 1 exw w) (LDe : LaidW 3 eiw w) (LDm : LaidW 0 rmw w) : Calls Tryd.prog 6 #[.int .i64 n] w fun e w' => e = .returned (.bool true) ∧ Below w.heap.size w w' := by
  have hA5 : A < 65536 := by omega
  have HA6 := hide hA
  have HA : Hid (bval ((smb n).take 32) = A) := (smb_val n).trans (by omega)
  have HSM := hide (small_iff hA5)
  have HST := hide (small_two A hA5)
  have HZ := hide hz
  replace LDi := hide LDi
  replace LDe := hide LDe
  replace LDm := hide LDm
  clear hA hA5 hz
  have hmk := make32
  go_enter Tryd.func6, Tryd.ntmps6
  go_wp2
  go_loopw [12] (fun i wr => ∃ k : Nat, k ≤ 32 ∧ i = .int .i64 (k : Int) ∧ wr.heap[w.heap.size]? = some (.cells (ba (fil k)) 5 (0, 0)) ∧ w.heap.size < wr.heap.size ∧ Below w.heap.size w wr) (fun i _ => 32 - (intOf i).toNat)
  case atStart => exact ⟨0, by omega, rfl, by rw [fil_zero]; exact heap_alloc_last _ _, by simp, (Below.refl _ _).alloc (Nat.le_refl _) _⟩
  case round =>
    obtain ⟨k, hk, rfl, hr, hlt, hb⟩ := hrel
    by_cases hk32 : k < 32
    · have d1 : decide ((k : Int) < 32) = true := decide_eq_true (by omega)
      have hcell := cell_of_row _ _ k _ _ _ hr
      rw [ba_get _ _ (by rw [fil_len]; omega)] at hcell
      have hfro : wr.frozen? ⟨w.heap.size, k, none⟩ = false := frozen_of_row _ _ _ _ _ hr
      have h0 : (0 : Int) ≤ (k : Int) := by omega
      have h1 : (k : Int) < 32 := by omega
      have HK := hide (And.intro hk32 (And.intro hr (And.intro hlt hb)))
      clear hr hlt hb hk hk32
      go_wp2
      go_roundw
      case rel =>
        refine ⟨k + 1, by have := HK.out.1; omega, rfl, ?_, by simpa using HK.out.2.2.1, HK.out.2.2.2.setCell (Nat.le_refl _) _⟩
        rw [heap_setCell_same _ _ _ _ _ _ HK.out.2.1, show Value.int .u8 (255 : Int) = .int .u8 ((255 : Nat) : Int) from rfl, ba_set, fil_succ k HK.out.1]
      case measure => simp [intOf]; omega
    · obtain rfl : k = 32 := by omega
      have f0 : wr.frozen? ⟨w.heap.size, 0, none⟩ = false := frozen_of_row _ _ _ _ _ hr
      have f31 : wr.frozen? ⟨w.heap.size, 31, none⟩ = false := frozen_of_row _ _ _ _ _ hr
      have c0 := cell_of_row _ _ 0 _ _ _ hr
      have c31 := cell_of_row _ _ 31 _ _ _ hr
      rw [ba_get _ _ (by rw [fil_len]; decide)] at c0 c31
      have HR1 : Hid (((wr.setCell ⟨w.heap.size, 0, none⟩ (.int .u8 236)).setCell ⟨w.heap.size, 31, none⟩ (.int .u8 127)).heap[w.heap.size]? = some (.cells (ba (pkb Tw.x Tw.y)) 5 (0, 0))) := by
        show _ = _
        rw [heap_setCell_same _ _ _ _ _ _ (heap_setCell_same _ _ _ _ _ _ hr)]
        exact tw_row
      have BEL : Hid (Below w.heap.size w ((wr.setCell ⟨w.heap.size, 0, none⟩ (.int .u8 236)).setCell ⟨w.heap.size, 31, none⟩ (.int .u8 127))) := (hb.setCell (Nat.le_refl _) _).setCell (Nat.le_refl _) _
      have HLT : Hid (w.heap.size < ((wr.setCell ⟨w.heap.size, 0, none⟩ (.int .u8 236)).setCell ⟨w.heap.size, 31, none⟩ (.int .u8 127)).heap.size) := by show _ < _; simpa using hlt
      clear hr hlt hb hk32 hk
      go_upto_region 8 with fail
      generalize (wr.setCell ⟨w.heap.size, 0, none⟩ (.int .u8 236)).setCell ⟨w.heap.size, 31, none⟩ (.int .u8 127) = W0 at *
      have SZ := hide BEL.out.size
      have SZP : w.heap.size ≤ W0.heap.size := SZ.out
      have BT : Hid (BsAt W0 (.slice (some ⟨w.heap.size, 0, none⟩) 32 32) (pkb Tw.x Tw.y)) := by
        have h := (own_of_row (w := W0) (base := w.heap.size) (Nat.le_refl _) HR1.out (pkb_lim _ _) (by rw [pkb_len]; decide)).at
        rw [pkb_len] at h
        exact h
      clear HR1 HLT f0 f31 c0 c31 hmk
      refine wp_region_lined3 (tl := [isb (pkb Tw.x Tw.y), isv (.tuple #[.agg (pe Tw.x (Tw.y - 1)), .bool true]), isP Tw, isv (.bool true)]) (pre := [(3, 0)])
        (plan := [Pk.val [(3, 0)] 0, Pk.val [(24, 0)] 1, Pk.val [(25, 1)] 1, Pk.val [(23, 1)] 2, Pk.val [(23, 1)] 3, Pk.alc 30 8, Pk.sto 5 26 2, Pk.val [(27, 3)] 3])
        [0] [] [] 92 (by kernel_rfl) rfl (by kernel_rfl) ⟨.inl rfl, ⟨.inr (lull_isv _ _ _), ⟨.inr (lull_P _ _ _), ⟨.inr (lull_isv _ _ _), trivial⟩⟩⟩⟩
        snkAt0 snk0 ⟨BT.out, trivial⟩
          (OkL3.cons (fun a w X_ h => g_move (wanted_none rfl) (.inl rfl) h.1)
          (OkL3.cons (fun a w X_ h => g_call1 (wanted_none rfl) (by kernel_rfl) rfl (p_from_s h.1 (LDe.out.step (X_.on BEL.out SZ.out none_le)) (LDm.out.step (X_.on BEL.out SZ.out none_le)) (dec_pkb Tw)))
          (OkL3.cons (fun a w X_ h => g_move (wanted_none rfl) (.inl rfl) h.1)
          (OkL3.cons (fun a w X_ h => g_ext (wanted_none rfl) rfl h.1 rfl rfl)
          (OkL3.cons (fun a w X_ h => g_ext (wanted_none rfl) rfl h.1 rfl rfl)
          (OkL3.cons (alc_of zp rfl rfl rfl newP)
          (OkL3.cons (⟨rfl, _, _, _, rfl, rfl, rfl, by kernel_rfl, row_P _⟩)
          (OkL3.cons (fun a w X_ h => g_move (wanted_none rfl) (.inr rfl) h.1)
          OkL3.nil)))))))) ?_
      rintro W8 X8 v24 - _ rfl _ rfl _ rfl _ rfl g5 c5 ⟨L5, Z5, -⟩ r5 H5 _ rfl
      refine FinL3.done ?_
      simp only [Act.put, List.setIfInBounds_toArray, List.set_cons_zero, List.set_cons_succ]
      obtain rfl : c5 = pe Tw.x (Tw.y - 1) := agg_inj H5
      have R5 := hide (And.intro Z5 r5)
      clear r5
      replace BEL := hide (X8.on BEL.out SZ.out none_le)
      replace SZ := hide BEL.out.size
      have SW8 := X8.size
      clear X8 H5
      clear BT
      go_upto_region 9 with fail
      refine wp_region_lined3 (tl := [isP Bp, isv (.int .i64 n), isb (smb n), isP (Pt.mul A Bp)]) (pre := [(0, 1)])
        (plan := [Pk.val [] 0, Pk.val [(0, 1)] 1, Pk.val [(29, 1)] 2, Pk.val [(28, 0), (30, 2)] 3, Pk.alc 30 8, Pk.sto 4 31 3])
        [2] [] [] 92 (by kernel_rfl) rfl (by kernel_rfl) ⟨.inr (lull_P _ _ _), ⟨.inr (lull_isv _ _ _), ⟨.inl rfl, ⟨.inr (lull_P _ _ _), trivial⟩⟩⟩⟩
        snkAt0 snk0 ⟨rfl, trivial⟩
          (OkL3.cons (fun a w X_ h => g_call0 (wanted_none rfl) (by kernel_rfl) rfl (p_baseP))
          (OkL3.cons (fun a w X_ h => g_move (wanted_none rfl) (.inl rfl) h.1)
          (OkL3.cons (fun a w X_ h => g_call1 (wanted_none rfl) (by kernel_rfl) rfl (small_h h.1))
          (OkL3.cons (fun a w X_ h => g_call2 (wanted_none rfl) (by kernel_rfl) rfl (p_mulN (n := A) (HA.out) h.1 h.2.1 (LDi.out.step (X_.on BEL.out SZ.out none_le))))
          (OkL3.cons (alc_of zp rfl rfl rfl newP)
          (OkL3.cons (⟨rfl, _, _, _, rfl, rfl, rfl, by kernel_rfl, row_P _⟩)
          OkL3.nil)))))) ?_
      rintro W9 X9 _ rfl _ rfl v30 - _ rfl g7 c7 ⟨L7, Z7, -⟩ r7 H7
      refine FinL3.fill ?_
      refine FinL3.done ?_
      simp only [Act.put, List.setIfInBounds_toArray, List.set_cons_zero, List.set_cons_succ]
      obtain rfl : c7 = pe (Pt.mul A Bp).x ((Pt.mul A Bp).y - 1) := agg_inj H7
      have R7 := hide (And.intro Z7 r7)
      clear r7
      replace R5 := hide (X9.row out0 R5.out)
      replace BEL := hide (X9.on BEL.out SZ.out none_le)
      replace SZ := hide BEL.out.size
      have SW9 := X9.size
      clear X9 H7
      go_upto_region 10 with fail
      refine wp_region_lined3 (tl := [isv (.pointer (some ⟨g7, 0, none⟩)), isP (Pt.mul A Bp), isP ((Pt.mul A Bp).add (Pt.mul A Bp))]) (pre := [(7, 0)])
        (plan := [Pk.val [(7, 0)] 1, Pk.val [(7, 0)] 1, Pk.val [(32, 1), (33, 1)] 2, Pk.alc 30 8, Pk.sto 3 34 2])
        [] [] [] 92 (by kernel_rfl) rfl (by kernel_rfl) ⟨.inr (lull_isv _ _ _), ⟨.inr (lull_P _ _ _), ⟨.inr (lull_P _ _ _), trivial⟩⟩⟩
        snkAt0 snk0 ⟨rfl, trivial⟩
          (OkL3.cons (fun a w X_ h => g_ldp (wanted_none rfl) rfl h.1 (X_.at_ R7.out.1 out0 R7.out.2))
          (OkL3.cons (fun a w X_ h => g_ldp (wanted_none rfl) rfl h.1 (X_.at_ R7.out.1 out0 R7.out.2))
          (OkL3.cons (fun a w X_ h => g_call2 (wanted_none rfl) (by kernel_rfl) rfl (p_addP h.1 h.2.1 (LDi.out.step (X_.on BEL.out SZ.out none_le))))
          (OkL3.cons (alc_of zp rfl rfl rfl newP)
          (OkL3.cons (⟨rfl, _, _, _, rfl, rfl, rfl, by kernel_rfl, row_P _⟩)
          OkL3.nil))))) ?_
      rintro W10 X10 _ rfl _ rfl _ rfl g8 c8 ⟨L8, Z8, -⟩ r8 H8
      refine FinL3.fill ?_
      refine FinL3.done ?_
      simp only [Act.put, List.setIfInBounds_toArray, List.set_cons_zero, List.set_cons_succ]
      obtain rfl : c8 = pe ((Pt.mul A Bp).add (Pt.mul A Bp)).x (((Pt.mul A Bp).add (Pt.mul A Bp)).y - 1) := agg_inj H8
      have R8 := hide (And.intro Z8 r8)
      clear r8
      replace R5 := hide (X10.row out0 R5.out)
      replace R7 := hide (X10.row out0 R7.out)
      replace BEL := hide (X10.on BEL.out SZ.out none_le)
      replace SZ := hide BEL.out.size
      have SW10 := X10.size
      clear X10 H8
      go_upto_region 11 with fail
      refine wp_region_lined3 (tl := [isP ((Pt.mul A Bp).add (Pt.mul A Bp)), isP (((Pt.mul A Bp).add (Pt.mul A Bp)).add ((Pt.mul A Bp).add (Pt.mul A Bp)))]) (pre := [])
        (plan := [Pk.ld 0 8 0, Pk.ld 0 8 0, Pk.val [(35, 0), (36, 0)] 1, Pk.put 0 8 37 1])
        [] [(g8, 30, 8)] [(0, 8)] 92 (by kernel_rfl) rfl (by kernel_rfl) ⟨.inr (lull_P _ _ _), ⟨.inr (lull_P _ _ _), trivial⟩⟩
        (snkAt1 R8.out rfl rfl) (snk1 _) trivial
          (OkL3.cons (fun a w X_ h hr => g_ldp (wanted_none rfl) rfl h (hr.trans R8.out.2))
          (OkL3.cons (fun a w X_ h hr => g_ldp (wanted_none rfl) rfl h (hr.trans R8.out.2))
          (OkL3.cons (fun a w X_ h => g_call2 (wanted_none rfl) (by kernel_rfl) rfl (p_addP h.1 h.2.1 (LDi.out.step (X_.on BEL.out SZ.out (one_le (by omega))))))
          (OkL3.cons (⟨rfl, _, _, _, rfl, rfl, by kernel_rfl, row_P _⟩)
          OkL3.nil)))) ?_
      rintro W11 X11 _ rfl _ rfl _ rfl c8 r8 H8
      refine FinL3.done ?_
      simp only [Act.put, List.setIfInBounds_toArray, List.set_cons_zero, List.set_cons_succ]
      obtain rfl : c8 = pe (((Pt.mul A Bp).add (Pt.mul A Bp)).add ((Pt.mul A Bp).add (Pt.mul A Bp))).x ((((Pt.mul A Bp).add (Pt.mul A Bp)).add ((Pt.mul A Bp).add (Pt.mul A Bp))).y - 1) := agg_inj H8
      replace R8 := hide (And.intro (Nat.lt_of_lt_of_le R8.out.1 X11.size) r8)
      clear r8
      replace R5 := hide (X11.row (out1 (by omega)) R5.out)
      replace R7 := hide (X11.row (out1 (by omega)) R7.out)
      replace BEL := hide (X11.on BEL.out SZ.out (one_le (by omega)))
      replace SZ := hide BEL.out.size
      have SW11 := X11.size
      clear X11 H8
      go_upto_region 12 with fail
      refine wp_region_lined3 (tl := [isP (((Pt.mul A Bp).add (Pt.mul A Bp)).add ((Pt.mul A Bp).add (Pt.mul A Bp))), isP ((((Pt.mul A Bp).add (Pt.mul A Bp)).add ((Pt.mul A Bp).add (Pt.mul A Bp))).add (((Pt.mul A Bp).add (Pt.mul A Bp)).add ((Pt.mul A Bp).add (Pt.mul A Bp))))]) (pre := [])
        (plan := [Pk.ld 0 8 0, Pk.ld 0 8 0, Pk.val [(38, 0), (39, 0)] 1, Pk.put 0 8 40 1])
        [] [(g8, 30, 8)] [(0, 8)] 92 (by kernel_rfl) rfl (by kernel_rfl) ⟨.inr (lull_P _ _ _), ⟨.inr (lull_P _ _ _), trivial⟩⟩
        (snkAt1 R8.out rfl rfl) (snk1 _) trivial
          (OkL3.cons (fun a w X_ h hr => g_ldp (wanted_none rfl) rfl h (hr.trans R8.out.2))
          (OkL3.cons (fun a w X_ h hr => g_ldp (wanted_none rfl) rfl h (hr.trans R8.out.2))
          (OkL3.cons (fun a w X_ h => g_call2 (wanted_none rfl) (by kernel_rfl) rfl (p_addP h.1 h.2.1 (LDi.out.step (X_.on BEL.out SZ.out (one_le (by omega))))))
          (OkL3.cons (⟨rfl, _, _, _, rfl, rfl, by kernel_rfl, row_P _⟩)
          OkL3.nil)))) ?_
      rintro W12 X12 _ rfl _ rfl _ rfl c8 r8 H8
      refine FinL3.done ?_
      simp only [Act.put, List.setIfInBounds_toArray, List.set_cons_zero, List.set_cons_succ]
      obtain rfl : c8 = pe ((((Pt.mul A Bp).add (Pt.mul A Bp)).add ((Pt.mul A Bp).add (Pt.mul A Bp))).add (((Pt.mul A Bp).add (Pt.mul A Bp)).add ((Pt.mul A Bp).add (Pt.mul A Bp)))).x (((((Pt.mul A Bp).add (Pt.mul A Bp)).add ((Pt.mul A Bp).add (Pt.mul A Bp))).add (((Pt.mul A Bp).add (Pt.mul A Bp)).add ((Pt.mul A Bp).add (Pt.mul A Bp)))).y - 1) := agg_inj H8
      replace R8 := hide (And.intro (Nat.lt_of_lt_of_le R8.out.1 X12.size) r8)
      clear r8
      replace R5 := hide (X12.row (out1 (by omega)) R5.out)
      replace R7 := hide (X12.row (out1 (by omega)) R7.out)
      replace BEL := hide (X12.on BEL.out SZ.out (one_le (by omega)))
      replace SZ := hide BEL.out.size
      have SW12 := X12.size
      clear X12 H8
      go_upto_region 13 with fail
      refine wp_region_typed3 (tl := [isv (.bool true), isv (.pointer (some ⟨g5, 0, none⟩)), isP Tw, isP (Tw.add Tw), isP Pt.zero, isv (.bool false), isP Bp, isv (.pointer (some ⟨g7, 0, none⟩)), isP (Pt.mul A Bp), isb ([8]), isP (Pt.mul 8 (Pt.mul A Bp)), isv (.pointer (some ⟨g8, 0, none⟩)), isP ((((Pt.mul A Bp).add (Pt.mul A Bp)).add ((Pt.mul A Bp).add (Pt.mul A Bp))).add (((Pt.mul A Bp).add (Pt.mul A Bp)).add ((Pt.mul A Bp).add (Pt.mul A Bp)))), isv (.int .i64 n), isv (.int .i64 (A : Int)), isP ((Pt.mul A Bp).add Tw)]) (pre := [(0, 13), (5, 1), (6, 0), (7, 7), (8, 11)])
        (plan := (Pk.val [(6, 0)] 0 :: Pk.val [(41, 0)] 0 :: Pk.val [(42, 0), (5, 1)] 2 :: Pk.val [(42, 0), (43, 2)] 0 :: Pk.val [(42, 0), (44, 0)] 0 :: Pk.val [(45, 0)] 0 :: Pk.val [(46, 0), (5, 1)] 2 :: Pk.val [(46, 0), (5, 1)] 2 :: Pk.val [(46, 0), (47, 2), (48, 2)] 3 :: Pk.val [(46, 0)] 4 :: Pk.val [(46, 0), (49, 3), (50, 4)] 0 :: Pk.val [(46, 0), (51, 0)] 0 :: Pk.val [(52, 0)] 0 :: Pk.val [(53, 0), (5, 1)] 2 :: Pk.val [(53, 0)] 4 :: Pk.val [(53, 0), (54, 2), (55, 4)] 5 :: Pk.val [(53, 0), (56, 5)] 0 :: Pk.val [(53, 0), (57, 0)] 0 :: Pk.val [(58, 0)] 0 :: Pk.val [(59, 0)] 6 :: Pk.val [(59, 0), (60, 6)] 5 :: Pk.val [(59, 0), (61, 5)] 0 :: Pk.val [(59, 0), (62, 0)] 0 :: Pk.val [(63, 0)] 0 :: Pk.val [(64, 0), (7, 7)] 8 :: Pk.val [(64, 0)] 9 :: Pk.val [(64, 0), (65, 8), (66, 9)] 10 :: Pk.val [(64, 0), (8, 11)] 12 :: Pk.val [(64, 0), (67, 10), (68, 12)] 0 :: Pk.val [(64, 0), (69, 0)] 0 :: Pk.val [(70, 0)] 0 :: Pk.val [(71, 0), (7, 7)] 8 :: Pk.val [(71, 0), (72, 8)] 0 :: Pk.val [(71, 0), (0, 13)] 13 :: Pk.val [(71, 0), (74, 13)] 14 :: Pk.val [(71, 0), (75, 14)] 0 :: Pk.val [(71, 0), (73, 0), (76, 0)] 0 :: Pk.val [(71, 0), (77, 0)] 0 :: Pk.val [(78, 0)] 0 :: Pk.val [(79, 0), (7, 7)] 8 :: Pk.val [(79, 0), (5, 1)] 2 :: Pk.val [(79, 0), (80, 8), (81, 2)] 15 :: Pk.val [(79, 0), (82, 15)] 0 :: Pk.val [(79, 0), (0, 13)] 13 :: Pk.val [(79, 0), (84, 13)] 14 :: Pk.val [(79, 0), (85, 14)] 0 :: Pk.val [(79, 0), (83, 0), (86, 0)] 0 :: Pk.val [(79, 0), (87, 0)] 0 :: Pk.val [(88, 0)] 0 :: Pk.val [(89, 0)] 0 :: Pk.val [(89, 0), (90, 0)] 0 :: Pk.val [(91, 0)] 0 :: []))
        [9] [] [] (by kernel_rfl) 92 (by kernel_rfl) rfl (by kernel_rfl) ⟨.inr (lull_isv _ _ _), ⟨.inr (lull_isv _ _ _), ⟨.inr (lull_P _ _ _), ⟨.inr (lull_P _ _ _), ⟨.inr (lull_P _ _ _), ⟨.inr (lull_isv _ _ _), ⟨.inr (lull_P _ _ _), ⟨.inr (lull_isv _ _ _), ⟨.inr (lull_P _ _ _), ⟨.inl rfl, ⟨.inr (lull_P _ _ _), ⟨.inr (lull_isv _ _ _), ⟨.inr (lull_P _ _ _), ⟨.inr (lull_isv _ _ _), ⟨.inr (lull_isv _ _ _), ⟨.inr (lull_P _ _ _), trivial⟩⟩⟩⟩⟩⟩⟩⟩⟩⟩⟩⟩⟩⟩⟩⟩
        snkAt0 snk0 ⟨rfl, ⟨rfl, ⟨rfl, ⟨rfl, ⟨rfl, trivial⟩⟩⟩⟩⟩
          (OkL3.cons (fun a w X_ h => g_move (wanted_none rfl) (.inl rfl) h.1)
          (OkL3.cons (fun a w X_ h => g_move (wanted_none rfl) (.inl rfl) h.1)
          (OkL3.cons (fun a w X_ h => g_ldp (wanted_some rfl rfl h.1) rfl h.2.1 (X_.at_ R5.out.1 out0 R5.out.2))
          (OkL3.cons (fun a w X_ h => g_call1 (wanted_some rfl rfl h.1) (by kernel_rfl) rfl (p_smallP h.2.1 (LDi.out.step (X_.on BEL.out SZ.out none_le)) (iff_t (tw_small))))
          (OkL3.cons (fun a w X_ h => g_pick (wanted_none rfl) rfl h.1 h.2.1)
          (OkL3.cons (fun a w X_ h => g_move (wanted_none rfl) (.inl rfl) h.1)
          (OkL3.cons (fun a w X_ h => g_ldp (wanted_some rfl rfl h.1) rfl h.2.1 (X_.at_ R5.out.1 out0 R5.out.2))
          (OkL3.cons (fun a w X_ h => g_ldp (wanted_some rfl rfl h.1) rfl h.2.1 (X_.at_ R5.out.1 out0 R5.out.2))
          (OkL3.cons (fun a w X_ h => g_call2 (wanted_some rfl rfl h.1) (by kernel_rfl) rfl (p_addP h.2.1 h.2.2.1 (LDi.out.step (X_.on BEL.out SZ.out none_le))))
          (OkL3.cons (fun a w X_ h => g_call0 (wanted_some rfl rfl h.1) (by kernel_rfl) rfl (p_zeroP))
          (OkL3.cons (fun a w X_ h => g_call2 (wanted_some rfl rfl h.1) (by kernel_rfl) rfl (p_same h.2.1 h.2.2.1 (iff_t (tw_two))))
          (OkL3.cons (fun a w X_ h => g_pick (wanted_none rfl) rfl h.1 h.2.1)
          (OkL3.cons (fun a w X_ h => g_move (wanted_none rfl) (.inl rfl) h.1)
          (OkL3.cons (fun a w X_ h => g_ldp (wanted_some rfl rfl h.1) rfl h.2.1 (X_.at_ R5.out.1 out0 R5.out.2))
          (OkL3.cons (fun a w X_ h => g_call0 (wanted_some rfl rfl h.1) (by kernel_rfl) rfl (p_zeroP))
          (OkL3.cons (fun a w X_ h => g_call2 (wanted_some rfl rfl h.1) (by kernel_rfl) rfl (p_same h.2.1 h.2.2.1 (iff_f (tw_ne))))
          (OkL3.cons (fun a w X_ h => g_not (wanted_some rfl rfl h.1) rfl h.2.1 rfl)
          (OkL3.cons (fun a w X_ h => g_pick (wanted_none rfl) rfl h.1 h.2.1)
          (OkL3.cons (fun a w X_ h => g_move (wanted_none rfl) (.inl rfl) h.1)
          (OkL3.cons (fun a w X_ h => g_call0 (wanted_some rfl rfl h.1) (by kernel_rfl) rfl (p_baseP))
          (OkL3.cons (fun a w X_ h => g_call1 (wanted_some rfl rfl h.1) (by kernel_rfl) rfl (p_smallP h.2.1 (LDi.out.step (X_.on BEL.out SZ.out none_le)) (iff_f (B_big))))
          (OkL3.cons (fun a w X_ h => g_not (wanted_some rfl rfl h.1) rfl h.2.1 rfl)
          (OkL3.cons (fun a w X_ h => g_pick (wanted_none rfl) rfl h.1 h.2.1)
          (OkL3.cons (fun a w X_ h => g_move (wanted_none rfl) (.inl rfl) h.1)
          (OkL3.cons (fun a w X_ h => g_ldp (wanted_some rfl rfl h.1) rfl h.2.1 (X_.at_ R7.out.1 out0 R7.out.2))
          (OkL3.cons (fun a w X_ h => g_new (l := [8]) (wanted_some rfl rfl h.1) (lim_all rfl) (by decide) (by kernel_rfl))
          (OkL3.cons (fun a w X_ h => g_call2 (wanted_some rfl rfl h.1) (by kernel_rfl) rfl (p_mulN (n := 8) (by decide) h.2.1 h.2.2.1 (LDi.out.step (X_.on BEL.out SZ.out none_le))))
          (OkL3.cons (fun a w X_ h => g_ldp (wanted_some rfl rfl h.1) rfl h.2.1 (X_.at_ R8.out.1 out0 R8.out.2))
          (OkL3.cons (fun a w X_ h => g_call2 (wanted_some rfl rfl h.1) (by kernel_rfl) rfl (p_same h.2.1 h.2.2.1 (iff_t (mul_eight _))))
          (OkL3.cons (fun a w X_ h => g_pick (wanted_none rfl) rfl h.1 h.2.1)
          (OkL3.cons (fun a w X_ h => g_move (wanted_none rfl) (.inl rfl) h.1)
          (OkL3.cons (fun a w X_ h => g_ldp (wanted_some rfl rfl h.1) rfl h.2.1 (X_.at_ R7.out.1 out0 R7.out.2))
          (OkL3.cons (fun a w X_ h => g_call1 (wanted_some rfl rfl h.1) (by kernel_rfl) rfl (p_smallP h.2.1 (LDi.out.step (X_.on BEL.out SZ.out none_le)) (iff_t ((HSM.out.2 HZ.out)))))
          (OkL3.cons (fun a w X_ h => g_move (wanted_some rfl rfl h.1) (.inl rfl) h.2.1)
          (OkL3.cons (fun a w X_ h => g_and16 (n := n) (wanted_some rfl rfl h.1) rfl (show a.eval (.tmp 74) = .int .i64 n from h.2.1) HA6.out)
          (OkL3.cons (fun a w X_ h => g_eqn0 (wanted_some rfl rfl h.1) rfl h.2.1 (iff_t HZ.out))
          (OkL3.cons (fun a w X_ h => g_eqb (wanted_some rfl rfl h.1) rfl h.2.1 h.2.2.1 rfl)
          (OkL3.cons (fun a w X_ h => g_pick (wanted_none rfl) rfl h.1 h.2.1)
          (OkL3.cons (fun a w X_ h => g_move (wanted_none rfl) (.inl rfl) h.1)
          (OkL3.cons (fun a w X_ h => g_ldp (wanted_some rfl rfl h.1) rfl h.2.1 (X_.at_ R7.out.1 out0 R7.out.2))
          (OkL3.cons (fun a w X_ h => g_ldp (wanted_some rfl rfl h.1) rfl h.2.1 (X_.at_ R5.out.1 out0 R5.out.2))
          (OkL3.cons (fun a w X_ h => g_call2 (wanted_some rfl rfl h.1) (by kernel_rfl) rfl (p_addP h.2.1 h.2.2.1 (LDi.out.step (X_.on BEL.out SZ.out none_le))))
          (OkL3.cons (fun a w X_ h => g_call1 (wanted_some rfl rfl h.1) (by kernel_rfl) rfl (p_smallP h.2.1 (LDi.out.step (X_.on BEL.out SZ.out none_le)) (iff_t ((HST.out.2 HZ.out)))))
          (OkL3.cons (fun a w X_ h => g_move (wanted_some rfl rfl h.1) (.inl rfl) h.2.1)
          (OkL3.cons (fun a w X_ h => g_and16 (n := n) (wanted_some rfl rfl h.1) rfl (show a.eval (.tmp 84) = .int .i64 n from h.2.1) HA6.out)
          (OkL3.cons (fun a w X_ h => g_eqn0 (wanted_some rfl rfl h.1) rfl h.2.1 (iff_t HZ.out))
          (OkL3.cons (fun a w X_ h => g_eqb (wanted_some rfl rfl h.1) rfl h.2.1 h.2.2.1 rfl)
          (OkL3.cons (fun a w X_ h => g_pick (wanted_none rfl) rfl h.1 h.2.1)
          (OkL3.cons (fun a w X_ h => g_move (wanted_none rfl) (.inl rfl) h.1)
          (OkL3.cons (fun a w X_ h => g_call0 (wanted_some rfl rfl h.1) (by kernel_rfl) rfl (awake_h))
          (OkL3.cons (fun a w X_ h => g_pick (wanted_none rfl) rfl h.1 h.2.1)
          (OkL3.cons (fun a w X_ h => g_move (wanted_none rfl) (.inr rfl) h.1)
          OkL3.nil)))))))))))))))))))))))))))))))))))))))))))))))))))) ?_
      rintro W13 X13 _ rfl _ rfl _ rfl _ rfl _ rfl _ rfl _ rfl _ rfl _ rfl _ rfl _ rfl _ rfl _ rfl _ rfl _ rfl _ rfl _ rfl _ rfl _ rfl _ rfl _ rfl _ rfl _ rfl _ rfl _ rfl v66 - _ rfl _ rfl _ rfl _ rfl _ rfl _ rfl _ rfl _ rfl _ rfl _ rfl _ rfl _ rfl _ rfl _ rfl _ rfl _ rfl _ rfl _ rfl _ rfl _ rfl _ rfl _ rfl _ rfl _ rfl _ rfl _ rfl
      refine FinL3.done ?_
      simp only [Act.put, List.setIfInBounds_toArray, List.set_cons_zero, List.set_cons_succ]
      replace R5 := hide (X13.row out0 R5.out)
      replace R7 := hide (X13.row out0 R7.out)
      replace R8 := hide (X13.row out0 R8.out)
      replace BEL := hide (X13.on BEL.out SZ.out none_le)
      replace SZ := hide BEL.out.size
      have SW13 := X13.size
      clear X13
      go_wp2
      go_ret
      exact ⟨rfl, BEL.out⟩
theorem pointSmall_walk (n : Int) {w : World} (LDi : LaidW 1 exw w) (LDe : LaidW 3 eiw w) (LDm : LaidW 0 rmw w) : Calls Tryd.prog 6 #[.int .i64 n] w fun e w' => e = .returned (.bool true) ∧ Below w.heap.size w w' := by
  obtain ⟨A, hA⟩ : ∃ A : Nat, n % 65536 = (A : Int) := ⟨(n % 65536).toNat, by omega⟩
  rcases Nat.eq_zero_or_pos A with h | h
  · exact ps_zero n A hA h LDi LDe LDm
  · exact ps_all n A hA h LDi LDe LDm
end Go.Proofs.YteplbagjagimdaaDoor
