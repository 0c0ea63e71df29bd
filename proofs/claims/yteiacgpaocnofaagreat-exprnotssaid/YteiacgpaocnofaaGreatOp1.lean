/- Operations of numbers and texts, and of one term: the program's calls. -/
import Derived.Test.YteiacgpaocnofaaGreatOp0
import Derived.Test.YteiacgpaocnofaaGreatOq
import Derived.Test.YteiacgpaocnofaaGreatShelf
namespace Go.Proofs.YteiacgpaocnofaaGreat
open Go.RowKit
set_option maxRecDepth 100000 in
set_option maxHeartbeats 2000000 in
theorem less_any (ak an : Int) (aS : ByteArray) (aa : Option Addr) (al ac : Nat) (bk bn : Int) (bS : ByteArray) (ba : Option Addr) (bl bc : Nat) (w : World) : Calls Tryz.prog 133 #[.agg (s8 ak an aS aa al ac bk bn bS ba bl bc)] w (OpF (trueT (decide (an < bn))) 0 w) := by
  obtain ⟨b0, r0, q0⟩ := two_alloc w (s8 ak an aS aa al ac bk bn bS ba bl bc) 144
  have B0 := hide b0
  have R0 := hide r0
  clear b0 r0 q0
  go_enter Tryz.func133, Tryz.ntmps133
  go_wp2_with fail
  refine (truth_any _ _).mono ?_
  rintro e_ w1 ⟨rfl, b1⟩
  have B1 := hide (Below.chain B0.out b1)
  have R1 := hide (Below.heap b1 (Array.getElem?_eq_some_iff.1 R0.out).1 R0.out)
  clear b1
  go_wp2_with (refine wpList_store_row rfl 33 (.tmp 2) (.tmp 12) rfl (w.heap.size + 1) (tvC (trueT (decide (an < bn))) none 0) rfl rfl 33 ztC R1.out (by kernel_rfl) rfl (by kernel_rfl) ?_)
  refine bodyPost_ret_by (results_row_tmp rfl _ _ (w.heap.size + 1) 33 _ (0, 0) _ rfl (setRow_heap _ _ _ _ _ _ R1.out) Tryz.underlying33 rfl (by kernel_rfl)) rfl ?_
  exact ⟨rfl, Below.setRow B1.out _ _ (Nat.le_succ _)⟩
set_option maxRecDepth 100000 in
set_option maxHeartbeats 2000000 in
theorem more_any (ak an : Int) (aS : ByteArray) (aa : Option Addr) (al ac : Nat) (bk bn : Int) (bS : ByteArray) (ba : Option Addr) (bl bc : Nat) (w : World) : Calls Tryz.prog 134 #[.agg (s8 ak an aS aa al ac bk bn bS ba bl bc)] w (OpF (trueT (decide (bn < an))) 0 w) := by
  obtain ⟨b0, r0, q0⟩ := two_alloc w (s8 ak an aS aa al ac bk bn bS ba bl bc) 144
  have B0 := hide b0
  have R0 := hide r0
  clear b0 r0 q0
  go_enter Tryz.func134, Tryz.ntmps134
  go_wp2_with fail
  refine (truth_any _ _).mono ?_
  rintro e_ w1 ⟨rfl, b1⟩
  have B1 := hide (Below.chain B0.out b1)
  have R1 := hide (Below.heap b1 (Array.getElem?_eq_some_iff.1 R0.out).1 R0.out)
  clear b1
  go_wp2_with (refine wpList_store_row rfl 33 (.tmp 2) (.tmp 12) rfl (w.heap.size + 1) (tvC (trueT (decide (bn < an))) none 0) rfl rfl 33 ztC R1.out (by kernel_rfl) rfl (by kernel_rfl) ?_)
  refine bodyPost_ret_by (results_row_tmp rfl _ _ (w.heap.size + 1) 33 _ (0, 0) _ rfl (setRow_heap _ _ _ _ _ _ R1.out) Tryz.underlying33 rfl (by kernel_rfl)) rfl ?_
  exact ⟨rfl, Below.setRow B1.out _ _ (Nat.le_succ _)⟩
set_option maxRecDepth 100000 in
set_option maxHeartbeats 2000000 in
theorem atMost_any (ak an : Int) (aS : ByteArray) (aa : Option Addr) (al ac : Nat) (bk bn : Int) (bS : ByteArray) (ba : Option Addr) (bl bc : Nat) (w : World) : Calls Tryz.prog 135 #[.agg (s8 ak an aS aa al ac bk bn bS ba bl bc)] w (OpF (trueT (decide (an ≤ bn))) 0 w) := by
  obtain ⟨b0, r0, q0⟩ := two_alloc w (s8 ak an aS aa al ac bk bn bS ba bl bc) 144
  have B0 := hide b0
  have R0 := hide r0
  clear b0 r0 q0
  go_enter Tryz.func135, Tryz.ntmps135
  go_wp2_with fail
  refine (truth_any _ _).mono ?_
  rintro e_ w1 ⟨rfl, b1⟩
  have B1 := hide (Below.chain B0.out b1)
  have R1 := hide (Below.heap b1 (Array.getElem?_eq_some_iff.1 R0.out).1 R0.out)
  clear b1
  go_wp2_with (refine wpList_store_row rfl 33 (.tmp 2) (.tmp 12) rfl (w.heap.size + 1) (tvC (trueT (decide (an ≤ bn))) none 0) rfl rfl 33 ztC R1.out (by kernel_rfl) rfl (by kernel_rfl) ?_)
  refine bodyPost_ret_by (results_row_tmp rfl _ _ (w.heap.size + 1) 33 _ (0, 0) _ rfl (setRow_heap _ _ _ _ _ _ R1.out) Tryz.underlying33 rfl (by kernel_rfl)) rfl ?_
  exact ⟨rfl, Below.setRow B1.out _ _ (Nat.le_succ _)⟩
set_option maxRecDepth 100000 in
set_option maxHeartbeats 2000000 in
theorem atLeast_any (ak an : Int) (aS : ByteArray) (aa : Option Addr) (al ac : Nat) (bk bn : Int) (bS : ByteArray) (ba : Option Addr) (bl bc : Nat) (w : World) : Calls Tryz.prog 136 #[.agg (s8 ak an aS aa al ac bk bn bS ba bl bc)] w (OpF (trueT (decide (bn ≤ an))) 0 w) := by
  obtain ⟨b0, r0, q0⟩ := two_alloc w (s8 ak an aS aa al ac bk bn bS ba bl bc) 144
  have B0 := hide b0
  have R0 := hide r0
  clear b0 r0 q0
  go_enter Tryz.func136, Tryz.ntmps136
  go_wp2_with fail
  refine (truth_any _ _).mono ?_
  rintro e_ w1 ⟨rfl, b1⟩
  have B1 := hide (Below.chain B0.out b1)
  have R1 := hide (Below.heap b1 (Array.getElem?_eq_some_iff.1 R0.out).1 R0.out)
  clear b1
  go_wp2_with (refine wpList_store_row rfl 33 (.tmp 2) (.tmp 12) rfl (w.heap.size + 1) (tvC (trueT (decide (bn ≤ an))) none 0) rfl rfl 33 ztC R1.out (by kernel_rfl) rfl (by kernel_rfl) ?_)
  refine bodyPost_ret_by (results_row_tmp rfl _ _ (w.heap.size + 1) 33 _ (0, 0) _ rfl (setRow_heap _ _ _ _ _ _ R1.out) Tryz.underlying33 rfl (by kernel_rfl)) rfl ?_
  exact ⟨rfl, Below.setRow B1.out _ _ (Nat.le_succ _)⟩
set_option maxRecDepth 100000 in
set_option maxHeartbeats 2000000 in
theorem subtract_any (ak an : Int) (aS : ByteArray) (aa : Option Addr) (al ac : Nat) (bk bn : Int) (bS : ByteArray) (ba : Option Addr) (bl bc : Nat) (hn : -9223372036854775808 ≤ an ∧ an ≤ 9223372036854775807) (hm : -9223372036854775808 ≤ bn ∧ bn ≤ 9223372036854775807) (w : World) : Calls Tryz.prog 143 #[.agg (s8 ak an aS aa al ac bk bn bS ba bl bc)] w (OpF (numR (an - bn)) (numE (an - bn)) w) := by
  obtain ⟨b0, r0, q0⟩ := two_alloc w (s8 ak an aS aa al ac bk bn bS ba bl bc) 144
  have B0 := hide b0
  have R0 := hide r0
  clear b0 r0 q0
  go_enter Tryz.func143, Tryz.ntmps143
  go_wp2_with fail
  refine (difference_any an bn hn hm _).mono ?_
  rintro e_ w1 ⟨rfl, hw⟩
  replace hw := hw.symm
  subst hw
  go_wp2_with fail
  refine (number_any _ _).mono ?_
  rintro e_ w1 ⟨rfl, b1⟩
  have B1 := hide (Below.chain B0.out b1)
  have R1 := hide (Below.heap b1 (Array.getElem?_eq_some_iff.1 R0.out).1 R0.out)
  clear b1
  go_wp2_with (refine wpList_store_row rfl 33 (.tmp 2) (.tmp 14) rfl (w.heap.size + 1) (tvC (numR (an - bn)) none 0) rfl rfl 33 ztC R1.out (by kernel_rfl) rfl (by kernel_rfl) ?_)
  refine bodyPost_ret_by (results_row_tmp rfl _ _ (w.heap.size + 1) 33 _ (0, 0) _ rfl (setRow_heap _ _ _ _ _ _ R1.out) Tryz.underlying33 rfl (by kernel_rfl)) rfl ?_
  exact ⟨rfl, Below.setRow B1.out _ _ (Nat.le_succ _)⟩
set_option maxRecDepth 100000 in
set_option maxHeartbeats 2000000 in
theorem multiply_any (ak an : Int) (aS : ByteArray) (aa : Option Addr) (al ac : Nat) (bk bn : Int) (bS : ByteArray) (ba : Option Addr) (bl bc : Nat) (hn : -9223372036854775808 ≤ an ∧ an ≤ 9223372036854775807) (hm : -9223372036854775808 ≤ bn ∧ bn ≤ 9223372036854775807) (w : World) : Calls Tryz.prog 144 #[.agg (s8 ak an aS aa al ac bk bn bS ba bl bc)] w (OpF (numR (an * bn)) (numE (an * bn)) w) := by
  obtain ⟨b0, r0, q0⟩ := two_alloc w (s8 ak an aS aa al ac bk bn bS ba bl bc) 144
  have B0 := hide b0
  have R0 := hide r0
  clear b0 r0 q0
  go_enter Tryz.func144, Tryz.ntmps144
  go_wp2_with fail
  refine (product_any an bn hn hm _).mono ?_
  rintro e_ w1 ⟨rfl, b1⟩
  have B1 := hide (Below.chain B0.out b1)
  have R1 := hide (Below.heap b1 (Array.getElem?_eq_some_iff.1 R0.out).1 R0.out)
  clear b1
  go_wp2_with fail
  refine (number_any _ _).mono ?_
  rintro e_ w2 ⟨rfl, b2⟩
  have B2 := hide (Below.chain B1.out b2)
  have R2 := hide (Below.heap b2 (Array.getElem?_eq_some_iff.1 R1.out).1 R1.out)
  clear b2
  go_wp2_with (refine wpList_store_row rfl 33 (.tmp 2) (.tmp 14) rfl (w.heap.size + 1) (tvC (numR (an * bn)) none 0) rfl rfl 33 ztC R2.out (by kernel_rfl) rfl (by kernel_rfl) ?_)
  refine bodyPost_ret_by (results_row_tmp rfl _ _ (w.heap.size + 1) 33 _ (0, 0) _ rfl (setRow_heap _ _ _ _ _ _ R2.out) Tryz.underlying33 rfl (by kernel_rfl)) rfl ?_
  exact ⟨rfl, Below.setRow B2.out _ _ (Nat.le_succ _)⟩
set_option maxRecDepth 100000 in
set_option maxHeartbeats 2000000 in
theorem divide_any (ak an : Int) (aS : ByteArray) (aa : Option Addr) (al ac : Nat) (bk bn : Int) (bS : ByteArray) (ba : Option Addr) (bl bc : Nat) (hn : -9223372036854775808 ≤ an ∧ an ≤ 9223372036854775807) (hm : -9223372036854775808 ≤ bn ∧ bn ≤ 9223372036854775807) (h0 : bn ≠ 0) (w : World) : Calls Tryz.prog 145 #[.agg (s8 ak an aS aa al ac bk bn bS ba bl bc)] w (OpF (numR (Int.tdiv an bn)) (numE (Int.tdiv an bn)) w) := by
  obtain ⟨b0, r0, q0⟩ := two_alloc w (s8 ak an aS aa al ac bk bn bS ba bl bc) 144
  have B0 := hide b0
  have R0 := hide r0
  clear b0 r0 q0
  go_enter Tryz.func145, Tryz.ntmps145
  go_wp2_with fail
  refine (quotient_any an bn hn hm h0 _).mono ?_
  rintro e_ w1 ⟨rfl, hw⟩
  replace hw := hw.symm
  subst hw
  go_wp2_with fail
  refine (number_any _ _).mono ?_
  rintro e_ w1 ⟨rfl, b1⟩
  have B1 := hide (Below.chain B0.out b1)
  have R1 := hide (Below.heap b1 (Array.getElem?_eq_some_iff.1 R0.out).1 R0.out)
  clear b1
  go_wp2_with (refine wpList_store_row rfl 33 (.tmp 2) (.tmp 14) rfl (w.heap.size + 1) (tvC (numR (Int.tdiv an bn)) none 0) rfl rfl 33 ztC R1.out (by kernel_rfl) rfl (by kernel_rfl) ?_)
  refine bodyPost_ret_by (results_row_tmp rfl _ _ (w.heap.size + 1) 33 _ (0, 0) _ rfl (setRow_heap _ _ _ _ _ _ R1.out) Tryz.underlying33 rfl (by kernel_rfl)) rfl ?_
  exact ⟨rfl, Below.setRow B1.out _ _ (Nat.le_succ _)⟩
set_option maxRecDepth 100000 in
set_option maxHeartbeats 2000000 in
theorem divide_zero (ak an : Int) (aS : ByteArray) (aa : Option Addr) (al ac : Nat) (bk : Int) (bS : ByteArray) (ba : Option Addr) (bl bc : Nat) (w : World) : Calls Tryz.prog 145 #[.agg (s8 ak an aS aa al ac bk 0 bS ba bl bc)] w (OpF zt 6 w) := by
  obtain ⟨b0, r0, q0⟩ := two_alloc w (s8 ak an aS aa al ac bk 0 bS ba bl bc) 144
  have B0 := hide b0
  have R0 := hide r0
  clear b0 r0 q0
  go_enter Tryz.func145, Tryz.ntmps145
  go_wp2_with fail
  refine (quotient_zero an _).mono ?_
  rintro e_ w1 ⟨rfl, hw⟩
  replace hw := hw.symm
  subst hw
  go_wp2_with fail
  refine (number_bad 0 6 rfl _).mono ?_
  rintro e_ w1 ⟨rfl, b1⟩
  have B1 := hide (Below.chain B0.out b1)
  have R1 := hide (Below.heap b1 (Array.getElem?_eq_some_iff.1 R0.out).1 R0.out)
  clear b1
  go_wp2_with (refine wpList_store_row rfl 33 (.tmp 2) (.tmp 14) rfl (w.heap.size + 1) (tvC zt none 0) rfl rfl 33 ztC R1.out (by kernel_rfl) rfl (by kernel_rfl) ?_)
  refine bodyPost_ret_by (results_row_tmp rfl _ _ (w.heap.size + 1) 33 _ (0, 0) _ rfl (setRow_heap _ _ _ _ _ _ R1.out) Tryz.underlying33 rfl (by kernel_rfl)) rfl ?_
  exact ⟨rfl, Below.setRow B1.out _ _ (Nat.le_succ _)⟩
set_option maxRecDepth 100000 in
set_option maxHeartbeats 2000000 in
theorem add_num (ak an : Int) (aS : ByteArray) (aa : Option Addr) (al ac : Nat) (bk bn : Int) (bS : ByteArray) (ba : Option Addr) (bl bc : Nat) (hn : -9223372036854775808 ≤ an ∧ an ≤ 9223372036854775807) (hm : -9223372036854775808 ≤ bn ∧ bn ≤ 9223372036854775807) (h3 : ak ≠ 3) (w : World) : Calls Tryz.prog 141 #[.agg (s8 ak an aS aa al ac bk bn bS ba bl bc)] w (OpF (numR (an + bn)) (numE (an + bn)) w) := by
  obtain ⟨b0, r0, q0⟩ := two_alloc w (s8 ak an aS aa al ac bk bn bS ba bl bc) 144
  have B0 := hide b0
  have R0 := hide r0
  clear b0 r0 q0
  have e3 : (ak != 3) = true := by simpa using h3
  clear h3
  go_enter Tryz.func141, Tryz.ntmps141
  go_wp2_with fail
  refine (sum_any an bn hn hm _).mono ?_
  rintro e_ w1 ⟨rfl, hw⟩
  replace hw := hw.symm
  subst hw
  go_wp2_with fail
  refine (number_any _ _).mono ?_
  rintro e_ w1 ⟨rfl, b1⟩
  have B1 := hide (Below.chain B0.out b1)
  have R1 := hide (Below.heap b1 (Array.getElem?_eq_some_iff.1 R0.out).1 R0.out)
  clear b1
  go_wp2_with (refine wpList_store_row rfl 33 (.tmp 2) (.tmp 18) rfl (w.heap.size + 1) (tvC (numR (an + bn)) none 0) rfl rfl 33 ztC R1.out (by kernel_rfl) rfl (by kernel_rfl) ?_)
  refine bodyPost_ret_by (results_row_tmp rfl _ _ (w.heap.size + 1) 33 _ (0, 0) _ rfl (setRow_heap _ _ _ _ _ _ R1.out) Tryz.underlying33 rfl (by kernel_rfl)) rfl ?_
  exact ⟨rfl, Below.setRow B1.out _ _ (Nat.le_succ _)⟩
set_option maxRecDepth 100000 in
set_option maxHeartbeats 2000000 in
theorem add_long (an : Int) (aS : ByteArray) (aa : Option Addr) (al ac : Nat) (bk bn : Int) (bS : ByteArray) (ba : Option Addr) (bl bc : Nat) (ha : aS.size ≤ 256) (hb : bS.size ≤ 256) (hs : 256 < aS.size + bS.size) (w : World) : Calls Tryz.prog 141 #[.agg (s8 3 an aS aa al ac bk bn bS ba bl bc)] w (OpF zt 4 w) := by
  obtain ⟨b0, r0, q0⟩ := two_alloc w (s8 3 an aS aa al ac bk bn bS ba bl bc) 144
  have B0 := hide b0
  have R0 := hide r0
  clear b0 r0 q0
  have ha9 : (aS.size : Int) ≤ 256 := by omega
  have hb9 : (bS.size : Int) ≤ 256 := by omega
  have hd : decide ((256 : Int) < (aS.size : Int) + (bS.size : Int)) = true := decide_eq_true (by omega)
  clear hs ha hb
  go_enter Tryz.func141, Tryz.ntmps141
  go_wp2_with (refine wpList_store_row rfl 33 (.tmp 2) (.tmp 30) rfl (w.heap.size + 1) (tvC zt none 0) rfl rfl 33 ztC R0.out (by kernel_rfl) rfl (by kernel_rfl) ?_)
  refine bodyPost_ret_by (results_row_tmp rfl _ _ (w.heap.size + 1) 33 _ (0, 0) _ rfl (setRow_heap _ _ _ _ _ _ R0.out) Tryz.underlying33 rfl (by kernel_rfl)) rfl ?_
  exact ⟨rfl, Below.setRow B0.out _ _ (Nat.le_succ _)⟩
set_option maxRecDepth 100000 in
set_option maxHeartbeats 2000000 in
theorem add_text (an : Int) (aS : ByteArray) (aa : Option Addr) (al ac : Nat) (bk bn : Int) (bS : ByteArray) (ba : Option Addr) (bl bc : Nat) (ha : aS.size ≤ 256) (hb : bS.size ≤ 256) (hs : ¬ 256 < aS.size + bS.size) (w : World) : Calls Tryz.prog 141 #[.agg (s8 3 an aS aa al ac bk bn bS ba bl bc)] w (OpF (textT (aS ++ bS)) 0 w) := by
  obtain ⟨b0, r0, q0⟩ := two_alloc w (s8 3 an aS aa al ac bk bn bS ba bl bc) 144
  have B0 := hide b0
  have R0 := hide r0
  clear b0 r0 q0
  have ha9 : (aS.size : Int) ≤ 256 := by omega
  have hb9 : (bS.size : Int) ≤ 256 := by omega
  have hd : decide ((256 : Int) < (aS.size : Int) + (bS.size : Int)) = false := decide_eq_false (by omega)
  clear hs ha hb
  go_enter Tryz.func141, Tryz.ntmps141
  go_wp2_with (refine wpList_store_row rfl 33 (.tmp 2) (.tmp 38) rfl (w.heap.size + 1) (tvC (textT (aS ++ bS)) none 0) rfl rfl 33 ztC R0.out (by kernel_rfl) rfl (by kernel_rfl) ?_)
  refine bodyPost_ret_by (results_row_tmp rfl _ _ (w.heap.size + 1) 33 _ (0, 0) _ rfl (setRow_heap _ _ _ _ _ _ R0.out) Tryz.underlying33 rfl (by kernel_rfl)) rfl ?_
  exact ⟨rfl, Below.setRow B0.out _ _ (Nat.le_succ _)⟩
set_option maxRecDepth 100000 in
set_option maxHeartbeats 2000000 in
theorem starts_any (ak an : Int) (aS : ByteArray) (aa : Option Addr) (al ac : Nat) (bk bn : Int) (bS : ByteArray) (ba : Option Addr) (bl bc : Nat) (w : World) : Calls Tryz.prog 149 #[.agg (s8 ak an aS aa al ac bk bn bS ba bl bc)] w (OpF (trueT (Lib.hasPrefix aS.data.toList bS.data.toList)) 0 w) := by
  obtain ⟨b0, r0, q0⟩ := two_alloc w (s8 ak an aS aa al ac bk bn bS ba bl bc) 144
  have B0 := hide b0
  have R0 := hide r0
  clear b0 r0 q0
  go_enter Tryz.func149, Tryz.ntmps149
  go_wp2_with fail
  refine (Tryz.strings_HasPrefix aS bS _).mono ?_
  rintro e_ w1 ⟨rfl, hw⟩
  replace hw := hw.symm
  subst hw
  go_wp2_with fail
  refine (truth_any _ _).mono ?_
  rintro e_ w1 ⟨rfl, b1⟩
  have B1 := hide (Below.chain B0.out b1)
  have R1 := hide (Below.heap b1 (Array.getElem?_eq_some_iff.1 R0.out).1 R0.out)
  clear b1
  go_wp2_with (refine wpList_store_row rfl 33 (.tmp 2) (.tmp 12) rfl (w.heap.size + 1) (tvC (trueT (Lib.hasPrefix aS.data.toList bS.data.toList)) none 0) rfl rfl 33 ztC R1.out (by kernel_rfl) rfl (by kernel_rfl) ?_)
  refine bodyPost_ret_by (results_row_tmp rfl _ _ (w.heap.size + 1) 33 _ (0, 0) _ rfl (setRow_heap _ _ _ _ _ _ R1.out) Tryz.underlying33 rfl (by kernel_rfl)) rfl ?_
  exact ⟨rfl, Below.setRow B1.out _ _ (Nat.le_succ _)⟩
set_option maxRecDepth 100000 in
set_option maxHeartbeats 2000000 in
theorem ends_any (ak an : Int) (aS : ByteArray) (aa : Option Addr) (al ac : Nat) (bk bn : Int) (bS : ByteArray) (ba : Option Addr) (bl bc : Nat) (hs : aS.size ≤ 9223372036854775807) (w : World) : Calls Tryz.prog 150 #[.agg (s8 ak an aS aa al ac bk bn bS ba bl bc)] w (OpF (trueT (Lib.hasSuffix aS.data.toList bS.data.toList)) 0 w) := by
  obtain ⟨b0, r0, q0⟩ := two_alloc w (s8 ak an aS aa al ac bk bn bS ba bl bc) 144
  have B0 := hide b0
  have R0 := hide r0
  clear b0 r0 q0
  go_enter Tryz.func150, Tryz.ntmps150
  go_wp2_with fail
  refine (Tryz.strings_HasSuffix aS bS _ hs).mono ?_
  rintro e_ w1 ⟨rfl, hw⟩
  replace hw := hw.symm
  subst hw
  go_wp2_with fail
  refine (truth_any _ _).mono ?_
  rintro e_ w1 ⟨rfl, b1⟩
  have B1 := hide (Below.chain B0.out b1)
  have R1 := hide (Below.heap b1 (Array.getElem?_eq_some_iff.1 R0.out).1 R0.out)
  clear b1
  go_wp2_with (refine wpList_store_row rfl 33 (.tmp 2) (.tmp 12) rfl (w.heap.size + 1) (tvC (trueT (Lib.hasSuffix aS.data.toList bS.data.toList)) none 0) rfl rfl 33 ztC R1.out (by kernel_rfl) rfl (by kernel_rfl) ?_)
  refine bodyPost_ret_by (results_row_tmp rfl _ _ (w.heap.size + 1) 33 _ (0, 0) _ rfl (setRow_heap _ _ _ _ _ _ R1.out) Tryz.underlying33 rfl (by kernel_rfl)) rfl ?_
  exact ⟨rfl, Below.setRow B1.out _ _ (Nat.le_succ _)⟩
set_option maxRecDepth 100000 in
set_option maxHeartbeats 2000000 in
theorem andBits_any (ak an : Int) (aS : ByteArray) (aa : Option Addr) (al ac : Nat) (bk bn : Int) (bS : ByteArray) (ba : Option Addr) (bl bc : Nat) (w : World) : Calls Tryz.prog 156 #[.agg (s8 ak an aS aa al ac bk bn bS ba bl bc)] w (OpF (numT (bits .and .i64 an bn)) 0 w) := by
  obtain ⟨b0, r0, q0⟩ := two_alloc w (s8 ak an aS aa al ac bk bn bS ba bl bc) 144
  have B0 := hide b0
  have R0 := hide r0
  clear b0 r0 q0
  go_enter Tryz.func156, Tryz.ntmps156
  go_wp2_with fail
  refine (number_ok _ _).mono ?_
  rintro e_ w1 ⟨rfl, b1⟩
  have B1 := hide (Below.chain B0.out b1)
  have R1 := hide (Below.heap b1 (Array.getElem?_eq_some_iff.1 R0.out).1 R0.out)
  clear b1
  go_wp2_with (refine wpList_store_row rfl 33 (.tmp 2) (.tmp 12) rfl (w.heap.size + 1) (tvC (numT (bits .and .i64 an bn)) none 0) rfl rfl 33 ztC R1.out (by kernel_rfl) rfl (by kernel_rfl) ?_)
  refine bodyPost_ret_by (results_row_tmp rfl _ _ (w.heap.size + 1) 33 _ (0, 0) _ rfl (setRow_heap _ _ _ _ _ _ R1.out) Tryz.underlying33 rfl (by kernel_rfl)) rfl ?_
  exact ⟨rfl, Below.setRow B1.out _ _ (Nat.le_succ _)⟩
set_option maxRecDepth 100000 in
set_option maxHeartbeats 2000000 in
theorem orBits_any (ak an : Int) (aS : ByteArray) (aa : Option Addr) (al ac : Nat) (bk bn : Int) (bS : ByteArray) (ba : Option Addr) (bl bc : Nat) (w : World) : Calls Tryz.prog 157 #[.agg (s8 ak an aS aa al ac bk bn bS ba bl bc)] w (OpF (numT (bits .or .i64 an bn)) 0 w) := by
  obtain ⟨b0, r0, q0⟩ := two_alloc w (s8 ak an aS aa al ac bk bn bS ba bl bc) 144
  have B0 := hide b0
  have R0 := hide r0
  clear b0 r0 q0
  go_enter Tryz.func157, Tryz.ntmps157
  go_wp2_with fail
  refine (number_ok _ _).mono ?_
  rintro e_ w1 ⟨rfl, b1⟩
  have B1 := hide (Below.chain B0.out b1)
  have R1 := hide (Below.heap b1 (Array.getElem?_eq_some_iff.1 R0.out).1 R0.out)
  clear b1
  go_wp2_with (refine wpList_store_row rfl 33 (.tmp 2) (.tmp 12) rfl (w.heap.size + 1) (tvC (numT (bits .or .i64 an bn)) none 0) rfl rfl 33 ztC R1.out (by kernel_rfl) rfl (by kernel_rfl) ?_)
  refine bodyPost_ret_by (results_row_tmp rfl _ _ (w.heap.size + 1) 33 _ (0, 0) _ rfl (setRow_heap _ _ _ _ _ _ R1.out) Tryz.underlying33 rfl (by kernel_rfl)) rfl ?_
  exact ⟨rfl, Below.setRow B1.out _ _ (Nat.le_succ _)⟩
set_option maxRecDepth 100000 in
set_option maxHeartbeats 2000000 in
theorem xorBits_any (ak an : Int) (aS : ByteArray) (aa : Option Addr) (al ac : Nat) (bk bn : Int) (bS : ByteArray) (ba : Option Addr) (bl bc : Nat) (w : World) : Calls Tryz.prog 158 #[.agg (s8 ak an aS aa al ac bk bn bS ba bl bc)] w (OpF (numT (bits .xor .i64 an bn)) 0 w) := by
  obtain ⟨b0, r0, q0⟩ := two_alloc w (s8 ak an aS aa al ac bk bn bS ba bl bc) 144
  have B0 := hide b0
  have R0 := hide r0
  clear b0 r0 q0
  go_enter Tryz.func158, Tryz.ntmps158
  go_wp2_with fail
  refine (number_ok _ _).mono ?_
  rintro e_ w1 ⟨rfl, b1⟩
  have B1 := hide (Below.chain B0.out b1)
  have R1 := hide (Below.heap b1 (Array.getElem?_eq_some_iff.1 R0.out).1 R0.out)
  clear b1
  go_wp2_with (refine wpList_store_row rfl 33 (.tmp 2) (.tmp 12) rfl (w.heap.size + 1) (tvC (numT (bits .xor .i64 an bn)) none 0) rfl rfl 33 ztC R1.out (by kernel_rfl) rfl (by kernel_rfl) ?_)
  refine bodyPost_ret_by (results_row_tmp rfl _ _ (w.heap.size + 1) 33 _ (0, 0) _ rfl (setRow_heap _ _ _ _ _ _ R1.out) Tryz.underlying33 rfl (by kernel_rfl)) rfl ?_
  exact ⟨rfl, Below.setRow B1.out _ _ (Nat.le_succ _)⟩
set_option maxRecDepth 100000 in
set_option maxHeartbeats 2000000 in
theorem not_any (an : Int) (aS : ByteArray) (aa : Option Addr) (al ac : Nat) (w : World) : Calls Tryz.prog 129 #[.agg #[.int .i64 6, .int .i64 an, .string aS, .slice aa al ac]] w (OpF (trueT (an == 0)) 0 w) := by
  obtain ⟨b0, r0, q0⟩ := two_alloc w #[.int .i64 6, .int .i64 an, .string aS, .slice aa al ac] 133
  have B0 := hide b0
  have R0 := hide r0
  clear b0 r0 q0
  go_enter Tryz.func129, Tryz.ntmps129
  go_wp2_with fail
  refine (truth_any _ _).mono ?_
  rintro e_ w1 ⟨rfl, b1⟩
  have B1 := hide (Below.chain B0.out b1)
  have R1 := hide (Below.heap b1 (Array.getElem?_eq_some_iff.1 R0.out).1 R0.out)
  clear b1
  go_wp2_with (refine wpList_store_row rfl 33 (.tmp 2) (.tmp 12) rfl (w.heap.size + 1) (tvC (trueT (an == 0)) none 0) rfl rfl 33 ztC R1.out (by kernel_rfl) rfl (by kernel_rfl) ?_)
  refine bodyPost_ret_by (results_row_tmp rfl _ _ (w.heap.size + 1) 33 _ (0, 0) _ rfl (setRow_heap _ _ _ _ _ _ R1.out) Tryz.underlying33 rfl (by kernel_rfl)) rfl ?_
  exact ⟨rfl, Below.setRow B1.out _ _ (Nat.le_succ _)⟩
set_option maxRecDepth 100000 in
set_option maxHeartbeats 2000000 in
theorem not_bad (ak an : Int) (aS : ByteArray) (aa : Option Addr) (al ac : Nat) (h6 : ak ≠ 6) (w : World) : Calls Tryz.prog 129 #[.agg #[.int .i64 ak, .int .i64 an, .string aS, .slice aa al ac]] w (OpF zt 7 w) := by
  obtain ⟨b0, r0, q0⟩ := two_alloc w #[.int .i64 ak, .int .i64 an, .string aS, .slice aa al ac] 133
  have B0 := hide b0
  have R0 := hide r0
  clear b0 r0 q0
  have e6 : (ak != 6) = true := by simpa using h6
  clear h6
  go_enter Tryz.func129, Tryz.ntmps129
  go_wp2_with (refine wpList_store_row rfl 33 (.tmp 2) (.tmp 7) rfl (w.heap.size + 1) (tvC zt none 0) rfl rfl 33 ztC R0.out (by kernel_rfl) rfl (by kernel_rfl) ?_)
  refine bodyPost_ret_by (results_row_tmp rfl _ _ (w.heap.size + 1) 33 _ (0, 0) _ rfl (setRow_heap _ _ _ _ _ _ R0.out) Tryz.underlying33 rfl (by kernel_rfl)) rfl ?_
  exact ⟨rfl, Below.setRow B0.out _ _ (Nat.le_succ _)⟩
set_option maxRecDepth 100000 in
set_option maxHeartbeats 2000000 in
theorem neg_any (an : Int) (aS : ByteArray) (aa : Option Addr) (al ac : Nat) (hn : -9223372036854775808 ≤ an ∧ an ≤ 9223372036854775807) (w : World) : Calls Tryz.prog 130 #[.agg #[.int .i64 2, .int .i64 an, .string aS, .slice aa al ac]] w (OpF (numR (-an)) (numE (-an)) w) := by
  obtain ⟨b0, r0, q0⟩ := two_alloc w #[.int .i64 2, .int .i64 an, .string aS, .slice aa al ac] 133
  have B0 := hide b0
  have R0 := hide r0
  clear b0 r0 q0
  go_enter Tryz.func130, Tryz.ntmps130
  go_wp2_with fail
  refine (negative_any an hn _).mono ?_
  rintro e_ w1 ⟨rfl, hw⟩
  replace hw := hw.symm
  subst hw
  go_wp2_with fail
  refine (number_any _ _).mono ?_
  rintro e_ w1 ⟨rfl, b1⟩
  have B1 := hide (Below.chain B0.out b1)
  have R1 := hide (Below.heap b1 (Array.getElem?_eq_some_iff.1 R0.out).1 R0.out)
  clear b1
  go_wp2_with (refine wpList_store_row rfl 33 (.tmp 2) (.tmp 14) rfl (w.heap.size + 1) (tvC (numR (-an)) none 0) rfl rfl 33 ztC R1.out (by kernel_rfl) rfl (by kernel_rfl) ?_)
  refine bodyPost_ret_by (results_row_tmp rfl _ _ (w.heap.size + 1) 33 _ (0, 0) _ rfl (setRow_heap _ _ _ _ _ _ R1.out) Tryz.underlying33 rfl (by kernel_rfl)) rfl ?_
  exact ⟨rfl, Below.setRow B1.out _ _ (Nat.le_succ _)⟩
set_option maxRecDepth 100000 in
set_option maxHeartbeats 2000000 in
theorem neg_bad (ak an : Int) (aS : ByteArray) (aa : Option Addr) (al ac : Nat) (h2 : ak ≠ 2) (w : World) : Calls Tryz.prog 130 #[.agg #[.int .i64 ak, .int .i64 an, .string aS, .slice aa al ac]] w (OpF zt 7 w) := by
  obtain ⟨b0, r0, q0⟩ := two_alloc w #[.int .i64 ak, .int .i64 an, .string aS, .slice aa al ac] 133
  have B0 := hide b0
  have R0 := hide r0
  clear b0 r0 q0
  have e2 : (ak != 2) = true := by simpa using h2
  clear h2
  go_enter Tryz.func130, Tryz.ntmps130
  go_wp2_with (refine wpList_store_row rfl 33 (.tmp 2) (.tmp 7) rfl (w.heap.size + 1) (tvC zt none 0) rfl rfl 33 ztC R0.out (by kernel_rfl) rfl (by kernel_rfl) ?_)
  refine bodyPost_ret_by (results_row_tmp rfl _ _ (w.heap.size + 1) 33 _ (0, 0) _ rfl (setRow_heap _ _ _ _ _ _ R0.out) Tryz.underlying33 rfl (by kernel_rfl)) rfl ?_
  exact ⟨rfl, Below.setRow B0.out _ _ (Nat.le_succ _)⟩
set_option maxRecDepth 100000 in
set_option maxHeartbeats 2000000 in
theorem len3_any (an : Int) (aS : ByteArray) (aa : Option Addr) (al ac : Nat) (w : World) : Calls Tryz.prog 131 #[.agg #[.int .i64 3, .int .i64 an, .string aS, .slice aa al ac]] w (OpF (numT (aS.size : Int)) 0 w) := by
  obtain ⟨b0, r0, q0⟩ := two_alloc w #[.int .i64 3, .int .i64 an, .string aS, .slice aa al ac] 133
  have B0 := hide b0
  have R0 := hide r0
  clear b0 r0 q0
  go_enter Tryz.func131, Tryz.ntmps131
  go_wp2_with fail
  refine (number_ok _ _).mono ?_
  rintro e_ w1 ⟨rfl, b1⟩
  have B1 := hide (Below.chain B0.out b1)
  have R1 := hide (Below.heap b1 (Array.getElem?_eq_some_iff.1 R0.out).1 R0.out)
  clear b1
  go_wp2_with (refine wpList_store_row rfl 33 (.tmp 2) (.tmp 13) rfl (w.heap.size + 1) (tvC (numT (aS.size : Int)) none 0) rfl rfl 33 ztC R1.out (by kernel_rfl) rfl (by kernel_rfl) ?_)
  refine bodyPost_ret_by (results_row_tmp rfl _ _ (w.heap.size + 1) 33 _ (0, 0) _ rfl (setRow_heap _ _ _ _ _ _ R1.out) Tryz.underlying33 rfl (by kernel_rfl)) rfl ?_
  exact ⟨rfl, Below.setRow B1.out _ _ (Nat.le_succ _)⟩
set_option maxRecDepth 100000 in
set_option maxHeartbeats 2000000 in
theorem len5_any (an : Int) (aS : ByteArray) (aa : Option Addr) (al ac : Nat) (w : World) : Calls Tryz.prog 131 #[.agg #[.int .i64 5, .int .i64 an, .string aS, .slice aa al ac]] w (OpF (numT (aS.size : Int)) 0 w) := by
  obtain ⟨b0, r0, q0⟩ := two_alloc w #[.int .i64 5, .int .i64 an, .string aS, .slice aa al ac] 133
  have B0 := hide b0
  have R0 := hide r0
  clear b0 r0 q0
  go_enter Tryz.func131, Tryz.ntmps131
  go_wp2_with fail
  refine (number_ok _ _).mono ?_
  rintro e_ w1 ⟨rfl, b1⟩
  have B1 := hide (Below.chain B0.out b1)
  have R1 := hide (Below.heap b1 (Array.getElem?_eq_some_iff.1 R0.out).1 R0.out)
  clear b1
  go_wp2_with (refine wpList_store_row rfl 33 (.tmp 2) (.tmp 13) rfl (w.heap.size + 1) (tvC (numT (aS.size : Int)) none 0) rfl rfl 33 ztC R1.out (by kernel_rfl) rfl (by kernel_rfl) ?_)
  refine bodyPost_ret_by (results_row_tmp rfl _ _ (w.heap.size + 1) 33 _ (0, 0) _ rfl (setRow_heap _ _ _ _ _ _ R1.out) Tryz.underlying33 rfl (by kernel_rfl)) rfl ?_
  exact ⟨rfl, Below.setRow B1.out _ _ (Nat.le_succ _)⟩
set_option maxRecDepth 100000 in
set_option maxHeartbeats 2000000 in
theorem len7_any (an : Int) (aS : ByteArray) (aa : Option Addr) (al ac : Nat) (w : World) : Calls Tryz.prog 131 #[.agg #[.int .i64 7, .int .i64 an, .string aS, .slice aa al ac]] w (OpF (numT (al : Int)) 0 w) := by
  obtain ⟨b0, r0, q0⟩ := two_alloc w #[.int .i64 7, .int .i64 an, .string aS, .slice aa al ac] 133
  have B0 := hide b0
  have R0 := hide r0
  clear b0 r0 q0
  go_enter Tryz.func131, Tryz.ntmps131
  go_wp2_with fail
  refine (number_ok _ _).mono ?_
  rintro e_ w1 ⟨rfl, b1⟩
  have B1 := hide (Below.chain B0.out b1)
  have R1 := hide (Below.heap b1 (Array.getElem?_eq_some_iff.1 R0.out).1 R0.out)
  clear b1
  go_wp2_with (refine wpList_store_row rfl 33 (.tmp 2) (.tmp 21) rfl (w.heap.size + 1) (tvC (numT (al : Int)) none 0) rfl rfl 33 ztC R1.out (by kernel_rfl) rfl (by kernel_rfl) ?_)
  refine bodyPost_ret_by (results_row_tmp rfl _ _ (w.heap.size + 1) 33 _ (0, 0) _ rfl (setRow_heap _ _ _ _ _ _ R1.out) Tryz.underlying33 rfl (by kernel_rfl)) rfl ?_
  exact ⟨rfl, Below.setRow B1.out _ _ (Nat.le_succ _)⟩
set_option maxRecDepth 100000 in
set_option maxHeartbeats 2000000 in
theorem len_bad (ak an : Int) (aS : ByteArray) (aa : Option Addr) (al ac : Nat) (h3 : ak ≠ 3) (h5 : ak ≠ 5) (h7 : ak ≠ 7) (w : World) : Calls Tryz.prog 131 #[.agg #[.int .i64 ak, .int .i64 an, .string aS, .slice aa al ac]] w (OpF zt 7 w) := by
  obtain ⟨b0, r0, q0⟩ := two_alloc w #[.int .i64 ak, .int .i64 an, .string aS, .slice aa al ac] 133
  have B0 := hide b0
  have R0 := hide r0
  clear b0 r0 q0
  have e3 : (ak == 3) = false := by simpa using h3
  have e5 : (ak == 5) = false := by simpa using h5
  have e7 : (ak == 7) = false := by simpa using h7
  clear h3 h5 h7
  go_enter Tryz.func131, Tryz.ntmps131
  go_wp2_with (refine wpList_store_row rfl 33 (.tmp 2) (.tmp 23) rfl (w.heap.size + 1) (tvC zt none 0) rfl rfl 33 ztC R0.out (by kernel_rfl) rfl (by kernel_rfl) ?_)
  refine bodyPost_ret_by (results_row_tmp rfl _ _ (w.heap.size + 1) 33 _ (0, 0) _ rfl (setRow_heap _ _ _ _ _ _ R0.out) Tryz.underlying33 rfl (by kernel_rfl)) rfl ?_
  exact ⟨rfl, Below.setRow B0.out _ _ (Nat.le_succ _)⟩
end Go.Proofs.YteiacgpaocnofaaGreat
