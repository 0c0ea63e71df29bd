/- Operations of terms held against one another, of parts: the program's calls. -/
import Derived.Test.YteiacgpaocnofaaGreatOp1
namespace Go.Proofs.YteiacgpaocnofaaGreat
open Go.RowKit
/-- The library's own variable holds some number. -/
def MaxL (w : World) : Prop := ∃ m, w.cell? ⟨0, 0, none⟩ = some (.int .i64 m)
theorem MaxL.ext {W w : World} (h : MaxL W) (he : Below W.heap.size W w) : MaxL w := by
  obtain ⟨m, hm⟩ := h
  exact ⟨m, (Below.cell (p := ⟨0, 0, none⟩) he (World.block_lt_of_cell? W _ hm)).trans hm⟩
set_option maxRecDepth 100000 in
set_option maxHeartbeats 2000000 in
theorem same_any {a b : Tm} {a1 : Option Addr} {c1 : Nat} {a2 : Option Addr} {c2 : Nat} {w : World} (ha : TAt w a a1 c1) (hb : TAt w b a2 c2) : Calls Tryz.prog 138 #[sv a a1 c1 b a2 c2] w (OpF (trueT (cp a b == 0)) 0 w) := by
  obtain ⟨b0, r0, q0⟩ := two_alloc w (s8 a.k a.n a.s a1 a.l.length c1 b.k b.n b.s a2 b.l.length c2) 144
  have B0 := hide b0
  have R0 := hide r0
  have HC := hide (Same_any (ha.ext b0) (hb.ext b0))
  clear b0 r0 q0 ha hb
  unfold tv at HC
  unfold sv
  generalize (cp a b == 0) = CC at *
  generalize a.k = ak at *
  generalize a.n = an at *
  generalize a.s = aS at *
  generalize a.l.length = al at *
  generalize b.k = bk at *
  generalize b.n = bn at *
  generalize b.s = bS at *
  generalize b.l.length = bl at *
  go_enter Tryz.func138, Tryz.ntmps138
  go_wp2_with fail
  refine HC.out.mono ?_
  rintro e_ w1 ⟨rfl, b1⟩
  have B1 := hide (Below.chain B0.out b1)
  have R1 := hide (Below.heap b1 (Array.getElem?_eq_some_iff.1 R0.out).1 R0.out)
  clear b1
  go_wp2_with fail
  refine (truth_any _ _).mono ?_
  rintro e_ w2 ⟨rfl, b2⟩
  have B2 := hide (Below.chain B1.out b2)
  have R2 := hide (Below.heap b2 (Array.getElem?_eq_some_iff.1 R1.out).1 R1.out)
  clear b2
  go_wp2_with (refine wpList_store_row rfl 33 (.tmp 2) (.tmp 10) rfl (w.heap.size + 1) (tvC (trueT (CC)) none 0) rfl rfl 33 ztC R2.out (by kernel_rfl) rfl (by kernel_rfl) ?_)
  refine bodyPost_ret_by (results_row_tmp rfl _ _ (w.heap.size + 1) 33 _ (0, 0) _ rfl (setRow_heap _ _ _ _ _ _ R2.out) Tryz.underlying33 rfl (by kernel_rfl)) rfl ?_
  exact ⟨rfl, Below.setRow B2.out _ _ (Nat.le_succ _)⟩
set_option maxRecDepth 100000 in
set_option maxHeartbeats 2000000 in
theorem other_any {a b : Tm} {a1 : Option Addr} {c1 : Nat} {a2 : Option Addr} {c2 : Nat} {w : World} (ha : TAt w a a1 c1) (hb : TAt w b a2 c2) : Calls Tryz.prog 139 #[sv a a1 c1 b a2 c2] w (OpF (trueT (!(cp a b == 0))) 0 w) := by
  obtain ⟨b0, r0, q0⟩ := two_alloc w (s8 a.k a.n a.s a1 a.l.length c1 b.k b.n b.s a2 b.l.length c2) 144
  have B0 := hide b0
  have R0 := hide r0
  have HC := hide (Same_any (ha.ext b0) (hb.ext b0))
  clear b0 r0 q0 ha hb
  unfold tv at HC
  unfold sv
  generalize (cp a b == 0) = CC at *
  generalize a.k = ak at *
  generalize a.n = an at *
  generalize a.s = aS at *
  generalize a.l.length = al at *
  generalize b.k = bk at *
  generalize b.n = bn at *
  generalize b.s = bS at *
  generalize b.l.length = bl at *
  go_enter Tryz.func139, Tryz.ntmps139
  go_wp2_with fail
  refine HC.out.mono ?_
  rintro e_ w1 ⟨rfl, b1⟩
  have B1 := hide (Below.chain B0.out b1)
  have R1 := hide (Below.heap b1 (Array.getElem?_eq_some_iff.1 R0.out).1 R0.out)
  clear b1
  go_wp2_with fail
  refine (truth_any _ _).mono ?_
  rintro e_ w2 ⟨rfl, b2⟩
  have B2 := hide (Below.chain B1.out b2)
  have R2 := hide (Below.heap b2 (Array.getElem?_eq_some_iff.1 R1.out).1 R1.out)
  clear b2
  go_wp2_with (refine wpList_store_row rfl 33 (.tmp 2) (.tmp 11) rfl (w.heap.size + 1) (tvC (trueT (!CC)) none 0) rfl rfl 33 ztC R2.out (by kernel_rfl) rfl (by kernel_rfl) ?_)
  refine bodyPost_ret_by (results_row_tmp rfl _ _ (w.heap.size + 1) 33 _ (0, 0) _ rfl (setRow_heap _ _ _ _ _ _ R2.out) Tryz.underlying33 rfl (by kernel_rfl)) rfl ?_
  exact ⟨rfl, Below.setRow B2.out _ _ (Nat.le_succ _)⟩
set_option maxRecDepth 100000 in
set_option maxHeartbeats 2000000 in
theorem contains_text (an : Int) (aS : ByteArray) (aa : Option Addr) (al ac : Nat) (bk bn : Int) (bS : ByteArray) (ba : Option Addr) (bl bc : Nat) (hs : aS.size ≤ 4294967280) {w : World} (h : MaxL w) : Calls Tryz.prog 147 #[.agg (s8 3 an aS aa al ac bk bn bS ba bl bc)] w (OpF (trueT (Lib.contains aS.data.toList bS.data.toList)) 0 w) := by
  obtain ⟨b0, r0, q0⟩ := two_alloc w (s8 3 an aS aa al ac bk bn bS ba bl bc) 144
  obtain ⟨m, hm⟩ := h.ext b0
  have HC := hide (Tryz.strings_Contains aS bS m _ (by omega) hm)
  have B0 := hide b0
  have R0 := hide r0
  clear b0 r0 q0 h hm hs
  go_enter Tryz.func147, Tryz.ntmps147
  go_wp2_with fail
  refine HC.out.mono ?_
  rintro e_ w1 ⟨rfl, hw⟩
  replace hw := hw.symm
  subst hw
  go_wp2_with fail
  refine (truth_any _ _).mono ?_
  rintro e_ w1 ⟨rfl, b1⟩
  have B1 := hide (Below.chain B0.out b1)
  have R1 := hide (Below.heap b1 (Array.getElem?_eq_some_iff.1 R0.out).1 R0.out)
  clear b1
  go_wp2_with (refine wpList_store_row rfl 33 (.tmp 2) (.tmp 17) rfl (w.heap.size + 1) (tvC (trueT (Lib.contains aS.data.toList bS.data.toList)) none 0) rfl rfl 33 ztC R1.out (by kernel_rfl) rfl (by kernel_rfl) ?_)
  refine bodyPost_ret_by (results_row_tmp rfl _ _ (w.heap.size + 1) 33 _ (0, 0) _ rfl (setRow_heap _ _ _ _ _ _ R1.out) Tryz.underlying33 rfl (by kernel_rfl)) rfl ?_
  exact ⟨rfl, Below.setRow B1.out _ _ (Nat.le_succ _)⟩
set_option maxRecDepth 100000 in
set_option maxHeartbeats 2000000 in
theorem contains_one {a b : Tm} {a1 : Option Addr} {c1 : Nat} {a2 : Option Addr} {c2 : Nat} {w : World} (ha : TAt w a a1 c1) (hb : TAt w b a2 c2) (h3 : a.k ≠ 3) (h7 : b.k ≠ 7) : Calls Tryz.prog 147 #[sv a a1 c1 b a2 c2] w (OpF (trueT (hasT a b)) 0 w) := by
  obtain ⟨b0, r0, q0⟩ := two_alloc w (s8 a.k a.n a.s a1 a.l.length c1 b.k b.n b.s a2 b.l.length c2) 144
  have B0 := hide b0
  have R0 := hide r0
  have HC := hide (Has_any (ha.ext b0) (hb.ext b0))
  clear b0 r0 q0 ha hb
  unfold tv at HC
  unfold sv
  generalize hasT a b = CC at *
  generalize a.k = ak at *
  generalize a.n = an at *
  generalize a.s = aS at *
  generalize a.l.length = al at *
  generalize b.k = bk at *
  generalize b.n = bn at *
  generalize b.s = bS at *
  generalize b.l.length = bl at *
  have e3 : (ak == 3) = false := by simpa using h3
  have e7 : (bk == 7) = false := by simpa using h7
  clear h3 h7
  go_enter Tryz.func147, Tryz.ntmps147
  go_wp2_with fail
  refine HC.out.mono ?_
  rintro e_ w1 ⟨rfl, b1⟩
  have B1 := hide (Below.chain B0.out b1)
  have R1 := hide (Below.heap b1 (Array.getElem?_eq_some_iff.1 R0.out).1 R0.out)
  clear b1
  go_wp2_with fail
  refine (truth_any _ _).mono ?_
  rintro e_ w2 ⟨rfl, b2⟩
  have B2 := hide (Below.chain B1.out b2)
  have R2 := hide (Below.heap b2 (Array.getElem?_eq_some_iff.1 R1.out).1 R1.out)
  clear b2
  go_wp2_with (refine wpList_store_row rfl 33 (.tmp 2) (.tmp 40) rfl (w.heap.size + 1) (tvC (trueT CC) none 0) rfl rfl 33 ztC R2.out (by kernel_rfl) rfl (by kernel_rfl) ?_)
  refine bodyPost_ret_by (results_row_tmp rfl _ _ (w.heap.size + 1) 33 _ (0, 0) _ rfl (setRow_heap _ _ _ _ _ _ R2.out) Tryz.underlying33 rfl (by kernel_rfl)) rfl ?_
  exact ⟨rfl, Below.setRow B2.out _ _ (Nat.le_succ _)⟩
end Go.Proofs.YteiacgpaocnofaaGreat
