/- The rounds: what fold answers, where the table of constants lies as the text lays it. -/
import Derived.Test.YtjkcjlhcfkapkaaDoorSpread
import Derived.Deep.QuietTactic
import Derived.BigQuiet
namespace Go.Proofs.YtjkcjlhcfkapkaaDoor
open Go.RowKit
/-- The two tables lie where the program's text lays them. -/
def Tabs (w : World) : Prop := w.rangeAt 0 0 (h0w.map wc) ∧ w.rangeAt 1 0 (kw.map wc) ∧ 2 ≤ w.heap.size
theorem Tabs.below {B : Nat} {w w' : World} (h : Tabs w) (hb : Below B w w') (hB : 2 ≤ B) : Tabs w' :=
  ⟨fun j v hv => (hb.cell (by simp; omega)).trans (h.1 j v hv), fun j v hv => (hb.cell (by simp; omega)).trans (h.2.1 j v hv), Nat.le_trans h.2.2 hb.size⟩
theorem Tabs.k {w : World} (h : Tabs w) (i : Nat) (hi : i < 80) : w.cell? ⟨1, i, none⟩ = some (.int .u64 (wn (kw.getD i 0))) := by
  have := h.2.1 i (wc (kw.getD i 0)) (by rw [List.getElem?_map, List.getD_eq_getElem?_getD, List.getElem?_eq_getElem (show i < kw.length from hi)]; rfl)
  simpa [wc] using this
theorem zero35 (w : World) : (zeroValue 35).run Tryd.prog w = .ok (.agg (wa [0, 0, 0, 0, 0, 0, 0, 0])) w := by kernel_rfl
theorem size35 : (Tryd.prog.info? 35).map (·.size) = some 8 := by kernel_rfl
theorem und35 : Tryd.prog.underlying 35 = some (.array 8 30) := by kernel_rfl
theorem size30 : (Tryd.prog.info? 30).map (·.size) = some 1 := by kernel_rfl
theorem heap_drewN (w : World) (n : Nat) : (w.drewN n).heap = w.heap := rfl
theorem heap_alloc_first3 (w : World) (a b c : Obj) : (((w.alloc a).alloc b).alloc c).heap[w.heap.size]? = some a := by
  rw [Below.heap_alloc _ _ _ (by simp; omega), Below.heap_alloc _ _ _ (by simp), heap_alloc_last]
def z8 : List (BitVec 64) := [0, 0, 0, 0, 0, 0, 0, 0]
attribute [local go_sem] w_add
set_option maxRecDepth 100000 in
set_option maxHeartbeats 1000000 in
theorem fold_any (a0 a1 a2 a3 a4 a5 a6 a7 : BitVec 64) (ws : List (BitVec 64)) (hws : ws.length = 80) (w : World) (ht : Tabs w) :
    Calls Tryd.prog 21 #[.agg (wa [a0, a1, a2, a3, a4, a5, a6, a7]), .agg (wa ws)] w fun e w' => e = .returned (.agg (wa (foldW [a0, a1, a2, a3, a4, a5, a6, a7] ws))) ∧ Below w.heap.size w w' := by
  have hz : ∀ w, (zeroValue 35).run Tryd.prog w = .ok (.agg (wa z8)) w := zero35
  generalize hs : [a0, a1, a2, a3, a4, a5, a6, a7] = s
  have hg : ∀ i (h : i < 8), (wa s)[i]? = some (.int .u64 (wn ([a0, a1, a2, a3, a4, a5, a6, a7].getD i 0))) := fun i h => by rw [hs]; exact wa_get s i (by rw [← hs]; simpa using h)
  have g0 : (wa s)[0]? = some (.int .u64 (wn a0)) := hg 0 (by omega)
  have g1 : (wa s)[1]? = some (.int .u64 (wn a1)) := hg 1 (by omega)
  have g2 : (wa s)[2]? = some (.int .u64 (wn a2)) := hg 2 (by omega)
  have g3 : (wa s)[3]? = some (.int .u64 (wn a3)) := hg 3 (by omega)
  have g4 : (wa s)[4]? = some (.int .u64 (wn a4)) := hg 4 (by omega)
  have g5 : (wa s)[5]? = some (.int .u64 (wn a5)) := hg 5 (by omega)
  have g6 : (wa s)[6]? = some (.int .u64 (wn a6)) := hg 6 (by omega)
  have g7 : (wa s)[7]? = some (.int .u64 (wn a7)) := hg 7 (by omega)
  have HS := hide hs
  clear hg hs
  go_enter Tryd.func21, Tryd.ntmps21
  go_wp2
  go_quiet (fail)
  revert nq
  intro n1
  go_wp2
  go_quiet (fail)
  revert nq
  intro n2
  have hw0 : (((((w.alloc (Obj.cells (wa s) 35)).alloc (Obj.cells (wa ws) 36)).alloc (Obj.cells (wa z8) 35)).drewN n1).drewN n2).heap = (((w.alloc (Obj.cells (wa s) 35)).alloc (Obj.cells (wa ws) 36)).alloc (Obj.cells (wa z8) 35)).heap := by
    rw [heap_drewN, heap_drewN]
  have hb0 : Below w.heap.size w (((((w.alloc (Obj.cells (wa s) 35)).alloc (Obj.cells (wa ws) 36)).alloc (Obj.cells (wa z8) 35)).drewN n1).drewN n2) := below_drewN (below_drewN (below3 _ _ _ _) _) _
  generalize ((((w.alloc (Obj.cells (wa s) 35)).alloc (Obj.cells (wa ws) 36)).alloc (Obj.cells (wa z8) 35)).drewN n1).drewN n2 = W at hw0 hb0 ⊢
  have r0 : W.heap[w.heap.size]? = some (.cells (wa s) 35 (0, 0)) := by rw [hw0]; exact heap_alloc_first3 _ _ _ _
  have r1 : W.heap[w.heap.size + 1]? = some (.cells (wa ws) 36 (0, 0)) := by rw [hw0]; exact heap_alloc_mid3 _ _ _ _
  have r2 : W.heap[w.heap.size + 1 + 1]? = some (.cells (wa z8) 35 (0, 0)) := by rw [hw0]; exact heap_alloc_last3 _ _ _ _
  have r3 : W.heap.size = w.heap.size + 1 + 1 + 1 := by rw [hw0]; simp
  clear hw0 g0 g1 g2 g3 g4 g5 g6 g7 hz
  go_wp2_with (refine wpList_load_row rfl 36 (.tmp 3) rfl (w.heap.size + 1) rfl 36 (wa ws) (0,0) (.array 80 30) r1 und36 rfl (by rw [wa_size, hws]; exact size36) ?_)
  go_loopw [5, 6, 7, 8, 9, 10, 11, 12, 36] (fun a b c d e f g h i wr => ∃ k : Nat, k ≤ 80 ∧ i = .int .i64 k ∧
      a = .int .u64 (wn ((rs s ws k).getD 0 0)) ∧ b = .int .u64 (wn ((rs s ws k).getD 1 0)) ∧ c = .int .u64 (wn ((rs s ws k).getD 2 0)) ∧ d = .int .u64 (wn ((rs s ws k).getD 3 0)) ∧
      e = .int .u64 (wn ((rs s ws k).getD 4 0)) ∧ f = .int .u64 (wn ((rs s ws k).getD 5 0)) ∧ g = .int .u64 (wn ((rs s ws k).getD 6 0)) ∧ h = .int .u64 (wn ((rs s ws k).getD 7 0)) ∧
      wr.heap = W.heap ∧ Below w.heap.size w wr) (fun _ _ _ _ _ _ _ _ i _ => 80 - (intOf i).toNat)
  case atStart =>
    have := HS.out
    subst this
    exact ⟨0, by omega, rfl, rfl, rfl, rfl, rfl, rfl, rfl, rfl, rfl, rfl, hb0⟩
  case round =>
    obtain ⟨k, hk, rfl, rfl, rfl, rfl, rfl, rfl, rfl, rfl, rfl, hh, hb⟩ := hrel
    by_cases hlt : k < 80
    · have hidx := run_index_arr und36 Tryd.underlying30 rfl size30 (wa ws) k hlt _ (wa_get ws k (by omega))
      have hkk := (ht.below hb ht.2.2).k k hlt
      have HH := hide hh
      generalize hR : rs s ws k = R
      have HR := hide hR
      generalize hx0 : R.getD 0 0 = x0
      generalize hx1 : R.getD 1 0 = x1
      generalize hx2 : R.getD 2 0 = x2
      generalize hx3 : R.getD 3 0 = x3
      generalize hx4 : R.getD 4 0 = x4
      generalize hx5 : R.getD 5 0 = x5
      generalize hx6 : R.getD 6 0 = x6
      generalize hx7 : R.getD 7 0 = x7
      generalize hkw : kw.getD k 0 = kk at hkk
      generalize hww : ws.getD k 0 = ww at hidx
      have HX := hide (And.intro hx0 (And.intro hx1 (And.intro hx2 (And.intro hx3 (And.intro hx4 (And.intro hx5 (And.intro hx6 hx7)))))))
      have HK := hide (And.intro hkw hww)
      clear hx0 hx1 hx2 hx3 hx4 hx5 hx6 hx7 hkw hww hh hR r0 r1 r2
      go_wp2
      go_quiet ((first | (go_at_call 23; exact Calls.quiet_of_same (bg1_any _ _)) | (go_at_call 24; exact Calls.quiet_of_same (choose_any _ _ _ _))))
      go_wp2_with (first | (go_at_call 25; refine (bg0_any _ _).mono ?_; rintro e w' ⟨rfl, rfl⟩) | (go_at_call 26; refine (maj_any _ _ _ _).mono ?_; rintro e w' ⟨rfl, rfl⟩))
      go_roundw
      case rel =>
        refine ⟨k + 1, by omega, by go_num, ?_, ?_, ?_, ?_, ?_, ?_, ?_, ?_, HH.out, below_drewN hb _⟩
        all_goals rw [rs, HR.out, rnd, HK.out.1, HK.out.2, HX.out.1, HX.out.2.1, HX.out.2.2.1, HX.out.2.2.2.1, HX.out.2.2.2.2.1, HX.out.2.2.2.2.2.1, HX.out.2.2.2.2.2.2.1, HX.out.2.2.2.2.2.2.2]
        all_goals rfl
      case measure => simp [intOf]; omega
    · have hk80 : k = 80 := by omega
      have q0 : wr.heap[w.heap.size]? = some (.cells (wa s) 35 (0, 0)) := by rw [hh]; exact r0
      have q2 : wr.heap[w.heap.size + 1 + 1]? = some (.cells (wa z8) 35 (0, 0)) := by rw [hh]; exact r2
      have q3 : wr.heap.size = w.heap.size + 1 + 1 + 1 := by rw [hh]; exact r3
      have hlR : (rs s ws k).length = 8 := rs_len s ws (by rw [← HS.out]; rfl) k
      have hfin : foldW s ws = addTo s (rs s ws k) 8 := by rw [hk80]; rfl
      have H1 := hide hlR
      have H2 := hide hfin
      clear hk80 hfin hlR
      generalize hR : rs s ws k = R at H1 H2
      have HR := hide hR
      have hwa : wa R = wa [R.getD 0 0, R.getD 1 0, R.getD 2 0, R.getD 3 0, R.getD 4 0, R.getD 5 0, R.getD 6 0, R.getD 7 0] := congrArg wa (eight R H1.out)
      generalize hx0 : R.getD 0 0 = x0 at hwa
      generalize hx1 : R.getD 1 0 = x1 at hwa
      generalize hx2 : R.getD 2 0 = x2 at hwa
      generalize hx3 : R.getD 3 0 = x3 at hwa
      generalize hx4 : R.getD 4 0 = x4 at hwa
      generalize hx5 : R.getD 5 0 = x5 at hwa
      generalize hx6 : R.getD 6 0 = x6 at hwa
      generalize hx7 : R.getD 7 0 = x7 at hwa
      have HW := hide hwa
      have hd : decide ((k : Int) < 80) = false := by simp; omega
      clear hx0 hx1 hx2 hx3 hx4 hx5 hx6 hx7 hR hwa r0 r1 r2 r3 hh hb0 hk
      go_wp2
      clear hlt hd
      go_loopw [84] (fun i wr => ∃ j : Nat, j ≤ 8 ∧ i = .int .i64 j ∧ wr.heap[w.heap.size]? = some (.cells (wa (addTo s R j)) 35 (0, 0)) ∧ wr.heap[w.heap.size + 1 + 1]? = some (.cells (wa z8) 35 (0, 0)) ∧ wr.heap.size = w.heap.size + 1 + 1 + 1 ∧ Below w.heap.size w wr) (fun i _ => 8 - (intOf i).toNat)
      case atStart => exact ⟨0, by omega, rfl, q0, q2, q3, hb⟩
      case round =>
        clear q0 q2 q3 hb
        obtain ⟨j, hj, rfl, q0, q2, q3, hb⟩ := hrel
        have hls : (addTo s R j).length = 8 := by rw [addTo_len, ← HS.out]; rfl
        by_cases hlt : j < 8
        · have hidx : ∀ w, (Instr.index 35 (.agg #[.int .u64 (wn x0), .int .u64 (wn x1), .int .u64 (wn x2), .int .u64 (wn x3), .int .u64 (wn x4), .int .u64 (wn x5), .int .u64 (wn x6), .int .u64 (wn x7)]) (.int .i64 (j : Int))).run Tryd.prog w = .ok (.int .u64 (wn (R.getD j 0))) w :=
            run_index_arr und35 Tryd.underlying30 rfl size30 _ j hlt _ (by
              show (wa [x0, x1, x2, x3, x4, x5, x6, x7])[j]? = _
              rw [← HW.out]; exact wa_get R j (by rw [H1.out]; omega))
          have hcell : wr.cell? ⟨w.heap.size, j, none⟩ = some (.int .u64 (wn ((addTo s R j).getD j 0))) := by
            rw [cell_of_row _ _ _ _ _ _ q0, wa_get _ _ (by omega)]
          have hfro : wr.frozen? ⟨w.heap.size, j, none⟩ = false := frozen_of_row _ _ _ _ _ q0
          have Q0 := hide q0
          have Q2 := hide q2
          clear q0 q2 hls
          generalize hy : (addTo s R j).getD j 0 = y at hcell
          generalize hx : R.getD j 0 = x at hidx
          have HY := hide (And.intro hy hx)
          clear hy hx
          go_wp2
          go_roundw
          case rel =>
            refine ⟨j + 1, by omega, by go_num, ?_, ?_, ?_, ?_⟩
            · rw [heap_setCell_same _ _ _ _ _ _ Q0.out, wa_set, addTo, HY.out.1, HY.out.2]
            · rw [heap_setCell_other _ _ _ _ (by simp; omega)]; exact Q2.out
            · simpa using q3
            · exact hb.setCell (by simp) _
          case measure => simp [intOf]; omega
        · have hj8 : j = 8 := by omega
          have hf := H2.out
          rw [hj8] at q0 hls
          rw [← hf] at q0 hls
          have hw8 : (wa (foldW s ws)).size = 8 := by rw [wa_size]; exact hls
          clear hf hj8 hls
          go_wp2_with (first | (refine wpList_load_row rfl 35 (.tmp 2) rfl w.heap.size rfl 35 (wa (foldW s ws)) (0,0) (.array 8 30) q0 und35 rfl (by rw [hw8]; exact size35) ?_) | (refine wpList_store_row rfl 35 (.tmp 4) (.tmp 95) rfl (w.heap.size + 1 + 1) (wa (foldW s ws)) rfl rfl 35 (wa z8) q2 (by rw [hw8]; exact size35) (by rw [hw8]; rfl) (wa_one _) ?_))
          refine bodyPost_ret_by (results_cell_row rfl _ _ (w.heap.size + 1 + 1) 35 (wa (foldW s ws)) (0, 0) (.array 8 30) rfl (setRow_heap _ _ _ _ _ _ q2) und35 rfl (by rw [hw8]; exact size35)) rfl ⟨rfl, ?_⟩
          exact Below.setRow hb _ _ (by omega)
end Go.Proofs.YtjkcjlhcfkapkaaDoor
