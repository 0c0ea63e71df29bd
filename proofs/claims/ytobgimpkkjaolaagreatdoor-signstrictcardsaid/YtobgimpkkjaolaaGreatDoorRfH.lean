/- The page's own power of a root, as its call answers it, in any world. -/
import Derived.Test.YtobgimpkkjaolaaGreatDoorRf1
import Derived.Test.YtobgimpkkjaolaaGreatDoorFn4
namespace Go.Proofs.YtobgimpkkjaolaaGreatDoor
open Go.RowKit
def hl : Nat → List Bool
  | 0 => List.replicate 255 false
  | k + 1 => (hl k).set k (decide (k < 252) && k != 1)
theorem hl_len : ∀ k, (hl k).length = 255
  | 0 => List.length_replicate
  | k + 1 => by rw [hl, List.length_set, hl_len k]
theorem hl_ex : bex (hl 255) = ei := by decide +kernel
set_option maxRecDepth 100000 in
set_option maxHeartbeats 2000000 in
theorem rhalf_any (a : List Int) (x : Nat) (ha : Rep a x) (w : World) :
    Calls Tryz.prog 102 #[.agg (ia a)] w fun e w' => ∃ c, e = .returned (.agg (ia c)) ∧ Rep c (pw x ei) ∧ Below w.heap.size w w' := by
  have hz := zeroN
  have hzb : ∀ w : World, (zeroValue 100).run Tryz.prog w = .ok (.agg (bv (hl 0))) w := fun w => by kernel_rfl
  have HP := hide (rpower_any a x ha (hl 255) (hl_len 255))
  rw [hl_ex] at HP
  generalize hE : pw x ei = E at *
  have ha16 : (ia a).size = 16 := by rw [ia_size, ha.len]
  have HB : Hid (∀ k, hl (k + 1) = (hl k).set k (decide (k < 252) && k != 1)) := fun _ => rfl
  have HL := hide hl_len
  clear ha hE
  generalize hl = B at *
  go_enter Tryz.func102, Tryz.ntmps102
  go_wp2
  clear hz hzb
  go_loopw [5] (fun i wr => ∃ k : Nat, k ≤ 255 ∧ i = .int .i64 k ∧ wr.heap[w.heap.size + 1 + 1]? = some (.cells (bv (B k)) 100 (0, 0)) ∧ wr.heap[w.heap.size]? = some (.cells (ia a) 37 (0, 0)) ∧ wr.heap[w.heap.size + 1]? = some (.cells (ia z16) 37 (0, 0)) ∧ wr.heap.size = w.heap.size + 1 + 1 + 1 ∧ Below w.heap.size w wr) (fun i _ => 255 - (intOf i).toNat)
  case atStart => exact ⟨0, by omega, rfl, heap_alloc_last3 _ _ _ _, heap3_0 _ _ _ _, heap_alloc_mid3 _ _ _ _, by simp, below3 _ _ _ _⟩
  case round =>
    obtain ⟨k, hk, rfl, hT, hA, hO, hS, hBe⟩ := hrel
    by_cases hlt : k < 255
    · have hfro : wr.frozen? ⟨w.heap.size + 1 + 1, k, none⟩ = false := frozen_of_row _ _ _ _ _ hT
      have hcell := cell_of_row _ _ k _ _ _ hT
      rw [bv_get _ _ (by rw [HL.out]; exact hlt)] at hcell
      have HW := hide (And.intro hT (And.intro hA hO))
      have b0 : (0 : Int) ≤ (k : Int) := by omega
      have b1 : (k : Int) < 255 := by omega
      have dk : decide ((k : Int) < 255) = true := decide_eq_true b1
      obtain ⟨q, hq⟩ : ∃ q, (B k).getD k false = q := ⟨_, rfl⟩
      rw [hq] at hcell
      clear hT hA hO hq
      by_cases e2 : k = 1
      · subst e2
        clear dk b0 b1 hlt hk
        go_wp2
        obtain ⟨hT, hA, hO⟩ := HW.out
        refine ⟨⟨2, by omega, rfl, by rw [show B 2 = (B 1).set 1 false from HB.out 1, heap_setCell_same _ _ _ _ _ _ hT, bv_set], (heap_setCell_other _ _ _ _ (by simp; omega)).trans hA, (heap_setCell_other _ _ _ _ (by simp)).trans hO, by simpa using hS, hBe.setCell (by simp; omega) _⟩, by simp [intOf]⟩
      · have d2 : ((k : Int) == 1) = false := by simp; omega
        have d2' : decide ((k : Int) = 1) = false := decide_eq_false (by omega)
        by_cases e4 : k < 252
        · have d4 : decide ((k : Int) < 252) = true := decide_eq_true (by omega)
          have HV : Hid ((decide (k < 252) && k != 1) = true) := by show _ = _; simp [e2, e4]
          have n2 : ¬ ((k : Int) = 1) := by omega
          clear e2 e4
          go_wp2
          obtain ⟨hT, hA, hO⟩ := HW.out
          refine ⟨⟨k + 1, by omega, by go_num, by rw [HB.out, HV.out, heap_setCell_same _ _ _ _ _ _ hT, bv_set, show ((k : Int) != 1) = true by simp [n2]], (heap_setCell_other _ _ _ _ (by simp; omega)).trans hA, (heap_setCell_other _ _ _ _ (by simp)).trans hO, by simpa using hS, hBe.setCell (by simp; omega) _⟩, by simp [intOf]; omega⟩
        · have d4 : decide ((k : Int) < 252) = false := decide_eq_false (by omega)
          have HV : Hid ((decide (k < 252) && k != 1) = false) := by show _ = _; simp [e4]
          clear e2 e4
          go_wp2
          obtain ⟨hT, hA, hO⟩ := HW.out
          refine ⟨⟨k + 1, by omega, by go_num, by rw [HB.out, HV.out, heap_setCell_same _ _ _ _ _ _ hT, bv_set], (heap_setCell_other _ _ _ _ (by simp; omega)).trans hA, (heap_setCell_other _ _ _ _ (by simp)).trans hO, by simpa using hS, hBe.setCell (by simp; omega) _⟩, by simp [intOf]; omega⟩
    · have hk5 : k = 255 := by omega
      rw [hk5] at hT
      have hb55 : (bv (B 255)).size = 255 := by rw [bv_size, HL.out]
      have dk : decide ((k : Int) < 255) = false := decide_eq_false (by omega)
      clear hk5 hlt hk
      go_wp2_with (first | (refine wpList_load_row rfl 37 (.tmp 1) rfl w.heap.size rfl 37 (ia a) (0,0) (.array 16 2) hA undN rfl (by rw [ha16]; exact sizeN) ?_) | (refine wpList_load_row rfl 100 (.tmp 3) rfl (w.heap.size + 1 + 1) rfl 100 (bv (B 255)) (0,0) (.array 255 4) hT undB rfl (by rw [hb55]; exact sizeB) ?_) | fail)
      refine (HP.out _).mono ?_
      rintro e w2 ⟨c, rfl, hc, hb2⟩
      have hO2 := Below.heap hb2 (by omega) hO
      have hB2 := hBe.trans (hb2.mono hBe.size)
      have hc16 : (ia c).size = 16 := by rw [ia_size, hc.len]
      clear hT hA hO hb2 hBe
      go_wp2_with (refine wpList_store_row rfl 37 (.tmp 2) (.tmp 19) rfl (w.heap.size + 1) (ia c) rfl rfl 37 (ia z16) hO2 (by rw [hc16]; exact sizeN) (by rw [hc16]; rfl) (ia_one _) ?_)
      exact bodyPost_ret_by (results_cell_row rfl _ _ (w.heap.size + 1) 37 (ia c) (0, 0) (.array 16 2) rfl (setRow_heap _ _ _ _ _ _ hO2) undN rfl (by rw [hc16]; exact sizeN)) rfl ⟨_, rfl, hc, Below.setRow hB2 _ _ (by omega)⟩
theorem n_half {x : Kp} {u : Value} {w : World} (h1 : (nk x).p w u) : Hands Tryz.prog 102 #[u] w (nk (kpw x ei)) := by
  obtain ⟨_, rfl, l, rfl, hl⟩ := h1
  exact rn_of (rhalf_any l _ hl w) rfl
end Go.Proofs.YtobgimpkkjaolaaGreatDoor
