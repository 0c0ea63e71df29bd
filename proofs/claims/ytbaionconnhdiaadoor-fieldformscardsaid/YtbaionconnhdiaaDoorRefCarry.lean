/- The page's own carrying, as its call answers it, in any world. -/
import Derived.Test.YtbaionconnhdiaaDoorRefMath
import Derived.Test.YtbaionconnhdiaaDoorAtRows
namespace Go.Proofs.YtbaionconnhdiaaDoor
open Go.RowKit
/-- A row of numbers as the model has it. -/
def ia (l : List Int) : Array Value := (l.map fun (n : Int) => Value.int .i64 n).toArray
theorem ia_size (l : List Int) : (ia l).size = l.length := by simp [ia]
theorem ia_get (l : List Int) (k : Nat) (h : k < l.length) : (ia l)[k]? = some (.int .i64 (l.getD k 0)) := by
  simp [ia, List.getD_eq_getElem?_getD, h]
theorem ia_set (l : List Int) (k : Nat) (n : Int) : (ia l).setIfInBounds k (.int .i64 n) = ia (l.set k n) := by
  simp [ia, List.map_set]
theorem ia_one (l : List Int) : (ia l).all (·.oneCell') = true := by
  simp [ia]; intro x _; rfl
def z16 : List Int := [0, 0, 0, 0, 0, 0, 0, 0, 0, 0, 0, 0, 0, 0, 0, 0]
theorem undN : Tryd.prog.underlying 32 = some (.array 16 2) := by kernel_rfl
theorem sizeN : (Tryd.prog.info? 32).map (·.size) = some 16 := by kernel_rfl
theorem zeroN (w : World) : (zeroValue 32).run Tryd.prog w = .ok (.agg (ia z16)) w := by kernel_rfl
theorem shr16 (x : Int) : x / 2 ^ 16 = x / 65536 := rfl
set_option maxRecDepth 100000 in
set_option maxHeartbeats 2000000 in
theorem carry_any (l : List Int) (hl : l.length = 16) (hM : ∀ i, -1152921504606846976 ≤ l.getD i 0 ∧ l.getD i 0 ≤ 1152921504606846976) (w : World) :
    Calls Tryd.prog 30 #[.agg (ia l)] w fun e w' => e = .returned (.agg (ia (cy l))) ∧ Below w.heap.size w w' := by
  have hz := zeroN
  have HIN := hide (cyn_in l hl 1152921504606846976 35184372088832 hM (by decide) (by decide) (by decide))
  have HQ := hide (cq_bound l hl 1152921504606846976 35184372088832 hM (by decide) (by decide))
  have HL := hide hl
  clear hM hl
  go_enter Tryd.func30, Tryd.ntmps30
  go_wp2
  clear hz
  go_loopw [5] (fun i wr => ∃ k : Nat, k ≤ 16 ∧ i = .int .i64 k ∧ wr.heap[w.heap.size]? = some (.cells (ia (cyn l k)) 32 (0, 0)) ∧ wr.heap[w.heap.size + 1]? = some (.cells (ia z16) 32 (0, 0)) ∧ wr.heap.size = w.heap.size + 1 + 1 ∧ Below w.heap.size w wr) (fun i _ => 16 - (intOf i).toNat)
  case atStart => exact ⟨0, by omega, rfl, heap2_0 _ _ _, heap2_1 _ _ _, by simp, below2 _ _ _⟩
  case round =>
    obtain ⟨k, hk, rfl, hR, hO, hS, hB⟩ := hrel
    by_cases hlt : k < 16
    · have hlen : (cyn l k).length = 16 := by rw [cyn_len, HL.out]
      have hx := HIN.out k k (by omega)
      have hq := HQ.out k (by omega)
      have ck := cell_of_row _ _ k _ _ _ hR
      rw [ia_get _ _ (by omega)] at ck
      have hfro : ∀ i, wr.frozen? ⟨w.heap.size, i, none⟩ = false := fun i => frozen_of_row _ _ _ _ _ hR
      have HR := hide hR
      have HO := hide hO
      have b0 : (0 : Int) ≤ (k : Int) := by omega
      have b1 : (k : Int) < 16 := by omega
      by_cases h15 : k < 15
      · have hy := HIN.out k (k + 1) (by omega)
        have ck1 := cell_of_row _ _ (k + 1) _ _ _ hR
        rw [ia_get _ _ (by omega)] at ck1
        have HC : Hid (cyn l (k + 1) = ((cyn l k).set (k + 1) ((cyn l k).getD (k + 1) 0 + (cyn l k).getD k 0 / 65536)).set k ((cyn l k).getD k 0 % 65536)) := by
          show _ = _
          rw [cyn, cstep, if_pos h15]
        have HN := hide hlen
        clear hR hO hlen hq
        generalize hgx : (cyn l k).getD k 0 = x at *
        generalize hgy : (cyn l k).getD (k + 1) 0 = y at *
        clear hgx hgy
        have b2 : (k : Int) + 1 < 16 := by omega
        have b3 : (0 : Int) ≤ (k : Int) + 1 := by omega
        have d15 : decide ((k : Int) < 15) = true := decide_eq_true (by omega)
        go_wp2
        refine ⟨⟨k + 1, by omega, by go_num, ?_, ?_, ?_, ?_⟩, by simp [intOf]; omega⟩
        · rw [heap_setCell_same _ _ _ _ _ _ (heap_setCell_same _ _ _ _ _ _ (heap_setCell_same _ _ _ _ _ _ HR.out)), ia_set, ia_set, ia_set, HC.out, List.set_comm _ _ (show k ≠ k + 1 by omega), List.set_set]
          rw [show x + 65536 - (x + 65536) / 65536 * 65536 = x % 65536 by omega, show y + ((x + 65536) / 65536 - 1) = y + x / 65536 by omega]
        · rw [heap_setCell_other _ _ _ _ (by simp), heap_setCell_other _ _ _ _ (by simp), heap_setCell_other _ _ _ _ (by simp)]; exact HO.out
        · simpa using hS
        · exact ((hB.setCell (by simp) _).setCell (by simp) _).setCell (by simp) _
      · have hk15 : k = 15 := by omega
        subst hk15
        have hy := HIN.out 15 0 (by omega)
        have hy0 := cyn_lt l HL.out 15 0 (by omega) (by omega)
        have ck1 := cell_of_row _ _ 0 _ _ _ hR
        rw [ia_get _ _ (by omega)] at ck1
        have HC : Hid (cyn l 16 = ((cyn l 15).set 0 ((cyn l 15).getD 0 0 + 38 * ((cyn l 15).getD 15 0 / 65536))).set 15 ((cyn l 15).getD 15 0 % 65536)) := by
          show _ = _
          rw [cyn, cstep, if_neg (by omega)]
        have HN := hide hlen
        clear hR hO hlen hq
        generalize hgx : (cyn l 15).getD 15 0 = x at *
        generalize hgy : (cyn l 15).getD 0 0 = y at *
        clear hgx hgy
        generalize cyn l 15 = L at *
        have d15 : decide (((15 : Nat) : Int) < 15) = false := by decide
        go_wp2
        refine ⟨⟨16, by omega, by go_num, ?_, ?_, ?_, ?_⟩, by simp [intOf]⟩
        · rw [HC.out, heap_setCell_same _ _ _ _ _ _ (heap_setCell_same _ _ _ _ _ _ (heap_setCell_same _ _ _ _ _ _ HR.out)), ia_set, ia_set, ia_set, List.set_comm _ _ (show 15 ≠ 0 by omega), List.set_set]
          rw [show x + 65536 - (x + 65536) / 65536 * 65536 = x % 65536 by omega, show y + 38 * ((x + 65536) / 65536 - 1) = y + 38 * (x / 65536) by omega]
        · rw [heap_setCell_other _ _ _ _ (by simp), heap_setCell_other _ _ _ _ (by simp), heap_setCell_other _ _ _ _ (by simp)]; exact HO.out
        · simpa using hS
        · exact ((hB.setCell (by simp) _).setCell (by simp) _).setCell (by simp) _
    · have hk16 : k = 16 := by omega
      rw [hk16] at hR
      have hw : (ia (cyn l 16)).size = 16 := by rw [ia_size, cyn_len, HL.out]
      have dk : decide ((k : Int) < 16) = false := decide_eq_false (by omega)
      clear hk16 hlt hk
      go_wp2_with (first | (refine wpList_load_row rfl 32 (.tmp 1) rfl w.heap.size rfl 32 (ia (cyn l 16)) (0,0) (.array 16 2) hR undN rfl (by rw [hw]; exact sizeN) ?_) | (refine wpList_store_row rfl 32 (.tmp 2) (.tmp 42) rfl (w.heap.size + 1) (ia (cyn l 16)) rfl rfl 32 (ia z16) hO (by rw [hw]; exact sizeN) (by rw [hw]; rfl) (ia_one _) ?_))
      exact bodyPost_ret_by (results_cell_row rfl _ _ (w.heap.size + 1) 32 (ia (cyn l 16)) (0, 0) (.array 16 2) rfl (setRow_heap _ _ _ _ _ _ hO) undN rfl (by rw [hw]; exact sizeN)) rfl ⟨rfl, Below.setRow hB _ _ (by omega)⟩
end Go.Proofs.YtbaionconnhdiaaDoor
