/- A number's 32 bytes, as the program's call answers them, in any world. -/
import Derived.Test.YteplbagjagimdaaDoorMinus
namespace Go.Proofs.YteplbagjagimdaaDoor
open Go.RowKit
/-- Bytes as the model has them. -/
def ba (l : List Nat) : Array Value := (l.map fun (n : Nat) => Value.int .u8 (n : Int)).toArray
theorem ba_get (l : List Nat) (k : Nat) (h : k < l.length) : (ba l)[k]? = some (.int .u8 ((l.getD k 0 : Nat) : Int)) := by
  simp [ba, List.getD_eq_getElem?_getD, h]
theorem ba_set (l : List Nat) (k n : Nat) : (ba l).setIfInBounds k (.int .u8 (n : Int)) = ba (l.set k n) := by
  simp [ba, List.map_set]
/-- A number's byte. -/
def byt (x i : Nat) : Nat := x / 256 ^ i % 256
/-- Its bytes so far. -/
def bys (x : Nat) : Nat → List Nat
  | 0 => List.replicate 32 0
  | k + 1 => (bys x k).set k (byt x k)
theorem bys_len (x : Nat) : ∀ k, (bys x k).length = 32
  | 0 => by simp [bys]
  | k + 1 => by simp [bys, bys_len x k]
theorem bys_get (x : Nat) : ∀ k i, k ≤ 32 → (bys x k).getD i 0 = if i < k then byt x i else 0
  | 0, i, _ => by
    show (List.replicate 32 0).getD i 0 = _
    rw [if_neg (by omega), List.getD_eq_getElem?_getD, List.getElem?_replicate]
    split <;> rfl
  | k + 1, i, h => by
    have ih := bys_get x k i (by omega)
    rw [bys]
    by_cases e : k = i
    · subst e
      have hl := bys_len x k
      simp [List.getD_eq_getElem?_getD, hl, show k < 32 by omega]
    · rw [getD_set_ne' e, ih]
      by_cases h1 : i < k
      · rw [if_pos h1, if_pos (by omega)]
      · rw [if_neg h1, if_neg (by omega)]
theorem byt_word (x i : Nat) : (x / 18446744073709551616 ^ (i / 8) % 18446744073709551616) / 2 ^ (i % 8 * 8) % 256 = byt x i := by
  unfold byt
  have h1 : (18446744073709551616 : Nat) = 2 ^ (i % 8 * 8) * (256 * 2 ^ (56 - i % 8 * 8)) := by
    rw [show (256 : Nat) = 2 ^ 8 from rfl, ← Nat.pow_add, ← Nat.pow_add, show i % 8 * 8 + (8 + (56 - i % 8 * 8)) = 64 by omega]
  have h2 : (18446744073709551616 : Nat) ^ (i / 8) * 2 ^ (i % 8 * 8) = 256 ^ i := by
    rw [show (18446744073709551616 : Nat) = 2 ^ 64 from rfl, show (256 : Nat) = 2 ^ 8 from rfl, ← Nat.pow_mul, ← Nat.pow_mul, ← Nat.pow_add]
    congr 1; omega
  rw [← h2, ← Nat.div_div_eq_div_mul]
  generalize x / 18446744073709551616 ^ (i / 8) = y
  rw [h1, Nat.mod_mul_right_div_self, Nat.mod_mul_right_mod]
theorem make32 (w : World) : (Instr.makeSlice 22 (.int .i64 32) (.int .i64 32)).run Tryd.prog w = .ok (.slice (some ⟨w.heap.size, 0, none⟩) 32 32) (w.alloc (.cells (ba (List.replicate 32 0)) 5)) := by kernel_rfl
set_option maxRecDepth 100000 in
set_option maxHeartbeats 1000000 in
theorem bytes_any (x : Nat) (hx : x < pp) (w : World) :
    Calls Tryd.prog 42 #[.agg (el x)] w fun e w' => ∃ g, e = .returned (.slice (some ⟨g, 0, none⟩) 32 32) ∧ w.heap.size ≤ g ∧ g < w'.heap.size ∧ w'.heap[g]? = some (.cells (ba (bys x 32)) 5 (0, 0)) ∧ Below w.heap.size w w' := by
  have hmk := make32
  obtain ⟨a, b, c, d, he, hb, hv⟩ := el_open x hx
  have hword : ∀ k, k < 32 → byt x k = (([a, b, c, d].getD (k / 8) 0) / 2 ^ (k % 8 * 8)) % 256 := by
    intro k hk
    rw [← byt_word x k]
    congr 2
    rw [val4] at hv
    have : k / 8 = 0 ∨ k / 8 = 1 ∨ k / 8 = 2 ∨ k / 8 = 3 := by omega
    rcases this with h | h | h | h <;> rw [h] <;> simp <;> omega
  have HW := hide hword
  rw [he]
  clear he hv hword hx
  go_enter Tryd.func42, Tryd.ntmps42
  go_wp2
  clear hmk
  have hA := heap2_0 w (.cells #[.int .u64 (a : Int), .int .u64 (b : Int), .int .u64 (c : Int), .int .u64 (d : Int)] 28) (.cells (ba (List.replicate 32 0)) 5)
  have hO := heap2_1 w (.cells #[.int .u64 (a : Int), .int .u64 (b : Int), .int .u64 (c : Int), .int .u64 (d : Int)] 28) (.cells (ba (List.replicate 32 0)) 5)
  have hB := below2 w (.cells #[.int .u64 (a : Int), .int .u64 (b : Int), .int .u64 (c : Int), .int .u64 (d : Int)] 28) (.cells (ba (List.replicate 32 0)) 5)
  have hS : ((w.alloc (.cells #[.int .u64 (a : Int), .int .u64 (b : Int), .int .u64 (c : Int), .int .u64 (d : Int)] 28)).alloc (.cells (ba (List.replicate 32 0)) 5)).heap.size = w.heap.size + 1 + 1 := by simp
  go_loopw [8] (fun i wr => ∃ k : Nat, k ≤ 32 ∧ i = .int .i64 k ∧ wr.heap[w.heap.size]? = some (.cells #[.int .u64 (a : Int), .int .u64 (b : Int), .int .u64 (c : Int), .int .u64 (d : Int)] 28 (0, 0)) ∧ wr.heap[w.heap.size + 1]? = some (.cells (ba (bys x k)) 5 (0, 0)) ∧ wr.heap.size = w.heap.size + 1 + 1 ∧ Below w.heap.size w wr) (fun i _ => 32 - (intOf i).toNat)
  case atStart => exact ⟨0, by omega, rfl, hA, hO, hS, hB⟩
  case round =>
    clear hA hO hS hB
    obtain ⟨k, hk, rfl, hA, hO, hS, hB⟩ := hrel
    by_cases hlt : k < 32
    · have hc := cell_of_row _ _ (k / 8) _ _ _ hA
      rw [← na4, na_get _ _ (by show k / 8 < 4; omega)] at hc
      have hc2 := cell_of_row _ _ k _ _ _ hO
      rw [ba_get _ _ (by rw [bys_len]; exact hlt)] at hc2
      have hfro : wr.frozen? ⟨w.heap.size + 1, k, none⟩ = false := frozen_of_row _ _ _ _ _ hO
      have HK := hide (HW.out k hlt)
      have HA := hide hA
      have HO := hide hO
      clear hA hO HW
      generalize [a, b, c, d].getD (k / 8) 0 = y at *
      generalize (bys x k).getD k 0 = z at *
      have b0 : (0 : Int) ≤ (k : Int) := by omega
      have b1 : (k : Int) < 32 := by omega
      have b2 : (0 : Int) ≤ (k : Int) / 8 := by omega
      have b3 : (k : Int) / 8 < 4 := by omega
      go_wp2
      have hv : (y : Int) / 2 ^ (k % 8 * 8) % 256 = ((byt x k : Nat) : Int) := by rw [HK.out]; simp
      rw [hv]
      refine ⟨⟨k + 1, by omega, by go_num, ?_, ?_, ?_, ?_⟩, by simp [intOf]; omega⟩
      · rw [heap_setCell_other _ _ _ _ (by simp)]; exact HA.out
      · rw [heap_setCell_same _ _ _ _ _ _ HO.out, ba_set, bys]
      · simpa using hS
      · exact hB.setCell (by simp) _
    · have hk32 : k = 32 := by omega
      rw [hk32] at hO
      have HO := hide hO
      clear hO hA HW
      go_wp2
      go_ret
      exact ⟨w.heap.size + 1, rfl, by omega, by omega, HO.out, hB⟩
end Go.Proofs.YteplbagjagimdaaDoor
