/- The number of bytes, their lowest four words, the bytes of words: as the program's calls answer them, in any world. -/
import Derived.Test.YtmaolpinppnijaaDoorOrder
namespace Go.Proofs.YtmaolpinppnijaaDoor
open Go.RowKit
theorem z8_lim : lim [0, 0, 0, 0, 0, 0, 0, 0] := by
  intro i
  match i with
  | 0 | 1 | 2 | 3 | 4 | 5 | 6 | 7 => decide
  | i + 8 => simp
set_option maxRecDepth 100000 in
set_option maxHeartbeats 1000000 in
theorem from_any (v : Value) (bs : List Nat) (hlen : bs.length ≤ 64) (w : World) (hbs : BsAt w v bs) :
    Calls Tryd.prog 21 #[v] w fun e w' => e = .returned (.agg (el8 (bval bs))) ∧ Below w.heap.size w w' := by
  obtain ⟨b, o, c, ao, rfl, hc, hm, hl, hh⟩ := hbs
  unfold maxLen at hm
  go_enter Tryd.func21, Tryd.ntmps21
  go_wp2
  go_loopw [8] (fun i wr => ∃ (k : Nat) (l : List Nat), k ≤ bs.length ∧ i = .int .i64 k ∧ l.length = 8 ∧ lim l ∧ val l = bval (bs.take k) ∧ wr.heap[w.heap.size]? = some (.cells (na [0, 0, 0, 0, 0, 0, 0, 0]) 39 (0, 0)) ∧ wr.heap[w.heap.size + 1]? = some (.cells (na l) 39 (0, 0)) ∧ wr.heap.size = w.heap.size + 1 + 1 ∧ Below w.heap.size w wr) (fun i _ => bs.length - (intOf i).toNat)
  case atStart => exact ⟨0, [0, 0, 0, 0, 0, 0, 0, 0], by omega, rfl, rfl, z8_lim, by simp [val, bval], heap2_0 _ _ _, heap2_1 _ _ _, by simp, below2 _ _ _⟩
  case round =>
    obtain ⟨k, l, hk, rfl, hl8, hlim, hval, hA, hO, hS, hB⟩ := hrel
    by_cases hlt : k < bs.length
    · obtain ⟨rfl, hb, hcells⟩ := hh (fun e => by rw [e] at hlt; simp at hlt)
      have hcb := (Below.cell (p := ⟨b, o + k, none⟩) hB hb).trans (hcells k (by omega))
      have hcw := cell_of_row _ _ (k / 8) _ _ _ hO
      rw [na_get _ _ (by omega)] at hcw
      have hfro : wr.frozen? ⟨w.heap.size + 1, k / 8, none⟩ = false := frozen_of_row _ _ _ _ _ hO
      have hx := hl k
      have hy := word_small (s := k % 8 * 8) (j := k / 8) (by omega) (show val l < 18446744073709551616 ^ (k / 8) * 2 ^ (k % 8 * 8) by rw [hval, word_pow]; exact bval_lt hl k)
      have HT := hide (bval_take bs k (by omega))
      have HA := hide hA
      have HO := hide hO
      have HV := hide hval
      have HL := hide (And.intro hl8 hlim)
      have HC := hide (And.intro hl (And.intro hcells hb))
      clear hA hO hval hlim hl8 hh hl hcells
      generalize hgx : bs.getD k 0 = x at *
      generalize hgy : l.getD (k / 8) 0 = y at *
      have HY := hide hgy
      clear hgx hgy
      have hor := or_byte y x (k % 8 * 8) hy hx (by omega)
      have hlx : y + 2 ^ (k % 8 * 8) * x < 18446744073709551616 := word_fits hy hx (by omega)
      generalize hz : y + 2 ^ (k % 8 * 8) * x = z at *
      have HZ := hide hz
      have HYY := hide hy
      clear hz hy
      have b0 : (0 : Int) ≤ (k : Int) := by omega
      have b1 : (k : Int) < (bs.length : Int) := by omega
      have b2 : (0 : Int) ≤ (k : Int) / 8 := by omega
      have b3 : (k : Int) / 8 < 8 := by omega
      go_wp2
      go_region
      go_wp2
      go_roundw
      case rel =>
        refine ⟨k + 1, l.set (k / 8) z, by omega, by go_num, by rw [List.length_set, HL.out.1], lim_set HL.out.2 _ _ hlx, ?_, ?_, ?_, ?_, ?_⟩
        · have hvs := val_set l (k / 8) z (by rw [HL.out.1]; omega)
          rw [HY.out, ← HZ.out, Nat.mul_add, ← Nat.mul_assoc, word_pow] at hvs
          rw [HT.out, ← HV.out, ← HZ.out]
          omega
        · rw [heap_drew, heap_setCell_other _ _ _ _ (by simp)]; exact HA.out
        · rw [heap_drew, heap_setCell_same _ _ _ _ _ _ HO.out, na_set]
        · simpa [heap_drew] using hS
        · exact (hB.setCell (by simp) _).drew
      case measure => simp [intOf]; omega
    · have hkn : bs.take k = bs := List.take_of_length_le (by omega)
      rw [hkn] at hval
      have HE := hide (el8_close hl8 hlim hval)
      obtain ⟨x0, x1, x2, x3, x4, x5, x6, x7, rfl⟩ := eight hl8
      rw [na8] at hO hA
      obtain ⟨z1, z2⟩ := row_reads hO
      obtain ⟨r0, rf0⟩ := row_reads hA
      have HLT : Hid (¬ (k : Int) < (bs.length : Int)) := by show ¬ _; omega
      clear hA hO hval hlim hh hl hkn hl8
      go_wp2
      refine bodyPost_ret (v := .agg (na [x0, x1, x2, x3, x4, x5, x6, x7])) (by simp [results, Tryd.results21, go_sem, na8, r0]) rfl ⟨by rw [HE.out], ?_⟩
      exact (((((((hB.setCell (by simp) _).setCell (by simp) _).setCell (by simp) _).setCell (by simp) _).setCell (by simp) _).setCell (by simp) _).setCell (by simp) _).setCell (by simp) _
set_option maxRecDepth 100000 in
set_option maxHeartbeats 1000000 in
theorem low_any (x : Nat) (hx : x < 18446744073709551616 ^ 8) (w : World) :
    Calls Tryd.prog 22 #[.agg (el8 x)] w fun e w' => e = .returned (.agg (el (x % 115792089237316195423570985008687907853269984665640564039457584007913129639936))) ∧ Below w.heap.size w w' := by
  obtain ⟨l, he, hl, hlim, hv⟩ := el8_open x hx
  obtain ⟨x0, x1, x2, x3, x4, x5, x6, x7, rfl⟩ := eight hl
  rw [he, na8]
  go_enter Tryd.func22, Tryd.ntmps22
  go_wp2
  have h4' : lim [x0, x1, x2, x3] := lim4_mk ⟨hlim 0, hlim 1, hlim 2, hlim 3⟩
  refine bodyPost_ret (v := .agg (na [x0, x1, x2, x3])) (by simp [results, Tryd.results22, go_sem, na4]) rfl ⟨?_, below2 _ _ _⟩
  have h4 := val_lt h4'
  rw [val8] at hv
  rw [el_na rfl h4' (x := x % 115792089237316195423570985008687907853269984665640564039457584007913129639936)]
  simp only [List.length_cons, List.length_nil, Nat.reduceAdd] at h4
  omega
set_option maxRecDepth 100000 in
set_option maxHeartbeats 1000000 in
theorem bytes_any (x : Nat) (hx : x < 115792089237316195423570985008687907853269984665640564039457584007913129639936) (w : World) :
    Calls Tryd.prog 25 #[.agg (el x)] w fun e w' => ∃ g, e = .returned (.slice (some ⟨g, 0, none⟩) 32 32) ∧ w.heap.size ≤ g ∧ g < w'.heap.size ∧ w'.heap[g]? = some (.cells (ba (bys x 32)) 5 (0, 0)) ∧ Below w.heap.size w w' := by
  have hmk := make32
  obtain ⟨a, b, c, d, he, hb, hv⟩ := el_open x hx
  have hword : ∀ k, k < 32 → byt x k = (([a, b, c, d].getD (k / 8) 0) / 2 ^ (k % 8 * 8)) % 256 := by
    intro k hk
    rw [← byt_word x k]
    congr 2
    rw [val4] at hv
    have : k / 8 = 0 ∨ k / 8 = 1 ∨ k / 8 = 2 ∨ k / 8 = 3 := by omega
    rcases this with h | h | h | h <;> rw [h] <;> simp <;> omega
  have HW := hide hword
  rw [he]
  clear he hv hword hx
  go_enter Tryd.func25, Tryd.ntmps25
  go_wp2
  clear hmk
  have hA := heap2_0 w (.cells #[.int .u64 (a : Int), .int .u64 (b : Int), .int .u64 (c : Int), .int .u64 (d : Int)] 35) (.cells (ba (List.replicate 32 0)) 5)
  have hO := heap2_1 w (.cells #[.int .u64 (a : Int), .int .u64 (b : Int), .int .u64 (c : Int), .int .u64 (d : Int)] 35) (.cells (ba (List.replicate 32 0)) 5)
  have hB := below2 w (.cells #[.int .u64 (a : Int), .int .u64 (b : Int), .int .u64 (c : Int), .int .u64 (d : Int)] 35) (.cells (ba (List.replicate 32 0)) 5)
  have hS : ((w.alloc (.cells #[.int .u64 (a : Int), .int .u64 (b : Int), .int .u64 (c : Int), .int .u64 (d : Int)] 35)).alloc (.cells (ba (List.replicate 32 0)) 5)).heap.size = w.heap.size + 1 + 1 := by simp
  go_loopw [8] (fun i wr => ∃ k : Nat, k ≤ 32 ∧ i = .int .i64 k ∧ wr.heap[w.heap.size]? = some (.cells #[.int .u64 (a : Int), .int .u64 (b : Int), .int .u64 (c : Int), .int .u64 (d : Int)] 35 (0, 0)) ∧ wr.heap[w.heap.size + 1]? = some (.cells (ba (bys x k)) 5 (0, 0)) ∧ wr.heap.size = w.heap.size + 1 + 1 ∧ Below w.heap.size w wr) (fun i _ => 32 - (intOf i).toNat)
  case atStart => exact ⟨0, by omega, rfl, hA, hO, hS, hB⟩
  case round =>
    clear hA hO hS hB
    obtain ⟨k, hk, rfl, hA, hO, hS, hB⟩ := hrel
    by_cases hlt : k < 32
    · have hc := cell_of_row _ _ (k / 8) _ _ _ hA
      rw [← na4, na_get _ _ (by show k / 8 < 4; omega)] at hc
      have hc2 := cell_of_row _ _ k _ _ _ hO
      rw [ba_get _ _ (by rw [bys_len]; exact hlt)] at hc2
      have hfro : wr.frozen? ⟨w.heap.size + 1, k, none⟩ = false := frozen_of_row _ _ _ _ _ hO
      have HK := hide (HW.out k hlt)
      have HA := hide hA
      have HO := hide hO
      clear hA hO HW
      generalize [a, b, c, d].getD (k / 8) 0 = y at *
      generalize (bys x k).getD k 0 = z at *
      have b0 : (0 : Int) ≤ (k : Int) := by omega
      have b1 : (k : Int) < 32 := by omega
      have b2 : (0 : Int) ≤ (k : Int) / 8 := by omega
      have b3 : (k : Int) / 8 < 4 := by omega
      go_wp2
      have hv : (y : Int) / 2 ^ (k % 8 * 8) % 256 = ((byt x k : Nat) : Int) := by rw [HK.out]; simp
      rw [hv]
      refine ⟨⟨k + 1, by omega, by go_num, ?_, ?_, ?_, ?_⟩, by simp [intOf]; omega⟩
      · rw [heap_setCell_other _ _ _ _ (by simp)]; exact HA.out
      · rw [heap_setCell_same _ _ _ _ _ _ HO.out, ba_set, bys]
      · simpa using hS
      · exact hB.setCell (by simp) _
    · have hk32 : k = 32 := by omega
      rw [hk32] at hO
      have HO := hide hO
      clear hO hA HW
      go_wp2
      go_ret
      exact ⟨w.heap.size + 1, rfl, by omega, by omega, HO.out, hB⟩
end Go.Proofs.YtmaolpinppnijaaDoor
