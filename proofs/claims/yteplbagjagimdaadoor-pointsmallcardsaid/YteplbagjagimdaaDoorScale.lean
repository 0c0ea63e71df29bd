/- A row of words times a word, and what a row lacks to p: as the program's calls answer them, in any world. -/
import Derived.Test.YteplbagjagimdaaDoorRow
namespace Go.Proofs.YteplbagjagimdaaDoor
open Go.RowKit
set_option maxHeartbeats 1000000 in
theorem scale_list (la : List Nat) (y : Nat) (ha : la.length = 4) (la' : lim la) (hy : y < 18446744073709551616) (w : World) :
    Calls Tryd.prog 83 #[.agg (na la), .int .u64 (y : Int)] w fun e w' => ∃ (l : List Nat) (c : Nat), e = .returned (.tuple #[.int .u64 (c : Int), .agg (na l)]) ∧ l.length = 4 ∧ lim l ∧ c < 18446744073709551616 ∧ val l + c * 18446744073709551616 ^ 4 = y * val la ∧ Below w.heap.size w w' := by
  go_enter Tryd.func83, Tryd.ntmps83
  go_wp2
  go_loopw [6, 8] (fun c i wr => ∃ (k : Nat) (l : List Nat) (cn : Nat), k ≤ 4 ∧ i = .int .i64 k ∧ c = .int .u64 (cn : Int) ∧ cn < 18446744073709551616 ∧ l.length = 4 ∧ lim l ∧ val l + cn * 18446744073709551616 ^ k + val (la.take k) = val la + y * val (la.take k) ∧ (∀ i, k ≤ i → l.getD i 0 = la.getD i 0) ∧ wr.heap[w.heap.size]? = some (.cells (na l) 26 (0,0)) ∧ wr.heap[w.heap.size + 1]? = some (.cells #[.int .u64 0, .int .u64 0, .int .u64 0, .int .u64 0] 26 (0,0)) ∧ wr.heap.size = w.heap.size + 1 + 1 ∧ Below w.heap.size w wr) (fun _ i _ => 4 - (intOf i).toNat)
  case atStart =>
    refine ⟨0, la, 0, by omega, rfl, rfl, by omega, ha, la', by simp [val], fun _ _ => rfl, ?_, ?_, by simp, ((Below.refl _ _).alloc (Nat.le_refl _) _).alloc (by simp) _⟩
    · rw [Below.heap_alloc _ _ _ (by simp), heap_alloc_last]
    · have h := heap_alloc_last (w.alloc (.cells (na la) 26)) (.cells #[.int .u64 0, .int .u64 0, .int .u64 0, .int .u64 0] 26)
      simpa using h
  case round =>
    obtain ⟨k, l, cn, hk, rfl, rfl, hcn, hl, hlim, hval, hold, hrow, hr0, hsz, hbel⟩ := hrel
    by_cases hlt : k < 4
    · have hcell : wr.cell? ⟨w.heap.size, k, none⟩ = some (.int .u64 ((l.getD k 0 : Nat) : Int)) := by
        rw [cell_of_row _ _ _ _ _ _ hrow, na_get _ _ (by omega)]
      have hfro : wr.frozen? ⟨w.heap.size, k, none⟩ = false := frozen_of_row _ _ _ _ _ hrow
      have hx := hlim k
      have HR := hide hrow
      have H0 := hide hr0
      have HV := hide hval
      have HT := hide (val_take la k (by omega))
      have HL := hide hlim
      have HN := hide hl
      have HO := hide hold
      have HK := hide (hold k (Nat.le_refl _))
      clear hrow hr0 hval hlim hl hold la' ha
      generalize hgx : l.getD k 0 = x at *
      have HX := hide hgx
      clear hgx
      have b0 : (0 : Int) ≤ (k : Int) := by omega
      have b1 : (k : Int) < 4 := by omega
      have hm := word_mul hx hy hcn (n := 0) (by decide)
      have HM := hide hm
      clear hm
      go_wp2_with fail
      refine (mad_zero x y cn hx hy hcn _).mono ?_
      rintro e w' ⟨rfl, rfl⟩
      generalize hq : (x * y + cn) / 18446744073709551616 = q at *
      generalize hr : (x * y + cn) % 18446744073709551616 = r at *
      have HQ := hide hq
      have HRr := hide hr
      clear hq hr
      go_wp2
      go_roundw
      case rel =>
        refine ⟨k + 1, l.set k r, q, by omega, by go_num, rfl, ?_, by rw [List.length_set, HN.out], lim_set HL.out _ _ ?_, ?_, ?_, ?_, ?_, ?_, ?_⟩
        · have := HM.out; have := HQ.out; omega
        · have := HRr.out; omega
        · rw [HT.out, ← HK.out, ← HQ.out, ← HRr.out]
          exact scale_step (by rw [HN.out]; omega) rfl HX.out HV.out
        · intro i hi
          rw [getD_set_ne' (by omega), HO.out i (by omega)]
        · rw [heap_setCell_same _ _ _ _ _ _ HR.out, na_set]
        · rw [heap_setCell_other _ _ _ _ (by simp)]; exact H0.out
        · simpa using hsz
        · exact hbel.setCell (by simp) _
      case measure => simp [intOf]; omega
    · obtain ⟨x0, x1, x2, x3, rfl⟩ := four hl
      have hk4 : k = 4 := by omega
      rw [hk4, List.take_of_length_le (by omega)] at hval
      rw [na4] at hrow
      have HV := hide hval
      have HL := hide hlim
      have c0 : ∀ i, wr.cell? ⟨w.heap.size, i, none⟩ = (#[.int .u64 (x0 : Int), .int .u64 (x1 : Int), .int .u64 (x2 : Int), .int .u64 (x3 : Int)] : Array Value)[i]? := fun i => cell_of_row _ _ _ _ _ _ hrow
      have d0 : ∀ i, wr.cell? ⟨w.heap.size + 1, i, none⟩ = (#[.int .u64 0, .int .u64 0, .int .u64 0, .int .u64 0] : Array Value)[i]? := fun i => cell_of_row _ _ _ _ _ _ hr0
      have hfro : ∀ i, wr.frozen? ⟨w.heap.size + 1, i, none⟩ = false := fun i => frozen_of_row _ _ _ _ _ hr0
      clear hval hlim hold
      go_wp2
      go_region
      go_wp2
      refine bodyPost_ret (v := .tuple #[.int .u64 (cn : Int), .agg (na [x0, x1, x2, x3])]) (by simp [results, Tryd.results83, go_sem, na4, d0]) rfl ⟨[x0, x1, x2, x3], cn, rfl, rfl, HL.out, hcn, by have := HV.out; omega, ?_⟩
      exact (((((hbel.setCell (by simp) _).setCell (by simp) _).setCell (by simp) _).setCell (by simp) _)).drew
/-- The words of p. -/
def pl : List Nat := [18446744073709551597, 18446744073709551615, 18446744073709551615, 9223372036854775807]
theorem pl_lim : lim pl := lim4_mk (by decide)
theorem pl_val : val pl = 57896044618658097711785492504343953926634992332820282019728792003956564819949 := by decide +kernel
set_option maxHeartbeats 1000000 in
theorem fromPrime_list (la : List Nat) (ha : la.length = 4) (la' : lim la) (hle : val la ≤ 57896044618658097711785492504343953926634992332820282019728792003956564819949) (w : World) :
    Calls Tryd.prog 74 #[.agg (na la)] w fun e w' => ∃ (l : List Nat), e = .returned (.agg (na l)) ∧ l.length = 4 ∧ lim l ∧ val l + val la = 57896044618658097711785492504343953926634992332820282019728792003956564819949 ∧ Below w.heap.size w w' := by
  go_enter Tryd.func74, Tryd.ntmps74
  go_wp2
  go_loopw [4, 7] (fun c i wr => ∃ (k : Nat) (l : List Nat) (cn : Nat), k ≤ 4 ∧ i = .int .i64 k ∧ c = .int .u64 (cn : Int) ∧ cn ≤ 1 ∧ l.length = 4 ∧ lim l ∧ val l + 2 * val (la.take k) = val la + val (pl.take k) + cn * 18446744073709551616 ^ k ∧ (∀ i, k ≤ i → l.getD i 0 = la.getD i 0) ∧ wr.heap[w.heap.size]? = some (.cells (na l) 26 (0,0)) ∧ wr.heap[w.heap.size + 1]? = some (.cells #[.int .u64 0, .int .u64 0, .int .u64 0, .int .u64 0] 26 (0,0)) ∧ wr.heap[w.heap.size + 1 + 1]? = some (.cells (na pl) 26 (0,0)) ∧ wr.heap.size = w.heap.size + 1 + 1 + 1 ∧ Below w.heap.size w wr) (fun _ i _ => 4 - (intOf i).toNat)
  case atStart =>
    refine ⟨0, la, 0, by omega, rfl, rfl, by omega, ha, la', by simp [val], fun _ _ => rfl, ?_, heap_alloc_mid3 _ _ _ _, heap_alloc_last3 _ _ _ _, by simp, below3 _ _ _ _⟩
    rw [Below.heap_alloc _ _ _ (by simp; omega), Below.heap_alloc _ _ _ (by simp), heap_alloc_last]
  case round =>
    obtain ⟨k, l, cn, hk, rfl, rfl, hcn, hl, hlim, hval, hold, hrow, hr0, hrp, hsz, hbel⟩ := hrel
    by_cases hlt : k < 4
    · have hcell : wr.cell? ⟨w.heap.size, k, none⟩ = some (.int .u64 ((l.getD k 0 : Nat) : Int)) := by
        rw [cell_of_row _ _ _ _ _ _ hrow, na_get _ _ (by omega)]
      have hcellb : wr.cell? ⟨w.heap.size + 1 + 1, k, none⟩ = some (.int .u64 ((pl.getD k 0 : Nat) : Int)) := by
        rw [cell_of_row _ _ _ _ _ _ hrp, na_get _ _ (by show k < 4; omega)]
      have hfro : wr.frozen? ⟨w.heap.size, k, none⟩ = false := frozen_of_row _ _ _ _ _ hrow
      have hy := hlim k
      have hx := pl_lim k
      have HR := hide hrow
      have HP := hide hrp
      have H0 := hide hr0
      have HV := hide hval
      have HT := hide (val_take la k (by omega))
      have HTP := hide (val_take pl k (by show k < 4; omega))
      have HL := hide hlim
      have HN := hide hl
      have HO := hide hold
      have HK := hide (hold k (Nat.le_refl _))
      have HLE := hide hle
      clear hrow hr0 hrp hval hlim hl hold la' ha hle
      generalize hgy : l.getD k 0 = y at *
      generalize hgx : pl.getD k 0 = x at *
      have HX := hide hgx
      have HY := hide hgy
      clear hgx hgy
      have ha1 := sub64_nat x y cn hcn
      have HS := hide (sub_word x y cn hx hy hcn)
      have hbo : (if x < y + cn then 1 else 0 : Nat) ≤ 1 := by split <;> omega
      have hdi : (x + 18446744073709551616 - y - cn) % 18446744073709551616 < 18446744073709551616 := by omega
      generalize (x + 18446744073709551616 - y - cn) % 18446744073709551616 = r at *
      generalize (if x < y + cn then 1 else 0 : Nat) = b at *
      have b0 : (0 : Int) ≤ (k : Int) := by omega
      have b1 : (k : Int) < 4 := by omega
      go_wp2
      go_region
      go_wp2
      go_roundw
      case rel =>
        refine ⟨k + 1, l.set k r, b, by omega, by go_num, rfl, hbo, by rw [List.length_set, HN.out], lim_set HL.out _ _ hdi, ?_, ?_, ?_, ?_, ?_, ?_, ?_⟩
        · rw [HT.out, HTP.out, ← HK.out]
          exact sub_step (by rw [HN.out]; omega) rfl HY.out HS.out HV.out
        · intro i hi
          rw [getD_set_ne' (by omega), HO.out i (by omega)]
        · rw [heap_drew, heap_setCell_same _ _ _ _ _ _ HR.out, na_set]
        · rw [heap_drew, heap_setCell_other _ _ _ _ (by simp)]; exact H0.out
        · rw [heap_drew, heap_setCell_other _ _ _ _ (by simp; omega)]; exact HP.out
        · simpa [heap_drew] using hsz
        · exact (hbel.setCell (by simp) _).drew
      case measure => simp [intOf]; omega
    · obtain ⟨x0, x1, x2, x3, rfl⟩ := four hl
      have hk4 : k = 4 := by omega
      rw [hk4, List.take_of_length_le (by omega), List.take_of_length_le (by decide), pl_val] at hval
      have hlt := val_lt hlim
      rw [na4] at hrow
      have HV := hide hval
      have HL := hide hlim
      have c0 : ∀ i, wr.cell? ⟨w.heap.size, i, none⟩ = (#[.int .u64 (x0 : Int), .int .u64 (x1 : Int), .int .u64 (x2 : Int), .int .u64 (x3 : Int)] : Array Value)[i]? := fun i => cell_of_row _ _ _ _ _ _ hrow
      have d0 : ∀ i, wr.cell? ⟨w.heap.size + 1, i, none⟩ = (#[.int .u64 0, .int .u64 0, .int .u64 0, .int .u64 0] : Array Value)[i]? := fun i => cell_of_row _ _ _ _ _ _ hr0
      have hfro : ∀ i, wr.frozen? ⟨w.heap.size + 1, i, none⟩ = false := fun i => frozen_of_row _ _ _ _ _ hr0
      have HT := hide hlt
      clear hval hlim hold hlt
      go_wp2
      refine bodyPost_ret (v := .agg (na [x0, x1, x2, x3])) (by simp [results, Tryd.results74, go_sem, na4, d0]) rfl ⟨[x0, x1, x2, x3], rfl, rfl, HL.out, ?_, ?_⟩
      · have h1 := HV.out
        have h2 := HT.out
        simp only [List.length_cons, List.length_nil] at h2
        omega
      · exact ((((hbel.setCell (by simp) _).setCell (by simp) _).setCell (by simp) _).setCell (by simp) _)
end Go.Proofs.YteplbagjagimdaaDoor
