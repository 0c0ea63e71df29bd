/- A number twice, and one bit more, as the program's call answers it, in any world. -/
import Derived.Test.YtmaolpinppnijaaDoorOrder
namespace Go.Proofs.YtmaolpinppnijaaDoor
open Go.RowKit
theorem or_bit (x c : Nat) (hc : c ≤ 1) : bits .or .u64 (((x * 2 % 18446744073709551616 : Nat) : Int)) (c : Int) = (((x * 2 + c) % 18446744073709551616 : Nat) : Int) := by
  rw [bits_or_u64_nat _ _ (by omega) (by omega)]
  have e : x * 2 % 18446744073709551616 = 2 ^ 1 * (x % 9223372036854775808) := by omega
  rw [e, ← Nat.two_pow_add_eq_or_of_lt (by omega)]
  congr 1; omega
set_option maxRecDepth 100000 in
set_option maxHeartbeats 1000000 in
theorem bring_list (la : List Nat) (bt : Nat) (hbt : bt ≤ 1) (ha : la.length = 4) (la' : lim la) (w : World) :
    Calls Tryd.prog 30 #[.agg (na la), .int .u64 (bt : Int)] w fun e w' => ∃ (l : List Nat) (c : Nat), e = .returned (.agg (na l)) ∧ l.length = 4 ∧ lim l ∧ val l + c * 115792089237316195423570985008687907853269984665640564039457584007913129639936 = 2 * val la + bt ∧ Below w.heap.size w w' := by
  go_enter Tryd.func30, Tryd.ntmps30
  go_wp2
  go_loopw [1, 6] (fun c i wr => ∃ (k : Nat) (l : List Nat) (cn : Nat), k ≤ 4 ∧ i = .int .i64 k ∧ c = .int .u64 (cn : Int) ∧ cn ≤ 1 ∧ l.length = 4 ∧ lim l ∧ val l + cn * 18446744073709551616 ^ k + val (la.take k) = (val la + bt) + 2 * val (la.take k) ∧ (∀ i, k ≤ i → l.getD i 0 = la.getD i 0) ∧ wr.heap[w.heap.size]? = some (.cells (na l) 35 (0,0)) ∧ wr.heap[w.heap.size + 1]? = some (.cells #[.int .u64 0, .int .u64 0, .int .u64 0, .int .u64 0] 35 (0,0)) ∧ wr.heap.size = w.heap.size + 1 + 1 ∧ Below w.heap.size w wr) (fun _ i _ => 4 - (intOf i).toNat)
  case atStart =>
    exact ⟨0, la, bt, by omega, rfl, rfl, hbt, ha, la', by simp [val], fun _ _ => rfl, heap2_0 _ _ _, heap2_1 _ _ _, by simp, below2 _ _ _⟩
  case round =>
    obtain ⟨k, l, cn, hk, rfl, rfl, hcn, hl, hlim, hval, hold, hrow, hr0, hsz, hbel⟩ := hrel
    by_cases hlt : k < 4
    · have hcell : wr.cell? ⟨w.heap.size, k, none⟩ = some (.int .u64 ((l.getD k 0 : Nat) : Int)) := by
        rw [cell_of_row _ _ _ _ _ _ hrow, na_get _ _ (by omega)]
      have hfro : wr.frozen? ⟨w.heap.size, k, none⟩ = false := frozen_of_row _ _ _ _ _ hrow
      have hx := hlim k
      have HR := hide hrow
      have H0 := hide hr0
      have HV := hide hval
      have HT := hide (val_take la k (by omega))
      have HL := hide hlim
      have HN := hide hl
      have HO := hide hold
      have HK := hide (hold k (Nat.le_refl _))
      clear hrow hr0 hval hlim hl hold la' ha
      generalize hgx : l.getD k 0 = x at *
      have HX := hide hgx
      clear hgx
      have b0 : (0 : Int) ≤ (k : Int) := by omega
      have b1 : (k : Int) < 4 := by omega
      obtain ⟨q, hq⟩ : ∃ q, (x * 2 + cn) / 18446744073709551616 = q := ⟨_, rfl⟩
      obtain ⟨r, hr⟩ : ∃ r, (x * 2 + cn) % 18446744073709551616 = r := ⟨_, rfl⟩
      have hor : bits .or .u64 (IntKind.u64.wrap ((x : Int) * 2)) (cn : Int) = (r : Int) := by
        rw [← hr, ← or_bit x cn hcn, IntKind.wrap_u64]; congr 1
      have hsh : (x : Int) / 9223372036854775808 = (q : Int) := by omega
      have HQ := hide hq
      have HRr := hide hr
      have hq1 : q ≤ 1 := by omega
      clear hq hr
      go_wp2
      go_region
      go_wp2
      go_roundw
      case rel =>
        refine ⟨k + 1, l.set k r, q, by omega, by go_num, rfl, hq1, by rw [List.length_set, HN.out], lim_set HL.out _ _ ?_, ?_, ?_, ?_, ?_, ?_, ?_⟩
        · have := HRr.out; omega
        · rw [HT.out, ← HK.out, ← HQ.out, ← HRr.out]
          exact scale_step (by rw [HN.out]; omega) rfl HX.out HV.out
        · intro i hi
          rw [getD_set_ne' (by omega), HO.out i (by omega)]
        · rw [heap_drew, heap_setCell_same _ _ _ _ _ _ HR.out, na_set]
        · rw [heap_drew, heap_setCell_other _ _ _ _ (by simp)]; exact H0.out
        · simpa [heap_drew] using hsz
        · exact (hbel.setCell (by simp) _).drew
      case measure => simp [intOf]; omega
    · obtain ⟨x0, x1, x2, x3, rfl⟩ := four hl
      have hk4 : k = 4 := by omega
      rw [hk4, List.take_of_length_le (by omega)] at hval
      rw [na4] at hrow
      have HV := hide hval
      have HL := hide hlim
      obtain ⟨rl, rfl'⟩ := row_reads hrow
      obtain ⟨r0, rf0⟩ := row_reads hr0
      clear hval hlim hold hr0 hrow
      go_wp2
      refine bodyPost_ret (v := .agg (na [x0, x1, x2, x3])) (by simp [results, Tryd.results30, go_sem, na4, r0]) rfl ⟨[x0, x1, x2, x3], cn, rfl, rfl, HL.out, ?_, Below.set4 hbel (by omega) _ _ _ _⟩
      have := HV.out
      rw [show (18446744073709551616 : Nat) ^ 4 = 115792089237316195423570985008687907853269984665640564039457584007913129639936 from rfl] at this
      omega
theorem bring_any (x bt : Nat) (hbt : bt ≤ 1) (hx : x < ll) (w : World) :
    Calls Tryd.prog 30 #[.agg (el x), .int .u64 (bt : Int)] w fun e w' => e = .returned (.agg (el (2 * x + bt))) ∧ Below w.heap.size w w' := by
  have hx' : x < 7237005577332262213973186563042994240857116359379907606001950938285454250989 := hx
  obtain ⟨a, b, c, d, he, hb, hv⟩ := el_open x (by omega)
  rw [he, ← na4]
  refine (bring_list [a, b, c, d] bt hbt rfl (lim4_mk hb) w).mono ?_
  rintro e w' ⟨l, c, rfl, hl, hlim, hvl, hbel⟩
  rw [hv] at hvl
  have hll := val_lt hlim
  exact ⟨by rw [el_na hl hlim (x := 2 * x + bt) (by omega)], hbel⟩
end Go.Proofs.YtmaolpinppnijaaDoor
