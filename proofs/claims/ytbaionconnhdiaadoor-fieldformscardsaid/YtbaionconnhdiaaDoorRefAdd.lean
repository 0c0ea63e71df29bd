/- The page's own sums and differences, as its calls answer them, in any world. -/
import Derived.Test.YtbaionconnhdiaaDoorRefCarry
namespace Go.Proofs.YtbaionconnhdiaaDoor
open Go.RowKit
set_option maxRecDepth 100000 in
set_option maxHeartbeats 2000000 in
theorem radd_any (a b : List Int) (x y : Nat) (ha : Rep a x) (hb : Rep b y) (w : World) :
    Calls Tryd.prog 11 #[.agg (ia a), .agg (ia b)] w fun e w' => ∃ c, e = .returned (.agg (ia c)) ∧ Rep c ((x + y) % pp) ∧ Below w.heap.size w w' := by
  have hz := zeroN
  have hcarry := carry_any (adl a b 16) (by rw [adl_len, ha.len]) (fun i => by rw [adl_all a b ha.len hb.len]; have h1 := ha.ok i; have h2 := hb.ok i; omega)
  have HREP : Hid (Rep (cy (adl a b 16)) ((x + y) % pp)) := by
    refine rep_cy (by rw [adl_len, ha.len]) (fun i => by rw [adl_all a b ha.len hb.len]; have h1 := ha.ok i; have h2 := hb.ok i; omega) ?_
    rw [vi_add a b (adl a b 16) (by rw [adl_len]) (by rw [adl_len, ha.len, hb.len]) (adl_all a b ha.len hb.len)]
    exact add_rep _ _ x y ha.val hb.val
  have HA := hide ha
  have HB := hide hb
  have HC := hide hcarry
  clear ha hb hcarry
  go_enter Tryd.func11, Tryd.ntmps11
  go_wp2
  clear hz
  go_loopw [6] (fun i wr => ∃ k : Nat, k ≤ 16 ∧ i = .int .i64 k ∧ wr.heap[w.heap.size]? = some (.cells (ia (adl a b k)) 32 (0, 0)) ∧ wr.heap[w.heap.size + 1]? = some (.cells (ia b) 32 (0, 0)) ∧ wr.heap[w.heap.size + 1 + 1]? = some (.cells (ia z16) 32 (0, 0)) ∧ wr.heap.size = w.heap.size + 1 + 1 + 1 ∧ Below w.heap.size w wr) (fun i _ => 16 - (intOf i).toNat)
  case atStart => exact ⟨0, by omega, rfl, heap3_0 _ _ _ _, heap_alloc_mid3 _ _ _ _, heap_alloc_last3 _ _ _ _, by simp, below3 _ _ _ _⟩
  case round =>
    obtain ⟨k, hk, rfl, hR, hBr, hO, hS, hBe⟩ := hrel
    by_cases hlt : k < 16
    · have ck := cell_of_row _ _ k _ _ _ hR
      rw [ia_get _ _ (by rw [adl_len, HA.out.len]; omega), adl_get a b k (by rw [HA.out.len]; omega), if_neg (by omega)] at ck
      have cb := cell_of_row _ _ k _ _ _ hBr
      rw [ia_get _ _ (by rw [HB.out.len]; omega)] at cb
      have hfro : ∀ i, wr.frozen? ⟨w.heap.size, i, none⟩ = false := fun i => frozen_of_row _ _ _ _ _ hR
      have hx := HA.out.ok k
      have hy := HB.out.ok k
      have HR := hide hR
      have HBr := hide hBr
      have HO := hide hO
      clear hR hBr hO
      obtain ⟨p, hp⟩ : ∃ p, a.getD k 0 = p := ⟨_, rfl⟩
      obtain ⟨q, hq⟩ : ∃ q, b.getD k 0 = q := ⟨_, rfl⟩
      rw [hp] at ck hx
      rw [hq] at cb hy
      have HPQ := hide (And.intro hp hq)
      clear hp hq
      have b0 : (0 : Int) ≤ (k : Int) := by omega
      have b1 : (k : Int) < 16 := by omega
      go_wp2
      go_region
      go_wp2
      go_roundw
      case rel =>
        refine ⟨k + 1, by omega, by go_num, ?_, ?_, ?_, ?_, ?_⟩
        · rw [heap_drew, heap_setCell_same _ _ _ _ _ _ HR.out, ia_set, adl, HPQ.out.1, HPQ.out.2]
        · rw [heap_drew, heap_setCell_other _ _ _ _ (by simp)]; exact HBr.out
        · rw [heap_drew, heap_setCell_other _ _ _ _ (by simp; omega)]; exact HO.out
        · simpa [heap_drew] using hS
        · exact (hBe.setCell (by simp) _).drew
      case measure => simp [intOf]; omega
    · have hk16 : k = 16 := by omega
      rw [hk16] at hR
      have hw : (ia (adl a b 16)).size = 16 := by rw [ia_size, adl_len, HA.out.len]
      have dk : decide ((k : Int) < 16) = false := decide_eq_false (by omega)
      clear hk16 hlt hk
      go_wp2_with (first | (refine wpList_load_row rfl 32 (.tmp 2) rfl w.heap.size rfl 32 (ia (adl a b 16)) (0,0) (.array 16 2) hR undN rfl (by rw [hw]; exact sizeN) ?_) | fail)
      refine (HC.out _).mono ?_
      rintro e w5 ⟨rfl, b5⟩
      have hO5 := Below.heap b5 (by omega) hO
      have hw5 : (ia (cy (adl a b 16))).size = 16 := by rw [ia_size, HREP.out.len]
      have HB5 := hide (hBe.trans (b5.mono (by omega)))
      clear b5 hO hR hBr
      go_wp2_with (refine wpList_store_row rfl 32 (.tmp 4) (.tmp 19) rfl (w.heap.size + 1 + 1) (ia (cy (adl a b 16))) rfl rfl 32 (ia z16) hO5 (by rw [hw5]; exact sizeN) (by rw [hw5]; rfl) (ia_one _) ?_)
      exact bodyPost_ret_by (results_cell_row rfl _ _ (w.heap.size + 1 + 1) 32 (ia (cy (adl a b 16))) (0, 0) (.array 16 2) rfl (setRow_heap _ _ _ _ _ _ hO5) undN rfl (by rw [hw5]; exact sizeN)) rfl ⟨_, rfl, HREP.out, Below.setRow HB5.out _ _ (by omega)⟩
set_option maxRecDepth 100000 in
set_option maxHeartbeats 2000000 in
theorem rsub_any (a b : List Int) (x y : Nat) (ha : Rep a x) (hb : Rep b y) (w : World) :
    Calls Tryd.prog 13 #[.agg (ia a), .agg (ia b)] w fun e w' => ∃ c, e = .returned (.agg (ia c)) ∧ Rep c ((x + (pp - y) % pp) % pp) ∧ Below w.heap.size w w' := by
  have hz := zeroN
  have hcarry := carry_any (sbl a b 16) (by rw [sbl_len, ha.len]) (fun i => by rw [sbl_all a b ha.len hb.len]; have h1 := ha.ok i; have h2 := hb.ok i; omega)
  have HREP : Hid (Rep (cy (sbl a b 16)) ((x + (pp - y) % pp) % pp)) := by
    refine rep_cy (by rw [sbl_len, ha.len]) (fun i => by rw [sbl_all a b ha.len hb.len]; have h1 := ha.ok i; have h2 := hb.ok i; omega) ?_
    rw [vi_sub a b (sbl a b 16) (by rw [sbl_len]) (by rw [sbl_len, ha.len, hb.len]) (sbl_all a b ha.len hb.len)]
    exact sub_rep _ _ x y ha.val hb.val
  have HA := hide ha
  have HB := hide hb
  have HC := hide hcarry
  clear ha hb hcarry
  go_enter Tryd.func13, Tryd.ntmps13
  go_wp2
  clear hz
  go_loopw [6] (fun i wr => ∃ k : Nat, k ≤ 16 ∧ i = .int .i64 k ∧ wr.heap[w.heap.size]? = some (.cells (ia (sbl a b k)) 32 (0, 0)) ∧ wr.heap[w.heap.size + 1]? = some (.cells (ia b) 32 (0, 0)) ∧ wr.heap[w.heap.size + 1 + 1]? = some (.cells (ia z16) 32 (0, 0)) ∧ wr.heap.size = w.heap.size + 1 + 1 + 1 ∧ Below w.heap.size w wr) (fun i _ => 16 - (intOf i).toNat)
  case atStart => exact ⟨0, by omega, rfl, heap3_0 _ _ _ _, heap_alloc_mid3 _ _ _ _, heap_alloc_last3 _ _ _ _, by simp, below3 _ _ _ _⟩
  case round =>
    obtain ⟨k, hk, rfl, hR, hBr, hO, hS, hBe⟩ := hrel
    by_cases hlt : k < 16
    · have ck := cell_of_row _ _ k _ _ _ hR
      rw [ia_get _ _ (by rw [sbl_len, HA.out.len]; omega), sbl_get a b k (by rw [HA.out.len]; omega), if_neg (by omega)] at ck
      have cb := cell_of_row _ _ k _ _ _ hBr
      rw [ia_get _ _ (by rw [HB.out.len]; omega)] at cb
      have hfro : ∀ i, wr.frozen? ⟨w.heap.size, i, none⟩ = false := fun i => frozen_of_row _ _ _ _ _ hR
      have hx := HA.out.ok k
      have hy := HB.out.ok k
      have HR := hide hR
      have HBr := hide hBr
      have HO := hide hO
      clear hR hBr hO
      obtain ⟨p, hp⟩ : ∃ p, a.getD k 0 = p := ⟨_, rfl⟩
      obtain ⟨q, hq⟩ : ∃ q, b.getD k 0 = q := ⟨_, rfl⟩
      rw [hp] at ck hx
      rw [hq] at cb hy
      have HPQ := hide (And.intro hp hq)
      clear hp hq
      have b0 : (0 : Int) ≤ (k : Int) := by omega
      have b1 : (k : Int) < 16 := by omega
      go_wp2
      go_region
      go_wp2
      go_roundw
      case rel =>
        refine ⟨k + 1, by omega, by go_num, ?_, ?_, ?_, ?_, ?_⟩
        · rw [heap_drew, heap_setCell_same _ _ _ _ _ _ HR.out, ia_set, sbl, HPQ.out.1, HPQ.out.2]
        · rw [heap_drew, heap_setCell_other _ _ _ _ (by simp)]; exact HBr.out
        · rw [heap_drew, heap_setCell_other _ _ _ _ (by simp; omega)]; exact HO.out
        · simpa [heap_drew] using hS
        · exact (hBe.setCell (by simp) _).drew
      case measure => simp [intOf]; omega
    · have hk16 : k = 16 := by omega
      rw [hk16] at hR
      have hw : (ia (sbl a b 16)).size = 16 := by rw [ia_size, sbl_len, HA.out.len]
      have dk : decide ((k : Int) < 16) = false := decide_eq_false (by omega)
      clear hk16 hlt hk
      go_wp2_with (first | (refine wpList_load_row rfl 32 (.tmp 2) rfl w.heap.size rfl 32 (ia (sbl a b 16)) (0,0) (.array 16 2) hR undN rfl (by rw [hw]; exact sizeN) ?_) | fail)
      refine (HC.out _).mono ?_
      rintro e w5 ⟨rfl, b5⟩
      have hO5 := Below.heap b5 (by omega) hO
      have hw5 : (ia (cy (sbl a b 16))).size = 16 := by rw [ia_size, HREP.out.len]
      have HB5 := hide (hBe.trans (b5.mono (by omega)))
      clear b5 hO hR hBr
      go_wp2_with (refine wpList_store_row rfl 32 (.tmp 4) (.tmp 19) rfl (w.heap.size + 1 + 1) (ia (cy (sbl a b 16))) rfl rfl 32 (ia z16) hO5 (by rw [hw5]; exact sizeN) (by rw [hw5]; rfl) (ia_one _) ?_)
      exact bodyPost_ret_by (results_cell_row rfl _ _ (w.heap.size + 1 + 1) 32 (ia (cy (sbl a b 16))) (0, 0) (.array 16 2) rfl (setRow_heap _ _ _ _ _ _ hO5) undN rfl (by rw [hw5]; exact sizeN)) rfl ⟨_, rfl, HREP.out, Below.setRow HB5.out _ _ (by omega)⟩
end Go.Proofs.YtbaionconnhdiaaDoor
