/- The page's own small numbers and which numbers are odd, as its calls answer, in any world. -/
import Derived.Test.YtbaionconnhdiaaDoorRefBytes
import Derived.Shelf.Spec.TrailingZeros
namespace Go.Proofs.YtbaionconnhdiaaDoor
open Go.RowKit
/-- A small number's rows. -/
def smr (n : Nat) : List Int := [(n : Int) % 65536, (n : Int) / 65536, 0, 0, 0, 0, 0, 0, 0, 0, 0, 0, 0, 0, 0, 0]
theorem smr_rep (n : Nat) (hn : n < 4294967296) : Rep (smr n) n := by
  refine ⟨rfl, fun i => ?_, ?_⟩
  · unfold smr
    match i with
    | 0 => simp only [List.getD_cons_zero]; omega
    | 1 => simp only [List.getD_cons_zero, List.getD_cons_succ]; omega
    | i + 2 =>
      simp only [List.getD_cons_succ]
      have : ∀ j, ([0, 0, 0, 0, 0, 0, 0, 0, 0, 0, 0, 0, 0, 0] : List Int).getD j 0 = 0 := fun j => by
        rw [show ([0, 0, 0, 0, 0, 0, 0, 0, 0, 0, 0, 0, 0, 0] : List Int) = List.replicate 14 0 from rfl, List.getD_eq_getElem?_getD, List.getElem?_replicate]
        split <;> rfl
      rw [this]; decide
  · unfold smr
    simp only [vi]
    omega
theorem and_low (n : Nat) (hn : n < 4294967296) : bits .and .u32 (n : Int) 65535 = (n : Int) % 65536 := by
  have h := bits_and_u32_nat n 65535 hn (by decide)
  rw [show (65535 : Nat) = 2 ^ 16 - 1 from rfl, Nat.and_two_pow_sub_one_eq_mod] at h
  rw [show (n : Int) % 65536 = ((n % 2 ^ 16 : Nat) : Int) by simp]
  exact h
theorem and_bit (n : Nat) (hn : n < 256) : bits .and .u8 (n : Int) 1 = ((n % 2 : Nat) : Int) := by
  have : ∀ i : Fin 256, bits .and .u8 ((i.val : Nat) : Int) 1 = ((i.val % 2 : Nat) : Int) := by decide +kernel
  exact this ⟨n, hn⟩
set_option maxRecDepth 100000 in
set_option maxHeartbeats 1000000 in
theorem rsmall_any (n : Nat) (hn : n < 4294967296) (w : World) :
    Calls Tryd.prog 20 #[.int .u32 (n : Int)] w fun e w' => e = .returned (.agg (ia (smr n))) ∧ Below w.heap.size w w' := by
  have hz : ∀ w, (zeroValue 32).run Tryd.prog w = .ok (.agg #[.int .i64 0, .int .i64 0, .int .i64 0, .int .i64 0, .int .i64 0, .int .i64 0, .int .i64 0, .int .i64 0, .int .i64 0, .int .i64 0, .int .i64 0, .int .i64 0, .int .i64 0, .int .i64 0, .int .i64 0, .int .i64 0]) w := zeroN
  have ha := and_low n hn
  go_enter Tryd.func20, Tryd.ntmps20
  go_wp2_with (refine wpList_store_row rfl 32 (.tmp 2) (.tmp 9) rfl w.heap.size (ia (smr n)) rfl rfl 32 (ia z16) (heap_alloc_last _ _) sizeN rfl (ia_one _) ?_)
  exact bodyPost_ret_by (results_cell_row rfl _ _ w.heap.size 32 (ia (smr n)) (0, 0) (.array 16 2) rfl (setRow_heap _ _ _ _ _ _ (heap_alloc_last _ _)) undN rfl sizeN) rfl ⟨rfl, Below.setRow ((Below.refl _ _).alloc (Nat.le_refl _) _) _ _ (Nat.le_refl _)⟩
set_option maxRecDepth 100000 in
set_option maxHeartbeats 1000000 in
theorem rodd_any (l : List Int) (x : Nat) (h : Rep l x) (w : World) :
    Calls Tryd.prog 25 #[.agg (ia l)] w fun e w' => e = .returned (.bool (decide (x % 2 = 1))) ∧ Below w.heap.size w w' := by
  have HC := hide (rbytes_any l x h)
  have hw0 : (ia l).size = 16 := by rw [ia_size, h.len]
  have hlt : byt x 0 < 256 := by unfold byt; omega
  have ho := and_bit (byt x 0) hlt
  have hp : x % 2 = byt x 0 % 2 := by unfold byt; omega
  rw [hp]
  obtain ⟨y, hy⟩ : ∃ y, byt x 0 = y := ⟨_, rfl⟩
  rw [hy] at hlt ho ⊢
  obtain ⟨q, hq⟩ : ∃ q, y % 2 = q := ⟨_, rfl⟩
  rw [hq] at ho ⊢
  have HY := hide hy
  clear h hp hy hq
  have hrow0 := heap_alloc_last w (.cells (ia l) 32)
  go_enter Tryd.func25, Tryd.ntmps25
  go_wp2_with (first | (refine wpList_load_row rfl 32 (.tmp 1) rfl w.heap.size rfl 32 (ia l) (0,0) (.array 16 2) hrow0 undN rfl (by rw [hw0]; exact sizeN) ?_) | fail)
  refine (HC.out _).mono ?_
  rintro e w1 ⟨g, cap, rfl, hg, hc1, hc2, hcell, hb⟩
  have HB := hide (Below.chain ((Below.refl w.heap.size w).alloc (Nat.le_refl _) (.cells (ia l) 32)) hb)
  have c0 := hcell 0 (by decide)
  rw [HY.out] at c0
  clear hb hcell hrow0
  go_wp2
  go_ret
  refine ⟨?_, HB.out⟩
  show Ending.returned (.bool ((q : Int) == 1)) = _
  congr 2
  rw [Bool.eq_iff_iff]; simp; omega
end Go.Proofs.YtbaionconnhdiaaDoor
