/- The difference of two numbers modulo p, as the program's call answers it, in any world. -/
import Derived.Test.YteplbagjagimdaaDoorElem
namespace Go.Proofs.YteplbagjagimdaaDoor
open Go.RowKit
theorem pp_mod (n : Nat) : n % pp < pp := Nat.mod_lt _ pp_pos
set_option maxRecDepth 100000 in
set_option maxHeartbeats 1000000 in
theorem sub_any (x y : Nat) (hx : x < pp) (hy : y < pp) (w : World) :
    Calls Tryd.prog 61 #[.agg (el x), .agg (el y)] w fun e w' => e = .returned (.agg (el ((x + (pp - y) % pp) % pp))) ∧ Below w.heap.size w w' := by
  have hneg := neg_any y hy
  have hadd := add_any x ((pp - y) % pp) hx (pp_mod _)
  obtain ⟨a, b, c, d, he, hb, hv⟩ := el_open x hx
  obtain ⟨a', b', c', d', he', hb', hv'⟩ := el_open y hy
  obtain ⟨r, s, t, u, hr, hbr, hvr⟩ := el_open ((x + (pp - y) % pp) % pp) (pp_mod _)
  rw [hr] at hadd ⊢
  rw [he] at hadd ⊢
  rw [he'] at hneg ⊢
  generalize el ((pp - y) % pp) = N at *
  have HE := hide (And.intro he (And.intro he' hr))
  clear he he' hr hb hb' hbr hv hv' hvr hx hy
  go_enter Tryd.func61, Tryd.ntmps61
  go_wp2
  go_region_with (first
    | (go_at_call 53; refine (hneg _).mono ?_; rintro e w1 ⟨rfl, hb1⟩; obtain ⟨x1, y1⟩ := row_reads (Below.heap hb1 (g := w.heap.size) (by simp; omega) (heap3_0 _ _ _ _)))
    | (go_at_call 63; refine (hadd _).mono ?_; rintro e w2 ⟨rfl, hb2⟩; obtain ⟨x2, y2⟩ := row_reads (Below.heap hb2 (g := w.heap.size + 1 + 1) (by have := hb1.size; simp at this ⊢; omega) (Below.heap hb1 (g := w.heap.size + 1 + 1) (by simp) (heap_alloc_last3 _ _ _ _)))))
  all_goals
    have HO2 := hide (Below.heap hb2 (g := w.heap.size + 1 + 1) (by have := hb1.size; simp at this ⊢; omega) (Below.heap hb1 (g := w.heap.size + 1 + 1) (by simp) (heap_alloc_last3 _ _ _ _)))
    have HB2 := hide (((below3 w _ _ _).drew.trans (hb1.mono (by simp; omega))).trans (hb2.mono (by have := hb1.size; simp at this ⊢; omega)))
    clear hb1 hb2 x1 y1 x2 y2
    go_wp2
    exact bodyPost_ret_by (results_cell_row rfl _ _ (w.heap.size + 1 + 1) 28 _ (0, 0) _ rfl (set4_row HO2.out) Tryd.underlying28 rfl (by kernel_rfl)) rfl ⟨rfl, Below.set4 HB2.out (by omega) _ _ _ _⟩
end Go.Proofs.YteplbagjagimdaaDoor
