/- The number that every program must know: the law's own test answers true, in any world. -/
import Derived.Test.YtbaionconnhdiaaDoorBytes
namespace Go.Proofs.YtbaionconnhdiaaDoor
open Go.RowKit
theorem awake_num : (2 + (pp - 3) % pp) % pp = 57896044618658097711785492504343953926634992332820282019728792003956564819948 := by decide +kernel
theorem Below.chain {w a b : World} (h : Below w.heap.size w a) (k : Below a.heap.size a b) : Below w.heap.size w b := h.trans (k.mono h.size)
/-- What a slice of bytes holds. -/
theorem bys_cell {w : World} {g x : Nat} (h : w.heap[g]? = some (.cells (ba (bys x 32)) 5 (0, 0))) (i : Nat) (hi : i < 32) : w.cell? ⟨g, i, none⟩ = some (.int .u8 ((byt x i : Nat) : Int)) := by
  rw [cell_of_row _ _ _ _ _ _ h, ba_get _ _ (by rw [bys_len]; exact hi), bys_get _ _ _ (Nat.le_refl _), if_pos hi]
set_option maxRecDepth 100000 in
set_option maxHeartbeats 1000000 in
theorem awake_any (w : World) : Calls Tryd.prog 6 #[] w fun e w' => e = .returned (.bool true) ∧ Below w.heap.size w w' := by
  have h2 := small_any 2 (by decide)
  have h3 := small_any 3 (by decide)
  have hs := sub_any 2 3 (by decide) (by decide)
  rw [awake_num] at hs
  have hb := bytes_any 57896044618658097711785492504343953926634992332820282019728792003956564819948 (by decide)
  go_enter Tryd.func6, Tryd.ntmps6
  go_wp2_with fail
  refine (h2 _).mono ?_
  rintro e w1 ⟨rfl, b1⟩
  go_wp2_with fail
  refine (h3 _).mono ?_
  rintro e w2 ⟨rfl, b2⟩
  go_wp2_with fail
  refine (hs _).mono ?_
  rintro e w3 ⟨rfl, b3⟩
  go_wp2_with fail
  refine (hb _).mono ?_
  rintro e w4 ⟨g, rfl, hg1, hg2, hrow, b4⟩
  have c0 := bys_cell hrow 0 (by decide)
  have c1 := bys_cell hrow 1 (by decide)
  have c31 := bys_cell hrow 31 (by decide)
  rw [show byt 57896044618658097711785492504343953926634992332820282019728792003956564819948 0 = 236 by decide +kernel] at c0
  rw [show byt 57896044618658097711785492504343953926634992332820282019728792003956564819948 1 = 255 by decide +kernel] at c1
  rw [show byt 57896044618658097711785492504343953926634992332820282019728792003956564819948 31 = 127 by decide +kernel] at c31
  have HB := hide (Below.chain (Below.chain (Below.chain b1 b2) b3) b4)
  clear h2 h3 hs hb b1 b2 b3 b4 hrow hg1
  go_wp2
  go_ret
  exact ⟨rfl, HB.out⟩
end Go.Proofs.YtbaionconnhdiaaDoor
