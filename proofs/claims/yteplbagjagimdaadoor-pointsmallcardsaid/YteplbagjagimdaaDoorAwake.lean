/- Chains of worlds, and what a slice of bytes holds. -/
import Derived.Test.YteplbagjagimdaaDoorBytes
namespace Go.Proofs.YteplbagjagimdaaDoor
open Go.RowKit
theorem Below.chain {w a b : World} (h : Below w.heap.size w a) (k : Below a.heap.size a b) : Below w.heap.size w b := h.trans (k.mono h.size)
/-- What a slice of bytes holds. -/
theorem bys_cell {w : World} {g x : Nat} (h : w.heap[g]? = some (.cells (ba (bys x 32)) 5 (0, 0))) (i : Nat) (hi : i < 32) : w.cell? ⟨g, i, none⟩ = some (.int .u8 ((byt x i : Nat) : Int)) := by
  rw [cell_of_row _ _ _ _ _ _ h, ba_get _ _ (by rw [bys_len]; exact hi), bys_get _ _ _ (Nat.le_refl _), if_pos hi]
end Go.Proofs.YteplbagjagimdaaDoor
