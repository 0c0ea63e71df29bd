/- What the page's own call Sign answers. -/
import Derived.Test.YtobgimpkkjaolaaGreatDoorSp2
namespace Go.Proofs.YtobgimpkkjaolaaGreatDoor
open Go.RowKit
theorem flat3 (a b c : List Nat) : [a, b, c].flatten = a ++ (b ++ c) := by simp
end Go.Proofs.YtobgimpkkjaolaaGreatDoor
