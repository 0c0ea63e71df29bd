/- What the laws of this layer share: small numbers' bytes, the points that every program must know. -/
import Derived.Test.YtobgimpkkjaolaaGreatDoorOrd
namespace Go.Proofs.YtobgimpkkjaolaaGreatDoor
open Go.RowKit
theorem iff_t {p : Prop} (h : p) : true = true ↔ p := ⟨fun _ => h, fun _ => rfl⟩
theorem iff_f {p : Prop} (h : ¬ p) : false = true ↔ p := ⟨fun h => (by cases h), fun h2 => absurd h2 h⟩
end Go.Proofs.YtobgimpkkjaolaaGreatDoor
