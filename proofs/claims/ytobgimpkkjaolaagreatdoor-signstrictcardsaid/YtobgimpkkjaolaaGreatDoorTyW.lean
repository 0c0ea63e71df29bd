/- Bytes behind bytes within a region: what is the region's own, and what was there before it. -/
import Derived.Test.YtobgimpkkjaolaaGreatDoorMb
import Derived.Test.YtobgimpkkjaolaaGreatDoorTyX
namespace Go.Proofs.YtobgimpkkjaolaaGreatDoor
open Go.RowKit
def ownb (B : Nat) (l : List Nat) : STy := ⟨fun w v => Own w B v l, fun hx h => h.ext hx⟩
theorem Own.base {w : World} {B C : Nat} {v : Value} {l : List Nat} (h : Own w B v l) (hb : C ≤ B) : Own w C v l :=
  ⟨⟨h.row.1, by
    rcases h.row.2 with h1 | ⟨g, cap, cur, hv, h2, hr⟩
    · exact .inl h1
    · exact .inr ⟨g, cap, cur, hv, Nat.le_trans hb h2, hr⟩⟩, h.lim⟩
section
variable {ops : Array Oper} {Q : Exit → Act → World → Prop} {o : Oper} {T : STy} {a : Act} {w w0 : World}
end
end Go.Proofs.YtobgimpkkjaolaaGreatDoor
