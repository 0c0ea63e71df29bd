/- The page's own keys and signatures: what its calls Public and Sign answer. -/
import Derived.Test.YtobgimpkkjaolaaGreatDoorSp1
namespace Go.Proofs.YtobgimpkkjaolaaGreatDoor
open Go.RowKit
end Go.Proofs.YtobgimpkkjaolaaGreatDoor
