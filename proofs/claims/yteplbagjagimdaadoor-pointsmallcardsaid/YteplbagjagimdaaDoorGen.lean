/- The operations' contracts, once more, for numbers however they are written. -/
import Derived.Test.YteplbagjagimdaaDoorAwake
import Derived.Test.YteplbagjagimdaaDoorFrom
import Derived.Test.YteplbagjagimdaaDoorRing
namespace Go.Proofs.YteplbagjagimdaaDoor
open Go.RowKit
theorem neg_gen {A : Array Value} {x : Nat} (hA : A = el x) (hx : x < pp) (w : World) : Calls Tryd.prog 53 #[.agg A] w fun e w' => e = .returned (.agg (el ((pp - x) % pp))) ∧ Below w.heap.size w w' := by
  subst hA; exact neg_any x hx w
theorem add_gen {A B : Array Value} {x y : Nat} (hA : A = el x) (hB : B = el y) (hx : x < pp) (hy : y < pp) (w : World) : Calls Tryd.prog 63 #[.agg A, .agg B] w fun e w' => e = .returned (.agg (el ((x + y) % pp))) ∧ Below w.heap.size w w' := by
  subst hA hB; exact add_any x y hx hy w
theorem sub_gen {A B : Array Value} {x y : Nat} (hA : A = el x) (hB : B = el y) (hx : x < pp) (hy : y < pp) (w : World) : Calls Tryd.prog 61 #[.agg A, .agg B] w fun e w' => e = .returned (.agg (el ((x + (pp - y) % pp) % pp))) ∧ Below w.heap.size w w' := by
  subst hA hB; exact sub_any x y hx hy w
theorem mul_gen {A B : Array Value} {x y : Nat} (hA : A = el x) (hB : B = el y) (hx : x < pp) (hy : y < pp) (w : World) : Calls Tryd.prog 58 #[.agg A, .agg B] w fun e w' => e = .returned (.agg (el (x * y % pp))) ∧ Below w.heap.size w w' := by
  subst hA hB; exact mul_any x y hx hy w
theorem same_gen {A B : Array Value} {x y : Nat} (hA : A = el x) (hB : B = el y) (hx : x < pp) (hy : y < pp) (h : x = y) (w : World) : Calls Tryd.prog 54 #[.agg A, .agg B] w fun e w' => e = .returned (.bool true) ∧ Below w.heap.size w w' := by
  subst hA hB; have := same_any x y hx hy w; rwa [decide_eq_true h] at this
theorem isOdd_gen {A : Array Value} {x : Nat} {v : Bool} (hA : A = el x) (hx : x < pp) (h : decide (x % 2 = 1) = v) (w : World) : Calls Tryd.prog 43 #[.agg A] w fun e w' => e = .returned (.bool v) ∧ Below w.heap.size w w' := by
  subst hA; have := isOdd_any x hx w; rwa [h] at this
end Go.Proofs.YteplbagjagimdaaDoor
