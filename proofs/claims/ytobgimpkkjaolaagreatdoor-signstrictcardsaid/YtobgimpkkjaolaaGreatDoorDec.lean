/- Roots are found where there are any; a point's bytes are read as it. Plain arithmetic modulo p. -/
import Derived.Test.YtobgimpkkjaolaaGreatDoorOrd
namespace Go.Proofs.YtobgimpkkjaolaaGreatDoor
open Go.RowKit
theorem bys31 (x : Nat) : (bys x 32).getD 31 0 = byt x 31 := by rw [bys_get _ _ _ (Nat.le_refl _), if_pos (by decide)]
theorem getD_set {l : List Nat} {k v : Nat} (hk : k < l.length) : (l.set k v).getD k 0 = v := by
  rw [List.getD_eq_getElem?_getD, List.getElem?_set]
  simp [hk]
theorem neg_par {x : Kp} (h : x ≠ 0) : (-x).val % 2 = 1 ↔ ¬ x.val % 2 = 1 := by
  rw [kval_neg]
  have := neg_odd x.val (k_ne.1 h) x.isLt
  rw [← decide_not, decide_eq_decide] at this
  exact this
theorem ev_even (x : Kp) : ¬ (ev x).val % 2 = 1 := by
  unfold ev
  by_cases h : x.val % 2 = 1
  · rw [if_pos h]
    have hx : x ≠ 0 := fun e => by rw [e, kval_zero] at h; exact absurd h (by decide)
    rw [neg_par hx]
    exact fun h2 => h2 h
  · rw [if_neg h]; exact h
theorem ev_sq (x : Kp) : ev x * ev x = x * x := by
  unfold ev
  split
  · grind
  · rfl
theorem neg_zero' : (-0 : Kp) = 0 := by decide +kernel
end Go.Proofs.YtobgimpkkjaolaaGreatDoor
