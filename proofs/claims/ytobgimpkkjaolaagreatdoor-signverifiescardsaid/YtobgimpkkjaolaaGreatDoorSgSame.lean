/- Of one seed and one message all is the same: the law SignSame answers true for all bytes, in any world where the order, the exponent and the hash's tables lie as the program's text lays them. -/
import Derived.Test.YtobgimpkkjaolaaGreatDoorMg
namespace Go.Proofs.YtobgimpkkjaolaaGreatDoor
open Go.RowKit
theorem len_pubB {l : List Nat} (h : l.length = 32) : (pubB l).length = 32 := by unfold pubB; rw [if_pos h]; exact pubOf_len _
theorem len_sigB {l : List Nat} (m : List Nat) (h : l.length = 32) : (sigB l m).length = 64 := by unfold sigB; rw [if_pos h]; exact sigOf_len _ _ _ (scn_len l)
theorem no_pubB {l : List Nat} (h : l.length ≠ 32) : pubB l = [] := if_neg h
theorem no_sigB {l : List Nat} (m : List Nat) (h : l.length ≠ 32) : sigB l m = [] := if_neg h
theorem nil_bs (w : World) : BsAt w (.slice none 0 0) [] := ⟨0, 0, 0, none, rfl, Nat.le_refl _, by unfold maxLen; omega, by simp, fun h => absurd rfl h⟩
theorem Own.nilv {w : World} {b : Nat} {v : Value} (h : Own w b v []) : ∃ ao c, v = .slice ao 0 c := by
  obtain ⟨ao, c, e, _, _⟩ := h.at.len
  exact ⟨ao, c, e⟩
end Go.Proofs.YtobgimpkkjaolaaGreatDoor
