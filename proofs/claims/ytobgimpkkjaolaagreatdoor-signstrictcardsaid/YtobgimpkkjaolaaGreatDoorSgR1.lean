/- What is signed verifies: the points and numbers of it, without any program. -/
import Derived.Test.YtobgimpkkjaolaaGreatDoorSg7
import Derived.Test.YtobgimpkkjaolaaGreatDoorMg
namespace Go.Proofs.YtobgimpkkjaolaaGreatDoor
open Go.RowKit
theorem bval_sc : ∀ l : List Nat, Sc.bval l = bval l
  | [] => rfl
  | x :: t => by rw [Sc.bval, bval, bval_sc t]
theorem ll_lq : Sc.ll = lq := rfl
theorem sgs_val (a p m : List Nat) (ha : a.length = 32) : bval (sgs a p m) = (bval (sgh a p m) * bval a + bval (sgr p m)) % lq ∧ Sc.mayb (sgs a p m) = true := by
  have e : sgs a p m = Sc.bys ((Sc.bval (sgh a p m) * Sc.bval a + Sc.bval (sgr p m)) % Sc.ll) 32 := by
    unfold sgs Sc.madb
    exact if_pos ⟨hsh_len _, ha, hsh_len _⟩
  refine ⟨?_, ?_⟩
  · rw [← bval_sc, e, Sc.bv_mod, bval_sc, bval_sc, bval_sc, ll_lq]
  · unfold Sc.mayb
    rw [e]
    exact decide_eq_true (Sc.may_mod _)
theorem ver_len (p m s : List Nat) (h : s.length ≠ 64) : verB p m s = false := by
  cases hd : dec p with
  | none => exact verB_none m s hd
  | some q =>
    obtain ⟨x, y⟩ := q
    have hP : dec p = some ((⟨x, y, dec_on hd⟩ : Pt).x, (⟨x, y, dec_on hd⟩ : Pt).y) := hd
    rw [verB_some m s hP]
    unfold verP
    rw [decide_eq_false h, Bool.false_and]
end Go.Proofs.YtobgimpkkjaolaaGreatDoor
