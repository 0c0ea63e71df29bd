/- What is signed verifies: the points and numbers of it, without any program. -/
import Derived.Test.YtobgimpkkjaolaaDoorSg7
import Derived.Test.YtobgimpkkjaolaaDoorSg5
namespace Go.Proofs.YtobgimpkkjaolaaDoor
open Go.RowKit
theorem bval_sc : ∀ l : List Nat, Sc.bval l = bval l
  | [] => rfl
  | x :: t => by rw [Sc.bval, bval, bval_sc t]
theorem ll_lq : Sc.ll = lq := rfl
theorem mul_mod (n : Nat) : Pt.mul (n % lq) Bp = Pt.mul n Bp := by
  conv => rhs; rw [← Nat.div_add_mod n lq]
  rw [mul_add', ← mul_mul', l_base, mul_zero', zero_add']
theorem mul_negs (q : Nat) (A : Pt) : (Pt.mul q A).add (Pt.mul q A.neg) = .zero := by rw [← mul_sum, add_neg', mul_zero']
theorem right_pt (q a r : Nat) : (Pt.mul ((q * a + r) % lq) Bp).add (Pt.mul q (Pt.mul a Bp).neg) = Pt.mul r Bp := by
  rw [mul_mod, mul_add', Nat.mul_comm q a, ← mul_mul', add_comm' (Pt.mul q (Pt.mul a Bp)), add_assoc', mul_negs, add_zero']
theorem take32 {l : List Nat} (h : l.length = 32) : l.take 32 = l := List.take_of_length_le (by omega)
theorem sgs_val (a p m : List Nat) (ha : a.length = 32) : bval (sgs a p m) = (bval (sgh a p m) * bval a + bval (sgr p m)) % lq ∧ Sc.mayb (sgs a p m) = true := by
  have e : sgs a p m = Sc.bys ((Sc.bval (sgh a p m) * Sc.bval a + Sc.bval (sgr p m)) % Sc.ll) 32 := by
    unfold sgs Sc.madb
    exact if_pos ⟨hsh_len _, ha, hsh_len _⟩
  refine ⟨?_, ?_⟩
  · rw [← bval_sc, e, Sc.bv_mod, bval_sc, bval_sc, bval_sc, ll_lq]
  · unfold Sc.mayb
    rw [e]
    exact decide_eq_true (Sc.may_mod _)
/-- The signature of a secret verifies. -/
theorem ver_right (a p m : List Nat) (ha : a.length = 32) : verB (pubOf a) m (sigOf a p m) = true := by
  have hd : dec (pubOf a) = some ((Pt.mul (bval (a.take 32)) Bp).x, (Pt.mul (bval (a.take 32)) Bp).y) := dec_pkb _
  rw [verB_some m _ hd]
  have hl := sigOf_len a p m ha
  have hR := pubOf_len (sgr p m)
  have hS := sgs_len a p m ha
  have e1 : (sigOf a p m).take 32 = pubOf (sgr p m) := by unfold sigOf; rw [List.take_append_of_le_length (by omega), take32 hR]
  have e2 : (sigOf a p m).drop 32 = sgs a p m := by unfold sigOf; rw [List.drop_append_of_le_length (by omega), List.drop_of_length_le (by omega), List.nil_append]
  have hr : (sgr p m).length = 32 := hsh_len _
  have hq : (sgh a p m).length = 32 := hsh_len _
  obtain ⟨v1, v2⟩ := sgs_val a p m ha
  unfold verP
  rw [e1, e2, v2, decide_eq_true hl, take32 hS, v1]
  show (true && (true && decide (pkP ((Pt.mul ((bval (sgh a p m) * bval a + bval (sgr p m)) % lq) Bp).add (Pt.mul (bval ((sgh a p m).take 32)) (Pt.mul (bval (a.take 32)) Bp).neg)) = pubOf (sgr p m)))) = true
  rw [take32 hq, take32 ha, right_pt]
  unfold pubOf
  rw [take32 hr]
  simp
theorem ver_seed (k m : List Nat) (hk : k.length = 32) : verB (pubB k) m (sigB k m) = true := by
  unfold pubB sigB
  rw [if_pos hk, if_pos hk]
  exact ver_right _ _ _ (scn_len k)
/-- A signature of another length does not. -/
theorem ver_len (p m s : List Nat) (h : s.length ≠ 64) : verB p m s = false := by
  cases hd : dec p with
  | none => exact verB_none m s hd
  | some q =>
    obtain ⟨x, y⟩ := q
    have hP : dec p = some ((⟨x, y, dec_on hd⟩ : Pt).x, (⟨x, y, dec_on hd⟩ : Pt).y) := hd
    rw [verB_some m s hP]
    unfold verP
    rw [decide_eq_false h, Bool.false_and]
end Go.Proofs.YtobgimpkkjaolaaDoor
