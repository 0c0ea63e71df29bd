/- Classes of one range: what they have in them. -/
import Derived.Test.YtmjnedafcfolgaaRxDeep
import Derived.Test.YtmjnedafcfolgaaRx6
namespace Go.Proofs.Ytmjnedafcfolgaa
theorem put_bit (s : Nat → Nat) (c j i : Nat) (hi : i < 64) : (putS s c j).testBit i = ((s j).testBit i || decide (c = 64 * j + i)) := by
  unfold putS
  by_cases h : j = c / 64
  · rw [if_pos h, Nat.testBit_or, Nat.testBit_two_pow]
    congr 1
    apply decide_eq_decide.2
    omega
  · rw [if_neg h, show decide (c = 64 * j + i) = false from decide_eq_false (by omega), Bool.or_false]
theorem add_bit (n : Nat) : ∀ (s : Nat → Nat) (c j i : Nat), i < 64 → (addN s c n j).testBit i = ((s j).testBit i || decide (c ≤ 64 * j + i ∧ 64 * j + i < c + n)) := by
  induction n with
  | zero =>
    intro s c j i _
    rw [show decide (c ≤ 64 * j + i ∧ 64 * j + i < c + 0) = false from decide_eq_false (by omega), Bool.or_false]
    rfl
  | succ n ih =>
    intro s c j i hi
    rw [show addN s c (n + 1) = addN (putS s c) (c + 1) n from rfl, ih _ _ _ _ hi, put_bit _ _ _ _ hi, Bool.or_assoc]
    congr 1
    by_cases h1 : c = 64 * j + i
    · rw [decide_eq_true h1, Bool.true_or, decide_eq_true (by omega)]
    · rw [decide_eq_false h1, Bool.false_or]
      apply decide_eq_decide.2
      omega
/-- What is in a range. -/
theorem range_bit (a b x : Nat) : (addS zs a b (x / 64)).testBit (x % 64) = decide (a ≤ x ∧ x ≤ b) := by
  unfold addS
  rw [add_bit _ _ _ _ _ (Nat.mod_lt _ (by decide))]
  show (Nat.testBit 0 _ || _) = _
  rw [Nat.zero_testBit, Bool.false_or, Nat.div_add_mod]
  apply decide_eq_decide.2
  omega
theorem addS_lt (a b j : Nat) : addS zs a b j < 18446744073709551616 := add_lt (s := zs) (fun _ => by unfold zs; decide) (b + 1 - a) a j
/-- The set of a class of one range, turned about or not. -/
def clS (nt : Bool) (a b : Nat) : Nat → Nat := if nt then othS (addS zs a b) else addS zs a b
theorem clS_lt (nt : Bool) (a b j : Nat) : clS nt a b j < 18446744073709551616 := by
  cases nt with
  | false => exact addS_lt a b j
  | true => exact oth_lt _ j
theorem clS_bit (nt : Bool) (a b x : Nat) : (clS nt a b (x / 64)).testBit (x % 64) = (decide (a ≤ x ∧ x ≤ b) != nt) := by
  cases nt with
  | false =>
    show (addS zs a b _).testBit _ = _
    rw [range_bit]
    cases decide (a ≤ x ∧ x ≤ b) <;> rfl
  | true =>
    show (othS (addS zs a b) _).testBit _ = _
    unfold othS
    rw [show 2 ^ 64 - 1 - addS zs a b (x / 64) = 2 ^ 64 - (addS zs a b (x / 64) + 1) by omega, Nat.testBit_two_pow_sub_succ (addS_lt a b _), range_bit, decide_eq_true (Nat.mod_lt x (show 0 < 64 by decide))]
    cases decide (a ≤ x ∧ x ≤ b) <;> rfl
theorem span_one (a b : Nat) : spanS [92, a, 45, 92, b, 93] = if a ≤ b then some (a, b, [93]) else none := rfl
theorem cls_one (a b : Nat) (h : a ≤ b) (k : Nat) : clsF (k + 1) zs [92, a, 45, 92, b, 93] = .ok (addS zs a b) [] := by
  rw [clsF, span_one, if_pos h]
  rfl
theorem cls_rev (a b : Nat) (h : ¬ a ≤ b) (k : Nat) : clsF (k + 1) zs [92, a, 45, 92, b, 93] = .bad 3 := by
  rw [clsF, span_one, if_neg h]
theorem atom_k (pat : Nat → List Nat → Rd (List In)) (d : Nat) (t : List Nat) : atomF pat d 91 t = classS t := rfl
/-- The pattern of one range. -/
def clP (nt : Bool) (a b : Nat) : List Nat := if nt then [91, 94, 92, a, 45, 92, b, 93] else [91, 92, a, 45, 92, b, 93]
theorem class_one (a b : Nat) (h : a ≤ b) : classS [92, a, 45, 92, b, 93] = .ok [charI (clS false a b)] [] := by
  unfold classS
  rw [if_neg (by simp), cls_one a b h]
  rfl
theorem class_not (a b : Nat) (h : a ≤ b) : classS [94, 92, a, 45, 92, b, 93] = .ok [charI (clS true a b)] [] := by
  unfold classS
  rw [if_pos (show ([94, 92, a, 45, 92, b, 93] : List Nat).head? = some 94 from rfl), List.tail_cons, cls_one a b h]
  rfl
theorem class_rev (a b : Nat) (h : ¬ a ≤ b) : classS [92, a, 45, 92, b, 93] = .bad 3 ∧ classS [94, 92, a, 45, 92, b, 93] = .bad 3 := by
  constructor
  · unfold classS
    rw [if_neg (by simp), cls_rev a b h]
  · unfold classS
    rw [if_pos (show ([94, 92, a, 45, 92, b, 93] : List Nat).head? = some 94 from rfl), List.tail_cons, cls_rev a b h]
theorem cl_ok (nt : Bool) (a b : Nat) (h : a ≤ b) : comp (clP nt a b) = .ok [charI (clS nt a b), stepI 6] [] := by
  have h1 : patF 21 0 (clP nt a b) = .ok [charI (clS nt a b)] [] := by
    cases nt with
    | false => exact alt_one (by decide) ((atom_k _ _ _).trans (class_one a b h)) (.inl rfl)
    | true => exact alt_one (by decide) ((atom_k _ _ _).trans (class_not a b h)) (.inl rfl)
  unfold comp
  rw [if_neg (by cases nt <;> simp [clP]), h1]
  rfl
theorem cl_rev (nt : Bool) (a b : Nat) (h : ¬ a ≤ b) : comp (clP nt a b) = .bad 3 := by
  have h1 : patF 21 0 (clP nt a b) = .bad 3 := by
    cases nt with
    | false => exact alt_one_bad (by decide) ((atom_k _ _ _).trans (class_rev a b h).1)
    | true => exact alt_one_bad (by decide) ((atom_k _ _ _).trans (class_rev a b h).2)
  unfold comp
  rw [if_neg (by cases nt <;> simp [clP]), h1]
end Go.Proofs.Ytmjnedafcfolgaa
