/- Bytes behind backslashes: how such patterns are read. -/
import Derived.Test.YtmjnedafcfolgaaRxDeep
namespace Go.Proofs.Ytmjnedafcfolgaa
/-- Each byte behind a backslash. -/
def esc : List Nat → List Nat
  | [] => []
  | c :: l => 92 :: c :: esc l
theorem esc_app (a : List Nat) (c : Nat) : esc (a ++ [c]) = esc a ++ [92, c] := by
  induction a with
  | nil => rfl
  | cons x a ih => simp [esc, ih]
theorem esc_len (l : List Nat) : (esc l).length = 2 * l.length := by
  induction l with
  | nil => rfl
  | cons c l ih => simp [esc, ih]; omega
theorem esc_rep (l : List Nat) (a : List In) : repA a (esc l) = a ∧ repR (esc l) = esc l := by
  cases l with
  | nil => exact ⟨rfl, rfl⟩
  | cons c l => exact ⟨rfl, rfl⟩
theorem atom_e (pat : Nat → List Nat → Rd (List In)) (d c : Nat) (t : List Nat) : atomF pat d 92 (c :: t) = .ok [onlyI c] t := rfl
theorem esc_row (pat : Nat → List Nat → Rd (List In)) (d : Nat) : ∀ (l : List Nat) (k : Nat), l.length < k → rowF pat d k (esc l) = .ok (l.map onlyI) [] := by
  intro l
  induction l with
  | nil =>
    intro k hk
    obtain ⟨k, rfl⟩ : ∃ k', k = k' + 1 := ⟨k - 1, by simp at hk; omega⟩
    rfl
  | cons c l ih =>
    intro k hk
    obtain ⟨k, rfl⟩ : ∃ k', k = k' + 1 := ⟨k - 1, by simp at hk; omega⟩
    rw [show esc (c :: l) = 92 :: (c :: esc l) from rfl, rowF, if_neg (by decide), atom_e]
    simp only []
    rw [(esc_rep l [onlyI c]).1, (esc_rep l [onlyI c]).2, ih k (by simp at hk; omega)]
    rfl
theorem esc_pat (l : List Nat) : patF 21 0 (esc l) = .ok (l.map onlyI) [] := by
  have h1 := esc_row (patF 20) 0 l ((esc l).length + 1) (by rw [esc_len]; omega)
  exact alt_last h1 (by simp)
theorem cp_esc (l : List Nat) (h : l.length ≤ 128) : comp (esc l) = .ok (l.map onlyI ++ [stepI 6]) [] := by
  unfold comp
  rw [if_neg (by rw [esc_len]; omega), esc_pat]
  rfl
/-- Steps that none of the placed kinds are stay. -/
theorem pl_only (c n : Nat) : plI n (onlyI c) = onlyI c := by
  unfold plI
  rw [if_neg (by show ¬ ((1 : Int) = 2); decide), if_neg (by show ¬ ((1 : Int) = 3); decide)]
theorem only_set (c j : Nat) : (onlyI c).s j = if j = c / 64 then 2 ^ (c % 64) else 0 := by
  show addS zs c c j = _
  unfold addS
  rw [show c + 1 - c = 1 by omega]
  show putS zs c j = _
  unfold putS zs
  split <;> simp
end Go.Proofs.Ytmjnedafcfolgaa
