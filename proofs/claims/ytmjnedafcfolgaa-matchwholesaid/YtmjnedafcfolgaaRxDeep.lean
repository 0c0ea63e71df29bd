/- Parentheses within one another: how such patterns are read. -/
import Derived.Test.YtmjnedafcfolgaaRx11
namespace Go.Proofs.Ytmjnedafcfolgaa
/-- Where a pattern ends. -/
def Stop (u : List Nat) : Prop := u = [] ∨ u.head? = some 41
theorem Stop.rep {u : List Nat} (h : Stop u) (a : List In) : repA a u = a ∧ repR u = u := by
  rcases h with rfl | h
  · exact ⟨rfl, rfl⟩
  · unfold repA repR
    rw [h]
    exact ⟨rfl, rfl⟩
theorem Stop.row {u : List Nat} (h : Stop u) (pat : Nat → List Nat → Rd (List In)) (d k : Nat) : rowF pat d (k + 1) u = .ok [] u := by
  rcases h with rfl | h
  · rfl
  · obtain ⟨v, rfl⟩ := head_of h
    exact row_stop (.inr rfl)
theorem Stop.bar {u : List Nat} (h : Stop u) : u.head? ≠ some 124 := by
  rcases h with rfl | h
  · simp
  · rw [h]; simp
/-- A pattern of one atom. -/
theorem alt_one {pat : Nat → List Nat → Rd (List In)} {d k c : Nat} {t u : List Nat} {a : List In} (hc : ¬ (c = 124 ∨ c = 41)) (ha : atomF pat d c t = .ok a u) (hu : Stop u) : altF pat d (k + 1) (c :: t) = .ok a u := by
  have h1 : rowF pat d ((c :: t).length + 1) (c :: t) = .ok a u := by
    rw [rowF, if_neg hc, ha]
    simp only []
    rw [(hu.rep a).1, (hu.rep a).2, List.length_cons, hu.row]
    simp
  exact alt_last h1 hu.bar
theorem alt_one_bad {pat : Nat → List Nat → Rd (List In)} {d k c e : Nat} {t : List Nat} (hc : ¬ (c = 124 ∨ c = 41)) (ha : atomF pat d c t = .bad e) : altF pat d (k + 1) (c :: t) = .bad e := alt_bad (row_bad hc ha)
theorem atom_a (pat : Nat → List Nat → Rd (List In)) (d : Nat) (t : List Nat) : atomF pat d 97 t = .ok [onlyI 97] t := rfl
theorem atom_p (pat : Nat → List Nat → Rd (List In)) (d : Nat) (t : List Nat) : atomF pat d 40 t = groupF pat d t := rfl
theorem deep_ok : ∀ (n f d : Nat) (u : List Nat), f + d = 20 → d + n ≤ 20 → Stop u → patF (f + 1) d (List.replicate n 40 ++ 97 :: (List.replicate n 41 ++ u)) = .ok [onlyI 97] u := by
  intro n
  induction n with
  | zero => intro f d u _ _ hu; exact alt_one (by decide) (atom_a _ _ _) hu
  | succ n ih =>
    intro f d u hf hd hu
    obtain ⟨f, rfl⟩ : ∃ f', f = f' + 1 := ⟨f - 1, by omega⟩
    have h1 := ih f (d + 1) (41 :: u) (by omega) (by omega) (.inr rfl)
    rw [show List.replicate (n + 1) 41 ++ u = List.replicate n 41 ++ 41 :: u by rw [List.replicate_succ']; simp]
    rw [List.replicate_succ, List.cons_append]
    exact alt_one (by decide) ((atom_p _ _ _).trans (grp_ok (by omega) h1)) hu
theorem deep_many : ∀ (n f d : Nat) (v : List Nat), f + d = 20 → 20 < d + n → patF (f + 1) d (List.replicate n 40 ++ v) = .bad 4 := by
  intro n
  induction n with
  | zero => intro f d v hf hd; omega
  | succ n ih =>
    intro f d v hf hd
    rw [List.replicate_succ, List.cons_append]
    by_cases h20 : d = 20
    · subst h20
      exact alt_one_bad (by decide) ((atom_p _ _ _).trans grp_20)
    · obtain ⟨f, rfl⟩ : ∃ f', f = f' + 1 := ⟨f - 1, by omega⟩
      exact alt_one_bad (by decide) ((atom_p _ _ _).trans (grp_bad h20 (ih f (d + 1) v (by omega) (by omega))))
theorem deep_open : ∀ (n f d : Nat), f + d = 20 → d + (n + 1) ≤ 20 → patF (f + 1) d (List.replicate (n + 1) 40 ++ [97]) = .bad 3 := by
  intro n
  induction n with
  | zero =>
    intro f d hf hd
    obtain ⟨f, rfl⟩ : ∃ f', f = f' + 1 := ⟨f - 1, by omega⟩
    have h1 := deep_ok 0 f (d + 1) [] (by omega) (by omega) (.inl rfl)
    exact alt_one_bad (by decide) ((atom_p _ _ _).trans (grp_open (by omega) h1 (by simp)))
  | succ n ih =>
    intro f d hf hd
    obtain ⟨f, rfl⟩ : ∃ f', f = f' + 1 := ⟨f - 1, by omega⟩
    rw [List.replicate_succ, List.cons_append]
    exact alt_one_bad (by decide) ((atom_p _ _ _).trans (grp_bad (by omega) (ih f (d + 1) (by omega) (by omega))))
theorem cd_ok (n : Nat) (h : n ≤ 20) : comp (List.replicate n 40 ++ 97 :: List.replicate n 41) = .ok [onlyI 97, stepI 6] [] := by
  have h1 := deep_ok n 20 0 [] rfl (by omega) (.inl rfl)
  rw [List.append_nil] at h1
  unfold comp
  rw [if_neg (by simp; omega), h1]
  rfl
theorem cd_more (n : Nat) (h : n ≤ 20) : comp (List.replicate n 40 ++ 97 :: (List.replicate n 41 ++ [41])) = .bad 3 := by
  have h1 := deep_ok n 20 0 [41] rfl (by omega) (.inr rfl)
  unfold comp
  rw [if_neg (by simp; omega), h1]
  rfl
theorem cd_many (n : Nat) (h : 20 < n) (h2 : n < 30) : comp (List.replicate n 40 ++ 97 :: List.replicate n 41) = .bad 4 := by
  have h1 := deep_many n 20 0 (97 :: List.replicate n 41) rfl (by omega)
  unfold comp
  rw [if_neg (by simp; omega), h1]
theorem cd_open (n : Nat) (h : n + 1 ≤ 20) : comp (List.replicate (n + 1) 40 ++ [97]) = .bad 3 := by
  have h1 := deep_open n 20 0 rfl (by omega)
  unfold comp
  rw [if_neg (by simp; omega), h1]
theorem cd_none : comp [97] = .ok [onlyI 97, stepI 6] [] := cd_ok 0 (by omega)
end Go.Proofs.Ytmjnedafcfolgaa
