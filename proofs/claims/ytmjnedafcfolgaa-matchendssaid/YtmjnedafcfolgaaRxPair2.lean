/- Two patterns, each within parentheses: one behind the other, either of them. -/
import Derived.Test.YtmjnedafcfolgaaRxPair
import Derived.Test.YtmjnedafcfolgaaRx12
namespace Go.Proofs.Ytmjnedafcfolgaa
theorem rep_plain (a : List In) (c : Nat) (t : List Nat) (h : ¬ (c = 42 ∨ c = 43 ∨ c = 63)) : repA a (c :: t) = a ∧ repR (c :: t) = c :: t := by
  have h1 : c ≠ 42 := fun e => h (.inl e)
  have h2 : c ≠ 43 := fun e => h (.inr (.inl e))
  have h3 : c ≠ 63 := fun e => h (.inr (.inr e))
  simp [repA, repR, h1, h2, h3]
/-- What a pattern in parentheses is, or it is too deep. -/
theorem paren {a : List Nat} {x : List In} (h : patF 21 0 a = .ok x []) : (∀ u, atomF (patF 20) 0 40 (a ++ 41 :: u) = .ok x u) ∨ ∀ u, atomF (patF 20) 0 40 (a ++ 41 :: u) = .bad 4 := by
  rcases pat_ext 19 0 rfl _ _ _ h with h1 | h1
  · exact .inl (fun u => (atom_p _ _ _).trans (grp_ok (by decide) (h1 0 u (Nat.zero_le _))))
  · exact .inr (fun u => (atom_p _ _ _).trans (grp_bad (by decide) (h1 0 u (Nat.zero_le _))))
/-- A text of two patterns, either. -/
def orT (a b : List Nat) : List Nat := 40 :: (a ++ 41 :: 124 :: 40 :: (b ++ [41]))
/-- .. one behind the other. -/
def twoT (a b : List Nat) : List Nat := 40 :: (a ++ 41 :: 40 :: (b ++ [41]))
theorem c40 : ¬ (40 = 124 ∨ 40 = 41) := by decide
theorem or_bad1 {a b : List Nat} (h : ∀ u, atomF (patF 20) 0 40 (a ++ 41 :: u) = .bad 4) : patF 21 0 (orT a b) = .bad 4 := alt_one_bad c40 (h _)
theorem or_row {a b : List Nat} {x : List In} (h : ∀ u, atomF (patF 20) 0 40 (a ++ 41 :: u) = .ok x u) : rowF (patF 20) 0 ((orT a b).length + 1) (orT a b) = .ok x (124 :: 40 :: (b ++ [41])) := by
  obtain ⟨k, hk⟩ : ∃ k, (orT a b).length = k + 1 := ⟨(orT a b).length - 1, by simp [orT]⟩
  rw [hk]
  unfold orT
  rw [rowF, if_neg c40, h]
  simp only []
  rw [(rep_plain x 124 _ (by decide)).1, (rep_plain x 124 _ (by decide)).2, row_stop (.inl rfl)]
  simp
theorem or_bad2 {a b : List Nat} {x : List In} (h : ∀ u, atomF (patF 20) 0 40 (a ++ 41 :: u) = .ok x u) (h2 : ∀ u, atomF (patF 20) 0 40 (b ++ 41 :: u) = .bad 4) : patF 21 0 (orT a b) = .bad 4 := by
  obtain ⟨k, hk⟩ : ∃ k, (orT a b).length = k + 1 := ⟨(orT a b).length - 1, by simp [orT]⟩
  show altF (patF 20) 0 ((orT a b).length + 1) (orT a b) = _
  rw [altF, or_row h]
  simp only [List.head?_cons, if_true, List.tail_cons]
  rw [hk, alt_one_bad c40 (h2 [])]
theorem or_ok {a b : List Nat} {x y : List In} (h : ∀ u, atomF (patF 20) 0 40 (a ++ 41 :: u) = .ok x u) (h2 : ∀ u, atomF (patF 20) 0 40 (b ++ 41 :: u) = .ok y u) : patF 21 0 (orT a b) = .ok (eitherL x y) [] := by
  obtain ⟨k, hk⟩ : ∃ k, (orT a b).length = k + 1 := ⟨(orT a b).length - 1, by simp [orT]⟩
  show altF (patF 20) 0 ((orT a b).length + 1) (orT a b) = _
  rw [altF, or_row h]
  simp only [List.head?_cons, if_true, List.tail_cons]
  rw [hk, alt_one c40 (h2 []) (.inl rfl)]
theorem two_ok {a b : List Nat} {x y : List In} (h : ∀ u, atomF (patF 20) 0 40 (a ++ 41 :: u) = .ok x u) (h2 : ∀ u, atomF (patF 20) 0 40 (b ++ 41 :: u) = .ok y u) : patF 21 0 (twoT a b) = .ok (x ++ y) [] := by
  obtain ⟨k, hk⟩ : ∃ k, (twoT a b).length = k + 2 := ⟨(twoT a b).length - 2, by simp [twoT]; omega⟩
  have h3 : rowF (patF 20) 0 ((twoT a b).length + 1) (twoT a b) = .ok (x ++ y) [] := by
    rw [hk]
    unfold twoT
    rw [rowF, if_neg c40, h]
    simp only []
    rw [(rep_plain x 40 _ (by decide)).1, (rep_plain x 40 _ (by decide)).2, rowF, if_neg c40, h2 []]
    simp only []
    rw [show repA y [] = y from rfl, show repR [] = [] from rfl, row_nil]
    simp
  exact alt_last h3 (by simp)
theorem comp_pat {r : List Nat} {l : List In} (h : comp r = .ok l []) : ∃ x, patF 21 0 r = .ok x [] ∧ l = x ++ [stepI 6] := by
  unfold comp at h
  split at h
  · cases h
  · cases hR : patF 21 0 r with
    | bad e => rw [hR] at h; cases h
    | ok x t =>
      rw [hR] at h
      simp only [] at h
      split at h
      · rename_i ht
        subst ht
        injection h with h1 _
        exact ⟨x, rfl, h1.symm⟩
      · cases h
theorem pl_split (l : List In) (x y : Int) : (plF 0 (splitI x y :: l))[0]?.map (·.k) = some 2 := rfl
/-- Both are patterns: either of them is too deep; or it is a pattern, as is the one behind the other. -/
theorem pair_comp {a b : List Nat} {X Y : List In} (hl : a.length + b.length ≤ 200) (ha : comp a = .ok X []) (hb : comp b = .ok Y []) :
    comp (orT a b) = .bad 4 ∨ ∃ Z W, comp (orT a b) = .ok Z [] ∧ comp (twoT a b) = .ok W [] ∧ Z.length + 0 = X.length + Y.length + 1 ∧ W.length + 1 = X.length + Y.length ∧ 1 ≤ X.length ∧ 1 ≤ Y.length ∧ ∃ i, (plF 0 Z)[0]? = some i ∧ i.k = 2 := by
  obtain ⟨x, hx, rfl⟩ := comp_pat ha
  obtain ⟨y, hy, rfl⟩ := comp_pat hb
  have l1 : ¬ 256 < (orT a b).length := by simp [orT]; omega
  have l2 : ¬ 256 < (twoT a b).length := by simp [twoT]; omega
  rcases paren hx with h1 | h1
  · rcases paren hy with h2 | h2
    · refine .inr ⟨eitherL x y ++ [stepI 6], x ++ y ++ [stepI 6], comp_ok l1 (or_ok h1 h2), comp_ok l2 (two_ok h1 h2), ?_, ?_, by simp, by simp, ?_⟩
      · rw [List.length_append, eitherL_len]; simp; omega
      · simp; omega
      · exact ⟨_, rfl, rfl⟩
    · exact .inl (comp_bad l1 (or_bad2 h1 h2))
  · exact .inl (comp_bad l1 (or_bad1 h1))
end Go.Proofs.Ytmjnedafcfolgaa
