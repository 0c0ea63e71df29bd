/- What certain patterns fit: bytes behind one another, two patterns either, one that may be left out, one between the text's ends. -/
import Derived.Test.YtmjnedafcfolgaaMt2
import Derived.Test.YtmjnedafcfolgaaRxCls
import Derived.Test.YtmjnedafcfolgaaRxPlain
import Derived.Test.YtmjnedafcfolgaaRxPair2
namespace Go.Proofs.Ytmjnedafcfolgaa
theorem has_only (c x : Nat) : hasS (onlyI c).s x ↔ x = c := by
  unfold hasS
  show (addS zs c c (x / 64)).testBit (x % 64) = true ↔ _
  rw [range_bit, decide_eq_true_iff]
  omega
theorem has_any (x : Nat) : hasS (othS zs) x := by
  unfold hasS
  show (2 ^ 64 - 1 - zs (x / 64)).testBit (x % 64) = true
  rw [show 2 ^ 64 - 1 - zs (x / 64) = 2 ^ 64 - (0 + 1) from rfl, Nat.testBit_two_pow_sub_succ (by decide)]
  rw [Nat.zero_testBit]
  simp
  omega
theorem Fr.only {s : List Nat} {c p q : Nat} : Fr [onlyI c] s p q ↔ s[p]? = some c ∧ q = p + 1 := by
  show Fr [charI (onlyI c).s] s p q ↔ _
  rw [Fr.chr]
  constructor
  · rintro ⟨x, h1, h2, h3⟩
    rw [has_only] at h2
    subst h2
    exact ⟨h1, h3⟩
  · rintro ⟨h1, h3⟩
    exact ⟨c, h1, (has_only c c).2 rfl, h3⟩
theorem clo_bytes : ∀ l : List Nat, Clo (l.map onlyI) := by
  intro l
  induction l with
  | nil => exact Clo.nil
  | cons c l ih => exact (clo_only c).app ih
/-- Bytes behind one another fit where they stand. -/
theorem Fr.bytes {s : List Nat} : ∀ (l : List Nat) (p q : Nat), Fr (l.map onlyI) s p q ↔ q = p + l.length ∧ ∀ i c, l[i]? = some c → s[p + i]? = some c := by
  intro l
  induction l with
  | nil =>
    intro p q
    show Fr [] s p q ↔ _
    rw [Fr.nil]
    constructor
    · rintro rfl; exact ⟨rfl, fun i c h => by simp at h⟩
    · rintro ⟨h, _⟩; exact h.symm
  | cons c l ih =>
    intro p q
    rw [List.map_cons, show onlyI c :: l.map onlyI = [onlyI c] ++ l.map onlyI from rfl, Fr.app (clo_only c) (clo_bytes l)]
    constructor
    · rintro ⟨r, h1, h2⟩
      obtain ⟨h0, rfl⟩ := Fr.only.1 h1
      obtain ⟨rfl, h3⟩ := (ih _ _).1 h2
      refine ⟨by simp; omega, fun i d hd => ?_⟩
      cases i with
      | zero => simp at hd; subst hd; exact h0
      | succ i =>
        simp at hd
        rw [show p + (i + 1) = p + 1 + i by omega]
        exact h3 i d hd
    · rintro ⟨rfl, h⟩
      refine ⟨p + 1, Fr.only.2 ⟨h 0 c rfl, rfl⟩, (ih _ _).2 ⟨by simp; omega, fun i d hd => ?_⟩⟩
      have := h (i + 1) d (by simpa using hd)
      rw [show p + (i + 1) = p + 1 + i by omega] at this
      exact this
theorem Fr.le {a : List In} {s : List Nat} {p q : Nat} (h : Fr a s p q) : p ≤ q := by
  obtain ⟨n, h⟩ := h
  have : ∀ {n i p j q}, Wn a s n i p j q → p ≤ q := by
    intro n i p j q h
    induction h with
    | nil => exact Nat.le_refl _
    | cons h _ ih => cases h <;> omega
  exact this h
/-! How such patterns are read. -/
def optT (a : List Nat) : List Nat := 40 :: (a ++ [41, 63])
def capT (a : List Nat) : List Nat := 94 :: 40 :: (a ++ [41, 36])
theorem opt_bad {a : List Nat} (h : ∀ u, atomF (patF 20) 0 40 (a ++ 41 :: u) = .bad 4) : patF 21 0 (optT a) = .bad 4 := alt_one_bad c40 (h [63])
theorem opt_ok {a : List Nat} {x : List In} (h : ∀ u, atomF (patF 20) 0 40 (a ++ 41 :: u) = .ok x u) : patF 21 0 (optT a) = .ok (optL x) [] := by
  have h3 : rowF (patF 20) 0 ((optT a).length + 1) (optT a) = .ok (optL x) [] := by
    obtain ⟨k, hk⟩ : ∃ k, (optT a).length = k + 1 := ⟨(optT a).length - 1, by simp [optT]⟩
    rw [hk]
    unfold optT
    rw [rowF, if_neg c40, h [63]]
    simp only []
    rw [show repR [63] = [] from rfl, row_nil, show repA x [63] = optL x from rfl]
    simp
  exact alt_last h3 (by simp)
theorem c94 : ¬ (94 = 124 ∨ 94 = 41) := by decide
theorem atm94 (pat : Nat → List Nat → Rd (List In)) (d : Nat) (t : List Nat) : atomF pat d 94 t = .ok [stepI 4] t := rfl
theorem row_36 (pat : Nat → List Nat → Rd (List In)) (d k : Nat) : rowF pat d (k + 2) [36] = .ok [stepI 5] [] := rfl
theorem cap_row {a : List Nat} : rowF (patF 20) 0 ((capT a).length + 1) (capT a) = rpre [stepI 4] (rowF (patF 20) 0 (a.length + 4) (40 :: (a ++ [41, 36]))) := by
  obtain ⟨k, hk⟩ : ∃ k, (capT a).length = k + 1 ∧ k = a.length + 3 := ⟨a.length + 3, by simp [capT], rfl⟩
  rw [hk.1]
  unfold capT
  rw [rowF, if_neg c94, atm94]
  simp only []
  rw [(rep_plain [stepI 4] 40 _ (by decide)).1, (rep_plain [stepI 4] 40 _ (by decide)).2, hk.2]
  cases rowF (patF 20) 0 (a.length + 4) (40 :: (a ++ [41, 36])) <;> rfl
theorem cap_bad {a : List Nat} (h : ∀ u, atomF (patF 20) 0 40 (a ++ 41 :: u) = .bad 4) : patF 21 0 (capT a) = .bad 4 := by
  have h3 : rowF (patF 20) 0 ((capT a).length + 1) (capT a) = .bad 4 := by
    rw [cap_row, rowF, if_neg c40, h [36]]
    rfl
  exact alt_bad h3
theorem cap_ok {a : List Nat} {x : List In} (h : ∀ u, atomF (patF 20) 0 40 (a ++ 41 :: u) = .ok x u) : patF 21 0 (capT a) = .ok ([stepI 4] ++ (x ++ [stepI 5])) [] := by
  have h3 : rowF (patF 20) 0 ((capT a).length + 1) (capT a) = .ok ([stepI 4] ++ (x ++ [stepI 5])) [] := by
    rw [cap_row, rowF, if_neg c40, h [36]]
    simp only []
    rw [(rep_plain x 36 _ (by decide)).1, (rep_plain x 36 _ (by decide)).2, row_36]
    rfl
  exact alt_last h3 (by simp)
/-- Two texts, and what a way of both in parentheses is. -/
theorem or_comp {a b : List Nat} {X Y : List In} (hl : a.length + b.length ≤ 200) (ha : comp a = .ok X []) (hb : comp b = .ok Y []) :
    comp (orT a b) = .bad 4 ∨ ∃ x y, X = x ++ [stepI 6] ∧ Y = y ++ [stepI 6] ∧ comp (orT a b) = .ok (eitherL x y ++ [stepI 6]) [] ∧ comp (optT a) = .ok (optL x ++ [stepI 6]) [] := by
  obtain ⟨x, hx, rfl⟩ := comp_pat ha
  obtain ⟨y, hy, rfl⟩ := comp_pat hb
  have l1 : ¬ 256 < (orT a b).length := by simp [orT]; omega
  have l2 : ¬ 256 < (optT a).length := by simp [optT]; omega
  rcases paren hx with h1 | h1
  · rcases paren hy with h2 | h2
    · exact .inr ⟨x, y, rfl, rfl, comp_ok l1 (or_ok h1 h2), comp_ok l2 (opt_ok h1)⟩
    · exact .inl (comp_bad l1 (or_bad2 h1 h2))
  · exact .inl (comp_bad l1 (or_bad1 h1))
theorem cap_comp {a : List Nat} {X : List In} (hl : a.length ≤ 200) (ha : comp a = .ok X []) :
    comp (capT a) = .bad 4 ∨ ∃ x, X = x ++ [stepI 6] ∧ comp (capT a) = .ok ([stepI 4] ++ (x ++ [stepI 5]) ++ [stepI 6]) [] := by
  obtain ⟨x, hx, rfl⟩ := comp_pat ha
  have l1 : ¬ 256 < (capT a).length := by simp [capT]; omega
  rcases paren hx with h1 | h1
  · exact .inr ⟨x, rfl, comp_ok l1 (cap_ok h1)⟩
  · exact .inl (comp_bad l1 (cap_bad h1))
theorem Fr.cap {x : List In} {s : List Nat} {p q : Nat} (hx : Clo x) : Fr ([stepI 4] ++ (x ++ [stepI 5])) s p q ↔ p = 0 ∧ q = s.length ∧ Fr x s 0 s.length := by
  have c4 : Clo [stepI 4] := clo_step (by decide) (by decide)
  have c5 : Clo [stepI 5] := clo_step (by decide) (by decide)
  rw [Fr.app c4 (hx.app c5)]
  constructor
  · rintro ⟨r, h1, h2⟩
    obtain ⟨rfl, rfl⟩ := Fr.fst.1 h1
    obtain ⟨t, h3, h4⟩ := (Fr.app hx c5).1 h2
    obtain ⟨rfl, rfl⟩ := Fr.lst.1 h4
    exact ⟨rfl, rfl, h3⟩
  · rintro ⟨rfl, rfl, h⟩
    exact ⟨0, Fr.fst.2 ⟨rfl, rfl⟩, (Fr.app hx c5).2 ⟨_, h, Fr.lst.2 ⟨rfl, rfl⟩⟩⟩
/-! Bytes behind backslashes, and what stands ahead of them or behind. -/
theorem esc_row_app (pat : Nat → List Nat → Rd (List In)) (d : Nat) (u : List Nat) (hu : ∀ c t, u = c :: t → ¬ (c = 42 ∨ c = 43 ∨ c = 63)) : ∀ (l : List Nat) (k : Nat), rowF pat d (k + l.length) (esc l ++ u) = rpre (l.map onlyI) (rowF pat d k u) := by
  intro l
  induction l with
  | nil =>
    intro k
    show rowF pat d k u = rpre [] (rowF pat d k u)
    cases rowF pat d k u <;> rfl
  | cons c l ih =>
    intro k
    have hr : ∀ a : List In, repA a (esc l ++ u) = a ∧ repR (esc l ++ u) = esc l ++ u := by
      intro a
      cases l with
      | nil =>
        cases u with
        | nil => exact ⟨rfl, rfl⟩
        | cons e t => exact rep_plain a e t (hu e t rfl)
      | cons e l => exact ⟨rfl, rfl⟩
    rw [show esc (c :: l) ++ u = 92 :: (c :: (esc l ++ u)) from rfl, List.length_cons, ← Nat.add_assoc, rowF, if_neg (by decide), atom_e]
    simp only []
    rw [(hr [onlyI c]).1, (hr [onlyI c]).2, ih k]
    cases rowF pat d k u <;> rfl
theorem comp_row {r : List Nat} {st : List In} (hl : r.length ≤ 256) (h : rowF (patF 20) 0 (r.length + 1) r = .ok st []) : comp r = .ok (st ++ [stepI 6]) [] := comp_ok (by omega) (alt_last h (by simp))
theorem cp_fst (l : List Nat) (h : l.length ≤ 120) : comp (94 :: esc l) = .ok ([stepI 4] ++ l.map onlyI ++ [stepI 6]) [] := by
  have h1 := esc_row_app (patF 20) 0 [] (by simp) l (l.length + 1)
  rw [List.append_nil, row_nil] at h1
  refine comp_row (by simp [esc_len]; omega) ?_
  rw [List.length_cons, rowF, if_neg c94, atm94]
  simp only []
  rw [(esc_rep l [stepI 4]).1, (esc_rep l [stepI 4]).2, esc_len, show 2 * l.length + 1 = l.length + 1 + l.length by omega, h1]
  simp [rpre]
theorem cp_lst (l : List Nat) (h : l.length ≤ 120) : comp (esc l ++ [36]) = .ok (l.map onlyI ++ [stepI 5] ++ [stepI 6]) [] := by
  have h1 := esc_row_app (patF 20) 0 [36] (by simp) l (l.length + 2)
  rw [row_36] at h1
  refine comp_row (by simp [esc_len]; omega) ?_
  rw [List.length_append, esc_len, show 2 * l.length + [36].length + 1 = l.length + 2 + l.length by simp; omega, h1]
  rfl
theorem row_dot (pat : Nat → List Nat → Rd (List In)) (d k : Nat) : rowF pat d (k + 2) [46, 42] = .ok (starL [charI (othS zs)]) [] := by
  rfl
theorem cp_any (l : List Nat) (h : l.length ≤ 120) : comp (esc l ++ [46, 42]) = .ok (l.map onlyI ++ starL [charI (othS zs)] ++ [stepI 6]) [] := by
  have h1 := esc_row_app (patF 20) 0 [46, 42] (by simp) l (l.length + 3)
  rw [row_dot] at h1
  refine comp_row (by simp [esc_len]; omega) ?_
  rw [List.length_append, esc_len, show 2 * l.length + [46, 42].length + 1 = l.length + 3 + l.length by simp; omega, h1]
  rfl
theorem cp_none : comp [] = .ok [stepI 6] [] := rfl
theorem cp_star (c : Nat) : comp [92, c, 42] = .ok (starL [onlyI c] ++ [stepI 6]) [] := rfl
theorem cp_plus (c : Nat) : comp [92, c, 43] = .ok (plusL [onlyI c] ++ [stepI 6]) [] := rfl
theorem cp_opt (c : Nat) : comp [92, c, 63] = .ok (optL [onlyI c] ++ [stepI 6]) [] := rfl
theorem cp_two (c : Nat) : comp [40, 92, c, 92, c, 41, 42] = .ok (starL [onlyI c, onlyI c] ++ [stepI 6]) [] := rfl
theorem cp_b : comp [98, 43] = .ok (plusL [onlyI 98] ++ [stepI 6]) [] := rfl
end Go.Proofs.Ytmjnedafcfolgaa
