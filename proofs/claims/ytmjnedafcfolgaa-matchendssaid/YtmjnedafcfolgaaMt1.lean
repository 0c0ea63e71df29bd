/- Ways through steps whose X and Y tell how far: what they take of a text. -/
import Derived.Test.YtmjnedafcfolgaaRxMath
namespace Go.Proofs.Ytmjnedafcfolgaa
/-- A set has a byte. -/
def hasS (s : Nat → Nat) (c : Nat) : Prop := (s (c / 64)).testBit (c % 64) = true
/-- A step, ahead of byte number p, leads to step j ahead of byte number q. -/
inductive Go1 (l : List In) (s : List Nat) : Nat → Nat → Nat → Nat → Prop
  | chr {i p c : Nat} {x : In} : l[i]? = some x → x.k = 1 → s[p]? = some c → hasS x.s c → Go1 l s i p (i + 1) (p + 1)
  | spx {i p j : Nat} {x : In} : l[i]? = some x → x.k = 2 → (j : Int) = x.x + i → Go1 l s i p j p
  | spy {i p j : Nat} {x : In} : l[i]? = some x → x.k = 2 → (j : Int) = x.y + i → Go1 l s i p j p
  | jmp {i p j : Nat} {x : In} : l[i]? = some x → x.k = 3 → (j : Int) = x.x + i → Go1 l s i p j p
  | fst {i p : Nat} {x : In} : l[i]? = some x → x.k = 4 → p = 0 → Go1 l s i p (i + 1) p
  | lst {i p : Nat} {x : In} : l[i]? = some x → x.k = 5 → p = s.length → Go1 l s i p (i + 1) p
/-- A way of so many steps. -/
inductive Wn (l : List In) (s : List Nat) : Nat → Nat → Nat → Nat → Nat → Prop
  | nil {i p : Nat} : Wn l s 0 i p i p
  | cons {n i p j q k r : Nat} : Go1 l s i p j q → Wn l s n j q k r → Wn l s (n + 1) i p k r
/-- All targets of a row of steps lie in it, or just behind it. -/
def Clo (l : List In) : Prop := ∀ (i : Nat) (x : In), l[i]? = some x → (x.k = 2 → (0 ≤ x.x + i ∧ x.x + i ≤ l.length) ∧ (0 ≤ x.y + i ∧ x.y + i ≤ l.length)) ∧ (x.k = 3 → 0 ≤ x.x + i ∧ x.x + i ≤ l.length)
/-- A row of steps fits the text from p to q. -/
def Fr (l : List In) (s : List Nat) (p q : Nat) : Prop := ∃ n, Wn l s n 0 p l.length q
theorem Go1.lt {l : List In} {s : List Nat} {i p j q : Nat} (h : Go1 l s i p j q) : i < l.length := by
  cases h <;> rename_i h <;> exact (List.getElem?_eq_some_iff.1 ‹l[i]? = some _›).1
theorem Go1.at {l m : List In} {s : List Nat} {i p j q a : Nat} (h : Go1 l s i p j q) (hm : m[a + i]? = l[i]?) : Go1 m s (a + i) p (a + j) q := by
  cases h with
  | chr h1 h2 h3 h4 => exact .chr (hm.trans h1) h2 h3 h4
  | spx h1 h2 h3 => exact .spx (hm.trans h1) h2 (by omega)
  | spy h1 h2 h3 => exact .spy (hm.trans h1) h2 (by omega)
  | jmp h1 h2 h3 => exact .jmp (hm.trans h1) h2 (by omega)
  | fst h1 h2 h3 => exact .fst (hm.trans h1) h2 h3
  | lst h1 h2 h3 => exact .lst (hm.trans h1) h2 h3
theorem Go1.of {l m : List In} {s : List Nat} {i p j q a : Nat} (hc : Clo l) (h : Go1 m s (a + i) p j q) (hm : m[a + i]? = l[i]?) (hi : i < l.length) : ∃ j', j = a + j' ∧ j' ≤ l.length ∧ Go1 l s i p j' q := by
  have go : ∀ x, m[a + i]? = some x → l[i]? = some x := fun x hx => hm ▸ hx
  cases h with
  | chr h1 h2 h3 h4 => exact ⟨i + 1, by omega, hi, .chr (go _ h1) h2 h3 h4⟩
  | spx h1 h2 h3 =>
    have := ((hc i _ (go _ h1)).1 h2).1
    exact ⟨j - a, by omega, by omega, .spx (go _ h1) h2 (by omega)⟩
  | spy h1 h2 h3 =>
    have := ((hc i _ (go _ h1)).1 h2).2
    exact ⟨j - a, by omega, by omega, .spy (go _ h1) h2 (by omega)⟩
  | jmp h1 h2 h3 =>
    have := (hc i _ (go _ h1)).2 h2
    exact ⟨j - a, by omega, by omega, .jmp (go _ h1) h2 (by omega)⟩
  | fst h1 h2 h3 => exact ⟨i + 1, by omega, hi, .fst (go _ h1) h2 h3⟩
  | lst h1 h2 h3 => exact ⟨i + 1, by omega, hi, .lst (go _ h1) h2 h3⟩
theorem Wn.add {l : List In} {s : List Nat} {n m i p j q k r : Nat} (h : Wn l s n i p j q) (h2 : Wn l s m j q k r) : Wn l s (n + m) i p k r := by
  induction h with
  | nil => rw [Nat.zero_add]; exact h2
  | cons h _ ih => rw [Nat.add_right_comm]; exact .cons h (ih h2)
theorem Wn.one {l : List In} {s : List Nat} {i p j q : Nat} (h : Go1 l s i p j q) : Wn l s 1 i p j q := .cons h .nil
theorem Wn.off {l : List In} {s : List Nat} {n i p k q : Nat} (h : Wn l s n i p k q) (hi : l.length ≤ i) : k = i ∧ q = p := by
  cases h with
  | nil => exact ⟨rfl, rfl⟩
  | cons h _ => have := h.lt; omega
/-- m holds l from step a on. -/
def Sub (m : List In) (a : Nat) (l : List In) : Prop := ∀ i, i < l.length → m[a + i]? = l[i]?
theorem Sub.mid (x l y : List In) : Sub (x ++ l ++ y) x.length l := fun i hi => by
  rw [List.append_assoc, List.getElem?_append_right (by omega), List.getElem?_append_left (by omega)]
  congr 1; omega
theorem Wn.at {l m : List In} {s : List Nat} {n i p j q a : Nat} (hm : Sub m a l) (h : Wn l s n i p j q) : Wn m s n (a + i) p (a + j) q := by
  induction h with
  | nil => exact .nil
  | cons h _ ih => exact .cons (h.at (hm _ h.lt)) ih
/-- A way that leaves a row of steps leaves it at its end. -/
theorem Wn.exit {l m : List In} {s : List Nat} {a : Nat} (hc : Clo l) (hm : Sub m a l) : ∀ (n i p k q : Nat), i ≤ l.length → (k < a ∨ a + l.length ≤ k) → Wn m s n (a + i) p k q → ∃ n1 n2 r, Wn l s n1 i p l.length r ∧ Wn m s n2 (a + l.length) r k q ∧ n = n1 + n2 := by
  intro n
  induction n with
  | zero =>
    intro i p k q hi hk h
    cases h
    obtain rfl : i = l.length := by omega
    exact ⟨0, 0, p, .nil, .nil, rfl⟩
  | succ n ih =>
    intro i p k q hi hk h
    by_cases hl : i = l.length
    · subst hl
      exact ⟨0, n + 1, p, .nil, h, by omega⟩
    · cases h with
      | cons h1 h2 =>
        obtain ⟨j', rfl, hj, g⟩ := h1.of hc (hm _ (by omega)) (by omega)
        obtain ⟨n1, n2, r, w1, w2, e⟩ := ih j' _ _ _ hj hk h2
        exact ⟨n1 + 1, n2, r, .cons g w1, w2, by omega⟩
theorem Fr.at {l m : List In} {s : List Nat} {p q a : Nat} (hm : Sub m a l) (h : Fr l s p q) : ∃ n, Wn m s n a p (a + l.length) q := by
  obtain ⟨n, h⟩ := h
  exact ⟨n, h.at (a := a) hm⟩
theorem Clo.nil : Clo [] := fun i x h => by simp at h
theorem Clo.app {a b : List In} (ha : Clo a) (hb : Clo b) : Clo (a ++ b) := by
  intro i x h
  rw [List.length_append]
  by_cases hi : i < a.length
  · rw [List.getElem?_append_left hi] at h
    obtain ⟨h1, h2⟩ := ha i x h
    exact ⟨fun e => by have := h1 e; omega, fun e => by have := h2 e; omega⟩
  · rw [List.getElem?_append_right (by omega)] at h
    obtain ⟨h1, h2⟩ := hb _ x h
    exact ⟨fun e => by have := h1 e; omega, fun e => by have := h2 e; omega⟩
theorem Clo.one {x : In} (h2 : x.k ≠ 2) (h3 : x.k ≠ 3) : Clo [x] := by
  intro i y h
  cases i with
  | zero => simp at h; subst h; exact ⟨fun e => absurd e h2, fun e => absurd e h3⟩
  | succ i => simp at h
/-- A row of steps between two others, of which each leads nowhere but into the whole. -/
theorem Clo.mid {x y l : List In} (hl : Clo l) (hx : ∀ (i : Nat) (z : In), x[i]? = some z → (z.k = 2 → (0 ≤ z.x + i ∧ z.x + i ≤ (x.length + l.length + y.length : Nat)) ∧ (0 ≤ z.y + i ∧ z.y + i ≤ (x.length + l.length + y.length : Nat))) ∧ (z.k = 3 → 0 ≤ z.x + i ∧ z.x + i ≤ (x.length + l.length + y.length : Nat)))
    (hy : ∀ (i : Nat) (z : In), y[i]? = some z → (z.k = 2 → (0 ≤ z.x + (x.length + l.length + i : Nat) ∧ z.x + (x.length + l.length + i : Nat) ≤ (x.length + l.length + y.length : Nat)) ∧ (0 ≤ z.y + (x.length + l.length + i : Nat) ∧ z.y + (x.length + l.length + i : Nat) ≤ (x.length + l.length + y.length : Nat))) ∧ (z.k = 3 → 0 ≤ z.x + (x.length + l.length + i : Nat) ∧ z.x + (x.length + l.length + i : Nat) ≤ (x.length + l.length + y.length : Nat))) : Clo (x ++ l ++ y) := by
  intro i z h
  rw [List.length_append, List.length_append]
  by_cases h1 : i < x.length
  · rw [List.append_assoc, List.getElem?_append_left h1] at h
    obtain ⟨h2, h3⟩ := hx i z h
    exact ⟨fun e => by have := h2 e; omega, fun e => by have := h3 e; omega⟩
  · by_cases h2 : i < x.length + l.length
    · rw [List.append_assoc, List.getElem?_append_right (by omega), List.getElem?_append_left (by omega)] at h
      obtain ⟨h3, h4⟩ := hl _ z h
      exact ⟨fun e => by have := h3 e; omega, fun e => by have := h4 e; omega⟩
    · rw [List.getElem?_append_right (by rw [List.length_append]; omega), List.length_append] at h
      obtain ⟨h3, h4⟩ := hy _ z h
      rw [show x.length + l.length + (i - (x.length + l.length)) = i by omega] at h3 h4
      exact ⟨fun e => by have := h3 e; omega, fun e => by have := h4 e; omega⟩
theorem either_eq (a b : List In) : eitherL a b = [splitI 1 ((a.length : Int) + 2)] ++ a ++ (jumpI ((b.length : Int) + 1) :: b) := by simp [eitherL]
theorem star_eq (a : List In) : starL a = [splitI 1 ((a.length : Int) + 2)] ++ a ++ [jumpI (-(a.length : Int) - 1)] := by simp [starL]
theorem plus_eq (a : List In) : plusL a = [] ++ a ++ [splitI (-(a.length : Int)) 1] := by simp [plusL]
theorem opt_eq (a : List In) : optL a = [splitI 1 ((a.length : Int) + 1)] ++ a ++ [] := by simp [optL]
theorem sing {z w : In} {i : Nat} (h : [w][i]? = some z) : i = 0 ∧ w = z := by
  cases i with
  | zero => simp at h; exact ⟨rfl, h⟩
  | succ i => simp at h
theorem split_k (x y : Int) : (splitI x y).k = 2 ∧ (splitI x y).x = x ∧ (splitI x y).y = y := ⟨rfl, rfl, rfl⟩
theorem jump_k (x : Int) : (jumpI x).k = 3 ∧ (jumpI x).x = x := ⟨rfl, rfl⟩
theorem Clo.either {a b : List In} (ha : Clo a) (hb : Clo b) : Clo (eitherL a b) := by
  rw [either_eq]
  refine ha.mid (fun i z h => ?_) (fun i z h => ?_)
  · obtain ⟨rfl, rfl⟩ := sing h
    refine ⟨fun _ => ?_, fun e => absurd e (by show ¬ ((2 : Int) = 3); decide)⟩
    rw [(split_k _ _).2.1, (split_k _ _).2.2]
    simp; omega
  · cases i with
    | zero =>
      simp at h
      subst h
      refine ⟨fun e => absurd e (by show ¬ ((3 : Int) = 2); decide), fun _ => ?_⟩
      rw [(jump_k _).2]
      simp; omega
    | succ i =>
      simp only [List.getElem?_cons_succ] at h
      obtain ⟨h1, h2⟩ := hb i z h
      simp only [List.length_cons, List.length_nil]
      exact ⟨fun e => by have := h1 e; omega, fun e => by have := h2 e; omega⟩
theorem Clo.star {a : List In} (ha : Clo a) : Clo (starL a) := by
  rw [star_eq]
  refine ha.mid (fun i z h => ?_) (fun i z h => ?_)
  · obtain ⟨rfl, rfl⟩ := sing h
    refine ⟨fun _ => ?_, fun e => absurd e (by show ¬ ((2 : Int) = 3); decide)⟩
    rw [(split_k _ _).2.1, (split_k _ _).2.2]
    simp; omega
  · obtain ⟨rfl, rfl⟩ := sing h
    refine ⟨fun e => absurd e (by show ¬ ((3 : Int) = 2); decide), fun _ => ?_⟩
    rw [(jump_k _).2]
    simp; omega
theorem Clo.plus {a : List In} (ha : Clo a) : Clo (plusL a) := by
  rw [plus_eq]
  refine ha.mid (fun i z h => by simp at h) (fun i z h => ?_)
  obtain ⟨rfl, rfl⟩ := sing h
  refine ⟨fun _ => ?_, fun e => absurd e (by show ¬ ((2 : Int) = 3); decide)⟩
  rw [(split_k _ _).2.1, (split_k _ _).2.2]
  simp; omega
theorem Clo.opt {a : List In} (ha : Clo a) : Clo (optL a) := by
  rw [opt_eq]
  refine ha.mid (fun i z h => ?_) (fun i z h => by simp at h)
  obtain ⟨rfl, rfl⟩ := sing h
  refine ⟨fun _ => ?_, fun e => absurd e (by show ¬ ((2 : Int) = 3); decide)⟩
  rw [(split_k _ _).2.1, (split_k _ _).2.2]
  simp; omega
/-! What each row of steps fits. -/
theorem Fr.nil {s : List Nat} {p q : Nat} : Fr [] s p q ↔ p = q := by
  constructor
  · rintro ⟨n, h⟩
    exact (h.off (by simp)).2.symm
  · rintro rfl; exact ⟨0, .nil⟩
theorem Fr.app {a b : List In} {s : List Nat} {p q : Nat} (ha : Clo a) (hb : Clo b) : Fr (a ++ b) s p q ↔ ∃ r, Fr a s p r ∧ Fr b s r q := by
  have sa : Sub (a ++ b) 0 a := fun i hi => by rw [Nat.zero_add, List.getElem?_append_left hi]
  have sb : Sub (a ++ b) a.length b := fun i hi => by rw [List.getElem?_append_right (by omega)]; congr 1; omega
  constructor
  · rintro ⟨n, h⟩
    obtain ⟨n1, n2, r, w1, w2, _⟩ := Wn.exit ha sa n 0 p _ q (Nat.zero_le _) (.inr (by rw [List.length_append]; omega)) h
    rw [Nat.zero_add] at w2
    obtain ⟨n3, n4, r', w3, w4, _⟩ := Wn.exit hb sb n2 0 r _ q (Nat.zero_le _) (.inr (by rw [List.length_append]; omega)) w2
    rw [List.length_append] at w4
    obtain ⟨_, e⟩ := w4.off (by rw [List.length_append]; omega)
    subst e
    exact ⟨r, ⟨n1, w1⟩, ⟨n3, w3⟩⟩
  · rintro ⟨r, h1, h2⟩
    obtain ⟨n1, w1⟩ := h1.at sa
    obtain ⟨n2, w2⟩ := h2.at sb
    rw [Nat.zero_add] at w1
    exact ⟨n1 + n2, by rw [List.length_append]; exact w1.add w2⟩
theorem Fr.chr {s : List Nat} {t : Nat → Nat} {p q : Nat} : Fr [charI t] s p q ↔ ∃ c, s[p]? = some c ∧ hasS t c ∧ q = p + 1 := by
  constructor
  · rintro ⟨n, h⟩
    cases h with
    | cons h1 h2 =>
      cases h1 with
      | chr e1 _ e3 e4 =>
        simp at e1
        subst e1
        exact ⟨_, e3, e4, (h2.off (by simp)).2⟩
      | spx e1 e2 => simp at e1; subst e1; cases e2
      | spy e1 e2 => simp at e1; subst e1; cases e2
      | jmp e1 e2 => simp at e1; subst e1; cases e2
      | fst e1 e2 => simp at e1; subst e1; cases e2
      | lst e1 e2 => simp at e1; subst e1; cases e2
  · rintro ⟨c, h1, h2, rfl⟩
    exact ⟨1, Wn.one (.chr (x := charI t) rfl rfl h1 h2)⟩
theorem Fr.fst {s : List Nat} {p q : Nat} : Fr [stepI 4] s p q ↔ p = 0 ∧ q = p := by
  constructor
  · rintro ⟨n, h⟩
    cases h with
    | cons h1 h2 =>
      cases h1 with
      | chr e1 e2 => simp at e1; subst e1; cases e2
      | spx e1 e2 => simp at e1; subst e1; cases e2
      | spy e1 e2 => simp at e1; subst e1; cases e2
      | jmp e1 e2 => simp at e1; subst e1; cases e2
      | fst e1 e2 e3 => exact ⟨e3, (h2.off (by simp)).2⟩
      | lst e1 e2 => simp at e1; subst e1; cases e2
  · rintro ⟨h1, rfl⟩
    exact ⟨1, Wn.one (.fst (x := stepI 4) rfl rfl h1)⟩
theorem Fr.lst {s : List Nat} {p q : Nat} : Fr [stepI 5] s p q ↔ p = s.length ∧ q = p := by
  constructor
  · rintro ⟨n, h⟩
    cases h with
    | cons h1 h2 =>
      cases h1 with
      | chr e1 e2 => simp at e1; subst e1; cases e2
      | spx e1 e2 => simp at e1; subst e1; cases e2
      | spy e1 e2 => simp at e1; subst e1; cases e2
      | jmp e1 e2 => simp at e1; subst e1; cases e2
      | fst e1 e2 => simp at e1; subst e1; cases e2
      | lst e1 e2 e3 => exact ⟨e3, (h2.off (by simp)).2⟩
  · rintro ⟨h1, rfl⟩
    exact ⟨1, Wn.one (.lst (x := stepI 5) rfl rfl h1)⟩
/-- What the first step of a row does that is a split. -/
theorem Go1.split {l : List In} {s : List Nat} {i p j q : Nat} {u v : Int} (h : Go1 l s i p j q) (hx : l[i]? = some (splitI u v)) : q = p ∧ ((j : Int) = u + i ∨ (j : Int) = v + i) := by
  cases h with
  | chr e1 e2 => rw [hx] at e1; injection e1 with e1; subst e1; cases e2
  | spx e1 e2 e3 => rw [hx] at e1; injection e1 with e1; subst e1; exact ⟨rfl, .inl e3⟩
  | spy e1 e2 e3 => rw [hx] at e1; injection e1 with e1; subst e1; exact ⟨rfl, .inr e3⟩
  | jmp e1 e2 => rw [hx] at e1; injection e1 with e1; subst e1; cases e2
  | fst e1 e2 => rw [hx] at e1; injection e1 with e1; subst e1; cases e2
  | lst e1 e2 => rw [hx] at e1; injection e1 with e1; subst e1; cases e2
theorem Go1.jump {l : List In} {s : List Nat} {i p j q : Nat} {u : Int} (h : Go1 l s i p j q) (hx : l[i]? = some (jumpI u)) : q = p ∧ (j : Int) = u + i := by
  cases h with
  | chr e1 e2 => rw [hx] at e1; injection e1 with e1; subst e1; cases e2
  | spx e1 e2 e3 => rw [hx] at e1; injection e1 with e1; subst e1; cases e2
  | spy e1 e2 e3 => rw [hx] at e1; injection e1 with e1; subst e1; cases e2
  | jmp e1 e2 e3 => rw [hx] at e1; injection e1 with e1; subst e1; exact ⟨rfl, e3⟩
  | fst e1 e2 => rw [hx] at e1; injection e1 with e1; subst e1; cases e2
  | lst e1 e2 => rw [hx] at e1; injection e1 with e1; subst e1; cases e2
theorem opt_len (a : List In) : (optL a).length = 1 + a.length := by simp [optL]; omega
theorem star_len (a : List In) : (starL a).length = 2 + a.length := by simp [starL]; omega
theorem plus_len (a : List In) : (plusL a).length = a.length + 1 := by simp [plusL]
theorem either_len (a b : List In) : (eitherL a b).length = 2 + a.length + b.length := by simp [eitherL]; omega
theorem Fr.opt {a : List In} {s : List Nat} {p q : Nat} (ha : Clo a) : Fr (optL a) s p q ↔ p = q ∨ Fr a s p q := by
  have sa : Sub (optL a) 1 a := by have := Sub.mid [splitI 1 ((a.length : Int) + 1)] a []; rw [← opt_eq] at this; exact this
  constructor
  · rintro ⟨n, h⟩
    cases h with
    | @cons n _ _ j _ _ _ h1 h2 =>
      obtain ⟨rfl, e⟩ := h1.split rfl
      rcases e with e | e
      · obtain rfl : j = 1 + 0 := by omega
        obtain ⟨n1, n2, r, w1, w2, _⟩ := Wn.exit ha sa _ 0 _ _ q (Nat.zero_le _) (.inr (by rw [opt_len]; omega)) h2
        obtain ⟨_, rfl⟩ := w2.off (by rw [opt_len]; omega)
        exact .inr ⟨n1, w1⟩
      · obtain ⟨_, rfl⟩ := h2.off (by rw [opt_len]; omega)
        exact .inl rfl
  · rintro (rfl | h)
    · exact ⟨1, Wn.one (.spy (x := splitI 1 ((a.length : Int) + 1)) rfl rfl (by rw [opt_len, (split_k _ _).2.2]; omega))⟩
    · obtain ⟨n, w⟩ := h.at sa
      exact ⟨n + 1, .cons (.spx (x := splitI 1 ((a.length : Int) + 1)) rfl rfl (by rw [(split_k _ _).2.1]; rfl)) (by rw [opt_len]; exact w)⟩
theorem Fr.either {a b : List In} {s : List Nat} {p q : Nat} (ha : Clo a) (hb : Clo b) : Fr (eitherL a b) s p q ↔ Fr a s p q ∨ Fr b s p q := by
  have sa : Sub (eitherL a b) 1 a := by have := Sub.mid [splitI 1 ((a.length : Int) + 2)] a (jumpI ((b.length : Int) + 1) :: b); rw [← either_eq] at this; exact this
  have sb : Sub (eitherL a b) (2 + a.length) b := by
    have := Sub.mid (splitI 1 ((a.length : Int) + 2) :: (a ++ [jumpI ((b.length : Int) + 1)])) b []
    rw [show (splitI 1 ((a.length : Int) + 2) :: (a ++ [jumpI ((b.length : Int) + 1)])) ++ b ++ [] = eitherL a b by simp [eitherL]] at this
    rw [show (splitI 1 ((a.length : Int) + 2) :: (a ++ [jumpI ((b.length : Int) + 1)])).length = 2 + a.length by simp; omega] at this
    exact this
  have ja : (eitherL a b)[1 + a.length]? = some (jumpI ((b.length : Int) + 1)) := by
    rw [either_eq, List.getElem?_append_right (by simp; omega), List.length_append, List.length_singleton, Nat.sub_self]
    rfl
  constructor
  · rintro ⟨n, h⟩
    cases h with
    | @cons n _ _ j _ _ _ h1 h2 =>
      obtain ⟨rfl, e⟩ := h1.split rfl
      rcases e with e | e
      · obtain rfl : j = 1 + 0 := by omega
        obtain ⟨n1, n2, r, w1, w2, _⟩ := Wn.exit ha sa _ 0 _ _ q (Nat.zero_le _) (.inr (by rw [either_len]; omega)) h2
        obtain ⟨z, hz⟩ : ∃ z, (eitherL a b).length = z := ⟨_, rfl⟩
        rw [hz] at w2
        rw [either_len] at hz
        cases w2 with
        | nil => omega
        | cons g1 g2 =>
          obtain ⟨rfl, e2⟩ := g1.jump ja
          obtain ⟨_, rfl⟩ := g2.off (by rw [either_len]; omega)
          exact .inl ⟨n1, w1⟩
      · obtain rfl : j = 2 + a.length + 0 := by omega
        obtain ⟨n1, n2, r, w1, w2, _⟩ := Wn.exit hb sb _ 0 _ _ q (Nat.zero_le _) (.inr (by rw [either_len]; omega)) h2
        obtain ⟨_, rfl⟩ := w2.off (by rw [either_len]; omega)
        exact .inr ⟨n1, w1⟩
  · rintro (h | h)
    · obtain ⟨n, w⟩ := h.at sa
      have g : Go1 (eitherL a b) s (1 + a.length) q (eitherL a b).length q := .jmp ja rfl (by rw [(jump_k _).2, either_len]; omega)
      exact ⟨n + 1 + 1, .cons (.spx (x := splitI 1 ((a.length : Int) + 2)) rfl rfl (by rw [(split_k _ _).2.1]; rfl)) (w.add (Wn.one g))⟩
    · obtain ⟨n, w⟩ := h.at sb
      have g : Go1 (eitherL a b) s 0 p (2 + a.length) p := .spy (x := splitI 1 ((a.length : Int) + 2)) rfl rfl (by rw [(split_k _ _).2.2]; omega)
      exact ⟨n + 1, .cons g (by rw [either_len]; exact w)⟩
/-- What so many rounds take. -/
inductive Rep (R : Nat → Nat → Prop) : Nat → Nat → Prop
  | nil {p : Nat} : Rep R p p
  | cons {p r q : Nat} : R p r → Rep R r q → Rep R p q
theorem Fr.star {a : List In} {s : List Nat} {p q : Nat} (ha : Clo a) : Fr (starL a) s p q ↔ Rep (Fr a s) p q := by
  have sa : Sub (starL a) 1 a := by have := Sub.mid [splitI 1 ((a.length : Int) + 2)] a [jumpI (-(a.length : Int) - 1)]; rw [← star_eq] at this; exact this
  have ja : (starL a)[1 + a.length]? = some (jumpI (-(a.length : Int) - 1)) := by
    rw [star_eq, List.getElem?_append_right (by simp; omega), List.length_append, List.length_singleton, Nat.sub_self]
    rfl
  constructor
  · rintro ⟨n, h⟩
    induction n using Nat.strongRecOn generalizing p with
    | ind n ih =>
      cases h with
      | @cons n _ _ j _ _ _ h1 h2 =>
        obtain ⟨rfl, e⟩ := h1.split rfl
        rcases e with e | e
        · obtain rfl : j = 1 + 0 := by omega
          obtain ⟨n1, n2, r, w1, w2, en⟩ := Wn.exit ha sa _ 0 _ _ q (Nat.zero_le _) (.inr (by rw [star_len]; omega)) h2
          obtain ⟨z, hz⟩ : ∃ z, (starL a).length = z := ⟨_, rfl⟩
          rw [hz] at w2
          rw [star_len] at hz
          cases w2 with
          | nil => omega
          | @cons _ _ _ j2 _ _ _ g1 g2 =>
            obtain ⟨rfl, e2⟩ := g1.jump ja
            obtain rfl : j2 = 0 := by omega
            rw [← hz, ← star_len] at g2
            exact .cons ⟨n1, w1⟩ (ih _ (by omega) g2)
        · obtain ⟨_, rfl⟩ := h2.off (by rw [star_len]; omega)
          exact .nil
  · intro h
    induction h with
    | nil => exact ⟨1, Wn.one (.spy (x := splitI 1 ((a.length : Int) + 2)) rfl rfl (by rw [star_len, (split_k _ _).2.2]; omega))⟩
    | cons h1 _ ih =>
      obtain ⟨n, w⟩ := h1.at sa
      obtain ⟨m, v⟩ := ih
      exact ⟨_, .cons (.spx (x := splitI 1 ((a.length : Int) + 2)) rfl rfl (by rw [(split_k _ _).2.1]; rfl)) (w.add (.cons (.jmp ja rfl (by rw [(jump_k _).2]; omega)) v))⟩
theorem Fr.plus {a : List In} {s : List Nat} {p q : Nat} (ha : Clo a) : Fr (plusL a) s p q ↔ ∃ r, Fr a s p r ∧ Rep (Fr a s) r q := by
  have sa : Sub (plusL a) 0 a := by have := Sub.mid [] a [splitI (-(a.length : Int)) 1]; rw [← plus_eq] at this; exact this
  have ja : (plusL a)[a.length]? = some (splitI (-(a.length : Int)) 1) := by
    unfold plusL
    rw [List.getElem?_append_right (Nat.le_refl _)]
    simp
  constructor
  · rintro ⟨n, h⟩
    induction n using Nat.strongRecOn generalizing p with
    | ind n ih =>
      obtain ⟨n1, n2, r, w1, w2, en⟩ := Wn.exit ha sa _ 0 _ _ q (Nat.zero_le _) (.inr (by rw [plus_len]; omega)) h
      rw [Nat.zero_add] at w2
      obtain ⟨z, hz⟩ : ∃ z, (plusL a).length = z := ⟨_, rfl⟩
      rw [hz] at w2
      rw [plus_len] at hz
      cases w2 with
      | nil => omega
      | @cons _ _ _ j2 _ _ _ g1 g2 =>
        obtain ⟨rfl, e⟩ := g1.split ja
        rw [← hz, ← plus_len] at g2
        rcases e with e | e
        · obtain rfl : j2 = 0 := by omega
          obtain ⟨r2, f1, f2⟩ := ih _ (by omega) g2
          exact ⟨_, ⟨n1, w1⟩, .cons f1 f2⟩
        · obtain ⟨_, rfl⟩ := g2.off (by rw [plus_len]; omega)
          exact ⟨_, ⟨n1, w1⟩, .nil⟩
  · rintro ⟨r, h1, h2⟩
    obtain ⟨n, w⟩ := h1.at sa
    rw [Nat.zero_add] at w
    suffices h3 : ∃ m, Wn (plusL a) s m a.length r (plusL a).length q by
      obtain ⟨m, v⟩ := h3
      exact ⟨n + m, w.add v⟩
    clear w h1
    induction h2 with
    | nil => exact ⟨1, Wn.one (.spy ja rfl (by rw [plus_len, (split_k _ _).2.2]; omega))⟩
    | cons h1 _ ih =>
      obtain ⟨m, v⟩ := ih
      obtain ⟨n', w'⟩ := h1.at sa
      rw [Nat.zero_add] at w'
      exact ⟨_, .cons (.spx (j := 0) ja rfl (by rw [(split_k _ _).2.1]; omega)) (w'.add v)⟩
end Go.Proofs.Ytmjnedafcfolgaa
