/- Texts that fit a pattern: the program's calls. -/
import Derived.Test.YteiacgpaocnofaaGreatRga
import Derived.Lib.SliceRun
/- Ways through steps whose X and Y tell how far: what they take of a text. -/
namespace Go.Proofs.YteiacgpaocnofaaGreat.Rg
set_option maxRecDepth 100000
/-- A set has a byte. -/
def hasS (s : Nat → Nat) (c : Nat) : Prop := (s (c / 64)).testBit (c % 64) = true
/-- A step, ahead of byte number p, leads to step j ahead of byte number q. -/
inductive Go1 (l : List In) (s : List Nat) : Nat → Nat → Nat → Nat → Prop
  | chr {i p c : Nat} {x : In} : l[i]? = some x → x.k = 1 → s[p]? = some c → hasS x.s c → Go1 l s i p (i + 1) (p + 1)
  | spx {i p j : Nat} {x : In} : l[i]? = some x → x.k = 2 → (j : Int) = x.x + i → Go1 l s i p j p
  | spy {i p j : Nat} {x : In} : l[i]? = some x → x.k = 2 → (j : Int) = x.y + i → Go1 l s i p j p
  | jmp {i p j : Nat} {x : In} : l[i]? = some x → x.k = 3 → (j : Int) = x.x + i → Go1 l s i p j p
  | fst {i p : Nat} {x : In} : l[i]? = some x → x.k = 4 → p = 0 → Go1 l s i p (i + 1) p
  | lst {i p : Nat} {x : In} : l[i]? = some x → x.k = 5 → p = s.length → Go1 l s i p (i + 1) p
/-- A way of so many steps. -/
inductive Wn (l : List In) (s : List Nat) : Nat → Nat → Nat → Nat → Nat → Prop
  | nil {i p : Nat} : Wn l s 0 i p i p
  | cons {n i p j q k r : Nat} : Go1 l s i p j q → Wn l s n j q k r → Wn l s (n + 1) i p k r
/-- All targets of a row of steps lie in it, or just behind it. -/
def Clo (l : List In) : Prop := ∀ (i : Nat) (x : In), l[i]? = some x → (x.k = 2 → (0 ≤ x.x + i ∧ x.x + i ≤ l.length) ∧ (0 ≤ x.y + i ∧ x.y + i ≤ l.length)) ∧ (x.k = 3 → 0 ≤ x.x + i ∧ x.x + i ≤ l.length)
/-- A row of steps fits the text from p to q. -/
def Fr (l : List In) (s : List Nat) (p q : Nat) : Prop := ∃ n, Wn l s n 0 p l.length q
theorem Go1.lt {l : List In} {s : List Nat} {i p j q : Nat} (h : Go1 l s i p j q) : i < l.length := by
  cases h <;> rename_i h <;> exact (List.getElem?_eq_some_iff.1 ‹l[i]? = some _›).1
theorem Go1.at {l m : List In} {s : List Nat} {i p j q a : Nat} (h : Go1 l s i p j q) (hm : m[a + i]? = l[i]?) : Go1 m s (a + i) p (a + j) q := by
  cases h with
  | chr h1 h2 h3 h4 => exact .chr (hm.trans h1) h2 h3 h4
  | spx h1 h2 h3 => exact .spx (hm.trans h1) h2 (by omega)
  | spy h1 h2 h3 => exact .spy (hm.trans h1) h2 (by omega)
  | jmp h1 h2 h3 => exact .jmp (hm.trans h1) h2 (by omega)
  | fst h1 h2 h3 => exact .fst (hm.trans h1) h2 h3
  | lst h1 h2 h3 => exact .lst (hm.trans h1) h2 h3
theorem Go1.of {l m : List In} {s : List Nat} {i p j q a : Nat} (hc : Clo l) (h : Go1 m s (a + i) p j q) (hm : m[a + i]? = l[i]?) (hi : i < l.length) : ∃ j', j = a + j' ∧ j' ≤ l.length ∧ Go1 l s i p j' q := by
  have go : ∀ x, m[a + i]? = some x → l[i]? = some x := fun x hx => hm ▸ hx
  cases h with
  | chr h1 h2 h3 h4 => exact ⟨i + 1, by omega, hi, .chr (go _ h1) h2 h3 h4⟩
  | spx h1 h2 h3 =>
    have := ((hc i _ (go _ h1)).1 h2).1
    exact ⟨j - a, by omega, by omega, .spx (go _ h1) h2 (by omega)⟩
  | spy h1 h2 h3 =>
    have := ((hc i _ (go _ h1)).1 h2).2
    exact ⟨j - a, by omega, by omega, .spy (go _ h1) h2 (by omega)⟩
  | jmp h1 h2 h3 =>
    have := (hc i _ (go _ h1)).2 h2
    exact ⟨j - a, by omega, by omega, .jmp (go _ h1) h2 (by omega)⟩
  | fst h1 h2 h3 => exact ⟨i + 1, by omega, hi, .fst (go _ h1) h2 h3⟩
  | lst h1 h2 h3 => exact ⟨i + 1, by omega, hi, .lst (go _ h1) h2 h3⟩
theorem Wn.add {l : List In} {s : List Nat} {n m i p j q k r : Nat} (h : Wn l s n i p j q) (h2 : Wn l s m j q k r) : Wn l s (n + m) i p k r := by
  induction h with
  | nil => rw [Nat.zero_add]; exact h2
  | cons h _ ih => rw [Nat.add_right_comm]; exact .cons h (ih h2)
theorem Wn.one {l : List In} {s : List Nat} {i p j q : Nat} (h : Go1 l s i p j q) : Wn l s 1 i p j q := .cons h .nil
theorem Wn.off {l : List In} {s : List Nat} {n i p k q : Nat} (h : Wn l s n i p k q) (hi : l.length ≤ i) : k = i ∧ q = p := by
  cases h with
  | nil => exact ⟨rfl, rfl⟩
  | cons h _ => have := h.lt; omega
/-- m holds l from step a on. -/
def Sub (m : List In) (a : Nat) (l : List In) : Prop := ∀ i, i < l.length → m[a + i]? = l[i]?
theorem Sub.mid (x l y : List In) : Sub (x ++ l ++ y) x.length l := fun i hi => by
  rw [List.append_assoc, List.getElem?_append_right (by omega), List.getElem?_append_left (by omega)]
  congr 1; omega
theorem Wn.at {l m : List In} {s : List Nat} {n i p j q a : Nat} (hm : Sub m a l) (h : Wn l s n i p j q) : Wn m s n (a + i) p (a + j) q := by
  induction h with
  | nil => exact .nil
  | cons h _ ih => exact .cons (h.at (hm _ h.lt)) ih
/-- A way that leaves a row of steps leaves it at its end. -/
theorem Wn.exit {l m : List In} {s : List Nat} {a : Nat} (hc : Clo l) (hm : Sub m a l) : ∀ (n i p k q : Nat), i ≤ l.length → (k < a ∨ a + l.length ≤ k) → Wn m s n (a + i) p k q → ∃ n1 n2 r, Wn l s n1 i p l.length r ∧ Wn m s n2 (a + l.length) r k q ∧ n = n1 + n2 := by
  intro n
  induction n with
  | zero =>
    intro i p k q hi hk h
    cases h
    obtain rfl : i = l.length := by omega
    exact ⟨0, 0, p, .nil, .nil, rfl⟩
  | succ n ih =>
    intro i p k q hi hk h
    by_cases hl : i = l.length
    · subst hl
      exact ⟨0, n + 1, p, .nil, h, by omega⟩
    · cases h with
      | cons h1 h2 =>
        obtain ⟨j', rfl, hj, g⟩ := h1.of hc (hm _ (by omega)) (by omega)
        obtain ⟨n1, n2, r, w1, w2, e⟩ := ih j' _ _ _ hj hk h2
        exact ⟨n1 + 1, n2, r, .cons g w1, w2, by omega⟩
theorem Fr.at {l m : List In} {s : List Nat} {p q a : Nat} (hm : Sub m a l) (h : Fr l s p q) : ∃ n, Wn m s n a p (a + l.length) q := by
  obtain ⟨n, h⟩ := h
  exact ⟨n, h.at (a := a) hm⟩
theorem Clo.nil : Clo [] := fun i x h => by simp at h
theorem Clo.app {a b : List In} (ha : Clo a) (hb : Clo b) : Clo (a ++ b) := by
  intro i x h
  rw [List.length_append]
  by_cases hi : i < a.length
  · rw [List.getElem?_append_left hi] at h
    obtain ⟨h1, h2⟩ := ha i x h
    exact ⟨fun e => by have := h1 e; omega, fun e => by have := h2 e; omega⟩
  · rw [List.getElem?_append_right (by omega)] at h
    obtain ⟨h1, h2⟩ := hb _ x h
    exact ⟨fun e => by have := h1 e; omega, fun e => by have := h2 e; omega⟩
theorem Clo.one {x : In} (h2 : x.k ≠ 2) (h3 : x.k ≠ 3) : Clo [x] := by
  intro i y h
  cases i with
  | zero => simp at h; subst h; exact ⟨fun e => absurd e h2, fun e => absurd e h3⟩
  | succ i => simp at h
/-- A row of steps between two others, of which each leads nowhere but into the whole. -/
theorem Clo.mid {x y l : List In} (hl : Clo l) (hx : ∀ (i : Nat) (z : In), x[i]? = some z → (z.k = 2 → (0 ≤ z.x + i ∧ z.x + i ≤ (x.length + l.length + y.length : Nat)) ∧ (0 ≤ z.y + i ∧ z.y + i ≤ (x.length + l.length + y.length : Nat))) ∧ (z.k = 3 → 0 ≤ z.x + i ∧ z.x + i ≤ (x.length + l.length + y.length : Nat)))
    (hy : ∀ (i : Nat) (z : In), y[i]? = some z → (z.k = 2 → (0 ≤ z.x + (x.length + l.length + i : Nat) ∧ z.x + (x.length + l.length + i : Nat) ≤ (x.length + l.length + y.length : Nat)) ∧ (0 ≤ z.y + (x.length + l.length + i : Nat) ∧ z.y + (x.length + l.length + i : Nat) ≤ (x.length + l.length + y.length : Nat))) ∧ (z.k = 3 → 0 ≤ z.x + (x.length + l.length + i : Nat) ∧ z.x + (x.length + l.length + i : Nat) ≤ (x.length + l.length + y.length : Nat))) : Clo (x ++ l ++ y) := by
  intro i z h
  rw [List.length_append, List.length_append]
  by_cases h1 : i < x.length
  · rw [List.append_assoc, List.getElem?_append_left h1] at h
    obtain ⟨h2, h3⟩ := hx i z h
    exact ⟨fun e => by have := h2 e; omega, fun e => by have := h3 e; omega⟩
  · by_cases h2 : i < x.length + l.length
    · rw [List.append_assoc, List.getElem?_append_right (by omega), List.getElem?_append_left (by omega)] at h
      obtain ⟨h3, h4⟩ := hl _ z h
      exact ⟨fun e => by have := h3 e; omega, fun e => by have := h4 e; omega⟩
    · rw [List.getElem?_append_right (by rw [List.length_append]; omega), List.length_append] at h
      obtain ⟨h3, h4⟩ := hy _ z h
      rw [show x.length + l.length + (i - (x.length + l.length)) = i by omega] at h3 h4
      exact ⟨fun e => by have := h3 e; omega, fun e => by have := h4 e; omega⟩
theorem either_eq (a b : List In) : eitherL a b = [splitI 1 ((a.length : Int) + 2)] ++ a ++ (jumpI ((b.length : Int) + 1) :: b) := by simp [eitherL]
theorem star_eq (a : List In) : starL a = [splitI 1 ((a.length : Int) + 2)] ++ a ++ [jumpI (-(a.length : Int) - 1)] := by simp [starL]
theorem plus_eq (a : List In) : plusL a = [] ++ a ++ [splitI (-(a.length : Int)) 1] := by simp [plusL]
theorem opt_eq (a : List In) : optL a = [splitI 1 ((a.length : Int) + 1)] ++ a ++ [] := by simp [optL]
theorem sing {z w : In} {i : Nat} (h : [w][i]? = some z) : i = 0 ∧ w = z := by
  cases i with
  | zero => simp at h; exact ⟨rfl, h⟩
  | succ i => simp at h
theorem split_k (x y : Int) : (splitI x y).k = 2 ∧ (splitI x y).x = x ∧ (splitI x y).y = y := ⟨rfl, rfl, rfl⟩
theorem jump_k (x : Int) : (jumpI x).k = 3 ∧ (jumpI x).x = x := ⟨rfl, rfl⟩
theorem Clo.either {a b : List In} (ha : Clo a) (hb : Clo b) : Clo (eitherL a b) := by
  rw [either_eq]
  refine ha.mid (fun i z h => ?_) (fun i z h => ?_)
  · obtain ⟨rfl, rfl⟩ := sing h
    refine ⟨fun _ => ?_, fun e => absurd e (by show ¬ ((2 : Int) = 3); decide)⟩
    rw [(split_k _ _).2.1, (split_k _ _).2.2]
    simp; omega
  · cases i with
    | zero =>
      simp at h
      subst h
      refine ⟨fun e => absurd e (by show ¬ ((3 : Int) = 2); decide), fun _ => ?_⟩
      rw [(jump_k _).2]
      simp; omega
    | succ i =>
      simp only [List.getElem?_cons_succ] at h
      obtain ⟨h1, h2⟩ := hb i z h
      simp only [List.length_cons, List.length_nil]
      exact ⟨fun e => by have := h1 e; omega, fun e => by have := h2 e; omega⟩
theorem Clo.star {a : List In} (ha : Clo a) : Clo (starL a) := by
  rw [star_eq]
  refine ha.mid (fun i z h => ?_) (fun i z h => ?_)
  · obtain ⟨rfl, rfl⟩ := sing h
    refine ⟨fun _ => ?_, fun e => absurd e (by show ¬ ((2 : Int) = 3); decide)⟩
    rw [(split_k _ _).2.1, (split_k _ _).2.2]
    simp; omega
  · obtain ⟨rfl, rfl⟩ := sing h
    refine ⟨fun e => absurd e (by show ¬ ((3 : Int) = 2); decide), fun _ => ?_⟩
    rw [(jump_k _).2]
    simp; omega
theorem Clo.plus {a : List In} (ha : Clo a) : Clo (plusL a) := by
  rw [plus_eq]
  refine ha.mid (fun i z h => by simp at h) (fun i z h => ?_)
  obtain ⟨rfl, rfl⟩ := sing h
  refine ⟨fun _ => ?_, fun e => absurd e (by show ¬ ((2 : Int) = 3); decide)⟩
  rw [(split_k _ _).2.1, (split_k _ _).2.2]
  simp; omega
theorem Clo.opt {a : List In} (ha : Clo a) : Clo (optL a) := by
  rw [opt_eq]
  refine ha.mid (fun i z h => ?_) (fun i z h => by simp at h)
  obtain ⟨rfl, rfl⟩ := sing h
  refine ⟨fun _ => ?_, fun e => absurd e (by show ¬ ((2 : Int) = 3); decide)⟩
  rw [(split_k _ _).2.1, (split_k _ _).2.2]
  simp; omega
/-! What each row of steps fits. -/
theorem Fr.nil {s : List Nat} {p q : Nat} : Fr [] s p q ↔ p = q := by
  constructor
  · rintro ⟨n, h⟩
    exact (h.off (by simp)).2.symm
  · rintro rfl; exact ⟨0, .nil⟩
theorem Fr.app {a b : List In} {s : List Nat} {p q : Nat} (ha : Clo a) (hb : Clo b) : Fr (a ++ b) s p q ↔ ∃ r, Fr a s p r ∧ Fr b s r q := by
  have sa : Sub (a ++ b) 0 a := fun i hi => by rw [Nat.zero_add, List.getElem?_append_left hi]
  have sb : Sub (a ++ b) a.length b := fun i hi => by rw [List.getElem?_append_right (by omega)]; congr 1; omega
  constructor
  · rintro ⟨n, h⟩
    obtain ⟨n1, n2, r, w1, w2, _⟩ := Wn.exit ha sa n 0 p _ q (Nat.zero_le _) (.inr (by rw [List.length_append]; omega)) h
    rw [Nat.zero_add] at w2
    obtain ⟨n3, n4, r', w3, w4, _⟩ := Wn.exit hb sb n2 0 r _ q (Nat.zero_le _) (.inr (by rw [List.length_append]; omega)) w2
    rw [List.length_append] at w4
    obtain ⟨_, e⟩ := w4.off (by rw [List.length_append]; omega)
    subst e
    exact ⟨r, ⟨n1, w1⟩, ⟨n3, w3⟩⟩
  · rintro ⟨r, h1, h2⟩
    obtain ⟨n1, w1⟩ := h1.at sa
    obtain ⟨n2, w2⟩ := h2.at sb
    rw [Nat.zero_add] at w1
    exact ⟨n1 + n2, by rw [List.length_append]; exact w1.add w2⟩
theorem Fr.chr {s : List Nat} {t : Nat → Nat} {p q : Nat} : Fr [charI t] s p q ↔ ∃ c, s[p]? = some c ∧ hasS t c ∧ q = p + 1 := by
  constructor
  · rintro ⟨n, h⟩
    cases h with
    | cons h1 h2 =>
      cases h1 with
      | chr e1 _ e3 e4 =>
        simp at e1
        subst e1
        exact ⟨_, e3, e4, (h2.off (by simp)).2⟩
      | spx e1 e2 => simp at e1; subst e1; cases e2
      | spy e1 e2 => simp at e1; subst e1; cases e2
      | jmp e1 e2 => simp at e1; subst e1; cases e2
      | fst e1 e2 => simp at e1; subst e1; cases e2
      | lst e1 e2 => simp at e1; subst e1; cases e2
  · rintro ⟨c, h1, h2, rfl⟩
    exact ⟨1, Wn.one (.chr (x := charI t) rfl rfl h1 h2)⟩
theorem Fr.fst {s : List Nat} {p q : Nat} : Fr [stepI 4] s p q ↔ p = 0 ∧ q = p := by
  constructor
  · rintro ⟨n, h⟩
    cases h with
    | cons h1 h2 =>
      cases h1 with
      | chr e1 e2 => simp at e1; subst e1; cases e2
      | spx e1 e2 => simp at e1; subst e1; cases e2
      | spy e1 e2 => simp at e1; subst e1; cases e2
      | jmp e1 e2 => simp at e1; subst e1; cases e2
      | fst e1 e2 e3 => exact ⟨e3, (h2.off (by simp)).2⟩
      | lst e1 e2 => simp at e1; subst e1; cases e2
  · rintro ⟨h1, rfl⟩
    exact ⟨1, Wn.one (.fst (x := stepI 4) rfl rfl h1)⟩
theorem Fr.lst {s : List Nat} {p q : Nat} : Fr [stepI 5] s p q ↔ p = s.length ∧ q = p := by
  constructor
  · rintro ⟨n, h⟩
    cases h with
    | cons h1 h2 =>
      cases h1 with
      | chr e1 e2 => simp at e1; subst e1; cases e2
      | spx e1 e2 => simp at e1; subst e1; cases e2
      | spy e1 e2 => simp at e1; subst e1; cases e2
      | jmp e1 e2 => simp at e1; subst e1; cases e2
      | fst e1 e2 => simp at e1; subst e1; cases e2
      | lst e1 e2 e3 => exact ⟨e3, (h2.off (by simp)).2⟩
  · rintro ⟨h1, rfl⟩
    exact ⟨1, Wn.one (.lst (x := stepI 5) rfl rfl h1)⟩
/-- What the first step of a row does that is a split. -/
theorem Go1.split {l : List In} {s : List Nat} {i p j q : Nat} {u v : Int} (h : Go1 l s i p j q) (hx : l[i]? = some (splitI u v)) : q = p ∧ ((j : Int) = u + i ∨ (j : Int) = v + i) := by
  cases h with
  | chr e1 e2 => rw [hx] at e1; injection e1 with e1; subst e1; cases e2
  | spx e1 e2 e3 => rw [hx] at e1; injection e1 with e1; subst e1; exact ⟨rfl, .inl e3⟩
  | spy e1 e2 e3 => rw [hx] at e1; injection e1 with e1; subst e1; exact ⟨rfl, .inr e3⟩
  | jmp e1 e2 => rw [hx] at e1; injection e1 with e1; subst e1; cases e2
  | fst e1 e2 => rw [hx] at e1; injection e1 with e1; subst e1; cases e2
  | lst e1 e2 => rw [hx] at e1; injection e1 with e1; subst e1; cases e2
theorem Go1.jump {l : List In} {s : List Nat} {i p j q : Nat} {u : Int} (h : Go1 l s i p j q) (hx : l[i]? = some (jumpI u)) : q = p ∧ (j : Int) = u + i := by
  cases h with
  | chr e1 e2 => rw [hx] at e1; injection e1 with e1; subst e1; cases e2
  | spx e1 e2 e3 => rw [hx] at e1; injection e1 with e1; subst e1; cases e2
  | spy e1 e2 e3 => rw [hx] at e1; injection e1 with e1; subst e1; cases e2
  | jmp e1 e2 e3 => rw [hx] at e1; injection e1 with e1; subst e1; exact ⟨rfl, e3⟩
  | fst e1 e2 => rw [hx] at e1; injection e1 with e1; subst e1; cases e2
  | lst e1 e2 => rw [hx] at e1; injection e1 with e1; subst e1; cases e2
theorem opt_len (a : List In) : (optL a).length = 1 + a.length := by simp [optL]; omega
theorem star_len (a : List In) : (starL a).length = 2 + a.length := by simp [starL]; omega
theorem plus_len (a : List In) : (plusL a).length = a.length + 1 := by simp [plusL]
theorem either_len (a b : List In) : (eitherL a b).length = 2 + a.length + b.length := by simp [eitherL]; omega
theorem Fr.opt {a : List In} {s : List Nat} {p q : Nat} (ha : Clo a) : Fr (optL a) s p q ↔ p = q ∨ Fr a s p q := by
  have sa : Sub (optL a) 1 a := by have := Sub.mid [splitI 1 ((a.length : Int) + 1)] a []; rw [← opt_eq] at this; exact this
  constructor
  · rintro ⟨n, h⟩
    cases h with
    | @cons n _ _ j _ _ _ h1 h2 =>
      obtain ⟨rfl, e⟩ := h1.split rfl
      rcases e with e | e
      · obtain rfl : j = 1 + 0 := by omega
        obtain ⟨n1, n2, r, w1, w2, _⟩ := Wn.exit ha sa _ 0 _ _ q (Nat.zero_le _) (.inr (by rw [opt_len]; omega)) h2
        obtain ⟨_, rfl⟩ := w2.off (by rw [opt_len]; omega)
        exact .inr ⟨n1, w1⟩
      · obtain ⟨_, rfl⟩ := h2.off (by rw [opt_len]; omega)
        exact .inl rfl
  · rintro (rfl | h)
    · exact ⟨1, Wn.one (.spy (x := splitI 1 ((a.length : Int) + 1)) rfl rfl (by rw [opt_len, (split_k _ _).2.2]; omega))⟩
    · obtain ⟨n, w⟩ := h.at sa
      exact ⟨n + 1, .cons (.spx (x := splitI 1 ((a.length : Int) + 1)) rfl rfl (by rw [(split_k _ _).2.1]; rfl)) (by rw [opt_len]; exact w)⟩
theorem Fr.either {a b : List In} {s : List Nat} {p q : Nat} (ha : Clo a) (hb : Clo b) : Fr (eitherL a b) s p q ↔ Fr a s p q ∨ Fr b s p q := by
  have sa : Sub (eitherL a b) 1 a := by have := Sub.mid [splitI 1 ((a.length : Int) + 2)] a (jumpI ((b.length : Int) + 1) :: b); rw [← either_eq] at this; exact this
  have sb : Sub (eitherL a b) (2 + a.length) b := by
    have := Sub.mid (splitI 1 ((a.length : Int) + 2) :: (a ++ [jumpI ((b.length : Int) + 1)])) b []
    rw [show (splitI 1 ((a.length : Int) + 2) :: (a ++ [jumpI ((b.length : Int) + 1)])) ++ b ++ [] = eitherL a b by simp [eitherL]] at this
    rw [show (splitI 1 ((a.length : Int) + 2) :: (a ++ [jumpI ((b.length : Int) + 1)])).length = 2 + a.length by simp; omega] at this
    exact this
  have ja : (eitherL a b)[1 + a.length]? = some (jumpI ((b.length : Int) + 1)) := by
    rw [either_eq, List.getElem?_append_right (by simp; omega), List.length_append, List.length_singleton, Nat.sub_self]
    rfl
  constructor
  · rintro ⟨n, h⟩
    cases h with
    | @cons n _ _ j _ _ _ h1 h2 =>
      obtain ⟨rfl, e⟩ := h1.split rfl
      rcases e with e | e
      · obtain rfl : j = 1 + 0 := by omega
        obtain ⟨n1, n2, r, w1, w2, _⟩ := Wn.exit ha sa _ 0 _ _ q (Nat.zero_le _) (.inr (by rw [either_len]; omega)) h2
        obtain ⟨z, hz⟩ : ∃ z, (eitherL a b).length = z := ⟨_, rfl⟩
        rw [hz] at w2
        rw [either_len] at hz
        cases w2 with
        | nil => omega
        | cons g1 g2 =>
          obtain ⟨rfl, e2⟩ := g1.jump ja
          obtain ⟨_, rfl⟩ := g2.off (by rw [either_len]; omega)
          exact .inl ⟨n1, w1⟩
      · obtain rfl : j = 2 + a.length + 0 := by omega
        obtain ⟨n1, n2, r, w1, w2, _⟩ := Wn.exit hb sb _ 0 _ _ q (Nat.zero_le _) (.inr (by rw [either_len]; omega)) h2
        obtain ⟨_, rfl⟩ := w2.off (by rw [either_len]; omega)
        exact .inr ⟨n1, w1⟩
  · rintro (h | h)
    · obtain ⟨n, w⟩ := h.at sa
      have g : Go1 (eitherL a b) s (1 + a.length) q (eitherL a b).length q := .jmp ja rfl (by rw [(jump_k _).2, either_len]; omega)
      exact ⟨n + 1 + 1, .cons (.spx (x := splitI 1 ((a.length : Int) + 2)) rfl rfl (by rw [(split_k _ _).2.1]; rfl)) (w.add (Wn.one g))⟩
    · obtain ⟨n, w⟩ := h.at sb
      have g : Go1 (eitherL a b) s 0 p (2 + a.length) p := .spy (x := splitI 1 ((a.length : Int) + 2)) rfl rfl (by rw [(split_k _ _).2.2]; omega)
      exact ⟨n + 1, .cons g (by rw [either_len]; exact w)⟩
/-- What so many rounds take. -/
inductive Rep (R : Nat → Nat → Prop) : Nat → Nat → Prop
  | nil {p : Nat} : Rep R p p
  | cons {p r q : Nat} : R p r → Rep R r q → Rep R p q
theorem Fr.star {a : List In} {s : List Nat} {p q : Nat} (ha : Clo a) : Fr (starL a) s p q ↔ Rep (Fr a s) p q := by
  have sa : Sub (starL a) 1 a := by have := Sub.mid [splitI 1 ((a.length : Int) + 2)] a [jumpI (-(a.length : Int) - 1)]; rw [← star_eq] at this; exact this
  have ja : (starL a)[1 + a.length]? = some (jumpI (-(a.length : Int) - 1)) := by
    rw [star_eq, List.getElem?_append_right (by simp; omega), List.length_append, List.length_singleton, Nat.sub_self]
    rfl
  constructor
  · rintro ⟨n, h⟩
    induction n using Nat.strongRecOn generalizing p with
    | ind n ih =>
      cases h with
      | @cons n _ _ j _ _ _ h1 h2 =>
        obtain ⟨rfl, e⟩ := h1.split rfl
        rcases e with e | e
        · obtain rfl : j = 1 + 0 := by omega
          obtain ⟨n1, n2, r, w1, w2, en⟩ := Wn.exit ha sa _ 0 _ _ q (Nat.zero_le _) (.inr (by rw [star_len]; omega)) h2
          obtain ⟨z, hz⟩ : ∃ z, (starL a).length = z := ⟨_, rfl⟩
          rw [hz] at w2
          rw [star_len] at hz
          cases w2 with
          | nil => omega
          | @cons _ _ _ j2 _ _ _ g1 g2 =>
            obtain ⟨rfl, e2⟩ := g1.jump ja
            obtain rfl : j2 = 0 := by omega
            rw [← hz, ← star_len] at g2
            exact .cons ⟨n1, w1⟩ (ih _ (by omega) g2)
        · obtain ⟨_, rfl⟩ := h2.off (by rw [star_len]; omega)
          exact .nil
  · intro h
    induction h with
    | nil => exact ⟨1, Wn.one (.spy (x := splitI 1 ((a.length : Int) + 2)) rfl rfl (by rw [star_len, (split_k _ _).2.2]; omega))⟩
    | cons h1 _ ih =>
      obtain ⟨n, w⟩ := h1.at sa
      obtain ⟨m, v⟩ := ih
      exact ⟨_, .cons (.spx (x := splitI 1 ((a.length : Int) + 2)) rfl rfl (by rw [(split_k _ _).2.1]; rfl)) (w.add (.cons (.jmp ja rfl (by rw [(jump_k _).2]; omega)) v))⟩
theorem Fr.plus {a : List In} {s : List Nat} {p q : Nat} (ha : Clo a) : Fr (plusL a) s p q ↔ ∃ r, Fr a s p r ∧ Rep (Fr a s) r q := by
  have sa : Sub (plusL a) 0 a := by have := Sub.mid [] a [splitI (-(a.length : Int)) 1]; rw [← plus_eq] at this; exact this
  have ja : (plusL a)[a.length]? = some (splitI (-(a.length : Int)) 1) := by
    unfold plusL
    rw [List.getElem?_append_right (Nat.le_refl _)]
    simp
  constructor
  · rintro ⟨n, h⟩
    induction n using Nat.strongRecOn generalizing p with
    | ind n ih =>
      obtain ⟨n1, n2, r, w1, w2, en⟩ := Wn.exit ha sa _ 0 _ _ q (Nat.zero_le _) (.inr (by rw [plus_len]; omega)) h
      rw [Nat.zero_add] at w2
      obtain ⟨z, hz⟩ : ∃ z, (plusL a).length = z := ⟨_, rfl⟩
      rw [hz] at w2
      rw [plus_len] at hz
      cases w2 with
      | nil => omega
      | @cons _ _ _ j2 _ _ _ g1 g2 =>
        obtain ⟨rfl, e⟩ := g1.split ja
        rw [← hz, ← plus_len] at g2
        rcases e with e | e
        · obtain rfl : j2 = 0 := by omega
          obtain ⟨r2, f1, f2⟩ := ih _ (by omega) g2
          exact ⟨_, ⟨n1, w1⟩, .cons f1 f2⟩
        · obtain ⟨_, rfl⟩ := g2.off (by rw [plus_len]; omega)
          exact ⟨_, ⟨n1, w1⟩, .nil⟩
  · rintro ⟨r, h1, h2⟩
    obtain ⟨n, w⟩ := h1.at sa
    rw [Nat.zero_add] at w
    suffices h3 : ∃ m, Wn (plusL a) s m a.length r (plusL a).length q by
      obtain ⟨m, v⟩ := h3
      exact ⟨n + m, w.add v⟩
    clear w h1
    induction h2 with
    | nil => exact ⟨1, Wn.one (.spy ja rfl (by rw [plus_len, (split_k _ _).2.2]; omega))⟩
    | cons h1 _ ih =>
      obtain ⟨m, v⟩ := ih
      obtain ⟨n', w'⟩ := h1.at sa
      rw [Nat.zero_add] at w'
      exact ⟨_, .cons (.spx (j := 0) ja rfl (by rw [(split_k _ _).2.1]; omega)) (w'.add v)⟩
end Go.Proofs.YteiacgpaocnofaaGreat.Rg
/- A pattern's steps lead into it; sets of steps, side by side, that are all that can be reached. -/
namespace Go.Proofs.YteiacgpaocnofaaGreat.Rg
set_option maxRecDepth 100000
theorem class_clo {r t : List Nat} {a : List In} (h : classS r = .ok a t) : Clo a := by
  unfold classS at h
  split at h
  · split at h
    · cases h
    · injection h with h1 h2
      subst h1
      exact Clo.one (by show ¬ ((1 : Int) = 2); decide) (by show ¬ ((1 : Int) = 3); decide)
  · split at h
    · cases h
    · injection h with h1 h2
      subst h1
      exact Clo.one (by show ¬ ((1 : Int) = 2); decide) (by show ¬ ((1 : Int) = 3); decide)
theorem clo_char (s : Nat → Nat) : Clo [charI s] := Clo.one (by show ¬ ((1 : Int) = 2); decide) (by show ¬ ((1 : Int) = 3); decide)
theorem clo_only (c : Nat) : Clo [onlyI c] := clo_char _
theorem clo_step {k : Int} (h2 : k ≠ 2) (h3 : k ≠ 3) : Clo [stepI k] := Clo.one h2 h3
/-- A way to read what parentheses hold whose steps lead into it. -/
def Inw (pat : Nat → List Nat → Rd (List In)) : Prop := ∀ d r a t, pat d r = .ok a t → Clo a
theorem atom_clo {pat : Nat → List Nat → Rd (List In)} (hp : Inw pat) {d c : Nat} {t u : List Nat} {a : List In} (h : atomF pat d c t = .ok a u) : Clo a := by
  unfold atomF at h
  split at h
  · unfold escS at h
    split at h
    · cases h
    · injection h with h1 h2; subst h1; exact clo_only _
  split at h
  · injection h with h1 h2; subst h1; exact clo_char _
  split at h
  · exact class_clo h
  split at h
  · unfold groupF at h
    split at h
    · cases h
    · split at h
      · cases h
      · rename_i st r hr
        split at h
        · injection h with h1 h2; subst h1; exact hp _ _ _ _ hr
        · cases h
  split at h
  · injection h with h1 h2; subst h1; exact clo_step (by decide) (by decide)
  split at h
  · injection h with h1 h2; subst h1; exact clo_step (by decide) (by decide)
  split at h
  · cases h
  · injection h with h1 h2; subst h1; exact clo_only _
theorem rep_clo {a : List In} (h : Clo a) (t : List Nat) : Clo (repA a t) := by
  unfold repA
  split
  · exact h.star
  split
  · exact h.plus
  split
  · exact h.opt
  · exact h
theorem row_clo {pat : Nat → List Nat → Rd (List In)} (hp : Inw pat) (d : Nat) : ∀ (f : Nat) (r : List Nat) (a : List In) (t : List Nat), rowF pat d f r = .ok a t → Clo a := by
  intro f
  induction f with
  | zero => intro r a t h; cases h
  | succ f ih =>
    intro r a t h
    unfold rowF at h
    split at h
    · injection h with h1 h2; subst h1; exact Clo.nil
    · split at h
      · injection h with h1 h2; subst h1; exact Clo.nil
      · split at h
        · cases h
        · rename_i x u hx
          split at h
          · cases h
          · rename_i b v hb
            injection h with h1 h2
            subst h1
            exact (rep_clo (atom_clo hp hx) u).app (ih _ _ _ hb)
theorem alt_clo {pat : Nat → List Nat → Rd (List In)} (hp : Inw pat) (d : Nat) : ∀ (f : Nat) (r : List Nat) (a : List In) (t : List Nat), altF pat d f r = .ok a t → Clo a := by
  intro f
  induction f with
  | zero => intro r a t h; cases h
  | succ f ih =>
    intro r a t h
    unfold altF at h
    split at h
    · cases h
    · rename_i x u hx
      have hc := row_clo hp d _ _ _ _ hx
      split at h
      · split at h
        · cases h
        · rename_i b v hb
          injection h with h1 h2
          subst h1
          exact hc.either (ih _ _ _ hb)
      · injection h with h1 h2; subst h1; exact hc
theorem pat_clo : ∀ f, Inw (patF f) := by
  intro f
  induction f with
  | zero => intro d r a t h; cases h
  | succ f ih => intro d r a t h; exact alt_clo ih d _ _ _ _ h
/-- A program: steps that lead into it, and Done. -/
def Pg (l st : List In) : Prop := l = st ++ [stepI 6] ∧ Clo st ∧ st.length ≤ 768
theorem comp_pg {r t : List Nat} {l : List In} (h : comp r = .ok l t) : ∃ st, Pg l st ∧ patF 21 0 r = .ok st [] ∧ t = [] ∧ ¬ 256 < r.length := by
  unfold comp at h
  split at h
  · cases h
  · rename_i hl
    cases hR : patF 21 0 r with
    | bad e => rw [hR] at h; cases h
    | ok x u =>
      rw [hR] at h
      simp only [] at h
      split at h
      · rename_i ht
        subst ht
        injection h with h1 h2
        refine ⟨x, ⟨h1.symm, pat_clo _ _ _ _ _ hR, ?_⟩, rfl, h2.symm, hl⟩
        have := pat_len _ _ _ _ _ hR
        simp at this
        omega
      · cases h
/-- Where a step leads without a byte. -/
def eps (l : List In) (n p i : Nat) : List Nat :=
  match l[i]? with
  | none => []
  | some x => if x.k = 2 then [(x.x + i).toNat, (x.y + i).toNat] else if x.k = 3 then [(x.x + i).toNat] else if x.k = 4 then (if p = 0 then [i + 1] else []) else if x.k = 5 then (if p = n then [i + 1] else []) else []
theorem Pg.split {l st : List In} (h : Pg l st) {i : Nat} {x : In} (hi : l[i]? = some x) (hk : x.k = 2) : ∃ j1 j2 : Nat, x.x + i = j1 ∧ x.y + i = j2 ∧ j1 < l.length ∧ j2 < l.length := by
  obtain ⟨rfl, hc, _⟩ := h
  by_cases h1 : i < st.length
  · rw [List.getElem?_append_left h1] at hi
    have := (hc i x hi).1 hk
    exact ⟨(x.x + i).toNat, (x.y + i).toNat, by omega, by omega, by simp; omega, by simp; omega⟩
  · rw [List.getElem?_append_right (by omega)] at hi
    obtain ⟨_, rfl⟩ := sing hi
    cases hk
theorem Pg.jump {l st : List In} (h : Pg l st) {i : Nat} {x : In} (hi : l[i]? = some x) (hk : x.k = 3) : ∃ j1 : Nat, x.x + i = j1 ∧ j1 < l.length := by
  obtain ⟨rfl, hc, _⟩ := h
  by_cases h1 : i < st.length
  · rw [List.getElem?_append_left h1] at hi
    have := (hc i x hi).2 hk
    exact ⟨(x.x + i).toNat, by omega, by simp; omega⟩
  · rw [List.getElem?_append_right (by omega)] at hi
    obtain ⟨_, rfl⟩ := sing hi
    cases hk
theorem Pg.next {l st : List In} (h : Pg l st) {i : Nat} {x : In} (hi : l[i]? = some x) (hk : x.k ≠ 6) : i + 1 < l.length := by
  obtain ⟨rfl, hc, _⟩ := h
  by_cases h1 : i < st.length
  · simp; omega
  · rw [List.getElem?_append_right (by omega)] at hi
    obtain ⟨_, rfl⟩ := sing hi
    exact absurd rfl hk
theorem eps_split {l : List In} {n p i j1 j2 : Nat} {x : In} (hi : l[i]? = some x) (hk : x.k = 2) (h1 : x.x + i = j1) (h2 : x.y + i = j2) : eps l n p i = [j1, j2] := by
  unfold eps; rw [hi]; simp only []; rw [if_pos hk, h1, h2]; rfl
theorem eps_jump {l : List In} {n p i j1 : Nat} {x : In} (hi : l[i]? = some x) (hk : x.k = 3) (h1 : x.x + i = j1) : eps l n p i = [j1] := by
  unfold eps; rw [hi]; simp only []; rw [if_neg (by omega), if_pos hk, h1]; rfl
theorem eps_fst {l : List In} {n p i : Nat} {x : In} (hi : l[i]? = some x) (hk : x.k = 4) : eps l n p i = if p = 0 then [i + 1] else [] := by
  unfold eps; rw [hi]; simp only []; rw [if_neg (by omega), if_neg (by omega), if_pos hk]
theorem eps_lst {l : List In} {n p i : Nat} {x : In} (hi : l[i]? = some x) (hk : x.k = 5) : eps l n p i = if p = n then [i + 1] else [] := by
  unfold eps; rw [hi]; simp only []; rw [if_neg (by omega), if_neg (by omega), if_neg (by omega), if_pos hk]
theorem eps_none {l : List In} {n p i : Nat} {x : In} (hi : l[i]? = some x) (h2 : x.k ≠ 2) (h3 : x.k ≠ 3) (h4 : x.k ≠ 4) (h5 : x.k ≠ 5) : eps l n p i = [] := by
  unfold eps; rw [hi]; simp only []; rw [if_neg h2, if_neg h3, if_neg h4, if_neg h5]
theorem eps_go {l st : List In} (hp : Pg l st) {s : List Nat} {p i j : Nat} : j ∈ eps l s.length p i ↔ Go1 l s i p j p := by
  constructor
  · intro h
    cases hx : l[i]? with
    | none => unfold eps at h; rw [hx] at h; cases h
    | some x =>
      by_cases h2 : x.k = 2
      · obtain ⟨j1, j2, e1, e2, _, _⟩ := hp.split hx h2
        rw [eps_split hx h2 e1 e2] at h
        simp at h
        rcases h with rfl | rfl
        · exact .spx hx h2 e1.symm
        · exact .spy hx h2 e2.symm
      · by_cases h3 : x.k = 3
        · obtain ⟨j1, e1, _⟩ := hp.jump hx h3
          rw [eps_jump hx h3 e1] at h
          simp at h
          subst h
          exact .jmp hx h3 e1.symm
        · by_cases h4 : x.k = 4
          · rw [eps_fst hx h4] at h
            split at h
            · rename_i h0; simp at h; subst h; exact .fst hx h4 h0
            · cases h
          · by_cases h5 : x.k = 5
            · rw [eps_lst hx h5] at h
              split at h
              · rename_i h0; simp at h; subst h; exact .lst hx h5 h0
              · cases h
            · rw [eps_none hx h2 h3 h4 h5] at h; cases h
  · intro h
    generalize hq : p = q at h
    cases h with
    | spx h1 h2 h3 =>
      obtain ⟨j1, j2, e1, e2, _, _⟩ := hp.split h1 h2
      rw [eps_split h1 h2 e1 e2]
      obtain rfl : j = j1 := by omega
      simp
    | spy h1 h2 h3 =>
      obtain ⟨j1, j2, e1, e2, _, _⟩ := hp.split h1 h2
      rw [eps_split h1 h2 e1 e2]
      obtain rfl : j = j2 := by omega
      simp
    | jmp h1 h2 h3 =>
      obtain ⟨j1, e1, _⟩ := hp.jump h1 h2
      rw [eps_jump h1 h2 e1]
      obtain rfl : j = j1 := by omega
      simp
    | fst h1 h2 h3 => rw [eps_fst h1 h2, if_pos h3]; simp
    | lst h1 h2 h3 => rw [eps_lst h1 h2, if_pos h3]; simp
/-- One step more, unless it is there. -/
def ins (L : List Nat) (i : Nat) : List Nat := if i ∈ L then L else L ++ [i]
def insAll (L : List Nat) (js : List Nat) : List Nat := js.foldl ins L
theorem ins_mem {L : List Nat} {i x : Nat} : x ∈ ins L i ↔ x ∈ L ∨ x = i := by
  unfold ins
  split
  · constructor
    · exact .inl
    · rintro (h | rfl)
      · exact h
      · assumption
  · simp
theorem insAll_mem {js : List Nat} : ∀ {L : List Nat} {x : Nat}, x ∈ insAll L js ↔ x ∈ L ∨ x ∈ js := by
  induction js with
  | nil => intro L x; simp [insAll]
  | cons j js ih =>
    intro L x
    show x ∈ insAll (ins L j) js ↔ _
    rw [ih, ins_mem, List.mem_cons, or_assoc]
theorem ins_pre (L : List Nat) (i : Nat) : ∃ R, ins L i = L ++ R := by
  unfold ins
  split
  · exact ⟨[], by simp⟩
  · exact ⟨[i], rfl⟩
theorem insAll_pre (js : List Nat) : ∀ L : List Nat, ∃ R, insAll L js = L ++ R := by
  induction js with
  | nil => intro L; exact ⟨[], by simp [insAll]⟩
  | cons j js ih =>
    intro L
    obtain ⟨R, hR⟩ := ih (ins L j)
    obtain ⟨Q, hQ⟩ := ins_pre L j
    exact ⟨Q ++ R, by show insAll (ins L j) js = _; rw [hR, hQ, List.append_assoc]⟩
/-- Steps of so many, each once. -/
def Few (N : Nat) (L : List Nat) : Prop := L.Nodup ∧ ∀ x ∈ L, x < N
theorem Few.nil (N : Nat) : Few N [] := ⟨List.nodup_nil, fun x h => by cases h⟩
theorem Few.ins {N : Nat} {L : List Nat} (h : Few N L) {i : Nat} (hi : i < N) : Few N (ins L i) := by
  refine ⟨?_, fun x hx => ?_⟩
  · unfold Go.Proofs.YteiacgpaocnofaaGreat.Rg.ins
    split
    · exact h.1
    · rename_i hn
      rw [List.nodup_append]
      exact ⟨h.1, by simp, fun a ha b hb => by simp at hb; subst hb; exact fun e => hn (e ▸ ha)⟩
  · rcases ins_mem.1 hx with hx | rfl
    · exact h.2 x hx
    · exact hi
theorem few_len : ∀ (N : Nat) (L : List Nat), Few N L → L.length ≤ N := by
  intro N
  induction N with
  | zero =>
    intro L h
    cases L with
    | nil => simp
    | cons a L => have := h.2 a (by simp); omega
  | succ N ih =>
    intro L h
    have h1 := ih (L.erase N) ⟨h.1.erase _, fun x hx => by
      have h2 := h.2 x (List.mem_of_mem_erase hx)
      have h3 : x ≠ N := fun e => by subst e; exact (List.Nodup.not_mem_erase h.1) hx
      omega⟩
    have h4 := List.length_erase (a := N) (l := L)
    split at h4 <;> omega
theorem Few.room {N : Nat} {L : List Nat} (h : Few N L) {i : Nat} (hi : i < N) (hn : i ∉ L) : L.length < N := by
  have h1 := few_len N _ (h.ins hi)
  unfold Go.Proofs.YteiacgpaocnofaaGreat.Rg.ins at h1
  rw [if_neg hn] at h1
  simp at h1
  omega
/-- What is reached without a byte. -/
inductive Er (l : List In) (n p : Nat) : Nat → Nat → Prop
  | refl {i : Nat} : Er l n p i i
  | step {i j k : Nat} : Er l n p i j → k ∈ eps l n p j → Er l n p i k
def EC (l : List In) (n p : Nat) (L : List Nat) : Prop := ∀ i ∈ L, ∀ j ∈ eps l n p i, j ∈ L
/-- A row of steps, and with it all that a step leads to without a byte. -/
def Rea (l : List In) (n p : Nat) (L : List Nat) (k : Nat) (M : List Nat) : Prop := EC l n p M ∧ (∀ x ∈ L, x ∈ M) ∧ k ∈ M ∧ ∀ x ∈ M, x ∈ L ∨ Er l n p k x
/-- So far gone through. -/
def Half (l : List In) (n p : Nat) (L : List Nat) (k i : Nat) (M : List Nat) : Prop := (∃ R, M = L ++ R) ∧ k ∈ M ∧ (∀ j, j < i → ∀ a, M[j]? = some a → ∀ b ∈ eps l n p a, b ∈ M) ∧ ∀ x ∈ M, x ∈ L ∨ Er l n p k x
theorem Half.start {l : List In} {n p : Nat} {L : List Nat} (h : EC l n p L) (k : Nat) : Half l n p L k L.length (ins L k) := by
  obtain ⟨R, hR⟩ := ins_pre L k
  refine ⟨⟨R, hR⟩, ins_mem.2 (.inr rfl), fun j hj a ha b hb => ?_, fun x hx => ?_⟩
  · rw [hR, List.getElem?_append_left hj] at ha
    exact ins_mem.2 (.inl (h a (List.mem_of_getElem? ha) b hb))
  · rcases ins_mem.1 hx with hx | rfl
    · exact .inl hx
    · exact .inr .refl
theorem Half.next {l : List In} {n p : Nat} {L M : List Nat} {k i a : Nat} (h : Half l n p L k i M) (hL : EC l n p L) (ha : M[i]? = some a) : Half l n p L k (i + 1) (insAll M (eps l n p a)) := by
  obtain ⟨⟨R, hR⟩, h2, h3, h4⟩ := h
  obtain ⟨Q, hQ⟩ := insAll_pre (eps l n p a) M
  refine ⟨⟨R ++ Q, by rw [hQ, hR, List.append_assoc]⟩, insAll_mem.2 (.inl h2), fun j hj b hb c hc => ?_, fun x hx => ?_⟩
  · have hi := (List.getElem?_eq_some_iff.1 ha).1
    rw [hQ, List.getElem?_append_left (by omega)] at hb
    by_cases hji : j = i
    · subst hji
      rw [ha] at hb
      injection hb with hb
      subst hb
      exact insAll_mem.2 (.inr hc)
    · exact insAll_mem.2 (.inl (h3 j (by omega) b hb c hc))
  · rcases insAll_mem.1 hx with hx | hx
    · exact h4 x hx
    · rcases h4 a (List.mem_of_getElem? ha) with h5 | h5
      · exact .inl (hL a h5 x hx)
      · exact .inr (.step h5 hx)
theorem Half.done {l : List In} {n p : Nat} {L M : List Nat} {k i : Nat} (h : Half l n p L k i M) (hi : M.length ≤ i) : Rea l n p L k M := by
  obtain ⟨⟨R, hR⟩, h2, h3, h4⟩ := h
  refine ⟨fun a ha b hb => ?_, fun x hx => by rw [hR]; exact List.mem_append_left _ hx, h2, h4⟩
  obtain ⟨j, hj⟩ := List.mem_iff_getElem?.1 ha
  exact h3 j (by have := (List.getElem?_eq_some_iff.1 hj).1; omega) a hj b hb
/-- What is reached from where ways begin. -/
inductive Rch (l : List In) (s : List Nat) (St : Nat → Prop) : Nat → Nat → Prop
  | start {p : Nat} : St p → Rch l s St 0 p
  | step {i p j q : Nat} : Rch l s St i p → Go1 l s i p j q → Rch l s St j q
/-- What a step that takes byte number p leads to. -/
def Tk (l : List In) (s : List Nat) (p i : Nat) : Prop := ∃ x c, l[i]? = some x ∧ x.k = 1 ∧ s[p]? = some c ∧ hasS x.s c
/-- All that is reached here, but perhaps for a way that begins here. -/
def Most (l : List In) (s : List Nat) (St : Nat → Prop) (p : Nat) (L : List Nat) : Prop := (∀ i ∈ L, Rch l s St i p) ∧ EC l s.length p L ∧ ∀ i p0, p = p0 + 1 → Rch l s St i p0 → Tk l s p0 i → i + 1 ∈ L
def All (l : List In) (s : List Nat) (St : Nat → Prop) (p : Nat) (L : List Nat) : Prop := ∀ i, i ∈ L ↔ Rch l s St i p
theorem Er.rch {l st : List In} (hp : Pg l st) {s : List Nat} {St : Nat → Prop} {p i j : Nat} (h : Er l s.length p i j) (hi : Rch l s St i p) : Rch l s St j p := by
  induction h with
  | refl => exact hi
  | step _ h ih => exact .step ih ((eps_go hp).1 h)
theorem Most.zero (l : List In) (s : List Nat) (St : Nat → Prop) : Most l s St 0 [] := ⟨fun i h => by (cases h), fun i h => by (cases h), fun i p0 h => by omega⟩
theorem Most.begin {l st : List In} (hp : Pg l st) {s : List Nat} {St : Nat → Prop} {p : Nat} {L M : List Nat} (h : Most l s St p L) (hs : St p) (hr : Rea l s.length p L 0 M) : All l s St p M := by
  have hM : Most l s St p M := by
    refine ⟨fun i hi => ?_, hr.1, fun i p0 e h1 h2 => hr.2.1 _ (h.2.2 i p0 e h1 h2)⟩
    rcases hr.2.2.2 i hi with h1 | h1
    · exact h.1 i h1
    · exact h1.rch hp (.start hs)
  have h0 := hr.2.2.1
  clear h hr
  intro i
  refine ⟨hM.1 i, fun h => ?_⟩
  generalize hq : p = q at h
  induction h with
  | start => exact h0
  | step h1 h2 ih =>
    cases h2 with
    | chr e1 e2 e3 e4 => exact hM.2.2 _ _ hq h1 ⟨_, _, e1, e2, e3, e4⟩
    | spx e1 e2 e3 => subst hq; exact hM.2.1 _ (ih rfl) _ ((eps_go hp).2 (.spx e1 e2 e3))
    | spy e1 e2 e3 => subst hq; exact hM.2.1 _ (ih rfl) _ ((eps_go hp).2 (.spy e1 e2 e3))
    | jmp e1 e2 e3 => subst hq; exact hM.2.1 _ (ih rfl) _ ((eps_go hp).2 (.jmp e1 e2 e3))
    | fst e1 e2 e3 => subst hq; exact hM.2.1 _ (ih rfl) _ ((eps_go hp).2 (.fst e1 e2 e3))
    | lst e1 e2 e3 => subst hq; exact hM.2.1 _ (ih rfl) _ ((eps_go hp).2 (.lst e1 e2 e3))
theorem Most.all {l st : List In} (hp : Pg l st) {s : List Nat} {St : Nat → Prop} {p : Nat} {L : List Nat} (hM : Most l s St p L) (hs : ¬ St p) : All l s St p L := by
  intro i
  refine ⟨hM.1 i, fun h => ?_⟩
  generalize hq : p = q at h
  induction h with
  | start h => subst hq; exact absurd h hs
  | step h1 h2 ih =>
    cases h2 with
    | chr e1 e2 e3 e4 => exact hM.2.2 _ _ hq h1 ⟨_, _, e1, e2, e3, e4⟩
    | spx e1 e2 e3 => subst hq; exact hM.2.1 _ (ih rfl) _ ((eps_go hp).2 (.spx e1 e2 e3))
    | spy e1 e2 e3 => subst hq; exact hM.2.1 _ (ih rfl) _ ((eps_go hp).2 (.spy e1 e2 e3))
    | jmp e1 e2 e3 => subst hq; exact hM.2.1 _ (ih rfl) _ ((eps_go hp).2 (.jmp e1 e2 e3))
    | fst e1 e2 e3 => subst hq; exact hM.2.1 _ (ih rfl) _ ((eps_go hp).2 (.fst e1 e2 e3))
    | lst e1 e2 e3 => subst hq; exact hM.2.1 _ (ih rfl) _ ((eps_go hp).2 (.lst e1 e2 e3))
/-- So many of the steps that were here asked for a byte. -/
def Asked (l : List In) (s : List Nat) (p : Nat) (B : List Nat) (k : Nat) (L : List Nat) : Prop :=
  EC l s.length (p + 1) L ∧ (∀ j, j < k → ∀ i, B[j]? = some i → Tk l s p i → i + 1 ∈ L) ∧ ∀ x ∈ L, ∃ i ∈ B, Tk l s p i ∧ Er l s.length (p + 1) (i + 1) x
theorem Asked.zero (l : List In) (s : List Nat) (p : Nat) (B : List Nat) : Asked l s p B 0 [] := ⟨fun i h => by (cases h), fun j h => by omega, fun i h => by (cases h)⟩
theorem Asked.skip {l : List In} {s : List Nat} {p : Nat} {B : List Nat} {k : Nat} {L : List Nat} (h : Asked l s p B k L) {i : Nat} (hi : B[k]? = some i) (hn : ¬ Tk l s p i) : Asked l s p B (k + 1) L := by
  refine ⟨h.1, fun j hj a ha ht => ?_, h.2.2⟩
  by_cases e : j = k
  · subst e
    rw [hi] at ha
    injection ha with ha
    subst ha
    exact absurd ht hn
  · exact h.2.1 j (by omega) a ha ht
theorem Asked.take {l : List In} {s : List Nat} {p : Nat} {B : List Nat} {k : Nat} {L M : List Nat} (h : Asked l s p B k L) {i : Nat} (hi : B[k]? = some i) (ht : Tk l s p i) (hr : Rea l s.length (p + 1) L (i + 1) M) : Asked l s p B (k + 1) M := by
  refine ⟨hr.1, fun j hj a ha ht2 => ?_, fun x hx => ?_⟩
  · by_cases e : j = k
    · subst e
      rw [hi] at ha
      injection ha with ha
      subst ha
      exact hr.2.2.1
    · exact hr.2.1 _ (h.2.1 j (by omega) a ha ht2)
  · rcases hr.2.2.2 x hx with h1 | h1
    · exact h.2.2 x h1
    · exact ⟨i, List.mem_of_getElem? hi, ht, h1⟩
theorem Asked.most {l st : List In} (hp : Pg l st) {s : List Nat} {St : Nat → Prop} {p : Nat} {B L : List Nat} {k : Nat} (h : Asked l s p B k L) (hk : B.length ≤ k) (hB : All l s St p B) : Most l s St (p + 1) L := by
  refine ⟨fun i hi => ?_, h.1, fun i p0 e h1 h2 => ?_⟩
  · obtain ⟨a, ha, ⟨x, c, e1, e2, e3, e4⟩, h3⟩ := h.2.2 i hi
    exact h3.rch hp (.step ((hB a).1 ha) (.chr e1 e2 e3 e4))
  · obtain rfl : p = p0 := by omega
    obtain ⟨j, hj⟩ := List.mem_iff_getElem?.1 ((hB i).2 h1)
    exact h.2.1 j (by have := (List.getElem?_eq_some_iff.1 hj).1; omega) i hj h2
theorem rch_wn {l : List In} {s : List Nat} {St : Nat → Prop} {i p : Nat} : Rch l s St i p ↔ ∃ p0 n, St p0 ∧ Wn l s n 0 p0 i p := by
  constructor
  · intro h
    induction h with
    | start h => exact ⟨_, 0, h, .nil⟩
    | step _ h ih =>
      obtain ⟨p0, n, h1, h2⟩ := ih
      exact ⟨p0, _, h1, h2.add (Wn.one h)⟩
  · rintro ⟨p0, n, h1, h2⟩
    have : ∀ {n i p j q}, Wn l s n i p j q → Rch l s St i p → Rch l s St j q := by
      intro n i p j q h
      induction h with
      | nil => exact id
      | cons h _ ih => exact fun k => ih (.step k h)
    exact this h2 (.start h1)
theorem Go1.not6 {l : List In} {s : List Nat} {i p j q : Nat} (h : Go1 l s i p j q) (hx : l[i]? = some (stepI 6)) : False := by
  cases h with
  | chr e1 e2 => rw [hx] at e1; injection e1 with e1; subst e1; cases e2
  | spx e1 e2 => rw [hx] at e1; injection e1 with e1; subst e1; cases e2
  | spy e1 e2 => rw [hx] at e1; injection e1 with e1; subst e1; cases e2
  | jmp e1 e2 => rw [hx] at e1; injection e1 with e1; subst e1; cases e2
  | fst e1 e2 => rw [hx] at e1; injection e1 with e1; subst e1; cases e2
  | lst e1 e2 => rw [hx] at e1; injection e1 with e1; subst e1; cases e2
theorem pg_fr {l st : List In} (hp : Pg l st) {s : List Nat} {p q : Nat} : (∃ n, Wn l s n 0 p st.length q) ↔ Fr st s p q := by
  obtain ⟨rfl, hc, _⟩ := hp
  have sa : Sub (st ++ [stepI 6]) 0 st := fun i hi => by rw [Nat.zero_add, List.getElem?_append_left hi]
  constructor
  · rintro ⟨n, h⟩
    obtain ⟨n1, n2, r, w1, w2, _⟩ := Wn.exit hc sa n 0 p _ q (Nat.zero_le _) (.inr (by omega)) h
    rw [Nat.zero_add] at w2
    cases w2 with
    | nil => exact ⟨n1, w1⟩
    | cons g _ =>
      exfalso
      have hd : (st ++ [stepI 6])[st.length]? = some (stepI 6) := by rw [List.getElem?_append_right (Nat.le_refl _), Nat.sub_self]; rfl
      exact g.not6 hd
  · intro h
    obtain ⟨n, w⟩ := h.at sa
    rw [Nat.zero_add] at w
    exact ⟨n, w⟩
/-- What all the steps reached tell. -/
theorem all_done {l st : List In} (hp : Pg l st) {s : List Nat} {St : Nat → Prop} {p : Nat} {L : List Nat} (h : All l s St p L) : st.length ∈ L ↔ ∃ p0, St p0 ∧ Fr st s p0 p := by
  rw [h, rch_wn]
  constructor
  · rintro ⟨p0, n, h1, h2⟩
    exact ⟨p0, h1, (pg_fr hp).1 ⟨n, h2⟩⟩
  · rintro ⟨p0, h1, h2⟩
    obtain ⟨n, h3⟩ := (pg_fr hp).2 h2
    exact ⟨p0, n, h1, h3⟩
end Go.Proofs.YteiacgpaocnofaaGreat.Rg
/- Sets of steps in memory: what they are, and that they stay; the program's calls that make, grow and empty one. -/
namespace Go.Proofs.YteiacgpaocnofaaGreat.Rg
set_option maxRecDepth 100000
open Go.RowKit
/-- All but some blocks stay as they were. -/
structure Kp (S : List Nat) (w w' : World) : Prop where
  os : w'.os = w.os
  tape : w'.tape = w.tape
  output : w'.output = w.output
  size : w.heap.size ≤ w'.heap.size
  block : ∀ k, k < w.heap.size → k ∉ S → w'.heap[k]? = w.heap[k]?
theorem Kp.refl (S : List Nat) (w : World) : Kp S w w := ⟨rfl, rfl, rfl, Nat.le_refl _, fun _ _ _ => rfl⟩
theorem Kp.trans {S : List Nat} {a b c : World} (h : Kp S a b) (k : Kp S b c) : Kp S a c :=
  ⟨k.os.trans h.os, k.tape.trans h.tape, k.output.trans h.output, Nat.le_trans h.size k.size, fun i hi hn => (k.block i (Nat.lt_of_lt_of_le hi h.size) hn).trans (h.block i hi hn)⟩
theorem Kp.mono {S T : List Nat} {a b : World} (h : Kp S a b) (hs : ∀ x ∈ S, x ∈ T) : Kp T a b := ⟨h.os, h.tape, h.output, h.size, fun i hi hn => h.block i hi (fun e => hn (hs i e))⟩
theorem Kp.drew {S : List Nat} {a b : World} (h : Kp S a b) (n : Nat) : Kp S a (b.drewN n) := ⟨h.os, h.tape, h.output, h.size, h.block⟩
theorem Kp.undrew {S : List Nat} {a b : World} (h : Kp S a.drew b) : Kp S a b := ⟨h.os, h.tape, h.output, h.size, h.block⟩
theorem Kp.undrewN {S : List Nat} {a b : World} {n : Nat} (h : Kp S (a.drewN n) b) : Kp S a b := ⟨h.os, h.tape, h.output, h.size, h.block⟩
theorem Kp.alloc {S : List Nat} {a b : World} (h : Kp S a b) (o : Obj) : Kp S a (b.alloc o) :=
  h.trans ⟨rfl, rfl, rfl, by simp, fun k hk _ => Below.heap_alloc _ _ _ hk⟩
theorem Kp.setCell {S : List Nat} {a b : World} (h : Kp S a b) {p : Addr} (hp : p.block ∈ S) (u : Value) : Kp S a (b.setCell p u) :=
  h.trans ⟨rfl, rfl, rfl, by simp [World.setCell], fun k _ hn => Below.heap_setCell _ _ _ _ (fun e => hn (e ▸ hp))⟩
theorem Kp.setRow {S : List Nat} {a b : World} (h : Kp S a b) {g : Nat} (hg : g ∈ S) (cs : Array Value) : Kp S a (b.setRow g cs) :=
  h.trans ⟨rfl, rfl, rfl, by simp, fun k _ hn => setRow_other _ _ _ _ (fun e => hn (e ▸ hg))⟩
theorem Kp.of_below {S : List Nat} {a b : World} (h : Below a.heap.size a b) : Kp S a b := ⟨h.os, h.tape, h.output, h.size, fun k hk _ => h.block k hk⟩
theorem Kp.below {S : List Nat} {B : Nat} {a b : World} (h : Kp S a b) (hB : B ≤ a.heap.size) (hS : ∀ x ∈ S, B ≤ x) : Below B a b := ⟨h.os, h.tape, h.output, h.size, fun k hk => h.block k (by omega) (fun e => by have := hS k e; omega)⟩
theorem Kp.heap {S : List Nat} {a b : World} (h : Kp S a b) {g : Nat} {o : Obj} (hr : a.heap[g]? = some o) (hg : g ∉ S) : b.heap[g]? = some o := (h.block g (Array.getElem?_eq_some_iff.1 hr).1 hg).trans hr
/-- The blocks of a set of steps: its own, its list's, its marks'. -/
structure Sb where
  k : Nat
  a : Nat
  b : Nat
def Sb.all (x : Sb) : List Nat := [x.k, x.a, x.b]
/-- A set of steps. -/
def SsAt (w : World) (x : Sb) (N : Nat) (L : List Nat) : Prop :=
  (Few N L ∧ 0 < N ∧ N ≤ 1000) ∧ w.heap[x.k]? = some (.cells #[.slice (some ⟨x.a, 0, none⟩) L.length N, .slice (some ⟨x.b, 0, none⟩) N N] 182 (0, 0)) ∧
  (∃ cs : Array Value, w.heap[x.a]? = some (.cells cs 3 (0, 0)) ∧ cs.size = N ∧ ∀ (j y : Nat), L[j]? = some y → cs[j]? = some (.int .i64 (y : Int))) ∧
  ∃ bs : Array Value, w.heap[x.b]? = some (.cells bs 4 (0, 0)) ∧ bs.size = N ∧ ∀ j, j < N → bs[j]? = some (.bool (decide (j ∈ L)))
theorem SsAt.kp {w w' : World} {x : Sb} {N : Nat} {L : List Nat} {S : List Nat} (h : SsAt w x N L) (hk : Kp S w w') (hx : ∀ y ∈ x.all, y ∉ S) : SsAt w' x N L := by
  obtain ⟨h1, h2, ⟨cs, h3, h4⟩, bs, h5, h6⟩ := h
  exact ⟨h1, hk.heap h2 (hx _ (by simp [Sb.all])), ⟨cs, hk.heap h3 (hx _ (by simp [Sb.all])), h4⟩, bs, hk.heap h5 (hx _ (by simp [Sb.all])), h6⟩
theorem SsAt.drew {w : World} {x : Sb} {N : Nat} {L : List Nat} (h : SsAt w x N L) : SsAt w.drew x N L := h
theorem SsAt.ne {w : World} {x : Sb} {N : Nat} {L : List Nat} (h : SsAt w x N L) : x.k ≠ x.a ∧ x.k ≠ x.b ∧ x.a ≠ x.b := by
  obtain ⟨h1, h2, ⟨cs, h3, h4⟩, bs, h5, h6⟩ := h
  refine ⟨fun e => ?_, fun e => ?_, fun e => ?_⟩
  · rw [e, h3] at h2; injection h2 with h2; injection h2 with _ h2 _; exact absurd h2 (by decide)
  · rw [e, h5] at h2; injection h2 with h2; injection h2 with _ h2 _; exact absurd h2 (by decide)
  · rw [e, h5] at h3; injection h3 with h3; injection h3 with _ h3 _; exact absurd h3 (by decide)
theorem SsAt.lt {w : World} {x : Sb} {N : Nat} {L : List Nat} (h : SsAt w x N L) : x.k < w.heap.size ∧ x.a < w.heap.size ∧ x.b < w.heap.size := by
  obtain ⟨h1, h2, ⟨cs, h3, h4⟩, bs, h5, h6⟩ := h
  exact ⟨(Array.getElem?_eq_some_iff.1 h2).1, (Array.getElem?_eq_some_iff.1 h3).1, (Array.getElem?_eq_some_iff.1 h5).1⟩
theorem few_lt {N : Nat} {L : List Nat} (h : Few N L) : L.length ≤ N := few_len N L h
/-- A new set, empty. -/
theorem ss_new {w' : World} {x : Sb} {N : Nat} (h0 : 0 < N ∧ N ≤ 1000) (hk : w'.heap[x.k]? = some (.cells #[.slice (some ⟨x.a, 0, none⟩) 0 N, .slice (some ⟨x.b, 0, none⟩) N N] 182 (0, 0)))
    (ha : w'.heap[x.a]? = some (.cells (madeCells #[.int .i64 0] N) 3 (0, 0))) (hb : w'.heap[x.b]? = some (.cells (madeCells #[.bool false] N) 4 (0, 0))) : SsAt w' x N [] := by
  refine ⟨⟨Few.nil N, h0⟩, hk, ⟨_, ha, by rw [size_madeCells], fun j y h => by simp at h⟩, _, hb, by rw [size_madeCells], fun j hj => ?_⟩
  have : (madeCells #[.bool false] N)[j]? = some (.bool false) := by
    unfold madeCells
    simp [hj, Nat.mod_one]
  rw [this]
  simp
theorem mk_ints {N : Nat} (h : N ≤ 1000) (w : World) : (Instr.makeSlice 129 (.int .i64 0) (.int .i64 (N : Int))).run Tryz.prog w = .ok (.slice (some ⟨w.heap.size, 0, none⟩) 0 N) (w.alloc (.cells (madeCells #[.int .i64 0] N) 3)) := by
  have he : (Tryz.prog.info? 3).map (fun i => (i.zero, i.size, i.bytes)) = some (some (.int .i64 0), 1, 8) := by kernel_rfl
  cases hi : Tryz.prog.info? 3 with
  | none => rw [hi] at he; cases he
  | some i =>
    rw [hi] at he
    simp only [Option.map_some, Option.some.injEq, Prod.mk.injEq] at he
    have hr := run_makeSlice (P := Tryz.prog) w 129 3 i (.int .i64 0) (by kernel_rfl) hi he.1 .i64 .i64 0 (N : Int) (Int.le_refl _) (by omega) (by rw [he.2.1]; omega) (by rw [he.2.2]; omega) (by omega)
    rw [he.2.1] at hr
    simp only [Int.toNat_natCast, Nat.mul_one, Int.toNat_zero] at hr
    exact hr
theorem mk_bools {N : Nat} (h : N ≤ 1000) (w : World) : (Instr.makeSlice 117 (.int .i64 (N : Int)) (.int .i64 (N : Int))).run Tryz.prog w = .ok (.slice (some ⟨w.heap.size, 0, none⟩) N N) (w.alloc (.cells (madeCells #[.bool false] N) 4)) := by
  have he : (Tryz.prog.info? 4).map (fun i => (i.zero, i.size, i.bytes)) = some (some (.bool false), 1, 1) := by kernel_rfl
  cases hi : Tryz.prog.info? 4 with
  | none => rw [hi] at he; cases he
  | some i =>
    rw [hi] at he
    simp only [Option.map_some, Option.some.injEq, Prod.mk.injEq] at he
    have hr := run_makeSlice (P := Tryz.prog) w 117 4 i (.bool false) (by kernel_rfl) hi he.1 .i64 .i64 (N : Int) (N : Int) (by omega) (by omega) (by rw [he.2.1]; omega) (by rw [he.2.2]; omega) (by omega)
    rw [he.2.1] at hr
    simp only [Int.toNat_natCast, Nat.mul_one] at hr
    exact hr
theorem new3 (w : World) (o1 o2 o3 : Obj) : (((w.alloc o1).alloc o2).alloc o3).drew.heap[w.heap.size]? = some o1 ∧ (((w.alloc o1).alloc o2).alloc o3).drew.heap[w.heap.size + 1]? = some o2 ∧ (((w.alloc o1).alloc o2).alloc o3).drew.heap[w.heap.size + 2]? = some o3 ∧ Below w.heap.size w (((w.alloc o1).alloc o2).alloc o3).drew := by
  have s1 : (w.alloc o1).heap.size = w.heap.size + 1 := by simp
  have s2 : ((w.alloc o1).alloc o2).heap.size = w.heap.size + 2 := by simp
  refine ⟨?_, ?_, ?_, ?_⟩
  · rw [heap_drew, heap_alloc_old _ _ (by omega), heap_alloc_old _ _ (by omega), heap_alloc_new]
  · rw [heap_drew, heap_alloc_old _ _ (by omega), ← s1, heap_alloc_new]
  · rw [heap_drew, ← s2, heap_alloc_new]
  · exact Below.drew (((Below.refl _ _).alloc (Nat.le_refl _) _ |>.alloc (by omega) _).alloc (by omega) _)
set_option maxRecDepth 100000 in
set_option maxHeartbeats 2000000 in
theorem newSteps_any {w : World} {N : Nat} (h0 : 0 < N ∧ N ≤ 1000) : Calls Tryz.prog 195 #[.int .i64 (N : Int)] w fun e w' => ∃ x : Sb, e = .returned (.pointer (some ⟨x.k, 0, none⟩)) ∧ SsAt w' x N [] ∧ Below w.heap.size w w' ∧ w.heap.size ≤ x.k ∧ w.heap.size ≤ x.a ∧ w.heap.size ≤ x.b := by
  have m1 := mk_ints h0.2
  have m2 := mk_bools h0.2
  have H0 := hide h0
  clear h0
  go_enter Tryz.func195, Tryz.ntmps195
  go_wp2
  go_region
  all_goals (go_wp2; go_ret)
  · exact ⟨⟨w.heap.size + 2, w.heap.size, w.heap.size + 1⟩, rfl, ss_new H0.out (new3 w _ _ _).2.2.1 (new3 w _ _ _).1 (new3 w _ _ _).2.1, (new3 w _ _ _).2.2.2, by simp, by simp, by simp⟩
  · exact ⟨⟨w.heap.size + 2, w.heap.size + 1, w.heap.size⟩, rfl, ss_new H0.out (new3 w _ _ _).2.2.1 (new3 w _ _ _).2.1 (new3 w _ _ _).1, (new3 w _ _ _).2.2.2, by simp, by simp, by simp⟩
end Go.Proofs.YteiacgpaocnofaaGreat.Rg
/- Sets of steps: the program's calls that put a step in, and that empty the set. -/
namespace Go.Proofs.YteiacgpaocnofaaGreat.Rg
set_option maxRecDepth 100000
open Go.RowKit
theorem infoI : ∃ i, Tryz.prog.info? 3 = some i ∧ i.size = 1 := by
  have he : (Tryz.prog.info? 3).map (fun i => i.size) = some 1 := by kernel_rfl
  cases hi : Tryz.prog.info? 3 with
  | none => rw [hi] at he; cases he
  | some i => rw [hi] at he; simp at he; exact ⟨i, rfl, he⟩
/-- A number put behind others of a row with room. -/
theorem wpList_append_room {ops : Array Oper} {rest : List Oper} {o : Oper} {a : Act} {w : World} {Q : Exit → Act → World → Prop} (hgd : o.guard = none) (s x : Operand) (ho : o.op = .call { callee := .builtin .append, args := #[s, x], argTypes := #[129, 129] })
    {g n N b c : Nat} {cur : Array Value} {z : Int} (hs : a.eval s = .slice (some ⟨g, 0, none⟩) n N) (hx : a.eval x = .slice (some ⟨b, 0, none⟩) 1 c) (hr : w.heap[g]? = some (.cells cur 3 (0, 0))) (hb : w.cell? ⟨b, 0, none⟩ = some (.int .i64 z)) (hn : n < N) (hc : cur.size = N)
    (hk : ∀ cs : Array Value, cs.size = N → (∀ j, j < n → cs[j]? = cur[j]?) → cs[n]? = some (.int .i64 z) → wpList Tryz.prog ops Q rest (a.put o.dst (.slice (some ⟨g, 0, none⟩) (n + 1) N)) (w.setRow g cs)) : wpList Tryz.prog ops Q (o :: rest) a w := by
  obtain ⟨i, hi, hsz⟩ := infoI
  refine wpList_plain hgd fun K hK => ?_
  have hrun := Go.run_append_room (P := Tryz.prog) w 129 o.type 3 i (by kernel_rfl) hi g n N cur hr ⟨b, 0, none⟩ 1 c [.int .i64 z] (by simp [hsz]) (fun j u h => by
    obtain ⟨rfl, rfl⟩ : j = 0 ∧ Value.int .i64 z = u := by cases j with
      | zero => simp at h; exact ⟨rfl, h⟩
      | succ j => simp at h
    exact hb) (by simp [Value.oneCell']) (by omega) (by simp [hsz]; omega)
  rw [← hs, ← hx] at hrun
  refine Oper.wp_value (run_op_append ho hrun) (hK _ _ (hk _ ?_ ?_ ?_))
  · simp [hsz]; omega
  · intro j hj
    simp [hsz]
    rw [List.getElem?_append_left (by simp; omega), List.getElem?_take, if_pos hj]
    simp
  · simp [hsz]
    rw [List.getElem?_append_right (by simp; omega), List.length_take, Array.length_toList, Nat.min_eq_left (by omega), Nat.sub_self]
    rfl
/-- A new member's mark, its number in the list, and the list's length. -/
theorem ss_add {w w' : World} {x : Sb} {N : Nat} {L : List Nat} (h : SsAt w x N L) {i : Nat} (hi : i < N) (hn : i ∉ L) {cur cs bs : Array Value} (hcur : w.heap[x.a]? = some (.cells cur 3 (0, 0))) (hc : cs.size = N) (h1 : ∀ j, j < L.length → cs[j]? = cur[j]?) (h2 : cs[L.length]? = some (.int .i64 (i : Int)))
    (hbs : w.heap[x.b]? = some (.cells bs 4 (0, 0))) (k1 : w'.heap[x.k]? = some (.cells #[.slice (some ⟨x.a, 0, none⟩) (L.length + 1) N, .slice (some ⟨x.b, 0, none⟩) N N] 182 (0, 0))) (k2 : w'.heap[x.a]? = some (.cells cs 3 (0, 0))) (k3 : w'.heap[x.b]? = some (.cells (bs.setIfInBounds i (.bool true)) 4 (0, 0))) : SsAt w' x N (ins L i) := by
  obtain ⟨g1, g2, ⟨cs', g3, g4, g5⟩, bs', g6, g7, g8⟩ := h
  rw [hcur] at g3
  injection g3 with g3; injection g3 with g3; subst g3
  rw [hbs] at g6
  injection g6 with g6; injection g6 with g6; subst g6
  have hf : Few N (ins L i) := g1.1.ins hi
  have he : ins L i = L ++ [i] := by unfold ins; rw [if_neg hn]
  rw [he] at hf ⊢
  refine ⟨⟨hf, g1.2⟩, by rw [k1]; simp, ⟨cs, k2, hc, fun j y hj => ?_⟩, _, k3, by simpa using g7, fun j hj => ?_⟩
  · by_cases hl : j < L.length
    · rw [List.getElem?_append_left hl] at hj
      rw [h1 j hl]
      exact g5 j y hj
    · rw [List.getElem?_append_right (by omega)] at hj
      obtain ⟨h0, rfl⟩ : j - L.length = 0 ∧ i = y := by
        cases hd : j - L.length with
        | zero => rw [hd] at hj; simp at hj; exact ⟨rfl, hj⟩
        | succ d => rw [hd] at hj; simp at hj
      obtain rfl : j = L.length := by omega
      exact h2
  · rw [Array.getElem?_setIfInBounds]
    by_cases hij : i = j
    · subst hij
      rw [if_pos rfl, if_pos (by omega)]
      simp
    · rw [if_neg hij, g8 j hj]
      congr 2
      simp
      omega
set_option maxRecDepth 100000 in
set_option maxHeartbeats 2000000 in
theorem sadd_any {w : World} {x : Sb} {N : Nat} {L : List Nat} (h : SsAt w x N L) {i : Nat} (hi : i < N) : Calls Tryz.prog 211 #[.pointer (some ⟨x.k, 0, none⟩), .int .i64 (i : Int)] w fun e w' => e = .returned (.tuple #[]) ∧ SsAt w' x N (ins L i) ∧ Kp x.all w w' := by
  have H := hide h
  have HN := hide h.ne
  obtain ⟨g1, g2, ⟨cs, g3, g4, g5⟩, bs, g6, g7, g8⟩ := h
  have c1 := (row_reads g2).1 1
  simp only [List.getElem?_toArray, List.getElem?_cons_zero, List.getElem?_cons_succ] at c1
  have c2 := (row_reads g6).1 i
  have hN : N ≤ 1000 := g1.2.2
  have hL := few_lt g1.1
  rw [g8 i hi] at c2
  by_cases hm : i ∈ L
  · rw [decide_eq_true hm] at c2
    clear g1 g2 g3 g4 g5 g6 g7 g8
    go_enter Tryz.func211, Tryz.ntmps211
    go_wp2
    refine bodyPost_ret (results_none rfl _ _ _) rfl ?_
    refine ⟨rfl, ?_, Kp.refl _ _⟩
    unfold ins
    rw [if_pos hm]
    exact H.out
  · rw [decide_eq_false hm] at c2
    have hroom : L.length < N := g1.1.room hi hm
    have f2 := (row_reads g6).2 i
    have b1 : (w.setCell ⟨x.b, i, none⟩ (.bool true)).heap[x.b]? = some (.cells (bs.setIfInBounds i (.bool true)) 4 (0, 0)) := heap_setCell_same _ _ _ _ _ _ g6
    have b2 : (w.setCell ⟨x.b, i, none⟩ (.bool true)).heap[x.k]? = some (.cells #[.slice (some ⟨x.a, 0, none⟩) L.length N, .slice (some ⟨x.b, 0, none⟩) N N] 182 (0, 0)) := (heap_setCell_other _ _ _ _ HN.out.2.1).trans g2
    have b3 : (w.setCell ⟨x.b, i, none⟩ (.bool true)).heap[x.a]? = some (.cells cs 3 (0, 0)) := (heap_setCell_other _ _ _ _ HN.out.2.2).trans g3
    have b4 : Kp x.all w (w.setCell ⟨x.b, i, none⟩ (.bool true)) := (Kp.refl _ _).setCell (by simp [Sb.all]) _
    obtain ⟨d1, _⟩ := (row_reads b2).1 0 |> fun h => And.intro h trivial
    simp only [List.getElem?_toArray, List.getElem?_cons_zero] at d1
    have HB := hide (And.intro b1 (And.intro b2 (And.intro b3 b4)))
    have HG := hide (And.intro g3 (And.intro g6 (And.intro g4 hm)))
    have b3' := hide b3
    clear g1 g2 g3 g4 g5 g6 g7 g8 b1 b2 b3 b4
    go_enter Tryz.func211, Tryz.ntmps211
    obtain ⟨w1, hw1⟩ : ∃ w1, w.setCell ⟨x.b, i, none⟩ (.bool true) = w1 := ⟨_, rfl⟩
    rw [hw1] at HB d1 b3'
    have HW := hide (And.intro ((Below.heap (alloc_below w1 (.cells #[.int .i64 (i : Int)] 3)) (Array.getElem?_eq_some_iff.1 HB.out.2.2.1).1 HB.out.2.2.1)) (heap_alloc_new w1 (.cells #[.int .i64 (i : Int)] 3)))
    go_wp2_with (at_builtin; (refine wpList_append_room (g := x.a) (n := L.length) (N := N) (b := w1.heap.size) (c := 1) (cur := cs) (z := (i : Int)) rfl (.tmp 21) (.tmp 23) rfl ?c4 ?c5 ?c2 ?c1 ?c6 ?c3 ?_))
    case c4 => rfl
    case c5 => rfl
    case c2 => exact HW.out.1
    case c1 => exact (row_reads HW.out.2).1 0
    case c6 => exact hroom
    case c3 => exact HG.out.2.2.1
    intro cs' e1 e2 e3
    have HC := hide (And.intro e1 (And.intro e2 e3))
    clear e1 e2 e3
    have k1 : ((w1.alloc (.cells #[.int .i64 (i : Int)] 3)).setRow x.a cs').heap[x.k]? = some (.cells #[.slice (some ⟨x.a, 0, none⟩) L.length N, .slice (some ⟨x.b, 0, none⟩) N N] 182 (0, 0)) := (setRow_other _ _ _ _ HN.out.1).trans (Below.heap (alloc_below _ _) (Array.getElem?_eq_some_iff.1 HB.out.2.1).1 HB.out.2.1)
    have k2 : ((w1.alloc (.cells #[.int .i64 (i : Int)] 3)).setRow x.a cs').heap[x.a]? = some (.cells cs' 3 (0, 0)) := setRow_heap _ _ _ _ _ _ HW.out.1
    have k3 : ((w1.alloc (.cells #[.int .i64 (i : Int)] 3)).setRow x.a cs').heap[x.b]? = some (.cells (bs.setIfInBounds i (.bool true)) 4 (0, 0)) := (setRow_other _ _ _ _ (Ne.symm HN.out.2.2)).trans (Below.heap (alloc_below _ _) (Array.getElem?_eq_some_iff.1 HB.out.1).1 HB.out.1)
    have k4 : Kp x.all w ((w1.alloc (.cells #[.int .i64 (i : Int)] 3)).setRow x.a cs') := (HB.out.2.2.2.alloc _).setRow (by simp [Sb.all]) _
    generalize (w1.alloc (.cells #[.int .i64 (i : Int)] 3)).setRow x.a cs' = w2 at *
    have f3 := (row_reads k1).1 0
    simp only [List.getElem?_toArray, List.getElem?_cons_zero] at f3
    have f4 := (row_reads k1).2 0
    have HK := hide (And.intro k1 (And.intro k2 (And.intro k3 k4)))
    clear k1 k2 k3 k4
    go_wp2
    go_end0
    refine ⟨rfl, ss_add H.out hi HG.out.2.2.2 HG.out.1 HC.out.1 HC.out.2.1 HC.out.2.2 HG.out.2.1 ?_ ((heap_setCell_other _ _ _ _ (Ne.symm HN.out.1)).trans HK.out.2.1) ((heap_setCell_other _ _ _ _ (Ne.symm HN.out.2.1)).trans HK.out.2.2.1), HK.out.2.2.2.setCell (by simp [Sb.all]) _⟩
    rw [heap_setCell_same _ _ _ _ _ _ HK.out.1]
    rfl
theorem setCells_row (b : Nat) (t : TypeId) : ∀ (vs : List Value) (o : Nat) (w : World) (cs : Array Value), w.heap[b]? = some (.cells cs t (0, 0)) → o + vs.length ≤ cs.size →
    ∃ cs' : Array Value, (w.setCells b o vs).heap[b]? = some (.cells cs' t (0, 0)) ∧ cs'.size = cs.size ∧ (∀ j, j < o → cs'[j]? = cs[j]?) ∧ (∀ j, j < vs.length → cs'[o + j]? = vs[j]?) := by
  intro vs
  induction vs with
  | nil => intro o w cs h _; exact ⟨cs, h, rfl, fun _ _ => rfl, fun j hj => by simp at hj⟩
  | cons v vs ih =>
    intro o w cs h hl
    rw [List.length_cons] at hl
    obtain ⟨cs', h1, h2, h3, h4⟩ := ih (o + 1) (w.setCell ⟨b, o, none⟩ v) (cs.setIfInBounds o v) (heap_setCell_same _ _ _ _ _ _ h) (by simp; omega)
    refine ⟨cs', h1, by rw [h2]; simp, fun j hj => ?_, fun j hj => ?_⟩
    · rw [h3 j (by omega), Array.getElem?_setIfInBounds, if_neg (by omega)]
    · cases j with
      | zero =>
        rw [Nat.add_zero, h3 o (by omega), Array.getElem?_setIfInBounds, if_pos rfl, if_pos (by omega)]
        rfl
      | succ j =>
        rw [List.length_cons] at hj
        rw [show o + (j + 1) = o + 1 + j by omega, h4 j (by omega), List.getElem?_cons_succ]
theorem setCells_kp (b : Nat) {S : List Nat} (hb : b ∈ S) : ∀ (vs : List Value) (o : Nat) (w : World), Kp S w (w.setCells b o vs) := by
  intro vs
  induction vs with
  | nil => intro o w; exact Kp.refl _ _
  | cons v vs ih => intro o w; exact ((Kp.refl S w).setCell hb v).trans (ih _ _)
set_option maxRecDepth 100000 in
set_option maxHeartbeats 2000000 in
theorem sclear_any {w : World} {x : Sb} {N : Nat} {L : List Nat} (h : SsAt w x N L) : Calls Tryz.prog 197 #[.pointer (some ⟨x.k, 0, none⟩)] w fun e w' => e = .returned (.tuple #[]) ∧ SsAt w' x N [] ∧ Kp x.all w w' := by
  have HN := hide h.ne
  obtain ⟨g1, g2, ⟨cs, g3, g4, g5⟩, bs, g6, g7, g8⟩ := h
  have c0 := (row_reads g2).1 0
  simp only [List.getElem?_toArray, List.getElem?_cons_zero] at c0
  have f0 := (row_reads g2).2 0
  have hL := few_lt g1.1
  obtain ⟨w1, hw1⟩ : ∃ w1, w.setCell ⟨x.k, 0, none⟩ (.slice (some ⟨x.a, 0, none⟩) 0 N) = w1 := ⟨_, rfl⟩
  have b1 : w1.heap[x.k]? = some (.cells #[.slice (some ⟨x.a, 0, none⟩) 0 N, .slice (some ⟨x.b, 0, none⟩) N N] 182 (0, 0)) := by
    rw [← hw1, heap_setCell_same _ _ _ _ _ _ g2]
    rfl
  have b2 : w1.heap[x.a]? = some (.cells cs 3 (0, 0)) := by rw [← hw1]; exact (heap_setCell_other _ _ _ _ (Ne.symm HN.out.1)).trans g3
  have b3 : w1.heap[x.b]? = some (.cells bs 4 (0, 0)) := by rw [← hw1]; exact (heap_setCell_other _ _ _ _ (Ne.symm HN.out.2.1)).trans g6
  have b4 : Kp x.all w w1 := by rw [← hw1]; exact (Kp.refl _ _).setCell (by simp [Sb.all]) _
  have d1 := (row_reads b1).1 1
  simp only [List.getElem?_toArray, List.getElem?_cons_zero, List.getElem?_cons_succ] at d1
  have hcl : ∀ ty, (Builtin.clear_ #[117] ty #[.slice (some ⟨x.b, 0, none⟩) N N]).run Tryz.prog w1 = .ok (.tuple #[]) (w1.setCells x.b 0 (List.replicate N (.bool false))) :=
    fun ty => Lib.run_clear_slice w1 117 4 ty (.bool false) (by kernel_rfl) (fun w => by kernel_rfl) rfl rfl x.b 0 N N g1.2.1 (fun j hj => by rw [(row_reads b3).1, Nat.zero_add, g8 j hj]; rfl) (fun j _ => (row_reads b3).2 _)
  obtain ⟨cs', e1, e2, _, e3⟩ := setCells_row x.b 4 (List.replicate N (.bool false)) 0 w1 bs b3 (by simp; omega)
  have e4 := setCells_kp x.b (S := [x.b]) (by simp) (List.replicate N (.bool false)) 0 w1
  have HF : Hid (SsAt (w1.setCells x.b 0 (List.replicate N (.bool false))) x N [] ∧ Kp x.all w (w1.setCells x.b 0 (List.replicate N (.bool false)))) := by
    refine ⟨⟨⟨Few.nil N, g1.2⟩, e4.heap b1 (by simpa using HN.out.2.1), ⟨cs, e4.heap b2 (by simpa using HN.out.2.2), g4, fun j y h => by simp at h⟩, cs', e1, by rw [e2]; exact g7, fun j hj => ?_⟩, b4.trans (e4.mono (by intro y hy; simp at hy; subst hy; simp [Sb.all]))⟩
    have := e3 j (by simpa using hj)
    rw [Nat.zero_add, List.getElem?_replicate, if_pos hj] at this
    rw [this]
    simp
  generalize w1.setCells x.b 0 (List.replicate N (.bool false)) = w2 at *
  clear b1 b2 b3 b4 e1 e2 e3 e4 g1 g2 g3 g4 g5 g6 g7 g8
  go_enter Tryz.func197, Tryz.ntmps197
  go_wp2_with (simp only [hcl])
  go_end0
  exact ⟨rfl, HF.out.1, HF.out.2⟩
end Go.Proofs.YteiacgpaocnofaaGreat.Rg
/- A run in memory: its program, its two sets; where a step leads to without a byte: the program's call. -/
namespace Go.Proofs.YteiacgpaocnofaaGreat.Rg
set_option maxRecDepth 100000
open Go.RowKit
/-- A program in memory. -/
def PrAt (w : World) (g cap : Nat) (m : List In) : Prop :=
  m.length ≤ cap ∧ cap ≤ 9223372036854775807 ∧ g < w.heap.size ∧ ∀ (j : Nat) (i : In), m[j]? = some i → ∀ q, q < 7 → w.cell? ⟨g, j * 7 + q, none⟩ = (ic i)[q]?
theorem cell_of_heap {w w' : World} {g : Nat} (h : w'.heap[g]? = w.heap[g]?) (j : Nat) : w'.cell? ⟨g, j, none⟩ = w.cell? ⟨g, j, none⟩ := by
  simp [World.cell?, h]
theorem PrAt.kp {w w' : World} {g cap : Nat} {m : List In} {S : List Nat} (h : PrAt w g cap m) (hk : Kp S w w') (hg : g ∉ S) : PrAt w' g cap m :=
  ⟨h.1, h.2.1, Nat.lt_of_lt_of_le h.2.2.1 hk.size, fun j i hj q hq => (cell_of_heap (hk.block g h.2.2.1 hg) _).trans (h.2.2.2 j i hj q hq)⟩
/-- No block is two things. -/
def Ap (r g : Nat) (x y : Sb) : Prop := (r ∉ x.all ∧ r ∉ y.all) ∧ (g ∉ x.all ∧ g ∉ y.all ∧ g ≠ r) ∧ ∀ z ∈ x.all, z ∉ y.all
/-- A run: in block r, its program's steps in block g, at place p of the text; the set of where ways stand, and the other one. -/
def RnAt (w : World) (r g cap : Nat) (s : ByteArray) (l : List In) (p : Nat) (x y : Sb) (L M : List Nat) : Prop :=
  w.heap[r]? = some (.cells #[.slice (some ⟨g, 0, none⟩) l.length cap, .string s, .int .i64 (p : Int), .pointer (some ⟨x.k, 0, none⟩), .pointer (some ⟨y.k, 0, none⟩)] 179 (0, 0)) ∧
  PrAt w g cap (plF 0 l) ∧ (SsAt w x l.length L ∧ SsAt w y l.length M) ∧ Ap r g x y ∧ s.size ≤ 256 ∧ p ≤ s.size
theorem RnAt.here {w w' : World} {r g cap : Nat} {s : ByteArray} {l : List In} {p : Nat} {x y : Sb} {L L' M : List Nat} (h : RnAt w r g cap s l p x y L M) (hk : Kp x.all w w') (hs : SsAt w' x l.length L') : RnAt w' r g cap s l p x y L' M := by
  obtain ⟨h1, h2, h3, h4, h5⟩ := h
  exact ⟨hk.heap h1 h4.1.1, h2.kp hk h4.2.1.1, ⟨hs, h3.2.kp hk (fun z hz h => h4.2.2 z h hz)⟩, h4, h5⟩
theorem RnAt.quiet {w w' : World} {r g cap : Nat} {s : ByteArray} {l : List In} {p : Nat} {x y : Sb} {L M : List Nat} (h : RnAt w r g cap s l p x y L M) (hk : Kp [] w w') : RnAt w' r g cap s l p x y L M := by
  obtain ⟨h1, h2, h3, h4, h5⟩ := h
  exact ⟨hk.heap h1 (by simp), h2.kp hk (by simp), ⟨h3.1.kp hk (by simp), h3.2.kp hk (by simp)⟩, h4, h5⟩
theorem Kp.nil {S : List Nat} {a b : World} (h : Kp [] a b) : Kp S a b := h.mono (by simp)
theorem pl_at {l : List In} {i : Nat} {z : In} (h : l[i]? = some z) : (plF 0 l)[i]? = some (plI i z) := by rw [plF_at, h, Option.map_some, Nat.zero_add]
theorem RnAt.reads {w : World} {r g cap : Nat} {s : ByteArray} {l : List In} {p : Nat} {x y : Sb} {L M : List Nat} (h : RnAt w r g cap s l p x y L M) : w.cell? ⟨r, 0, none⟩ = some (.slice (some ⟨g, 0, none⟩) l.length cap) ∧ w.cell? ⟨r, 1, none⟩ = some (.string s) ∧ w.cell? ⟨r, 2, none⟩ = some (.int .i64 (p : Int)) ∧ w.cell? ⟨r, 3, none⟩ = some (.pointer (some ⟨x.k, 0, none⟩)) ∧ w.cell? ⟨r, 4, none⟩ = some (.pointer (some ⟨y.k, 0, none⟩)) := by
  have h0 := (row_reads h.1).1
  exact ⟨h0 0, h0 1, h0 2, h0 3, h0 4⟩
/-- A step's cells. -/
theorem RnAt.inst {w : World} {r g cap : Nat} {s : ByteArray} {l : List In} {p : Nat} {x y : Sb} {L M : List Nat} (h : RnAt w r g cap s l p x y L M) {i : Nat} {z : In} (hi : l[i]? = some z) :
    w.cell? ⟨g, i * 7, none⟩ = some (.int .i64 (plI i z).k) ∧ w.cell? ⟨g, i * 7 + 1, none⟩ = some (.int .u64 ((plI i z).s 0 : Int)) ∧ w.cell? ⟨g, i * 7 + 2, none⟩ = some (.int .u64 ((plI i z).s 1 : Int)) ∧ w.cell? ⟨g, i * 7 + 3, none⟩ = some (.int .u64 ((plI i z).s 2 : Int)) ∧ w.cell? ⟨g, i * 7 + 4, none⟩ = some (.int .u64 ((plI i z).s 3 : Int)) ∧ w.cell? ⟨g, i * 7 + 5, none⟩ = some (.int .i64 (plI i z).x) ∧ w.cell? ⟨g, i * 7 + 6, none⟩ = some (.int .i64 (plI i z).y) := by
  have h0 := h.2.1.2.2.2 i _ (pl_at hi)
  exact ⟨h0 0 (by omega), h0 1 (by omega), h0 2 (by omega), h0 3 (by omega), h0 4 (by omega), h0 5 (by omega), h0 6 (by omega)⟩
theorem pl_ks (n : Nat) (z : In) : (plI n z).k = z.k ∧ (plI n z).s = z.s := by
  unfold plI
  split
  · exact ⟨rfl, rfl⟩
  split
  · exact ⟨rfl, rfl⟩
  · exact ⟨rfl, rfl⟩
theorem pl_split2 {n j1 j2 : Nat} {z : In} (hk : z.k = 2) (h1 : z.x + n = j1) (h2 : z.y + n = j2) (b1 : j1 ≤ 1000) (b2 : j2 ≤ 1000) : (plI n z).x = j1 ∧ (plI n z).y = j2 := by
  unfold plI
  rw [if_pos hk, h1, h2]
  simp only [wrap64]
  constructor <;> omega
theorem pl_jump2 {n j1 : Nat} {z : In} (hk : z.k = 3) (h1 : z.x + n = j1) (b1 : j1 ≤ 1000) : (plI n z).x = j1 := by
  unfold plI
  rw [if_neg (by omega), if_pos hk, h1]
  simp only [wrap64]
  omega
set_option maxRecDepth 100000 in
set_option maxHeartbeats 4000000 in
theorem follow_split {w : World} {r g cap : Nat} {s : ByteArray} {l st : List In} {p : Nat} {x y : Sb} {L M : List Nat} (hp : Pg l st) (h : RnAt w r g cap s l p x y L M) {i : Nat} {z : In} (hi : l[i]? = some z) (hk : z.k = 2) :
    Calls Tryz.prog 212 #[.pointer (some ⟨r, 0, none⟩), .int .i64 (i : Int)] w fun e w' => e = .returned (.tuple #[]) ∧ RnAt w' r g cap s l p x y (insAll L (eps l s.size p i)) M ∧ Kp x.all w w' := by
  obtain ⟨j1, j2, e1, e2, b1, b2⟩ := hp.split hi hk
  have hN := h.2.2.1.1.1.2.2
  obtain ⟨p1, p2⟩ := pl_split2 hk e1 e2 (by omega) (by omega)
  rw [eps_split hi hk e1 e2]
  have hlt := (List.getElem?_eq_some_iff.1 hi).1
  obtain ⟨r0, _, _, r3, _⟩ := h.reads
  obtain ⟨c0, c1, c2, c3, c4, c5, c6⟩ := h.inst hi
  rw [(pl_ks i z).1, hk] at c0
  rw [p1] at c5
  rw [p2] at c6
  have H := hide h
  have HB := hide (And.intro b1 b2)
  clear h e1 e2 p1 p2 b1 b2 hi hk hp hN
  generalize ((plI i z).s 0 : Int) = s0 at *
  generalize ((plI i z).s 1 : Int) = s1 at *
  generalize ((plI i z).s 2 : Int) = s2 at *
  generalize ((plI i z).s 3 : Int) = s3 at *
  obtain ⟨n, hn⟩ : ∃ n, l.length = n := ⟨_, rfl⟩
  rw [hn] at r0 hlt
  have HN := hide hn
  clear hn
  have k1 : Kp [] w (w.alloc (.cells #[.int .i64 2, .int .u64 s0, .int .u64 s1, .int .u64 s2, .int .u64 s3, .int .i64 (j1 : Int), .int .i64 (j2 : Int)] 184)) := (Kp.refl _ _).alloc _
  have q0 : (w.alloc (.cells #[.int .i64 2, .int .u64 s0, .int .u64 s1, .int .u64 s2, .int .u64 s3, .int .i64 (j1 : Int), .int .i64 (j2 : Int)] 184)).heap[w.heap.size]? = some (.cells #[.int .i64 2, .int .u64 s0, .int .u64 s1, .int .u64 s2, .int .u64 s3, .int .i64 (j1 : Int), .int .i64 (j2 : Int)] 184 (0, 0)) := heap_alloc_new _ _
  obtain ⟨w1, hw1⟩ : ∃ w1, w.alloc (.cells #[.int .i64 2, .int .u64 s0, .int .u64 s1, .int .u64 s2, .int .u64 s3, .int .i64 (j1 : Int), .int .i64 (j2 : Int)] 184) = w1 := ⟨_, rfl⟩
  obtain ⟨m, hm⟩ : ∃ m, w.heap.size = m := ⟨_, rfl⟩
  rw [hw1] at k1 q0
  rw [hm] at q0
  have H1 := hide (H.out.quiet k1)
  have QK := (row_reads q0).1 0
  have QX := (row_reads q0).1 5
  simp only [List.getElem?_toArray, List.getElem?_cons_zero, List.getElem?_cons_succ] at QX QK
  obtain ⟨_, t1, t2, t3, _⟩ := H1.out.reads
  have HM : Hid (∀ W : World, Kp x.all w1 W → W.heap[m]? = w1.heap[m]?) := hide (fun W hW => hW.block m (Array.getElem?_eq_some_iff.1 q0).1 (by have := H.out.2.2.1.1.lt; simp [Sb.all]; omega))
  have HQ := hide q0
  have HK := hide k1
  clear q0 k1
  go_enter Tryz.func212, Tryz.ntmps212
  go_wp2_with fail
  go_region_with (go_at_call 211; refine (sadd_any H1.out.2.2.1.1.drew HB.out.1).mono ?_; rintro e_ w2 ⟨rfl, h2, k2'⟩; have k2 := k2'.undrew; clear k2')
  all_goals (
    have H2 := hide (RnAt.here H1.out k2 h2)
    have QZ := (row_reads ((HM.out _ k2).trans HQ.out)).1 6
    simp only [List.getElem?_toArray, List.getElem?_cons_zero, List.getElem?_cons_succ] at QZ
    obtain ⟨_, _, _, u3, _⟩ := H2.out.reads
    have HK2 := hide k2
    clear h2 k2
    go_wp2_with fail
    go_region_with (go_at_call 211; refine (sadd_any H2.out.2.2.1.1.drew HB.out.2).mono ?_; rintro e_ w3 ⟨rfl, h3, k3'⟩; have k3 := k3'.undrew; clear k3')
    all_goals (
      have H3 := hide (And.intro (RnAt.here H2.out k3 h3) ((HK.out.nil (S := x.all)).trans (HK2.out.trans k3)))
      clear h3 k3
      go_wp2
      go_end0
      exact ⟨rfl, H3.out.1, H3.out.2⟩))
set_option maxRecDepth 100000 in
set_option maxHeartbeats 4000000 in
theorem follow_jump {w : World} {r g cap : Nat} {s : ByteArray} {l st : List In} {p : Nat} {x y : Sb} {L M : List Nat} (hp : Pg l st) (h : RnAt w r g cap s l p x y L M) {i : Nat} {z : In} (hi : l[i]? = some z) (hk : z.k = 3) :
    Calls Tryz.prog 212 #[.pointer (some ⟨r, 0, none⟩), .int .i64 (i : Int)] w fun e w' => e = .returned (.tuple #[]) ∧ RnAt w' r g cap s l p x y (insAll L (eps l s.size p i)) M ∧ Kp x.all w w' := by
  obtain ⟨j1, e1, b1⟩ := hp.jump hi hk
  have hN := h.2.2.1.1.1.2.2
  have p1 := pl_jump2 hk e1 (by omega)
  rw [eps_jump hi hk e1]
  have hlt := (List.getElem?_eq_some_iff.1 hi).1
  obtain ⟨r0, _, _, r3, _⟩ := h.reads
  obtain ⟨c0, c1, c2, c3, c4, c5, c6⟩ := h.inst hi
  rw [(pl_ks i z).1, hk] at c0
  rw [p1] at c5
  have H := hide h
  have HB := hide b1
  clear h e1 p1 b1 hi hk hp hN
  generalize ((plI i z).s 0 : Int) = s0 at *
  generalize ((plI i z).s 1 : Int) = s1 at *
  generalize ((plI i z).s 2 : Int) = s2 at *
  generalize ((plI i z).s 3 : Int) = s3 at *
  generalize (plI i z).y = s6 at *
  obtain ⟨n, hn⟩ : ∃ n, l.length = n := ⟨_, rfl⟩
  rw [hn] at r0 hlt
  have HN := hide hn
  clear hn
  have k1 : Kp [] w (w.alloc (.cells #[.int .i64 3, .int .u64 s0, .int .u64 s1, .int .u64 s2, .int .u64 s3, .int .i64 (j1 : Int), .int .i64 s6] 184)) := (Kp.refl _ _).alloc _
  have q0 : (w.alloc (.cells #[.int .i64 3, .int .u64 s0, .int .u64 s1, .int .u64 s2, .int .u64 s3, .int .i64 (j1 : Int), .int .i64 s6] 184)).heap[w.heap.size]? = some (.cells #[.int .i64 3, .int .u64 s0, .int .u64 s1, .int .u64 s2, .int .u64 s3, .int .i64 (j1 : Int), .int .i64 s6] 184 (0, 0)) := heap_alloc_new _ _
  obtain ⟨w1, hw1⟩ : ∃ w1, w.alloc (.cells #[.int .i64 3, .int .u64 s0, .int .u64 s1, .int .u64 s2, .int .u64 s3, .int .i64 (j1 : Int), .int .i64 s6] 184) = w1 := ⟨_, rfl⟩
  obtain ⟨m, hm⟩ : ∃ m, w.heap.size = m := ⟨_, rfl⟩
  rw [hw1] at k1 q0
  rw [hm] at q0
  have H1 := hide (H.out.quiet k1)
  have QK := (row_reads q0).1 0
  have QX := (row_reads q0).1 5
  simp only [List.getElem?_toArray, List.getElem?_cons_zero, List.getElem?_cons_succ] at QX QK
  obtain ⟨_, t1, t2, t3, _⟩ := H1.out.reads
  have HM : Hid (∀ W : World, Kp x.all w1 W → W.heap[m]? = w1.heap[m]?) := hide (fun W hW => hW.block m (Array.getElem?_eq_some_iff.1 q0).1 (by have := H.out.2.2.1.1.lt; simp [Sb.all]; omega))
  have HQ := hide q0
  have HK := hide k1
  clear q0 k1
  go_enter Tryz.func212, Tryz.ntmps212
  go_wp2_with fail
  go_region_with (go_at_call 211; refine (sadd_any H1.out.2.2.1.1.drew HB.out).mono ?_; rintro e_ w2 ⟨rfl, h2, k2'⟩; have k2 := k2'.undrew; clear k2')
  all_goals (
    have H3 := hide (And.intro (RnAt.here H1.out k2 h2) ((HK.out.nil (S := x.all)).trans k2))
    clear h2 k2
    go_wp2
    go_end0
    exact ⟨rfl, H3.out.1, H3.out.2⟩)
set_option maxRecDepth 100000 in
set_option maxHeartbeats 4000000 in
theorem follow_first {w : World} {r g cap : Nat} {s : ByteArray} {l st : List In} {p : Nat} {x y : Sb} {L M : List Nat} (hp : Pg l st) (h : RnAt w r g cap s l p x y L M) {i : Nat} {z : In} (hi : l[i]? = some z) (hk : z.k = 4) :
    Calls Tryz.prog 212 #[.pointer (some ⟨r, 0, none⟩), .int .i64 (i : Int)] w fun e w' => e = .returned (.tuple #[]) ∧ RnAt w' r g cap s l p x y (insAll L (eps l s.size p i)) M ∧ Kp x.all w w' := by
  have b1 := hp.next hi (by omega)
  have hN := h.2.2.1.1.1.2.2
  rw [eps_fst hi hk]
  have hlt := (List.getElem?_eq_some_iff.1 hi).1
  obtain ⟨r0, _, _, r3, _⟩ := h.reads
  obtain ⟨c0, c1, c2, c3, c4, c5, c6⟩ := h.inst hi
  rw [(pl_ks i z).1, hk] at c0
  have H := hide h
  have HB := hide b1
  have hi1 : i + 1 ≤ 1000 := by omega
  clear h b1 hi hk hp hN
  generalize ((plI i z).s 0 : Int) = s0 at *
  generalize ((plI i z).s 1 : Int) = s1 at *
  generalize ((plI i z).s 2 : Int) = s2 at *
  generalize ((plI i z).s 3 : Int) = s3 at *
  generalize (plI i z).x = s5 at *
  generalize (plI i z).y = s6 at *
  obtain ⟨n, hn⟩ : ∃ n, l.length = n := ⟨_, rfl⟩
  rw [hn] at r0 hlt
  have HN := hide hn
  clear hn
  have k1 : Kp [] w (w.alloc (.cells #[.int .i64 4, .int .u64 s0, .int .u64 s1, .int .u64 s2, .int .u64 s3, .int .i64 s5, .int .i64 s6] 184)) := (Kp.refl _ _).alloc _
  have q0 : (w.alloc (.cells #[.int .i64 4, .int .u64 s0, .int .u64 s1, .int .u64 s2, .int .u64 s3, .int .i64 s5, .int .i64 s6] 184)).heap[w.heap.size]? = some (.cells #[.int .i64 4, .int .u64 s0, .int .u64 s1, .int .u64 s2, .int .u64 s3, .int .i64 s5, .int .i64 s6] 184 (0, 0)) := heap_alloc_new _ _
  obtain ⟨w1, hw1⟩ : ∃ w1, w.alloc (.cells #[.int .i64 4, .int .u64 s0, .int .u64 s1, .int .u64 s2, .int .u64 s3, .int .i64 s5, .int .i64 s6] 184) = w1 := ⟨_, rfl⟩
  obtain ⟨m, hm⟩ : ∃ m, w.heap.size = m := ⟨_, rfl⟩
  rw [hw1] at k1 q0
  rw [hm] at q0
  have H1 := hide (H.out.quiet k1)
  have QK := (row_reads q0).1 0
  have QX := (row_reads q0).1 5
  simp only [List.getElem?_toArray, List.getElem?_cons_zero, List.getElem?_cons_succ] at QX QK
  obtain ⟨_, t1, t2, t3, _⟩ := H1.out.reads
  have HM : Hid (∀ W : World, Kp x.all w1 W → W.heap[m]? = w1.heap[m]?) := hide (fun W hW => hW.block m (Array.getElem?_eq_some_iff.1 q0).1 (by have := H.out.2.2.1.1.lt; simp [Sb.all]; omega))
  have HQ := hide q0
  have HK := hide k1
  clear q0 k1
  go_enter Tryz.func212, Tryz.ntmps212
  have hw : wrap64 ((i : Int) + 1) = ((i + 1 : Nat) : Int) := by simp only [wrap64]; omega
  by_cases hp0 : p = 0
  · subst hp0
    rw [if_pos rfl]
    go_wp2_with fail
    refine (sadd_any (i := i + 1) H1.out.2.2.1.1 HB.out).mono ?_
    rintro e_ w2 ⟨rfl, h2, k2⟩
    have H3 := hide (And.intro (RnAt.here H1.out k2 h2) ((HK.out.nil (S := x.all)).trans k2))
    clear h2 k2
    go_wp2
    go_end0
    exact ⟨rfl, H3.out.1, H3.out.2⟩
  · rw [if_neg hp0]
    have hd : ((p : Int) == 0) = false := beq_eq_false_iff_ne.2 (by omega)
    go_wp2
    go_end0
    exact ⟨rfl, H1.out, HK.out.nil⟩
set_option maxRecDepth 100000 in
set_option maxHeartbeats 4000000 in
theorem follow_last {w : World} {r g cap : Nat} {s : ByteArray} {l st : List In} {p : Nat} {x y : Sb} {L M : List Nat} (hp : Pg l st) (h : RnAt w r g cap s l p x y L M) {i : Nat} {z : In} (hi : l[i]? = some z) (hk : z.k = 5) :
    Calls Tryz.prog 212 #[.pointer (some ⟨r, 0, none⟩), .int .i64 (i : Int)] w fun e w' => e = .returned (.tuple #[]) ∧ RnAt w' r g cap s l p x y (insAll L (eps l s.size p i)) M ∧ Kp x.all w w' := by
  have b1 := hp.next hi (by omega)
  have hN := h.2.2.1.1.1.2.2
  rw [eps_lst hi hk]
  have hlt := (List.getElem?_eq_some_iff.1 hi).1
  obtain ⟨r0, _, _, r3, _⟩ := h.reads
  obtain ⟨c0, c1, c2, c3, c4, c5, c6⟩ := h.inst hi
  rw [(pl_ks i z).1, hk] at c0
  have H := hide h
  have HB := hide b1
  have hi1 : i + 1 ≤ 1000 := by omega
  clear h b1 hi hk hp hN
  generalize ((plI i z).s 0 : Int) = s0 at *
  generalize ((plI i z).s 1 : Int) = s1 at *
  generalize ((plI i z).s 2 : Int) = s2 at *
  generalize ((plI i z).s 3 : Int) = s3 at *
  generalize (plI i z).x = s5 at *
  generalize (plI i z).y = s6 at *
  obtain ⟨n, hn⟩ : ∃ n, l.length = n := ⟨_, rfl⟩
  rw [hn] at r0 hlt
  have HN := hide hn
  clear hn
  have k1 : Kp [] w (w.alloc (.cells #[.int .i64 5, .int .u64 s0, .int .u64 s1, .int .u64 s2, .int .u64 s3, .int .i64 s5, .int .i64 s6] 184)) := (Kp.refl _ _).alloc _
  have q0 : (w.alloc (.cells #[.int .i64 5, .int .u64 s0, .int .u64 s1, .int .u64 s2, .int .u64 s3, .int .i64 s5, .int .i64 s6] 184)).heap[w.heap.size]? = some (.cells #[.int .i64 5, .int .u64 s0, .int .u64 s1, .int .u64 s2, .int .u64 s3, .int .i64 s5, .int .i64 s6] 184 (0, 0)) := heap_alloc_new _ _
  obtain ⟨w1, hw1⟩ : ∃ w1, w.alloc (.cells #[.int .i64 5, .int .u64 s0, .int .u64 s1, .int .u64 s2, .int .u64 s3, .int .i64 s5, .int .i64 s6] 184) = w1 := ⟨_, rfl⟩
  obtain ⟨m, hm⟩ : ∃ m, w.heap.size = m := ⟨_, rfl⟩
  rw [hw1] at k1 q0
  rw [hm] at q0
  have H1 := hide (H.out.quiet k1)
  have QK := (row_reads q0).1 0
  have QX := (row_reads q0).1 5
  simp only [List.getElem?_toArray, List.getElem?_cons_zero, List.getElem?_cons_succ] at QX QK
  obtain ⟨_, t1, t2, t3, _⟩ := H1.out.reads
  have HM : Hid (∀ W : World, Kp x.all w1 W → W.heap[m]? = w1.heap[m]?) := hide (fun W hW => hW.block m (Array.getElem?_eq_some_iff.1 q0).1 (by have := H.out.2.2.1.1.lt; simp [Sb.all]; omega))
  have HQ := hide q0
  have HK := hide k1
  clear q0 k1
  go_enter Tryz.func212, Tryz.ntmps212
  have hw : wrap64 ((i : Int) + 1) = ((i + 1 : Nat) : Int) := by simp only [wrap64]; omega
  by_cases hp0 : p = s.size
  · have hd : ((p : Int) == (s.size : Int)) = true := beq_iff_eq.2 (by omega)
    rw [if_pos hp0]
    have HP0 := hide hp0
    clear hp0
    go_wp2_with fail
    go_quiet (fail)
    go_wp2_with fail
    refine (sadd_any (w := w1.drewN nq) (x := x) (N := l.length) (L := L) (i := i + 1) H1.out.2.2.1.1 HB.out).mono ?_
    rintro e_ w2 ⟨rfl, h2, k2'⟩
    have k2 := k2'.undrewN
    clear k2'
    have H3 := hide (And.intro (RnAt.here H1.out k2 h2) ((HK.out.nil (S := x.all)).trans k2))
    clear h2 k2
    go_wp2
    go_end0
    exact ⟨rfl, H3.out.1, H3.out.2⟩
  · rw [if_neg hp0]
    have hd : ((p : Int) == (s.size : Int)) = false := beq_eq_false_iff_ne.2 (by omega)
    go_wp2_with fail
    go_quiet (fail)
    go_wp2
    go_end0
    exact ⟨rfl, H1.out, HK.out.nil.drew nq⟩
set_option maxRecDepth 100000 in
set_option maxHeartbeats 4000000 in
theorem follow_none {w : World} {r g cap : Nat} {s : ByteArray} {l : List In} {p : Nat} {x y : Sb} {L M : List Nat} (h : RnAt w r g cap s l p x y L M) {i : Nat} {z : In} (hi : l[i]? = some z) (h2 : z.k ≠ 2) (h3 : z.k ≠ 3) (h4 : z.k ≠ 4) (h5 : z.k ≠ 5) :
    Calls Tryz.prog 212 #[.pointer (some ⟨r, 0, none⟩), .int .i64 (i : Int)] w fun e w' => e = .returned (.tuple #[]) ∧ RnAt w' r g cap s l p x y (insAll L (eps l s.size p i)) M ∧ Kp x.all w w' := by
  rw [eps_none hi h2 h3 h4 h5]
  have q2 : (z.k == (2 : Int)) = false := beq_eq_false_iff_ne.2 h2
  have q3 : (z.k == (3 : Int)) = false := beq_eq_false_iff_ne.2 h3
  have q4 : (z.k == (4 : Int)) = false := beq_eq_false_iff_ne.2 h4
  have q5 : (z.k == (5 : Int)) = false := beq_eq_false_iff_ne.2 h5
  have hlt := (List.getElem?_eq_some_iff.1 hi).1
  obtain ⟨r0, _, _, r3, _⟩ := h.reads
  obtain ⟨c0, c1, c2, c3, c4, c5, c6⟩ := h.inst hi
  rw [(pl_ks i z).1] at c0
  have H := hide h
  clear h hi h2 h3 h4 h5
  generalize ((plI i z).s 0 : Int) = s0 at *
  generalize ((plI i z).s 1 : Int) = s1 at *
  generalize ((plI i z).s 2 : Int) = s2 at *
  generalize ((plI i z).s 3 : Int) = s3 at *
  generalize (plI i z).x = s5 at *
  generalize (plI i z).y = s6 at *
  generalize z.k = s7 at *
  obtain ⟨n, hn⟩ : ∃ n, l.length = n := ⟨_, rfl⟩
  rw [hn] at r0 hlt
  have HN := hide hn
  clear hn
  have k1 : Kp [] w (w.alloc (.cells #[.int .i64 s7, .int .u64 s0, .int .u64 s1, .int .u64 s2, .int .u64 s3, .int .i64 s5, .int .i64 s6] 184)) := (Kp.refl _ _).alloc _
  have q0 : (w.alloc (.cells #[.int .i64 s7, .int .u64 s0, .int .u64 s1, .int .u64 s2, .int .u64 s3, .int .i64 s5, .int .i64 s6] 184)).heap[w.heap.size]? = some (.cells #[.int .i64 s7, .int .u64 s0, .int .u64 s1, .int .u64 s2, .int .u64 s3, .int .i64 s5, .int .i64 s6] 184 (0, 0)) := heap_alloc_new _ _
  obtain ⟨w1, hw1⟩ : ∃ w1, w.alloc (.cells #[.int .i64 s7, .int .u64 s0, .int .u64 s1, .int .u64 s2, .int .u64 s3, .int .i64 s5, .int .i64 s6] 184) = w1 := ⟨_, rfl⟩
  obtain ⟨m, hm⟩ : ∃ m, w.heap.size = m := ⟨_, rfl⟩
  rw [hw1] at k1 q0
  rw [hm] at q0
  have H1 := hide (H.out.quiet k1)
  have QK := (row_reads q0).1 0
  have QX := (row_reads q0).1 5
  simp only [List.getElem?_toArray, List.getElem?_cons_zero, List.getElem?_cons_succ] at QX QK
  obtain ⟨_, t1, t2, t3, _⟩ := H1.out.reads
  have HM : Hid (∀ W : World, Kp x.all w1 W → W.heap[m]? = w1.heap[m]?) := hide (fun W hW => hW.block m (Array.getElem?_eq_some_iff.1 q0).1 (by have := H.out.2.2.1.1.lt; simp [Sb.all]; omega))
  have HQ := hide q0
  have HK := hide k1
  clear q0 k1
  go_enter Tryz.func212, Tryz.ntmps212
  go_wp2
  go_end0
  exact ⟨rfl, H1.out, HK.out.nil⟩
theorem follow_any {w : World} {r g cap : Nat} {s : ByteArray} {l st : List In} {p : Nat} {x y : Sb} {L M : List Nat} (hp : Pg l st) (h : RnAt w r g cap s l p x y L M) {i : Nat} (hi : i < l.length) :
    Calls Tryz.prog 212 #[.pointer (some ⟨r, 0, none⟩), .int .i64 (i : Int)] w fun e w' => e = .returned (.tuple #[]) ∧ RnAt w' r g cap s l p x y (insAll L (eps l s.size p i)) M ∧ Kp x.all w w' := by
  have hx := List.getElem?_eq_getElem hi
  by_cases h2 : l[i].k = 2
  · exact follow_split hp h hx h2
  by_cases h3 : l[i].k = 3
  · exact follow_jump hp h hx h3
  by_cases h4 : l[i].k = 4
  · exact follow_first hp h hx h4
  by_cases h5 : l[i].k = 5
  · exact follow_last hp h hx h5
  · exact follow_none h hx h2 h3 h4 h5
end Go.Proofs.YteiacgpaocnofaaGreat.Rg
/- Does a step take a byte: the program's call. A pattern's sets fit their words. -/
namespace Go.Proofs.YteiacgpaocnofaaGreat.Rg
set_option maxRecDepth 100000
open Go.RowKit
/-- Sets of bytes that fit four words. -/
def Sm (l : List In) : Prop := ∀ x ∈ l, ∀ j, x.s j < 18446744073709551616
theorem Sm.nil : Sm [] := fun x h => by cases h
theorem Sm.app {a b : List In} (ha : Sm a) (hb : Sm b) : Sm (a ++ b) := fun x h => by
  rcases List.mem_append.1 h with h | h
  · exact ha x h
  · exact hb x h
theorem Sm.cons {x : In} {a : List In} (hx : ∀ j, x.s j < 18446744073709551616) (ha : Sm a) : Sm (x :: a) := fun y h => by
  rcases List.mem_cons.1 h with rfl | h
  · exact hx
  · exact ha y h
theorem zs_lt : ∀ j, zs j < 18446744073709551616 := fun _ => by unfold zs; decide
theorem Sm.step (k : Int) : Sm [stepI k] := Sm.nil.cons zs_lt
theorem Sm.chr {s : Nat → Nat} (h : ∀ j, s j < 18446744073709551616) : Sm [charI s] := Sm.nil.cons h
theorem Sm.only (c : Nat) : Sm [onlyI c] := Sm.chr (fun j => add_lt zs_lt _ _ j)
theorem othS_lt (s : Nat → Nat) : ∀ j, othS s j < 18446744073709551616 := fun j => by
  have h : othS s j = 2 ^ 64 - 1 - s j := rfl
  rw [h]
  omega
theorem Sm.either {a b : List In} (ha : Sm a) (hb : Sm b) : Sm (eitherL a b) := (ha.app (hb.cons zs_lt)).cons zs_lt
theorem Sm.star {a : List In} (ha : Sm a) : Sm (starL a) := (ha.app (Sm.nil.cons zs_lt)).cons zs_lt
theorem Sm.plus {a : List In} (ha : Sm a) : Sm (plusL a) := ha.app (Sm.nil.cons zs_lt)
theorem Sm.opt {a : List In} (ha : Sm a) : Sm (optL a) := ha.cons zs_lt
theorem cls_sm : ∀ (f : Nat) (s s' : Nat → Nat) (r t : List Nat), clsF f s r = .ok s' t → (∀ j, s j < 18446744073709551616) → ∀ j, s' j < 18446744073709551616 := by
  intro f
  induction f with
  | zero => intro s s' r t h; cases h
  | succ f ih =>
    intro s s' r t h hs
    unfold clsF at h
    split at h
    · cases h
    · split at h
      · injection h with h _
        subst h
        exact fun j => add_lt hs _ _ j
      · exact ih _ _ _ _ h (fun j => add_lt hs _ _ j)
theorem class_sm {r t : List Nat} {a : List In} (h : classS r = .ok a t) : Sm a := by
  unfold classS at h
  split at h
  · split at h
    · cases h
    · injection h with h1 h2
      subst h1
      exact Sm.chr (othS_lt _)
  · split at h
    · cases h
    · rename_i hc
      injection h with h1 h2
      subst h1
      exact Sm.chr (cls_sm _ _ _ _ _ hc zs_lt)
def Ins (pat : Nat → List Nat → Rd (List In)) : Prop := ∀ d r a t, pat d r = .ok a t → Sm a
theorem atom_sm {pat : Nat → List Nat → Rd (List In)} (hp : Ins pat) {d c : Nat} {t u : List Nat} {a : List In} (h : atomF pat d c t = .ok a u) : Sm a := by
  unfold atomF at h
  split at h
  · unfold escS at h
    split at h
    · cases h
    · injection h with h1 h2; subst h1; exact Sm.only _
  split at h
  · injection h with h1 h2; subst h1; exact Sm.chr (othS_lt _)
  split at h
  · exact class_sm h
  split at h
  · unfold groupF at h
    split at h
    · cases h
    · split at h
      · cases h
      · rename_i st r hr
        split at h
        · injection h with h1 h2; subst h1; exact hp _ _ _ _ hr
        · cases h
  split at h
  · injection h with h1 h2; subst h1; exact Sm.step _
  split at h
  · injection h with h1 h2; subst h1; exact Sm.step _
  split at h
  · cases h
  · injection h with h1 h2; subst h1; exact Sm.only _
theorem rep_sm {a : List In} (h : Sm a) (t : List Nat) : Sm (repA a t) := by
  unfold repA
  split
  · exact h.star
  split
  · exact h.plus
  split
  · exact h.opt
  · exact h
theorem row_sm {pat : Nat → List Nat → Rd (List In)} (hp : Ins pat) (d : Nat) : ∀ (f : Nat) (r : List Nat) (a : List In) (t : List Nat), rowF pat d f r = .ok a t → Sm a := by
  intro f
  induction f with
  | zero => intro r a t h; cases h
  | succ f ih =>
    intro r a t h
    unfold rowF at h
    split at h
    · injection h with h1 h2; subst h1; exact Sm.nil
    · split at h
      · injection h with h1 h2; subst h1; exact Sm.nil
      · split at h
        · cases h
        · rename_i x u hx
          split at h
          · cases h
          · rename_i b v hb
            injection h with h1 h2
            subst h1
            exact (rep_sm (atom_sm hp hx) u).app (ih _ _ _ hb)
theorem alt_sm {pat : Nat → List Nat → Rd (List In)} (hp : Ins pat) (d : Nat) : ∀ (f : Nat) (r : List Nat) (a : List In) (t : List Nat), altF pat d f r = .ok a t → Sm a := by
  intro f
  induction f with
  | zero => intro r a t h; cases h
  | succ f ih =>
    intro r a t h
    unfold altF at h
    split at h
    · cases h
    · rename_i x u hx
      have hc := row_sm hp d _ _ _ _ hx
      split at h
      · split at h
        · cases h
        · rename_i b v hb
          injection h with h1 h2
          subst h1
          exact hc.either (ih _ _ _ hb)
      · injection h with h1 h2; subst h1; exact hc
theorem pat_sm : ∀ f, Ins (patF f) := by
  intro f
  induction f with
  | zero => intro d r a t h; cases h
  | succ f ih => intro d r a t h; exact alt_sm ih d _ _ _ _ h
theorem and_bit (X q : Nat) (hX : X < 18446744073709551616) : (bits .and .u64 ((X : Int) / 2 ^ q) 1 == 1) = X.testBit q := by
  have h1 : (X : Int) / 2 ^ q = ((X / 2 ^ q : Nat) : Int) := by simp
  have h2 : X / 2 ^ q < 18446744073709551616 := Nat.lt_of_le_of_lt (Nat.div_le_self _ _) hX
  rw [h1, show (1 : Int) = ((1 : Nat) : Int) from rfl, bits_and_u64_nat _ _ h2 (by decide), Nat.and_one_is_mod, Nat.testBit_eq_decide_div_mod_eq]
  by_cases h3 : X / 2 ^ q % 2 = 1
  · rw [h3]; rfl
  · rw [show X / 2 ^ q % 2 = 0 by omega]; rfl
/-- A step as a value. -/
def iv (z : In) : Value := .agg #[.int .i64 z.k, .int .u64 (z.s 0 : Int), .int .u64 (z.s 1 : Int), .int .u64 (z.s 2 : Int), .int .u64 (z.s 3 : Int), .int .i64 z.x, .int .i64 z.y]
set_option maxRecDepth 100000 in
set_option maxHeartbeats 2000000 in
theorem takes_not {w : World} (z : In) (c : Nat) (hk : z.k ≠ 1) : Calls Tryz.prog 198 #[iv z, .int .u8 (c : Int)] w fun e w' => e = .returned (.bool false) ∧ Below w.heap.size w w' := by
  have q1 : (z.k == (1 : Int)) = false := beq_eq_false_iff_ne.2 hk
  unfold iv
  have x0 := (row_reads (heap_alloc_last w (.cells #[.int .i64 z.k, .int .u64 (z.s 0 : Int), .int .u64 (z.s 1 : Int), .int .u64 (z.s 2 : Int), .int .u64 (z.s 3 : Int), .int .i64 z.x, .int .i64 z.y] 184))).1 0
  simp only [List.getElem?_toArray, List.getElem?_cons_zero] at x0
  have HB := hide (alloc_below w (.cells #[.int .i64 z.k, .int .u64 (z.s 0 : Int), .int .u64 (z.s 1 : Int), .int .u64 (z.s 2 : Int), .int .u64 (z.s 3 : Int), .int .i64 z.x, .int .i64 z.y] 184))
  clear hk
  go_enter Tryz.func198, Tryz.ntmps198
  go_wp2
  go_ret
  exact ⟨rfl, HB.out⟩
set_option maxRecDepth 100000 in
set_option maxHeartbeats 2000000 in
theorem takes_chr {w : World} (z : In) (c : Nat) (hc : c < 256) (hk : z.k = 1) (hs : ∀ j, z.s j < 18446744073709551616) : Calls Tryz.prog 198 #[iv z, .int .u8 (c : Int)] w fun e w' => e = .returned (.bool ((z.s (c / 64)).testBit (c % 64))) ∧ Below w.heap.size w w' := by
  unfold iv
  rw [hk]
  have h0 := heap_alloc_last w (.cells #[.int .i64 1, .int .u64 (z.s 0 : Int), .int .u64 (z.s 1 : Int), .int .u64 (z.s 2 : Int), .int .u64 (z.s 3 : Int), .int .i64 z.x, .int .i64 z.y] 184)
  have x0 := (row_reads h0).1 0
  simp only [List.getElem?_toArray, List.getElem?_cons_zero] at x0
  have x1 : (w.alloc (.cells #[.int .i64 1, .int .u64 (z.s 0 : Int), .int .u64 (z.s 1 : Int), .int .u64 (z.s 2 : Int), .int .u64 (z.s 3 : Int), .int .i64 z.x, .int .i64 z.y] 184)).cell? ⟨w.heap.size, 1 + c / 64, none⟩ = some (.int .u64 (z.s (c / 64) : Int)) := by
    rw [(row_reads h0).1]
    obtain h0 | h0 | h0 | h0 : c / 64 = 0 ∨ c / 64 = 1 ∨ c / 64 = 2 ∨ c / 64 = 3 := by omega
    all_goals (rw [h0]; rfl)
  have HB := hide (alloc_below w (.cells #[.int .i64 1, .int .u64 (z.s 0 : Int), .int .u64 (z.s 1 : Int), .int .u64 (z.s 2 : Int), .int .u64 (z.s 3 : Int), .int .i64 z.x, .int .i64 z.y] 184))
  have hv := and_bit (z.s (c / 64)) (c % 64) (hs _)
  have q1 : IntKind.u8.wrap ((c : Int) / 64) = ((c / 64 : Nat) : Int) := by rw [IntKind.wrap_u8]; omega
  have q1b : (c : Int) / 64 = ((c / 64 : Nat) : Int) := by omega
  have q1d : IntKind.u8.wrap ((c / 64 : Nat) : Int) = ((c / 64 : Nat) : Int) := by rw [IntKind.wrap_u8]; omega
  have q2d : IntKind.u8.wrap ((c % 64 : Nat) : Int) = ((c % 64 : Nat) : Int) := by rw [IntKind.wrap_u8]; omega
  have q1c : (c : Int).tdiv 64 = ((c / 64 : Nat) : Int) := by rw [Int.tdiv_eq_ediv_of_nonneg (by omega)]; omega
  have q2 : (c : Int).tmod 64 = ((c % 64 : Nat) : Int) := by rw [Int.tmod_eq_emod_of_nonneg (by omega)]; omega
  have ha : ((c / 64 : Nat) : Int) < 4 := by omega
  have han : c / 64 < 4 := by omega
  have hq : c % 64 < 64 := Nat.mod_lt _ (by decide)
  clear h0 hs hk
  generalize z.s (c / 64) = X at *
  generalize c / 64 = a at *
  generalize c % 64 = q at *
  generalize (z.s 0 : Int) = s0 at *
  generalize (z.s 1 : Int) = s1 at *
  generalize (z.s 2 : Int) = s2 at *
  generalize (z.s 3 : Int) = s3 at *
  generalize X.testBit q = b at *
  go_enter Tryz.func198, Tryz.ntmps198
  go_wp2
  go_ret
  exact ⟨rfl, HB.out⟩
/-- Does a step take a byte. -/
def tkB (z : In) (c : Nat) : Bool := decide (z.k = 1) && (z.s (c / 64)).testBit (c % 64)
theorem takes_any {w : World} (z : In) (c : Nat) (hc : c < 256) (hs : ∀ j, z.s j < 18446744073709551616) : Calls Tryz.prog 198 #[iv z, .int .u8 (c : Int)] w fun e w' => e = .returned (.bool (tkB z c)) ∧ Below w.heap.size w w' := by
  by_cases hk : z.k = 1
  · unfold tkB
    rw [decide_eq_true hk, Bool.true_and]
    exact takes_chr z c hc hk hs
  · unfold tkB
    rw [decide_eq_false hk, Bool.false_and]
    exact takes_not z c hk
theorem tkB_iff {l : List In} {s : List Nat} {p i c : Nat} {z : In} (hi : l[i]? = some z) (hc : s[p]? = some c) : tkB z c = true ↔ Tk l s p i := by
  unfold tkB Tk hasS
  rw [Bool.and_eq_true, decide_eq_true_iff]
  constructor
  · rintro ⟨h1, h2⟩; exact ⟨z, c, hi, h1, hc, h2⟩
  · rintro ⟨x, d, h1, h2, h3, h4⟩
    rw [hi] at h1; injection h1 with h1; subst h1
    rw [hc] at h3; injection h3 with h3; subst h3
    exact ⟨h2, h4⟩
end Go.Proofs.YteiacgpaocnofaaGreat.Rg
/- What a step leads to: the program's calls reach, begin, isDone. -/
namespace Go.Proofs.YteiacgpaocnofaaGreat.Rg
set_option maxRecDepth 100000
open Go.RowKit
theorem SsAt.reads {w : World} {x : Sb} {N : Nat} {L : List Nat} (h : SsAt w x N L) : w.cell? ⟨x.k, 0, none⟩ = some (.slice (some ⟨x.a, 0, none⟩) L.length N) ∧ w.cell? ⟨x.k, 1, none⟩ = some (.slice (some ⟨x.b, 0, none⟩) N N) ∧ (∀ j y : Nat, L[j]? = some y → w.cell? ⟨x.a, j, none⟩ = some (.int .i64 (y : Int))) ∧ (∀ j, j < N → w.cell? ⟨x.b, j, none⟩ = some (.bool (decide (j ∈ L)))) ∧ L.length ≤ N ∧ N ≤ 1000 := by
  obtain ⟨h1, h2, ⟨cs, h3, h4, h5⟩, bs, h6, h7, h8⟩ := h
  exact ⟨(row_reads h2).1 0, (row_reads h2).1 1, fun j y hj => by rw [(row_reads h3).1 j, h5 j y hj], fun j hj => by rw [(row_reads h6).1 j, h8 j hj], few_lt h1.1, h1.2.2⟩
/-- What stands while steps are gone through. -/
def RcX (W w : World) (r g cap : Nat) (s : ByteArray) (l : List In) (p : Nat) (x y : Sb) (L M : List Nat) (k i : Nat) (L1 : List Nat) : Prop := RnAt w r g cap s l p x y L1 M ∧ Half l s.size p L k i L1 ∧ Kp x.all W w
set_option maxRecDepth 100000 in
set_option maxHeartbeats 2000000 in
theorem reach_any {w : World} {r g cap : Nat} {s : ByteArray} {l st : List In} {p : Nat} {x y : Sb} {L M : List Nat} (hp : Pg l st) (h : RnAt w r g cap s l p x y L M) (hE : EC l s.size p L) {k : Nat} (hk : k < l.length) :
    Calls Tryz.prog 196 #[.pointer (some ⟨r, 0, none⟩), .int .i64 (k : Int)] w fun e w' => e = .returned (.tuple #[]) ∧ ∃ L', RnAt w' r g cap s l p x y L' M ∧ Rea l s.size p L k L' ∧ Kp x.all w w' := by
  have H := hide h
  have HE := hide hE
  have HP := hide hp
  obtain ⟨_, _, _, r3, _⟩ := h.reads
  obtain ⟨k0, _, _, _, hL, hN⟩ := h.2.2.1.1.reads
  clear h hE hp
  have HL := hide (And.intro hL hN)
  have HK := hide hk
  have hL1 : L.length ≤ 1000 := by omega
  clear hk hL hN
  go_enter Tryz.func196, Tryz.ntmps196
  go_wp2_with fail
  refine (sadd_any H.out.2.2.1.1 HK.out).mono ?_
  rintro e_ w1 ⟨rfl, h1, k1⟩
  have H1 : Hid (RcX w w1 r g cap s l p x y L M k L.length (ins L k)) := hide ⟨H.out.here k1 h1, Half.start HE.out k, k1⟩
  obtain ⟨N, hn⟩ : ∃ N, l.length = N := ⟨_, rfl⟩
  have HN := hide hn
  clear h1 k1 k0 r3 hn
  go_wp2
  go_loopw [5] (fun s5 wr => ∃ (i : Nat) (L1 : List Nat), i ≤ 1000 ∧ s5 = .int .i64 (i : Int) ∧ Hid (RcX w wr r g cap s l p x y L M k i L1)) (fun i _ => N - (intOf i).toNat)
  case atStart => exact ⟨L.length, _, hL1, rfl, H1⟩
  case round =>
    obtain ⟨i, L1, hi, rfl, HX⟩ := hrel
    clear H1
    obtain ⟨_, _, _, t3, _⟩ := HX.out.1.reads
    obtain ⟨u0, _, u2, _, uL, uN⟩ := HX.out.1.2.2.1.1.reads
    by_cases hlt : i < L1.length
    · have hd : decide ((i : Int) < (L1.length : Int)) = true := decide_eq_true (by omega)
      obtain ⟨a, ha⟩ : ∃ a, L1[i]? = some a := ⟨_, List.getElem?_eq_getElem hlt⟩
      have v1 := u2 i a ha
      have HA := hide (And.intro ha (HX.out.1.2.2.1.1.1.1.2 a (List.mem_of_getElem? ha)))
      have HU := hide (And.intro uL (HN.out ▸ uN : N ≤ 1000))
      have HI := hide (And.intro hi hlt)
      have hi1 : i + 1 ≤ 1000 := by omega
      clear u2 ha uL uN hi
      obtain ⟨n1, hn1⟩ : ∃ n1, L1.length = n1 := ⟨_, rfl⟩
      rw [hn1] at u0 hd hlt
      have HN1 := hide hn1
      clear hn1
      go_wp2_with fail
      refine (follow_any HP.out HX.out.1 HA.out.2).mono ?_
      rintro e_ w2 ⟨rfl, h2, k2⟩
      have H2 : Hid (RcX w w2 r g cap s l p x y L M k (i + 1) (insAll L1 (eps l s.size p a))) := hide ⟨h2, HX.out.2.1.next HE.out HA.out.1, HX.out.2.2.trans k2⟩
      clear h2 k2 t3 u0 v1
      have hw : wrap64 ((i : Int) + 1) = ((i + 1 : Nat) : Int) := by simp only [wrap64]; omega
      go_wp2
      go_roundw
      case rel => exact ⟨i + 1, _, hi1, by go_num, H2⟩
      case measure =>
        have h3 := HI.out.2
        have h4 := HU.out.1
        have h5 := HN.out
        simp [intOf]
        omega
    · have hd : decide ((i : Int) < (L1.length : Int)) = false := decide_eq_false (by omega)
      have HR := hide (And.intro HX.out.1 (And.intro (HX.out.2.1.done (by omega)) HX.out.2.2))
      obtain ⟨n1, hn1⟩ : ∃ n1, L1.length = n1 := ⟨_, rfl⟩
      rw [hn1] at u0 hd hlt
      clear hn1 u2 uL uN
      go_wp2
      go_end0
      exact ⟨rfl, L1, HR.out.1, HR.out.2.1, HR.out.2.2⟩
set_option maxRecDepth 100000 in
set_option maxHeartbeats 2000000 in
theorem begin_any {w : World} {r g cap : Nat} {s : ByteArray} {l st : List In} {p : Nat} {x y : Sb} {L M : List Nat} (hp : Pg l st) (h : RnAt w r g cap s l p x y L M) (hE : EC l s.size p L) :
    Calls Tryz.prog 186 #[.pointer (some ⟨r, 0, none⟩)] w fun e w' => e = .returned (.tuple #[]) ∧ ∃ L', RnAt w' r g cap s l p x y L' M ∧ Rea l s.size p L 0 L' ∧ Kp x.all w w' := by
  have H := hide h
  have HE := hide hE
  have HP := hide hp
  clear h hE hp
  go_enter Tryz.func186, Tryz.ntmps186
  go_wp2_with fail
  refine (reach_any (k := 0) HP.out H.out HE.out H.out.2.2.1.1.1.2.1).mono ?_
  rintro e_ w1 ⟨rfl, h1⟩
  have H1 := hide h1
  clear h1
  go_wp2
  go_end0
  exact ⟨rfl, H1.out⟩
set_option maxRecDepth 100000 in
set_option maxHeartbeats 2000000 in
theorem isDone_any {w : World} {r g cap : Nat} {s : ByteArray} {l st : List In} {p : Nat} {x y : Sb} {L M : List Nat} (hp : Pg l st) (h : RnAt w r g cap s l p x y L M) :
    Calls Tryz.prog 187 #[.pointer (some ⟨r, 0, none⟩)] w fun e w' => e = .returned (.bool (decide (st.length ∈ L))) ∧ RnAt w' r g cap s l p x y L M ∧ Kp [] w w' := by
  have H := hide h
  obtain ⟨r0, _, _, r3, _⟩ := h.reads
  obtain ⟨_, k1, _, k3, _, hN⟩ := h.2.2.1.1.reads
  have hl : l.length = st.length + 1 := by rw [hp.1]; simp
  have k4 := k3 st.length (by omega)
  rw [hl] at r0 k1 hN
  clear h hp k3 hl
  generalize st.length = n at *
  generalize decide (n ∈ L) = b at *
  have hw : wrap64 (((n + 1 : Nat) : Int) - 1) = (n : Int) := by simp only [wrap64]; omega
  go_enter Tryz.func187, Tryz.ntmps187
  go_wp2_with fail
  go_quiet (fail)
  have HF := hide (And.intro (H.out.quiet ((Kp.refl [] w).drew nq)) ((Kp.refl [] w).drew nq))
  generalize w.drewN nq = w2 at *
  go_wp2
  go_ret
  exact ⟨rfl, HF.out.1, HF.out.2⟩
end Go.Proofs.YteiacgpaocnofaaGreat.Rg
/- Texts as lists of bytes: what is cut out of them, and put behind them. -/
namespace Go.Proofs.YteiacgpaocnofaaGreat.Rg
set_option maxRecDepth 100000
open Go.RowKit
theorem bl_add (a b : ByteArray) : bl (a ++ b) = bl a ++ bl b := by
  unfold bl
  rw [ByteArray.data_append, Array.toList_append, List.map_append]
theorem sl_one (x : ByteArray) (j : Nat) (h : j < x.size) (w : World) : (Instr.sliceAt 9 (.string x) (some (.int .i64 (j : Int))) (some (.int .i64 ((j : Int) + 1))) none).run Tryz.prog w = .ok (.string (x.extract j (j + 1))) w := by
  have g5 : ((j : Int) + 1).toNat = j + 1 := by omega
  go_simp
  rw [if_pos ⟨by omega, by omega⟩, if_pos (by omega)]
theorem bl_one (s : ByteArray) (j : Nat) (h : j < s.size) : bl (s.extract j (j + 1)) = [bt s j] := by
  have h1 : (s.extract j (j + 1)).data.toList = (s.data.toList.drop j).take 1 := by
    rw [ByteArray.data_extract, Array.toList_extract, List.extract_eq_take_drop, show j + 1 - j = 1 by omega]
  have h2 : j < s.data.toList.length := h
  have h3 : s.data[j]? = some s.data.toList[j] := by rw [← Array.getElem?_toList, List.getElem?_eq_getElem h2]
  unfold bl bt
  rw [h1, List.drop_eq_getElem_cons h2, h3]
  rfl
theorem bl_take (s : ByteArray) (j : Nat) (h : j < s.size) : (bl s).take (j + 1) = (bl s).take j ++ [bt s j] := by
  have h1 : (bl s)[j]? = some (bt s j) := by
    have h2 : j < s.data.toList.length := h
    unfold bl bt
    rw [List.getElem?_map, ← Array.getElem?_toList, List.getElem?_eq_getElem h2]
    rfl
  rw [List.take_add_one, h1]
  rfl
theorem bl_at (s : ByteArray) (j : Nat) (h : j < s.size) : (bl s)[j]? = some (bt s j) := by
  have h2 : j < s.data.toList.length := h
  unfold bl bt
  rw [List.getElem?_map, ← Array.getElem?_toList, List.getElem?_eq_getElem h2]
  rfl
theorem bt_lt (s : ByteArray) (j : Nat) : bt s j < 256 := (s.data[j]?.getD 0).toNat_lt
theorem bl_byte (c : Nat) (hc : c < 256) : bl ⟨#[UInt8.ofNat c]⟩ = [c] := by
  show [(UInt8.ofNat c).toNat] = [c]
  have e : (UInt8.ofNat c).toNat = c := by rw [UInt8.toNat_ofNat']; omega
  rw [e]
end Go.Proofs.YteiacgpaocnofaaGreat.Rg
/- The next byte read: the program's call. -/
namespace Go.Proofs.YteiacgpaocnofaaGreat.Rg
set_option maxRecDepth 100000
open Go.RowKit
theorem RnAt.turn {w w' : World} {r g cap : Nat} {s : ByteArray} {l : List In} {p : Nat} {x y : Sb} {L M : List Nat} (h : RnAt w r g cap s l p x y L M) (hk : Kp [r] w w') (hp : p < s.size)
    (hr : w'.heap[r]? = some (.cells #[.slice (some ⟨g, 0, none⟩) l.length cap, .string s, .int .i64 ((p + 1 : Nat) : Int), .pointer (some ⟨y.k, 0, none⟩), .pointer (some ⟨x.k, 0, none⟩)] 179 (0, 0))) : RnAt w' r g cap s l (p + 1) y x M L := by
  obtain ⟨h1, h2, h3, ⟨a1, a2, a3⟩, h5, h6⟩ := h
  refine ⟨hr, h2.kp hk (by simp; exact a2.2.2), ⟨h3.2.kp hk (fun z hz e => by simp at e; subst e; exact a1.2 hz), h3.1.kp hk (fun z hz e => by simp at e; subst e; exact a1.1 hz)⟩, ⟨⟨a1.2, a1.1⟩, ⟨a2.2.1, a2.1, a2.2.2⟩, fun z hz e => a3 z e hz⟩, h5, hp⟩
/-- What is asked for a byte, so far. -/
def RdX (W w : World) (r g cap : Nat) (s : ByteArray) (l : List In) (p : Nat) (x y : Sb) (L : List Nat) (j : Nat) (L1 : List Nat) : Prop := RnAt w r g cap s l (p + 1) y x L1 L ∧ Asked l (bl s) p L j L1 ∧ Kp (r :: (x.all ++ y.all)) W w
set_option maxRecDepth 100000 in
set_option maxHeartbeats 2000000 in
theorem read_end {w : World} {r g cap : Nat} {s : ByteArray} {l : List In} {p : Nat} {x y : Sb} {L M : List Nat} (h : RnAt w r g cap s l p x y L M) (hp : p = s.size) :
    Calls Tryz.prog 188 #[.pointer (some ⟨r, 0, none⟩)] w fun e w' => e = .returned (.bool false) ∧ RnAt w' r g cap s l p x y L M ∧ Kp [] w w' := by
  have H := hide h
  obtain ⟨_, r1, r2, _, _⟩ := h.reads
  have hd : ((p : Int) == (s.size : Int)) = true := beq_iff_eq.2 (by omega)
  clear h hp
  go_enter Tryz.func188, Tryz.ntmps188
  go_wp2_with fail
  go_quiet (fail)
  have HF := hide (And.intro (H.out.quiet ((Kp.refl [] w).drew nq)) ((Kp.refl [] w).drew nq))
  generalize w.drewN nq = w2 at *
  go_wp2
  go_ret
  exact ⟨rfl, HF.out.1, HF.out.2⟩
set_option maxRecDepth 100000 in
set_option maxHeartbeats 4000000 in
theorem read_on {w : World} {r g cap : Nat} {s : ByteArray} {l st : List In} {p : Nat} {x y : Sb} {L M : List Nat} (hp : Pg l st) (hsm : Sm l) (h : RnAt w r g cap s l p x y L M) (hlt : p < s.size) :
    Calls Tryz.prog 188 #[.pointer (some ⟨r, 0, none⟩)] w fun e w' => e = .returned (.bool true) ∧ ∃ L', RnAt w' r g cap s l (p + 1) y x L' L ∧ Asked l (bl s) p L L.length L' ∧ Kp (r :: (x.all ++ y.all)) w w' := by
  have H := hide h
  have HP := hide (And.intro hp hsm)
  obtain ⟨r0, r1, r2, r3, r4⟩ := h.reads
  have hd : ((p : Int) == (s.size : Int)) = false := beq_eq_false_iff_ne.2 (by omega)
  have hix := str_ix s p hlt
  have HLT := hide hlt
  have hsz : s.size ≤ 256 := h.2.2.2.2.1
  have hp2 : p + 1 ≤ 256 := by omega
  have hcl := bt_lt s p
  have hcb : (bl s)[p]? = some (bt s p) := bl_at s p hlt
  have HC := hide (And.intro hcl hcb)
  generalize bt s p = c at *
  clear h hp hsm hlt hsz hcl hcb
  go_enter Tryz.func188, Tryz.ntmps188
  go_wp2_with fail
  go_quiet (fail)
  have H1 := hide (And.intro (H.out.quiet ((Kp.refl [] w).drew nq)) ((Kp.refl [] w).drew nq))
  generalize w.drewN nq = w1 at *
  obtain ⟨_, r1, r2, _, _⟩ := H1.out.1.reads
  clear nq
  go_wp2_with fail
  go_quiet (fail)
  have H2 := hide (And.intro (H1.out.1.quiet ((Kp.refl [] w1).drew nq)) (H1.out.2.drew nq))
  generalize w1.drewN nq = w2 at *
  clear nq H1 hix hd
  obtain ⟨_, _, r2, _, _⟩ := H2.out.1.reads
  have f2 := (row_reads H2.out.1.1).2 2
  have q3 : (w2.setCell ⟨r, 2, none⟩ (.int .i64 ((p : Int) + 1))).heap[r]? = some (.cells #[.slice (some ⟨g, 0, none⟩) l.length cap, .string s, .int .i64 ((p : Int) + 1), .pointer (some ⟨x.k, 0, none⟩), .pointer (some ⟨y.k, 0, none⟩)] 179 (0, 0)) := by
    rw [heap_setCell_same _ _ _ _ _ _ H2.out.1.1]
    rfl
  have k3 : Kp [r] w (w2.setCell ⟨r, 2, none⟩ (.int .i64 ((p : Int) + 1))) := (H2.out.2.nil).setCell (by simp) _
  obtain ⟨w3, hw3⟩ : ∃ w3, w2.setCell ⟨r, 2, none⟩ (.int .i64 ((p : Int) + 1)) = w3 := ⟨_, rfl⟩
  rw [hw3] at q3 k3
  have HQ := hide (And.intro q3 k3)
  have c3 := (row_reads q3).1 3
  have c4 := (row_reads q3).1 4
  have f3 := (row_reads q3).2 3
  have f4 := (row_reads q3).2 4
  simp only [List.getElem?_toArray, List.getElem?_cons_zero, List.getElem?_cons_succ] at c3 c4
  clear q3 k3
  go_wp2_with fail
  go_region
  have H4 : Hid (RnAt (((w3.setCell ⟨r, 3, none⟩ (.pointer (some ⟨y.k, 0, none⟩))).setCell ⟨r, 4, none⟩ (.pointer (some ⟨x.k, 0, none⟩))).drew) r g cap s l (p + 1) y x M L ∧ Kp [r] w (((w3.setCell ⟨r, 3, none⟩ (.pointer (some ⟨y.k, 0, none⟩))).setCell ⟨r, 4, none⟩ (.pointer (some ⟨x.k, 0, none⟩))).drew)) := by
    have e1 := heap_setCell_same w3 r 3 _ _ (.pointer (some ⟨y.k, 0, none⟩)) HQ.out.1
    have e2 := heap_setCell_same _ r 4 _ _ (.pointer (some ⟨x.k, 0, none⟩)) e1
    have k4 : Kp [r] w (((w3.setCell ⟨r, 3, none⟩ (.pointer (some ⟨y.k, 0, none⟩))).setCell ⟨r, 4, none⟩ (.pointer (some ⟨x.k, 0, none⟩))).drewN 1) := ((HQ.out.2.setCell (by simp) _).setCell (by simp) _).drew 1
    refine ⟨RnAt.turn H.out k4 HLT.out ?_, k4⟩
    exact e2
  generalize (((w3.setCell ⟨r, 3, none⟩ (.pointer (some ⟨y.k, 0, none⟩))).setCell ⟨r, 4, none⟩ (.pointer (some ⟨x.k, 0, none⟩))).drew) = w4 at *
  obtain ⟨_, _, _, t3, _⟩ := H4.out.1.reads
  clear c3 c4 f3 f4 f2 r0 r1 r2 r3 r4 hw3 HQ H2
  go_wp2_with fail
  refine (sclear_any H4.out.1.2.2.1.1).mono ?_
  rintro e_ w5 ⟨rfl, h5, k5⟩
  have H5 : Hid (RdX w w5 r g cap s l p x y L 0 []) := hide ⟨H4.out.1.here k5 h5, Asked.zero _ _ _ _, (H4.out.2.mono (by intro z hz; simp at hz; subst hz; simp)).trans (k5.mono (by intro z hz; simp [hz]))⟩
  obtain ⟨_, _, _, _, t5⟩ := H5.out.1.reads
  obtain ⟨u0, _, _, _, uL, uN⟩ := H5.out.1.2.2.1.2.reads
  clear h5 k5 t3 H4
  have hLn : L.length ≤ 1000 := by omega
  obtain ⟨n, hn⟩ : ∃ n, L.length = n := ⟨_, rfl⟩
  rw [hn] at u0 hLn
  have HN := hide hn
  clear hn uL uN
  go_wp2
  go_loopw [59] (fun s59 wr => ∃ (j : Nat) (L1 : List Nat), j ≤ n ∧ s59 = .int .i64 (j : Int) ∧ Hid (RdX w wr r g cap s l p x y L j L1)) (fun i _ => n - (intOf i).toNat)
  case atStart => exact ⟨0, [], Nat.zero_le _, rfl, H5⟩
  case round =>
    obtain ⟨j, L1, hj, rfl, HX⟩ := hrel
    clear H5 t5 u0
    by_cases hlt : j < n
    · have hd : decide ((j : Int) < (n : Int)) = true := decide_eq_true (by omega)
      obtain ⟨i, hi⟩ : ∃ i, L[j]? = some i := ⟨_, List.getElem?_eq_getElem (by have := HN.out; omega)⟩
      obtain ⟨t0, _, _, _, _⟩ := HX.out.1.reads
      obtain ⟨_, _, u2, _, _, uN⟩ := HX.out.1.2.2.1.2.reads
      have v1 := u2 j i hi
      have hil : i < l.length := HX.out.1.2.2.1.2.1.1.2 i (List.mem_of_getElem? hi)
      obtain ⟨z, hz⟩ : ∃ z, l[i]? = some z := ⟨_, List.getElem?_eq_getElem hil⟩
      obtain ⟨c0, c1, c2, c3, c4, c5, c6⟩ := HX.out.1.inst hz
      have hsz : ∀ q, (plI i z).s q < 18446744073709551616 := by rw [(pl_ks i z).2]; exact HP.out.2 z (List.mem_of_getElem? hz)
      have HT := hide (takes_any (w := wr) (plI i z) c HC.out.1 hsz)
      have htk : tkB (plI i z) c = tkB z c := by unfold tkB; rw [(pl_ks i z).1, (pl_ks i z).2]
      rw [htk] at HT
      have HZ := hide (And.intro hi (And.intro hz hil))
      have hi1 : i + 1 ≤ 1000 := by omega
      have hj1 : j + 1 ≤ 1000 := by omega
      unfold iv at HT
      clear u2 hi hz hsz htk uN
      obtain ⟨N, hN⟩ : ∃ N, l.length = N := ⟨_, rfl⟩
      rw [hN] at t0 hil
      have HN2 := hide hN
      clear hN
      generalize (plI i z).k = s6 at *
      generalize ((plI i z).s 0 : Int) = s0 at *
      generalize ((plI i z).s 1 : Int) = s1 at *
      generalize ((plI i z).s 2 : Int) = s2 at *
      generalize ((plI i z).s 3 : Int) = s3 at *
      generalize (plI i z).x = s4 at *
      generalize (plI i z).y = s5 at *
      go_wp2_with fail
      refine HT.out.mono ?_
      rintro e_ w6 ⟨rfl, b6⟩
      have H6 : Hid (RdX w w6 r g cap s l p x y L j L1) := hide ⟨HX.out.1.quiet (Kp.of_below b6), HX.out.2.1, HX.out.2.2.trans (Kp.of_below b6)⟩
      clear b6 HT c0 c1 c2 c3 c4 c5 c6 v1 t0
      cases htb : tkB z c with
      | false =>
        have H7 : Hid (RdX w w6 r g cap s l p x y L (j + 1) L1) := hide ⟨H6.out.1, H6.out.2.1.skip HZ.out.1 (fun e => by rw [(tkB_iff HZ.out.2.1 HC.out.2).2 e] at htb; cases htb), H6.out.2.2⟩
        clear htb
        go_wp2
        go_roundw
        case rel => exact ⟨j + 1, L1, by omega, by go_num, H7⟩
        case measure => simp [intOf]; omega
      | true =>
        have HTk := hide ((tkB_iff HZ.out.2.1 HC.out.2).1 htb)
        have hk1 : z.k ≠ 6 := by
          unfold tkB at htb
          simp at htb
          omega
        have HNx := hide (HP.out.1.next HZ.out.2.1 hk1)
        clear htb hk1
        go_wp2_with fail
        refine (reach_any (k := i + 1) HP.out.1 H6.out.1 (by have := H6.out.2.1.1; rw [bl_len] at this; exact this) HNx.out).mono ?_
        rintro e_ w7 ⟨rfl, L2, h7, e7, k7⟩
        have H7 : Hid (RdX w w7 r g cap s l p x y L (j + 1) L2) := hide ⟨h7, H6.out.2.1.take HZ.out.1 HTk.out (by rw [bl_len]; exact e7), H6.out.2.2.trans (k7.mono (by intro q hq; simp [hq]))⟩
        clear h7 e7 k7
        go_wp2
        go_roundw
        case rel => exact ⟨j + 1, L2, by omega, by go_num, H7⟩
        case measure => simp [intOf]; omega
    · obtain rfl : j = n := by omega
      have HF := hide (And.intro HX.out.1 (And.intro (show Asked l (bl s) p L L.length L1 by rw [HN.out]; exact HX.out.2.1) HX.out.2.2))
      go_wp2
      go_ret
      exact ⟨rfl, L1, HF.out.1, HF.out.2.1, HF.out.2.2⟩
end Go.Proofs.YteiacgpaocnofaaGreat.Rg
/- A run begun: the program's call newRun. -/
namespace Go.Proofs.YteiacgpaocnofaaGreat.Rg
set_option maxRecDepth 100000
open Go.RowKit
/-- Blocks from number B on. -/
def From (B r : Nat) (x y : Sb) : Prop := B ≤ r ∧ (∀ z ∈ x.all, B ≤ z) ∧ ∀ z ∈ y.all, B ≤ z
/-- What newRun answers. -/
def NrA (w : World) (s : ByteArray) (R : Rd (List In)) (e : Ending) (w' : World) : Prop :=
  match R with
  | .ok l _ => (∃ r g cap x y, e = .returned (.tuple #[.pointer (some ⟨r, 0, none⟩), .int .i64 0]) ∧ RnAt w' r g cap s l 0 x y [] [] ∧ From w.heap.size r x y) ∧ Below w.heap.size w w'
  | .bad n => (e = .returned (.tuple #[.pointer none, .int .i64 (n : Int)]) ∧ (n = 1 ∨ n = 3 ∨ n = 4)) ∧ Below w.heap.size w w'
set_option maxRecDepth 100000 in
theorem newRun_long (q s : ByteArray) {w : World} (h : 256 < s.size) : Calls Tryz.prog 185 #[.string q, .string s] w (NrA w s (.bad 1)) := by
  have hsz : decide ((256 : Int) < (s.size : Int)) = true := decide_eq_true (by omega)
  clear h
  go_enter Tryz.func185, Tryz.ntmps185
  go_wp2
  go_ret2
  exact ⟨⟨rfl, .inl rfl⟩, Below.refl _ _⟩
set_option maxRecDepth 100000 in
theorem newRun_bad (q s : ByteArray) {w : World} {n : Nat} (h : ¬ 256 < s.size) (hR : comp (bl q) = .bad n) : Calls Tryz.prog 185 #[.string q, .string s] w (NrA w s (.bad n)) := by
  have hsz : decide ((256 : Int) < (s.size : Int)) = false := decide_eq_false (by omega)
  have HC := Compile_any q (w := w)
  rw [hR] at HC
  replace HC := hide HC
  clear h hR
  go_enter Tryz.func185, Tryz.ntmps185
  go_wp2_with fail
  refine HC.out.mono ?_
  rintro e_ w1 ⟨⟨rfl, he⟩, b1⟩
  have hne := err_ne he
  have HE := hide (And.intro he b1)
  clear he b1
  go_wp2
  go_ret2
  exact ⟨⟨rfl, .inr HE.out.1⟩, HE.out.2⟩
set_option maxRecDepth 100000 in
set_option maxHeartbeats 2000000 in
theorem newRun_ok (q s : ByteArray) {w : World} {l st : List In} {u : List Nat} (h : ¬ 256 < s.size) (hR : comp (bl q) = .ok l u) (hp : Pg l st) : Calls Tryz.prog 185 #[.string q, .string s] w (NrA w s (.ok l u)) := by
  have hsz : decide ((256 : Int) < (s.size : Int)) = false := decide_eq_false (by omega)
  have HC := Compile_any q (w := w)
  rw [hR] at HC
  replace HC := hide HC
  have HS := hide h
  have hlen : 0 < l.length ∧ l.length ≤ 1000 := by have := hp.2.2; rw [hp.1]; simp; omega
  clear h hR hp
  go_enter Tryz.func185, Tryz.ntmps185
  go_wp2_with fail
  refine HC.out.mono ?_
  rintro e_ w1 ⟨⟨v, rfl, gv⟩, b1⟩
  obtain ⟨g, cap, rfl, hc1, hc2, hg, hr⟩ := gv
  rw [plF_len] at hc1 ⊢
  have HG : Hid (PrAt w1 g cap (plF 0 l) ∧ Below w.heap.size w w1) := hide ⟨⟨by rw [plF_len]; exact hc1, hc2, hg, hr⟩, b1⟩
  clear hc1 hc2 hg hr b1 HC
  have HL := hide hlen
  obtain ⟨N, hN⟩ : ∃ N, l.length = N := ⟨_, rfl⟩
  rw [hN] at hlen ⊢
  have HN := hide hN
  clear hN
  have HL2 := hide hlen
  clear hlen
  go_wp2_with fail
  refine (newSteps_any HL2.out).mono ?_
  rintro e_ w2 ⟨x, rfl, h2, b2, x1, x2, x3⟩
  have H2 := hide (And.intro h2 (And.intro b2 (And.intro x1 (And.intro x2 x3))))
  clear h2 b2 x1 x2 x3
  go_wp2_with fail
  refine (newSteps_any HL2.out).mono ?_
  rintro e_ w3 ⟨y, rfl, h3, b3, y1, y2, y3⟩
  have H3 := hide (And.intro h3 (And.intro b3 (And.intro y1 (And.intro y2 y3))))
  clear h3 b3 y1 y2 y3
  go_wp2
  have hx := H2.out.1.lt
  have hy := H3.out.1.lt
  have hx3 : w2.heap.size ≤ w3.heap.size := H3.out.2.1.size
  have hw1 : w1.heap.size ≤ w2.heap.size := H2.out.2.1.size
  have hw0 : w.heap.size ≤ w1.heap.size := HG.out.2.size
  have hg : g < w1.heap.size := HG.out.1.2.2.1
  have k3 := Kp.of_below (S := []) H3.out.2.1
  have k2 := Kp.of_below (S := []) H2.out.2.1
  have k4 : Kp [] w3 (w3.alloc (.cells #[.slice (some ⟨g, 0, none⟩) N cap, .string s, .int .i64 0, .pointer (some ⟨x.k, 0, none⟩), .pointer (some ⟨y.k, 0, none⟩)] 179)) := (Kp.refl _ _).alloc _
  have ha := H2.out.2.2
  have hb := H3.out.2.2
  have HF : Hid (RnAt (w3.alloc (.cells #[.slice (some ⟨g, 0, none⟩) N cap, .string s, .int .i64 0, .pointer (some ⟨x.k, 0, none⟩), .pointer (some ⟨y.k, 0, none⟩)] 179)) w3.heap.size g cap s l 0 x y [] [] ∧ From w.heap.size w3.heap.size x y ∧ Below w.heap.size w (w3.alloc (.cells #[.slice (some ⟨g, 0, none⟩) N cap, .string s, .int .i64 0, .pointer (some ⟨x.k, 0, none⟩), .pointer (some ⟨y.k, 0, none⟩)] 179))) := by
    refine ⟨⟨?_, HG.out.1.kp ((k2.trans k3).trans k4) (by simp), ⟨?_, ?_⟩, ?_, by have := HS.out; omega, Nat.zero_le _⟩, ?_, ?_⟩
    · rw [HN.out]; exact heap_alloc_new _ _
    · rw [HN.out]; exact H2.out.1.kp (k3.trans k4) (by simp)
    · rw [HN.out]; exact H3.out.1.kp k4 (by simp)
    · refine ⟨⟨?_, ?_⟩, ⟨?_, ?_, ?_⟩, ?_⟩
      · simp [Sb.all]; omega
      · simp [Sb.all]; omega
      · simp [Sb.all]; omega
      · simp [Sb.all]; omega
      · omega
      · intro z hz; simp [Sb.all] at hz ⊢; omega
    · refine ⟨by omega, fun z hz => ?_, fun z hz => ?_⟩
      · simp [Sb.all] at hz; omega
      · simp [Sb.all] at hz; omega
    · exact (((HG.out.2.trans (H2.out.2.1.mono hw0)).trans (H3.out.2.1.mono (Nat.le_trans hw0 hw1))).trans (k4.below (by omega) (by simp)))
  go_ret2
  exact ⟨⟨_, g, cap, x, y, rfl, HF.out.1, HF.out.2.1⟩, HF.out.2.2⟩
end Go.Proofs.YteiacgpaocnofaaGreat.Rg
/- Texts that fit a pattern, whole or in part: the program's calls Whole and Find. -/
namespace Go.Proofs.YteiacgpaocnofaaGreat.Rg
set_option maxRecDepth 100000
open Go.RowKit
/-- What a call that asks whether a text fits answers. -/
def FtA (X : List In → Prop) (w : World) (R : Rd (List In)) (e : Ending) (w' : World) : Prop :=
  match R with
  | .ok l _ => (∃ b : Bool, e = .returned (.tuple #[.bool b, .int .i64 0]) ∧ (b = true ↔ X l)) ∧ Below w.heap.size w w'
  | .bad n => (e = .returned (.tuple #[.bool false, .int .i64 (n : Int)]) ∧ (n = 1 ∨ n = 3 ∨ n = 4)) ∧ Below w.heap.size w w'
/-- A pattern's steps without the last one, or the error. -/
def mR (q s : ByteArray) : Rd (List In) := if 256 < s.size then .bad 1 else match comp (bl q) with | .ok l _ => .ok l.dropLast [] | .bad n => .bad n
theorem mR_long {q s : ByteArray} (h : 256 < s.size) : mR q s = .bad 1 := by unfold mR; rw [if_pos h]
theorem mR_bad {q s : ByteArray} {n : Nat} (h : ¬ 256 < s.size) (hR : comp (bl q) = .bad n) : mR q s = .bad n := by unfold mR; rw [if_neg h, hR]
theorem mR_ok {q s : ByteArray} {l st : List In} {u : List Nat} (h : ¬ 256 < s.size) (hR : comp (bl q) = .ok l u) (hp : Pg l st) : mR q s = .ok st [] := by
  unfold mR; rw [if_neg h, hR]; simp only []; rw [hp.1, List.dropLast_concat]
theorem err_ne3 {e : Nat} (h : e = 1 ∨ e = 3 ∨ e = 4) : ((e : Int) != 0) = true := by rcases h with rfl | rfl | rfl <;> rfl
theorem comp_sm {r t : List Nat} {l : List In} (h : comp r = .ok l t) : Sm l := by
  unfold comp at h
  split at h
  · cases h
  · cases hR : patF 21 0 r with
    | bad e => rw [hR] at h; cases h
    | ok x u =>
      rw [hR] at h
      simp only [] at h
      split at h
      · injection h with h1 h2
        subst h1
        exact (pat_sm _ _ _ _ _ hR).app (Sm.step 6)
      · cases h
theorem From.turn {B r : Nat} {x y : Sb} (h : From B r x y) : From B r y x := ⟨h.1, h.2.2, h.2.1⟩
theorem From.all {B r : Nat} {x y : Sb} (h : From B r x y) : ∀ z ∈ r :: (x.all ++ y.all), B ≤ z := by
  intro z hz
  rcases List.mem_cons.1 hz with rfl | hz
  · exact h.1
  · rcases List.mem_append.1 hz with hz | hz
    · exact h.2.1 z hz
    · exact h.2.2 z hz
theorem Kp.chain {S : List Nat} {W a b : World} (h : Below W.heap.size W a) (k : Kp S a b) (hS : ∀ z ∈ S, W.heap.size ≤ z) : Below W.heap.size W b := h.trans (k.below h.size hS)
theorem EC.nil (l : List In) (n p : Nat) : EC l n p [] := fun i h => by cases h
/-- What stands while a whole text is read. -/
def WhX (W w : World) (r : Nat) (s : ByteArray) (l : List In) (St : Nat → Prop) (p : Nat) : Prop :=
  ∃ g cap x y L M, RnAt w r g cap s l p x y L M ∧ All l (bl s) St p L ∧ From W.heap.size r x y ∧ Below W.heap.size W w
set_option maxRecDepth 100000 in
set_option maxHeartbeats 2000000 in
theorem find_bad (q s : ByteArray) {w : World} {X : List In → Prop} {n : Nat} (hn : Calls Tryz.prog 185 #[.string q, .string s] w (NrA w s (.bad n))) : Calls Tryz.prog 178 #[.string q, .string s] w (FtA X w (.bad n)) := by
  have HC := hide hn
  clear hn
  go_enter Tryz.func178, Tryz.ntmps178
  go_wp2_with fail
  refine HC.out.mono ?_
  rintro e_ w1 ⟨⟨rfl, he⟩, b1⟩
  have hne := err_ne3 he
  have HE := hide (And.intro he b1)
  clear he b1
  go_wp2
  go_ret2
  exact ⟨⟨rfl, HE.out.1⟩, HE.out.2⟩
/-- What stands while a part is looked for. -/
def FiX (W w : World) (r : Nat) (s : ByteArray) (l st : List In) (p : Nat) : Prop :=
  ∃ g cap x y L M, RnAt w r g cap s l p x y L M ∧ Most l (bl s) (fun _ => True) p L ∧ From W.heap.size r x y ∧ Below W.heap.size W w ∧ ∀ p1, p1 < p → ∀ p0, ¬ Fr st (bl s) p0 p1
set_option maxRecDepth 100000 in
set_option maxHeartbeats 2000000 in
theorem find_ok (q s : ByteArray) {w : World} {l st : List In} {u : List Nat} (hn : Calls Tryz.prog 185 #[.string q, .string s] w (NrA w s (.ok l u))) (hp : Pg l st) (hs : Sm l) : Calls Tryz.prog 178 #[.string q, .string s] w (FtA (fun st => ∃ p0 p1, p1 ≤ s.size ∧ Fr st (bl s) p0 p1) w (.ok st [])) := by
  have HC := hide hn
  have HP := hide (And.intro hp hs)
  clear hn hp hs
  go_enter Tryz.func178, Tryz.ntmps178
  go_wp2_with fail
  refine HC.out.mono ?_
  rintro e_ w1 ⟨⟨r, g, cap, x, y, rfl, h1, f1⟩, b1⟩
  have H1 : Hid (FiX w w1 r s l st 0) := hide ⟨g, cap, x, y, [], [], h1, Most.zero _ _ _, f1, b1, fun p1 h => absurd h (by omega)⟩
  clear h1 f1 b1 HC
  go_wp2
  go_loopg [] (s.size + 1) (fun k wr => ∃ p : Nat, Hid (p + k = s.size + 1) ∧ Hid (FiX w wr r s l st p))
  case atStart => exact ⟨0, by unfold Hid; omega, H1⟩
  case round =>
    clear H1
    obtain ⟨p, HK, HX⟩ := hrel
    obtain ⟨g, cap, x, y, L, M, hX⟩ := HX.out
    have HR := hide hX
    clear hX HX
    go_wp2_with fail
    refine (begin_any HP.out.1 HR.out.1 (by have := HR.out.2.1.2.1; rw [bl_len] at this; exact this)).mono ?_
    rintro e_ w2 ⟨rfl, L2, h2, e2, k2⟩
    have H2 := hide (And.intro h2 (And.intro (HR.out.2.1.begin HP.out.1 trivial (by rw [bl_len]; exact e2)) (k2.chain HR.out.2.2.2.1 HR.out.2.2.1.2.1)))
    clear h2 e2 k2
    go_wp2_with fail
    refine (isDone_any HP.out.1 H2.out.1).mono ?_
    rintro e_ w3 ⟨rfl, h3, k3⟩
    have H3 := hide (And.intro h3 (k3.chain H2.out.2.2 (by simp)))
    clear h3 k3
    by_cases hm : st.length ∈ L2
    · have hd : decide (st.length ∈ L2) = true := decide_eq_true hm
      have HF := hide ((all_done HP.out.1 H2.out.2.1).1 hm)
      rw [hd]
      clear hm hd
      go_wp2
      go_ret2
      refine ⟨⟨true, rfl, ?_⟩, H3.out.2⟩
      obtain ⟨p0, _, h0⟩ := HF.out
      exact ⟨fun _ => ⟨p0, p, HR.out.1.2.2.2.2.2, h0⟩, fun _ => rfl⟩
    · have hd : decide (st.length ∈ L2) = false := decide_eq_false hm
      have HF : Hid (∀ p0, ¬ Fr st (bl s) p0 p) := hide (fun p0 h => hm ((all_done HP.out.1 H2.out.2.1).2 ⟨p0, trivial, h⟩))
      rw [hd]
      clear hm hd
      by_cases hlt : p < s.size
      · go_wp2_with fail
        refine (read_on HP.out.1 HP.out.2 H3.out.1 hlt).mono ?_
        rintro e_ w4 ⟨rfl, L3, h4, a4, k4⟩
        have H4 : Hid (FiX w w4 r s l st (p + 1)) := hide ⟨g, cap, y, x, L3, L2, h4, a4.most HP.out.1 (Nat.le_refl _) H2.out.2.1, HR.out.2.2.1.turn, k4.chain H3.out.2 HR.out.2.2.1.all, fun p1 h p0 => by
          by_cases e : p1 = p
          · subst e; exact HF.out p0
          · exact HR.out.2.2.2.2 p1 (by omega) p0⟩
        clear h4 a4 k4
        obtain ⟨k, hk⟩ : ∃ k, gk = k + 1 := ⟨gk - 1, by have := HK.out; omega⟩
        have HK2 : Hid (p + 1 + k = s.size + 1 ∧ k < gk) := hide ⟨by have := HK.out; omega, by omega⟩
        clear hk HK
        go_wp2
        go_roundg k
        case measure => exact HK2.out.2
        case rel => exact ⟨p + 1, HK2.out.1, H4⟩
      · have hp : p = s.size := by have := HR.out.1.2.2.2.2.2; omega
        have HE := hide hp
        clear hlt hp
        go_wp2_with fail
        refine (read_end H3.out.1 HE.out).mono ?_
        rintro e_ w4 ⟨rfl, h4, k4⟩
        have H4 := hide (k4.chain H3.out.2 (by simp))
        clear h4 k4
        go_wp2
        go_ret2
        refine ⟨⟨false, rfl, ?_⟩, H4.out⟩
        refine ⟨fun h => (by cases h), ?_⟩
        rintro ⟨p0, p1, h1, h2⟩
        exfalso
        by_cases e : p1 = p
        · subst e; exact HF.out p0 h2
        · exact HR.out.2.2.2.2 p1 (by have := HE.out; omega) p0 h2
theorem Find_any (q s : ByteArray) {w : World} : Calls Tryz.prog 178 #[.string q, .string s] w (FtA (fun st => ∃ p0 p1, p1 ≤ s.size ∧ Fr st (bl s) p0 p1) w (mR q s)) := by
  by_cases h : 256 < s.size
  · rw [mR_long h]; exact find_bad q s (newRun_long q s h)
  · cases hR : comp (bl q) with
    | bad n => rw [mR_bad h hR]; exact find_bad q s (newRun_bad q s h hR)
    | ok l u =>
      obtain ⟨st, hp, _⟩ := comp_pg hR
      rw [mR_ok h hR hp]
      exact find_ok q s (newRun_ok q s h hR hp) hp (comp_sm hR)
end Go.Proofs.YteiacgpaocnofaaGreat.Rg
