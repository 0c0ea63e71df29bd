/- Terms as trees, and their order: of two one is ahead, or they are the same; it goes on. -/
import Derived.Test.YteiacgpaocnofaaGreatMb
import Derived.Laws.Strings
import Derived.Laws.Cover1
namespace Go.Proofs.YteiacgpaocnofaaGreat
/-- A term. -/
inductive Tm where
  | mk (k n : Int) (s : ByteArray) (l : List Tm)
def Tm.k : Tm → Int | .mk k _ _ _ => k
def Tm.n : Tm → Int | .mk _ n _ _ => n
def Tm.s : Tm → ByteArray | .mk _ _ s _ => s
def Tm.l : Tm → List Tm | .mk _ _ _ l => l
instance : Inhabited Tm := ⟨.mk 0 0 ⟨#[]⟩ []⟩
def cmpI (a b : Int) : Int := if a < b then -1 else if b < a then 1 else 0
def cmpS (a b : ByteArray) : Int := if Op.bytesLess a.toList b.toList = true then -1 else if (a.toList == b.toList) = true then 0 else 1
def lex (c g : Int) : Int := if c = 0 then g else c
def cmpL {α : Type} (f : α → α → Int) : List α → List α → Int
  | [], [] => 0
  | [], _ :: _ => -1
  | _ :: _, [] => 1
  | a :: x, b :: y => lex (f a b) (cmpL f x y)
def cmpF (g : Int) (a b : Tm) : Int := lex (cmpI a.k b.k) (lex (cmpI a.n b.n) (lex (cmpS a.s b.s) g))
def cmpT : Nat → Tm → Tm → Int
  | 0, a, b => cmpF 0 a b
  | d + 1, a, b => cmpF (cmpL (cmpT d) a.l b.l) a b
/-- An order. -/
structure Ord3 {α : Type} (f : α → α → Int) : Prop where
  low : ∀ a b, -1 ≤ f a b
  high : ∀ a b, f a b ≤ 1
  anti : ∀ a b, f b a = - f a b
  trans : ∀ a b c, f a b ≤ 0 → f b c ≤ 0 → f a c ≤ 0 ∧ (f a b < 0 → f a c < 0) ∧ (f b c < 0 → f a c < 0)
theorem Ord3.refl {α : Type} {f : α → α → Int} (h : Ord3 f) (a : α) : f a a = 0 := by have := h.anti a a; omega
theorem ord_lex {α : Type} {f g : α → α → Int} (hf : Ord3 f) (hg : Ord3 g) : Ord3 (fun a b => lex (f a b) (g a b)) := by
  refine ⟨fun a b => ?_, fun a b => ?_, fun a b => ?_, fun a b c => ?_⟩
  · have := hf.low a b; have := hg.low a b; unfold lex; split <;> omega
  · have := hf.high a b; have := hg.high a b; unfold lex; split <;> omega
  · have h1 := hf.anti a b; have h2 := hg.anti a b
    simp only [lex, h1, h2]
    by_cases h : f a b = 0
    · rw [if_pos h, if_pos (by omega)]
    · rw [if_neg h, if_neg (by omega)]
  · have h1 := hf.trans a b c; have h2 := hg.trans a b c
    have h3 := hf.trans b a c; have h4 := hf.trans a c b; have h5 := hf.trans c b a; have h6 := hf.trans b c a
    have e1 := hf.anti a b; have e2 := hf.anti b c; have e3 := hf.anti a c
    simp only [lex]
    by_cases x1 : f a b = 0
    · by_cases x2 : f b c = 0
      · have x3 : f a c = 0 := by omega
        rw [if_pos x1, if_pos x2, if_pos x3]; exact h2
      · have x3 : ¬ f a c = 0 := by omega
        rw [if_pos x1, if_neg x2, if_neg x3]
        intro y1 y2; omega
    · by_cases x2 : f b c = 0
      · have x3 : ¬ f a c = 0 := by omega
        rw [if_neg x1, if_pos x2, if_neg x3]
        intro y1 y2; omega
      · rw [if_neg x1, if_neg x2]
        intro y1 y2
        have x3 : f a c < 0 := by omega
        rw [if_neg (by omega)]; omega
theorem ord_zero {α : Type} : Ord3 (fun _ _ : α => (0 : Int)) := ⟨fun _ _ => by omega, fun _ _ => by omega, fun _ _ => by omega, fun _ _ _ => by omega⟩
theorem ord_by {α β : Type} {f : β → β → Int} (h : Ord3 f) (p : α → β) : Ord3 (fun a b => f (p a) (p b)) := ⟨fun _ _ => h.low _ _, fun _ _ => h.high _ _, fun _ _ => h.anti _ _, fun _ _ _ => h.trans _ _ _⟩
theorem ord_I : Ord3 cmpI := by
  refine ⟨fun a b => ?_, fun a b => ?_, fun a b => ?_, fun a b c => ?_⟩ <;> unfold cmpI <;> (repeat' split) <;> omega
theorem ord_L {α : Type} {f : α → α → Int} (h : Ord3 f) : Ord3 (cmpL f) := by
  refine ⟨fun a => ?_, fun a => ?_, fun a => ?_, fun a => ?_⟩
  · induction a with
    | nil => intro b; cases b <;> simp [cmpL]
    | cons x a ih => intro b; cases b with
      | nil => simp [cmpL]
      | cons y b => have := h.low x y; have := ih b; simp only [cmpL, lex]; split <;> omega
  · induction a with
    | nil => intro b; cases b <;> simp [cmpL]
    | cons x a ih => intro b; cases b with
      | nil => simp [cmpL]
      | cons y b => have := h.high x y; have := ih b; simp only [cmpL, lex]; split <;> omega
  · induction a with
    | nil => intro b; cases b <;> simp [cmpL]
    | cons x a ih => intro b; cases b with
      | nil => simp [cmpL]
      | cons y b =>
        have h1 := h.anti x y; have h2 := ih b
        simp only [cmpL, lex, h1, h2]
        by_cases hh : f x y = 0
        · rw [if_pos hh, if_pos (by omega)]
        · rw [if_neg hh, if_neg (by omega)]
  · induction a with
    | nil =>
      intro b c
      cases b <;> cases c <;> simp [cmpL]
    | cons x a ih =>
      intro b c
      cases b with
      | nil => simp [cmpL]
      | cons y b =>
        cases c with
        | nil => simp [cmpL]
        | cons z c =>
          have h1 := h.trans x y z; have h2 := ih b c
          have h3 := h.trans y x z; have h4 := h.trans x z y; have h5 := h.trans z y x; have h6 := h.trans y z x
          have e1 := h.anti x y; have e2 := h.anti y z; have e3 := h.anti x z
          simp only [cmpL, lex]
          by_cases x1 : f x y = 0
          · by_cases x2 : f y z = 0
            · have x3 : f x z = 0 := by omega
              rw [if_pos x1, if_pos x2, if_pos x3]; exact h2
            · have x3 : ¬ f x z = 0 := by omega
              rw [if_pos x1, if_neg x2, if_neg x3]
              intro y1 y2; omega
          · by_cases x2 : f y z = 0
            · have x3 : ¬ f x z = 0 := by omega
              rw [if_neg x1, if_pos x2, if_neg x3]
              intro y1 y2; omega
            · rw [if_neg x1, if_neg x2]
              intro y1 y2
              have x3 : f x z < 0 := by omega
              rw [if_neg (by omega)]; omega
/-- Bytes, as numbers. -/
def cmpU (a b : UInt8) : Int := cmpI (a.toNat : Int) (b.toNat : Int)
theorem cmpS_L : ∀ a b : List UInt8, (if Op.bytesLess a b = true then (-1 : Int) else if (a == b) = true then 0 else 1) = cmpL cmpU a b
  | [], [] => by simp [Op.bytesLess, cmpL]
  | [], _ :: _ => by simp [Op.bytesLess, cmpL]
  | _ :: _, [] => by simp [Op.bytesLess, cmpL]
  | x :: a, y :: b => by
    have ih := cmpS_L a b
    rw [cmpL, ← ih]
    have hlt : (x < y) ↔ x.toNat < y.toNat := UInt8.lt_iff_toNat_lt
    have heq : (x = y) ↔ x.toNat = y.toNat := UInt8.toNat_inj.symm
    unfold cmpU cmpI lex
    by_cases h1 : x.toNat < y.toNat
    · simp [Op.bytesLess, hlt.2 h1, h1]
    · by_cases h2 : y.toNat < x.toNat
      · have h3 : ¬ x < y := fun h => h1 (hlt.1 h)
        have h4 : ¬ x = y := fun h => by have := heq.1 h; omega
        have h5 : ¬ ((x.toNat : Int) < (y.toNat : Int)) := by omega
        have h6 : ((y.toNat : Int) < (x.toNat : Int)) := by omega
        have h7 : Op.bytesLess (x :: a) (y :: b) = false := by simp [Op.bytesLess, h3, h4]
        have h8 : (x :: a == y :: b) = false := by simp [h4]
        simp only [h5, h6, h7, h8, if_true, if_false, Bool.false_eq_true]
        rfl
      · have h4 : x = y := heq.2 (by omega)
        subst h4
        have h3 : ¬ x < x := fun h => h1 (hlt.1 h)
        simp [Op.bytesLess, h3]
theorem ord_S : Ord3 cmpS := by
  have e : cmpS = fun a b => cmpL cmpU a.toList b.toList := by
    funext a b; exact cmpS_L a.toList b.toList
  rw [e]
  exact ord_by (ord_L (ord_by ord_I fun x : UInt8 => (x.toNat : Int))) ByteArray.toList
theorem ord_F {g : Tm → Tm → Int} (h : Ord3 g) : Ord3 (fun a b => cmpF (g a b) a b) :=
  ord_lex (ord_by ord_I Tm.k) (ord_lex (ord_by ord_I Tm.n) (ord_lex (ord_by ord_S Tm.s) h))
theorem ord_T : ∀ d, Ord3 (cmpT d)
  | 0 => ord_F ord_zero
  | d + 1 => ord_F (ord_by (ord_L (ord_T d)) Tm.l)
theorem toList_inj {a b : ByteArray} (h : a.toList = b.toList) : a = b := by
  have h1 : a.data.toList = b.data.toList := by simpa [ByteArray.toList_eq] using h
  cases a; cases b
  simp only [ByteArray.mk.injEq]
  exact Array.toList_inj.1 h1
theorem cmpI_zero {a b : Int} (h : cmpI a b = 0) : a = b := by
  unfold cmpI at h
  split at h
  · omega
  · split at h <;> omega
theorem cmpS_zero {a b : ByteArray} (h : cmpS a b = 0) : a = b := by
  unfold cmpS at h
  split at h
  · omega
  · split at h
    · rename_i h1; exact toList_inj (by simpa using h1)
    · omega
theorem cmpF_zero {g : Int} {a b : Tm} (h : cmpF g a b = 0) : a.k = b.k ∧ a.n = b.n ∧ a.s = b.s ∧ g = 0 := by
  unfold cmpF lex at h
  by_cases h1 : cmpI a.k b.k = 0
  · rw [if_pos h1] at h
    by_cases h2 : cmpI a.n b.n = 0
    · rw [if_pos h2] at h
      by_cases h3 : cmpS a.s b.s = 0
      · rw [if_pos h3] at h
        exact ⟨cmpI_zero h1, cmpI_zero h2, cmpS_zero h3, h⟩
      · rw [if_neg h3] at h; exact absurd h h3
    · rw [if_neg h2] at h; exact absurd h h2
  · rw [if_neg h1] at h; exact absurd h h1
theorem cmpT_zero {d : Nat} {a b : Tm} (h : cmpT d a b = 0) : a.k = b.k ∧ a.n = b.n ∧ a.s = b.s := by
  cases d with
  | zero => have := cmpF_zero (g := 0) (a := a) (b := b) h; exact ⟨this.1, this.2.1, this.2.2.1⟩
  | succ d => have := cmpF_zero (g := cmpL (cmpT d) a.l b.l) (a := a) (b := b) h; exact ⟨this.1, this.2.1, this.2.2.1⟩
end Go.Proofs.YteiacgpaocnofaaGreat
