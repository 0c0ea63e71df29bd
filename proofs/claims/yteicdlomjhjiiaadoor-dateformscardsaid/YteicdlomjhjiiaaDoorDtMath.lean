/- Days, months and years: how many days are ahead of a day, and back. -/
import Derived.Test.YteicdlomjhjiiaaDoorRows
namespace Go.Proofs.YteicdlomjhjiiaaDoor
/-- Is y a leap year of 0 to 9999? -/
def lp (y : Int) : Bool := decide (0 ≤ y ∧ y ≤ 9999 ∧ y % 4 = 0 ∧ (y % 100 ≠ 0 ∨ y % 400 = 0))
/-- How many days a month has. -/
def md (y m : Int) : Int := if m = 2 then (if lp y then 29 else 28) else if m = 4 ∨ m = 6 ∨ m = 9 ∨ m = 11 then 30 else 31
/-- How many days the years ahead of y have. -/
def ah (y : Int) : Int := 365 * y + (y + 3) / 4 - (y + 99) / 100 + (y + 399) / 400
/-- How many days the first k months have. -/
def cu (y : Int) : Nat → Int
  | 0 => 0
  | k + 1 => cu y k + md y ((k : Int) + 1)
/-- Is it a day? -/
def isD (y m d : Int) : Bool := decide (0 ≤ y ∧ y ≤ 9999 ∧ 1 ≤ m ∧ m ≤ 12 ∧ 1 ≤ d ∧ d ≤ md y m)
/-- The days since 1970. -/
def dn (y m d : Int) : Int := ah y - 719528 + cu y (m - 1).toNat + d - 1
def dv (y m d : Int) : Int := if isD y m d then dn y m d else 0
theorem md_le (y m : Int) : 28 ≤ md y m ∧ md y m ≤ 31 := by
  unfold md; split
  · split <;> omega
  · split <;> omega
theorem lp_iff (y : Int) : lp y = true ↔ 0 ≤ y ∧ y ≤ 9999 ∧ y % 4 = 0 ∧ (y % 100 ≠ 0 ∨ y % 400 = 0) := by
  unfold lp; exact decide_eq_true_iff
theorem ah_next {y : Int} (h0 : 0 ≤ y) (h1 : y ≤ 9999) : ah (y + 1) = ah y + (if lp y then 366 else 365) := by
  have h := lp_iff y
  unfold ah
  cases hl : lp y with
  | true =>
    rw [hl] at h
    have := h.1 rfl
    simp only [if_true]
    omega
  | false =>
    have h2 : ¬ (y % 4 = 0 ∧ (y % 100 ≠ 0 ∨ y % 400 = 0)) := fun hh => by
      rw [h.2 ⟨h0, h1, hh⟩] at hl; cases hl
    simp only [Bool.false_eq_true, if_false]
    omega
theorem cu12 (y : Int) : cu y 12 = if lp y then 366 else 365 := by
  simp only [cu, md]
  cases lp y <;> decide
theorem ah_mono {y z : Int} (h : y ≤ z) : ah y ≤ ah z := by unfold ah; omega
theorem cu_mono (y : Int) (k : Nat) : ∀ j, cu y k ≤ cu y (k + j)
  | 0 => Int.le_refl _
  | j + 1 => by
    have := cu_mono y k j
    have h := md_le y (((k + j : Nat) : Int) + 1)
    show cu y k ≤ cu y (k + j) + md y (((k + j : Nat) : Int) + 1)
    omega
theorem cu_le {y : Int} {k j : Nat} (h : k ≤ j) : cu y k ≤ cu y j := by
  obtain ⟨i, rfl⟩ := Nat.le.dest h
  exact cu_mono y k i
theorem cu_bound (y : Int) (k : Nat) (h : k ≤ 12) : 0 ≤ cu y k ∧ cu y k ≤ 366 := by
  have h1 := cu_le (y := y) (Nat.zero_le k)
  have h2 := cu_le (y := y) h
  rw [cu12] at h2
  have : cu y 0 = 0 := rfl
  split at h2 <;> omega
theorem isD_iff (y m d : Int) : isD y m d = true ↔ 0 ≤ y ∧ y ≤ 9999 ∧ 1 ≤ m ∧ m ≤ 12 ∧ 1 ≤ d ∧ d ≤ md y m := by
  unfold isD; exact decide_eq_true_iff
/-- The year of a day, days counted from the year 0 on. -/
def yo (D : Int) : Int := if D < ah (D * 400 / 146097) then D * 400 / 146097 - 1 else if ah (D * 400 / 146097 + 1) ≤ D then D * 400 / 146097 + 1 else D * 400 / 146097
theorem yo_spec {D : Int} (h0 : 0 ≤ D) (h1 : D < 3652425) : 0 ≤ yo D ∧ yo D ≤ 9999 ∧ ah (yo D) ≤ D ∧ D < ah (yo D + 1) := by
  have e : ∀ y, D * 400 / 146097 = y → 146097 * y ≤ D * 400 ∧ D * 400 < 146097 * y + 146097 := fun y hy => by omega
  unfold yo
  generalize hy : D * 400 / 146097 = y at *
  obtain ⟨e1, e2⟩ := e y rfl
  have y0 : 0 ≤ y := by omega
  have y1 : y ≤ 9999 := by omega
  split
  · rename_i hc
    have y2 : y ≠ 0 := fun e => by subst e; have : ah 0 = 0 := by decide
                                   omega
    rw [show y - 1 + 1 = y by omega]
    refine ⟨by omega, by omega, ?_, hc⟩
    unfold ah at hc ⊢; omega
  · split
    · rename_i h1 h2
      refine ⟨by omega, ?_, h2, ?_⟩
      · have y3 : y ≠ 9999 := fun e => by subst e; have : ah (9999 + 1) = 3652425 := by decide
                                          omega
        omega
      · unfold ah at h2 ⊢; omega
    · rename_i h1 h2
      exact ⟨y0, y1, Int.not_lt.1 h1, Int.not_le.1 h2⟩
/-- The month of a day of its year, counted from 0 on. -/
def mo (y r : Int) : Nat → Nat → Nat
  | k, 0 => k
  | k, n + 1 => if r < cu y (k + 1) then k else mo y r (k + 1) n
theorem mo_spec (y r : Int) : ∀ (n k : Nat), cu y k ≤ r → r < cu y (k + n + 1) → cu y (mo y r k n) ≤ r ∧ r < cu y (mo y r k n + 1) ∧ mo y r k n ≤ k + n ∧ k ≤ mo y r k n
  | 0, k, h1, h2 => ⟨h1, h2, Nat.le_refl _, Nat.le_refl _⟩
  | n + 1, k, h1, h2 => by
    unfold mo
    split
    · rename_i h
      exact ⟨h1, h, by omega, Nat.le_refl _⟩
    · rename_i h
      obtain ⟨a, b, c, d⟩ := mo_spec y r n (k + 1) (Int.not_lt.1 h) (by rw [show k + 1 + n + 1 = k + (n + 1) + 1 by omega]; exact h2)
      exact ⟨a, b, by omega, by omega⟩
/-- The day behind so many days of 1970. -/
def yY (k : Int) : Int := yo (k + 719528)
def yR (k : Int) : Int := k + 719528 - ah (yY k)
def yM (k : Int) : Int := (mo (yY k) (yR k) 0 11 : Nat) + 1
def yD (k : Int) : Int := yR k - cu (yY k) (mo (yY k) (yR k) 0 11) + 1
theorem day_spec {k : Int} (h0 : -719528 ≤ k) (h1 : k ≤ 2932896) : isD (yY k) (yM k) (yD k) = true ∧ dn (yY k) (yM k) (yD k) = k := by
  obtain ⟨a, b, c, d⟩ := yo_spec (D := k + 719528) (by omega) (by omega)
  have hn := ah_next a b
  rw [← cu12] at hn
  have hr0 : 0 ≤ yR k := by unfold yR yY; omega
  have hr1 : yR k < cu (yY k) 12 := by unfold yR yY; omega
  obtain ⟨p, q, r, s⟩ := mo_spec (yY k) (yR k) 11 0 hr0 hr1
  have hm : cu (yY k) (mo (yY k) (yR k) 0 11 + 1) = cu (yY k) (mo (yY k) (yR k) 0 11) + md (yY k) (yM k) := rfl
  constructor
  · rw [isD_iff]
    refine ⟨a, b, ?_, ?_, ?_, ?_⟩
    · unfold yM; omega
    · unfold yM; omega
    · unfold yD; omega
    · unfold yD; omega
  · unfold dn
    have : (yM k - 1).toNat = mo (yY k) (yR k) 0 11 := by unfold yM; omega
    rw [this]
    unfold yD yR
    omega
theorem day_range {y m d : Int} (h : isD y m d = true) : ah y ≤ dn y m d + 719528 ∧ dn y m d + 719528 < ah (y + 1) := by
  obtain ⟨a, b, c, e, f, g⟩ := (isD_iff y m d).1 h
  have hn := ah_next a b
  rw [← cu12] at hn
  obtain ⟨j, hj⟩ : ∃ j : Nat, (m - 1).toNat = j := ⟨_, rfl⟩
  have hm : m = (j : Int) + 1 := by omega
  subst hm
  unfold dn
  rw [hj]
  have h1 := (cu_bound y j (by omega)).1
  have h2 : cu y (j + 1) ≤ cu y 12 := cu_le (by omega)
  have h3 : cu y (j + 1) = cu y j + md y ((j : Int) + 1) := rfl
  omega
theorem day_one {y m d y' m' d' : Int} (h : isD y m d = true) (h' : isD y' m' d' = true) (e : dn y m d = dn y' m' d') : y = y' ∧ m = m' ∧ d = d' := by
  have r := day_range h
  have r' := day_range h'
  have hy : y = y' := by
    rcases Int.lt_trichotomy y y' with l | l | l
    · have := ah_mono (y := y + 1) (z := y') (by omega); omega
    · exact l
    · have := ah_mono (y := y' + 1) (z := y) (by omega); omega
  subst hy
  obtain ⟨a, b, c, ee, f, g⟩ := (isD_iff y m d).1 h
  obtain ⟨_, _, c', e', f', g'⟩ := (isD_iff y m' d').1 h'
  obtain ⟨j, hj⟩ : ∃ j : Nat, (m - 1).toNat = j := ⟨_, rfl⟩
  obtain ⟨j', hj'⟩ : ∃ j : Nat, (m' - 1).toNat = j := ⟨_, rfl⟩
  have hm : m = (j : Int) + 1 := by omega
  have hm' : m' = (j' : Int) + 1 := by omega
  subst hm; subst hm'
  unfold dn at e
  rw [hj, hj'] at e
  have q1 : cu y (j + 1) = cu y j + md y ((j : Int) + 1) := rfl
  have q2 : cu y (j' + 1) = cu y j' + md y ((j' : Int) + 1) := rfl
  have hjj : j = j' := by
    rcases Nat.lt_trichotomy j j' with l | l | l
    · have := cu_le (y := y) (k := j + 1) (j := j') (by omega); omega
    · exact l
    · have := cu_le (y := y) (k := j' + 1) (j := j) (by omega); omega
  subst hjj
  exact ⟨rfl, rfl, by omega⟩
theorem dn_bound {y m d : Int} (h : isD y m d = true) : -719528 ≤ dn y m d ∧ dn y m d ≤ 2932896 := by
  obtain ⟨a, b, _⟩ := (isD_iff y m d).1 h
  have r := day_range h
  have h1 := ah_mono (y := 0) (z := y) a
  have h2 := ah_mono (y := y + 1) (z := 10000) (by omega)
  have e1 : ah 0 = 0 := by decide
  have e2 : ah 10000 = 3652425 := by decide
  omega
theorem day_back {y m d : Int} (h : isD y m d = true) : yY (dn y m d) = y ∧ yM (dn y m d) = m ∧ yD (dn y m d) = d := by
  have b := dn_bound h
  obtain ⟨p, q⟩ := day_spec b.1 b.2
  exact day_one p h q
end Go.Proofs.YteicdlomjhjiiaaDoor
