/- Numbers modulo p: what sums, differences, products and inverses are, for all numbers: plain arithmetic. -/
import Derived.Test.YteplbagjagimdaaDoorFermat
namespace Go.Proofs.YteplbagjagimdaaDoor
theorem pp_pos' : 0 < pp := by decide
theorem neg_neg (x : Nat) (hx : x < pp) : (pp - (pp - x) % pp) % pp = x := by
  unfold pp at *; omega
theorem neg_mod (x : Nat) (h0 : x ≠ 0) (hx : x < pp) : (pp - x) % pp = pp - x := by
  unfold pp at *; omega
theorem neg_zero : (pp - 0) % pp = 0 := by decide +kernel
theorem neg_neg_mul (x y : Nat) (hx : x < pp) (hy : y < pp) : ((pp - x) % pp * ((pp - y) % pp)) % pp = x * y % pp := by
  by_cases h1 : x = 0
  · subst h1; rw [neg_zero]; simp
  · by_cases h2 : y = 0
    · subst h2; rw [neg_zero]; simp
    · rw [neg_mod x h1 hx, neg_mod y h2 hy]
      obtain ⟨a, ha⟩ : ∃ a, a + x = pp := ⟨pp - x, by omega⟩
      obtain ⟨b, hb⟩ : ∃ b, b + y = pp := ⟨pp - y, by omega⟩
      rw [show pp - x = a by omega, show pp - y = b by omega]
      have e1 : a * b + x * b = pp * b := by rw [← Nat.add_mul, ha]
      have e2 : x * b + x * y = x * pp := by rw [← Nat.mul_add, hb]
      have e3 : a * b + pp * x = x * y + pp * b := by rw [Nat.mul_comm pp x]; omega
      have e4 := congrArg (· % pp) e3
      simpa using e4
theorem sub_neg (x y : Nat) (hx : x < pp) (hy : y < pp) : (x + (pp - y) % pp) % pp = (pp - (y + (pp - x) % pp) % pp) % pp := by
  unfold pp at *; omega
theorem neg_odd (x : Nat) (h0 : x ≠ 0) (hx : x < pp) : decide ((pp - x) % pp % 2 = 1) = !decide (x % 2 = 1) := by
  have h : (pp - x) % pp % 2 = 1 ↔ ¬ (x % 2 = 1) := by
    rw [neg_mod x h0 hx]; unfold pp at *; omega
  rw [decide_eq_decide.2 h]; exact decide_not
theorem add_assoc_mod (x y z : Nat) : ((x + y) % pp + z) % pp = (x + (y + z) % pp) % pp := by
  rw [Nat.mod_add_mod, Nat.add_mod_mod, Nat.add_assoc]
theorem mul_assoc_mod (x y z : Nat) : (x * y % pp * z) % pp = x * (y * z % pp) % pp := by
  rw [Nat.mod_mul_mod, Nat.mul_mod_mod, Nat.mul_assoc]
theorem distrib_mod (x y z : Nat) : x * ((y + z) % pp) % pp = (x * y % pp + x * z % pp) % pp := by
  rw [Nat.mul_mod_mod, Nat.mul_add, Nat.mod_add_mod, Nat.add_mod_mod]
theorem sub_add (x y : Nat) (hx : x < pp) (hy : y < pp) : ((x + (pp - y) % pp) % pp + y) % pp = x := by
  unfold pp at *; omega
theorem add_neg (x : Nat) (hx : x < pp) : (x + (pp - x) % pp) % pp = 0 := by
  unfold pp at *; omega
theorem mul_one_mod (x : Nat) (hx : x < pp) : x * 1 % pp = x := by rw [Nat.mul_one, Nat.mod_eq_of_lt hx]
/-- A power. -/
def pw (x e : Nat) : Nat := x ^ e % pp
theorem pw_lt (x e : Nat) : pw x e < pp := Nat.mod_lt _ pp_pos'
theorem pw_zero (e : Nat) (he : 0 < e) : pw 0 e = 0 := by
  unfold pw
  rw [Nat.zero_pow he, Nat.zero_mod]
theorem mul_pw (x e : Nat) (he : e + 1 = pp - 1) (h0 : x ≠ 0) (hx : x < pp) : x * pw x e % pp = 1 := by
  unfold pw
  rw [Nat.mul_mod_mod, Nat.mul_comm, ← Nat.pow_succ, Nat.succ_eq_add_one, he]
  exact flt1 pp_prime x (by rw [Nat.mod_eq_of_lt hx]; exact h0)
theorem pw_mul (x y e : Nat) : pw (x * y % pp) e = pw x e * pw y e % pp := by
  unfold pw
  rw [← Nat.pow_mod, Nat.mul_pow, Nat.mod_mul_mod, Nat.mul_mod_mod]
theorem pw_ne (x e : Nat) (he : e + 1 = pp - 1) (h0 : x ≠ 0) (hx : x < pp) : pw x e ≠ 0 := by
  intro h
  have := mul_pw x e he h0 hx
  rw [h, Nat.mul_zero, Nat.zero_mod] at this
  exact absurd this (by decide)
theorem pw_pw (x e : Nat) (he : e + 1 = pp - 1) (h1e : 0 < e) (hx : x < pp) : pw (pw x e) e = x := by
  by_cases h0 : x = 0
  · subst h0; rw [pw_zero e h1e, pw_zero e h1e]
  · have h1 := mul_pw x e he h0 hx
    have h2 := mul_pw (pw x e) e he (pw_ne x e he h0 hx) (pw_lt x e)
    have h3 : (x * pw x e % pp) * pw (pw x e) e % pp = x * (pw x e * pw (pw x e) e % pp) % pp := mul_assoc_mod _ _ _
    rw [h1, h2, Nat.one_mul, Nat.mul_one, Nat.mod_eq_of_lt (pw_lt _ _), Nat.mod_eq_of_lt hx] at h3
    exact h3
theorem pw_square (x e : Nat) (he : e + 1 = pp - 1) (h1e : 0 < e) (hx : x < pp) : pw (x * x % pp) e * x % pp = pw x e := by
  by_cases h0 : x = 0
  · subst h0; rw [Nat.zero_mul, Nat.zero_mod, pw_zero e h1e, Nat.zero_mul, Nat.zero_mod]
  · rw [pw_mul]
    have h1 := mul_pw x e he h0 hx
    rw [mul_assoc_mod, Nat.mul_comm (pw x e) x, h1, Nat.mul_one, Nat.mod_eq_of_lt (pw_lt x e)]
theorem pw_even (x m : Nat) : pw x (2 * m) = pw x m * pw x m % pp := by
  unfold pw
  rw [Nat.mod_mul_mod, Nat.mul_mod_mod, ← Nat.pow_add]
  congr 2; omega
theorem pw_odd (x m : Nat) : pw x (2 * m + 1) = pw x m * pw x m % pp * x % pp := by
  rw [← pw_even]
  unfold pw
  rw [Nat.mod_mul_mod, Nat.pow_succ]
theorem pw_none (x : Nat) : pw x 0 = 1 := by
  unfold pw
  rw [Nat.pow_zero]; decide
theorem half (e k : Nat) : e / 2 ^ k = 2 * (e / 2 ^ (k + 1)) + e / 2 ^ k % 2 := by
  rw [Nat.pow_succ, ← Nat.div_div_eq_div_mul]; omega
/-- The exponent of the inverse. -/
def ex : Nat := 57896044618658097711785492504343953926634992332820282019728792003956564819947
theorem ex_eq : ex + 1 = pp - 1 := by decide +kernel
theorem ex_pos : 0 < ex := by decide +kernel
end Go.Proofs.YteplbagjagimdaaDoor
