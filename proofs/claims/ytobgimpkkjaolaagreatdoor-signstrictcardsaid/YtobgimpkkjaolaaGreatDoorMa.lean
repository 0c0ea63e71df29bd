/- The field: its numbers as the program keeps them, and what its calls answer. -/
import Derived.Test.YtobgimpkkjaolaaGreatDoorRows
import Derived.WalkKit
import Derived.WalkSpells
import Derived.WalkLawsBesides
import Derived.Laws.Externs
import Derived.Shelf.Spec.BitsCarry
import Derived.Shelf.Bits.Mul64
import Derived.Deep.WholeRow
import Derived.Deep.MidRow
import Derived.Deep.RegionHeld3
import Derived.Deep.LoopGhost
import Derived.BigRegion
import Derived.Laws.EntriesVeiled
import Derived.Test.YtobgimpkkjaolaaGreatDoorMb
/- That 2^255 - 19 is a prime, and that every number that it does not divide, to the p - 1, leaves 1. -/
namespace Go.Proofs.YtobgimpkkjaolaaGreatDoor
def IsP (n : Nat) : Prop := 2 ≤ n ∧ ∀ d, d ∣ n → d = 1 ∨ d = n
theorem IsP.euclid {p a b : Nat} (hp : IsP p) (h : p ∣ a * b) : p ∣ a ∨ p ∣ b := by
  rcases hp.2 (Nat.gcd p a) (Nat.gcd_dvd_left p a) with h1 | h1
  · right
    exact Nat.Coprime.dvd_of_dvd_mul_left h1 h
  · left
    rw [← h1]; exact Nat.gcd_dvd_right p a
def ch : Nat → Nat → Nat
  | _, 0 => 1
  | 0, _ + 1 => 0
  | n + 1, k + 1 => ch n k + ch n (k + 1)
theorem ch_zero (n : Nat) : ch n 0 = 1 := by cases n <;> rfl
theorem ch_succ (n k : Nat) : ch (n + 1) (k + 1) = ch n k + ch n (k + 1) := rfl
theorem ch_over : ∀ n k : Nat, n < k → ch n k = 0
  | 0, 0, h => absurd h (by omega)
  | 0, k + 1, _ => rfl
  | n + 1, 0, h => absurd h (by omega)
  | n + 1, k + 1, h => by rw [ch_succ, ch_over n k (by omega), ch_over n (k + 1) (by omega)]
theorem ch_self : ∀ n : Nat, ch n n = 1
  | 0 => rfl
  | n + 1 => by rw [ch_succ, ch_self n, ch_over n (n + 1) (by omega)]
theorem ch_absorb : ∀ n k : Nat, (k + 1) * ch (n + 1) (k + 1) = (n + 1) * ch n k
  | 0, 0 => rfl
  | 0, k + 1 => by
    rw [ch_over 1 (k + 1 + 1) (by omega), ch_over 0 (k + 1) (by omega)]; rfl
  | n + 1, 0 => by
    have h := ch_absorb n 0
    rw [ch_zero] at h ⊢
    rw [ch_succ, ch_zero]
    omega
  | n + 1, j + 1 => by
    have h1 := ch_absorb n (j + 1)
    have h2 := ch_absorb n j
    rw [ch_succ (n + 1) (j + 1), Nat.mul_add, h1]
    rw [Nat.add_mul (j + 1) 1, h2]
    have h3 := ch_succ n j
    rw [Nat.add_mul (n + 1) 1]
    rw [show (n + 1) * ch (n + 1) (j + 1) = (n + 1) * ch n j + (n + 1) * ch n (j + 1) by rw [h3, Nat.mul_add]]
    omega
def sm (f : Nat → Nat) : Nat → Nat
  | 0 => 0
  | m + 1 => sm f m + f m
theorem sm_first (f : Nat → Nat) : ∀ m, sm f (m + 1) = f 0 + sm (fun k => f (k + 1)) m
  | 0 => by simp [sm]
  | m + 1 => by
    rw [sm, sm_first f m, sm]; omega
theorem sm_add (f g : Nat → Nat) : ∀ m, sm (fun k => f k + g k) m = sm f m + sm g m
  | 0 => rfl
  | m + 1 => by simp only [sm, sm_add f g m]; omega
theorem sm_mul (c : Nat) (f : Nat → Nat) : ∀ m, sm (fun k => c * f k) m = c * sm f m
  | 0 => rfl
  | m + 1 => by simp only [sm, sm_mul c f m, Nat.mul_add]
theorem sm_congr {f g : Nat → Nat} : ∀ m, (∀ k, k < m → f k = g k) → sm f m = sm g m
  | 0, _ => rfl
  | m + 1, h => by rw [sm, sm, sm_congr m (fun k hk => h k (by omega)), h m (by omega)]
theorem sm_dvd (p : Nat) {f : Nat → Nat} : ∀ m, (∀ k, k < m → p ∣ f k) → p ∣ sm f m
  | 0, _ => Nat.dvd_zero p
  | m + 1, h => by rw [sm]; exact Nat.dvd_add (sm_dvd p m fun k hk => h k (by omega)) (h m (by omega))
theorem binom (x : Nat) : ∀ n, (x + 1) ^ n = sm (fun k => ch n k * x ^ k) (n + 1)
  | 0 => by simp [sm, ch]
  | n + 1 => by
    have ih := binom x n
    rw [sm_first, ch_zero]
    have e : sm (fun k => ch (n + 1) (k + 1) * x ^ (k + 1)) (n + 1) = x * sm (fun k => ch n k * x ^ k) (n + 1) + sm (fun k => ch n (k + 1) * x ^ (k + 1)) (n + 1) := by
      rw [← sm_mul, ← sm_add]
      refine sm_congr _ fun k _ => ?_
      simp only [ch_succ, Nat.add_mul, Nat.pow_succ]
      rw [show ch n k * (x ^ k * x) = x * (ch n k * x ^ k) by rw [Nat.mul_comm (x ^ k) x, ← Nat.mul_assoc, Nat.mul_comm (ch n k) x, Nat.mul_assoc]]
    have e2 := sm_first (fun k => ch n k * x ^ k) (n + 1)
    have e3 : sm (fun k => ch n k * x ^ k) (n + 1 + 1) = sm (fun k => ch n k * x ^ k) (n + 1) := by
      rw [sm, ch_over n (n + 1) (by omega)]; omega
    simp only [ch_zero, Nat.pow_zero] at e2
    rw [e, Nat.pow_succ, ih, Nat.mul_add, Nat.mul_comm]
    simp only [Nat.pow_zero]
    omega
theorem ch_dvd {p : Nat} (hp : IsP p) (k : Nat) (h1 : 0 < k) (h2 : k < p) : p ∣ ch p k := by
  obtain ⟨n, rfl⟩ : ∃ n, p = n + 1 := ⟨p - 1, by omega⟩
  obtain ⟨j, rfl⟩ : ∃ j, k = j + 1 := ⟨k - 1, by omega⟩
  have h := ch_absorb n j
  have hd : (n + 1) ∣ (j + 1) * ch (n + 1) (j + 1) := by rw [h]; exact Nat.dvd_mul_right _ _
  rcases hp.euclid hd with h3 | h3
  · exact absurd (Nat.le_of_dvd (by omega) h3) (by omega)
  · exact h3
theorem flt {p : Nat} (hp : IsP p) : ∀ x, x ^ p % p = x % p
  | 0 => by rw [Nat.zero_pow (by have := hp.1; omega)]
  | x + 1 => by
    have ih := flt hp x
    obtain ⟨n, hn⟩ : ∃ n, p = n + 1 := ⟨p - 1, by have := hp.1; omega⟩
    have h0 := binom x p
    rw [sm, ch_self, Nat.one_mul] at h0
    have h1 : sm (fun k => ch p k * x ^ k) p = 1 + sm (fun k => ch p (k + 1) * x ^ (k + 1)) n := by
      rw [hn, sm_first, ch_zero, Nat.pow_zero]
    have h2 : p ∣ sm (fun k => ch p (k + 1) * x ^ (k + 1)) n := sm_dvd p n fun k hk => Nat.dvd_trans (ch_dvd hp (k + 1) (by omega) (by omega)) (Nat.dvd_mul_right _ _)
    obtain ⟨c, hc⟩ := h2
    rw [h0, h1, hc]
    rw [show 1 + p * c + x ^ p = 1 + x ^ p + p * c by omega, Nat.add_mul_mod_self_left, Nat.add_mod, ih, ← Nat.add_mod, Nat.add_comm]
theorem mod_sub_dvd {p a b : Nat} (h : b ≤ a) (e : a % p = b % p) : p ∣ a - b := by
  refine ⟨a / p - b / p, ?_⟩
  have h1 := Nat.div_add_mod a p
  have h2 := Nat.div_add_mod b p
  have h3 : b / p ≤ a / p := Nat.div_le_div_right h
  rw [Nat.mul_sub]
  omega
theorem flt1 {p : Nat} (hp : IsP p) (x : Nat) (hx : x % p ≠ 0) : x ^ (p - 1) % p = 1 := by
  have h := flt hp x
  have h2 := hp.1
  have e : x ^ p = x * x ^ (p - 1) := by
    rw [show p = (p - 1) + 1 by omega, Nat.pow_succ, Nat.mul_comm]; rfl
  have hx0 : 0 < x := by
    rcases Nat.eq_zero_or_pos x with h0 | h0
    · exact absurd (by rw [h0]; exact Nat.zero_mod p) hx
    · exact h0
  have hpos : 0 < x ^ (p - 1) := Nat.pow_pos hx0
  have hle : x ≤ x ^ p := by rw [e]; exact Nat.le_mul_of_pos_right x hpos
  have hd := mod_sub_dvd hle h
  rw [e, show x * x ^ (p - 1) - x = x * (x ^ (p - 1) - 1) by rw [Nat.mul_sub, Nat.mul_one]] at hd
  rcases hp.euclid hd with h3 | h3
  · exact absurd (Nat.mod_eq_zero_of_dvd h3) hx
  · obtain ⟨c, hc⟩ := h3
    rw [show x ^ (p - 1) = 1 + p * c by omega, Nat.add_mul_mod_self_left, Nat.mod_eq_of_lt (by omega)]
/-! A prime by Pocklington. -/
theorem pow_gcd (b n : Nat) : ∀ i j, b ^ i % n = 1 % n → b ^ j % n = 1 % n → b ^ (Nat.gcd i j) % n = 1 % n := by
  intro i j
  refine Nat.gcd.induction (P := fun i j => b ^ i % n = 1 % n → b ^ j % n = 1 % n → b ^ (Nat.gcd i j) % n = 1 % n) i j ?_ ?_
  · intro j _ h2; rw [Nat.gcd_zero_left]; exact h2
  · intro i j hi ih h1 h2
    rw [Nat.gcd_rec]
    refine ih ?_ h1
    have e : b ^ j = (b ^ i) ^ (j / i) * b ^ (j % i) := by
      rw [← Nat.pow_mul, ← Nat.pow_add, Nat.div_add_mod]
    rw [e, Nat.mul_mod, Nat.pow_mod, h1, ← Nat.pow_mod, Nat.one_pow, ← Nat.mul_mod, Nat.one_mul] at h2
    exact h2
theorem pock {N q m a P : Nat} (hq : IsP q) (h : N = q * m + 1) (h1 : a ^ (N - 1) % N = 1) (hg : Nat.gcd (a ^ m % N + (N - 1)) N = 1) (hP : IsP P) (hd : P ∣ N) : q ∣ P - 1 := by
  rcases hq.2 (Nat.gcd q (P - 1)) (Nat.gcd_dvd_left _ _) with hc | hc
  · exfalso
    have hP2 := hP.1
    have h1' : a ^ (q * m) % P = 1 % P := by
      have h1'' : a ^ (q * m) % N = 1 := by rw [show q * m = N - 1 by omega]; exact h1
      rw [← Nat.mod_mod_of_dvd _ hd, h1'']
    have hb : (a ^ m) ^ q % P = 1 % P := by rw [← Nat.pow_mul, Nat.mul_comm]; exact h1'
    have hbz : (a ^ m) % P ≠ 0 := by
      intro h0
      rw [Nat.pow_mod, h0, Nat.zero_pow (by have := hq.1; omega), Nat.zero_mod, Nat.mod_eq_of_lt (by omega)] at hb
      exact absurd hb (by omega)
    have hf := flt1 hP (a ^ m) hbz
    have h3 := pow_gcd (a ^ m) P q (P - 1) hb (by rw [hf, Nat.mod_eq_of_lt (by omega)])
    rw [hc, Nat.pow_one] at h3
    have hd2 : P ∣ a ^ m % N + (N - 1) := by
      have hN : N % P = 0 := Nat.mod_eq_zero_of_dvd hd
      apply Nat.dvd_of_mod_eq_zero
      have e1 : (a ^ m % N) % P = 1 % P := by rw [Nat.mod_mod_of_dvd _ hd]; exact h3
      rw [Nat.add_mod, e1, ← Nat.add_mod, show 1 + (N - 1) = N by omega, hN]
    have hd3 : P ∣ Nat.gcd (a ^ m % N + (N - 1)) N := Nat.dvd_gcd hd2 hd
    rw [hg] at hd3
    have := Nat.le_of_dvd (by omega) hd3
    omega
  · rw [← hc]; exact Nat.gcd_dvd_right _ _
theorem exP : ∀ n, 2 ≤ n → ∃ P, IsP P ∧ P ∣ n := by
  intro n
  induction n using Nat.strongRecOn with
  | ind n ih =>
    intro hn
    by_cases h : IsP n
    · exact ⟨n, h, Nat.dvd_refl n⟩
    · have : ∃ d, d ∣ n ∧ d ≠ 1 ∧ d ≠ n := by
        apply Classical.byContradiction
        intro hne
        apply h
        refine ⟨hn, fun d hd => ?_⟩
        by_cases h1 : d = 1
        · exact Or.inl h1
        · by_cases h2 : d = n
          · exact Or.inr h2
          · exact absurd ⟨d, hd, h1, h2⟩ hne
      obtain ⟨d, hd, h1, h2⟩ := this
      have hle := Nat.le_of_dvd (by omega) hd
      have hpos := Nat.pos_of_dvd_of_pos hd (by omega)
      obtain ⟨P, hP, hPd⟩ := ih d (by omega) (by omega)
      exact ⟨P, hP, Nat.dvd_trans hPd hd⟩
theorem isP_of {n : Nat} (hn : 2 ≤ n) (h : ∀ P, IsP P → P ∣ n → n < P * P) : IsP n := by
  refine ⟨hn, fun d hd => ?_⟩
  obtain ⟨e, he⟩ := hd
  by_cases h1 : d = 1
  · exact Or.inl h1
  · by_cases h2 : e = 1
    · right; rw [he, h2, Nat.mul_one]
    · exfalso
      have hd0 : d ≠ 0 := by intro h0; rw [h0, Nat.zero_mul] at he; omega
      have he0 : e ≠ 0 := by intro h0; rw [h0, Nat.mul_zero] at he; omega
      rcases Nat.le_total d e with hle | hle
      · obtain ⟨P, hP, hPd⟩ := exP d (by omega)
        have := h P hP (Nat.dvd_trans hPd ⟨e, he⟩)
        have hPle := Nat.le_of_dvd (by omega) hPd
        have : P * P ≤ d * e := Nat.mul_le_mul hPle (Nat.le_trans hPle hle)
        omega
      · obtain ⟨P, hP, hPd⟩ := exP e (by omega)
        have := h P hP (Nat.dvd_trans hPd ⟨d, by rw [he, Nat.mul_comm]⟩)
        have hPle := Nat.le_of_dvd (by omega) hPd
        have : P * P ≤ d * e := Nat.mul_le_mul (Nat.le_trans hPle hle) hPle
        omega
def tdiv (n : Nat) : Nat → Bool
  | 0 => true
  | k + 1 => cond (Nat.beq (n % (k + 2)) 0) false (tdiv n k)
theorem tdiv_no (n : Nat) : ∀ k, tdiv n k = true → ∀ d, 2 ≤ d → d ≤ k + 1 → n % d ≠ 0
  | 0, _, d, h1, h2 => absurd h1 (by omega)
  | k + 1, h, d, h1, h2 => by
    have hb : Nat.beq (n % (k + 2)) 0 = false := by
      cases hq : Nat.beq (n % (k + 2)) 0 with
      | false => rfl
      | true => rw [tdiv, hq] at h; exact Bool.noConfusion h
    rw [tdiv, hb] at h
    by_cases e : d = k + 2
    · intro h0; rw [e] at h0; rw [h0] at hb; exact absurd hb (by decide)
    · exact tdiv_no n k h d h1 (by omega)
theorem isP_small (n k : Nat) (hn : 2 ≤ n) (hk : n < (k + 2) * (k + 2)) (h : tdiv n k = true) : IsP n := by
  refine isP_of hn fun P hP hd => ?_
  have h1 := tdiv_no n k h P hP.1
  have h2 := Nat.mod_eq_zero_of_dvd hd
  have h3 : k + 2 ≤ P := by
    apply Classical.byContradiction
    intro hc
    exact h1 (by omega) h2
  exact Nat.lt_of_lt_of_le hk (Nat.mul_le_mul h3 h3)
def pm (N : Nat) : Nat → Nat → Nat → Nat → Nat
  | 0, _, acc, _ => acc
  | f + 1, b, acc, e => pm N f (b * b % N) (cond (Nat.beq (e % 2) 1) (acc * b % N) acc) (e / 2)
theorem pm_eq (N : Nat) : ∀ f b acc e, e < 2 ^ f → pm N f b acc e % N = acc * b ^ e % N
  | 0, b, acc, e, h => by
    have : e = 0 := by simpa using h
    rw [this, pm, Nat.pow_zero, Nat.mul_one]
  | f + 1, b, acc, e, h => by
    rw [pm, pm_eq N f _ _ _ (by rw [Nat.pow_succ] at h; omega)]
    have hpw : (b * b % N) ^ (e / 2) % N = (b * b) ^ (e / 2) % N := (Nat.pow_mod _ _ _).symm
    have h2 : (b * b) ^ (e / 2) = b ^ (2 * (e / 2)) := by rw [Nat.pow_mul]; congr 1; rw [Nat.pow_two]
    rw [Nat.mul_mod, hpw, ← Nat.mul_mod, h2]
    rcases Nat.mod_two_eq_zero_or_one e with h0 | h0
    · rw [h0]
      show acc * _ % N = _
      rw [show 2 * (e / 2) = e by omega]
    · rw [h0]
      show acc * b % N * _ % N = _
      rw [Nat.mod_mul_mod, Nat.mul_assoc, ← Nat.pow_succ', show (2 * (e / 2)).succ = e by omega]
theorem pm_lt (N : Nat) (hN : 1 < N) : ∀ f b acc e, acc < N → pm N f b acc e < N
  | 0, _, _, _, h => h
  | f + 1, b, acc, e, h => by
    rw [pm]
    refine pm_lt N hN f _ _ _ ?_
    cases Nat.beq (e % 2) 1
    · exact h
    · exact Nat.mod_lt _ (by omega)
theorem pm_pow {N f b e v : Nat} (hN : 1 < N) (he : e < 2 ^ f) (h : pm N f b 1 e = v) : b ^ e % N = v := by
  have h1 := pm_eq N f b 1 e he
  rw [Nat.one_mul, Nat.mod_eq_of_lt (pm_lt N hN f b 1 e hN), h] at h1
  exact h1.symm
theorem pock2 {N q m v f P : Nat} (hq : IsP q) (hN : 1 < N) (h : N = q * m + 1) (h1 : pm N f 2 1 (N - 1) = 1) (h2 : pm N f 2 1 m = v) (hf : N < 2 ^ f) (hm : m < 2 ^ f) (hg : Nat.gcd (v + (N - 1)) N = 1) (hP : IsP P) (hd : P ∣ N) : q ∣ P - 1 := by
  refine pock (a := 2) hq h (pm_pow hN (by omega) h1) ?_ hP hd
  rw [pm_pow hN hm h2]; exact hg
theorem big_of_two {P q r N : Nat} (hP : IsP P) (hc : Nat.gcd q r = 1) (h1 : q ∣ P - 1) (h2 : r ∣ P - 1) (h : N < (q * r) * (q * r)) : N < P * P := by
  have h3 : q * r ∣ P - 1 := Nat.Coprime.mul_dvd_of_dvd_of_dvd hc h1 h2
  have h4 := Nat.le_of_dvd (by have := hP.1; omega) h3
  have h5 : q * r ≤ P := by omega
  exact Nat.lt_of_lt_of_le h (Nat.mul_le_mul h5 h5)
theorem big_of_one {P q N : Nat} (hP : IsP P) (h1 : q ∣ P - 1) (h : N < q * q) : N < P * P := by
  have h4 := Nat.le_of_dvd (by have := hP.1; omega) h1
  have h5 : q ≤ P := by omega
  exact Nat.lt_of_lt_of_le h (Nat.mul_le_mul h5 h5)
theorem p127 : IsP 127 := isP_small 127 11 (by decide) (by decide) (by decide +kernel)
theorem p8574133 : IsP 8574133 := isP_small 8574133 2930 (by decide) (by decide) (by decide +kernel)
theorem p75707 : IsP 75707 := isP_small 75707 280 (by decide) (by decide) (by decide +kernel)
theorem p1923133 : IsP 1923133 := isP_small 1923133 1400 (by decide) (by decide) (by decide +kernel)
theorem p_s : IsP 1919519569386763 := isP_of (by decide +kernel) fun P hP hd =>
  big_of_two hP (q := 127) (r := 8574133) (by decide +kernel)
    (pock2 p127 (N := 1919519569386763) (q := 127) (m := 15114327318006) (v := 576774792492622) (f := 256) (by decide +kernel) (by decide +kernel) (by decide +kernel) (by decide +kernel) (by decide +kernel) (by decide +kernel) (by decide +kernel) hP hd)
    (pock2 p8574133 (N := 1919519569386763) (q := 8574133) (m := 223873314) (v := 1059928654987441) (f := 256) (by decide +kernel) (by decide +kernel) (by decide +kernel) (by decide +kernel) (by decide +kernel) (by decide +kernel) (by decide +kernel) hP hd) (by decide +kernel)
theorem p_r : IsP 75445702479781427272750846543864801 := isP_of (by decide +kernel) fun P hP hd =>
  big_of_two hP (q := 75707) (r := 1919519569386763) (by decide +kernel)
    (pock2 p75707 (N := 75445702479781427272750846543864801) (q := 75707) (m := 996548568557483816196003626400) (v := 58781699294900834553279248901967638) (f := 256) (by decide +kernel) (by decide +kernel) (by decide +kernel) (by decide +kernel) (by decide +kernel) (by decide +kernel) (by decide +kernel) hP hd)
    (pock2 p_s (N := 75445702479781427272750846543864801) (q := 1919519569386763) (m := 39304471641247389600) (v := 56747016255153332959347766392083459) (f := 256) (by decide +kernel) (by decide +kernel) (by decide +kernel) (by decide +kernel) (by decide +kernel) (by decide +kernel) (by decide +kernel) hP hd) (by decide +kernel)
theorem p_q : IsP 74058212732561358302231226437062788676166966415465897661863160754340907 := isP_of (by decide +kernel) fun P hP hd =>
  big_of_two hP (q := 1923133) (r := 75445702479781427272750846543864801) (by decide +kernel)
    (pock2 p1923133 (N := 74058212732561358302231226437062788676166966415465897661863160754340907) (q := 1923133) (m := 38509147694185143878364744631319200843710219946028640589009268082) (v := 52266576830164329332527201090776533817489900267135412990654516667243924) (f := 256) (by decide +kernel) (by decide +kernel) (by decide +kernel) (by decide +kernel) (by decide +kernel) (by decide +kernel) (by decide +kernel) hP hd)
    (pock2 p_r (N := 74058212732561358302231226437062788676166966415465897661863160754340907) (q := 75445702479781427272750846543864801) (m := 981609426360740691344999861639072106) (v := 69490809710348678725736597923071784769591275419387514694139338586948360) (f := 256) (by decide +kernel) (by decide +kernel) (by decide +kernel) (by decide +kernel) (by decide +kernel) (by decide +kernel) (by decide +kernel) hP hd) (by decide +kernel)
def pp : Nat := 57896044618658097711785492504343953926634992332820282019728792003956564819949
theorem pp_prime : IsP pp := isP_of (by decide +kernel) fun P hP hd =>
  big_of_one hP (q := 74058212732561358302231226437062788676166966415465897661863160754340907)
    (pock2 p_q (N := pp) (q := 74058212732561358302231226437062788676166966415465897661863160754340907) (m := 781764) (v := 427094198651976259540344842774561673889945192655078505504941250475370961481) (f := 256) (by decide +kernel) (by decide +kernel) (by decide +kernel) (by decide +kernel) (by decide +kernel) (by decide +kernel) (by decide +kernel) hP hd) (by decide +kernel)
end Go.Proofs.YtobgimpkkjaolaaGreatDoor
/- Numbers as rows of words of 64 bits: plain arithmetic, for all rows. -/
namespace Go.Proofs.YtobgimpkkjaolaaGreatDoor
def val : List Nat → Nat
  | [] => 0
  | x :: t => x + 18446744073709551616 * val t
def lim (l : List Nat) : Prop := ∀ i, l.getD i 0 < 18446744073709551616
theorem lim_set {l : List Nat} (h : lim l) (k y : Nat) (hy : y < 18446744073709551616) : lim (l.set k y) := by
  intro i
  have hi := h i
  simp only [List.getD_eq_getElem?_getD, List.getElem?_set] at hi ⊢
  split
  · split
    · exact hy
    · decide
  · exact hi
theorem val_set : ∀ (l : List Nat) (k y : Nat), k < l.length → val (l.set k y) + 18446744073709551616 ^ k * l.getD k 0 = val l + 18446744073709551616 ^ k * y
  | [], k, y, h => absurd h (by simp)
  | x :: t, 0, y, _ => by simp [val]; omega
  | x :: t, k + 1, y, h => by
    have ih := val_set t k y (by simpa using h)
    simp only [List.set_cons_succ, val, List.getD_cons_succ, Nat.pow_succ]
    rw [Nat.mul_comm (18446744073709551616 ^ k), Nat.mul_assoc, Nat.mul_assoc]
    omega
theorem val_take : ∀ (l : List Nat) (k : Nat), k < l.length → val (l.take (k + 1)) = val (l.take k) + 18446744073709551616 ^ k * l.getD k 0
  | [], k, h => absurd h (by simp)
  | x :: t, 0, _ => by simp [val]
  | x :: t, k + 1, h => by
    have ih := val_take t k (by simpa using h)
    rw [List.take_succ_cons, List.take_succ_cons, val, val, ih, List.getD_cons_succ, Nat.pow_succ, Nat.mul_add]
    rw [Nat.mul_comm (18446744073709551616 ^ k) 18446744073709551616, Nat.mul_assoc]
    omega
theorem four {l : List Nat} (h : l.length = 4) : ∃ a b c d, l = [a, b, c, d] := by
  match l, h with
  | [a, b, c, d], _ => exact ⟨a, b, c, d, rfl⟩
theorem eight {l : List Nat} (h : l.length = 8) : ∃ a b c d e f g i, l = [a, b, c, d, e, f, g, i] := by
  match l, h with
  | [a, b, c, d, e, f, g, i], _ => exact ⟨a, b, c, d, e, f, g, i, rfl⟩
theorem val4 (a b c d : Nat) : val [a, b, c, d] = a + 18446744073709551616 * b + 340282366920938463463374607431768211456 * c + 6277101735386680763835789423207666416102355444464034512896 * d := by
  simp only [val]; omega
theorem lim4 {a b c d : Nat} (h : lim [a, b, c, d]) : a < 18446744073709551616 ∧ b < 18446744073709551616 ∧ c < 18446744073709551616 ∧ d < 18446744073709551616 :=
  ⟨h 0, h 1, h 2, h 3⟩
theorem lim4_mk {a b c d : Nat} (h : a < 18446744073709551616 ∧ b < 18446744073709551616 ∧ c < 18446744073709551616 ∧ d < 18446744073709551616) : lim [a, b, c, d] := by
  intro i
  match i with
  | 0 => exact h.1
  | 1 => exact h.2.1
  | 2 => exact h.2.2.1
  | 3 => exact h.2.2.2
  | i + 4 => simp
theorem val_lt : ∀ {l : List Nat}, lim l → val l < 18446744073709551616 ^ l.length
  | [], _ => by simp [val]
  | x :: t, h => by
    have ih := val_lt (l := t) (fun i => h (i + 1))
    have hx := h 0
    simp only [List.getD_cons_zero] at hx
    simp only [val, List.length_cons, Nat.pow_succ]
    omega
theorem add_step {l : List Nat} {k x y c P A : Nat} (hk : k < l.length) (hP : 18446744073709551616 ^ k = P) (hx : l.getD k 0 = x) (h : val l + c * P = A) :
    val (l.set k ((x + y + c) % 18446744073709551616)) + (x + y + c) / 18446744073709551616 * 18446744073709551616 ^ (k + 1) = A + P * y := by
  have hs := val_set l k ((x + y + c) % 18446744073709551616) hk
  rw [hP, hx] at hs
  rw [Nat.pow_succ, hP]
  have hd := Nat.div_add_mod (x + y + c) 18446744073709551616
  generalize (x + y + c) % 18446744073709551616 = r at *
  generalize (x + y + c) / 18446744073709551616 = q at *
  have e1 : q * (P * 18446744073709551616) = P * (18446744073709551616 * q) := by
    rw [Nat.mul_comm q, Nat.mul_assoc]
  have e2 : P * (18446744073709551616 * q) + P * r = P * x + P * y + P * c := by
    rw [← Nat.mul_add, hd, Nat.mul_add, Nat.mul_add]
  rw [e1]
  rw [Nat.mul_comm c P] at h
  omega
theorem mul_step {l : List Nat} {k t x P A Y : Nat} (hk : k < l.length) (hP : 18446744073709551616 ^ k = P) (hx : l.getD k 0 = x) (h : val l + Y = A) :
    val (l.set k (t % 18446744073709551616)) + Y + P * x + t / 18446744073709551616 * 18446744073709551616 ^ (k + 1) = A + P * t := by
  have hs := val_set l k (t % 18446744073709551616) hk
  rw [hP, hx] at hs
  rw [Nat.pow_succ, hP]
  have hd := Nat.div_add_mod t 18446744073709551616
  generalize t % 18446744073709551616 = r at *
  generalize t / 18446744073709551616 = q at *
  have e1 : q * (P * 18446744073709551616) = P * (18446744073709551616 * q) := by
    rw [Nat.mul_comm q, Nat.mul_assoc]
  have e2 : P * (18446744073709551616 * q) + P * r = P * t := by rw [← Nat.mul_add, hd]
  rw [e1]
  omega
theorem scale_step {l : List Nat} {k x y a P T V : Nat} (hk : k < l.length) (hP : 18446744073709551616 ^ k = P) (hx : l.getD k 0 = x) (h : val l + a * P + T = V + y * T) :
    val (l.set k ((x * y + a) % 18446744073709551616)) + (x * y + a) / 18446744073709551616 * 18446744073709551616 ^ (k + 1) + (T + P * x) = V + y * (T + P * x) := by
  have hs := mul_step (t := x * y + a) (Y := 0) hk hP hx rfl
  rw [Nat.mul_add P, ← Nat.mul_assoc P] at hs
  rw [Nat.mul_add, Nat.mul_comm y (P * x)]
  rw [Nat.mul_comm a P] at h
  omega
theorem sub_word (x y b : Nat) (hx : x < 18446744073709551616) (hy : y < 18446744073709551616) (hb : b ≤ 1) :
    (x + 18446744073709551616 - y - b) % 18446744073709551616 + y + b = x + 18446744073709551616 * (if x < y + b then 1 else 0) := by
  split <;> omega
theorem sub_step {l : List Nat} {k x y b r b' P W V Q : Nat} (hk : k < l.length) (hP : 18446744073709551616 ^ k = P) (hy : l.getD k 0 = y) (hr : r + y + b = x + 18446744073709551616 * b')
    (h : val l + 2 * W = V + Q + b * P) : val (l.set k r) + 2 * (W + P * y) = V + (Q + P * x) + b' * 18446744073709551616 ^ (k + 1) := by
  have hs := val_set l k r hk
  rw [hP, hy] at hs
  rw [Nat.pow_succ, hP]
  have e : P * r + P * y + P * b = P * x + P * (18446744073709551616 * b') := by
    rw [← Nat.mul_add, ← Nat.mul_add, hr, Nat.mul_add]
  have e1 : b' * (P * 18446744073709551616) = P * (18446744073709551616 * b') := by
    rw [Nat.mul_comm b', Nat.mul_assoc]
  rw [Nat.mul_comm b P] at h
  omega
theorem row_step {l : List Nat} {i j x y z a P V T : Nat} (hk : i + j < l.length) (hP : 18446744073709551616 ^ (i + j) = P) (hz : l.getD (i + j) 0 = z) (h : val l + a * P = V + T) :
    val (l.set (i + j) ((x * y + z + a) % 18446744073709551616)) + (x * y + z + a) / 18446744073709551616 * 18446744073709551616 ^ (i + (j + 1)) = V + (T + P * (x * y)) := by
  have hs := mul_step (t := x * y + z + a) (Y := 0) hk hP hz rfl
  rw [Nat.mul_add P, Nat.mul_add P] at hs
  rw [Nat.mul_comm a P] at h
  rw [← Nat.add_assoc i j 1]
  omega
theorem row_step' {l : List Nat} {i j n x y z a V T T' q r : Nat} (hn : i + j = n) (hk : n < l.length) (hz : l.getD n 0 = z) (h : val l + a * 18446744073709551616 ^ n = V + 18446744073709551616 ^ i * (x * T)) (hT : T' = T + 18446744073709551616 ^ j * y)
    (hq : (x * y + z + a) / 18446744073709551616 = q) (hr : (x * y + z + a) % 18446744073709551616 = r) : val (l.set n r) + q * 18446744073709551616 ^ (i + (j + 1)) = V + 18446744073709551616 ^ i * (x * T') := by
  subst hn
  have hst := row_step (x := x) (y := y) hk rfl hz h
  rw [hq, hr] at hst
  rw [hst, hT, Nat.mul_add x, Nat.mul_add (18446744073709551616 ^ i), Nat.pow_add, Nat.mul_assoc (18446744073709551616 ^ i), Nat.mul_left_comm (18446744073709551616 ^ j) x y]
theorem row_end {l : List Nat} {i a V T : Nat} (hk : i + 4 < l.length) (hz : l.getD (i + 4) 0 = 0) (h : val l + a * 18446744073709551616 ^ (i + 4) = V + T) : val (l.set (i + 4) a) = V + T := by
  have hs := val_set l (i + 4) a hk
  rw [hz] at hs
  rw [Nat.mul_comm] at h
  omega
theorem getD_set_ne' {l : List Nat} {k m y : Nat} (h : k ≠ m) : (l.set k y).getD m 0 = l.getD m 0 := by
  simp [List.getD_eq_getElem?_getD, h]
theorem val8 (a b c d e f g i : Nat) : val [a, b, c, d, e, f, g, i] = val [a, b, c, d] + 115792089237316195423570985008687907853269984665640564039457584007913129639936 * val [e, f, g, i] := by
  simp only [val]; omega
theorem word_mul {x y m n : Nat} (hx : x < 18446744073709551616) (hy : y < 18446744073709551616) (hm : m < 18446744073709551616) (hn : n < 18446744073709551616) :
    x * y + m + n < 340282366920938463463374607431768211456 := by
  have h : x * y ≤ 18446744073709551615 * 18446744073709551615 := Nat.mul_le_mul (by omega) (by omega)
  omega
end Go.Proofs.YtobgimpkkjaolaaGreatDoor
/- The leaves of the field: sums, differences and products of words, as the program's calls answer them, in any world, for all words. -/
namespace Go.Proofs.YtobgimpkkjaolaaGreatDoor
open Go.RowKit
theorem add64_nat (x y c : Nat) (hc : c ≤ 1) (w : World) : (callFunc 114 #[.int .u64 (x : Int), .int .u64 (y : Int), .int .u64 (c : Int)]).run Tryz.prog w =
    .ok (.value (.tuple #[.int .u64 (((x + y + c) % 18446744073709551616 : Nat) : Int), .int .u64 (((x + y + c) / 18446744073709551616 : Nat) : Int)])) w := by
  rw [run_callFunc_extern Tryz.func114 (by kernel_rfl) (by kernel_rfl) (by kernel_rfl) (e := add64Entry) (by kernel_rfl), run_add64 x y c (by omega) (by omega) (by omega) (by omega)]
  simp only [Result.andThen]
  congr 5 <;> omega
theorem sub64_nat (x y b : Nat) (hb : b ≤ 1) (w : World) : (callFunc 91 #[.int .u64 (x : Int), .int .u64 (y : Int), .int .u64 (b : Int)]).run Tryz.prog w =
    .ok (.value (.tuple #[.int .u64 (((x + 18446744073709551616 - y - b) % 18446744073709551616 : Nat) : Int), .int .u64 ((if x < y + b then 1 else 0 : Nat) : Int)])) w := by
  rw [run_callFunc_extern Tryz.func91 (by kernel_rfl) (by kernel_rfl) (by kernel_rfl) (e := sub64Entry) (by kernel_rfl), run_sub64 x y b hb]
  rfl
set_option maxHeartbeats 1000000 in
theorem mul64_any (x y : Nat) (hx : x < 18446744073709551616) (hy : y < 18446744073709551616) (w : World) :
    Calls Tryz.prog 113 #[.int .u64 x, .int .u64 y] w fun e w' => e = .returned (.tuple #[.int .u64 ((x * y / 18446744073709551616 : Nat) : Int), .int .u64 ((x * y % 18446744073709551616 : Nat) : Int)]) ∧ w' = w := by
  obtain ⟨bd, bt, bw, hhi⟩ := Lib.mul64_hi x y hx hy
  have ba := Lib.half_mul_le (a := x / 4294967296) (b := y / 4294967296) (by omega) (by omega)
  have bb := Lib.half_mul_le (a := x / 4294967296) (b := y % 4294967296) (by omega) (by omega)
  have bc := Lib.half_mul_le (a := x % 4294967296) (b := y / 4294967296) (by omega) (by omega)
  have ba' : x / 4294967296 * (y / 4294967296) < 18446744073709551616 := by omega
  have bb' : x / 4294967296 * (y % 4294967296) < 18446744073709551616 := by omega
  have bc' : x % 4294967296 * (y / 4294967296) < 18446744073709551616 := by omega
  have bh1 : x / 4294967296 * (y / 4294967296) + (x / 4294967296 * (y % 4294967296) + x % 4294967296 * (y % 4294967296) / 4294967296) / 4294967296 < 18446744073709551616 := by omega
  have bh : x / 4294967296 * (y / 4294967296) + (x / 4294967296 * (y % 4294967296) + x % 4294967296 * (y % 4294967296) / 4294967296) / 4294967296 + ((x / 4294967296 * (y % 4294967296) + x % 4294967296 * (y % 4294967296) / 4294967296) % 4294967296 + x % 4294967296 * (y / 4294967296)) / 4294967296 < 18446744073709551616 := by omega
  go_enter Tryz.func113, Tryz.ntmps113
  go_wp2
  simp only [Mul64.maskN x hx, Mul64.maskN y hy, Mul64.divN, Mul64.mulN, Mul64.addN, Mul64.wrapN _ bd, Mul64.wrapN _ bb', Mul64.wrapN _ bt, Mul64.maskN _ bt, Mul64.wrapN _ bc', Mul64.wrapN _ bw, Mul64.wrapN _ ba', Mul64.wrapN _ bh1, Mul64.wrapN _ bh, Mul64.wrapM (x * y)]
  rw [hhi]
  go_ret2
  exact ⟨rfl, rfl⟩
theorem u64_wrap (a : Nat) (ha : a < 18446744073709551616) : IntKind.u64.wrap (a : Int) = (a : Int) := by rw [IntKind.wrap_u64]; omega
theorem add64_int (x y c : Int) (hx : 0 ≤ x) (hy : 0 ≤ y) (hc0 : 0 ≤ c) (hc : c ≤ 1) (w : World) : (callFunc 114 #[.int .u64 x, .int .u64 y, .int .u64 c]).run Tryz.prog w =
    .ok (.value (.tuple #[.int .u64 ((x + y + c) % 18446744073709551616), .int .u64 ((x + y + c) / 18446744073709551616)])) w := by
  rw [run_callFunc_extern Tryz.func114 (by kernel_rfl) (by kernel_rfl) (by kernel_rfl) (e := add64Entry) (by kernel_rfl), run_add64 x y c hx hy hc0 hc]
  rfl
theorem add64_zero (x y : Int) (hx : 0 ≤ x) (hy : 0 ≤ y) (w : World) : (callFunc 114 #[.int .u64 x, .int .u64 y, .int .u64 0]).run Tryz.prog w =
    .ok (.value (.tuple #[.int .u64 ((x + y) % 18446744073709551616), .int .u64 ((x + y) / 18446744073709551616)])) w := by
  simpa using add64_int x y 0 hx hy (Int.le_refl 0) (by decide) w
theorem ret2 {v1 v2 u1 u2 : Value} (h1 : v1 = u1) (h2 : v2 = u2) : Ending.returned (.tuple #[v1, v2]) = .returned (.tuple #[u1, u2]) := by rw [h1, h2]
theorem mad_num (p m n : Nat) (h : p + m + n < 340282366920938463463374607431768211456) :
    IntKind.u64.wrap (IntKind.u64.wrap (((p / 18446744073709551616 : Nat) : Int) + (((p % 18446744073709551616 : Nat) : Int) + m) / 18446744073709551616) + ((((p % 18446744073709551616 : Nat) : Int) + m) % 18446744073709551616 + n) / 18446744073709551616) = (((p + m + n) / 18446744073709551616 : Nat) : Int)
    ∧ (((p % 18446744073709551616 : Nat) : Int) + m + n) % 18446744073709551616 = (((p + m + n) % 18446744073709551616 : Nat) : Int) := by
  simp only [IntKind.wrap_u64]; omega
set_option maxHeartbeats 1000000 in
theorem mad_any (x y m n : Nat) (hx : x < 18446744073709551616) (hy : y < 18446744073709551616) (hm : m < 18446744073709551616) (hn : n < 18446744073709551616) (w : World) :
    Calls Tryz.prog 116 #[.int .u64 x, .int .u64 y, .int .u64 m, .int .u64 n] w fun e w' => e = .returned (.tuple #[.int .u64 (((x * y + m + n) / 18446744073709551616 : Nat) : Int), .int .u64 (((x * y + m + n) % 18446744073709551616 : Nat) : Int)]) ∧ w' = w := by
  have hw := word_mul hx hy hm hn
  have HN : Hid _ := mad_num (x * y) m n hw
  clear hw
  go_enter Tryz.func116, Tryz.ntmps116
  go_wp2_with fail
  refine (mul64_any x y hx hy _).mono ?_
  rintro e w' ⟨rfl, rfl⟩
  generalize hp : x * y = p at *
  generalize hq : p / 18446744073709551616 = q at *
  generalize hr : p % 18446744073709551616 = r at *
  have h1 : (0 : Int) ≤ (r : Int) := by omega
  have h2 : (0 : Int) ≤ (m : Int) := by omega
  have h3 : (0 : Int) ≤ (n : Int) := by omega
  have h4 : (0 : Int) ≤ ((r : Int) + m) % 18446744073709551616 := by omega
  have HP : Hid _ := hp
  have HQ : Hid _ := hq
  have HR : Hid _ := hr
  clear hp hq hr
  go_wp2_with (first | simp only [add64_zero _ _ h1 h2] | simp only [add64_zero _ _ h4 h3])
  go_ret2
  obtain ⟨e1, e2⟩ := HN.out
  rw [HP.out]
  exact ⟨ret2 (congrArg (Value.int .u64) e1) (congrArg (Value.int .u64) e2), rfl⟩
theorem mad_zero (x y m : Nat) (hx : x < 18446744073709551616) (hy : y < 18446744073709551616) (hm : m < 18446744073709551616) (w : World) :
    Calls Tryz.prog 116 #[.int .u64 x, .int .u64 y, .int .u64 m, .int .u64 0] w fun e w' => e = .returned (.tuple #[.int .u64 (((x * y + m) / 18446744073709551616 : Nat) : Int), .int .u64 (((x * y + m) % 18446744073709551616 : Nat) : Int)]) ∧ w' = w :=
  mad_any x y m 0 hx hy hm (by decide) w
end Go.Proofs.YtobgimpkkjaolaaGreatDoor
/- Rows of words in memory: what lies in a block, how it is read and written; sums of rows, as the program's call answers them. -/
namespace Go.Proofs.YtobgimpkkjaolaaGreatDoor
open Go.RowKit
theorem hide {p : Prop} (h : p) : Hid p := h
def na (l : List Nat) : Array Value := (l.map fun (n : Nat) => Value.int .u64 (n : Int)).toArray
theorem na_size (l : List Nat) : (na l).size = l.length := by simp [na]
theorem na_get (l : List Nat) (k : Nat) (h : k < l.length) : (na l)[k]? = some (.int .u64 ((l.getD k 0 : Nat) : Int)) := by
  simp [na, List.getD_eq_getElem?_getD, h]
theorem na_set (l : List Nat) (k n : Nat) : (na l).setIfInBounds k (.int .u64 (n : Int)) = na (l.set k n) := by
  simp [na, List.map_set]
theorem na4 (a b c d : Nat) : na [a, b, c, d] = #[.int .u64 (a : Int), .int .u64 (b : Int), .int .u64 (c : Int), .int .u64 (d : Int)] := rfl
theorem heap_alloc_last3 (w : World) (a b c : Obj) : (((w.alloc a).alloc b).alloc c).heap[w.heap.size + 1 + 1]? = some c := by
  have h := heap_alloc_last ((w.alloc a).alloc b) c
  simpa using h
theorem heap_alloc_mid3 (w : World) (a b c : Obj) : (((w.alloc a).alloc b).alloc c).heap[w.heap.size + 1]? = some b := by
  rw [Below.heap_alloc _ _ _ (by simp)]
  have h := heap_alloc_last (w.alloc a) b
  simpa using h
theorem Below.setRow {B : Nat} {a w : World} (h : Below B a w) (g : Nat) (cs : Array Value) (hg : B ≤ g) : Below B a (w.setRow g cs) :=
  h.trans ⟨rfl, rfl, rfl, by simp, fun k hk => setRow_other w g k cs (by omega)⟩
theorem below3 (w : World) (a b c : Obj) : Below w.heap.size w (((w.alloc a).alloc b).alloc c) :=
  (((Below.refl _ _).alloc (Nat.le_refl _) _).alloc (by simp) _).alloc (by simp; omega) _
theorem und26 : Tryz.prog.underlying 45 = some (.array 4 27) := by kernel_rfl
theorem sum3_div (x y c : Nat) : (((x + y + c) / 18446744073709551616 : Nat) : Int) = ((x : Int) + y + c) / 18446744073709551616 := by omega
theorem sum3_mod (x y c : Nat) : ((x : Int) + y + c) % 18446744073709551616 = (((x + y + c) % 18446744073709551616 : Nat) : Int) := by omega
set_option maxHeartbeats 1000000 in
theorem add_list (la lb : List Nat) (ha : la.length = 4) (hb : lb.length = 4) (la' : lim la) (lb' : lim lb) (w : World) :
    Calls Tryz.prog 110 #[.agg (na la), .agg (na lb)] w fun e w' => ∃ (l : List Nat) (c : Nat), e = .returned (.tuple #[.agg (na l), .int .u64 (c : Int)]) ∧ l.length = 4 ∧ lim l ∧ val l + c * 18446744073709551616 ^ 4 = val la + val lb ∧ Below w.heap.size w w' := by
  go_enter Tryz.func110, Tryz.ntmps110
  go_wp2
  go_loopw [6, 8] (fun c i wr => ∃ (k : Nat) (l : List Nat) (cn : Nat), k ≤ 4 ∧ i = .int .i64 k ∧ c = .int .u64 (cn : Int) ∧ cn ≤ 1 ∧ l.length = 4 ∧ lim l ∧ val l + cn * 18446744073709551616 ^ k = val la + val (lb.take k) ∧ wr.heap[w.heap.size]? = some (.cells (na l) 45 (0,0)) ∧ wr.heap[w.heap.size + 1]? = some (.cells (na lb) 45 (0,0)) ∧ wr.heap[w.heap.size + 1 + 1]? = some (.cells #[.int .u64 0, .int .u64 0, .int .u64 0, .int .u64 0] 45 (0,0)) ∧ wr.heap.size = w.heap.size + 1 + 1 + 1 ∧ Below w.heap.size w wr) (fun _ i _ => 4 - (intOf i).toNat)
  case atStart =>
    refine ⟨0, la, 0, by omega, rfl, rfl, by omega, ha, la', by simp [val], ?_, heap_alloc_mid3 _ _ _ _, heap_alloc_last3 _ _ _ _, by simp, below3 _ _ _ _⟩
    rw [Below.heap_alloc _ _ _ (by simp; omega), Below.heap_alloc _ _ _ (by simp), heap_alloc_last]
  case round =>
    obtain ⟨k, l, cn, hk, rfl, rfl, hcn, hl, hlim, hval, hrow, hrb, hr0, hsz, hbel⟩ := hrel
    by_cases hlt : k < 4
    · have hcell : wr.cell? ⟨w.heap.size, k, none⟩ = some (.int .u64 ((l.getD k 0 : Nat) : Int)) := by
        rw [cell_of_row _ _ _ _ _ _ hrow, na_get _ _ (by omega)]
      have hcellb : wr.cell? ⟨w.heap.size + 1, k, none⟩ = some (.int .u64 ((lb.getD k 0 : Nat) : Int)) := by
        rw [cell_of_row _ _ _ _ _ _ hrb, na_get _ _ (by omega)]
      have hfro : wr.frozen? ⟨w.heap.size, k, none⟩ = false := frozen_of_row _ _ _ _ _ hrow
      have hx := hlim k
      have hy := lb' k
      have HR := hide hrow
      have HB := hide hrb
      have H0 := hide hr0
      have HV := hide hval
      have HT := hide (val_take lb k (by omega))
      have HL := hide hlim
      have HLB := hide lb'
      have HN := hide hl
      clear hrow hrb hr0 hval hlim lb' hl
      generalize hgx : l.getD k 0 = x at *
      generalize hgy : lb.getD k 0 = y at *
      have HX := hide hgx
      have HY := hide hgy
      clear hgx hgy
      have ha1 := add64_nat x y cn hcn
      have b0 : (0 : Int) ≤ (k : Int) := by omega
      have b1 : (k : Int) < 4 := by omega
      go_wp2
      go_region
      go_wp2
      go_roundw
      case rel =>
        refine ⟨k + 1, l.set k ((x + y + cn) % 18446744073709551616), (x + y + cn) / 18446744073709551616, by omega, by go_num, by rw [sum3_div], by omega, by rw [List.length_set, HN.out], lim_set HL.out _ _ (by omega), ?_, ?_, ?_, ?_, ?_, ?_⟩
        · rw [HT.out, ← Nat.add_assoc]
          exact add_step (by rw [HN.out]; omega) rfl HX.out HV.out
        · rw [heap_drew, heap_setCell_same _ _ _ _ _ _ HR.out, sum3_mod, na_set]
        · rw [heap_drew, heap_setCell_other _ _ _ _ (by simp)]; exact HB.out
        · rw [heap_drew, heap_setCell_other _ _ _ _ (by simp; omega)]; exact H0.out
        · simpa [heap_drew] using hsz
        · exact (hbel.setCell (by simp) _).drew
      case measure => simp [intOf]; omega
    · obtain ⟨x0, x1, x2, x3, rfl⟩ := four hl
      have hk4 : k = 4 := by omega
      rw [hk4, List.take_of_length_le (by omega)] at hval
      rw [na4] at hrow
      have HV := hide hval
      have HL := hide hlim
      have c0 : wr.cell? ⟨w.heap.size, 0, none⟩ = some (.int .u64 (x0 : Int)) := by rw [cell_of_row _ _ _ _ _ _ hrow]; rfl
      have c1 : wr.cell? ⟨w.heap.size, 1, none⟩ = some (.int .u64 (x1 : Int)) := by rw [cell_of_row _ _ _ _ _ _ hrow]; rfl
      have c2 : wr.cell? ⟨w.heap.size, 2, none⟩ = some (.int .u64 (x2 : Int)) := by rw [cell_of_row _ _ _ _ _ _ hrow]; rfl
      have c3 : wr.cell? ⟨w.heap.size, 3, none⟩ = some (.int .u64 (x3 : Int)) := by rw [cell_of_row _ _ _ _ _ _ hrow]; rfl
      have d0 : wr.cell? ⟨w.heap.size + 1 + 1, 0, none⟩ = some (.int .u64 0) := by rw [cell_of_row _ _ _ _ _ _ hr0]; rfl
      have d1 : wr.cell? ⟨w.heap.size + 1 + 1, 1, none⟩ = some (.int .u64 0) := by rw [cell_of_row _ _ _ _ _ _ hr0]; rfl
      have d2 : wr.cell? ⟨w.heap.size + 1 + 1, 2, none⟩ = some (.int .u64 0) := by rw [cell_of_row _ _ _ _ _ _ hr0]; rfl
      have d3 : wr.cell? ⟨w.heap.size + 1 + 1, 3, none⟩ = some (.int .u64 0) := by rw [cell_of_row _ _ _ _ _ _ hr0]; rfl
      have hfro : ∀ i, wr.frozen? ⟨w.heap.size + 1 + 1, i, none⟩ = false := fun i => frozen_of_row _ _ _ _ _ hr0
      clear hval hlim
      go_wp2
      refine bodyPost_ret (v := .tuple #[.agg (na [x0, x1, x2, x3]), .int .u64 (cn : Int)]) (by simp [results, Tryz.results110, go_sem, na4, d0, d1, d2, d3]) rfl ⟨[x0, x1, x2, x3], cn, rfl, rfl, HL.out, HV.out, ?_⟩
      exact (((hbel.setCell (by simp; omega) _).setCell (by simp; omega) _).setCell (by simp; omega) _).setCell (by simp; omega) _
end Go.Proofs.YtobgimpkkjaolaaGreatDoor
/- A row of words times a word, and what a row lacks to p: as the program's calls answer them, in any world. -/
namespace Go.Proofs.YtobgimpkkjaolaaGreatDoor
open Go.RowKit
set_option maxHeartbeats 1000000 in
theorem scale_list (la : List Nat) (y : Nat) (ha : la.length = 4) (la' : lim la) (hy : y < 18446744073709551616) (w : World) :
    Calls Tryz.prog 115 #[.agg (na la), .int .u64 (y : Int)] w fun e w' => ∃ (l : List Nat) (c : Nat), e = .returned (.tuple #[.int .u64 (c : Int), .agg (na l)]) ∧ l.length = 4 ∧ lim l ∧ c < 18446744073709551616 ∧ val l + c * 18446744073709551616 ^ 4 = y * val la ∧ Below w.heap.size w w' := by
  go_enter Tryz.func115, Tryz.ntmps115
  go_wp2
  go_loopw [6, 8] (fun c i wr => ∃ (k : Nat) (l : List Nat) (cn : Nat), k ≤ 4 ∧ i = .int .i64 k ∧ c = .int .u64 (cn : Int) ∧ cn < 18446744073709551616 ∧ l.length = 4 ∧ lim l ∧ val l + cn * 18446744073709551616 ^ k + val (la.take k) = val la + y * val (la.take k) ∧ (∀ i, k ≤ i → l.getD i 0 = la.getD i 0) ∧ wr.heap[w.heap.size]? = some (.cells (na l) 45 (0,0)) ∧ wr.heap[w.heap.size + 1]? = some (.cells #[.int .u64 0, .int .u64 0, .int .u64 0, .int .u64 0] 45 (0,0)) ∧ wr.heap.size = w.heap.size + 1 + 1 ∧ Below w.heap.size w wr) (fun _ i _ => 4 - (intOf i).toNat)
  case atStart =>
    refine ⟨0, la, 0, by omega, rfl, rfl, by omega, ha, la', by simp [val], fun _ _ => rfl, ?_, ?_, by simp, ((Below.refl _ _).alloc (Nat.le_refl _) _).alloc (by simp) _⟩
    · rw [Below.heap_alloc _ _ _ (by simp), heap_alloc_last]
    · have h := heap_alloc_last (w.alloc (.cells (na la) 45)) (.cells #[.int .u64 0, .int .u64 0, .int .u64 0, .int .u64 0] 45)
      simpa using h
  case round =>
    obtain ⟨k, l, cn, hk, rfl, rfl, hcn, hl, hlim, hval, hold, hrow, hr0, hsz, hbel⟩ := hrel
    by_cases hlt : k < 4
    · have hcell : wr.cell? ⟨w.heap.size, k, none⟩ = some (.int .u64 ((l.getD k 0 : Nat) : Int)) := by
        rw [cell_of_row _ _ _ _ _ _ hrow, na_get _ _ (by omega)]
      have hfro : wr.frozen? ⟨w.heap.size, k, none⟩ = false := frozen_of_row _ _ _ _ _ hrow
      have hx := hlim k
      have HR := hide hrow
      have H0 := hide hr0
      have HV := hide hval
      have HT := hide (val_take la k (by omega))
      have HL := hide hlim
      have HN := hide hl
      have HO := hide hold
      have HK := hide (hold k (Nat.le_refl _))
      clear hrow hr0 hval hlim hl hold la' ha
      generalize hgx : l.getD k 0 = x at *
      have HX := hide hgx
      clear hgx
      have b0 : (0 : Int) ≤ (k : Int) := by omega
      have b1 : (k : Int) < 4 := by omega
      have hm := word_mul hx hy hcn (n := 0) (by decide)
      have HM := hide hm
      clear hm
      go_wp2_with fail
      refine (mad_zero x y cn hx hy hcn _).mono ?_
      rintro e w' ⟨rfl, rfl⟩
      generalize hq : (x * y + cn) / 18446744073709551616 = q at *
      generalize hr : (x * y + cn) % 18446744073709551616 = r at *
      have HQ := hide hq
      have HRr := hide hr
      clear hq hr
      go_wp2
      go_roundw
      case rel =>
        refine ⟨k + 1, l.set k r, q, by omega, by go_num, rfl, ?_, by rw [List.length_set, HN.out], lim_set HL.out _ _ ?_, ?_, ?_, ?_, ?_, ?_, ?_⟩
        · have := HM.out; have := HQ.out; omega
        · have := HRr.out; omega
        · rw [HT.out, ← HK.out, ← HQ.out, ← HRr.out]
          exact scale_step (by rw [HN.out]; omega) rfl HX.out HV.out
        · intro i hi
          rw [getD_set_ne' (by omega), HO.out i (by omega)]
        · rw [heap_setCell_same _ _ _ _ _ _ HR.out, na_set]
        · rw [heap_setCell_other _ _ _ _ (by simp)]; exact H0.out
        · simpa using hsz
        · exact hbel.setCell (by simp) _
      case measure => simp [intOf]; omega
    · obtain ⟨x0, x1, x2, x3, rfl⟩ := four hl
      have hk4 : k = 4 := by omega
      rw [hk4, List.take_of_length_le (by omega)] at hval
      rw [na4] at hrow
      have HV := hide hval
      have HL := hide hlim
      have c0 : ∀ i, wr.cell? ⟨w.heap.size, i, none⟩ = (#[.int .u64 (x0 : Int), .int .u64 (x1 : Int), .int .u64 (x2 : Int), .int .u64 (x3 : Int)] : Array Value)[i]? := fun i => cell_of_row _ _ _ _ _ _ hrow
      have d0 : ∀ i, wr.cell? ⟨w.heap.size + 1, i, none⟩ = (#[.int .u64 0, .int .u64 0, .int .u64 0, .int .u64 0] : Array Value)[i]? := fun i => cell_of_row _ _ _ _ _ _ hr0
      have hfro : ∀ i, wr.frozen? ⟨w.heap.size + 1, i, none⟩ = false := fun i => frozen_of_row _ _ _ _ _ hr0
      clear hval hlim hold
      go_wp2
      go_region
      go_wp2
      refine bodyPost_ret (v := .tuple #[.int .u64 (cn : Int), .agg (na [x0, x1, x2, x3])]) (by simp [results, Tryz.results115, go_sem, na4, d0]) rfl ⟨[x0, x1, x2, x3], cn, rfl, rfl, HL.out, hcn, by have := HV.out; omega, ?_⟩
      exact (((((hbel.setCell (by simp) _).setCell (by simp) _).setCell (by simp) _).setCell (by simp) _)).drew
def pl : List Nat := [18446744073709551597, 18446744073709551615, 18446744073709551615, 9223372036854775807]
theorem pl_lim : lim pl := lim4_mk (by decide)
theorem pl_val : val pl = 57896044618658097711785492504343953926634992332820282019728792003956564819949 := by decide +kernel
set_option maxHeartbeats 1000000 in
theorem fromPrime_list (la : List Nat) (ha : la.length = 4) (la' : lim la) (hle : val la ≤ 57896044618658097711785492504343953926634992332820282019728792003956564819949) (w : World) :
    Calls Tryz.prog 97 #[.agg (na la)] w fun e w' => ∃ (l : List Nat), e = .returned (.agg (na l)) ∧ l.length = 4 ∧ lim l ∧ val l + val la = 57896044618658097711785492504343953926634992332820282019728792003956564819949 ∧ Below w.heap.size w w' := by
  go_enter Tryz.func97, Tryz.ntmps97
  go_wp2
  go_loopw [4, 7] (fun c i wr => ∃ (k : Nat) (l : List Nat) (cn : Nat), k ≤ 4 ∧ i = .int .i64 k ∧ c = .int .u64 (cn : Int) ∧ cn ≤ 1 ∧ l.length = 4 ∧ lim l ∧ val l + 2 * val (la.take k) = val la + val (pl.take k) + cn * 18446744073709551616 ^ k ∧ (∀ i, k ≤ i → l.getD i 0 = la.getD i 0) ∧ wr.heap[w.heap.size]? = some (.cells (na l) 45 (0,0)) ∧ wr.heap[w.heap.size + 1]? = some (.cells #[.int .u64 0, .int .u64 0, .int .u64 0, .int .u64 0] 45 (0,0)) ∧ wr.heap[w.heap.size + 1 + 1]? = some (.cells (na pl) 45 (0,0)) ∧ wr.heap.size = w.heap.size + 1 + 1 + 1 ∧ Below w.heap.size w wr) (fun _ i _ => 4 - (intOf i).toNat)
  case atStart =>
    refine ⟨0, la, 0, by omega, rfl, rfl, by omega, ha, la', by simp [val], fun _ _ => rfl, ?_, heap_alloc_mid3 _ _ _ _, heap_alloc_last3 _ _ _ _, by simp, below3 _ _ _ _⟩
    rw [Below.heap_alloc _ _ _ (by simp; omega), Below.heap_alloc _ _ _ (by simp), heap_alloc_last]
  case round =>
    obtain ⟨k, l, cn, hk, rfl, rfl, hcn, hl, hlim, hval, hold, hrow, hr0, hrp, hsz, hbel⟩ := hrel
    by_cases hlt : k < 4
    · have hcell : wr.cell? ⟨w.heap.size, k, none⟩ = some (.int .u64 ((l.getD k 0 : Nat) : Int)) := by
        rw [cell_of_row _ _ _ _ _ _ hrow, na_get _ _ (by omega)]
      have hcellb : wr.cell? ⟨w.heap.size + 1 + 1, k, none⟩ = some (.int .u64 ((pl.getD k 0 : Nat) : Int)) := by
        rw [cell_of_row _ _ _ _ _ _ hrp, na_get _ _ (by show k < 4; omega)]
      have hfro : wr.frozen? ⟨w.heap.size, k, none⟩ = false := frozen_of_row _ _ _ _ _ hrow
      have hy := hlim k
      have hx := pl_lim k
      have HR := hide hrow
      have HP := hide hrp
      have H0 := hide hr0
      have HV := hide hval
      have HT := hide (val_take la k (by omega))
      have HTP := hide (val_take pl k (by show k < 4; omega))
      have HL := hide hlim
      have HN := hide hl
      have HO := hide hold
      have HK := hide (hold k (Nat.le_refl _))
      have HLE := hide hle
      clear hrow hr0 hrp hval hlim hl hold la' ha hle
      generalize hgy : l.getD k 0 = y at *
      generalize hgx : pl.getD k 0 = x at *
      have HX := hide hgx
      have HY := hide hgy
      clear hgx hgy
      have ha1 := sub64_nat x y cn hcn
      have HS := hide (sub_word x y cn hx hy hcn)
      have hbo : (if x < y + cn then 1 else 0 : Nat) ≤ 1 := by split <;> omega
      have hdi : (x + 18446744073709551616 - y - cn) % 18446744073709551616 < 18446744073709551616 := by omega
      generalize (x + 18446744073709551616 - y - cn) % 18446744073709551616 = r at *
      generalize (if x < y + cn then 1 else 0 : Nat) = b at *
      have b0 : (0 : Int) ≤ (k : Int) := by omega
      have b1 : (k : Int) < 4 := by omega
      go_wp2
      go_region
      go_wp2
      go_roundw
      case rel =>
        refine ⟨k + 1, l.set k r, b, by omega, by go_num, rfl, hbo, by rw [List.length_set, HN.out], lim_set HL.out _ _ hdi, ?_, ?_, ?_, ?_, ?_, ?_, ?_⟩
        · rw [HT.out, HTP.out, ← HK.out]
          exact sub_step (by rw [HN.out]; omega) rfl HY.out HS.out HV.out
        · intro i hi
          rw [getD_set_ne' (by omega), HO.out i (by omega)]
        · rw [heap_drew, heap_setCell_same _ _ _ _ _ _ HR.out, na_set]
        · rw [heap_drew, heap_setCell_other _ _ _ _ (by simp)]; exact H0.out
        · rw [heap_drew, heap_setCell_other _ _ _ _ (by simp; omega)]; exact HP.out
        · simpa [heap_drew] using hsz
        · exact (hbel.setCell (by simp) _).drew
      case measure => simp [intOf]; omega
    · obtain ⟨x0, x1, x2, x3, rfl⟩ := four hl
      have hk4 : k = 4 := by omega
      rw [hk4, List.take_of_length_le (by omega), List.take_of_length_le (by decide), pl_val] at hval
      have hlt := val_lt hlim
      rw [na4] at hrow
      have HV := hide hval
      have HL := hide hlim
      have c0 : ∀ i, wr.cell? ⟨w.heap.size, i, none⟩ = (#[.int .u64 (x0 : Int), .int .u64 (x1 : Int), .int .u64 (x2 : Int), .int .u64 (x3 : Int)] : Array Value)[i]? := fun i => cell_of_row _ _ _ _ _ _ hrow
      have d0 : ∀ i, wr.cell? ⟨w.heap.size + 1, i, none⟩ = (#[.int .u64 0, .int .u64 0, .int .u64 0, .int .u64 0] : Array Value)[i]? := fun i => cell_of_row _ _ _ _ _ _ hr0
      have hfro : ∀ i, wr.frozen? ⟨w.heap.size + 1, i, none⟩ = false := fun i => frozen_of_row _ _ _ _ _ hr0
      have HT := hide hlt
      clear hval hlim hold hlt
      go_wp2
      refine bodyPost_ret (v := .agg (na [x0, x1, x2, x3])) (by simp [results, Tryz.results97, go_sem, na4, d0]) rfl ⟨[x0, x1, x2, x3], rfl, rfl, HL.out, ?_, ?_⟩
      · have h1 := HV.out
        have h2 := HT.out
        simp only [List.length_cons, List.length_nil] at h2
        omega
      · exact ((((hbel.setCell (by simp) _).setCell (by simp) _).setCell (by simp) _).setCell (by simp) _)
end Go.Proofs.YtobgimpkkjaolaaGreatDoor
/- The product of two rows of words, as the program's call answers it, in any world. -/
namespace Go.Proofs.YtobgimpkkjaolaaGreatDoor
open Go.RowKit
def z8 : List Nat := [0, 0, 0, 0, 0, 0, 0, 0]
theorem na8 (a b c d e f g i : Nat) : na [a, b, c, d, e, f, g, i] = #[.int .u64 (a : Int), .int .u64 (b : Int), .int .u64 (c : Int), .int .u64 (d : Int), .int .u64 (e : Int), .int .u64 (f : Int), .int .u64 (g : Int), .int .u64 (i : Int)] := rfl
theorem z8_lim : lim z8 := by
  intro i
  match i with
  | 0 | 1 | 2 | 3 | 4 | 5 | 6 | 7 => decide
  | i + 8 => simp [z8]
theorem z8_get (i : Nat) : z8.getD i 0 = 0 := by
  match i with
  | 0 | 1 | 2 | 3 | 4 | 5 | 6 | 7 => rfl
  | i + 8 => simp [z8]
theorem heap_alloc_last4 (w : World) (a b c d : Obj) : ((((w.alloc a).alloc b).alloc c).alloc d).heap[w.heap.size + 1 + 1 + 1]? = some d := by
  have h := heap_alloc_last (((w.alloc a).alloc b).alloc c) d
  simpa using h
structure TimesAt (w wr : World) (la lb l : List Nat) : Prop where
  a : wr.heap[w.heap.size]? = some (.cells (na la) 45 (0,0))
  b : wr.heap[w.heap.size + 1]? = some (.cells (na lb) 45 (0,0))
  o : wr.heap[w.heap.size + 1 + 1]? = some (.cells (na z8) 66 (0,0))
  p : wr.heap[w.heap.size + 1 + 1 + 1]? = some (.cells (na l) 66 (0,0))
  size : wr.heap.size = w.heap.size + 1 + 1 + 1 + 1
  below : Below w.heap.size w wr
theorem TimesAt.set {w wr : World} {la lb l : List Nat} (h : TimesAt w wr la lb l) (k n : Nat) : TimesAt w (wr.setCell ⟨w.heap.size + 1 + 1 + 1, k, none⟩ (.int .u64 (n : Int))) la lb (l.set k n) where
  a := by rw [heap_setCell_other _ _ _ _ (by simp; omega)]; exact h.a
  b := by rw [heap_setCell_other _ _ _ _ (by simp)]; exact h.b
  o := by rw [heap_setCell_other _ _ _ _ (by simp)]; exact h.o
  p := by rw [heap_setCell_same _ _ _ _ _ _ h.p, na_set]
  size := by simpa using h.size
  below := h.below.setCell (by simp; omega) _
theorem TimesAt.drew {w wr : World} {la lb l : List Nat} (h : TimesAt w wr la lb l) : TimesAt w wr.drew la lb l :=
  ⟨h.a, h.b, h.o, h.p, h.size, h.below.drew⟩
theorem mad_pair (x y m n q r : Nat) (hx : x < 18446744073709551616) (hy : y < 18446744073709551616) (hm : m < 18446744073709551616) (hn : n < 18446744073709551616) (hq : (x * y + m + n) / 18446744073709551616 = q) (hr : (x * y + m + n) % 18446744073709551616 = r) (w : World) :
    Calls Tryz.prog 116 #[.int .u64 x, .int .u64 y, .int .u64 m, .int .u64 n] w fun e w' => e = .returned (.tuple #[.int .u64 (q : Int), .int .u64 (r : Int)]) ∧ w' = w := by
  rw [← hq, ← hr]; exact mad_any x y m n hx hy hm hn w
set_option maxHeartbeats 2000000 in
theorem multiply_list (la lb : List Nat) (ha : la.length = 4) (hb : lb.length = 4) (la' : lim la) (lb' : lim lb) (w : World) :
    Calls Tryz.prog 107 #[.agg (na la), .agg (na lb)] w fun e w' => ∃ (l : List Nat), e = .returned (.agg (na l)) ∧ l.length = 8 ∧ lim l ∧ val l = val la * val lb ∧ Below w.heap.size w w' := by
  go_enter Tryz.func107, Tryz.ntmps107
  go_wp2
  go_loopw [9] (fun i wr => ∃ (m : Nat) (l : List Nat), m ≤ 4 ∧ i = .int .i64 m ∧ l.length = 8 ∧ lim l ∧ val l = val (la.take m) * val lb ∧ (∀ i, m + 4 ≤ i → l.getD i 0 = 0) ∧ TimesAt w wr la lb l) (fun i _ => 4 - (intOf i).toNat)
  case atStart =>
    refine ⟨0, z8, by omega, rfl, rfl, z8_lim, by simp [val, z8], fun i _ => z8_get i, ⟨?_, ?_, ?_, ?_, by simp, ?_⟩⟩
    · rw [Below.heap_alloc _ _ _ (by simp; omega), Below.heap_alloc _ _ _ (by simp; omega), Below.heap_alloc _ _ _ (by simp), heap_alloc_last]
    · rw [Below.heap_alloc _ _ _ (by simp)]; exact heap_alloc_mid3 _ _ _ _
    · rw [Below.heap_alloc _ _ _ (by simp)]; exact heap_alloc_last3 _ _ _ _
    · exact heap_alloc_last4 _ _ _ _ _
    · exact (below3 _ _ _ _).alloc (by simp; omega) _
  case round =>
    obtain ⟨m, l, hm, rfl, hl, hlim, hval, hz, hat⟩ := hrel
    by_cases hlt : m < 4
    · have hlx := la' m
      obtain ⟨x, hgx⟩ : ∃ x, la.getD m 0 = x := ⟨_, rfl⟩
      rw [hgx] at hlx
      have HX := hide hgx
      clear hgx
      have HV := hide hval
      have HZ := hide hz
      have HTA : Hid (val (la.take (m + 1)) = val (la.take m) + 18446744073709551616 ^ m * x) := by have h := val_take la m (by omega); rw [HX.out] at h; exact h
      clear hval hz
      have hd : decide ((m : Int) < 4) = true := decide_eq_true (by omega)
      go_wp2
      clear hd
      go_loopw [7, 12] (fun c j wr => ∃ (k : Nat) (l' : List Nat) (cn : Nat), k ≤ 4 ∧ j = .int .i64 k ∧ c = .int .u64 (cn : Int) ∧ cn < 18446744073709551616 ∧ l'.length = 8 ∧ lim l' ∧ val l' + cn * 18446744073709551616 ^ (m + k) = val l + 18446744073709551616 ^ m * (x * val (lb.take k)) ∧ (∀ i, m + 4 ≤ i → l'.getD i 0 = 0) ∧ TimesAt w wr la lb l') (fun _ j _ => 4 - (intOf j).toNat)
      case atStart => exact ⟨0, l, 0, by omega, rfl, rfl, by omega, hl, hlim, by simp [val], HZ.out, hat⟩
      case round =>
        clear hat hl hlim
        obtain ⟨k, l2, cn, hk, rfl, rfl, hcn, hl, hlim, hval, hz, hat⟩ := hrel
        by_cases hlt2 : k < 4
        · have hca : wr.cell? ⟨w.heap.size, m, none⟩ = some (.int .u64 (x : Int)) := by
            rw [cell_of_row _ _ _ _ _ _ hat.a, na_get _ _ (by omega), HX.out]
          have hcb : wr.cell? ⟨w.heap.size + 1, k, none⟩ = some (.int .u64 ((lb.getD k 0 : Nat) : Int)) := by
            rw [cell_of_row _ _ _ _ _ _ hat.b, na_get _ _ (by omega)]
          have hcp : wr.cell? ⟨w.heap.size + 1 + 1 + 1, m + k, none⟩ = some (.int .u64 ((l2.getD (m + k) 0 : Nat) : Int)) := by
            rw [cell_of_row _ _ _ _ _ _ hat.p, na_get _ _ (by omega)]
          have hfro : wr.frozen? ⟨w.heap.size + 1 + 1 + 1, m + k, none⟩ = false := frozen_of_row _ _ _ _ _ hat.p
          have hly := lb' k
          have hlz := hlim (m + k)
          have HT := hide (val_take lb k (by omega))
          have HA := hide hat
          have HV2 := hide hval
          have HL := hide hlim
          have HN := hide hl
          have HZ2 := hide hz
          have HLA := hide la'
          have HLB := hide lb'
          clear hat hval hlim hl hz la' lb' ha hb
          generalize hgy : lb.getD k 0 = y at *
          generalize hgz : l2.getD (m + k) 0 = z at *
          have HGZ := hide hgz
          clear hgy hgz
          have HM := hide (word_mul hlx hly hlz hcn)
          have b0 : (0 : Int) ≤ (k : Int) := by omega
          have b1 : (k : Int) < 4 := by omega
          have b2 : (0 : Int) ≤ (m : Int) := by omega
          have b3 : (m : Int) < 4 := by omega
          generalize hn : m + k = n at *
          have hn1 : (m : Int) + (k : Int) = (n : Int) := by omega
          have hn2 : (n : Int) < 8 := by omega
          have hn3 : (0 : Int) ≤ (n : Int) := by omega
          have hn4 : IntKind.i64.wrap (n : Int) = (n : Int) := by rw [IntKind.wrap_i64]; omega
          have HNN := hide hn
          clear hn
          obtain ⟨q, hq⟩ : ∃ q, (x * y + z + cn) / 18446744073709551616 = q := ⟨_, rfl⟩
          obtain ⟨r, hr⟩ : ∃ r, (x * y + z + cn) % 18446744073709551616 = r := ⟨_, rfl⟩
          have hcall := mad_pair x y z cn q r hlx hly hlz hcn hq hr
          have HQ := hide hq
          have HR := hide hr
          clear hq hr
          go_wp2
          go_region_with ((go_at_call 116; refine (hcall _).mono ?_; rintro e w' ⟨rfl, rfl⟩))
          clear hca hcb hcp hcall hn1 hn2 hn3 hn4
          all_goals
            go_wp2
            go_roundw
            case rel =>
              refine ⟨k + 1, l2.set n r, q, by omega, by go_num, rfl, ?_, by rw [List.length_set, HN.out], lim_set HL.out _ _ ?_, ?_, ?_, (HA.out.set n r).drew⟩
              · have := HM.out; have := HQ.out; omega
              · have := HR.out; omega
              · exact row_step' HNN.out (by rw [HN.out]; have := HNN.out; omega) HGZ.out HV2.out HT.out HQ.out HR.out
              · intro i hi
                rw [getD_set_ne' (by have := HNN.out; omega), HZ2.out i hi]
            case measure => simp [intOf]; omega
        · have hk4 : k = 4 := by omega
          rw [hk4, List.take_of_length_le (by omega)] at hval
          have hfro : wr.frozen? ⟨w.heap.size + 1 + 1 + 1, m + 4, none⟩ = false := frozen_of_row _ _ _ _ _ hat.p
          have hcp : wr.cell? ⟨w.heap.size + 1 + 1 + 1, m + 4, none⟩ = some (.int .u64 ((l2.getD (m + 4) 0 : Nat) : Int)) := by
            rw [cell_of_row _ _ _ _ _ _ hat.p, na_get _ _ (by omega)]
          generalize l2.getD (m + 4) 0 = z at hcp
          have HA := hide hat
          have HV2 := hide hval
          have HL := hide hlim
          have HN := hide hl
          have HZ2 := hide hz
          clear hat hval hlim hl hz
          have b2 : (0 : Int) ≤ (m : Int) := by omega
          have b3 : (m : Int) < 4 := by omega
          go_wp2
          go_roundw
          case rel =>
            refine ⟨m + 1, l2.set (m + 4) cn, by omega, by go_num, by rw [List.length_set, HN.out], lim_set HL.out _ _ hcn, ?_, ?_, HA.out.set (m + 4) cn⟩
            · rw [row_end (by rw [HN.out]; omega) (HZ2.out _ (Nat.le_refl _)) HV2.out, HTA.out, HV.out, Nat.add_mul, Nat.mul_assoc]
            · intro i hi
              rw [getD_set_ne' (by omega), HZ2.out i (by omega)]
          case measure => simp [intOf]; omega
    · obtain ⟨x0, x1, x2, x3, x4, x5, x6, x7, rfl⟩ := eight hl
      have hm4 : m = 4 := by omega
      rw [hm4, List.take_of_length_le (by omega)] at hval
      have hrow := hat.p
      have hr0 := hat.o
      have hbel := hat.below
      rw [na8] at hrow
      have HV := hide hval
      have HL := hide hlim
      have c0 : ∀ i, wr.cell? ⟨w.heap.size + 1 + 1 + 1, i, none⟩ = (#[.int .u64 (x0 : Int), .int .u64 (x1 : Int), .int .u64 (x2 : Int), .int .u64 (x3 : Int), .int .u64 (x4 : Int), .int .u64 (x5 : Int), .int .u64 (x6 : Int), .int .u64 (x7 : Int)] : Array Value)[i]? := fun i => cell_of_row _ _ _ _ _ _ hrow
      have d0 : ∀ i, wr.cell? ⟨w.heap.size + 1 + 1, i, none⟩ = (#[.int .u64 0, .int .u64 0, .int .u64 0, .int .u64 0, .int .u64 0, .int .u64 0, .int .u64 0, .int .u64 0] : Array Value)[i]? := fun i => cell_of_row _ _ _ _ _ _ hr0
      have hfro : ∀ i, wr.frozen? ⟨w.heap.size + 1 + 1, i, none⟩ = false := fun i => frozen_of_row _ _ _ _ _ hr0
      clear hval hlim hz hat hrow hr0
      go_wp2
      refine bodyPost_ret (v := .agg (na [x0, x1, x2, x3, x4, x5, x6, x7])) (by simp [results, Tryz.results107, go_sem, na8, d0]) rfl ⟨[x0, x1, x2, x3, x4, x5, x6, x7], rfl, rfl, HL.out, HV.out, ?_⟩
      exact (((((((hbel.setCell (by simp; omega) _).setCell (by simp; omega) _).setCell (by simp; omega) _).setCell (by simp; omega) _).setCell (by simp; omega) _).setCell (by simp; omega) _).setCell (by simp; omega) _).setCell (by simp; omega) _
end Go.Proofs.YtobgimpkkjaolaaGreatDoor
/- A row of words modulo p, and a double row modulo p: as the program's calls answer them, in any world. -/
namespace Go.Proofs.YtobgimpkkjaolaaGreatDoor
open Go.RowKit
theorem heap2_0 (w : World) (a b : Obj) : ((w.alloc a).alloc b).heap[w.heap.size]? = some a := by
  rw [Below.heap_alloc _ _ _ (by simp), heap_alloc_last]
theorem heap2_1 (w : World) (a b : Obj) : ((w.alloc a).alloc b).heap[w.heap.size + 1]? = some b := by
  have h := heap_alloc_last (w.alloc a) b
  simpa using h
theorem below2 (w : World) (a b : Obj) : Below w.heap.size w ((w.alloc a).alloc b) :=
  ((Below.refl _ _).alloc (Nat.le_refl _) _).alloc (by simp) _
theorem set4_row {w : World} {g : Nat} {x0 x1 x2 x3 v0 v1 v2 v3 : Value} {t : TypeId} (h : w.heap[g]? = some (.cells #[x0, x1, x2, x3] t (0, 0))) :
    ((((w.setCell ⟨g, 0, none⟩ v0).setCell ⟨g, 1, none⟩ v1).setCell ⟨g, 2, none⟩ v2).setCell ⟨g, 3, none⟩ v3).heap[g]? = some (.cells #[v0, v1, v2, v3] t (0, 0)) := by
  have h1 := heap_setCell_same w g 0 _ t v0 h
  have h2 := heap_setCell_same _ g 1 _ t v1 h1
  have h3 := heap_setCell_same _ g 2 _ t v2 h2
  exact heap_setCell_same _ g 3 _ t v3 h3
theorem set4_other {w : World} {g k : Nat} (v0 v1 v2 v3 : Value) (h : k ≠ g) :
    ((((w.setCell ⟨g, 0, none⟩ v0).setCell ⟨g, 1, none⟩ v1).setCell ⟨g, 2, none⟩ v2).setCell ⟨g, 3, none⟩ v3).heap[k]? = w.heap[k]? := by
  rw [heap_setCell_other _ _ _ _ (by simpa using h), heap_setCell_other _ _ _ _ (by simpa using h), heap_setCell_other _ _ _ _ (by simpa using h), heap_setCell_other _ _ _ _ (by simpa using h)]
theorem Below.set4 {B : Nat} {a w : World} (h : Below B a w) {g : Nat} (hg : B ≤ g) (v0 v1 v2 v3 : Value) :
    Below B a ((((w.setCell ⟨g, 0, none⟩ v0).setCell ⟨g, 1, none⟩ v1).setCell ⟨g, 2, none⟩ v2).setCell ⟨g, 3, none⟩ v3) :=
  (((h.setCell hg _).setCell hg _).setCell hg _).setCell hg _
theorem Below.heap {B : Nat} {W w1 : World} (h : Below B W w1) {g : Nat} {o : Obj} (hg : g < B) (hr : W.heap[g]? = some o) : w1.heap[g]? = some o := (h.block g hg).trans hr
theorem row_reads {w : World} {g : Nat} {cs : Array Value} {t : TypeId} (h : w.heap[g]? = some (.cells cs t (0, 0))) : (∀ i, w.cell? ⟨g, i, none⟩ = cs[i]?) ∧ (∀ i, w.frozen? ⟨g, i, none⟩ = false) :=
  ⟨fun _ => cell_of_row _ _ _ _ _ _ h, fun _ => frozen_of_row _ _ _ _ _ h⟩
theorem reduce_low {V h w1 : Nat} (hV : V = w1 + 57896044618658097711785492504343953926634992332820282019728792003956564819949 * h) (hw : w1 < 57896044618658097711785492504343953926634992332820282019728792003956564819949) : w1 = V % 57896044618658097711785492504343953926634992332820282019728792003956564819949 := by
  rw [hV, Nat.add_mul_mod_self_left, Nat.mod_eq_of_lt hw]
theorem add_four (a b c d a' b' c' d' : Nat) (h : a < 18446744073709551616 ∧ b < 18446744073709551616 ∧ c < 18446744073709551616 ∧ d < 18446744073709551616) (h' : a' < 18446744073709551616 ∧ b' < 18446744073709551616 ∧ c' < 18446744073709551616 ∧ d' < 18446744073709551616) (w : World) :
    Calls Tryz.prog 110 #[.agg #[.int .u64 (a : Int), .int .u64 (b : Int), .int .u64 (c : Int), .int .u64 (d : Int)], .agg #[.int .u64 (a' : Int), .int .u64 (b' : Int), .int .u64 (c' : Int), .int .u64 (d' : Int)]] w fun e w' =>
      ∃ r s t u k : Nat, e = .returned (.tuple #[.agg #[.int .u64 (r : Int), .int .u64 (s : Int), .int .u64 (t : Int), .int .u64 (u : Int)], .int .u64 (k : Int)]) ∧ (r < 18446744073709551616 ∧ s < 18446744073709551616 ∧ t < 18446744073709551616 ∧ u < 18446744073709551616) ∧
        val [r, s, t, u] + k * 115792089237316195423570985008687907853269984665640564039457584007913129639936 = val [a, b, c, d] + val [a', b', c', d'] ∧ Below w.heap.size w w' := by
  refine (add_list [a, b, c, d] [a', b', c', d'] rfl rfl (lim4_mk h) (lim4_mk h') w).mono ?_
  rintro e w' ⟨l, k, rfl, hl, hlim, hv, hb⟩
  obtain ⟨r, s, t, u, rfl⟩ := four hl
  exact ⟨r, s, t, u, k, rfl, lim4 hlim, hv, hb⟩
set_option maxRecDepth 100000 in
set_option maxHeartbeats 2000000 in
theorem reduce_list (l : List Nat) (hl : l.length = 4) (hlim : lim l) (w : World) :
    Calls Tryz.prog 96 #[.agg (na l)] w fun e w' => ∃ (r : List Nat), e = .returned (.agg (na r)) ∧ r.length = 4 ∧ lim r ∧ val r = val l % 57896044618658097711785492504343953926634992332820282019728792003956564819949 ∧ Below w.heap.size w w' := by
  obtain ⟨a, b, c, d, rfl⟩ := four hl
  obtain ⟨ha, hb, hc, hd⟩ := lim4 hlim
  rw [val4, na4]
  clear hlim hl
  obtain ⟨h, hh⟩ : ∃ h, d / 9223372036854775808 = h := ⟨_, rfl⟩
  obtain ⟨m, hm⟩ : ∃ m, d % 9223372036854775808 = m := ⟨_, rfl⟩
  obtain ⟨g, hg⟩ : ∃ g, 19 * h = g := ⟨_, rfl⟩
  have e1 : (d : Int) / 9223372036854775808 = (h : Int) := by omega
  have e2 : (d : Int) % 9223372036854775808 = (m : Int) := by omega
  have e3 : IntKind.u64.wrap (19 * (h : Int)) = (g : Int) := by rw [IntKind.wrap_u64]; omega
  have HH := hide hh
  have HM := hide hm
  have HG := hide hg
  clear hh hm hg
  go_enter Tryz.func96, Tryz.ntmps96
  go_wp2_with fail
  refine (add_four a b c m g 0 0 0 ⟨ha, hb, hc, by have := HM.out; omega⟩ ⟨by have := HG.out; have := HH.out; omega, by decide, by decide, by decide⟩ _).mono ?_
  rintro e w1 ⟨r, s, t, u, k, rfl, ⟨hr, hs, ht, hu⟩, hv1, hb1⟩
  have HB1 := hide ((below2 _ _ _).trans (hb1.mono (by simp; omega)))
  have HA1 := hide (Below.heap hb1 (g := w.heap.size) (by simp; omega) (heap2_0 _ _ _))
  have HO1 := hide (Below.heap hb1 (g := w.heap.size + 1) (by simp) (heap2_1 _ _ _))
  have hz1 : w.heap.size + 1 < w1.heap.size := by have := hb1.size; simp at this; omega
  obtain ⟨x1, y1⟩ := row_reads HA1.out
  have HV1 := hide hv1
  clear hv1 hb1
  go_wp2_with fail
  clear x1 y1
  refine (add_four r s t u 19 0 0 0 ⟨hr, hs, ht, hu⟩ (by decide) _).mono ?_
  rintro e w2 ⟨r', s', t', u', k', rfl, ⟨hr', hs', ht', hu'⟩, hv2, hb2⟩
  simp only [World.size_setCell] at hb2
  have HA2 := hide (Below.heap hb2 (g := w.heap.size) (by omega) (set4_row HA1.out))
  have HO2 := hide (Below.heap hb2 (g := w.heap.size + 1) hz1 ((set4_other _ _ _ _ (by simp)).trans HO1.out))
  have hz2 : w.heap.size + 1 < w2.heap.size := by have := hb2.size; simp at this; omega
  have HB2 := hide ((Below.set4 HB1.out (Nat.le_refl _) _ _ _ _).trans (hb2.mono (by omega)))
  obtain ⟨x1, y1⟩ := row_reads HA2.out
  obtain ⟨x2, y2⟩ := row_reads HO2.out
  have HV2 := hide hv2
  clear hv2 hb2 HA1 HO1
  have HL : Hid _ := And.intro HH.out (And.intro HM.out (And.intro HG.out (And.intro HV1.out HV2.out)))
  clear HH HM HG HV1 HV2 e1 e2 e3
  have hz3 : w.heap.size < w2.heap.size := by omega
  by_cases hlt : u' < 9223372036854775808
  · have hdec : decide ((u' : Int) < 9223372036854775808) = true := decide_eq_true (by omega)
    have HLT := hide hlt
    clear hlt
    go_wp2
    refine bodyPost_ret_by (results_cell_row rfl _ _ (w.heap.size + 1) 45 _ (0, 0) (.array 4 27) rfl (by rw [Below.heap_alloc _ _ _ (by simpa using hz2)]; exact set4_row HO2.out) und26 rfl (by kernel_rfl)) rfl ⟨[r, s, t, u], rfl, rfl, lim4_mk ⟨hr, hs, ht, hu⟩, ?_, ?_⟩
    · obtain ⟨l1, l2, l3, l4, l5⟩ := HL.out
      have := HLT.out
      simp only [val4] at l4 l5 ⊢
      have hh1 : h ≤ 1 := by omega
      have hk0 : k = 0 := by omega
      subst hk0
      have hk1 : k' = 0 := by omega
      subst hk1
      exact reduce_low (h := h) (by omega) (by omega)
    · exact (Below.set4 HB2.out (g := w.heap.size + 1) (by omega) _ _ _ _).alloc (by simp; omega) _
  · have hdec : decide ((u' : Int) < 9223372036854775808) = false := decide_eq_false (by omega)
    obtain ⟨v, hv⟩ : ∃ v, u' = v + 9223372036854775808 := ⟨u' - 9223372036854775808, by omega⟩
    have e4 : IntKind.u64.wrap ((u' : Int) - 9223372036854775808) = (v : Int) := by rw [IntKind.wrap_u64]; omega
    have HVV := hide hv
    clear hlt hv
    go_wp2
    refine bodyPost_ret_by (results_cell_row rfl _ _ (w.heap.size + 1) 45 _ (0, 0) (.array 4 27) rfl (by rw [Below.heap_alloc _ _ _ (by simpa using hz2)]; exact set4_row HO2.out) und26 rfl (by kernel_rfl)) rfl ⟨[r', s', t', v], rfl, rfl, lim4_mk ⟨hr', hs', ht', by have := HVV.out; omega⟩, ?_, ?_⟩
    · obtain ⟨l1, l2, l3, l4, l5⟩ := HL.out
      have := HVV.out
      simp only [val4] at l4 l5 ⊢
      have hh1 : h ≤ 1 := by omega
      have hk0 : k = 0 := by omega
      subst hk0
      have hk1 : k' = 0 := by omega
      subst hk1
      exact reduce_low (h := h + 1) (by omega) (by omega)
    · exact (Below.set4 HB2.out (g := w.heap.size + 1) (by omega) _ _ _ _).alloc (by simp; omega) _
theorem reduce_four (a b c d : Nat) (h : a < 18446744073709551616 ∧ b < 18446744073709551616 ∧ c < 18446744073709551616 ∧ d < 18446744073709551616) (w : World) :
    Calls Tryz.prog 96 #[.agg #[.int .u64 (a : Int), .int .u64 (b : Int), .int .u64 (c : Int), .int .u64 (d : Int)]] w fun e w' =>
      ∃ r s t u : Nat, e = .returned (.agg #[.int .u64 (r : Int), .int .u64 (s : Int), .int .u64 (t : Int), .int .u64 (u : Int)]) ∧ (r < 18446744073709551616 ∧ s < 18446744073709551616 ∧ t < 18446744073709551616 ∧ u < 18446744073709551616) ∧
        val [r, s, t, u] = val [a, b, c, d] % 57896044618658097711785492504343953926634992332820282019728792003956564819949 ∧ Below w.heap.size w w' := by
  refine (reduce_list [a, b, c, d] rfl (lim4_mk h) w).mono ?_
  rintro e w' ⟨l, rfl, hl, hlim, hv, hb⟩
  obtain ⟨r, s, t, u, rfl⟩ := four hl
  exact ⟨r, s, t, u, rfl, lim4 hlim, hv, hb⟩
end Go.Proofs.YtobgimpkkjaolaaGreatDoor
/- A double row of words modulo p, as the program's call answers it, in any world. -/
namespace Go.Proofs.YtobgimpkkjaolaaGreatDoor
open Go.RowKit
theorem scale_four (a b c d y : Nat) (h : a < 18446744073709551616 ∧ b < 18446744073709551616 ∧ c < 18446744073709551616 ∧ d < 18446744073709551616) (hy : y < 18446744073709551616) (w : World) :
    Calls Tryz.prog 115 #[.agg #[.int .u64 (a : Int), .int .u64 (b : Int), .int .u64 (c : Int), .int .u64 (d : Int)], .int .u64 (y : Int)] w fun e w' =>
      ∃ r s t u k : Nat, e = .returned (.tuple #[.int .u64 (k : Int), .agg #[.int .u64 (r : Int), .int .u64 (s : Int), .int .u64 (t : Int), .int .u64 (u : Int)]]) ∧ (r < 18446744073709551616 ∧ s < 18446744073709551616 ∧ t < 18446744073709551616 ∧ u < 18446744073709551616) ∧
        val [r, s, t, u] + k * 115792089237316195423570985008687907853269984665640564039457584007913129639936 = y * val [a, b, c, d] ∧ Below w.heap.size w w' := by
  refine (scale_list [a, b, c, d] y rfl (lim4_mk h) hy w).mono ?_
  rintro e w' ⟨l, k, rfl, hl, hlim, _, hv, hb⟩
  obtain ⟨r, s, t, u, rfl⟩ := four hl
  exact ⟨r, s, t, u, k, rfl, lim4 hlim, hv, hb⟩
theorem heap4_0 (W : World) (a b : Obj) (g : Nat) (o : Obj) (h : W.heap[g]? = some o) (hg : g < W.heap.size) : ((W.alloc a).alloc b).drew.heap[g]? = some o := by
  show ((W.alloc a).alloc b).heap[g]? = some o
  rw [Below.heap_alloc _ _ _ (by simp; omega), Below.heap_alloc _ _ _ hg]; exact h
set_option maxRecDepth 100000 in
set_option maxHeartbeats 2000000 in
theorem fold_list (l : List Nat) (hl : l.length = 8) (hlim : lim l) (w : World) :
    Calls Tryz.prog 106 #[.agg (na l)] w fun e w' => ∃ (r : List Nat), e = .returned (.agg (na r)) ∧ r.length = 4 ∧ lim r ∧ val r = val l % 57896044618658097711785492504343953926634992332820282019728792003956564819949 ∧ Below w.heap.size w w' := by
  obtain ⟨a, b, c, d, a', b', c', d', rfl⟩ := eight hl
  have h0 := hlim 0
  have h1 := hlim 1
  have h2 := hlim 2
  have h3 := hlim 3
  have h4 := hlim 4
  have h5 := hlim 5
  have h6 := hlim 6
  have h7 := hlim 7
  simp only [List.getD_cons_zero, List.getD_cons_succ] at h0 h1 h2 h3 h4 h5 h6 h7
  rw [na8]
  clear hl hlim
  go_enter Tryz.func106, Tryz.ntmps106
  go_wp2
  have hA := heap2_0 w (.cells #[.int .u64 (a : Int), .int .u64 (b : Int), .int .u64 (c : Int), .int .u64 (d : Int), .int .u64 (a' : Int), .int .u64 (b' : Int), .int .u64 (c' : Int), .int .u64 (d' : Int)] 66) (.cells #[.int .u64 0, .int .u64 0, .int .u64 0, .int .u64 0] 45)
  have hO := heap2_1 w (.cells #[.int .u64 (a : Int), .int .u64 (b : Int), .int .u64 (c : Int), .int .u64 (d : Int), .int .u64 (a' : Int), .int .u64 (b' : Int), .int .u64 (c' : Int), .int .u64 (d' : Int)] 66) (.cells #[.int .u64 0, .int .u64 0, .int .u64 0, .int .u64 0] 45)
  have hB := below2 w (.cells #[.int .u64 (a : Int), .int .u64 (b : Int), .int .u64 (c : Int), .int .u64 (d : Int), .int .u64 (a' : Int), .int .u64 (b' : Int), .int .u64 (c' : Int), .int .u64 (d' : Int)] 66) (.cells #[.int .u64 0, .int .u64 0, .int .u64 0, .int .u64 0] 45)
  have hS : ((w.alloc (.cells #[.int .u64 (a : Int), .int .u64 (b : Int), .int .u64 (c : Int), .int .u64 (d : Int), .int .u64 (a' : Int), .int .u64 (b' : Int), .int .u64 (c' : Int), .int .u64 (d' : Int)] 66)).alloc (.cells #[.int .u64 0, .int .u64 0, .int .u64 0, .int .u64 0] 45)).heap.size = w.heap.size + 1 + 1 := by simp
  generalize (w.alloc (.cells #[.int .u64 (a : Int), .int .u64 (b : Int), .int .u64 (c : Int), .int .u64 (d : Int), .int .u64 (a' : Int), .int .u64 (b' : Int), .int .u64 (c' : Int), .int .u64 (d' : Int)] 66)).alloc (.cells #[.int .u64 0, .int .u64 0, .int .u64 0, .int .u64 0] 45) = W at *
  have k0 : W.cell? ⟨w.heap.size, 0, none⟩ = some (.int .u64 (a : Int)) := by rw [cell_of_row _ _ _ _ _ _ hA]; rfl
  have k1 : W.cell? ⟨w.heap.size, 1, none⟩ = some (.int .u64 (b : Int)) := by rw [cell_of_row _ _ _ _ _ _ hA]; rfl
  have k2 : W.cell? ⟨w.heap.size, 2, none⟩ = some (.int .u64 (c : Int)) := by rw [cell_of_row _ _ _ _ _ _ hA]; rfl
  have k3 : W.cell? ⟨w.heap.size, 3, none⟩ = some (.int .u64 (d : Int)) := by rw [cell_of_row _ _ _ _ _ _ hA]; rfl
  have k4 : W.cell? ⟨w.heap.size, 4, none⟩ = some (.int .u64 (a' : Int)) := by rw [cell_of_row _ _ _ _ _ _ hA]; rfl
  have k5 : W.cell? ⟨w.heap.size, 5, none⟩ = some (.int .u64 (b' : Int)) := by rw [cell_of_row _ _ _ _ _ _ hA]; rfl
  have k6 : W.cell? ⟨w.heap.size, 6, none⟩ = some (.int .u64 (c' : Int)) := by rw [cell_of_row _ _ _ _ _ _ hA]; rfl
  have k7 : W.cell? ⟨w.heap.size, 7, none⟩ = some (.int .u64 (d' : Int)) := by rw [cell_of_row _ _ _ _ _ _ hA]; rfl
  have HA := hide hA
  have HO := hide hO
  have HB := hide hB
  clear hA hO hB
  have n0 := World.new_ne W _ k0
  have n1 := World.new_ne W _ k1
  have n2 := World.new_ne W _ k2
  have n3 := World.new_ne W _ k3
  have n4 := World.new_ne W _ k4
  have n5 := World.new_ne W _ k5
  have n6 := World.new_ne W _ k6
  have n7 := World.new_ne W _ k7
  go_region_held3 (fun w' => w'.cell? ⟨w.heap.size, 0, none⟩ = some (.int .u64 (a : Int)) ∧ w'.cell? ⟨w.heap.size, 1, none⟩ = some (.int .u64 (b : Int)) ∧ w'.cell? ⟨w.heap.size, 2, none⟩ = some (.int .u64 (c : Int)) ∧ w'.cell? ⟨w.heap.size, 3, none⟩ = some (.int .u64 (d : Int)) ∧ w'.cell? ⟨w.heap.size, 4, none⟩ = some (.int .u64 (a' : Int)) ∧ w'.cell? ⟨w.heap.size, 5, none⟩ = some (.int .u64 (b' : Int)) ∧ w'.cell? ⟨w.heap.size, 6, none⟩ = some (.int .u64 (c' : Int)) ∧ w'.cell? ⟨w.heap.size, 7, none⟩ = some (.int .u64 (d' : Int))) (go_keep) (fail)
  · have HLo := hide (show ((W.alloc (.cells #[.int .u64 (a : Int), .int .u64 (b : Int), .int .u64 (c : Int), .int .u64 (d : Int)] 45)).alloc (.cells #[.int .u64 (a' : Int), .int .u64 (b' : Int), .int .u64 (c' : Int), .int .u64 (d' : Int)] 45)).drew.heap[(w.heap.size + 1 + 1)]? = some (.cells #[.int .u64 (a : Int), .int .u64 (b : Int), .int .u64 (c : Int), .int .u64 (d : Int)] 45 (0,0)) from by show ((W.alloc _).alloc _).heap[_]? = _; rw [← hS]; exact heap2_0 _ _ _)
    have HHi := hide (show ((W.alloc (.cells #[.int .u64 (a : Int), .int .u64 (b : Int), .int .u64 (c : Int), .int .u64 (d : Int)] 45)).alloc (.cells #[.int .u64 (a' : Int), .int .u64 (b' : Int), .int .u64 (c' : Int), .int .u64 (d' : Int)] 45)).drew.heap[(w.heap.size + 1 + 1 + 1)]? = some (.cells #[.int .u64 (a' : Int), .int .u64 (b' : Int), .int .u64 (c' : Int), .int .u64 (d' : Int)] 45 (0,0)) from by show ((W.alloc _).alloc _).heap[_]? = _; rw [← hS]; exact heap2_1 _ _ _)
    have HO2 := hide (heap4_0 W (.cells #[.int .u64 (a : Int), .int .u64 (b : Int), .int .u64 (c : Int), .int .u64 (d : Int)] 45) (.cells #[.int .u64 (a' : Int), .int .u64 (b' : Int), .int .u64 (c' : Int), .int .u64 (d' : Int)] 45) _ _ HO.out (by omega))
    have HB2 := hide (((HB.out.alloc (by omega) (.cells #[.int .u64 (a : Int), .int .u64 (b : Int), .int .u64 (c : Int), .int .u64 (d : Int)] 45)).alloc (by simp; omega) (.cells #[.int .u64 (a' : Int), .int .u64 (b' : Int), .int .u64 (c' : Int), .int .u64 (d' : Int)] 45)).drew)
    have hS2 : ((W.alloc (.cells #[.int .u64 (a : Int), .int .u64 (b : Int), .int .u64 (c : Int), .int .u64 (d : Int)] 45)).alloc (.cells #[.int .u64 (a' : Int), .int .u64 (b' : Int), .int .u64 (c' : Int), .int .u64 (d' : Int)] 45)).drew.heap.size = w.heap.size + 1 + 1 + 1 + 1 := by show ((W.alloc _).alloc _).heap.size = _; simp; omega
    clear k0 k1 k2 k3 k4 k5 k6 k7 n0 n1 n2 n3 n4 n5 n6 n7
    rename_i hHeld
    clear hHeld
    generalize ((W.alloc (.cells #[.int .u64 (a : Int), .int .u64 (b : Int), .int .u64 (c : Int), .int .u64 (d : Int)] 45)).alloc (.cells #[.int .u64 (a' : Int), .int .u64 (b' : Int), .int .u64 (c' : Int), .int .u64 (d' : Int)] 45)).drew = W2 at *
    obtain ⟨x1, y1⟩ := row_reads HHi.out
    clear hS HA HO HB
    go_wp2_with fail
    clear x1 y1
    refine (scale_four a' b' c' d' 38 ⟨h4, h5, h6, h7⟩ (by decide) _).mono ?_
    rintro e w3 ⟨r, s, t, u, k, rfl, ⟨hr, hs, ht, hu⟩, hv3, hb3⟩
    have HLo3 := hide (Below.heap hb3 (by omega) HLo.out)
    have HO3 := hide (Below.heap hb3 (by omega) HO2.out)
    have HB3 := hide (HB2.out.trans (hb3.mono (by omega)))
    have hz3 : w.heap.size + 1 + 1 + 1 < w3.heap.size := by have := hb3.size; omega
    have hz3' : w.heap.size + 1 + 1 < w3.heap.size := by omega
    have HV3 := hide hv3
    obtain ⟨x1, y1⟩ := row_reads HLo3.out
    clear hv3 hb3 hS2 HLo HHi HO2 HB2
    go_wp2_with fail
    clear x1 y1
    refine (add_four a b c d r s t u ⟨h0, h1, h2, h3⟩ ⟨hr, hs, ht, hu⟩ _).mono ?_
    rintro e w4 ⟨r', s', t', u', k', rfl, ⟨hr', hs', ht', hu'⟩, hv4, hb4⟩
    have HO4 := hide (Below.heap hb4 (g := w.heap.size + 1) (by simp; omega) ((Below.heap_alloc _ _ _ (by omega)).trans HO3.out))
    have HB4 := hide ((HB3.out.alloc (by omega) _).trans (hb4.mono (by simp; omega)))
    have hz4 : w.heap.size + 1 < w4.heap.size := by have := hb4.size; simp at this; omega
    obtain ⟨A, hA⟩ : ∃ A, k + k' = A := ⟨_, rfl⟩
    have hv3 := HV3.out
    simp only [val4] at hv3 hv4
    have hk : k ≤ 37 := by omega
    have hk' : k' ≤ 1 := by omega
    have eA : IntKind.u64.wrap ((k : Int) + (k' : Int)) = (A : Int) := by rw [IntKind.wrap_u64]; omega
    have HV4 : Hid (val [a, b, c, d, a', b', c', d'] = val [r', s', t', u'] + A * 115792089237316195423570985008687907853269984665640564039457584007913129639936 + 57896044618658097711785492504343953926634992332820282019728792003956564819949 * (2 * val [a', b', c', d']) ∧ A ≤ 38) := by
      show _ ∧ _
      rw [val8]; simp only [val4]; omega
    have hz3a : w.heap.size + 1 + 1 + 1 + 1 ≤ w4.heap.size := by have := hb4.size; simp at this; omega
    clear hv3 hv4 hb4 HV3 hA hk hk' HLo3 HO3 HB3 hz3 hz3'
    go_wp2
    go_loopg [5] 2 (fun gk ab wr => ∃ (A x0 x1 x2 x3 cc : Nat), ab = .int .u64 (A : Int) ∧ A ≤ 38 ∧ (x0 < 18446744073709551616 ∧ x1 < 18446744073709551616 ∧ x2 < 18446744073709551616 ∧ x3 < 18446744073709551616) ∧ val [a, b, c, d, a', b', c', d'] = val [x0, x1, x2, x3] + A * 115792089237316195423570985008687907853269984665640564039457584007913129639936 + 57896044618658097711785492504343953926634992332820282019728792003956564819949 * cc ∧ (gk = 0 → A = 0) ∧ (gk = 1 → A = 0 ∨ val [x0, x1, x2, x3] < 4096) ∧ wr.heap[w4.heap.size]? = some (.cells #[.int .u64 (x0 : Int), .int .u64 (x1 : Int), .int .u64 (x2 : Int), .int .u64 (x3 : Int)] 45 (0,0)) ∧ wr.heap[w.heap.size + 1]? = some (.cells #[.int .u64 0, .int .u64 0, .int .u64 0, .int .u64 0] 45 (0,0)) ∧ w4.heap.size < wr.heap.size ∧ Below w.heap.size w wr)
    case atStart =>
      refine ⟨A, r', s', t', u', _, rfl, HV4.out.2, ⟨hr', hs', ht', hu'⟩, HV4.out.1, by omega, by omega, ?_, ?_, by simp, HB4.out.alloc (by omega) _⟩
      · exact heap_alloc_last _ _
      · rw [Below.heap_alloc _ _ _ (by omega)]; exact HO4.out
    case round =>
      clear HV4 HO4 HB4 eA hr hs ht hu hr' hs' ht' hu'
      obtain ⟨A1, x0, x1, x2, x3, cc, rfl, hA1, hx, hval, hg0, hg1, hrow, ho, hlt, hbe⟩ := hrel
      have HR := hide hrow
      have HO := hide ho
      have HB := hide hbe
      have HV := hide hval
      have HG := hide (And.intro hg0 hg1)
      obtain ⟨z1, z2⟩ := row_reads hrow
      obtain ⟨z3, z4⟩ := row_reads ho
      clear hrow ho hbe hval hg0 hg1
      by_cases hA0 : A1 = 0
      · subst hA0
        go_wp2_with fail
        clear z1 z2 z3 z4
        refine (reduce_four x0 x1 x2 x3 hx _).mono ?_
        rintro e w5 ⟨q0, q1, q2, q3, rfl, hq, hv5, hb5⟩
        have HO5 := hide (Below.heap hb5 (by omega) HO.out)
        have HB5 := hide (HB.out.trans (hb5.mono (by omega)))
        have HV5 := hide hv5
        obtain ⟨z1, z2⟩ := row_reads HO5.out
        clear hv5 hb5
        go_wp2
        refine bodyPost_ret_by (results_cell_row rfl _ _ (w.heap.size + 1) 45 _ (0, 0) (.array 4 27) rfl (set4_row HO5.out) und26 rfl (by kernel_rfl)) rfl ⟨[q0, q1, q2, q3], rfl, rfl, lim4_mk hq, ?_, ?_⟩
        · rw [HV5.out, HV.out, Nat.zero_mul, Nat.add_zero, Nat.add_mul_mod_self_left]
        · exact Below.set4 HB5.out (g := w.heap.size + 1) (by omega) _ _ _ _
      · obtain ⟨m, hm⟩ : ∃ m, 38 * A1 = m := ⟨_, rfl⟩
        have em : IntKind.u64.wrap (38 * (A1 : Int)) = (m : Int) := by rw [IntKind.wrap_u64]; omega
        have hne : ¬ (A1 : Int) = 0 := by omega
        have HM := hide hm
        clear hm
        go_wp2_with fail
        clear z1 z3 z4
        refine (add_four x0 x1 x2 x3 m 0 0 0 hx ⟨by have := HM.out; omega, by decide, by decide, by decide⟩ _).mono ?_
        rintro e w5 ⟨q0, q1, q2, q3, kk, rfl, hq, hv5, hb5⟩
        have HR5 := hide (Below.heap hb5 hlt HR.out)
        have HO5 := hide (Below.heap hb5 (by omega) HO.out)
        have HB5 := hide (HB.out.trans (hb5.mono (by omega)))
        have hz5 : w4.heap.size < w5.heap.size := by have := hb5.size; omega
        have HV5 := hide hv5
        obtain ⟨z1, z2⟩ := row_reads HR5.out
        clear hv5 hb5 em
        go_wp2
        have hgs : gk ≠ 0 := fun h => hA0 (HG.out.1 h)
        have hv := HV5.out
        have hvv := HV.out
        have hm := HM.out
        rw [val8] at hvv
        simp only [val4] at hv hvv
        have hg1 := HG.out.2
        simp only [val4] at hg1
        have hkk : kk ≤ 1 := by omega
        go_roundg (if gk = 1 then 0 else 1)
        case measure => split <;> omega
        case rel =>
          refine ⟨kk, q0, q1, q2, q3, cc + 2 * A1, rfl, by omega, hq, by rw [val8]; simp only [val4]; omega, ?_, ?_, set4_row HR5.out, ?_, by simpa using hz5, Below.set4 HB5.out (by omega) _ _ _ _⟩
          · intro h0
            have : gk = 1 := by split at h0 <;> omega
            rcases hg1 this with h | h <;> omega
          · intro _
            simp only [val4]
            omega
          · rw [set4_other _ _ _ _ (by omega)]; exact HO5.out
  · have HLo := hide (show ((W.alloc (.cells #[.int .u64 (a' : Int), .int .u64 (b' : Int), .int .u64 (c' : Int), .int .u64 (d' : Int)] 45)).alloc (.cells #[.int .u64 (a : Int), .int .u64 (b : Int), .int .u64 (c : Int), .int .u64 (d : Int)] 45)).drew.heap[(w.heap.size + 1 + 1 + 1)]? = some (.cells #[.int .u64 (a : Int), .int .u64 (b : Int), .int .u64 (c : Int), .int .u64 (d : Int)] 45 (0,0)) from by show ((W.alloc _).alloc _).heap[_]? = _; rw [← hS]; exact heap2_1 _ _ _)
    have HHi := hide (show ((W.alloc (.cells #[.int .u64 (a' : Int), .int .u64 (b' : Int), .int .u64 (c' : Int), .int .u64 (d' : Int)] 45)).alloc (.cells #[.int .u64 (a : Int), .int .u64 (b : Int), .int .u64 (c : Int), .int .u64 (d : Int)] 45)).drew.heap[(w.heap.size + 1 + 1)]? = some (.cells #[.int .u64 (a' : Int), .int .u64 (b' : Int), .int .u64 (c' : Int), .int .u64 (d' : Int)] 45 (0,0)) from by show ((W.alloc _).alloc _).heap[_]? = _; rw [← hS]; exact heap2_0 _ _ _)
    have HO2 := hide (heap4_0 W (.cells #[.int .u64 (a' : Int), .int .u64 (b' : Int), .int .u64 (c' : Int), .int .u64 (d' : Int)] 45) (.cells #[.int .u64 (a : Int), .int .u64 (b : Int), .int .u64 (c : Int), .int .u64 (d : Int)] 45) _ _ HO.out (by omega))
    have HB2 := hide (((HB.out.alloc (by omega) (.cells #[.int .u64 (a' : Int), .int .u64 (b' : Int), .int .u64 (c' : Int), .int .u64 (d' : Int)] 45)).alloc (by simp; omega) (.cells #[.int .u64 (a : Int), .int .u64 (b : Int), .int .u64 (c : Int), .int .u64 (d : Int)] 45)).drew)
    have hS2 : ((W.alloc (.cells #[.int .u64 (a' : Int), .int .u64 (b' : Int), .int .u64 (c' : Int), .int .u64 (d' : Int)] 45)).alloc (.cells #[.int .u64 (a : Int), .int .u64 (b : Int), .int .u64 (c : Int), .int .u64 (d : Int)] 45)).drew.heap.size = w.heap.size + 1 + 1 + 1 + 1 := by show ((W.alloc _).alloc _).heap.size = _; simp; omega
    clear k0 k1 k2 k3 k4 k5 k6 k7 n0 n1 n2 n3 n4 n5 n6 n7
    rename_i hHeld
    clear hHeld
    generalize ((W.alloc (.cells #[.int .u64 (a' : Int), .int .u64 (b' : Int), .int .u64 (c' : Int), .int .u64 (d' : Int)] 45)).alloc (.cells #[.int .u64 (a : Int), .int .u64 (b : Int), .int .u64 (c : Int), .int .u64 (d : Int)] 45)).drew = W2 at *
    obtain ⟨x1, y1⟩ := row_reads HHi.out
    clear hS HA HO HB
    go_wp2_with fail
    clear x1 y1
    refine (scale_four a' b' c' d' 38 ⟨h4, h5, h6, h7⟩ (by decide) _).mono ?_
    rintro e w3 ⟨r, s, t, u, k, rfl, ⟨hr, hs, ht, hu⟩, hv3, hb3⟩
    have HLo3 := hide (Below.heap hb3 (by omega) HLo.out)
    have HO3 := hide (Below.heap hb3 (by omega) HO2.out)
    have HB3 := hide (HB2.out.trans (hb3.mono (by omega)))
    have hz3 : w.heap.size + 1 + 1 + 1 < w3.heap.size := by have := hb3.size; omega
    have hz3' : w.heap.size + 1 + 1 < w3.heap.size := by omega
    have HV3 := hide hv3
    obtain ⟨x1, y1⟩ := row_reads HLo3.out
    clear hv3 hb3 hS2 HLo HHi HO2 HB2
    go_wp2_with fail
    clear x1 y1
    refine (add_four a b c d r s t u ⟨h0, h1, h2, h3⟩ ⟨hr, hs, ht, hu⟩ _).mono ?_
    rintro e w4 ⟨r', s', t', u', k', rfl, ⟨hr', hs', ht', hu'⟩, hv4, hb4⟩
    have HO4 := hide (Below.heap hb4 (g := w.heap.size + 1) (by simp; omega) ((Below.heap_alloc _ _ _ (by omega)).trans HO3.out))
    have HB4 := hide ((HB3.out.alloc (by omega) _).trans (hb4.mono (by simp; omega)))
    have hz4 : w.heap.size + 1 < w4.heap.size := by have := hb4.size; simp at this; omega
    obtain ⟨A, hA⟩ : ∃ A, k + k' = A := ⟨_, rfl⟩
    have hv3 := HV3.out
    simp only [val4] at hv3 hv4
    have hk : k ≤ 37 := by omega
    have hk' : k' ≤ 1 := by omega
    have eA : IntKind.u64.wrap ((k : Int) + (k' : Int)) = (A : Int) := by rw [IntKind.wrap_u64]; omega
    have HV4 : Hid (val [a, b, c, d, a', b', c', d'] = val [r', s', t', u'] + A * 115792089237316195423570985008687907853269984665640564039457584007913129639936 + 57896044618658097711785492504343953926634992332820282019728792003956564819949 * (2 * val [a', b', c', d']) ∧ A ≤ 38) := by
      show _ ∧ _
      rw [val8]; simp only [val4]; omega
    have hz3a : w.heap.size + 1 + 1 + 1 + 1 ≤ w4.heap.size := by have := hb4.size; simp at this; omega
    clear hv3 hv4 hb4 HV3 hA hk hk' HLo3 HO3 HB3 hz3 hz3'
    go_wp2
    go_loopg [5] 2 (fun gk ab wr => ∃ (A x0 x1 x2 x3 cc : Nat), ab = .int .u64 (A : Int) ∧ A ≤ 38 ∧ (x0 < 18446744073709551616 ∧ x1 < 18446744073709551616 ∧ x2 < 18446744073709551616 ∧ x3 < 18446744073709551616) ∧ val [a, b, c, d, a', b', c', d'] = val [x0, x1, x2, x3] + A * 115792089237316195423570985008687907853269984665640564039457584007913129639936 + 57896044618658097711785492504343953926634992332820282019728792003956564819949 * cc ∧ (gk = 0 → A = 0) ∧ (gk = 1 → A = 0 ∨ val [x0, x1, x2, x3] < 4096) ∧ wr.heap[w4.heap.size]? = some (.cells #[.int .u64 (x0 : Int), .int .u64 (x1 : Int), .int .u64 (x2 : Int), .int .u64 (x3 : Int)] 45 (0,0)) ∧ wr.heap[w.heap.size + 1]? = some (.cells #[.int .u64 0, .int .u64 0, .int .u64 0, .int .u64 0] 45 (0,0)) ∧ w4.heap.size < wr.heap.size ∧ Below w.heap.size w wr)
    case atStart =>
      refine ⟨A, r', s', t', u', _, rfl, HV4.out.2, ⟨hr', hs', ht', hu'⟩, HV4.out.1, by omega, by omega, ?_, ?_, by simp, HB4.out.alloc (by omega) _⟩
      · exact heap_alloc_last _ _
      · rw [Below.heap_alloc _ _ _ (by omega)]; exact HO4.out
    case round =>
      clear HV4 HO4 HB4 eA hr hs ht hu hr' hs' ht' hu'
      obtain ⟨A1, x0, x1, x2, x3, cc, rfl, hA1, hx, hval, hg0, hg1, hrow, ho, hlt, hbe⟩ := hrel
      have HR := hide hrow
      have HO := hide ho
      have HB := hide hbe
      have HV := hide hval
      have HG := hide (And.intro hg0 hg1)
      obtain ⟨z1, z2⟩ := row_reads hrow
      obtain ⟨z3, z4⟩ := row_reads ho
      clear hrow ho hbe hval hg0 hg1
      by_cases hA0 : A1 = 0
      · subst hA0
        go_wp2_with fail
        clear z1 z2 z3 z4
        refine (reduce_four x0 x1 x2 x3 hx _).mono ?_
        rintro e w5 ⟨q0, q1, q2, q3, rfl, hq, hv5, hb5⟩
        have HO5 := hide (Below.heap hb5 (by omega) HO.out)
        have HB5 := hide (HB.out.trans (hb5.mono (by omega)))
        have HV5 := hide hv5
        obtain ⟨z1, z2⟩ := row_reads HO5.out
        clear hv5 hb5
        go_wp2
        refine bodyPost_ret_by (results_cell_row rfl _ _ (w.heap.size + 1) 45 _ (0, 0) (.array 4 27) rfl (set4_row HO5.out) und26 rfl (by kernel_rfl)) rfl ⟨[q0, q1, q2, q3], rfl, rfl, lim4_mk hq, ?_, ?_⟩
        · rw [HV5.out, HV.out, Nat.zero_mul, Nat.add_zero, Nat.add_mul_mod_self_left]
        · exact Below.set4 HB5.out (g := w.heap.size + 1) (by omega) _ _ _ _
      · obtain ⟨m, hm⟩ : ∃ m, 38 * A1 = m := ⟨_, rfl⟩
        have em : IntKind.u64.wrap (38 * (A1 : Int)) = (m : Int) := by rw [IntKind.wrap_u64]; omega
        have hne : ¬ (A1 : Int) = 0 := by omega
        have HM := hide hm
        clear hm
        go_wp2_with fail
        clear z1 z3 z4
        refine (add_four x0 x1 x2 x3 m 0 0 0 hx ⟨by have := HM.out; omega, by decide, by decide, by decide⟩ _).mono ?_
        rintro e w5 ⟨q0, q1, q2, q3, kk, rfl, hq, hv5, hb5⟩
        have HR5 := hide (Below.heap hb5 hlt HR.out)
        have HO5 := hide (Below.heap hb5 (by omega) HO.out)
        have HB5 := hide (HB.out.trans (hb5.mono (by omega)))
        have hz5 : w4.heap.size < w5.heap.size := by have := hb5.size; omega
        have HV5 := hide hv5
        obtain ⟨z1, z2⟩ := row_reads HR5.out
        clear hv5 hb5 em
        go_wp2
        have hgs : gk ≠ 0 := fun h => hA0 (HG.out.1 h)
        have hv := HV5.out
        have hvv := HV.out
        have hm := HM.out
        rw [val8] at hvv
        simp only [val4] at hv hvv
        have hg1 := HG.out.2
        simp only [val4] at hg1
        have hkk : kk ≤ 1 := by omega
        go_roundg (if gk = 1 then 0 else 1)
        case measure => split <;> omega
        case rel =>
          refine ⟨kk, q0, q1, q2, q3, cc + 2 * A1, rfl, by omega, hq, by rw [val8]; simp only [val4]; omega, ?_, ?_, set4_row HR5.out, ?_, by simpa using hz5, Below.set4 HB5.out (by omega) _ _ _ _⟩
          · intro h0
            have : gk = 1 := by split at h0 <;> omega
            rcases hg1 this with h | h <;> omega
          · intro _
            simp only [val4]
            omega
          · rw [set4_other _ _ _ _ (by omega)]; exact HO5.out
end Go.Proofs.YtobgimpkkjaolaaGreatDoor
/- The numbers modulo p: what each of the program's operations on them answers, in any world, for all numbers. -/
namespace Go.Proofs.YtobgimpkkjaolaaGreatDoor
open Go.RowKit
def el (n : Nat) : Array Value := #[.int .u64 ((n % 18446744073709551616 : Nat) : Int), .int .u64 ((n / 18446744073709551616 % 18446744073709551616 : Nat) : Int), .int .u64 ((n / 340282366920938463463374607431768211456 % 18446744073709551616 : Nat) : Int), .int .u64 ((n / 6277101735386680763835789423207666416102355444464034512896 % 18446744073709551616 : Nat) : Int)]
theorem el_open (x : Nat) (hx : x < pp) : ∃ a b c d : Nat, el x = #[.int .u64 (a : Int), .int .u64 (b : Int), .int .u64 (c : Int), .int .u64 (d : Int)] ∧ (a < 18446744073709551616 ∧ b < 18446744073709551616 ∧ c < 18446744073709551616 ∧ d < 18446744073709551616) ∧ val [a, b, c, d] = x := by
  refine ⟨_, _, _, _, rfl, ?_, ?_⟩
  · omega
  · rw [val4]; unfold pp at hx; omega
theorem el_close {a b c d x : Nat} (h : a < 18446744073709551616 ∧ b < 18446744073709551616 ∧ c < 18446744073709551616 ∧ d < 18446744073709551616) (hv : val [a, b, c, d] = x) : #[.int .u64 (a : Int), .int .u64 (b : Int), .int .u64 (c : Int), .int .u64 (d : Int)] = el x := by
  rw [val4] at hv
  have e1 : x % 18446744073709551616 = a := by omega
  have e2 : x / 18446744073709551616 % 18446744073709551616 = b := by omega
  have e3 : x / 340282366920938463463374607431768211456 % 18446744073709551616 = c := by omega
  have e4 : x / 6277101735386680763835789423207666416102355444464034512896 % 18446744073709551616 = d := by omega
  unfold el
  rw [e1, e2, e3, e4]
theorem ppv : pp = 57896044618658097711785492504343953926634992332820282019728792003956564819949 := rfl
theorem pp_pos : 0 < pp := by decide
theorem heap3_0 (w : World) (a b c : Obj) : (((w.alloc a).alloc b).alloc c).heap[w.heap.size]? = some a := by
  rw [Below.heap_alloc _ _ _ (by simp; omega)]; exact heap2_0 _ _ _
theorem fromPrime_four (a b c d : Nat) (h : a < 18446744073709551616 ∧ b < 18446744073709551616 ∧ c < 18446744073709551616 ∧ d < 18446744073709551616) (hle : val [a, b, c, d] ≤ pp) (w : World) :
    Calls Tryz.prog 97 #[.agg #[.int .u64 (a : Int), .int .u64 (b : Int), .int .u64 (c : Int), .int .u64 (d : Int)]] w fun e w' =>
      ∃ r s t u : Nat, e = .returned (.agg #[.int .u64 (r : Int), .int .u64 (s : Int), .int .u64 (t : Int), .int .u64 (u : Int)]) ∧ (r < 18446744073709551616 ∧ s < 18446744073709551616 ∧ t < 18446744073709551616 ∧ u < 18446744073709551616) ∧
        val [r, s, t, u] + val [a, b, c, d] = pp ∧ Below w.heap.size w w' := by
  refine (fromPrime_list [a, b, c, d] rfl (lim4_mk h) hle w).mono ?_
  rintro e w' ⟨l, rfl, hl, hlim, hv, hb⟩
  obtain ⟨r, s, t, u, rfl⟩ := four hl
  exact ⟨r, s, t, u, rfl, lim4 hlim, hv, hb⟩
theorem times_four (a b c d a' b' c' d' : Nat) (h : a < 18446744073709551616 ∧ b < 18446744073709551616 ∧ c < 18446744073709551616 ∧ d < 18446744073709551616) (h' : a' < 18446744073709551616 ∧ b' < 18446744073709551616 ∧ c' < 18446744073709551616 ∧ d' < 18446744073709551616) (w : World) :
    Calls Tryz.prog 107 #[.agg #[.int .u64 (a : Int), .int .u64 (b : Int), .int .u64 (c : Int), .int .u64 (d : Int)], .agg #[.int .u64 (a' : Int), .int .u64 (b' : Int), .int .u64 (c' : Int), .int .u64 (d' : Int)]] w fun e w' =>
      ∃ l : List Nat, e = .returned (.agg (na l)) ∧ l.length = 8 ∧ lim l ∧ val l = val [a, b, c, d] * val [a', b', c', d'] ∧ Below w.heap.size w w' :=
  multiply_list [a, b, c, d] [a', b', c', d'] rfl rfl (lim4_mk h) (lim4_mk h') w
theorem fold_four (l : List Nat) (hl : l.length = 8) (hlim : lim l) (w : World) :
    Calls Tryz.prog 106 #[.agg (na l)] w fun e w' =>
      ∃ r s t u : Nat, e = .returned (.agg #[.int .u64 (r : Int), .int .u64 (s : Int), .int .u64 (t : Int), .int .u64 (u : Int)]) ∧ (r < 18446744073709551616 ∧ s < 18446744073709551616 ∧ t < 18446744073709551616 ∧ u < 18446744073709551616) ∧
        val [r, s, t, u] = val l % pp ∧ Below w.heap.size w w' := by
  refine (fold_list l hl hlim w).mono ?_
  rintro e w' ⟨l, rfl, hl, hlim, hv, hb⟩
  obtain ⟨r, s, t, u, rfl⟩ := four hl
  exact ⟨r, s, t, u, rfl, lim4 hlim, hv, hb⟩
set_option maxRecDepth 100000 in
set_option maxHeartbeats 1000000 in
theorem neg_any (x : Nat) (hx : x < pp) (w : World) :
    Calls Tryz.prog 62 #[.agg (el x)] w fun e w' => e = .returned (.agg (el ((pp - x) % pp))) ∧ Below w.heap.size w w' := by
  obtain ⟨a, b, c, d, he, hb, hv⟩ := el_open x hx
  rw [he]
  have HV := hide hv
  have HX := hide hx
  clear hv hx he
  go_enter Tryz.func62, Tryz.ntmps62
  go_wp2_with fail
  refine (fromPrime_four a b c d hb (by rw [HV.out]; exact Nat.le_of_lt HX.out) _).mono ?_
  rintro e w1 ⟨r, s, t, u, rfl, hr, hv1, hb1⟩
  have HB1 := hide ((below2 _ _ _).trans (hb1.mono (by simp; omega)))
  have HO1 := hide (Below.heap hb1 (g := w.heap.size + 1) (by simp) (heap2_1 _ _ _))
  have hz1 : w.heap.size + 1 < w1.heap.size := by have := hb1.size; simp at this; omega
  have HV1 := hide hv1
  clear hv1 hb1
  go_wp2_with fail
  refine (reduce_four r s t u hr _).mono ?_
  rintro e w2 ⟨r', s', t', u', rfl, hr', hv2, hb2⟩
  have HB2 := hide (HB1.out.trans (hb2.mono (by omega)))
  have HO2 := hide (Below.heap hb2 hz1 HO1.out)
  have HV2 := hide hv2
  obtain ⟨x2, y2⟩ := row_reads HO2.out
  clear hv2 hb2 HB1 HO1
  go_wp2
  refine bodyPost_ret_by (results_cell_row rfl _ _ (w.heap.size + 1) 47 _ (0, 0) _ rfl (set4_row HO2.out) Tryz.underlying47 rfl (by kernel_rfl)) rfl ⟨?_, Below.set4 HB2.out (by omega) _ _ _ _⟩
  rw [el_close hr' HV2.out, ← ppv]
  have h1 := HV1.out
  rw [HV.out] at h1
  rw [show val [r, s, t, u] = pp - x by omega]
set_option maxRecDepth 100000 in
set_option maxHeartbeats 1000000 in
theorem add_any (x y : Nat) (hx : x < pp) (hy : y < pp) (w : World) :
    Calls Tryz.prog 89 #[.agg (el x), .agg (el y)] w fun e w' => e = .returned (.agg (el ((x + y) % pp))) ∧ Below w.heap.size w w' := by
  obtain ⟨a, b, c, d, he, hb, hv⟩ := el_open x hx
  obtain ⟨a', b', c', d', he', hb', hv'⟩ := el_open y hy
  rw [he, he']
  have HV := hide (And.intro hv hv')
  have HX := hide (And.intro hx hy)
  clear hv hx he hv' hy he'
  go_enter Tryz.func89, Tryz.ntmps89
  go_wp2_with fail
  refine (add_four a b c d a' b' c' d' hb hb' _).mono ?_
  rintro e w1 ⟨r, s, t, u, k, rfl, hr, hv1, hb1⟩
  have HB1 := hide ((below3 _ _ _ _).trans (hb1.mono (by simp; omega)))
  have HO1 := hide (Below.heap hb1 (g := w.heap.size + 1 + 1) (by simp) (heap_alloc_last3 _ _ _ _))
  have hz1 : w.heap.size + 1 + 1 < w1.heap.size := by have := hb1.size; simp at this; omega
  have HV1 := hide hv1
  clear hv1 hb1
  go_wp2_with fail
  refine (reduce_four r s t u hr _).mono ?_
  rintro e w2 ⟨r', s', t', u', rfl, hr', hv2, hb2⟩
  have HB2 := hide ((HB1.out.alloc (by omega) _).trans (hb2.mono (by simp; omega)))
  have HO2 := hide (Below.heap hb2 (g := w.heap.size + 1 + 1) (by simp; omega) ((Below.heap_alloc _ _ _ hz1).trans HO1.out))
  have HV2 := hide hv2
  obtain ⟨x2, y2⟩ := row_reads HO2.out
  clear hv2 hb2 HB1 HO1
  go_wp2
  refine bodyPost_ret_by (results_cell_row rfl _ _ (w.heap.size + 1 + 1) 47 _ (0, 0) _ rfl (set4_row HO2.out) Tryz.underlying47 rfl (by kernel_rfl)) rfl ⟨?_, Below.set4 HB2.out (by omega) _ _ _ _⟩
  rw [el_close hr' HV2.out, ← ppv]
  have h1 := HV1.out
  rw [HV.out.1, HV.out.2] at h1
  have h2 := HX.out
  unfold pp at h2
  rw [show val [r, s, t, u] = x + y by omega]
set_option maxRecDepth 100000 in
set_option maxHeartbeats 1000000 in
theorem mul_any (x y : Nat) (hx : x < pp) (hy : y < pp) (w : World) :
    Calls Tryz.prog 84 #[.agg (el x), .agg (el y)] w fun e w' => e = .returned (.agg (el (x * y % pp))) ∧ Below w.heap.size w w' := by
  obtain ⟨a, b, c, d, he, hb, hv⟩ := el_open x hx
  obtain ⟨a', b', c', d', he', hb', hv'⟩ := el_open y hy
  rw [he, he']
  have HV := hide (And.intro hv hv')
  clear hv hx he hv' hy he'
  go_enter Tryz.func84, Tryz.ntmps84
  go_wp2_with fail
  refine (times_four a b c d a' b' c' d' hb hb' _).mono ?_
  rintro e w1 ⟨l, rfl, hl, hlim, hv1, hb1⟩
  have HB1 := hide ((below3 _ _ _ _).trans (hb1.mono (by simp; omega)))
  have HO1 := hide (Below.heap hb1 (g := w.heap.size + 1 + 1) (by simp) (heap_alloc_last3 _ _ _ _))
  have hz1 : w.heap.size + 1 + 1 < w1.heap.size := by have := hb1.size; simp at this; omega
  have HV1 := hide hv1
  have HL := hide (And.intro hl hlim)
  clear hv1 hb1 hl hlim
  go_wp2_with fail
  refine (fold_four l HL.out.1 HL.out.2 _).mono ?_
  rintro e w2 ⟨r', s', t', u', rfl, hr', hv2, hb2⟩
  have HB2 := hide (HB1.out.trans (hb2.mono (by omega)))
  have HO2 := hide (Below.heap hb2 hz1 HO1.out)
  have HV2 := hide hv2
  obtain ⟨x2, y2⟩ := row_reads HO2.out
  clear hv2 hb2 HB1 HO1
  go_wp2
  refine bodyPost_ret_by (results_cell_row rfl _ _ (w.heap.size + 1 + 1) 47 _ (0, 0) _ rfl (set4_row HO2.out) Tryz.underlying47 rfl (by kernel_rfl)) rfl ⟨?_, Below.set4 HB2.out (by omega) _ _ _ _⟩
  rw [el_close hr' HV2.out, HV1.out, HV.out.1, HV.out.2]
theorem eq_row (a b c d a' b' c' d' : Int) (w : World) :
    (Op.equalIn 9999 45 (.agg #[.int .u64 a, .int .u64 b, .int .u64 c, .int .u64 d]) (.agg #[.int .u64 a', .int .u64 b', .int .u64 c', .int .u64 d'])).run Tryz.prog w = .ok (decide (a = a' ∧ b = b' ∧ c = c' ∧ d = d')) w := by
  have hp : ∀ (xs : Array Value) (i : Nat) (v : Value) (w : World), xs[i]? = some v → (part 27 xs i).run Tryz.prog w = .ok v w := by
    intro xs i v w h
    have hagg : (isAgg 27).run Tryz.prog w = .ok false w := by kernel_rfl
    simp [part, hagg, h]
  have hi : ∀ (x y : Int) (w : World), (Op.equalIn 9998 27 (.int .u64 x) (.int .u64 y)).run Tryz.prog w = .ok (x == y) w := fun x y w => run_equalIn_int w 9997 27 .u64 .u64 x y Tryz.underlying27
  have hs : (Go.sizeOf 27).run Tryz.prog w = .ok 1 w := by kernel_rfl
  rw [show (9999 : Nat) = 9998 + 1 from rfl, Op.equalIn]
  rw [Sem.run_bind, run_underlying und26, Result.andThen_ok]
  simp only [Sem.run_bind, hs, Result.andThen_ok, Std.Legacy.Range.forIn_eq_forIn_range', Std.Legacy.Range.size]
  simp [List.range', hp, hi]
  by_cases h1 : a = a' <;> by_cases h2 : b = b' <;> by_cases h3 : c = c' <;> by_cases h4 : d = d' <;> simp [h1, h2, h3, h4]
set_option maxHeartbeats 1000000 in
theorem small_any (n : Nat) (hn : n < 4294967296) (w : World) :
    Calls Tryz.prog 85 #[.int .u32 (n : Int)] w fun e w' => e = .returned (.agg (el n)) ∧ Below w.heap.size w w' := by
  have hw : IntKind.u64.wrap (n : Int) = (n : Int) := u64_wrap n (by omega)
  go_enter Tryz.func85, Tryz.ntmps85
  go_wp2
  refine bodyPost_ret_by (results_cell_row rfl _ _ w.heap.size 47 _ (0, 0) _ rfl (heap_alloc_last _ _) Tryz.underlying47 rfl (by kernel_rfl)) rfl ⟨?_, (Below.refl _ _).alloc (Nat.le_refl _) _⟩
  rw [← el_close (a := n) (b := 0) (c := 0) (d := 0) (by omega) (by rw [val4]; omega)]
  rfl
theorem val_inj {a b c d a' b' c' d' : Nat} (h : a < 18446744073709551616 ∧ b < 18446744073709551616 ∧ c < 18446744073709551616 ∧ d < 18446744073709551616) (h' : a' < 18446744073709551616 ∧ b' < 18446744073709551616 ∧ c' < 18446744073709551616 ∧ d' < 18446744073709551616) :
    (((a : Int) = a' ∧ (b : Int) = b' ∧ (c : Int) = c' ∧ (d : Int) = d') ↔ val [a, b, c, d] = val [a', b', c', d']) := by
  rw [val4, val4]; omega
set_option maxHeartbeats 1000000 in
theorem same_any (x y : Nat) (hx : x < pp) (hy : y < pp) (w : World) :
    Calls Tryz.prog 109 #[.agg (el x), .agg (el y)] w fun e w' => e = .returned (.bool (decide (x = y))) ∧ Below w.heap.size w w' := by
  obtain ⟨a, b, c, d, he, hb, hv⟩ := el_open x hx
  obtain ⟨a', b', c', d', he', hb', hv'⟩ := el_open y hy
  rw [he, he']
  have hi := val_inj hb hb'
  rw [hv, hv'] at hi
  have hE : ∀ w, (Op.equalIn 9999 45 (.agg #[.int .u64 a, .int .u64 b, .int .u64 c, .int .u64 d]) (.agg #[.int .u64 a', .int .u64 b', .int .u64 c', .int .u64 d'])).run Tryz.prog w = .ok (decide (x = y)) w := fun w => by
    rw [eq_row, decide_eq_decide.2 hi]
  clear he he' hi hb hb' hv hv' hx hy
  cases hd : decide (x = y) <;> rw [hd] at hE
  all_goals
    clear hd
    go_enter Tryz.func109, Tryz.ntmps109
    go_wp2
    go_ret
    exact ⟨rfl, below2 _ _ _⟩
theorem and_one (a : Nat) (ha : a < 18446744073709551616) : bits BinOp.and IntKind.u64 (a : Int) 1 = ((a % 2 : Nat) : Int) := by
  have h := bits_and_u64_nat a 1 ha (by omega)
  have e : a &&& 1 = a % 2 := Nat.and_two_pow_sub_one_eq_mod a 1
  rw [e] at h
  exact h
set_option maxHeartbeats 1000000 in
theorem isOdd_any (x : Nat) (hx : x < pp) (w : World) :
    Calls Tryz.prog 71 #[.agg (el x)] w fun e w' => e = .returned (.bool (decide (x % 2 = 1))) ∧ Below w.heap.size w w' := by
  obtain ⟨a, b, c, d, he, hb, hv⟩ := el_open x hx
  rw [he]
  rw [val4] at hv
  have ho := and_one a hb.1
  have hp : x % 2 = a % 2 := by omega
  rw [hp]
  generalize a % 2 = q at *
  have HH := hide (And.intro hp hb)
  clear he hb hv hx hp
  go_enter Tryz.func71, Tryz.ntmps71
  go_wp2
  go_ret
  refine ⟨?_, (Below.refl _ _).alloc (Nat.le_refl _) _⟩
  show Ending.returned (.bool ((q : Int) == 1)) = _
  congr 2
  rw [Bool.eq_iff_iff]; simp; omega
end Go.Proofs.YtobgimpkkjaolaaGreatDoor
/- The difference of two numbers modulo p, as the program's call answers it, in any world. -/
namespace Go.Proofs.YtobgimpkkjaolaaGreatDoor
open Go.RowKit
theorem pp_mod (n : Nat) : n % pp < pp := Nat.mod_lt _ pp_pos
set_option maxRecDepth 100000 in
set_option maxHeartbeats 1000000 in
theorem sub_any (x y : Nat) (hx : x < pp) (hy : y < pp) (w : World) :
    Calls Tryz.prog 87 #[.agg (el x), .agg (el y)] w fun e w' => e = .returned (.agg (el ((x + (pp - y) % pp) % pp))) ∧ Below w.heap.size w w' := by
  have hneg := neg_any y hy
  have hadd := add_any x ((pp - y) % pp) hx (pp_mod _)
  obtain ⟨a, b, c, d, he, hb, hv⟩ := el_open x hx
  obtain ⟨a', b', c', d', he', hb', hv'⟩ := el_open y hy
  obtain ⟨r, s, t, u, hr, hbr, hvr⟩ := el_open ((x + (pp - y) % pp) % pp) (pp_mod _)
  rw [hr] at hadd ⊢
  rw [he] at hadd ⊢
  rw [he'] at hneg ⊢
  generalize el ((pp - y) % pp) = N at *
  have HE := hide (And.intro he (And.intro he' hr))
  clear he he' hr hb hb' hbr hv hv' hvr hx hy
  go_enter Tryz.func87, Tryz.ntmps87
  go_wp2
  go_region_with (first
    | (go_at_call 62; refine (hneg _).mono ?_; rintro e w1 ⟨rfl, hb1⟩; obtain ⟨x1, y1⟩ := row_reads (Below.heap hb1 (g := w.heap.size) (by simp; omega) (heap3_0 _ _ _ _)))
    | (go_at_call 89; refine (hadd _).mono ?_; rintro e w2 ⟨rfl, hb2⟩; obtain ⟨x2, y2⟩ := row_reads (Below.heap hb2 (g := w.heap.size + 1 + 1) (by have := hb1.size; simp at this ⊢; omega) (Below.heap hb1 (g := w.heap.size + 1 + 1) (by simp) (heap_alloc_last3 _ _ _ _)))))
  all_goals
    have HO2 := hide (Below.heap hb2 (g := w.heap.size + 1 + 1) (by have := hb1.size; simp at this ⊢; omega) (Below.heap hb1 (g := w.heap.size + 1 + 1) (by simp) (heap_alloc_last3 _ _ _ _)))
    have HB2 := hide (((below3 w _ _ _).drew.trans (hb1.mono (by simp; omega))).trans (hb2.mono (by have := hb1.size; simp at this ⊢; omega)))
    clear hb1 hb2 x1 y1 x2 y2
    go_wp2
    exact bodyPost_ret_by (results_cell_row rfl _ _ (w.heap.size + 1 + 1) 47 _ (0, 0) _ rfl (set4_row HO2.out) Tryz.underlying47 rfl (by kernel_rfl)) rfl ⟨rfl, Below.set4 HB2.out (by omega) _ _ _ _⟩
end Go.Proofs.YtobgimpkkjaolaaGreatDoor
/- A number's 32 bytes, as the program's call answers them, in any world. -/
namespace Go.Proofs.YtobgimpkkjaolaaGreatDoor
open Go.RowKit
def ba (l : List Nat) : Array Value := (l.map fun (n : Nat) => Value.int .u8 (n : Int)).toArray
theorem ba_get (l : List Nat) (k : Nat) (h : k < l.length) : (ba l)[k]? = some (.int .u8 ((l.getD k 0 : Nat) : Int)) := by
  simp [ba, List.getD_eq_getElem?_getD, h]
theorem ba_set (l : List Nat) (k n : Nat) : (ba l).setIfInBounds k (.int .u8 (n : Int)) = ba (l.set k n) := by
  simp [ba, List.map_set]
def byt (x i : Nat) : Nat := x / 256 ^ i % 256
def bys (x : Nat) : Nat → List Nat
  | 0 => List.replicate 32 0
  | k + 1 => (bys x k).set k (byt x k)
theorem bys_len (x : Nat) : ∀ k, (bys x k).length = 32
  | 0 => by simp [bys]
  | k + 1 => by simp [bys, bys_len x k]
theorem bys_get (x : Nat) : ∀ k i, k ≤ 32 → (bys x k).getD i 0 = if i < k then byt x i else 0
  | 0, i, _ => by
    show (List.replicate 32 0).getD i 0 = _
    rw [if_neg (by omega), List.getD_eq_getElem?_getD, List.getElem?_replicate]
    split <;> rfl
  | k + 1, i, h => by
    have ih := bys_get x k i (by omega)
    rw [bys]
    by_cases e : k = i
    · subst e
      have hl := bys_len x k
      simp [List.getD_eq_getElem?_getD, hl, show k < 32 by omega]
    · rw [getD_set_ne' e, ih]
      by_cases h1 : i < k
      · rw [if_pos h1, if_pos (by omega)]
      · rw [if_neg h1, if_neg (by omega)]
theorem byt_word (x i : Nat) : (x / 18446744073709551616 ^ (i / 8) % 18446744073709551616) / 2 ^ (i % 8 * 8) % 256 = byt x i := by
  unfold byt
  have h1 : (18446744073709551616 : Nat) = 2 ^ (i % 8 * 8) * (256 * 2 ^ (56 - i % 8 * 8)) := by
    rw [show (256 : Nat) = 2 ^ 8 from rfl, ← Nat.pow_add, ← Nat.pow_add, show i % 8 * 8 + (8 + (56 - i % 8 * 8)) = 64 by omega]
  have h2 : (18446744073709551616 : Nat) ^ (i / 8) * 2 ^ (i % 8 * 8) = 256 ^ i := by
    rw [show (18446744073709551616 : Nat) = 2 ^ 64 from rfl, show (256 : Nat) = 2 ^ 8 from rfl, ← Nat.pow_mul, ← Nat.pow_mul, ← Nat.pow_add]
    congr 1; omega
  rw [← h2, ← Nat.div_div_eq_div_mul]
  generalize x / 18446744073709551616 ^ (i / 8) = y
  rw [h1, Nat.mod_mul_right_div_self, Nat.mod_mul_right_mod]
theorem make32 (w : World) : (Instr.makeSlice 22 (.int .i64 32) (.int .i64 32)).run Tryz.prog w = .ok (.slice (some ⟨w.heap.size, 0, none⟩) 32 32) (w.alloc (.cells (ba (List.replicate 32 0)) 5)) := by kernel_rfl
set_option maxRecDepth 100000 in
set_option maxHeartbeats 1000000 in
theorem bytes_any (x : Nat) (hx : x < pp) (w : World) :
    Calls Tryz.prog 70 #[.agg (el x)] w fun e w' => ∃ g, e = .returned (.slice (some ⟨g, 0, none⟩) 32 32) ∧ w.heap.size ≤ g ∧ g < w'.heap.size ∧ w'.heap[g]? = some (.cells (ba (bys x 32)) 5 (0, 0)) ∧ Below w.heap.size w w' := by
  have hmk := make32
  obtain ⟨a, b, c, d, he, hb, hv⟩ := el_open x hx
  have hword : ∀ k, k < 32 → byt x k = (([a, b, c, d].getD (k / 8) 0) / 2 ^ (k % 8 * 8)) % 256 := by
    intro k hk
    rw [← byt_word x k]
    congr 2
    rw [val4] at hv
    have : k / 8 = 0 ∨ k / 8 = 1 ∨ k / 8 = 2 ∨ k / 8 = 3 := by omega
    rcases this with h | h | h | h <;> rw [h] <;> simp <;> omega
  have HW := hide hword
  rw [he]
  clear he hv hword hx
  go_enter Tryz.func70, Tryz.ntmps70
  go_wp2
  clear hmk
  have hA := heap2_0 w (.cells #[.int .u64 (a : Int), .int .u64 (b : Int), .int .u64 (c : Int), .int .u64 (d : Int)] 47) (.cells (ba (List.replicate 32 0)) 5)
  have hO := heap2_1 w (.cells #[.int .u64 (a : Int), .int .u64 (b : Int), .int .u64 (c : Int), .int .u64 (d : Int)] 47) (.cells (ba (List.replicate 32 0)) 5)
  have hB := below2 w (.cells #[.int .u64 (a : Int), .int .u64 (b : Int), .int .u64 (c : Int), .int .u64 (d : Int)] 47) (.cells (ba (List.replicate 32 0)) 5)
  have hS : ((w.alloc (.cells #[.int .u64 (a : Int), .int .u64 (b : Int), .int .u64 (c : Int), .int .u64 (d : Int)] 47)).alloc (.cells (ba (List.replicate 32 0)) 5)).heap.size = w.heap.size + 1 + 1 := by simp
  go_loopw [8] (fun i wr => ∃ k : Nat, k ≤ 32 ∧ i = .int .i64 k ∧ wr.heap[w.heap.size]? = some (.cells #[.int .u64 (a : Int), .int .u64 (b : Int), .int .u64 (c : Int), .int .u64 (d : Int)] 47 (0, 0)) ∧ wr.heap[w.heap.size + 1]? = some (.cells (ba (bys x k)) 5 (0, 0)) ∧ wr.heap.size = w.heap.size + 1 + 1 ∧ Below w.heap.size w wr) (fun i _ => 32 - (intOf i).toNat)
  case atStart => exact ⟨0, by omega, rfl, hA, hO, hS, hB⟩
  case round =>
    clear hA hO hS hB
    obtain ⟨k, hk, rfl, hA, hO, hS, hB⟩ := hrel
    by_cases hlt : k < 32
    · have hc := cell_of_row _ _ (k / 8) _ _ _ hA
      rw [← na4, na_get _ _ (by show k / 8 < 4; omega)] at hc
      have hc2 := cell_of_row _ _ k _ _ _ hO
      rw [ba_get _ _ (by rw [bys_len]; exact hlt)] at hc2
      have hfro : wr.frozen? ⟨w.heap.size + 1, k, none⟩ = false := frozen_of_row _ _ _ _ _ hO
      have HK := hide (HW.out k hlt)
      have HA := hide hA
      have HO := hide hO
      clear hA hO HW
      generalize [a, b, c, d].getD (k / 8) 0 = y at *
      generalize (bys x k).getD k 0 = z at *
      have b0 : (0 : Int) ≤ (k : Int) := by omega
      have b1 : (k : Int) < 32 := by omega
      have b2 : (0 : Int) ≤ (k : Int) / 8 := by omega
      have b3 : (k : Int) / 8 < 4 := by omega
      go_wp2
      have hv : (y : Int) / 2 ^ (k % 8 * 8) % 256 = ((byt x k : Nat) : Int) := by rw [HK.out]; simp
      rw [hv]
      refine ⟨⟨k + 1, by omega, by go_num, ?_, ?_, ?_, ?_⟩, by simp [intOf]; omega⟩
      · rw [heap_setCell_other _ _ _ _ (by simp)]; exact HA.out
      · rw [heap_setCell_same _ _ _ _ _ _ HO.out, ba_set, bys]
      · simpa using hS
      · exact hB.setCell (by simp) _
    · have hk32 : k = 32 := by omega
      rw [hk32] at hO
      have HO := hide hO
      clear hO hA HW
      go_wp2
      go_ret
      exact ⟨w.heap.size + 1, rfl, by omega, by omega, HO.out, hB⟩
end Go.Proofs.YtobgimpkkjaolaaGreatDoor
/- Chains of worlds, and what a slice of bytes holds. -/
namespace Go.Proofs.YtobgimpkkjaolaaGreatDoor
open Go.RowKit
theorem Below.chain {w a b : World} (h : Below w.heap.size w a) (k : Below a.heap.size a b) : Below w.heap.size w b := h.trans (k.mono h.size)
end Go.Proofs.YtobgimpkkjaolaaGreatDoor
/- The number of some bytes, modulo p, as the program's call answers it, in any world that holds the bytes. -/
namespace Go.Proofs.YtobgimpkkjaolaaGreatDoor
open Go.RowKit
def BsAt (w : World) (v : Value) (bs : List Nat) : Prop :=
  ∃ (b o c : Nat) (ao : Option Addr), v = .slice ao bs.length c ∧ bs.length ≤ c ∧ c ≤ maxLen ∧ (∀ i, bs.getD i 0 < 256) ∧ (bs ≠ [] → ao = some ⟨b, o, none⟩ ∧ b < w.heap.size ∧ ∀ i, i < bs.length → w.cell? ⟨b, o + i, none⟩ = some (.int .u8 ((bs.getD i 0 : Nat) : Int)))
theorem BsAt.ext {W w : World} {v : Value} {bs : List Nat} (h : BsAt W v bs) (he : Below W.heap.size W w) : BsAt w v bs := by
  obtain ⟨b, o, c, ao, e, hc, hm, hl, hh⟩ := h
  refine ⟨b, o, c, ao, e, hc, hm, hl, fun hne => ?_⟩
  obtain ⟨e1, hb, hr⟩ := hh hne
  exact ⟨e1, Nat.lt_of_lt_of_le hb he.size, fun i hi => (Below.cell (p := ⟨b, o + i, none⟩) he hb).trans (hr i hi)⟩
def bval : List Nat → Nat
  | [] => 0
  | x :: t => x + 256 * bval t
theorem bval_take : ∀ (l : List Nat) (k : Nat), k < l.length → bval (l.take (k + 1)) = bval (l.take k) + 256 ^ k * l.getD k 0
  | [], k, h => absurd h (by simp)
  | x :: t, 0, _ => by simp [bval]
  | x :: t, k + 1, h => by
    have ih := bval_take t k (by simpa using h)
    rw [List.take_succ_cons, List.take_succ_cons, bval, bval, ih, List.getD_cons_succ, Nat.pow_succ, Nat.mul_add]
    rw [Nat.mul_comm (256 ^ k) 256, Nat.mul_assoc]
    omega
theorem bval_lt : ∀ {l : List Nat}, (∀ i, l.getD i 0 < 256) → ∀ k, bval (l.take k) < 256 ^ k
  | [], _, k => by simp [bval]; exact Nat.pow_pos (by decide)
  | x :: t, h, 0 => by simp [bval]
  | x :: t, h, k + 1 => by
    have ih := bval_lt (l := t) (fun i => h (i + 1)) k
    have hx := h 0
    simp only [List.getD_cons_zero] at hx
    simp only [List.take_succ_cons, bval, Nat.pow_succ]
    omega
theorem or_byte (y x s : Nat) (hy : y < 2 ^ s) (hx : x < 256) (hs : s + 8 ≤ 64) : bits .or .u64 (y : Int) (IntKind.u64.wrap ((x : Int) * 2 ^ s)) = ((y + 2 ^ s * x : Nat) : Int) := by
  have h1 : x * 2 ^ s < 18446744073709551616 := by
    have : x * 2 ^ s < 256 * 2 ^ s := (Nat.mul_lt_mul_right (Nat.two_pow_pos s)).2 hx
    have h2 : 256 * 2 ^ s ≤ 2 ^ 64 := by
      rw [show (256 : Nat) = 2 ^ 8 from rfl, ← Nat.pow_add]; exact Nat.pow_le_pow_right (by decide) (by omega)
    omega
  have h3 : 2 ^ s ≤ 2 ^ 64 := Nat.pow_le_pow_right (by decide) (by omega)
  have e : IntKind.u64.wrap ((x : Int) * 2 ^ s) = ((x * 2 ^ s : Nat) : Int) := by
    rw [show ((x : Int) * 2 ^ s) = ((x * 2 ^ s : Nat) : Int) by simp]
    exact u64_wrap _ h1
  rw [e, bits_or_u64_nat _ _ (by omega) h1, Nat.or_comm, Nat.mul_comm x, ← Nat.two_pow_add_eq_or_of_lt hy, Nat.add_comm]
theorem val_ge : ∀ (l : List Nat) (j : Nat), 18446744073709551616 ^ j * l.getD j 0 ≤ val l
  | [], j => by simp
  | x :: t, 0 => by simp [val]
  | x :: t, j + 1 => by
    have ih := val_ge t j
    rw [List.getD_cons_succ, val, Nat.pow_succ, Nat.mul_comm (18446744073709551616 ^ j), Nat.mul_assoc]
    omega
theorem word_small {l : List Nat} {s j : Nat} (_ : s + 8 ≤ 64) (h : val l < 18446744073709551616 ^ j * 2 ^ s) : l.getD j 0 < 2 ^ s := by
  have h1 := val_ge l j
  exact Nat.lt_of_mul_lt_mul_left (Nat.lt_of_le_of_lt h1 h)
theorem word_pow (k : Nat) : (18446744073709551616 : Nat) ^ (k / 8) * 2 ^ (k % 8 * 8) = 256 ^ k := by
  rw [show (18446744073709551616 : Nat) = 2 ^ 64 from rfl, show (256 : Nat) = 2 ^ 8 from rfl, ← Nat.pow_mul, ← Nat.pow_mul, ← Nat.pow_add]
  congr 1; omega
theorem word_fits {y x s : Nat} (hy : y < 2 ^ s) (hx : x < 256) (hs : s + 8 ≤ 64) : y + 2 ^ s * x < 18446744073709551616 := by
  have h1 : y + 2 ^ s * x < 2 ^ s * 256 := by
    have : 2 ^ s * x + 2 ^ s ≤ 2 ^ s * 256 := by rw [← Nat.mul_succ]; exact Nat.mul_le_mul_left _ hx
    omega
  have h2 : 2 ^ s * 256 ≤ 2 ^ 64 := by
    rw [show (256 : Nat) = 2 ^ 8 from rfl, ← Nat.pow_add]; exact Nat.pow_le_pow_right (by decide) hs
  omega
set_option maxRecDepth 100000 in
set_option maxHeartbeats 1000000 in
theorem from_any (v : Value) (bs : List Nat) (hlen : bs.length ≤ 100) (w : World) (hbs : BsAt w v bs) :
    Calls Tryz.prog 90 #[v] w fun e w' => e = .returned (.agg (el (bval (bs.take 32) % pp))) ∧ Below w.heap.size w w' := by
  obtain ⟨b, o, c, ao, rfl, hc, hm, hl, hh⟩ := hbs
  obtain ⟨n, hn⟩ : ∃ n, min bs.length 32 = n := ⟨_, rfl⟩
  have hmin : min (bs.length : Int) 32 = (n : Int) := by omega
  have hn1 : n ≤ bs.length := by omega
  have hn2 : n ≤ 32 := by omega
  have i1 : (0 : Int) ≤ (n : Int) := by omega
  have i2 : (n : Int) ≤ (c : Int) := by omega
  unfold maxLen at hm
  by_cases h32 : bs.length ≤ 32
  · have hn3 : bs.length = n := by omega
    go_enter Tryz.func90, Tryz.ntmps90
    go_wp2
    go_loopw [12] (fun i wr => ∃ (k : Nat) (l : List Nat), k ≤ n ∧ i = .int .i64 k ∧ l.length = 4 ∧ lim l ∧ val l = bval (bs.take k) ∧ wr.heap[w.heap.size]? = some (.cells #[.int .u64 0, .int .u64 0, .int .u64 0, .int .u64 0] 47 (0, 0)) ∧ wr.heap[w.heap.size + 1]? = some (.cells (na l) 45 (0, 0)) ∧ wr.heap.size = w.heap.size + 1 + 1 ∧ Below w.heap.size w wr) (fun i _ => n - (intOf i).toNat)
    case atStart => exact ⟨0, [0, 0, 0, 0], by omega, rfl, rfl, lim4_mk (by decide), by simp [val, bval], heap2_0 _ _ _, heap2_1 _ _ _, by simp, below2 _ _ _⟩
    case round =>
      obtain ⟨k, l, hk, rfl, hl4, hlim, hval, hA, hO, hS, hB⟩ := hrel
      by_cases hlt : k < n
      · obtain ⟨rfl, hb, hcells⟩ := hh (fun e => by rw [e] at hn; simp at hn; omega)
        have hcb := (Below.cell (p := ⟨b, o + k, none⟩) hB hb).trans (hcells k (by omega))
        have hcw := cell_of_row _ _ (k / 8) _ _ _ hO
        rw [na_get _ _ (by omega)] at hcw
        have hfro : wr.frozen? ⟨w.heap.size + 1, k / 8, none⟩ = false := frozen_of_row _ _ _ _ _ hO
        have hx := hl k
        have hy := word_small (s := k % 8 * 8) (j := k / 8) (by omega) (show val l < 18446744073709551616 ^ (k / 8) * 2 ^ (k % 8 * 8) by rw [hval, word_pow]; exact bval_lt hl k)
        have HT := hide (bval_take bs k (by omega))
        have HA := hide hA
        have HO := hide hO
        have HV := hide hval
        have HL := hide (And.intro hl4 hlim)
        have HC := hide (And.intro hl (And.intro hcells hb))
        clear hA hO hval hlim hl4 hh hl hcells
        generalize hgx : bs.getD k 0 = x at *
        generalize hgy : l.getD (k / 8) 0 = y at *
        have HY := hide hgy
        clear hgx hgy
        have hor := or_byte y x (k % 8 * 8) hy hx (by omega)
        have hlx : y + 2 ^ (k % 8 * 8) * x < 18446744073709551616 := word_fits hy hx (by omega)
        generalize hz : y + 2 ^ (k % 8 * 8) * x = z at *
        have HZ := hide hz
        have HYY := hide hy
        clear hz hy
        have b0 : (0 : Int) ≤ (k : Int) := by omega
        have b1 : (k : Int) < (bs.length : Int) := by omega
        have b2 : (0 : Int) ≤ (k : Int) / 8 := by omega
        have b3 : (k : Int) / 8 < 4 := by omega
        go_wp2
        go_region
        go_wp2
        go_roundw
        case rel =>
          refine ⟨k + 1, l.set (k / 8) z, by omega, by go_num, by rw [List.length_set, HL.out.1], lim_set HL.out.2 _ _ hlx, ?_, ?_, ?_, ?_, ?_⟩
          · have hvs := val_set l (k / 8) z (by rw [HL.out.1]; omega)
            rw [HY.out, ← HZ.out, Nat.mul_add, ← Nat.mul_assoc, word_pow] at hvs
            rw [HT.out, ← HV.out, ← HZ.out]
            omega
          · rw [heap_drew, heap_setCell_other _ _ _ _ (by simp)]; exact HA.out
          · rw [heap_drew, heap_setCell_same _ _ _ _ _ _ HO.out, na_set]
          · simpa [heap_drew] using hS
          · exact (hB.setCell (by simp) _).drew
        case measure => simp [intOf]; omega
      · obtain ⟨x0, x1, x2, x3, rfl⟩ := four hl4
        have hkn : bs.take k = bs.take 32 := by
          by_cases h : bs.length ≤ 32
          · rw [List.take_of_length_le (by omega), List.take_of_length_le h]
          · rw [show k = 32 by omega]
        rw [na4] at hO
        obtain ⟨z1, z2⟩ := row_reads hO
        have HA := hide hA
        have HV := hide (And.intro hval hkn)
        have HL := hide (lim4 hlim)
        clear hA hO hval hlim hh hl hkn
        go_wp2_with fail
        clear z1 z2
        refine (reduce_four x0 x1 x2 x3 HL.out _).mono ?_
        rintro e w2 ⟨r', s', t', u', rfl, hr', hv2, hb2⟩
        have HB2 := hide (hB.trans (hb2.mono (by omega)))
        have HO2 := hide (Below.heap hb2 (by omega) HA.out)
        have HV2 := hide hv2
        obtain ⟨z1, z2⟩ := row_reads HO2.out
        clear hv2 hb2 hB HA
        go_wp2
        refine bodyPost_ret_by (results_cell_row rfl _ _ w.heap.size 47 _ (0, 0) _ rfl (set4_row HO2.out) Tryz.underlying47 rfl (by kernel_rfl)) rfl ⟨?_, Below.set4 HB2.out (Nat.le_refl _) _ _ _ _⟩
        rw [el_close hr' HV2.out, ← ppv, HV.out.1, HV.out.2]
  · have hn3 : n = 32 := by omega
    go_enter Tryz.func90, Tryz.ntmps90
    go_wp2
    go_loopw [12] (fun i wr => ∃ (k : Nat) (l : List Nat), k ≤ n ∧ i = .int .i64 k ∧ l.length = 4 ∧ lim l ∧ val l = bval (bs.take k) ∧ wr.heap[w.heap.size]? = some (.cells #[.int .u64 0, .int .u64 0, .int .u64 0, .int .u64 0] 47 (0, 0)) ∧ wr.heap[w.heap.size + 1]? = some (.cells (na l) 45 (0, 0)) ∧ wr.heap.size = w.heap.size + 1 + 1 ∧ Below w.heap.size w wr) (fun i _ => n - (intOf i).toNat)
    case atStart => exact ⟨0, [0, 0, 0, 0], by omega, rfl, rfl, lim4_mk (by decide), by simp [val, bval], heap2_0 _ _ _, heap2_1 _ _ _, by simp, below2 _ _ _⟩
    case round =>
      obtain ⟨k, l, hk, rfl, hl4, hlim, hval, hA, hO, hS, hB⟩ := hrel
      by_cases hlt : k < n
      · obtain ⟨rfl, hb, hcells⟩ := hh (fun e => by rw [e] at hn; simp at hn; omega)
        have hcb := (Below.cell (p := ⟨b, o + k, none⟩) hB hb).trans (hcells k (by omega))
        have hcw := cell_of_row _ _ (k / 8) _ _ _ hO
        rw [na_get _ _ (by omega)] at hcw
        have hfro : wr.frozen? ⟨w.heap.size + 1, k / 8, none⟩ = false := frozen_of_row _ _ _ _ _ hO
        have hx := hl k
        have hy := word_small (s := k % 8 * 8) (j := k / 8) (by omega) (show val l < 18446744073709551616 ^ (k / 8) * 2 ^ (k % 8 * 8) by rw [hval, word_pow]; exact bval_lt hl k)
        have HT := hide (bval_take bs k (by omega))
        have HA := hide hA
        have HO := hide hO
        have HV := hide hval
        have HL := hide (And.intro hl4 hlim)
        have HC := hide (And.intro hl (And.intro hcells hb))
        clear hA hO hval hlim hl4 hh hl hcells
        generalize hgx : bs.getD k 0 = x at *
        generalize hgy : l.getD (k / 8) 0 = y at *
        have HY := hide hgy
        clear hgx hgy
        have hor := or_byte y x (k % 8 * 8) hy hx (by omega)
        have hlx : y + 2 ^ (k % 8 * 8) * x < 18446744073709551616 := word_fits hy hx (by omega)
        generalize hz : y + 2 ^ (k % 8 * 8) * x = z at *
        have HZ := hide hz
        have HYY := hide hy
        clear hz hy
        have b0 : (0 : Int) ≤ (k : Int) := by omega
        have b1 : (k : Int) < (32 : Int) := by omega
        have b2 : (0 : Int) ≤ (k : Int) / 8 := by omega
        have b3 : (k : Int) / 8 < 4 := by omega
        go_wp2
        go_region
        go_wp2
        go_roundw
        case rel =>
          refine ⟨k + 1, l.set (k / 8) z, by omega, by go_num, by rw [List.length_set, HL.out.1], lim_set HL.out.2 _ _ hlx, ?_, ?_, ?_, ?_, ?_⟩
          · have hvs := val_set l (k / 8) z (by rw [HL.out.1]; omega)
            rw [HY.out, ← HZ.out, Nat.mul_add, ← Nat.mul_assoc, word_pow] at hvs
            rw [HT.out, ← HV.out, ← HZ.out]
            omega
          · rw [heap_drew, heap_setCell_other _ _ _ _ (by simp)]; exact HA.out
          · rw [heap_drew, heap_setCell_same _ _ _ _ _ _ HO.out, na_set]
          · simpa [heap_drew] using hS
          · exact (hB.setCell (by simp) _).drew
        case measure => simp [intOf]; omega
      · obtain ⟨x0, x1, x2, x3, rfl⟩ := four hl4
        have hkn : bs.take k = bs.take 32 := by
          by_cases h : bs.length ≤ 32
          · rw [List.take_of_length_le (by omega), List.take_of_length_le h]
          · rw [show k = 32 by omega]
        rw [na4] at hO
        obtain ⟨z1, z2⟩ := row_reads hO
        have HA := hide hA
        have HV := hide (And.intro hval hkn)
        have HL := hide (lim4 hlim)
        clear hA hO hval hlim hh hl hkn
        go_wp2_with fail
        clear z1 z2
        refine (reduce_four x0 x1 x2 x3 HL.out _).mono ?_
        rintro e w2 ⟨r', s', t', u', rfl, hr', hv2, hb2⟩
        have HB2 := hide (hB.trans (hb2.mono (by omega)))
        have HO2 := hide (Below.heap hb2 (by omega) HA.out)
        have HV2 := hide hv2
        obtain ⟨z1, z2⟩ := row_reads HO2.out
        clear hv2 hb2 hB HA
        go_wp2
        refine bodyPost_ret_by (results_cell_row rfl _ _ w.heap.size 47 _ (0, 0) _ rfl (set4_row HO2.out) Tryz.underlying47 rfl (by kernel_rfl)) rfl ⟨?_, Below.set4 HB2.out (Nat.le_refl _) _ _ _ _⟩
        rw [el_close hr' HV2.out, ← ppv, HV.out.1, HV.out.2]
end Go.Proofs.YtobgimpkkjaolaaGreatDoor
/- Numbers modulo p: what sums, differences, products and inverses are, for all numbers: plain arithmetic. -/
namespace Go.Proofs.YtobgimpkkjaolaaGreatDoor
theorem pp_pos' : 0 < pp := by decide
theorem neg_mod (x : Nat) (h0 : x ≠ 0) (hx : x < pp) : (pp - x) % pp = pp - x := by
  unfold pp at *; omega
theorem neg_odd (x : Nat) (h0 : x ≠ 0) (hx : x < pp) : decide ((pp - x) % pp % 2 = 1) = !decide (x % 2 = 1) := by
  have h : (pp - x) % pp % 2 = 1 ↔ ¬ (x % 2 = 1) := by
    rw [neg_mod x h0 hx]; unfold pp at *; omega
  rw [decide_eq_decide.2 h]; exact decide_not
def pw (x e : Nat) : Nat := x ^ e % pp
theorem pw_lt (x e : Nat) : pw x e < pp := Nat.mod_lt _ pp_pos'
theorem pw_mul (x y e : Nat) : pw (x * y % pp) e = pw x e * pw y e % pp := by
  unfold pw
  rw [← Nat.pow_mod, Nat.mul_pow, Nat.mod_mul_mod, Nat.mul_mod_mod]
theorem pw_even (x m : Nat) : pw x (2 * m) = pw x m * pw x m % pp := by
  unfold pw
  rw [Nat.mod_mul_mod, Nat.mul_mod_mod, ← Nat.pow_add]
  congr 2; omega
theorem pw_odd (x m : Nat) : pw x (2 * m + 1) = pw x m * pw x m % pp * x % pp := by
  rw [← pw_even]
  unfold pw
  rw [Nat.mod_mul_mod, Nat.pow_succ]
theorem pw_none (x : Nat) : pw x 0 = 1 := by
  unfold pw
  rw [Nat.pow_zero]; decide
theorem half (e k : Nat) : e / 2 ^ k = 2 * (e / 2 ^ (k + 1)) + e / 2 ^ k % 2 := by
  rw [Nat.pow_succ, ← Nat.div_div_eq_div_mul]; omega
def ex : Nat := 57896044618658097711785492504343953926634992332820282019728792003956564819947
theorem ex_eq : ex + 1 = pp - 1 := by decide +kernel
end Go.Proofs.YtobgimpkkjaolaaGreatDoor
/- The operations' contracts, once more, for numbers however they are written. -/
namespace Go.Proofs.YtobgimpkkjaolaaGreatDoor
open Go.RowKit
end Go.Proofs.YtobgimpkkjaolaaGreatDoor
/- A number to the p - 2: what the program's inverse answers, in any world where the exponent lies as the program's text lays it. -/
namespace Go.Proofs.YtobgimpkkjaolaaGreatDoor
open Go.RowKit
set_option maxRecDepth 100000 in
set_option maxHeartbeats 1000000 in
theorem alone_any (x y : Nat) (hx : x < pp) (w : World) :
    Calls Tryz.prog 117 #[.agg (el x), .agg (el y)] w fun e w' => e = .returned (.agg (el (x * x % pp))) ∧ Below w.heap.size w w' := by
  have hmul := mul_any x x hx hx
  obtain ⟨a, b, c, d, he⟩ : ∃ a b c d : Nat, el x = #[.int .u64 (a : Int), .int .u64 (b : Int), .int .u64 (c : Int), .int .u64 (d : Int)] := ⟨_, _, _, _, rfl⟩
  obtain ⟨r, s, t, u, hr⟩ : ∃ a b c d : Nat, el (x * x % pp) = #[.int .u64 (a : Int), .int .u64 (b : Int), .int .u64 (c : Int), .int .u64 (d : Int)] := ⟨_, _, _, _, rfl⟩
  obtain ⟨a', b', c', d', he'⟩ : ∃ a b c d : Nat, el y = #[.int .u64 (a : Int), .int .u64 (b : Int), .int .u64 (c : Int), .int .u64 (d : Int)] := ⟨_, _, _, _, rfl⟩
  rw [hr] at hmul ⊢
  rw [he] at hmul ⊢
  rw [he']
  clear he he' hr hx
  go_enter Tryz.func117, Tryz.ntmps117
  go_wp2_with fail
  refine (hmul _).mono ?_
  rintro e w1 ⟨rfl, hb1⟩
  have HB1 := hide ((below3 _ _ _ _).trans (hb1.mono (by simp; omega)))
  have HO1 := hide (Below.heap hb1 (g := w.heap.size + 1 + 1) (by simp) (heap_alloc_last3 _ _ _ _))
  obtain ⟨x2, y2⟩ := row_reads HO1.out
  clear hb1
  go_wp2
  exact bodyPost_ret_by (results_cell_row rfl _ _ (w.heap.size + 1 + 1) 47 _ (0, 0) _ rfl (set4_row HO1.out) Tryz.underlying47 rfl (by kernel_rfl)) rfl ⟨rfl, Below.set4 HB1.out (by omega) _ _ _ _⟩
set_option maxRecDepth 100000 in
set_option maxHeartbeats 1000000 in
theorem times_any (x y : Nat) (hx : x < pp) (hy : y < pp) (w : World) :
    Calls Tryz.prog 118 #[.agg (el x), .agg (el y)] w fun e w' => e = .returned (.agg (el (x * x % pp * y % pp))) ∧ Below w.heap.size w w' := by
  have hmul := mul_any x x hx hx
  have hmul2 := mul_any (x * x % pp) y (pp_mod _) hy
  obtain ⟨a, b, c, d, he⟩ : ∃ a b c d : Nat, el x = #[.int .u64 (a : Int), .int .u64 (b : Int), .int .u64 (c : Int), .int .u64 (d : Int)] := ⟨_, _, _, _, rfl⟩
  obtain ⟨r, s, t, u, hr⟩ : ∃ a b c d : Nat, el (x * x % pp * y % pp) = #[.int .u64 (a : Int), .int .u64 (b : Int), .int .u64 (c : Int), .int .u64 (d : Int)] := ⟨_, _, _, _, rfl⟩
  obtain ⟨a', b', c', d', he'⟩ : ∃ a b c d : Nat, el y = #[.int .u64 (a : Int), .int .u64 (b : Int), .int .u64 (c : Int), .int .u64 (d : Int)] := ⟨_, _, _, _, rfl⟩
  rw [hr] at hmul2 ⊢
  rw [he'] at hmul2 ⊢
  rw [he] at hmul ⊢
  generalize el (x * x % pp) = N at *
  clear he he' hr hx hy
  go_enter Tryz.func118, Tryz.ntmps118
  go_wp2
  go_region_with (first
    | (go_at_call 84; with_reducible refine (hmul _).mono ?_; rintro e w1 ⟨rfl, hb1⟩; obtain ⟨x1, y1⟩ := row_reads (Below.heap hb1 (g := w.heap.size + 1) (by simp) (heap_alloc_mid3 _ _ _ _)))
    | (go_at_call 84; with_reducible refine (hmul2 _).mono ?_; rintro e w2 ⟨rfl, hb2⟩; obtain ⟨x2, y2⟩ := row_reads (Below.heap hb2 (g := w.heap.size + 1 + 1) (by have := hb1.size; simp at this ⊢; omega) (Below.heap hb1 (g := w.heap.size + 1 + 1) (by simp) (heap_alloc_last3 _ _ _ _)))))
  all_goals
    have HO2 := hide (Below.heap hb2 (g := w.heap.size + 1 + 1) (by have := hb1.size; simp at this ⊢; omega) (Below.heap hb1 (g := w.heap.size + 1 + 1) (by simp) (heap_alloc_last3 _ _ _ _)))
    have HB2 := hide (((below3 w _ _ _).drew.trans (hb1.mono (by simp; omega))).trans (hb2.mono (by have := hb1.size; simp at this ⊢; omega)))
    clear hb1 hb2 x1 y1 x2 y2
    go_wp2
    exact bodyPost_ret_by (results_cell_row rfl _ _ (w.heap.size + 1 + 1) 47 _ (0, 0) _ rfl (set4_row HO2.out) Tryz.underlying47 rfl (by kernel_rfl)) rfl ⟨rfl, Below.set4 HB2.out (by omega) _ _ _ _⟩
theorem bit_word (l : List Nat) (hl : lim l) (j : Nat) : (l.getD (j / 64) 0) / 2 ^ (j % 64) % 2 = val l / 2 ^ j % 2 := by
  have key : ∀ (l : List Nat) (q : Nat), lim l → val l / 18446744073709551616 ^ q % 18446744073709551616 = l.getD q 0 := by
    intro l
    induction l with
    | nil => intro q _; simp [val]
    | cons x t ih =>
      intro q h
      have hx := h 0
      simp only [List.getD_cons_zero] at hx
      cases q with
      | zero => simp only [val, Nat.pow_zero, Nat.div_one, List.getD_cons_zero]; omega
      | succ q =>
        rw [List.getD_cons_succ, ← ih q (fun i => h (i + 1)), val, Nat.pow_succ, Nat.mul_comm (18446744073709551616 ^ q) 18446744073709551616, ← Nat.div_div_eq_div_mul]
        congr 2; omega
  rw [← key l (j / 64) hl]
  have h1 : (18446744073709551616 : Nat) = 2 ^ (j % 64) * (2 * 2 ^ (63 - j % 64)) := by
    rw [← Nat.pow_succ', ← Nat.pow_add, show j % 64 + (63 - j % 64).succ = 64 by omega]
  have h2 : (18446744073709551616 : Nat) ^ (j / 64) * 2 ^ (j % 64) = 2 ^ j := by
    rw [show (18446744073709551616 : Nat) = 2 ^ 64 from rfl, ← Nat.pow_mul, ← Nat.pow_add]
    congr 1; omega
  rw [← h2, ← Nat.div_div_eq_div_mul]
  generalize val l / 18446744073709551616 ^ (j / 64) = y
  rw [h1, Nat.mod_mul_right_div_self, Nat.mod_mul_right_mod]
end Go.Proofs.YtobgimpkkjaolaaGreatDoor
/- Rows in memory that stay while other memory is made. -/
namespace Go.Proofs.YtobgimpkkjaolaaGreatDoor
open Go.RowKit
theorem el_lits (x : Nat) : ∃ a b c d : Nat, el x = #[.int .u64 (a : Int), .int .u64 (b : Int), .int .u64 (c : Int), .int .u64 (d : Int)] := ⟨_, _, _, _, rfl⟩
structure At (w W : World) (rows : List (Nat × Array Value × TypeId)) : Prop where
  rows : ∀ p A T, (p, A, T) ∈ rows → W.heap[p]? = some (.cells A T (0, 0)) ∧ p < W.heap.size
  below : Below w.heap.size w W
theorem At.nil {w W : World} (h : Below w.heap.size w W) : At w W [] := ⟨fun _ _ _ hm => absurd hm (by simp), h⟩
theorem At.step {w W W' : World} {rows : List (Nat × Array Value × TypeId)} (h : At w W rows) (k : Below W.heap.size W W') : At w W' rows :=
  ⟨fun p A T hm => ⟨Below.heap k (h.rows p A T hm).2 (h.rows p A T hm).1, Nat.lt_of_lt_of_le (h.rows p A T hm).2 k.size⟩, Below.chain h.below k⟩
theorem At.drew {w W : World} {rows : List (Nat × Array Value × TypeId)} (h : At w W rows) : At w W.drew rows := ⟨h.rows, h.below.drew⟩
theorem At.alloc {w W : World} {rows : List (Nat × Array Value × TypeId)} (h : At w W rows) (A : Array Value) (T : TypeId) : At w (W.alloc (.cells A T)) ((W.heap.size, A, T) :: rows) := by
  refine ⟨fun p B U hm => ?_, h.below.alloc h.below.size _⟩
  rcases List.mem_cons.1 hm with e | e
  · cases e
    exact ⟨heap_alloc_last _ _, by simp⟩
  · have hr := h.rows p B U e
    exact ⟨(Below.heap_alloc _ _ _ hr.2).trans hr.1, by simp; omega⟩
theorem At.rd {w W : World} {rows : List (Nat × Array Value × TypeId)} (h : At w W rows) {p : Nat} {A : Array Value} {T : TypeId} (hm : (p, A, T) ∈ rows) (i : Nat) : W.cell? ⟨p, i, none⟩ = A[i]? := (row_reads (h.rows p A T hm).1).1 i
theorem BsAt.len {w : World} {v : Value} {bs : List Nat} (h : BsAt w v bs) : ∃ (ao : Option Addr) (c : Nat), v = .slice ao bs.length c ∧ bs.length ≤ c ∧ c ≤ 9223372036854775807 := by
  obtain ⟨b, o, c, ao, e, hc, hm, _⟩ := h
  exact ⟨ao, c, e, hc, by unfold maxLen at hm; omega⟩
end Go.Proofs.YtobgimpkkjaolaaGreatDoor
/- A number to an exponent, bit by bit, as the program's call answers it, in any world. -/
namespace Go.Proofs.YtobgimpkkjaolaaGreatDoor
open Go.RowKit
theorem At.set4 {w W : World} {rows : List (Nat × Array Value × TypeId)} (h : At w W rows) {g : Nat} (hg : w.heap.size ≤ g) (hne : ∀ p A T, (p, A, T) ∈ rows → p ≠ g) (v0 v1 v2 v3 : Value) :
    At w ((((W.setCell ⟨g, 0, none⟩ v0).setCell ⟨g, 1, none⟩ v1).setCell ⟨g, 2, none⟩ v2).setCell ⟨g, 3, none⟩ v3) rows :=
  ⟨fun p A T hm => ⟨(set4_other _ _ _ _ (hne p A T hm)).trans (h.rows p A T hm).1, by simpa using (h.rows p A T hm).2⟩, Below.set4 h.below hg _ _ _ _⟩
set_option maxRecDepth 100000 in
set_option maxHeartbeats 4000000 in
theorem power_any (x : Nat) (hx : x < pp) (le : List Nat) (hle : le.length = 4) (hlim : lim le) (w : World) :
    Calls Tryz.prog 111 #[.agg (el x), .agg (na le)] w fun e w' => e = .returned (.agg (el (pw x (val le)))) ∧ Below w.heap.size w w' := by
  have h1 := small_any 1 (by decide)
  obtain ⟨a, b, c, d, he⟩ : ∃ a b c d : Nat, el (x) = #[.int .u64 (a : Int), .int .u64 (b : Int), .int .u64 (c : Int), .int .u64 (d : Int)] := ⟨_, _, _, _, rfl⟩
  obtain ⟨o1, o2, o3, o4, ho⟩ : ∃ a b c d : Nat, el (1) = #[.int .u64 (a : Int), .int .u64 (b : Int), .int .u64 (c : Int), .int .u64 (d : Int)] := ⟨_, _, _, _, rfl⟩
  rw [ho] at h1
  have HO := hide ho
  have HE := hide he
  have HX := hide hx
  have HLE := hide (And.intro hle hlim)
  rw [he]
  clear he hx ho hle hlim
  go_enter Tryz.func111, Tryz.ntmps111
  go_wp2_with fail
  refine (h1 _).mono ?_
  rintro e w1 ⟨rfl, b1⟩
  have A0 := hide (((((At.nil (Below.refl w.heap.size w)).alloc #[.int .u64 (a : Int), .int .u64 (b : Int), .int .u64 (c : Int), .int .u64 (d : Int)] 47).alloc (na le) 45).alloc #[.int .u64 0, .int .u64 0, .int .u64 0, .int .u64 0] 47).alloc #[Value.func (Fn.func 117) #[] #[], Value.func (Fn.func 118) #[] #[]] 133)
  have A1 := hide (A0.out.step b1)
  simp only [World.size_alloc] at A1
  have hw1 : w.heap.size + 1 + 1 + 1 < w1.heap.size := (A1.out.rows (w.heap.size + 1 + 1 + 1) #[Value.func (Fn.func 117) #[] #[], Value.func (Fn.func 118) #[] #[]] 133 (by simp)).2
  clear b1 A0 h1
  go_wp2
  go_loopw [7] (fun i wr => ∃ k r0 r1 r2 r3 : Nat, k ≤ 256 ∧ i = .int .i64 ((k : Int) - 1) ∧ #[.int .u64 (r0 : Int), .int .u64 (r1 : Int), .int .u64 (r2 : Int), .int .u64 (r3 : Int)] = el (pw x (val le / 2 ^ k)) ∧ wr.heap[w1.heap.size]? = some (.cells #[.int .u64 (r0 : Int), .int .u64 (r1 : Int), .int .u64 (r2 : Int), .int .u64 (r3 : Int)] 47 (0, 0)) ∧ w1.heap.size < wr.heap.size ∧ At w wr [(w.heap.size + 1 + 1 + 1, #[Value.func (Fn.func 117) #[] #[], Value.func (Fn.func 118) #[] #[]], 133), (w.heap.size + 1 + 1, #[.int .u64 0, .int .u64 0, .int .u64 0, .int .u64 0], 47), (w.heap.size + 1, na le, 45), (w.heap.size, #[.int .u64 (a : Int), .int .u64 (b : Int), .int .u64 (c : Int), .int .u64 (d : Int)], 47)]) (fun i _ => (intOf i + 1).toNat)
  case atStart =>
    refine ⟨256, o1, o2, o3, o4, Nat.le_refl _, rfl, ?_, heap_alloc_last _ _, by simp, ?_⟩
    · rw [← HO.out]
      have hlt := val_lt HLE.out.2
      rw [HLE.out.1] at hlt
      rw [Nat.div_eq_of_lt (Nat.lt_of_lt_of_le hlt (by decide)), pw_none]
    · exact A1.out.step ((Below.refl _ _).alloc (Nat.le_refl _) _)
  case round =>
    obtain ⟨k, r0, r1, r2, r3, hk, rfl, hrow, hR, hlt6, hAt⟩ := hrel
    have AT := hide hAt
    have HR := hide hR
    cases k with
    | zero =>
      have hz := (hAt.rows (w.heap.size + 1 + 1) #[.int .u64 0, .int .u64 0, .int .u64 0, .int .u64 0] 47 (by simp)).1
      have HZ := hide hz
      obtain ⟨cr, cr2⟩ := row_reads hR
      obtain ⟨cz, cz2⟩ := row_reads hz
      have HROW := hide hrow
      clear hz hR hAt hrow
      go_wp2
      refine bodyPost_ret_by (results_cell_row rfl _ _ (w.heap.size + 1 + 1) 47 _ (0, 0) _ rfl (set4_row HZ.out) Tryz.underlying47 rfl (by kernel_rfl)) rfl ⟨?_, Below.set4 AT.out.below (by omega) _ _ _ _⟩
      rw [HROW.out, Nat.pow_zero, Nat.div_one]
    | succ j =>
      rw [show (((j + 1 : Nat) : Int) - 1) = (j : Int) by omega]
      have hpd : pw x (val le / 2 ^ (j + 1)) < pp := pw_lt _ _
      obtain ⟨y, hy⟩ : ∃ y, le.getD (j / 64) 0 = y := ⟨_, rfl⟩
      have hyl : y < 18446744073709551616 := by rw [← hy]; exact HLE.out.2 _
      obtain ⟨bit, hbb⟩ : ∃ bit, y / 2 ^ (j % 64) % 2 = bit := ⟨_, rfl⟩
      have hbit : bits BinOp.and IntKind.u64 ((y : Int) / 2 ^ (j % 64)) 1 = (bit : Int) := by
        have h := and_one (y / 2 ^ (j % 64)) (Nat.lt_of_le_of_lt (Nat.div_le_self _ _) hyl)
        rw [hbb] at h
        rw [← h]; simp
      have hval : val le / 2 ^ j % 2 = bit := by
        rw [← bit_word le HLE.out.2 j, hy, hbb]
      have HPW : Hid (pw x (val le / 2 ^ j) = if bit = 1 then pw x (val le / 2 ^ (j + 1)) * pw x (val le / 2 ^ (j + 1)) % pp * x % pp else pw x (val le / 2 ^ (j + 1)) * pw x (val le / 2 ^ (j + 1)) % pp) := by
        show _ = _
        rw [half (val le) j, hval]
        split
        · rename_i h; rw [h, pw_odd]
        · rename_i h
          rw [show bit = 0 by omega, Nat.add_zero, pw_even]
      obtain ⟨q0, q1, q2, q3, hq⟩ : ∃ a b c d : Nat, el (pw x (val le / 2 ^ j)) = #[.int .u64 (a : Int), .int .u64 (b : Int), .int .u64 (c : Int), .int .u64 (d : Int)] := ⟨_, _, _, _, rfl⟩
      have HQ := hide hq
      have cw : wr.cell? ⟨w.heap.size + 1, j / 64, none⟩ = some (.int .u64 (y : Int)) := by
        rw [hAt.rd (p := w.heap.size + 1) (T := 45) (A := na le) (by simp), na_get _ _ (by rw [HLE.out.1]; omega), hy]
      have ca : ∀ i, wr.cell? ⟨w.heap.size, i, none⟩ = (#[.int .u64 (a : Int), .int .u64 (b : Int), .int .u64 (c : Int), .int .u64 (d : Int)] : Array Value)[i]? := hAt.rd (T := 47) (by simp)
      have cf : ∀ i, wr.cell? ⟨w.heap.size + 1 + 1 + 1, i, none⟩ = (#[Value.func (Fn.func 117) #[] #[], Value.func (Fn.func 118) #[] #[]] : Array Value)[i]? := hAt.rd (T := 133) (by simp)
      obtain ⟨cr, cr2⟩ := row_reads hR
      have HROW := hide hrow
      have hb2 : bit = 0 ∨ bit = 1 := by omega
      have j0 : (0 : Int) ≤ (j : Int) := by omega
      have j1 : (0 : Int) ≤ (j : Int) / 64 := by omega
      have j2 : (j : Int) / 64 < 4 := by omega
      have HBV := hide (And.intro hbb hval)
      clear hAt hR hq hy hbb hval hyl
      have hd : decide ((0 : Int) ≤ (j : Int)) = true := decide_eq_true j0
      rcases hb2 with hbz | hbz
      · have hbits : bits BinOp.and IntKind.u64 ((y : Int) / 2 ^ (j % 64)) 1 = 0 := by rw [hbit, hbz]; rfl
        have HC : Hid (∀ W : World, Calls Tryz.prog 117 #[.agg #[.int .u64 (r0 : Int), .int .u64 (r1 : Int), .int .u64 (r2 : Int), .int .u64 (r3 : Int)], .agg #[.int .u64 (a : Int), .int .u64 (b : Int), .int .u64 (c : Int), .int .u64 (d : Int)]] W fun e w' => e = .returned (.agg #[.int .u64 (q0 : Int), .int .u64 (q1 : Int), .int .u64 (q2 : Int), .int .u64 (q3 : Int)]) ∧ Below W.heap.size W w') := by
          intro W
          have h := alone_any (pw x (val le / 2 ^ (j + 1))) x hpd W
          have e := HPW.out
          rw [if_neg (by omega)] at e
          rw [HROW.out, ← HE.out, ← HQ.out, e]; exact h
        clear hbit hrow hbz hpd HPW
        go_wp2
        go_region_with ((go_at_call 117; with_reducible refine (HC.out _).mono ?_; rintro e w5 ⟨rfl, b5⟩; obtain ⟨z1, z2⟩ := row_reads (Below.heap b5 hlt6 HR.out)))
        all_goals
          have R5 := hide (Below.heap b5 hlt6 HR.out)
          have T5 := hide (AT.out.drew.step b5)
          have hlt5 : w1.heap.size < w5.heap.size := Nat.lt_of_lt_of_le hlt6 b5.size
          clear cw ca cf cr cr2 z1 z2 b5 HC hbits
          go_wp2
          go_roundw
          case rel =>
            refine ⟨j, q0, q1, q2, q3, by omega, rfl, HQ.out.symm, set4_row R5.out, by simpa using hlt5, T5.out.set4 (by omega) ?_ _ _ _ _⟩
            intro p A T hm
            simp only [List.mem_cons, Prod.mk.injEq, List.not_mem_nil, or_false] at hm
            rcases hm with ⟨rfl, _⟩ | ⟨rfl, _⟩ | ⟨rfl, _⟩ | ⟨rfl, _⟩ <;> omega
          case measure => simp [intOf]
      · have hbits : bits BinOp.and IntKind.u64 ((y : Int) / 2 ^ (j % 64)) 1 = 1 := by rw [hbit, hbz]; rfl
        have HC : Hid (∀ W : World, Calls Tryz.prog 118 #[.agg #[.int .u64 (r0 : Int), .int .u64 (r1 : Int), .int .u64 (r2 : Int), .int .u64 (r3 : Int)], .agg #[.int .u64 (a : Int), .int .u64 (b : Int), .int .u64 (c : Int), .int .u64 (d : Int)]] W fun e w' => e = .returned (.agg #[.int .u64 (q0 : Int), .int .u64 (q1 : Int), .int .u64 (q2 : Int), .int .u64 (q3 : Int)]) ∧ Below W.heap.size W w') := by
          intro W
          have h := times_any (pw x (val le / 2 ^ (j + 1))) x hpd HX.out W
          have e := HPW.out
          rw [if_pos hbz] at e
          rw [HROW.out, ← HE.out, ← HQ.out, e]; exact h
        clear hbit hrow hbz hpd HPW
        go_wp2
        go_region_with ((go_at_call 118; with_reducible refine (HC.out _).mono ?_; rintro e w5 ⟨rfl, b5⟩; obtain ⟨z1, z2⟩ := row_reads (Below.heap b5 hlt6 HR.out)))
        all_goals
          have R5 := hide (Below.heap b5 hlt6 HR.out)
          have T5 := hide (AT.out.drew.step b5)
          have hlt5 : w1.heap.size < w5.heap.size := Nat.lt_of_lt_of_le hlt6 b5.size
          clear cw ca cf cr cr2 z1 z2 b5 HC hbits
          go_wp2
          go_roundw
          case rel =>
            refine ⟨j, q0, q1, q2, q3, by omega, rfl, HQ.out.symm, set4_row R5.out, by simpa using hlt5, T5.out.set4 (by omega) ?_ _ _ _ _⟩
            intro p A T hm
            simp only [List.mem_cons, Prod.mk.injEq, List.not_mem_nil, or_false] at hm
            rcases hm with ⟨rfl, _⟩ | ⟨rfl, _⟩ | ⟨rfl, _⟩ | ⟨rfl, _⟩ <;> omega
          case measure => simp [intOf]
end Go.Proofs.YtobgimpkkjaolaaGreatDoor
