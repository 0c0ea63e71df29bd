/- That 2^255 - 19 is a prime, and that every number that it does not divide, to the p - 1, leaves 1. -/
namespace Go.Proofs.YteplbagjagimdaaDoor
def IsP (n : Nat) : Prop := 2 ≤ n ∧ ∀ d, d ∣ n → d = 1 ∨ d = n
theorem IsP.euclid {p a b : Nat} (hp : IsP p) (h : p ∣ a * b) : p ∣ a ∨ p ∣ b := by
  rcases hp.2 (Nat.gcd p a) (Nat.gcd_dvd_left p a) with h1 | h1
  · right
    exact Nat.Coprime.dvd_of_dvd_mul_left h1 h
  · left
    rw [← h1]; exact Nat.gcd_dvd_right p a
def ch : Nat → Nat → Nat
  | _, 0 => 1
  | 0, _ + 1 => 0
  | n + 1, k + 1 => ch n k + ch n (k + 1)
theorem ch_zero (n : Nat) : ch n 0 = 1 := by cases n <;> rfl
theorem ch_succ (n k : Nat) : ch (n + 1) (k + 1) = ch n k + ch n (k + 1) := rfl
theorem ch_over : ∀ n k : Nat, n < k → ch n k = 0
  | 0, 0, h => absurd h (by omega)
  | 0, k + 1, _ => rfl
  | n + 1, 0, h => absurd h (by omega)
  | n + 1, k + 1, h => by rw [ch_succ, ch_over n k (by omega), ch_over n (k + 1) (by omega)]
theorem ch_self : ∀ n : Nat, ch n n = 1
  | 0 => rfl
  | n + 1 => by rw [ch_succ, ch_self n, ch_over n (n + 1) (by omega)]
theorem ch_absorb : ∀ n k : Nat, (k + 1) * ch (n + 1) (k + 1) = (n + 1) * ch n k
  | 0, 0 => rfl
  | 0, k + 1 => by
    rw [ch_over 1 (k + 1 + 1) (by omega), ch_over 0 (k + 1) (by omega)]; rfl
  | n + 1, 0 => by
    have h := ch_absorb n 0
    rw [ch_zero] at h ⊢
    rw [ch_succ, ch_zero]
    omega
  | n + 1, j + 1 => by
    have h1 := ch_absorb n (j + 1)
    have h2 := ch_absorb n j
    rw [ch_succ (n + 1) (j + 1), Nat.mul_add, h1]
    rw [Nat.add_mul (j + 1) 1, h2]
    have h3 := ch_succ n j
    rw [Nat.add_mul (n + 1) 1]
    rw [show (n + 1) * ch (n + 1) (j + 1) = (n + 1) * ch n j + (n + 1) * ch n (j + 1) by rw [h3, Nat.mul_add]]
    omega
def sm (f : Nat → Nat) : Nat → Nat
  | 0 => 0
  | m + 1 => sm f m + f m
theorem sm_first (f : Nat → Nat) : ∀ m, sm f (m + 1) = f 0 + sm (fun k => f (k + 1)) m
  | 0 => by simp [sm]
  | m + 1 => by
    rw [sm, sm_first f m, sm]; omega
theorem sm_add (f g : Nat → Nat) : ∀ m, sm (fun k => f k + g k) m = sm f m + sm g m
  | 0 => rfl
  | m + 1 => by simp only [sm, sm_add f g m]; omega
theorem sm_mul (c : Nat) (f : Nat → Nat) : ∀ m, sm (fun k => c * f k) m = c * sm f m
  | 0 => rfl
  | m + 1 => by simp only [sm, sm_mul c f m, Nat.mul_add]
theorem sm_congr {f g : Nat → Nat} : ∀ m, (∀ k, k < m → f k = g k) → sm f m = sm g m
  | 0, _ => rfl
  | m + 1, h => by rw [sm, sm, sm_congr m (fun k hk => h k (by omega)), h m (by omega)]
theorem sm_dvd (p : Nat) {f : Nat → Nat} : ∀ m, (∀ k, k < m → p ∣ f k) → p ∣ sm f m
  | 0, _ => Nat.dvd_zero p
  | m + 1, h => by rw [sm]; exact Nat.dvd_add (sm_dvd p m fun k hk => h k (by omega)) (h m (by omega))
theorem binom (x : Nat) : ∀ n, (x + 1) ^ n = sm (fun k => ch n k * x ^ k) (n + 1)
  | 0 => by simp [sm, ch]
  | n + 1 => by
    have ih := binom x n
    rw [sm_first, ch_zero]
    have e : sm (fun k => ch (n + 1) (k + 1) * x ^ (k + 1)) (n + 1) = x * sm (fun k => ch n k * x ^ k) (n + 1) + sm (fun k => ch n (k + 1) * x ^ (k + 1)) (n + 1) := by
      rw [← sm_mul, ← sm_add]
      refine sm_congr _ fun k _ => ?_
      simp only [ch_succ, Nat.add_mul, Nat.pow_succ]
      rw [show ch n k * (x ^ k * x) = x * (ch n k * x ^ k) by rw [Nat.mul_comm (x ^ k) x, ← Nat.mul_assoc, Nat.mul_comm (ch n k) x, Nat.mul_assoc]]
    have e2 := sm_first (fun k => ch n k * x ^ k) (n + 1)
    have e3 : sm (fun k => ch n k * x ^ k) (n + 1 + 1) = sm (fun k => ch n k * x ^ k) (n + 1) := by
      rw [sm, ch_over n (n + 1) (by omega)]; omega
    simp only [ch_zero, Nat.pow_zero] at e2
    rw [e, Nat.pow_succ, ih, Nat.mul_add, Nat.mul_comm]
    simp only [Nat.pow_zero]
    omega
theorem ch_dvd {p : Nat} (hp : IsP p) (k : Nat) (h1 : 0 < k) (h2 : k < p) : p ∣ ch p k := by
  obtain ⟨n, rfl⟩ : ∃ n, p = n + 1 := ⟨p - 1, by omega⟩
  obtain ⟨j, rfl⟩ : ∃ j, k = j + 1 := ⟨k - 1, by omega⟩
  have h := ch_absorb n j
  have hd : (n + 1) ∣ (j + 1) * ch (n + 1) (j + 1) := by rw [h]; exact Nat.dvd_mul_right _ _
  rcases hp.euclid hd with h3 | h3
  · exact absurd (Nat.le_of_dvd (by omega) h3) (by omega)
  · exact h3
theorem flt {p : Nat} (hp : IsP p) : ∀ x, x ^ p % p = x % p
  | 0 => by rw [Nat.zero_pow (by have := hp.1; omega)]
  | x + 1 => by
    have ih := flt hp x
    obtain ⟨n, hn⟩ : ∃ n, p = n + 1 := ⟨p - 1, by have := hp.1; omega⟩
    have h0 := binom x p
    rw [sm, ch_self, Nat.one_mul] at h0
    have h1 : sm (fun k => ch p k * x ^ k) p = 1 + sm (fun k => ch p (k + 1) * x ^ (k + 1)) n := by
      rw [hn, sm_first, ch_zero, Nat.pow_zero]
    have h2 : p ∣ sm (fun k => ch p (k + 1) * x ^ (k + 1)) n := sm_dvd p n fun k hk => Nat.dvd_trans (ch_dvd hp (k + 1) (by omega) (by omega)) (Nat.dvd_mul_right _ _)
    obtain ⟨c, hc⟩ := h2
    rw [h0, h1, hc]
    rw [show 1 + p * c + x ^ p = 1 + x ^ p + p * c by omega, Nat.add_mul_mod_self_left, Nat.add_mod, ih, ← Nat.add_mod, Nat.add_comm]
theorem mod_sub_dvd {p a b : Nat} (h : b ≤ a) (e : a % p = b % p) : p ∣ a - b := by
  refine ⟨a / p - b / p, ?_⟩
  have h1 := Nat.div_add_mod a p
  have h2 := Nat.div_add_mod b p
  have h3 : b / p ≤ a / p := Nat.div_le_div_right h
  rw [Nat.mul_sub]
  omega
theorem flt1 {p : Nat} (hp : IsP p) (x : Nat) (hx : x % p ≠ 0) : x ^ (p - 1) % p = 1 := by
  have h := flt hp x
  have h2 := hp.1
  have e : x ^ p = x * x ^ (p - 1) := by
    rw [show p = (p - 1) + 1 by omega, Nat.pow_succ, Nat.mul_comm]; rfl
  have hx0 : 0 < x := by
    rcases Nat.eq_zero_or_pos x with h0 | h0
    · exact absurd (by rw [h0]; exact Nat.zero_mod p) hx
    · exact h0
  have hpos : 0 < x ^ (p - 1) := Nat.pow_pos hx0
  have hle : x ≤ x ^ p := by rw [e]; exact Nat.le_mul_of_pos_right x hpos
  have hd := mod_sub_dvd hle h
  rw [e, show x * x ^ (p - 1) - x = x * (x ^ (p - 1) - 1) by rw [Nat.mul_sub, Nat.mul_one]] at hd
  rcases hp.euclid hd with h3 | h3
  · exact absurd (Nat.mod_eq_zero_of_dvd h3) hx
  · obtain ⟨c, hc⟩ := h3
    rw [show x ^ (p - 1) = 1 + p * c by omega, Nat.add_mul_mod_self_left, Nat.mod_eq_of_lt (by omega)]
/-! A prime by Pocklington. -/
theorem pow_gcd (b n : Nat) : ∀ i j, b ^ i % n = 1 % n → b ^ j % n = 1 % n → b ^ (Nat.gcd i j) % n = 1 % n := by
  intro i j
  refine Nat.gcd.induction (P := fun i j => b ^ i % n = 1 % n → b ^ j % n = 1 % n → b ^ (Nat.gcd i j) % n = 1 % n) i j ?_ ?_
  · intro j _ h2; rw [Nat.gcd_zero_left]; exact h2
  · intro i j hi ih h1 h2
    rw [Nat.gcd_rec]
    refine ih ?_ h1
    have e : b ^ j = (b ^ i) ^ (j / i) * b ^ (j % i) := by
      rw [← Nat.pow_mul, ← Nat.pow_add, Nat.div_add_mod]
    rw [e, Nat.mul_mod, Nat.pow_mod, h1, ← Nat.pow_mod, Nat.one_pow, ← Nat.mul_mod, Nat.one_mul] at h2
    exact h2
theorem pock {N q m a P : Nat} (hq : IsP q) (h : N = q * m + 1) (h1 : a ^ (N - 1) % N = 1) (hg : Nat.gcd (a ^ m % N + (N - 1)) N = 1) (hP : IsP P) (hd : P ∣ N) : q ∣ P - 1 := by
  rcases hq.2 (Nat.gcd q (P - 1)) (Nat.gcd_dvd_left _ _) with hc | hc
  · exfalso
    have hP2 := hP.1
    have h1' : a ^ (q * m) % P = 1 % P := by
      have h1'' : a ^ (q * m) % N = 1 := by rw [show q * m = N - 1 by omega]; exact h1
      rw [← Nat.mod_mod_of_dvd _ hd, h1'']
    have hb : (a ^ m) ^ q % P = 1 % P := by rw [← Nat.pow_mul, Nat.mul_comm]; exact h1'
    have hbz : (a ^ m) % P ≠ 0 := by
      intro h0
      rw [Nat.pow_mod, h0, Nat.zero_pow (by have := hq.1; omega), Nat.zero_mod, Nat.mod_eq_of_lt (by omega)] at hb
      exact absurd hb (by omega)
    have hf := flt1 hP (a ^ m) hbz
    have h3 := pow_gcd (a ^ m) P q (P - 1) hb (by rw [hf, Nat.mod_eq_of_lt (by omega)])
    rw [hc, Nat.pow_one] at h3
    have hd2 : P ∣ a ^ m % N + (N - 1) := by
      have hN : N % P = 0 := Nat.mod_eq_zero_of_dvd hd
      apply Nat.dvd_of_mod_eq_zero
      have e1 : (a ^ m % N) % P = 1 % P := by rw [Nat.mod_mod_of_dvd _ hd]; exact h3
      rw [Nat.add_mod, e1, ← Nat.add_mod, show 1 + (N - 1) = N by omega, hN]
    have hd3 : P ∣ Nat.gcd (a ^ m % N + (N - 1)) N := Nat.dvd_gcd hd2 hd
    rw [hg] at hd3
    have := Nat.le_of_dvd (by omega) hd3
    omega
  · rw [← hc]; exact Nat.gcd_dvd_right _ _
theorem exP : ∀ n, 2 ≤ n → ∃ P, IsP P ∧ P ∣ n := by
  intro n
  induction n using Nat.strongRecOn with
  | ind n ih =>
    intro hn
    by_cases h : IsP n
    · exact ⟨n, h, Nat.dvd_refl n⟩
    · have : ∃ d, d ∣ n ∧ d ≠ 1 ∧ d ≠ n := by
        apply Classical.byContradiction
        intro hne
        apply h
        refine ⟨hn, fun d hd => ?_⟩
        by_cases h1 : d = 1
        · exact Or.inl h1
        · by_cases h2 : d = n
          · exact Or.inr h2
          · exact absurd ⟨d, hd, h1, h2⟩ hne
      obtain ⟨d, hd, h1, h2⟩ := this
      have hle := Nat.le_of_dvd (by omega) hd
      have hpos := Nat.pos_of_dvd_of_pos hd (by omega)
      obtain ⟨P, hP, hPd⟩ := ih d (by omega) (by omega)
      exact ⟨P, hP, Nat.dvd_trans hPd hd⟩
theorem isP_of {n : Nat} (hn : 2 ≤ n) (h : ∀ P, IsP P → P ∣ n → n < P * P) : IsP n := by
  refine ⟨hn, fun d hd => ?_⟩
  obtain ⟨e, he⟩ := hd
  by_cases h1 : d = 1
  · exact Or.inl h1
  · by_cases h2 : e = 1
    · right; rw [he, h2, Nat.mul_one]
    · exfalso
      have hd0 : d ≠ 0 := by intro h0; rw [h0, Nat.zero_mul] at he; omega
      have he0 : e ≠ 0 := by intro h0; rw [h0, Nat.mul_zero] at he; omega
      rcases Nat.le_total d e with hle | hle
      · obtain ⟨P, hP, hPd⟩ := exP d (by omega)
        have := h P hP (Nat.dvd_trans hPd ⟨e, he⟩)
        have hPle := Nat.le_of_dvd (by omega) hPd
        have : P * P ≤ d * e := Nat.mul_le_mul hPle (Nat.le_trans hPle hle)
        omega
      · obtain ⟨P, hP, hPd⟩ := exP e (by omega)
        have := h P hP (Nat.dvd_trans hPd ⟨d, by rw [he, Nat.mul_comm]⟩)
        have hPle := Nat.le_of_dvd (by omega) hPd
        have : P * P ≤ d * e := Nat.mul_le_mul (Nat.le_trans hPle hle) hPle
        omega
/-- No number from 2 to k + 1 divides n. -/
def tdiv (n : Nat) : Nat → Bool
  | 0 => true
  | k + 1 => cond (Nat.beq (n % (k + 2)) 0) false (tdiv n k)
theorem tdiv_no (n : Nat) : ∀ k, tdiv n k = true → ∀ d, 2 ≤ d → d ≤ k + 1 → n % d ≠ 0
  | 0, _, d, h1, h2 => absurd h1 (by omega)
  | k + 1, h, d, h1, h2 => by
    have hb : Nat.beq (n % (k + 2)) 0 = false := by
      cases hq : Nat.beq (n % (k + 2)) 0 with
      | false => rfl
      | true => rw [tdiv, hq] at h; exact Bool.noConfusion h
    rw [tdiv, hb] at h
    by_cases e : d = k + 2
    · intro h0; rw [e] at h0; rw [h0] at hb; exact absurd hb (by decide)
    · exact tdiv_no n k h d h1 (by omega)
theorem isP_small (n k : Nat) (hn : 2 ≤ n) (hk : n < (k + 2) * (k + 2)) (h : tdiv n k = true) : IsP n := by
  refine isP_of hn fun P hP hd => ?_
  have h1 := tdiv_no n k h P hP.1
  have h2 := Nat.mod_eq_zero_of_dvd hd
  have h3 : k + 2 ≤ P := by
    apply Classical.byContradiction
    intro hc
    exact h1 (by omega) h2
  exact Nat.lt_of_lt_of_le hk (Nat.mul_le_mul h3 h3)
/-- Powers, to be reckoned. -/
def pm (N : Nat) : Nat → Nat → Nat → Nat → Nat
  | 0, _, acc, _ => acc
  | f + 1, b, acc, e => pm N f (b * b % N) (cond (Nat.beq (e % 2) 1) (acc * b % N) acc) (e / 2)
theorem pm_eq (N : Nat) : ∀ f b acc e, e < 2 ^ f → pm N f b acc e % N = acc * b ^ e % N
  | 0, b, acc, e, h => by
    have : e = 0 := by simpa using h
    rw [this, pm, Nat.pow_zero, Nat.mul_one]
  | f + 1, b, acc, e, h => by
    rw [pm, pm_eq N f _ _ _ (by rw [Nat.pow_succ] at h; omega)]
    have hpw : (b * b % N) ^ (e / 2) % N = (b * b) ^ (e / 2) % N := (Nat.pow_mod _ _ _).symm
    have h2 : (b * b) ^ (e / 2) = b ^ (2 * (e / 2)) := by rw [Nat.pow_mul]; congr 1; rw [Nat.pow_two]
    rw [Nat.mul_mod, hpw, ← Nat.mul_mod, h2]
    rcases Nat.mod_two_eq_zero_or_one e with h0 | h0
    · rw [h0]
      show acc * _ % N = _
      rw [show 2 * (e / 2) = e by omega]
    · rw [h0]
      show acc * b % N * _ % N = _
      rw [Nat.mod_mul_mod, Nat.mul_assoc, ← Nat.pow_succ', show (2 * (e / 2)).succ = e by omega]
theorem pm_lt (N : Nat) (hN : 1 < N) : ∀ f b acc e, acc < N → pm N f b acc e < N
  | 0, _, _, _, h => h
  | f + 1, b, acc, e, h => by
    rw [pm]
    refine pm_lt N hN f _ _ _ ?_
    cases Nat.beq (e % 2) 1
    · exact h
    · exact Nat.mod_lt _ (by omega)
theorem pm_pow {N f b e v : Nat} (hN : 1 < N) (he : e < 2 ^ f) (h : pm N f b 1 e = v) : b ^ e % N = v := by
  have h1 := pm_eq N f b 1 e he
  rw [Nat.one_mul, Nat.mod_eq_of_lt (pm_lt N hN f b 1 e hN), h] at h1
  exact h1.symm
theorem pock2 {N q m v f P : Nat} (hq : IsP q) (hN : 1 < N) (h : N = q * m + 1) (h1 : pm N f 2 1 (N - 1) = 1) (h2 : pm N f 2 1 m = v) (hf : N < 2 ^ f) (hm : m < 2 ^ f) (hg : Nat.gcd (v + (N - 1)) N = 1) (hP : IsP P) (hd : P ∣ N) : q ∣ P - 1 := by
  refine pock (a := 2) hq h (pm_pow hN (by omega) h1) ?_ hP hd
  rw [pm_pow hN hm h2]; exact hg
theorem big_of_two {P q r N : Nat} (hP : IsP P) (hc : Nat.gcd q r = 1) (h1 : q ∣ P - 1) (h2 : r ∣ P - 1) (h : N < (q * r) * (q * r)) : N < P * P := by
  have h3 : q * r ∣ P - 1 := Nat.Coprime.mul_dvd_of_dvd_of_dvd hc h1 h2
  have h4 := Nat.le_of_dvd (by have := hP.1; omega) h3
  have h5 : q * r ≤ P := by omega
  exact Nat.lt_of_lt_of_le h (Nat.mul_le_mul h5 h5)
theorem big_of_one {P q N : Nat} (hP : IsP P) (h1 : q ∣ P - 1) (h : N < q * q) : N < P * P := by
  have h4 := Nat.le_of_dvd (by have := hP.1; omega) h1
  have h5 : q ≤ P := by omega
  exact Nat.lt_of_lt_of_le h (Nat.mul_le_mul h5 h5)
theorem p127 : IsP 127 := isP_small 127 11 (by decide) (by decide) (by decide +kernel)
theorem p8574133 : IsP 8574133 := isP_small 8574133 2930 (by decide) (by decide) (by decide +kernel)
theorem p75707 : IsP 75707 := isP_small 75707 280 (by decide) (by decide) (by decide +kernel)
theorem p1923133 : IsP 1923133 := isP_small 1923133 1400 (by decide) (by decide) (by decide +kernel)
theorem p_s : IsP 1919519569386763 := isP_of (by decide +kernel) fun P hP hd =>
  big_of_two hP (q := 127) (r := 8574133) (by decide +kernel)
    (pock2 p127 (N := 1919519569386763) (q := 127) (m := 15114327318006) (v := 576774792492622) (f := 256) (by decide +kernel) (by decide +kernel) (by decide +kernel) (by decide +kernel) (by decide +kernel) (by decide +kernel) (by decide +kernel) hP hd)
    (pock2 p8574133 (N := 1919519569386763) (q := 8574133) (m := 223873314) (v := 1059928654987441) (f := 256) (by decide +kernel) (by decide +kernel) (by decide +kernel) (by decide +kernel) (by decide +kernel) (by decide +kernel) (by decide +kernel) hP hd) (by decide +kernel)
theorem p_r : IsP 75445702479781427272750846543864801 := isP_of (by decide +kernel) fun P hP hd =>
  big_of_two hP (q := 75707) (r := 1919519569386763) (by decide +kernel)
    (pock2 p75707 (N := 75445702479781427272750846543864801) (q := 75707) (m := 996548568557483816196003626400) (v := 58781699294900834553279248901967638) (f := 256) (by decide +kernel) (by decide +kernel) (by decide +kernel) (by decide +kernel) (by decide +kernel) (by decide +kernel) (by decide +kernel) hP hd)
    (pock2 p_s (N := 75445702479781427272750846543864801) (q := 1919519569386763) (m := 39304471641247389600) (v := 56747016255153332959347766392083459) (f := 256) (by decide +kernel) (by decide +kernel) (by decide +kernel) (by decide +kernel) (by decide +kernel) (by decide +kernel) (by decide +kernel) hP hd) (by decide +kernel)
theorem p_q : IsP 74058212732561358302231226437062788676166966415465897661863160754340907 := isP_of (by decide +kernel) fun P hP hd =>
  big_of_two hP (q := 1923133) (r := 75445702479781427272750846543864801) (by decide +kernel)
    (pock2 p1923133 (N := 74058212732561358302231226437062788676166966415465897661863160754340907) (q := 1923133) (m := 38509147694185143878364744631319200843710219946028640589009268082) (v := 52266576830164329332527201090776533817489900267135412990654516667243924) (f := 256) (by decide +kernel) (by decide +kernel) (by decide +kernel) (by decide +kernel) (by decide +kernel) (by decide +kernel) (by decide +kernel) hP hd)
    (pock2 p_r (N := 74058212732561358302231226437062788676166966415465897661863160754340907) (q := 75445702479781427272750846543864801) (m := 981609426360740691344999861639072106) (v := 69490809710348678725736597923071784769591275419387514694139338586948360) (f := 256) (by decide +kernel) (by decide +kernel) (by decide +kernel) (by decide +kernel) (by decide +kernel) (by decide +kernel) (by decide +kernel) hP hd) (by decide +kernel)
/-- The field's number. -/
def pp : Nat := 57896044618658097711785492504343953926634992332820282019728792003956564819949
theorem pp_prime : IsP pp := isP_of (by decide +kernel) fun P hP hd =>
  big_of_one hP (q := 74058212732561358302231226437062788676166966415465897661863160754340907)
    (pock2 p_q (N := pp) (q := 74058212732561358302231226437062788676166966415465897661863160754340907) (m := 781764) (v := 427094198651976259540344842774561673889945192655078505504941250475370961481) (f := 256) (by decide +kernel) (by decide +kernel) (by decide +kernel) (by decide +kernel) (by decide +kernel) (by decide +kernel) (by decide +kernel) hP hd) (by decide +kernel)
theorem pp_eq : pp = 2 ^ 255 - 19 := by decide +kernel
theorem pp_fermat (x : Nat) (hx : x % pp ≠ 0) : x ^ (pp - 1) % pp = 1 := flt1 pp_prime x hx
end Go.Proofs.YteplbagjagimdaaDoor
