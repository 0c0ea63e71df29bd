/- Numbers as rows of words of 64 bits: plain arithmetic, for all rows. -/
namespace Go.Proofs.YteplbagjagimdaaDoor
/-- The number of a row of words, the lowest first. -/
def val : List Nat → Nat
  | [] => 0
  | x :: t => x + 18446744073709551616 * val t
def lim (l : List Nat) : Prop := ∀ i, l.getD i 0 < 18446744073709551616
theorem lim_set {l : List Nat} (h : lim l) (k y : Nat) (hy : y < 18446744073709551616) : lim (l.set k y) := by
  intro i
  have hi := h i
  simp only [List.getD_eq_getElem?_getD, List.getElem?_set] at hi ⊢
  split
  · split
    · exact hy
    · decide
  · exact hi
theorem val_set : ∀ (l : List Nat) (k y : Nat), k < l.length → val (l.set k y) + 18446744073709551616 ^ k * l.getD k 0 = val l + 18446744073709551616 ^ k * y
  | [], k, y, h => absurd h (by simp)
  | x :: t, 0, y, _ => by simp [val]; omega
  | x :: t, k + 1, y, h => by
    have ih := val_set t k y (by simpa using h)
    simp only [List.set_cons_succ, val, List.getD_cons_succ, Nat.pow_succ]
    rw [Nat.mul_comm (18446744073709551616 ^ k), Nat.mul_assoc, Nat.mul_assoc]
    omega
theorem val_take : ∀ (l : List Nat) (k : Nat), k < l.length → val (l.take (k + 1)) = val (l.take k) + 18446744073709551616 ^ k * l.getD k 0
  | [], k, h => absurd h (by simp)
  | x :: t, 0, _ => by simp [val]
  | x :: t, k + 1, h => by
    have ih := val_take t k (by simpa using h)
    rw [List.take_succ_cons, List.take_succ_cons, val, val, ih, List.getD_cons_succ, Nat.pow_succ, Nat.mul_add]
    rw [Nat.mul_comm (18446744073709551616 ^ k) 18446744073709551616, Nat.mul_assoc]
    omega
theorem four {l : List Nat} (h : l.length = 4) : ∃ a b c d, l = [a, b, c, d] := by
  match l, h with
  | [a, b, c, d], _ => exact ⟨a, b, c, d, rfl⟩
theorem eight {l : List Nat} (h : l.length = 8) : ∃ a b c d e f g i, l = [a, b, c, d, e, f, g, i] := by
  match l, h with
  | [a, b, c, d, e, f, g, i], _ => exact ⟨a, b, c, d, e, f, g, i, rfl⟩
theorem val4 (a b c d : Nat) : val [a, b, c, d] = a + 18446744073709551616 * b + 340282366920938463463374607431768211456 * c + 6277101735386680763835789423207666416102355444464034512896 * d := by
  simp only [val]; omega
theorem lim4 {a b c d : Nat} (h : lim [a, b, c, d]) : a < 18446744073709551616 ∧ b < 18446744073709551616 ∧ c < 18446744073709551616 ∧ d < 18446744073709551616 :=
  ⟨h 0, h 1, h 2, h 3⟩
theorem lim4_mk {a b c d : Nat} (h : a < 18446744073709551616 ∧ b < 18446744073709551616 ∧ c < 18446744073709551616 ∧ d < 18446744073709551616) : lim [a, b, c, d] := by
  intro i
  match i with
  | 0 => exact h.1
  | 1 => exact h.2.1
  | 2 => exact h.2.2.1
  | 3 => exact h.2.2.2
  | i + 4 => simp
theorem val_lt : ∀ {l : List Nat}, lim l → val l < 18446744073709551616 ^ l.length
  | [], _ => by simp [val]
  | x :: t, h => by
    have ih := val_lt (l := t) (fun i => h (i + 1))
    have hx := h 0
    simp only [List.getD_cons_zero] at hx
    simp only [val, List.length_cons, Nat.pow_succ]
    omega
/-- A round of a sum: what is there, what comes, what was carried. -/
theorem add_step {l : List Nat} {k x y c P A : Nat} (hk : k < l.length) (hP : 18446744073709551616 ^ k = P) (hx : l.getD k 0 = x) (h : val l + c * P = A) :
    val (l.set k ((x + y + c) % 18446744073709551616)) + (x + y + c) / 18446744073709551616 * 18446744073709551616 ^ (k + 1) = A + P * y := by
  have hs := val_set l k ((x + y + c) % 18446744073709551616) hk
  rw [hP, hx] at hs
  rw [Nat.pow_succ, hP]
  have hd := Nat.div_add_mod (x + y + c) 18446744073709551616
  generalize (x + y + c) % 18446744073709551616 = r at *
  generalize (x + y + c) / 18446744073709551616 = q at *
  have e1 : q * (P * 18446744073709551616) = P * (18446744073709551616 * q) := by
    rw [Nat.mul_comm q, Nat.mul_assoc]
  have e2 : P * (18446744073709551616 * q) + P * r = P * x + P * y + P * c := by
    rw [← Nat.mul_add, hd, Nat.mul_add, Nat.mul_add]
  rw [e1]
  rw [Nat.mul_comm c P] at h
  omega
/-- A round of a product by one word. -/
theorem mul_step {l : List Nat} {k t x P A Y : Nat} (hk : k < l.length) (hP : 18446744073709551616 ^ k = P) (hx : l.getD k 0 = x) (h : val l + Y = A) :
    val (l.set k (t % 18446744073709551616)) + Y + P * x + t / 18446744073709551616 * 18446744073709551616 ^ (k + 1) = A + P * t := by
  have hs := val_set l k (t % 18446744073709551616) hk
  rw [hP, hx] at hs
  rw [Nat.pow_succ, hP]
  have hd := Nat.div_add_mod t 18446744073709551616
  generalize t % 18446744073709551616 = r at *
  generalize t / 18446744073709551616 = q at *
  have e1 : q * (P * 18446744073709551616) = P * (18446744073709551616 * q) := by
    rw [Nat.mul_comm q, Nat.mul_assoc]
  have e2 : P * (18446744073709551616 * q) + P * r = P * t := by rw [← Nat.mul_add, hd]
  rw [e1]
  omega
theorem scale_step {l : List Nat} {k x y a P T V : Nat} (hk : k < l.length) (hP : 18446744073709551616 ^ k = P) (hx : l.getD k 0 = x) (h : val l + a * P + T = V + y * T) :
    val (l.set k ((x * y + a) % 18446744073709551616)) + (x * y + a) / 18446744073709551616 * 18446744073709551616 ^ (k + 1) + (T + P * x) = V + y * (T + P * x) := by
  have hs := mul_step (t := x * y + a) (Y := 0) hk hP hx rfl
  rw [Nat.mul_add P, ← Nat.mul_assoc P] at hs
  rw [Nat.mul_add, Nat.mul_comm y (P * x)]
  rw [Nat.mul_comm a P] at h
  omega
theorem sub_word (x y b : Nat) (hx : x < 18446744073709551616) (hy : y < 18446744073709551616) (hb : b ≤ 1) :
    (x + 18446744073709551616 - y - b) % 18446744073709551616 + y + b = x + 18446744073709551616 * (if x < y + b then 1 else 0) := by
  split <;> omega
theorem sub_step {l : List Nat} {k x y b r b' P W V Q : Nat} (hk : k < l.length) (hP : 18446744073709551616 ^ k = P) (hy : l.getD k 0 = y) (hr : r + y + b = x + 18446744073709551616 * b')
    (h : val l + 2 * W = V + Q + b * P) : val (l.set k r) + 2 * (W + P * y) = V + (Q + P * x) + b' * 18446744073709551616 ^ (k + 1) := by
  have hs := val_set l k r hk
  rw [hP, hy] at hs
  rw [Nat.pow_succ, hP]
  have e : P * r + P * y + P * b = P * x + P * (18446744073709551616 * b') := by
    rw [← Nat.mul_add, ← Nat.mul_add, hr, Nat.mul_add]
  have e1 : b' * (P * 18446744073709551616) = P * (18446744073709551616 * b') := by
    rw [Nat.mul_comm b', Nat.mul_assoc]
  rw [Nat.mul_comm b P] at h
  omega
/-- A round of a product of rows. -/
theorem row_step {l : List Nat} {i j x y z a P V T : Nat} (hk : i + j < l.length) (hP : 18446744073709551616 ^ (i + j) = P) (hz : l.getD (i + j) 0 = z) (h : val l + a * P = V + T) :
    val (l.set (i + j) ((x * y + z + a) % 18446744073709551616)) + (x * y + z + a) / 18446744073709551616 * 18446744073709551616 ^ (i + (j + 1)) = V + (T + P * (x * y)) := by
  have hs := mul_step (t := x * y + z + a) (Y := 0) hk hP hz rfl
  rw [Nat.mul_add P, Nat.mul_add P] at hs
  rw [Nat.mul_comm a P] at h
  rw [← Nat.add_assoc i j 1]
  omega
theorem row_step' {l : List Nat} {i j n x y z a V T T' q r : Nat} (hn : i + j = n) (hk : n < l.length) (hz : l.getD n 0 = z) (h : val l + a * 18446744073709551616 ^ n = V + 18446744073709551616 ^ i * (x * T)) (hT : T' = T + 18446744073709551616 ^ j * y)
    (hq : (x * y + z + a) / 18446744073709551616 = q) (hr : (x * y + z + a) % 18446744073709551616 = r) : val (l.set n r) + q * 18446744073709551616 ^ (i + (j + 1)) = V + 18446744073709551616 ^ i * (x * T') := by
  subst hn
  have hst := row_step (x := x) (y := y) hk rfl hz h
  rw [hq, hr] at hst
  rw [hst, hT, Nat.mul_add x, Nat.mul_add (18446744073709551616 ^ i), Nat.pow_add, Nat.mul_assoc (18446744073709551616 ^ i), Nat.mul_left_comm (18446744073709551616 ^ j) x y]
theorem row_end {l : List Nat} {i a V T : Nat} (hk : i + 4 < l.length) (hz : l.getD (i + 4) 0 = 0) (h : val l + a * 18446744073709551616 ^ (i + 4) = V + T) : val (l.set (i + 4) a) = V + T := by
  have hs := val_set l (i + 4) a hk
  rw [hz] at hs
  rw [Nat.mul_comm] at h
  omega
theorem getD_set_ne' {l : List Nat} {k m y : Nat} (h : k ≠ m) : (l.set k y).getD m 0 = l.getD m 0 := by
  simp [List.getD_eq_getElem?_getD, h]
theorem val8 (a b c d e f g i : Nat) : val [a, b, c, d, e, f, g, i] = val [a, b, c, d] + 115792089237316195423570985008687907853269984665640564039457584007913129639936 * val [e, f, g, i] := by
  simp only [val]; omega
theorem word_mul {x y m n : Nat} (hx : x < 18446744073709551616) (hy : y < 18446744073709551616) (hm : m < 18446744073709551616) (hn : n < 18446744073709551616) :
    x * y + m + n < 340282366920938463463374607431768211456 := by
  have h : x * y ≤ 18446744073709551615 * 18446744073709551615 := Nat.mul_le_mul (by omega) (by omega)
  omega
theorem mad_low (p m n : Nat) : ((p % 18446744073709551616 + m) % 18446744073709551616 + n) % 18446744073709551616 = (p + m + n) % 18446744073709551616 := by omega
theorem mad_high (p m n : Nat) : p / 18446744073709551616 + (p % 18446744073709551616 + m) / 18446744073709551616 + ((p % 18446744073709551616 + m) % 18446744073709551616 + n) / 18446744073709551616 = (p + m + n) / 18446744073709551616 := by omega
end Go.Proofs.YteplbagjagimdaaDoor
