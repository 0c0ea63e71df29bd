/- The curve's points and their sums: a group. Plain arithmetic modulo p. -/
import Derived.Test.YtobgimpkkjaolaaGreatDoorMa
namespace Go.Proofs.YtobgimpkkjaolaaGreatDoor
instance ppNe : NeZero pp := ⟨by decide⟩
abbrev Kp := Fin pp
theorem kval_mul (a b : Kp) : (a * b).val = a.val * b.val % pp := Fin.val_mul a b
theorem kval_add (a b : Kp) : (a + b).val = (a.val + b.val) % pp := Fin.val_add a b
theorem kval_neg (a : Kp) : (-a).val = (pp - a.val) % pp := rfl
theorem kval_sub (a b : Kp) : (a - b).val = (a.val + (pp - b.val) % pp) % pp := by
  rw [Fin.sub_def]; show (pp - b.val + a.val) % pp = _
  rw [Nat.add_mod_mod, Nat.add_comm]
theorem kval_zero : (0 : Kp).val = 0 := by decide +kernel
theorem kval_one : (1 : Kp).val = 1 := by decide +kernel
theorem kval_two : (2 : Kp).val = 2 := by decide +kernel
theorem k_ne {a : Kp} : a ≠ 0 ↔ a.val ≠ 0 := by
  constructor
  · intro h e; exact h (Fin.ext (by rw [e, kval_zero]))
  · intro h e; exact h (by rw [e, kval_zero])
theorem one_ne_zero : (1 : Kp) ≠ 0 := by rw [k_ne, kval_one]; decide
theorem two_ne_zero : (2 : Kp) ≠ 0 := by rw [k_ne, kval_two]; decide
theorem k_dvd {n : Nat} (h : pp ∣ n) (hn : n < pp) : n = 0 := Nat.eq_zero_of_dvd_of_lt h hn
theorem mul_zero_or {a b : Kp} (h : a * b = 0) : a = 0 ∨ b = 0 := by
  have h1 : pp ∣ a.val * b.val := by
    have := congrArg Fin.val h
    rw [kval_mul, kval_zero] at this
    exact Nat.dvd_of_mod_eq_zero this
  rcases pp_prime.euclid h1 with h2 | h2
  · exact .inl (Fin.ext (by rw [kval_zero]; exact k_dvd h2 a.isLt))
  · exact .inr (Fin.ext (by rw [kval_zero]; exact k_dvd h2 b.isLt))
theorem mul_ne {a b : Kp} (ha : a ≠ 0) (hb : b ≠ 0) : a * b ≠ 0 := fun h => (mul_zero_or h).elim ha hb
theorem mul_cancel {a b c : Kp} (ha : a ≠ 0) (h : a * b = a * c) : b = c := by
  have : a * (b - c) = 0 := by grind
  rcases mul_zero_or this with h | h
  · exact absurd h ha
  · grind
def kpw (a : Kp) (e : Nat) : Kp := ⟨pw a.val e, pw_lt _ _⟩
theorem kpw_mul (a b : Kp) (e : Nat) : kpw (a * b) e = kpw a e * kpw b e := Fin.ext (by
  rw [kval_mul]; show pw (a * b).val e = _; rw [kval_mul]; exact pw_mul _ _ _)
theorem kpw_add (a : Kp) (m n : Nat) : kpw a (m + n) = kpw a m * kpw a n := Fin.ext (by
  rw [kval_mul]; show pw _ _ = pw _ _ * pw _ _ % pp
  unfold pw
  rw [Nat.mod_mul_mod, Nat.mul_mod_mod, ← Nat.pow_add])
theorem kpw_one (a : Kp) : kpw a 1 = a := Fin.ext (by
  show a.val ^ 1 % pp = _; rw [Nat.pow_one, Nat.mod_eq_of_lt a.isLt])
theorem kpw_fermat {a : Kp} (h : a ≠ 0) (e : Nat) (he : e = pp - 1) : kpw a e = 1 := Fin.ext (by
  rw [kval_one, he]
  exact flt1 pp_prime a.val (by rw [Nat.mod_eq_of_lt a.isLt]; exact k_ne.1 h))
def kinv (a : Kp) : Kp := kpw a ex
theorem mul_kinv {a : Kp} (h : a ≠ 0) : a * kinv a = 1 := by
  have h1 : a * kinv a = kpw a (1 + ex) := by rw [kpw_add, kpw_one]; rfl
  rw [h1]
  exact kpw_fermat h _ (by have := ex_eq; omega)
def dd : Kp := ⟨37095705934669439343138083508754565189542113879843219016388785533085940283555, by decide⟩
def rm : Kp := ⟨19681161376707505956807079304988542015446066515923890162744021073123829784752, by decide⟩
theorem rm_sq : rm * rm = -1 := by decide +kernel
def hx : Nat := 28948022309329048855892746252171976963317496166410141009864396001978282409974
theorem hx_eq : 2 * hx = pp - 1 := by decide +kernel
theorem kpw_by {a : Kp} {e v : Nat} (he : e < 2 ^ 256) (h : pm pp 256 a.val 1 e = v) : (kpw a e).val = v := pm_pow (by decide) he h
theorem dd_pow : kpw dd hx = -1 := Fin.ext ((kpw_by (by decide +kernel) (v := pp - 1) (by decide +kernel)).trans (by decide +kernel))
theorem neg_one_ne : (-1 : Kp) ≠ 1 := by decide +kernel
theorem nsq {z w : Kp} (h : dd * (z * z) = w * w) : z = 0 := by
  rcases Decidable.em (z = 0) with h0 | h0
  · exact h0
  · exfalso
    have hw : w ≠ 0 := by
      intro hw
      have : dd * (z * z) = 0 := by rw [h, hw]; grind
      exact mul_ne (a := dd) (by decide +kernel) (mul_ne h0 h0) this
    have h1 := congrArg (fun a => kpw a hx) h
    simp only [kpw_mul] at h1
    have h2 : kpw z hx * kpw z hx = 1 := by rw [← kpw_add]; exact kpw_fermat h0 _ (by have := hx_eq; omega)
    have h3 : kpw w hx * kpw w hx = 1 := by rw [← kpw_add]; exact kpw_fermat hw _ (by have := hx_eq; omega)
    rw [h2, h3, dd_pow] at h1
    exact neg_one_ne (by grind)
def On (x y : Kp) : Prop := y * y - x * x = 1 + dd * x * x * y * y
theorem complete {x1 y1 x2 y2 : Kp} (h1 : On x1 y1) (h2 : On x2 y2) (hs : (dd * x1 * x2 * y1 * y2) * (dd * x1 * x2 * y1 * y2) = 1) : False := by
  unfold On at h1 h2
  have hr := rm_sq
  obtain ⟨s, es⟩ : ∃ s, s = dd * x1 * x2 * y1 * y2 := ⟨_, rfl⟩
  rw [← es] at hs
  have hd : dd ≠ 0 := by decide +kernel
  have a1 : dd * ((x1 * y1 * (rm * x2 + y2)) * (x1 * y1 * (rm * x2 + y2))) = (rm * x1 + s * y1) * (rm * x1 + s * y1) := by
    generalize dd = d at *; generalize rm = r at *; clear hd; grind
  have a2 : dd * ((x1 * y1 * (rm * x2 - y2)) * (x1 * y1 * (rm * x2 - y2))) = (rm * x1 - s * y1) * (rm * x1 - s * y1) := by
    generalize dd = d at *; generalize rm = r at *; clear hd a1; grind
  have b1 := nsq a1
  have b2 := nsq a2
  have hne : x1 * y1 ≠ 0 := by
    intro h
    have : s = 0 := by rw [es]; grind
    rw [this] at hs
    exact one_ne_zero (by grind)
  have c1 := (mul_zero_or b1).resolve_left hne
  have c2 := (mul_zero_or b2).resolve_left hne
  have c3 : 2 * y2 = 0 := by grind
  have c4 := (mul_zero_or c3).resolve_left two_ne_zero
  rw [c4] at es
  have : s = 0 := by rw [es]; grind
  rw [this] at hs
  exact one_ne_zero (by grind)
theorem den_plus {x1 y1 x2 y2 : Kp} (h1 : On x1 y1) (h2 : On x2 y2) : 1 + dd * x1 * x2 * y1 * y2 ≠ 0 := fun h => complete h1 h2 (by grind)
theorem den_minus {x1 y1 x2 y2 : Kp} (h1 : On x1 y1) (h2 : On x2 y2) : 1 - dd * x1 * x2 * y1 * y2 ≠ 0 := fun h => complete h1 h2 (by grind)
structure Pt where
  x : Kp
  y : Kp
  on : On x y
theorem Pt.ext' {p q : Pt} (h1 : p.x = q.x) (h2 : p.y = q.y) : p = q := by
  cases p; cases q; cases h1; cases h2; rfl
theorem on_zero : On 0 1 := by unfold On; grind
def Pt.zero : Pt := ⟨0, 1, on_zero⟩
theorem on_neg {x y : Kp} (h : On x y) : On (-x) y := by unfold On at *; grind
def Pt.neg (p : Pt) : Pt := ⟨-p.x, p.y, on_neg p.on⟩
theorem sum_x {x1 y1 x2 y2 : Kp} (h1 : On x1 y1) (h2 : On x2 y2) : ((x1 * y2 + x2 * y1) * kinv (1 + dd * x1 * x2 * y1 * y2)) * (1 + dd * x1 * x2 * y1 * y2) = x1 * y2 + x2 * y1 := by
  have := mul_kinv (den_plus h1 h2)
  generalize kinv (1 + dd * x1 * x2 * y1 * y2) = i at *
  generalize 1 + dd * x1 * x2 * y1 * y2 = u at *
  grind
theorem sum_y {x1 y1 x2 y2 : Kp} (h1 : On x1 y1) (h2 : On x2 y2) : ((y1 * y2 + x1 * x2) * kinv (1 - dd * x1 * x2 * y1 * y2)) * (1 - dd * x1 * x2 * y1 * y2) = y1 * y2 + x1 * x2 := by
  have := mul_kinv (den_minus h1 h2)
  generalize kinv (1 - dd * x1 * x2 * y1 * y2) = i at *
  generalize 1 - dd * x1 * x2 * y1 * y2 = u at *
  grind
theorem on_core {x1 y1 x2 y2 d X Y : Kp} (h1 : y1 * y1 - x1 * x1 = 1 + d * x1 * x1 * y1 * y1) (h2 : y2 * y2 - x2 * x2 = 1 + d * x2 * x2 * y2 * y2)
    (hX : X * (1 + d * x1 * x2 * y1 * y2) = x1 * y2 + x2 * y1) (hY : Y * (1 - d * x1 * x2 * y1 * y2) = y1 * y2 + x1 * x2) :
    (((1 + d * x1 * x2 * y1 * y2) * (1 - d * x1 * x2 * y1 * y2)) * ((1 + d * x1 * x2 * y1 * y2) * (1 - d * x1 * x2 * y1 * y2))) * (Y * Y - X * X) = (((1 + d * x1 * x2 * y1 * y2) * (1 - d * x1 * x2 * y1 * y2)) * ((1 + d * x1 * x2 * y1 * y2) * (1 - d * x1 * x2 * y1 * y2))) * (1 + d * X * X * Y * Y) := by
  obtain ⟨u, hu⟩ : ∃ u, u = 1 + d * x1 * x2 * y1 * y2 := ⟨_, rfl⟩
  obtain ⟨v, hv⟩ : ∃ v, v = 1 - d * x1 * x2 * y1 * y2 := ⟨_, rfl⟩
  rw [← hu] at hX ⊢
  rw [← hv] at hY ⊢
  have e1 : (u * v * (u * v)) * (Y * Y - X * X) = (u * u) * ((Y * v) * (Y * v)) - (v * v) * ((X * u) * (X * u)) := by grind
  have e2 : (u * v * (u * v)) * (1 + d * X * X * Y * Y) = (u * v) * (u * v) + d * ((X * u) * (X * u)) * ((Y * v) * (Y * v)) := by grind
  rw [e1, e2, hX, hY, hu, hv]
  clear e1 e2 hX hY hu hv
  grind
theorem on_sum {x1 y1 x2 y2 : Kp} (h1 : On x1 y1) (h2 : On x2 y2) : On ((x1 * y2 + x2 * y1) * kinv (1 + dd * x1 * x2 * y1 * y2)) ((y1 * y2 + x1 * x2) * kinv (1 - dd * x1 * x2 * y1 * y2)) := by
  have hn := mul_ne (den_plus h1 h2) (den_minus h1 h2)
  exact mul_cancel (mul_ne hn hn) (on_core h1 h2 (sum_x h1 h2) (sum_y h1 h2))
def Pt.add (p q : Pt) : Pt := ⟨_, _, on_sum p.on q.on⟩
theorem add_x (p q : Pt) : (p.add q).x * (1 + dd * p.x * q.x * p.y * q.y) = p.x * q.y + q.x * p.y := sum_x p.on q.on
theorem add_y (p q : Pt) : (p.add q).y * (1 - dd * p.x * q.x * p.y * q.y) = p.y * q.y + p.x * q.x := sum_y p.on q.on
theorem add_eq {p q r : Pt} (hx : r.x * (1 + dd * p.x * q.x * p.y * q.y) = p.x * q.y + q.x * p.y) (hy : r.y * (1 - dd * p.x * q.x * p.y * q.y) = p.y * q.y + p.x * q.x) : p.add q = r := by
  refine Pt.ext' (mul_cancel (den_plus p.on q.on) ?_) (mul_cancel (den_minus p.on q.on) ?_)
  · have := add_x p q; grind
  · have := add_y p q; grind
theorem add_comm' (p q : Pt) : p.add q = q.add p := by
  apply add_eq
  · have := add_x q p; generalize (q.add p).x = X at *; grind
  · have := add_y q p; generalize (q.add p).y = X at *; grind
theorem add_zero' (p : Pt) : p.add .zero = p := by
  apply add_eq
  · show p.x * (1 + dd * p.x * 0 * p.y * 1) = p.x * 1 + 0 * p.y; grind
  · show p.y * (1 - dd * p.x * 0 * p.y * 1) = p.y * 1 + p.x * 0; grind
theorem tri (P Q R : Pt) : ((P.add Q).add R).x * ((1 + dd * P.x * Q.x * P.y * Q.y) * (1 - dd * P.x * Q.x * P.y * Q.y) + dd * (P.x * Q.y + Q.x * P.y) * (P.y * Q.y + P.x * Q.x) * R.x * R.y) = (P.x * Q.y + Q.x * P.y) * (1 - dd * P.x * Q.x * P.y * Q.y) * R.y + R.x * ((P.y * Q.y + P.x * Q.x) * (1 + dd * P.x * Q.x * P.y * Q.y)) ∧
    ((P.add Q).add R).y * ((1 + dd * P.x * Q.x * P.y * Q.y) * (1 - dd * P.x * Q.x * P.y * Q.y) - dd * (P.x * Q.y + Q.x * P.y) * (P.y * Q.y + P.x * Q.x) * R.x * R.y) = (P.y * Q.y + P.x * Q.x) * (1 + dd * P.x * Q.x * P.y * Q.y) * R.y + R.x * ((P.x * Q.y + Q.x * P.y) * (1 - dd * P.x * Q.x * P.y * Q.y)) ∧
    (1 + dd * P.x * Q.x * P.y * Q.y) * (1 - dd * P.x * Q.x * P.y * Q.y) + dd * (P.x * Q.y + Q.x * P.y) * (P.y * Q.y + P.x * Q.x) * R.x * R.y ≠ 0 ∧
    (1 + dd * P.x * Q.x * P.y * Q.y) * (1 - dd * P.x * Q.x * P.y * Q.y) - dd * (P.x * Q.y + Q.x * P.y) * (P.y * Q.y + P.x * Q.x) * R.x * R.y ≠ 0 := by
  have h1 := add_x P Q
  have h2 := add_y P Q
  have h3 := add_x (P.add Q) R
  have h4 := add_y (P.add Q) R
  have h5 := den_plus (P.add Q).on R.on
  have h6 := den_minus (P.add Q).on R.on
  have h7 := mul_ne (den_plus P.on Q.on) (den_minus P.on Q.on)
  generalize ((P.add Q).add R).x = X at *
  generalize ((P.add Q).add R).y = Y at *
  generalize (P.add Q).x = S at *
  generalize (P.add Q).y = T at *
  generalize 1 + dd * P.x * Q.x * P.y * Q.y = u at *
  generalize 1 - dd * P.x * Q.x * P.y * Q.y = v at *
  generalize P.x * Q.y + Q.x * P.y = A at *
  generalize P.y * Q.y + P.x * Q.x = B at *
  generalize dd = d at *
  have e1 : u * v + d * A * B * R.x * R.y = (u * v) * (1 + d * S * R.x * T * R.y) := by subst h1 h2; clear h3 h4 h5 h6 h7; grind
  have e2 : u * v - d * A * B * R.x * R.y = (u * v) * (1 - d * S * R.x * T * R.y) := by subst h1 h2; clear h3 h4 h5 h6 h7; grind
  refine ⟨?_, ?_, ?_, ?_⟩
  · have : X * ((u * v) * (1 + d * S * R.x * T * R.y)) = (u * v) * (X * (1 + d * S * R.x * T * R.y)) := by clear h1 h2 h3 h4 h5 h6 h7 e1 e2; grind
    rw [e1, this, h3]
    subst h1 h2
    clear h3 h4 h5 h6 h7 this e1 e2
    grind
  · have : Y * ((u * v) * (1 - d * S * R.x * T * R.y)) = (u * v) * (Y * (1 - d * S * R.x * T * R.y)) := by clear h1 h2 h3 h4 h5 h6 h7 e1 e2; grind
    rw [e2, this, h4]
    subst h1 h2
    clear h3 h4 h5 h6 h7 this e1 e2
    grind
  · rw [e1]; exact mul_ne h7 h5
  · rw [e2]; exact mul_ne h7 h6
theorem frac_eq {a b D E N M : Kp} (h1 : a * D = N) (h2 : b * E = M) (h : N * E = M * D) (hD : D ≠ 0) (hE : E ≠ 0) : a = b := by
  refine mul_cancel (mul_ne hD hE) ?_
  have e1 : D * E * a = (a * D) * E := by clear h hD hE; grind
  have e2 : D * E * b = (b * E) * D := by clear h hD hE; grind
  rw [e1, e2, h1, h2, h]
theorem assocX (x1 y1 x2 y2 x3 y3 d : Kp) (e1 : y1*y1 - x1*x1 = 1 + d*x1*x1*y1*y1) (e2 : y2*y2 - x2*x2 = 1 + d*x2*x2*y2*y2) (e3 : y3*y3 - x3*x3 = 1 + d*x3*x3*y3*y3) :
    ((x1*y2+x2*y1)*(1-d*x1*x2*y1*y2)*y3 + x3*((y1*y2+x1*x2)*(1+d*x1*x2*y1*y2))) * ((1+d*x2*x3*y2*y3)*(1-d*x2*x3*y2*y3) + d*(x2*y3+x3*y2)*(y2*y3+x2*x3)*x1*y1) =
    ((x2*y3+x3*y2)*(1-d*x2*x3*y2*y3)*y1 + x1*((y2*y3+x2*x3)*(1+d*x2*x3*y2*y3))) * ((1+d*x1*x2*y1*y2)*(1-d*x1*x2*y1*y2) + d*(x1*y2+x2*y1)*(y1*y2+x1*x2)*x3*y3) := by grind
theorem assocY (x1 y1 x2 y2 x3 y3 d : Kp) (e1 : y1*y1 - x1*x1 = 1 + d*x1*x1*y1*y1) (e2 : y2*y2 - x2*x2 = 1 + d*x2*x2*y2*y2) (e3 : y3*y3 - x3*x3 = 1 + d*x3*x3*y3*y3) :
    ((y1*y2+x1*x2)*(1+d*x1*x2*y1*y2)*y3 + x3*((x1*y2+x2*y1)*(1-d*x1*x2*y1*y2))) * ((1+d*x2*x3*y2*y3)*(1-d*x2*x3*y2*y3) - d*(x2*y3+x3*y2)*(y2*y3+x2*x3)*x1*y1) =
    ((y2*y3+x2*x3)*(1+d*x2*x3*y2*y3)*y1 + x1*((x2*y3+x3*y2)*(1-d*x2*x3*y2*y3))) * ((1+d*x1*x2*y1*y2)*(1-d*x1*x2*y1*y2) - d*(x1*y2+x2*y1)*(y1*y2+x1*x2)*x3*y3) := by grind
theorem add_assoc' (P Q R : Pt) : (P.add Q).add R = P.add (Q.add R) := by
  rw [add_comm' P (Q.add R)]
  obtain ⟨a1, a2, a3, a4⟩ := tri P Q R
  obtain ⟨b1, b2, b3, b4⟩ := tri Q R P
  exact Pt.ext' (frac_eq a1 b1 (assocX P.x P.y Q.x Q.y R.x R.y dd P.on Q.on R.on) a3 b3) (frac_eq a2 b2 (assocY P.x P.y Q.x Q.y R.x R.y dd P.on Q.on R.on) a4 b4)
def Pt.mul : Nat → Pt → Pt
  | 0, _ => .zero
  | n + 1, p => (Pt.mul n p).add p
theorem mul_succ' (n : Nat) (p : Pt) : Pt.mul (n + 1) p = (Pt.mul n p).add p := rfl
theorem mul_none (p : Pt) : Pt.mul 0 p = .zero := rfl
theorem mul_add' (m n : Nat) (p : Pt) : Pt.mul (m + n) p = (Pt.mul m p).add (Pt.mul n p) := by
  induction n with
  | zero => rw [Nat.add_zero, mul_none, add_zero']
  | succ n ih => rw [← Nat.add_assoc, mul_succ', mul_succ', ih, add_assoc']
theorem mul_two (m : Nat) (p : Pt) : Pt.mul (2 * m) p = (Pt.mul m p).add (Pt.mul m p) := by
  rw [← mul_add']; congr 1; omega
end Go.Proofs.YtobgimpkkjaolaaGreatDoor
