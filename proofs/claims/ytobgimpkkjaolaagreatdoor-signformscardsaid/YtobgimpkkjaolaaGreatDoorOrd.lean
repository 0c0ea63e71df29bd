/- The base's order: l times it is nothing, and no small multiple is. -/
import Derived.Test.YtobgimpkkjaolaaGreatDoorFn9
namespace Go.Proofs.YtobgimpkkjaolaaGreatDoor
open Go.RowKit
/-- The order. -/
def lq : Nat := 7237005577332262213973186563042994240857116359379907606001950938285454250989
/-- A sum of fractions of numbers. -/
def np (p q : Nat × Nat × Nat) : Nat × Nat × Nat :=
  let xx := p.1 * q.1 % pp
  let yy := p.2.1 * q.2.1 % pp
  let u := p.2.2 * q.2.2 % pp
  let s := u * u % pp
  let b := 37095705934669439343138083508754565189542113879843219016388785533085940283555 * xx % pp * yy % pp
  let m := (s + b) % pp
  let e := (s + (pp - b)) % pp
  (u * ((p.1 * q.2.1 + q.1 * p.2.1) % pp) % pp * e % pp, u * ((yy + xx) % pp) % pp * m % pp, m * e % pp)
def nB : Nat × Nat × Nat := (15112221349535400772501151409588531511454012693041857206046113283949847762202, 46316835694926478169428394003475163141307993866256225615783033603165251855960, 1)
/-- So often. -/
def nm : Nat → Nat → Nat × Nat × Nat
  | 0, _ => (0, 1, 1)
  | f + 1, n => if n % 2 = 1 then np (np (nm f (n / 2)) (nm f (n / 2))) nB else np (nm f (n / 2)) (nm f (n / 2))
def ofN (n : Nat) : Kp := ⟨n % pp, Nat.mod_lt _ pp_pos⟩
theorem ofN_mul (a b : Nat) : ofN (a * b % pp) = ofN a * ofN b := Fin.ext (by
  rw [kval_mul]; show a * b % pp % pp = (a % pp) * (b % pp) % pp
  rw [Nat.mod_mod, Nat.mod_mul_mod, Nat.mul_mod_mod])
theorem ofN_add (a b : Nat) : ofN ((a + b) % pp) = ofN a + ofN b := Fin.ext (by
  rw [kval_add]; show (a + b) % pp % pp = (a % pp + b % pp) % pp
  rw [Nat.mod_mod, Nat.mod_add_mod, Nat.add_mod_mod])
theorem ofN_neg (n : Nat) : ofN (pp - n % pp) = -(ofN n) := Fin.ext rfl
theorem add_neg_sub (a b : Kp) : a + -b = a - b := by grind
theorem ofN_muls (a b : Nat) : ofN (a * b) = ofN a * ofN b := by
  rw [← ofN_mul]; exact Fin.ext (by show a * b % pp = a * b % pp % pp; rw [Nat.mod_mod])
theorem ofN_adds (a b : Nat) : ofN (a + b) = ofN a + ofN b := by
  rw [← ofN_add]; exact Fin.ext (by show (a + b) % pp = (a + b) % pp % pp; rw [Nat.mod_mod])
theorem ofN_dd : ofN 37095705934669439343138083508754565189542113879843219016388785533085940283555 = dd := by decide +kernel
set_option linter.unusedSimpArgs false in
theorem np_x (p q : Nat × Nat × Nat) : ofN (np p q).1 = fpx (ofN p.1) (ofN p.2.1) (ofN p.2.2) (ofN q.1) (ofN q.2.1) (ofN q.2.2) := by
  unfold np fpx
  simp only [ofN_mul, ofN_neg, ofN_add, ofN_muls, ofN_adds, ofN_dd, add_neg_sub]
set_option linter.unusedSimpArgs false in
theorem np_y (p q : Nat × Nat × Nat) : ofN (np p q).2.1 = fpy (ofN p.1) (ofN p.2.1) (ofN p.2.2) (ofN q.1) (ofN q.2.1) (ofN q.2.2) := by
  unfold np fpy
  simp only [ofN_mul, ofN_neg, ofN_add, ofN_muls, ofN_adds, ofN_dd, add_neg_sub]
set_option linter.unusedSimpArgs false in
theorem np_z (p q : Nat × Nat × Nat) : ofN (np p q).2.2 = fpz (ofN p.1) (ofN p.2.1) (ofN p.2.2) (ofN q.1) (ofN q.2.1) (ofN q.2.2) := by
  unfold np fpz
  simp only [ofN_mul, ofN_neg, ofN_add, ofN_muls, ofN_adds, ofN_dd, add_neg_sub]
/-- Numbers that are a point's fraction. -/
def Nf (p : Nat × Nat × Nat) (P : Pt) : Prop := Fr (ofN p.1) (ofN p.2.1) (ofN p.2.2) P
theorem nf_np {p q : Nat × Nat × Nat} {P Q : Pt} (h1 : Nf p P) (h2 : Nf q Q) : Nf (np p q) (P.add Q) := by
  unfold Nf
  rw [np_x, np_y, np_z]
  exact fr_plus h1 h2
theorem nf_B : Nf nB Bp := by
  have h1 : ofN nB.1 = Bp.x := by decide +kernel
  have h2 : ofN nB.2.1 = Bp.y := by decide +kernel
  have h3 : ofN nB.2.2 = 1 := by decide +kernel
  unfold Nf
  rw [h1, h2, h3]
  exact fr_one Bp
theorem nf_zero : Nf (0, 1, 1) .zero := by
  have h1 : ofN 0 = 0 := by decide +kernel
  have h2 : ofN 1 = 1 := by decide +kernel
  unfold Nf
  show Fr (ofN 0) (ofN 1) (ofN 1) .zero
  rw [h1, h2]
  exact fr_zero
theorem nf_nm : ∀ (f n : Nat), n < 2 ^ f → Nf (nm f n) (Pt.mul n Bp)
  | 0, n, h => by
    have : n = 0 := by simpa using h
    subst this
    exact nf_zero
  | f + 1, n, h => by
    have ih := nf_nm f (n / 2) (by rw [Nat.pow_succ] at h; omega)
    have e : n = 2 * (n / 2) + n % 2 := by omega
    unfold nm
    by_cases hb : n % 2 = 1
    · rw [if_pos hb]
      have e2 : Pt.mul n Bp = ((Pt.mul (n / 2) Bp).add (Pt.mul (n / 2) Bp)).add Bp := by
        rw [← mul_two, ← mul_succ']; congr 1; omega
      rw [e2]
      exact nf_np (nf_np ih ih) nf_B
    · rw [if_neg hb]
      have e2 : Pt.mul n Bp = (Pt.mul (n / 2) Bp).add (Pt.mul (n / 2) Bp) := by
        rw [← mul_two]; congr 1; omega
      rw [e2]
      exact nf_np ih ih
theorem nf_is_zero {p : Nat × Nat × Nat} {P : Pt} (h : Nf p P) (hx : p.1 = 0) (hy : p.2.1 = p.2.2) : P = .zero := by
  obtain ⟨hz, h1, h2⟩ := h
  rw [hx] at h1
  rw [hy] at h2
  have h0 : ofN 0 = 0 := by decide +kernel
  rw [h0] at h1
  refine Pt.ext' ?_ ?_
  · exact (mul_zero_or h1.symm).resolve_right hz
  · refine mul_cancel hz ?_
    show ofN p.2.2 * P.y = ofN p.2.2 * 1
    generalize ofN p.2.2 = z at *
    grind
theorem lq_comp : (nm 253 lq).1 = 0 ∧ (nm 253 lq).2.1 = (nm 253 lq).2.2 := by decide +kernel
theorem lq_lt : lq < 2 ^ 253 := by decide +kernel
/-- l times the base is nothing. -/
theorem l_base : Pt.mul lq Bp = .zero := nf_is_zero (nf_nm 253 lq lq_lt) lq_comp.1 lq_comp.2
theorem B_ne : Bp ≠ .zero := fun h => by
  have := congrArg Pt.x h
  exact absurd this (by show ¬ bx = (0 : Kp); decide +kernel)
theorem mul_gcd (P : Pt) : ∀ a b : Nat, Pt.mul a P = .zero → Pt.mul b P = .zero → Pt.mul (Nat.gcd a b) P = .zero := by
  intro a b
  induction a, b using Nat.gcd.induction with
  | H0 b => intro _ h; rw [Nat.gcd_zero_left]; exact h
  | H1 a b ha ih =>
    intro h1 h2
    rw [Nat.gcd_rec]
    refine ih ?_ h1
    have e : b = a * (b / a) + b % a := (Nat.div_add_mod b a).symm
    rw [e, mul_add', ← mul_mul', h1, mul_zero', zero_add'] at h2
    exact h2
def tdr (n s : Nat) : Nat → Bool
  | 0 => true
  | k + 1 => n % (s + k) != 0 && tdr n s k
theorem tdr_no (n s : Nat) : ∀ k, tdr n s k = true → ∀ d, s ≤ d → d < s + k → n % d ≠ 0
  | 0, _, d, h1, h2 => by omega
  | k + 1, h, d, h1, h2 => by
    unfold tdr at h
    rw [Bool.and_eq_true, bne_iff_ne] at h
    by_cases e : d = s + k
    · subst e; exact h.1
    · exact tdr_no n s k h.2 d h1 (by omega)
def tdd (n : Nat) : Nat → Bool
  | 0 => true
  | j + 1 => tdr n (2 + 256 * j) 256 && tdd n j
theorem blk (d j : Nat) (h : d < 2 + 256 * (j + 1)) : d < 2 + 256 * j + 256 := by rw [Nat.mul_succ, ← Nat.add_assoc] at h; exact h
theorem tdd_no (n : Nat) : ∀ j, tdd n j = true → ∀ d, 2 ≤ d → d < 2 + 256 * j → n % d ≠ 0
  | 0, _, d, h1, h2 => by omega
  | j + 1, h, d, h1, h2 => by
    unfold tdd at h
    rw [Bool.and_eq_true] at h
    have key : d < 2 + 256 * j + 256 := blk d j h2
    obtain ⟨ha, hb⟩ := h
    by_cases e : 2 + 256 * j ≤ d
    · exact tdr_no n (2 + 256 * j) 256 ha d e key
    · exact tdd_no n j hb d h1 (Nat.lt_of_not_le e)
theorem lq_tdd : tdd lq 256 = true := by kernel_rfl
theorem lq_co {n : Nat} (h0 : 0 < n) (hn : n < 65536) : Nat.gcd (8 * n) lq = 1 := by
  have h8 : Nat.gcd 8 lq = 1 := by decide +kernel
  have h1 : Nat.gcd (8 * n) lq = Nat.gcd n lq := Nat.Coprime.gcd_mul_left_cancel n h8
  rw [h1]
  have hd : Nat.gcd n lq ∣ lq := Nat.gcd_dvd_right _ _
  have hle : Nat.gcd n lq ≤ n := Nat.gcd_le_left _ h0
  have hpos : 0 < Nat.gcd n lq := Nat.gcd_pos_of_pos_left _ h0
  generalize Nat.gcd n lq = g at *
  by_cases h : g = 1
  · exact h
  · exact absurd (Nat.mod_eq_zero_of_dvd hd) (tdd_no lq 256 lq_tdd g (by omega) (by omega))
/-- No small multiple of the base is small. -/
theorem mul8_ne {n : Nat} (h0 : 0 < n) (hn : n < 65536) : Pt.mul (8 * n) Bp ≠ .zero := fun h => by
  have h1 := mul_gcd Bp _ _ h l_base
  rw [lq_co h0 hn, mul_one'] at h1
  exact B_ne h1
theorem small_iff {n : Nat} (hn : n < 65536) : Pt.mul 8 (Pt.mul n Bp) = .zero ↔ n = 0 := by
  rw [mul_mul']
  constructor
  · intro h
    rcases Nat.eq_zero_or_pos n with h0 | h0
    · exact h0
    · rw [Nat.mul_comm] at h
      exact absurd h (mul8_ne h0 hn)
  · rintro rfl
    rw [Nat.zero_mul, mul_none]
theorem k_mul0 (a : Kp) : a * 0 = 0 := by grind
theorem k_0mul (a : Kp) : 0 * a = 0 := by grind
theorem k_sub0 (a : Kp) : a - 0 = a := by grind
theorem k_add0 (a : Kp) : a + 0 = a := by grind
theorem k_1mul (a : Kp) : 1 * a = a := by grind
theorem half_order {P : Pt} (h : P.x = 0) : Pt.mul 2 P = .zero := by
  have ho := P.on
  unfold On at ho
  have e : Pt.mul 2 P = P.add P := by rw [show (2 : Nat) = 1 + 1 from rfl, mul_succ', mul_one']
  rw [e]
  have z1 : dd * P.x * P.x * P.y * P.y = 0 := by rw [h, k_mul0, k_0mul, k_0mul]
  have z2 : P.x * P.x = 0 := by rw [h, k_mul0]
  have z3 : P.x * P.y = 0 := by rw [h, k_0mul]
  rw [z1, z2, k_sub0, k_add0] at ho
  refine add_eq ?_ ?_
  · show 0 * _ = _
    rw [z3, k_0mul, k_add0]
  · show 1 * _ = _
    rw [z1, z2, ho, k_sub0, k_add0, k_1mul]
theorem x_ne {n : Nat} (h0 : 0 < n) (hn : n < 65536) : (Pt.mul n Bp).x ≠ 0 := fun h => by
  have h1 := half_order h
  have h2 : Pt.mul 8 (Pt.mul n Bp) = .zero := by
    rw [show (8 : Nat) = 2 * 4 from rfl, ← mul_mul', h1, mul_zero']
  have := (small_iff hn).1 h2
  omega
end Go.Proofs.YtobgimpkkjaolaaGreatDoor
