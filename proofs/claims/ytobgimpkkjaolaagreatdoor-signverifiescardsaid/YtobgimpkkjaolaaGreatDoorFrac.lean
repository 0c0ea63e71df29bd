/- Fractions that are points: sums, and what they come to. -/
import Derived.Test.YtobgimpkkjaolaaGreatDoorFn3
namespace Go.Proofs.YtobgimpkkjaolaaGreatDoor
open Go.RowKit
def Fr (x y z : Kp) (P : Pt) : Prop := z ≠ 0 ∧ x = P.x * z ∧ y = P.y * z
theorem fr_one (P : Pt) : Fr P.x P.y 1 P := ⟨one_ne_zero, by grind, by grind⟩
theorem fr_zero : Fr 0 1 1 .zero := fr_one .zero
theorem fr_plus {x1 y1 z1 x2 y2 z2 : Kp} {P Q : Pt} (h1 : Fr x1 y1 z1 P) (h2 : Fr x2 y2 z2 Q) : Fr (fpx x1 y1 z1 x2 y2 z2) (fpy x1 y1 z1 x2 y2 z2) (fpz x1 y1 z1 x2 y2 z2) (P.add Q) := by
  obtain ⟨n1, rfl, rfl⟩ := h1
  obtain ⟨n2, rfl, rfl⟩ := h2
  have ax := add_x P Q
  have ay := add_y P Q
  have du := den_plus P.on Q.on
  have dv := den_minus P.on Q.on
  unfold Fr fpx fpy fpz
  generalize (P.add Q).x = X at *
  generalize (P.add Q).y = Y at *
  generalize P.x = p at *
  generalize P.y = q at *
  generalize Q.x = r at *
  generalize Q.y = s at *
  generalize dd = d at *
  obtain ⟨u, hu⟩ : ∃ u, u = 1 + d * p * r * q * s := ⟨_, rfl⟩
  obtain ⟨v, hv⟩ : ∃ v, v = 1 - d * p * r * q * s := ⟨_, rfl⟩
  rw [← hu] at ax du
  rw [← hv] at ay dv
  have e1 : z1 * z2 * (z1 * z2) + d * (p * z1 * (r * z2)) * (q * z1 * (s * z2)) = (z1 * z2) * (z1 * z2) * u := by rw [hu]; clear ax ay du dv hu hv; grind
  have e2 : z1 * z2 * (z1 * z2) - d * (p * z1 * (r * z2)) * (q * z1 * (s * z2)) = (z1 * z2) * (z1 * z2) * v := by rw [hv]; clear ax ay du dv hu hv e1; grind
  rw [e1, e2]
  have nz : (z1 * z2) * (z1 * z2) ≠ 0 := mul_ne (mul_ne n1 n2) (mul_ne n1 n2)
  refine ⟨mul_ne (mul_ne nz du) (mul_ne nz dv), ?_, ?_⟩
  · have : X * (z1 * z2 * (z1 * z2) * u * (z1 * z2 * (z1 * z2) * v)) = (X * u) * (z1 * z2 * (z1 * z2) * (z1 * z2 * (z1 * z2) * v)) := by clear ax ay du dv hu hv e1 e2 nz n1 n2; grind
    rw [this, ax]
    clear ax ay du dv hu hv e1 e2 nz n1 n2 this
    grind
  · have : Y * (z1 * z2 * (z1 * z2) * u * (z1 * z2 * (z1 * z2) * v)) = (Y * v) * (z1 * z2 * (z1 * z2) * (z1 * z2 * (z1 * z2) * u)) := by clear ax ay du dv hu hv e1 e2 nz n1 n2; grind
    rw [this, ay]
    clear ax ay du dv hu hv e1 e2 nz n1 n2 this
    grind
theorem fr_x {x y z : Kp} {P : Pt} (h : Fr x y z P) : x * kinv z = P.x := by
  obtain ⟨n, rfl, rfl⟩ := h
  have := mul_kinv n
  generalize kinv z = i at *
  grind
theorem fr_y {x y z : Kp} {P : Pt} (h : Fr x y z P) : y * kinv z = P.y := by
  obtain ⟨n, rfl, rfl⟩ := h
  have := mul_kinv n
  generalize kinv z = i at *
  grind
def isF (P : Pt) : STy := ⟨fun _ v => ∃ x y z, v = .agg (fe x y z) ∧ Fr x y z P, fun _ h => h⟩
def isP (P : Pt) : STy := ipt P.x P.y
theorem bit_byte (l : List Nat) (hl : ∀ i, l.getD i 0 < 256) (j : Nat) : (l.getD (j / 8) 0) / 2 ^ (j % 8) % 2 = bval l / 2 ^ j % 2 := by
  have key : ∀ (l : List Nat) (q : Nat), (∀ i, l.getD i 0 < 256) → bval l / 256 ^ q % 256 = l.getD q 0 := by
    intro l
    induction l with
    | nil => intro q _; simp [bval]
    | cons x t ih =>
      intro q h
      have hx := h 0
      simp only [List.getD_cons_zero] at hx
      cases q with
      | zero => simp only [bval, Nat.pow_zero, Nat.div_one, List.getD_cons_zero]; omega
      | succ q =>
        rw [List.getD_cons_succ, ← ih q (fun i => h (i + 1)), bval, Nat.pow_succ, Nat.mul_comm (256 ^ q) 256, ← Nat.div_div_eq_div_mul]
        congr 2; omega
  rw [← key l (j / 8) hl]
  have h1 : (256 : Nat) = 2 ^ (j % 8) * (2 * 2 ^ (7 - j % 8)) := by
    rw [← Nat.pow_succ', ← Nat.pow_add, show j % 8 + (7 - j % 8).succ = 8 by omega]
  have h2 : (256 : Nat) ^ (j / 8) * 2 ^ (j % 8) = 2 ^ j := by
    rw [show (256 : Nat) = 2 ^ 8 from rfl, ← Nat.pow_mul, ← Nat.pow_add]
    congr 1; omega
  rw [← h2, ← Nat.div_div_eq_div_mul]
  generalize bval l / 256 ^ (j / 8) = y
  rw [h1, Nat.mod_mul_right_div_self, Nat.mod_mul_right_mod]
theorem bval_lt2 : ∀ (l : List Nat), (∀ i, l.getD i 0 < 256) → bval l < 2 ^ (8 * l.length)
  | [], _ => by simp [bval]
  | x :: t, h => by
    have ih := bval_lt2 t (fun i => by have := h (i + 1); simpa using this)
    have hx := h 0
    simp only [List.getD_cons_zero] at hx
    rw [bval, List.length_cons, Nat.mul_succ, Nat.pow_add]
    show x + 256 * bval t < 2 ^ (8 * t.length) * 256
    generalize 2 ^ (8 * t.length) = q at *
    omega
theorem mul_bit (n j b : Nat) (hb : n / 2 ^ j % 2 = b) (P : Pt) : Pt.mul (n / 2 ^ j) P = if b = 1 then ((Pt.mul (n / 2 ^ (j + 1)) P).add (Pt.mul (n / 2 ^ (j + 1)) P)).add P else (Pt.mul (n / 2 ^ (j + 1)) P).add (Pt.mul (n / 2 ^ (j + 1)) P) := by
  rw [half n j, hb]
  have hb2 : b < 2 := by rw [← hb]; exact Nat.mod_lt _ (by decide)
  by_cases h : b = 1
  · rw [if_pos h, h, mul_succ', mul_two]
  · rw [if_neg h, show b = 0 by omega, Nat.add_zero, mul_two]
end Go.Proofs.YtobgimpkkjaolaaGreatDoor
