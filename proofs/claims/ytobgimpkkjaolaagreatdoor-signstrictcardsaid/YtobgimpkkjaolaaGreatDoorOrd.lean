/- The base's order: l times it is nothing, and no small multiple is. -/
import Derived.Test.YtobgimpkkjaolaaGreatDoorFn9
namespace Go.Proofs.YtobgimpkkjaolaaGreatDoor
open Go.RowKit
def lq : Nat := 7237005577332262213973186563042994240857116359379907606001950938285454250989
def np (p q : Nat × Nat × Nat) : Nat × Nat × Nat :=
  let xx := p.1 * q.1 % pp
  let yy := p.2.1 * q.2.1 % pp
  let u := p.2.2 * q.2.2 % pp
  let s := u * u % pp
  let b := 37095705934669439343138083508754565189542113879843219016388785533085940283555 * xx % pp * yy % pp
  let m := (s + b) % pp
  let e := (s + (pp - b)) % pp
  (u * ((p.1 * q.2.1 + q.1 * p.2.1) % pp) % pp * e % pp, u * ((yy + xx) % pp) % pp * m % pp, m * e % pp)
def nB : Nat × Nat × Nat := (15112221349535400772501151409588531511454012693041857206046113283949847762202, 46316835694926478169428394003475163141307993866256225615783033603165251855960, 1)
def nm : Nat → Nat → Nat × Nat × Nat
  | 0, _ => (0, 1, 1)
  | f + 1, n => if n % 2 = 1 then np (np (nm f (n / 2)) (nm f (n / 2))) nB else np (nm f (n / 2)) (nm f (n / 2))
def ofN (n : Nat) : Kp := ⟨n % pp, Nat.mod_lt _ pp_pos⟩
theorem ofN_mul (a b : Nat) : ofN (a * b % pp) = ofN a * ofN b := Fin.ext (by
  rw [kval_mul]; show a * b % pp % pp = (a % pp) * (b % pp) % pp
  rw [Nat.mod_mod, Nat.mod_mul_mod, Nat.mul_mod_mod])
theorem ofN_add (a b : Nat) : ofN ((a + b) % pp) = ofN a + ofN b := Fin.ext (by
  rw [kval_add]; show (a + b) % pp % pp = (a % pp + b % pp) % pp
  rw [Nat.mod_mod, Nat.mod_add_mod, Nat.add_mod_mod])
theorem ofN_neg (n : Nat) : ofN (pp - n % pp) = -(ofN n) := Fin.ext rfl
theorem add_neg_sub (a b : Kp) : a + -b = a - b := by grind
theorem ofN_muls (a b : Nat) : ofN (a * b) = ofN a * ofN b := by
  rw [← ofN_mul]; exact Fin.ext (by show a * b % pp = a * b % pp % pp; rw [Nat.mod_mod])
theorem ofN_adds (a b : Nat) : ofN (a + b) = ofN a + ofN b := by
  rw [← ofN_add]; exact Fin.ext (by show (a + b) % pp = (a + b) % pp % pp; rw [Nat.mod_mod])
theorem ofN_dd : ofN 37095705934669439343138083508754565189542113879843219016388785533085940283555 = dd := by decide +kernel
set_option linter.unusedSimpArgs false in
theorem np_x (p q : Nat × Nat × Nat) : ofN (np p q).1 = fpx (ofN p.1) (ofN p.2.1) (ofN p.2.2) (ofN q.1) (ofN q.2.1) (ofN q.2.2) := by
  unfold np fpx
  simp only [ofN_mul, ofN_neg, ofN_add, ofN_muls, ofN_adds, ofN_dd, add_neg_sub]
set_option linter.unusedSimpArgs false in
theorem np_y (p q : Nat × Nat × Nat) : ofN (np p q).2.1 = fpy (ofN p.1) (ofN p.2.1) (ofN p.2.2) (ofN q.1) (ofN q.2.1) (ofN q.2.2) := by
  unfold np fpy
  simp only [ofN_mul, ofN_neg, ofN_add, ofN_muls, ofN_adds, ofN_dd, add_neg_sub]
set_option linter.unusedSimpArgs false in
theorem np_z (p q : Nat × Nat × Nat) : ofN (np p q).2.2 = fpz (ofN p.1) (ofN p.2.1) (ofN p.2.2) (ofN q.1) (ofN q.2.1) (ofN q.2.2) := by
  unfold np fpz
  simp only [ofN_mul, ofN_neg, ofN_add, ofN_muls, ofN_adds, ofN_dd, add_neg_sub]
def Nf (p : Nat × Nat × Nat) (P : Pt) : Prop := Fr (ofN p.1) (ofN p.2.1) (ofN p.2.2) P
theorem nf_np {p q : Nat × Nat × Nat} {P Q : Pt} (h1 : Nf p P) (h2 : Nf q Q) : Nf (np p q) (P.add Q) := by
  unfold Nf
  rw [np_x, np_y, np_z]
  exact fr_plus h1 h2
theorem nf_B : Nf nB Bp := by
  have h1 : ofN nB.1 = Bp.x := by decide +kernel
  have h2 : ofN nB.2.1 = Bp.y := by decide +kernel
  have h3 : ofN nB.2.2 = 1 := by decide +kernel
  unfold Nf
  rw [h1, h2, h3]
  exact fr_one Bp
theorem nf_zero : Nf (0, 1, 1) .zero := by
  have h1 : ofN 0 = 0 := by decide +kernel
  have h2 : ofN 1 = 1 := by decide +kernel
  unfold Nf
  show Fr (ofN 0) (ofN 1) (ofN 1) .zero
  rw [h1, h2]
  exact fr_zero
theorem nf_nm : ∀ (f n : Nat), n < 2 ^ f → Nf (nm f n) (Pt.mul n Bp)
  | 0, n, h => by
    have : n = 0 := by simpa using h
    subst this
    exact nf_zero
  | f + 1, n, h => by
    have ih := nf_nm f (n / 2) (by rw [Nat.pow_succ] at h; omega)
    have e : n = 2 * (n / 2) + n % 2 := by omega
    unfold nm
    by_cases hb : n % 2 = 1
    · rw [if_pos hb]
      have e2 : Pt.mul n Bp = ((Pt.mul (n / 2) Bp).add (Pt.mul (n / 2) Bp)).add Bp := by
        rw [← mul_two, ← mul_succ']; congr 1; omega
      rw [e2]
      exact nf_np (nf_np ih ih) nf_B
    · rw [if_neg hb]
      have e2 : Pt.mul n Bp = (Pt.mul (n / 2) Bp).add (Pt.mul (n / 2) Bp) := by
        rw [← mul_two]; congr 1; omega
      rw [e2]
      exact nf_np ih ih
theorem k_0mul (a : Kp) : 0 * a = 0 := by grind
end Go.Proofs.YtobgimpkkjaolaaGreatDoor
