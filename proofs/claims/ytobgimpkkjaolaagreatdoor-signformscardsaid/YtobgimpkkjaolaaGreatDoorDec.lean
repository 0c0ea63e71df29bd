/- Roots are found where there are any; a point's bytes are read as it. Plain arithmetic modulo p. -/
import Derived.Test.YtobgimpkkjaolaaGreatDoorOrd
namespace Go.Proofs.YtobgimpkkjaolaaGreatDoor
open Go.RowKit
theorem bval_bys (x : Nat) : ∀ k, k ≤ 32 → bval ((bys x 32).take k) = x % 256 ^ k
  | 0, _ => by simp [bval, Nat.mod_one]
  | k + 1, h => by
    rw [bval_take _ _ (by rw [bys_len]; omega), bval_bys x k (by omega), bys_get _ _ _ (Nat.le_refl _), if_pos (by omega), Nat.pow_succ, Nat.mod_mul]
    rfl
theorem bys_val {x : Nat} (h : x < pp) : bval (bys x 32) = x := by
  have h1 := bval_bys x 32 (Nat.le_refl _)
  rw [List.take_of_length_le (by rw [bys_len]; exact Nat.le_refl _)] at h1
  rw [h1, Nat.mod_eq_of_lt (Nat.lt_trans h (by decide))]
theorem bys31 (x : Nat) : (bys x 32).getD 31 0 = byt x 31 := by rw [bys_get _ _ _ (Nat.le_refl _), if_pos (by decide)]
theorem set_getD {l : List Nat} {k v : Nat} (h : l.getD k 0 = v) (hk : k < l.length) : l.set k v = l := by
  refine List.ext_getElem? fun i => ?_
  rw [List.getElem?_set]
  split
  · rename_i e
    subst e
    rw [List.getD_eq_getElem?_getD, List.getElem?_eq_getElem hk] at h
    rw [List.getElem?_eq_getElem hk]
    simpa using h.symm
  · rfl
theorem getD_set {l : List Nat} {k v : Nat} (hk : k < l.length) : (l.set k v).getD k 0 = v := by
  rw [List.getD_eq_getElem?_getD, List.getElem?_set]
  simp [hk]
theorem pkb31 (x y : Kp) : (pkb x y).getD 31 0 = if x.val % 2 = 1 then byt y.val 31 + 128 else byt y.val 31 := by
  unfold pkb
  split
  · rw [getD_set (by rw [bys_len]; decide)]
  · exact bys31 _
theorem pkb_low (x y : Kp) : (pkb x y).set 31 ((pkb x y).getD 31 0 % 128) = bys y.val 32 := by
  have hb := byt31 y.isLt
  rw [pkb31]
  unfold pkb
  split
  · rw [List.set_set]
    exact set_getD (by rw [bys31]; omega) (by rw [bys_len]; decide)
  · exact set_getD (by rw [bys31]; omega) (by rw [bys_len]; decide)
theorem yof_pkb (x y : Kp) : yof (pkb x y) = y := Fin.ext (by
  show bval _ % pp = _
  rw [pkb_low, bys_val y.isLt, Nat.mod_eq_of_lt y.isLt])
theorem hib_pkb (x y : Kp) : hib (pkb x y) = decide (x.val % 2 = 1) := by
  have hb := byt31 y.isLt
  unfold hib
  rw [decide_eq_decide, pkb31]
  split
  · rename_i h; simp only [h, iff_true]; omega
  · rename_i h; simp only [h, iff_false]; omega
/-- A number and the one turned about are of other parities, but nothing. -/
theorem neg_par {x : Kp} (h : x ≠ 0) : (-x).val % 2 = 1 ↔ ¬ x.val % 2 = 1 := by
  rw [kval_neg]
  have := neg_odd x.val (k_ne.1 h) x.isLt
  rw [← decide_not, decide_eq_decide] at this
  exact this
theorem ev_even (x : Kp) : ¬ (ev x).val % 2 = 1 := by
  unfold ev
  by_cases h : x.val % 2 = 1
  · rw [if_pos h]
    have hx : x ≠ 0 := fun e => by rw [e, kval_zero] at h; exact absurd h (by decide)
    rw [neg_par hx]
    exact fun h2 => h2 h
  · rw [if_neg h]; exact h
theorem ev_sq (x : Kp) : ev x * ev x = x * x := by
  unfold ev
  split
  · grind
  · rfl
theorem ei_eq : ei + ei + 1 + (ei + ei + 1) = hx := by decide +kernel
/-- WHERE THERE IS A ROOT IT IS FOUND. -/
theorem rt_spec {u v x : Kp} (hv : v ≠ 0) (hu : u = v * x * x) : ∃ r, rt u v = some r ∧ r * r = x * x ∧ ¬ r.val % 2 = 1 := by
  have fin : ∀ r0 : Kp, v * r0 * r0 = u → ev r0 * ev r0 = x * x := fun r0 h => by
    rw [ev_sq]
    refine mul_cancel hv ?_
    have : v * (r0 * r0) = v * r0 * r0 := by grind
    rw [this, h, hu]; grind
  have key : v * rt0 u v * rt0 u v = u ∨ v * rt0 u v * rt0 u v = -u := by
    obtain ⟨q, hq⟩ : ∃ q, u * (v * v * v * (v * v * v) * v) = q := ⟨_, rfl⟩
    obtain ⟨e, he⟩ : ∃ e, kpw q ei = e := ⟨_, rfl⟩
    have h1 : rt0 u v = u * (v * v * v) * e := by unfold rt0; rw [hq, he]
    have h2 : v * rt0 u v * rt0 u v = u * (q * (e * e)) := by rw [h1, ← hq]; clear hq he h1 fin hu; grind
    have h3 : q * (e * e) = kpw q (ei + ei + 1) := by rw [kpw_add, kpw_add, he, kpw_one]; clear hq he h1 h2 fin hu; grind
    by_cases hx0 : x = 0
    · left
      have hu0 : u = 0 := by rw [hu, hx0, k_mul0]
      rw [h2, hu0, k_0mul]
    · obtain ⟨s, hs⟩ : ∃ s, v * v * (v * v) * x = s := ⟨_, rfl⟩
      have hqs : q = s * s := by rw [← hq, ← hs, hu]; clear hq he h1 h2 h3 fin; grind
      have hs0 : s ≠ 0 := by rw [← hs]; exact mul_ne (mul_ne (mul_ne hv hv) (mul_ne hv hv)) hx0
      have h4 : kpw q (ei + ei + 1) = kpw s hx := by rw [hqs, kpw_mul, ← kpw_add, ei_eq]
      have h5 : kpw s hx * kpw s hx = 1 := by rw [← kpw_add]; exact kpw_fermat hs0 _ (by have := hx_eq; omega)
      rw [h2, h3, h4]
      generalize kpw s hx = c at h5
      have h6 : (c - 1) * (c + 1) = 0 := by clear h1 h2 h3 h4 fin hu hq he hs hqs; grind
      rcases mul_zero_or h6 with h7 | h7
      · left
        have : c = 1 := by clear h1 h2 h3 h4 h5 h6 fin hu hq he hs hqs; grind
        rw [this]; clear h1 h2 h3 h4 h5 h6 h7 fin hu hq he hs hqs; grind
      · right
        have : c = -1 := by clear h1 h2 h3 h4 h5 h6 fin hu hq he hs hqs; grind
        rw [this]; clear h1 h2 h3 h4 h5 h6 h7 fin hu hq he hs hqs; grind
  unfold rt
  by_cases ha : v * rt0 u v * rt0 u v = u
  · rw [if_pos ha]
    exact ⟨_, rfl, fin _ ha, ev_even _⟩
  · rw [if_neg ha]
    have hb := key.resolve_left ha
    have hb2 : -(v * rt0 u v * rt0 u v) = u := by rw [hb]; clear fin hu ha key hb; grind
    rw [if_pos hb2]
    refine ⟨_, rfl, fin _ ?_, ev_even _⟩
    have hr := rm_sq
    generalize rt0 u v = r at *
    generalize rm = m at *
    have : v * (r * m) * (r * m) = v * r * r * (m * m) := by clear fin hu ha key hb hb2 hr; grind
    rw [this, hr]
    generalize v * r * r = t at *
    clear fin ha key hb hr this
    grind
theorem k_0add (a : Kp) : 0 + a = a := by grind
theorem den_ne (y : Kp) : dd * (y * y) + 1 ≠ 0 := fun h => by
  have h1 : dd * (y * y) = rm * rm := by
    rw [rm_sq]; generalize dd * (y * y) = t at *; grind
  have h2 := nsq h1
  rw [h2, k_mul0, k_mul0, k_0add] at h
  exact one_ne_zero h
theorem root_eq (P : Pt) : P.y * P.y - 1 = (dd * (P.y * P.y) + 1) * P.x * P.x := by
  have h := P.on
  unfold On at h
  generalize dd = d at *
  generalize P.x = x at *
  generalize P.y = y at *
  grind
theorem sq_eq {a b : Kp} (h : a * a = b * b) : a = b ∨ a = -b := by
  have h1 : (a - b) * (a + b) = 0 := by grind
  rcases mul_zero_or h1 with h2 | h2
  · left; clear h h1; grind
  · right; clear h h1; grind
theorem neg_zero' : (-0 : Kp) = 0 := by decide +kernel
/-- A POINT'S BYTES ARE READ AS IT. -/
theorem dec_pkb (P : Pt) : dec (pkb P.x P.y) = some (P.x, P.y) := by
  obtain ⟨r, h1, h2, h3⟩ := rt_spec (den_ne P.y) (root_eq P)
  unfold dec
  rw [if_pos (pkb_len _ _), yof_pkb, h1, hib_pkb]
  simp only [decide_eq_true_eq]
  have hX : (if P.x.val % 2 = 1 then -r else r) = P.x := by
    by_cases ho : P.x.val % 2 = 1
    · rw [if_pos ho]
      rcases sq_eq h2 with h4 | h4
      · rw [h4] at h3; exact absurd ho h3
      · rw [h4]; grind
    · rw [if_neg ho]
      rcases sq_eq h2 with h4 | h4
      · exact h4
      · by_cases h0 : P.x = 0
        · rw [h4, h0, neg_zero']
        · rw [h4] at h3
          exact absurd ((neg_par h0).2 ho) h3
  rw [hX, if_pos rfl]
/-- Bytes with the highest bit turned. -/
def flipb (l : List Nat) : List Nat := l.set 31 (if l.getD 31 0 < 128 then l.getD 31 0 + 128 else l.getD 31 0 - 128)
theorem flip_pkb {x : Kp} (y : Kp) (h : x ≠ 0) : flipb (pkb x y) = pkb (-x) y := by
  have hb := byt31 y.isLt
  unfold flipb
  rw [pkb31]
  unfold pkb
  by_cases ho : x.val % 2 = 1
  · rw [if_pos ho, if_pos ho, if_neg (Nat.not_lt.2 (Nat.le_add_left 128 _)), if_neg (by rw [neg_par h]; exact fun h2 => h2 ho), List.set_set]
    exact set_getD (by rw [bys31]; omega) (by rw [bys_len]; decide)
  · rw [if_neg ho, if_neg ho, if_pos hb, if_pos (by rw [neg_par h]; exact ho)]
theorem dec_flip {P : Pt} (h : P.x ≠ 0) : dec (flipb (pkb P.x P.y)) = some (-P.x, P.y) := by
  rw [flip_pkb P.y h]
  exact dec_pkb P.neg
theorem dec_flip0 {P : Pt} (h : P.x = 0) : dec (flipb (pkb P.x P.y)) = none := by
  have hb := byt31 P.y.isLt
  have hz : ¬ P.x.val % 2 = 1 := by rw [h, kval_zero]; decide
  have e : flipb (pkb P.x P.y) = (bys P.y.val 32).set 31 (byt P.y.val 31 + 128) := by
    unfold flipb
    rw [pkb31, if_neg hz, if_pos hb]
    unfold pkb
    rw [if_neg hz]
  have e31 : ((bys P.y.val 32).set 31 (byt P.y.val 31 + 128)).getD 31 0 = byt P.y.val 31 + 128 := getD_set (by rw [bys_len]; decide)
  have hy : yof (flipb (pkb P.x P.y)) = P.y := Fin.ext (by
    show bval _ % pp = _
    rw [e, e31, List.set_set, show (byt P.y.val 31 + 128) % 128 = byt P.y.val 31 by omega, set_getD (bys31 _) (by rw [bys_len]; decide), bys_val P.y.isLt, Nat.mod_eq_of_lt P.y.isLt])
  have hh : hib (flipb (pkb P.x P.y)) = true := by
    unfold hib
    rw [e, e31]
    exact decide_eq_true (by omega)
  obtain ⟨r, h1, h2, h3⟩ := rt_spec (den_ne P.y) (root_eq P)
  have hr : r = 0 := by
    rw [h, k_mul0] at h2
    exact (mul_zero_or h2).elim id id
  unfold dec
  rw [if_pos (by rw [e, List.length_set, bys_len]), hy, h1, hh]
  simp only [if_true]
  rw [hr, neg_zero', if_neg]
  intro h5
  have h6 : (pkb 0 P.y).getD 31 0 = (flipb (pkb P.x P.y)).getD 31 0 := by rw [h5]
  rw [e, e31, pkb31, if_neg (by rw [kval_zero]; decide)] at h6
  omega
end Go.Proofs.YtobgimpkkjaolaaGreatDoor
