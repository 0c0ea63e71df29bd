/- Products and quotients that do not go round: the program's calls. -/
import Derived.Test.YteiacgpaocnofaaGreatOn
import Derived.BigQuiet
namespace Go.Proofs.YteiacgpaocnofaaGreat
open Go.RowKit
theorem below_drewN' {B : Nat} {a w : World} (h : Below B a w) (n : Nat) : Below B a (w.drewN n) := h.trans ⟨rfl, rfl, rfl, Nat.le_refl _, fun _ _ => rfl⟩
theorem low_pos {a b : Int} (hb : 0 < b) : a < Int.tdiv (-9223372036854775808) b ↔ a * b < -9223372036854775808 := by
  rw [show Int.tdiv (-9223372036854775808) b = -(9223372036854775808 / b) by rw [show (-9223372036854775808 : Int) = -(9223372036854775808) by rfl, Int.neg_tdiv, Int.tdiv_eq_ediv_of_nonneg (by decide)]]
  have h := Int.ediv_lt_iff_lt_mul (a := 9223372036854775808) (b := -a) hb
  rw [Int.neg_mul] at h
  omega
theorem high_pos {a b : Int} (hb : 0 < b) : Int.tdiv 9223372036854775807 b < a ↔ 9223372036854775807 < a * b := by
  rw [Int.tdiv_eq_ediv_of_nonneg (by decide)]
  exact Int.ediv_lt_iff_lt_mul hb
theorem low_neg {a b : Int} (hb : b < 0) : a < Int.tdiv 9223372036854775807 b ↔ 9223372036854775807 < a * b := by
  obtain ⟨c, rfl⟩ : ∃ c, b = -c := ⟨-b, by omega⟩
  rw [Int.tdiv_neg, Int.tdiv_eq_ediv_of_nonneg (by decide)]
  have h := Int.ediv_lt_iff_lt_mul (a := 9223372036854775807) (b := -a) (c := c) (by omega)
  rw [Int.neg_mul] at h
  rw [Int.mul_neg]
  omega
theorem high_neg {a b : Int} (hb : b < 0) : Int.tdiv (-9223372036854775808) b < a ↔ a * b < -9223372036854775808 := by
  obtain ⟨c, rfl⟩ : ∃ c, b = -c := ⟨-b, by omega⟩
  rw [Int.tdiv_neg, show (-9223372036854775808 : Int) = -(9223372036854775808) by rfl, Int.neg_tdiv, Int.neg_neg, Int.tdiv_eq_ediv_of_nonneg (by decide)]
  have h := Int.ediv_lt_iff_lt_mul (a := 9223372036854775808) (b := a) (c := c) (by omega)
  rw [Int.mul_neg]
  omega
theorem tdiv_in {x b : Int} (hx : -9223372036854775808 ≤ x ∧ x ≤ 9223372036854775807) (h0 : b ≠ 0) (h1 : b ≠ -1) : -9223372036854775808 ≤ Int.tdiv x b ∧ Int.tdiv x b ≤ 9223372036854775807 := by
  have h : (Int.tdiv x b).natAbs ≤ 9223372036854775808 / b.natAbs := by
    rw [Int.natAbs_tdiv]
    exact Nat.div_le_div_right (by omega)
  have h2 : b.natAbs = 1 ∨ 2 ≤ b.natAbs := by omega
  rcases h2 with h2 | h2
  · have : b = 1 := by omega
    subst this
    rw [Int.tdiv_one]; exact hx
  · have : 9223372036854775808 / b.natAbs ≤ 9223372036854775808 / 2 := Nat.div_le_div_left h2 (by decide)
    omega
set_option maxRecDepth 100000 in
set_option maxHeartbeats 2000000 in
theorem quotient_any (a b : Int) (ha : -9223372036854775808 ≤ a ∧ a ≤ 9223372036854775807) (hb : -9223372036854775808 ≤ b ∧ b ≤ 9223372036854775807) (h0 : b ≠ 0) : Tells 175 #[.int .i64 a, .int .i64 b] (n2 (numV (Int.tdiv a b)) (numE (Int.tdiv a b))) := by
  intro w
  have e0 : (b == 0) = false := by simpa using h0
  by_cases h1 : b = -1
  · subst h1
    rw [show Int.tdiv a (-1) = -a by rw [Int.tdiv_neg, Int.tdiv_one]]
    go_enter Tryz.func175, Tryz.ntmps175
    go_wp2_with fail
    refine (negative_any a ha _).mono ?_
    rintro e_ w_ ⟨rfl, hw_⟩
    replace hw_ := hw_.symm
    subst hw_
    go_wp2
    go_ret2
    exact ⟨rfl, rfl⟩
  · have e1 : (b == -1) = false := by simpa using h1
    have hr := tdiv_in ha h0 h1
    rw [(num_in (z := Int.tdiv a b) hr).1, (num_in (z := Int.tdiv a b) hr).2]
    have hz : ¬ b = 0 := h0
    clear h0 h1
    go_enter Tryz.func175, Tryz.ntmps175
    go_wp2
    go_ret2
    exact ⟨rfl, rfl⟩
set_option maxRecDepth 100000 in
theorem quotient_zero (a : Int) : Tells 175 #[.int .i64 a, .int .i64 0] (n2 0 6) := by
  intro w
  go_enter Tryz.func175, Tryz.ntmps175
  go_wp2
  go_ret2
  exact ⟨rfl, rfl⟩
set_option maxRecDepth 100000 in
set_option maxHeartbeats 4000000 in
theorem product_any (a b : Int) (ha : -9223372036854775808 ≤ a ∧ a ≤ 9223372036854775807) (hb : -9223372036854775808 ≤ b ∧ b ≤ 9223372036854775807) : Says 174 #[.int .i64 a, .int .i64 b] (n2 (numV (a * b)) (numE (a * b))) := by
  intro w
  have HB : Hid (∀ j, Below w.heap.size w (w.drewN j)) := fun j => below_drewN' (Below.refl _ _) j
  have H0 := hide (Below.refl w.heap.size w)
  by_cases h0 : b = 0
  · subst h0
    rw [show a * 0 = 0 by omega, show numV 0 = 0 by decide, show numE 0 = 0 by decide]
    go_enter Tryz.func174, Tryz.ntmps174
    go_wp2
    go_ret2
    exact ⟨rfl, H0.out⟩
  · have e0 : (b == 0) = false := by simpa using h0
    by_cases h1 : b = -1
    · subst h1
      rw [show a * -1 = -a by omega]
      go_enter Tryz.func174, Tryz.ntmps174
      go_wp2_with fail
      refine (negative_any a ha _).mono ?_
      rintro e_ w_ ⟨rfl, hw_⟩
      replace hw_ := hw_.symm
      subst hw_
      go_wp2
      go_ret2
      exact ⟨rfl, H0.out⟩
    · have e1 : (b == -1) = false := by simpa using h1
      have hL := tdiv_in (x := -9223372036854775808) (by decide) h0 h1
      have hM := tdiv_in (x := 9223372036854775807) (by decide) h0 h1
      by_cases hp : 0 < b
      · have dp : decide (b < 0) = false := decide_eq_false (by omega)
        have l1 := low_pos (a := a) hp
        have l2 := high_pos (a := a) hp
        obtain ⟨L, hLe⟩ : ∃ L, Int.tdiv (-9223372036854775808) b = L := ⟨_, rfl⟩
        obtain ⟨M, hMe⟩ : ∃ M, Int.tdiv 9223372036854775807 b = M := ⟨_, rfl⟩
        obtain ⟨P, hPe⟩ : ∃ P, a * b = P := ⟨_, rfl⟩
        rw [hLe] at hL l1
        rw [hMe] at hM l2
        rw [hPe] at l1 l2 ⊢
        have hz : ¬ b = 0 := h0
        clear h0 h1
        by_cases q1 : a < L
        · rw [(num_out (z := P) (by unfold inB; omega)).1, (num_out (z := P) (by unfold inB; omega)).2]
          have d1 : decide (a < L) = true := decide_eq_true q1
          clear l1 l2 q1
          go_enter Tryz.func174, Tryz.ntmps174
          go_wp2_with fail
          go_quiet (fail)
          go_wp2
          go_ret2
          exact ⟨rfl, HB.out _⟩
        · have d1 : decide (a < L) = false := decide_eq_false q1
          by_cases q2 : M < a
          · rw [(num_out (z := P) (by unfold inB; omega)).1, (num_out (z := P) (by unfold inB; omega)).2]
            have d2 : decide (M < a) = true := decide_eq_true q2
            clear l1 l2 q1 q2
            go_enter Tryz.func174, Tryz.ntmps174
            go_wp2_with fail
            go_quiet (fail)
            go_wp2
            go_ret2
            exact ⟨rfl, HB.out _⟩
          · have d2 : decide (M < a) = false := decide_eq_false q2
            have hPB : inB P := by unfold inB; omega
            rw [(num_in hPB).1, (num_in hPB).2]
            have hPr : -9223372036854775808 ≤ P ∧ P ≤ 9223372036854775807 := hPB
            clear l1 l2 q1 q2
            go_enter Tryz.func174, Tryz.ntmps174
            go_wp2_with fail
            go_quiet (fail)
            go_wp2
            go_ret2
            exact ⟨rfl, HB.out _⟩
      · have hn : b < 0 := by omega
        have dp : decide (b < 0) = true := decide_eq_true hn
        have l1 := low_neg (a := a) hn
        have l2 := high_neg (a := a) hn
        obtain ⟨L, hLe⟩ : ∃ L, Int.tdiv (-9223372036854775808) b = L := ⟨_, rfl⟩
        obtain ⟨M, hMe⟩ : ∃ M, Int.tdiv 9223372036854775807 b = M := ⟨_, rfl⟩
        obtain ⟨P, hPe⟩ : ∃ P, a * b = P := ⟨_, rfl⟩
        rw [hLe] at hL l2
        rw [hMe] at hM l1
        rw [hPe] at l1 l2 ⊢
        have hz : ¬ b = 0 := h0
        clear h0 h1 hp
        by_cases q1 : a < M
        · rw [(num_out (z := P) (by unfold inB; omega)).1, (num_out (z := P) (by unfold inB; omega)).2]
          have d1 : decide (a < M) = true := decide_eq_true q1
          clear l1 l2 q1
          go_enter Tryz.func174, Tryz.ntmps174
          go_wp2_with fail
          go_quiet (fail)
          go_wp2
          go_ret2
          exact ⟨rfl, HB.out _⟩
        · have d1 : decide (a < M) = false := decide_eq_false q1
          by_cases q2 : L < a
          · rw [(num_out (z := P) (by unfold inB; omega)).1, (num_out (z := P) (by unfold inB; omega)).2]
            have d2 : decide (L < a) = true := decide_eq_true q2
            clear l1 l2 q1 q2
            go_enter Tryz.func174, Tryz.ntmps174
            go_wp2_with fail
            go_quiet (fail)
            go_wp2
            go_ret2
            exact ⟨rfl, HB.out _⟩
          · have d2 : decide (L < a) = false := decide_eq_false q2
            have hPB : inB P := by unfold inB; omega
            rw [(num_in hPB).1, (num_in hPB).2]
            have hPr : -9223372036854775808 ≤ P ∧ P ≤ 9223372036854775807 := hPB
            clear l1 l2 q1 q2
            go_enter Tryz.func174, Tryz.ntmps174
            go_wp2_with fail
            go_quiet (fail)
            go_wp2
            go_ret2
            exact ⟨rfl, HB.out _⟩
end Go.Proofs.YteiacgpaocnofaaGreat
