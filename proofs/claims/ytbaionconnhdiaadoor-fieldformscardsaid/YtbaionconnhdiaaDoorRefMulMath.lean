/- The page's own product: plain arithmetic of rows. -/
import Derived.Test.YtbaionconnhdiaaDoorRefMath
namespace Go.Proofs.YtbaionconnhdiaaDoor
theorem vi_take : ∀ (l : List Int) (k : Nat), k < l.length → vi (l.take (k + 1)) = vi (l.take k) + 65536 ^ k * l.getD k 0
  | [], k, h => absurd h (by simp)
  | x :: t, 0, _ => by simp [vi]
  | x :: t, k + 1, h => by
    have ih := vi_take t k (by simpa using h)
    rw [List.take_succ_cons, List.take_succ_cons, vi, vi, ih, List.getD_cons_succ, Int.pow_succ, Int.mul_add, Int.mul_comm (65536 ^ k) 65536, Int.mul_assoc]
    omega
theorem vi_split : ∀ (l : List Int) (k : Nat), vi l = vi (l.take k) + 65536 ^ k * vi (l.drop k)
  | l, 0 => by simp [vi]
  | [], k + 1 => by simp [vi]
  | x :: t, k + 1 => by
    have ih := vi_split t k
    rw [List.take_succ_cons, List.drop_succ_cons, vi, vi, ih, Int.pow_succ, Int.mul_add, Int.mul_comm (65536 ^ k) 65536, Int.mul_assoc]
    omega
theorem vi_scale (c : Int) : ∀ l : List Int, vi (l.map (c * ·)) = c * vi l
  | [] => by simp [vi]
  | x :: t => by
    rw [List.map_cons, vi, vi, vi_scale c t, Int.mul_add, Int.mul_left_comm]
theorem vi_snoc : ∀ l : List Int, vi (l ++ [0]) = vi l
  | [] => rfl
  | x :: t => by rw [List.cons_append, vi, vi, vi_snoc t]
/-- A number times a row, put on a row. -/
def mrow (x : Int) (b : List Int) (i : Nat) (t : List Int) : Nat → List Int
  | 0 => t
  | k + 1 => (mrow x b i t k).set (i + k) ((mrow x b i t k).getD (i + k) 0 + x * b.getD k 0)
theorem mrow_len (x : Int) (b : List Int) (i : Nat) (t : List Int) : ∀ k, (mrow x b i t k).length = t.length
  | 0 => rfl
  | k + 1 => by simp [mrow, mrow_len x b i t k]
theorem mrow_get (x : Int) (b : List Int) (i : Nat) (t : List Int) : ∀ k, i + k ≤ t.length → ∀ j, (mrow x b i t k).getD j 0 = t.getD j 0 + if i ≤ j ∧ j < i + k then x * b.getD (j - i) 0 else 0
  | 0, _, j => by rw [if_neg (by omega)]; simp [mrow]
  | k + 1, hk, j => by
    have ih := mrow_get x b i t k (by omega)
    rw [mrow]
    by_cases e : i + k = j
    · subst e
      rw [gset_same _ _ _ (by rw [mrow_len]; omega), ih, if_neg (by omega), if_pos (by omega), show i + k - i = k by omega, Int.add_zero]
    · rw [gset_ne _ _ _ _ e, ih]
      by_cases h : i ≤ j ∧ j < i + k
      · rw [if_pos h, if_pos (by omega)]
      · rw [if_neg h, if_neg (by omega)]
theorem mrow_val (x : Int) (b : List Int) (i : Nat) (t : List Int) : ∀ k, i + k ≤ t.length → k ≤ b.length → vi (mrow x b i t k) = vi t + 65536 ^ i * (x * vi (b.take k))
  | 0, _, _ => by simp [mrow, vi]
  | k + 1, h1, h2 => by
    have ih := mrow_val x b i t k (by omega) (by omega)
    rw [mrow, vi_set _ _ _ (by rw [mrow_len]; omega), ih, vi_take b k (by omega), Int.mul_add x, Int.mul_add (65536 ^ i), Int.pow_add]
    generalize (mrow x b i t k).getD (i + k) 0 = z
    rw [show z + x * b.getD k 0 - z = x * b.getD k 0 by omega, Int.mul_assoc, Int.mul_left_comm (65536 ^ k) x]
    omega
def z31 : List Int := [0, 0, 0, 0, 0, 0, 0, 0, 0, 0, 0, 0, 0, 0, 0, 0, 0, 0, 0, 0, 0, 0, 0, 0, 0, 0, 0, 0, 0, 0, 0]
/-- Row by row. -/
def mall (a b : List Int) : Nat → List Int
  | 0 => z31
  | i + 1 => mrow (a.getD i 0) b i (mall a b i) 16
theorem mall_len (a b : List Int) : ∀ i, (mall a b i).length = 31
  | 0 => rfl
  | i + 1 => by rw [mall, mrow_len, mall_len a b i]
theorem z31_get (j : Nat) : z31.getD j 0 = 0 := by
  by_cases h : j < 31
  · have : ∀ i : Fin 31, z31.getD i.val 0 = 0 := by decide +kernel
    exact this ⟨j, h⟩
  · rw [getD_out _ _ (by simp [z31]; omega)]
theorem prod_bound (x y : Int) (hx : -1048576 ≤ x ∧ x ≤ 1048576) (hy : -1048576 ≤ y ∧ y ≤ 1048576) : -1099511627776 ≤ x * y ∧ x * y ≤ 1099511627776 := by
  have h1 : 0 ≤ (1048576 - x) * (1048576 - y) := Int.mul_nonneg (by omega) (by omega)
  have h2 : 0 ≤ (1048576 + x) * (1048576 + y) := Int.mul_nonneg (by omega) (by omega)
  have h3 : 0 ≤ (1048576 - x) * (1048576 + y) := Int.mul_nonneg (by omega) (by omega)
  have h4 : 0 ≤ (1048576 + x) * (1048576 - y) := Int.mul_nonneg (by omega) (by omega)
  rw [Int.sub_mul, Int.mul_sub, Int.mul_sub] at h1
  rw [Int.add_mul, Int.mul_add, Int.mul_add] at h2
  rw [Int.sub_mul, Int.mul_add, Int.mul_add] at h3
  rw [Int.add_mul, Int.mul_sub, Int.mul_sub] at h4
  omega
theorem mall_in (a b : List Int) (ha : Ok a) (hb : Ok b) : ∀ i : Nat, i ≤ 16 → ∀ j, -(1099511627776 * (i : Int)) ≤ (mall a b i).getD j 0 ∧ (mall a b i).getD j 0 ≤ 1099511627776 * (i : Int)
  | 0, _, j => by rw [mall, z31_get]; omega
  | i + 1, hi, j => by
    have ih := mall_in a b ha hb i (by omega) j
    rw [mall, mrow_get _ _ _ _ 16 (by rw [mall_len]; omega)]
    have hp := prod_bound (a.getD i 0) (b.getD (j - i) 0) (ha i) (hb (j - i))
    split <;> omega
theorem mrow_in (a b : List Int) (ha : Ok a) (hb : Ok b) (i : Nat) (hi : i ≤ 15) (k : Nat) (hk : k ≤ 16) (j : Nat) : -17592186044416 ≤ (mrow (a.getD i 0) b i (mall a b i) k).getD j 0 ∧ (mrow (a.getD i 0) b i (mall a b i) k).getD j 0 ≤ 17592186044416 := by
  have ih := mall_in a b ha hb i (by omega) j
  rw [mrow_get _ _ _ _ k (by rw [mall_len]; omega)]
  have hp := prod_bound (a.getD i 0) (b.getD (j - i) 0) (ha i) (hb (j - i))
  split <;> omega
theorem mall_val (a b : List Int) (ha : a.length = 16) (hb : b.length = 16) : ∀ i, i ≤ 16 → vi (mall a b i) = vi (a.take i) * vi b
  | 0, _ => by
    rw [mall, List.take_zero, vi, Int.zero_mul]; decide +kernel
  | i + 1, hi => by
    have ih := mall_val a b ha hb i (by omega)
    rw [mall, mrow_val _ _ _ _ 16 (by rw [mall_len]; omega) (by omega), ih, List.take_of_length_le (by omega : b.length ≤ 16), vi_take a i (by omega), Int.add_mul, Int.mul_assoc]
/-- What lies above, put below. -/
def ol (t : List Int) : Nat → List Int
  | 0 => [0, 0, 0, 0, 0, 0, 0, 0, 0, 0, 0, 0, 0, 0, 0, 0]
  | k + 1 => (ol t k).set k (if k < 15 then t.getD k 0 + 38 * t.getD (k + 16) 0 else t.getD k 0)
theorem ol_len (t : List Int) : ∀ k, (ol t k).length = 16
  | 0 => rfl
  | k + 1 => by simp [ol, ol_len t k]
theorem ol_get (t : List Int) : ∀ k, k ≤ 16 → ∀ j, j < k → (ol t k).getD j 0 = if j < 15 then t.getD j 0 + 38 * t.getD (j + 16) 0 else t.getD j 0
  | 0, _, j, h => absurd h (by omega)
  | k + 1, hk, j, hj => by
    rw [ol]
    by_cases e : k = j
    · subst e
      rw [gset_same _ _ _ (by rw [ol_len]; omega)]
    · rw [gset_ne _ _ _ _ e, ol_get t k (by omega) j (by omega)]
theorem ol_val (t : List Int) (ht : t.length = 31) : vi (ol t 16) = vi t - 115792089237316195423570985008687907853269984665640564039457584007913129639898 * vi (t.drop 16) := by
  have h := vi_add (t.take 16) ((t.drop 16 ++ [0]).map (38 * ·)) (ol t 16) (by rw [ol_len, List.length_take, ht]; rfl) (by simp [ol_len, ht]) (fun i => by
    by_cases hi : i < 16
    · rw [ol_get t 16 (Nat.le_refl _) i hi]
      have e1 : (t.take 16).getD i 0 = t.getD i 0 := by
        rw [List.getD_eq_getElem?_getD, List.getElem?_take, if_pos hi, List.getD_eq_getElem?_getD]
      rw [e1]
      by_cases h15 : i < 15
      · rw [if_pos h15]
        have e2 : ((t.drop 16 ++ [0]).map (38 * ·)).getD i 0 = 38 * t.getD (i + 16) 0 := by
          rw [List.getD_eq_getElem?_getD, List.getElem?_map, List.getElem?_append_left (by rw [List.length_drop, ht]; omega), List.getElem?_drop, List.getD_eq_getElem?_getD, Nat.add_comm 16 i, List.getElem?_eq_getElem (by omega)]
          rfl
        rw [e2]
      · rw [if_neg h15]
        have e2 : ((t.drop 16 ++ [0]).map (38 * ·)).getD i 0 = 0 := by
          rw [List.getD_eq_getElem?_getD, List.getElem?_map, show i = 15 by omega, List.getElem?_append_right (by rw [List.length_drop, ht]; omega), List.length_drop, ht]
          rfl
        rw [e2]; omega
    · rw [getD_out _ _ (by rw [ol_len]; omega), getD_out _ _ (by rw [List.length_take]; omega), getD_out _ _ (by simp [ht]; omega)]; rfl)
  rw [vi_scale, vi_snoc] at h
  have hs := vi_split t 16
  rw [show (65536 : Int) ^ 16 = 115792089237316195423570985008687907853269984665640564039457584007913129639936 from by decide +kernel] at hs
  omega
theorem ol_in (t : List Int) (ht : ∀ j, -17592186044416 ≤ t.getD j 0 ∧ t.getD j 0 ≤ 17592186044416) (i : Nat) : -1125899906842624 ≤ (ol t 16).getD i 0 ∧ (ol t 16).getD i 0 ≤ 1125899906842624 := by
  by_cases hi : i < 16
  · rw [ol_get t 16 (Nat.le_refl _) i hi]
    have h1 := ht i
    have h2 := ht (i + 16)
    split <;> omega
  · rw [getD_out _ _ (by rw [ol_len]; omega)]; omega
/-- Rows of which the first alone is great, carried once. -/
theorem cq_tight (l : List Int) (hl : l.length = 16) (h0 : -35184372088832 ≤ l.getD 0 0 ∧ l.getD 0 0 ≤ 35184372088832) (hh : ∀ j, 1 ≤ j → j ≤ 15 → 0 ≤ l.getD j 0 ∧ l.getD j 0 ≤ 65535) : ∀ k, 2 ≤ k → k ≤ 15 → -1 ≤ cq l k ∧ cq l k ≤ 1 := by
  have c0 : -536870912 ≤ cq l 0 ∧ cq l 0 ≤ 536870912 := by
    unfold cq
    show -536870912 ≤ l.getD 0 0 / 65536 ∧ l.getD 0 0 / 65536 ≤ 536870912
    omega
  have c1 : -8193 ≤ cq l 1 ∧ cq l 1 ≤ 8193 := by
    have h := hh 1 (by omega) (by omega)
    unfold cq
    have e := cyn_at l hl 0 (by omega)
    simp only [Nat.zero_add] at e
    rw [e]
    omega
  intro k
  induction k with
  | zero => intro h _; omega
  | succ k ih =>
    intro h1 h2
    have h := hh (k + 1) (by omega) h2
    have hc : -8193 ≤ cq l k ∧ cq l k ≤ 8193 := by
      by_cases e : k = 1
      · subst e; exact c1
      · have := ih (by omega) (by omega); omega
    unfold cq
    rw [cyn_at l hl k h2]
    omega
/-- Great rows, carried twice. -/
theorem rep_cy2 {l : List Int} {x : Nat} (hl : l.length = 16) (hM : ∀ i, -1125899906842624 ≤ l.getD i 0 ∧ l.getD i 0 ≤ 1125899906842624) (hv : vi l % 57896044618658097711785492504343953926634992332820282019728792003956564819949 = (x : Int)) :
    Rep (cy (cy l)) x ∧ ∀ i, -1152921504606846976 ≤ (cy l).getD i 0 ∧ (cy l).getD i 0 ≤ 1152921504606846976 := by
  have hq := cq_bound l hl 1125899906842624 34359738368 hM (by decide) (by decide) 15 (Nat.le_refl _)
  have hl1 : (cy l).length = 16 := by rw [cy_len, hl]
  obtain ⟨r, h1, h2, h3⟩ := cy_zero l hl
  have ht := cq_tight (cy l) hl1 (by rw [h3]; omega) (cy_high l hl) 15 (by omega) (Nat.le_refl _)
  refine ⟨⟨by rw [cy_len, hl1], cy_ok (cy l) hl1 1 (by decide) ht, by rw [cy_mod (cy l) hl1, cy_mod l hl, hv]⟩, fun i => ?_⟩
  by_cases e : i = 0
  · subst e; rw [h3]; omega
  · by_cases e2 : i ≤ 15
    · have := cy_high l hl i (by omega) e2; omega
    · rw [getD_out _ _ (by omega)]; omega
end Go.Proofs.YtbaionconnhdiaaDoor
