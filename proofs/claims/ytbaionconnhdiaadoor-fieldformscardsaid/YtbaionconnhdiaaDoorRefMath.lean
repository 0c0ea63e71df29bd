/- The page's own numbers: sixteen rows of sixteen bits: what a carrying does to them: plain arithmetic, for all rows. -/
import Derived.Test.YtbaionconnhdiaaDoorRing
namespace Go.Proofs.YtbaionconnhdiaaDoor
/-- The number of a row. -/
def vi : List Int → Int
  | [] => 0
  | x :: t => x + 65536 * vi t
theorem vi_set : ∀ (l : List Int) (k : Nat) (y : Int), k < l.length → vi (l.set k y) = vi l + 65536 ^ k * (y - l.getD k 0)
  | [], k, y, h => absurd h (by simp)
  | x :: t, 0, y, _ => by simp only [List.set_cons_zero, vi, Int.pow_zero, List.getD_cons_zero]; omega
  | x :: t, k + 1, y, h => by
    have ih := vi_set t k y (by simpa using h)
    simp only [List.set_cons_succ, vi, List.getD_cons_succ, Int.pow_succ]
    rw [ih, Int.mul_add, Int.mul_comm (65536 ^ k) 65536, Int.mul_assoc]
    omega
theorem gset_same (l : List Int) (k : Nat) (y : Int) (h : k < l.length) : (l.set k y).getD k 0 = y := by
  simp [List.getD_eq_getElem?_getD, h]
theorem gset_ne (l : List Int) (k j : Nat) (y : Int) (h : k ≠ j) : (l.set k y).getD j 0 = l.getD j 0 := by
  simp [List.getD_eq_getElem?_getD, h]
/-- One step of a carrying. -/
def cstep (i : Nat) (l : List Int) : List Int :=
  if i < 15 then (l.set (i + 1) (l.getD (i + 1) 0 + l.getD i 0 / 65536)).set i (l.getD i 0 % 65536)
  else (l.set 0 (l.getD 0 0 + 38 * (l.getD i 0 / 65536))).set i (l.getD i 0 % 65536)
def cyn (l : List Int) : Nat → List Int
  | 0 => l
  | k + 1 => cstep k (cyn l k)
theorem cstep_len (i : Nat) (l : List Int) : (cstep i l).length = l.length := by
  unfold cstep; split <;> simp
theorem cyn_len (l : List Int) : ∀ k, (cyn l k).length = l.length
  | 0 => rfl
  | k + 1 => by rw [cyn, cstep_len, cyn_len l k]
theorem cyn_gt (l : List Int) (hl : l.length = 16) : ∀ k j, k ≤ 15 → k < j → (cyn l k).getD j 0 = l.getD j 0
  | 0, j, _, _ => rfl
  | k + 1, j, hk, hj => by
    rw [cyn, cstep, if_pos (by omega), gset_ne _ _ _ _ (by omega), gset_ne _ _ _ _ (by omega)]
    exact cyn_gt l hl k j (by omega) (by omega)
theorem cyn_lt (l : List Int) (hl : l.length = 16) : ∀ k j, k ≤ 15 → j < k → 0 ≤ (cyn l k).getD j 0 ∧ (cyn l k).getD j 0 ≤ 65535
  | 0, j, _, h => absurd h (by omega)
  | k + 1, j, hk, hj => by
    rw [cyn, cstep, if_pos (by omega)]
    by_cases e : j = k
    · subst e
      rw [gset_same _ _ _ (by rw [List.length_set, cyn_len, hl]; omega)]
      omega
    · rw [gset_ne _ _ _ _ (by omega), gset_ne _ _ _ _ (by omega)]
      exact cyn_lt l hl k j (by omega) (by omega)
/-- What is carried on behind step k. -/
def cq (l : List Int) (k : Nat) : Int := (cyn l k).getD k 0 / 65536
theorem cyn_at (l : List Int) (hl : l.length = 16) (k : Nat) (hk : k + 1 ≤ 15) : (cyn l (k + 1)).getD (k + 1) 0 = l.getD (k + 1) 0 + cq l k := by
  rw [cyn, cstep, if_pos (by omega), gset_ne _ _ _ _ (by omega), gset_same _ _ _ (by rw [cyn_len, hl]; omega), cyn_gt l hl k (k + 1) (by omega) (by omega)]
  rfl
/-- A bound on all that is carried. -/
theorem cq_bound (l : List Int) (hl : l.length = 16) (M C : Int) (hM : ∀ i, -M ≤ l.getD i 0 ∧ l.getD i 0 ≤ M) (hC : M + C ≤ 65536 * C - 65536) (hC0 : 0 ≤ C) : ∀ k, k ≤ 15 → -C ≤ cq l k ∧ cq l k ≤ C
  | 0, _ => by
    have h := hM 0
    unfold cq
    show -C ≤ l.getD 0 0 / 65536 ∧ l.getD 0 0 / 65536 ≤ C
    omega
  | k + 1, hk => by
    have ih := cq_bound l hl M C hM hC hC0 k (by omega)
    have h := hM (k + 1)
    unfold cq
    rw [cyn_at l hl k hk]
    omega
theorem cyn_in (l : List Int) (hl : l.length = 16) (M C : Int) (hM : ∀ i, -M ≤ l.getD i 0 ∧ l.getD i 0 ≤ M) (hC : M + C ≤ 65536 * C - 65536) (hC0 : 0 ≤ C) (hM0 : 65535 ≤ M) : ∀ k j, k ≤ 15 → -(M + C) ≤ (cyn l k).getD j 0 ∧ (cyn l k).getD j 0 ≤ M + C := by
  intro k j hk
  rcases Nat.lt_trichotomy j k with h | h | h
  · have := cyn_lt l hl k j hk h; omega
  · subst h
    cases j with
    | zero => have := hM 0; show -(M + C) ≤ l.getD 0 0 ∧ l.getD 0 0 ≤ M + C; omega
    | succ j =>
      have h1 := cq_bound l hl M C hM hC hC0 j (by omega)
      have h2 := hM (j + 1)
      rw [cyn_at l hl j hk]; omega
  · rw [cyn_gt l hl k j hk h]; have := hM j; omega
/-- The whole. -/
def cy (l : List Int) : List Int := cyn l 16
theorem cy_len (l : List Int) : (cy l).length = l.length := cyn_len l 16
theorem cy_high (l : List Int) (hl : l.length = 16) (j : Nat) (h1 : 1 ≤ j) (h2 : j ≤ 15) : 0 ≤ (cy l).getD j 0 ∧ (cy l).getD j 0 ≤ 65535 := by
  unfold cy
  rw [cyn, cstep, if_neg (by omega)]
  by_cases e : j = 15
  · subst e
    rw [gset_same _ _ _ (by rw [List.length_set, cyn_len, hl]; omega)]
    omega
  · rw [gset_ne _ _ _ _ (by omega), gset_ne _ _ _ _ (by omega)]
    exact cyn_lt l hl 15 j (by omega) (by omega)
theorem cy_zero (l : List Int) (hl : l.length = 16) : ∃ r : Int, 0 ≤ r ∧ r ≤ 65535 ∧ (cy l).getD 0 0 = r + 38 * cq l 15 := by
  refine ⟨(cyn l 15).getD 0 0, (cyn_lt l hl 15 0 (by omega) (by omega)).1, (cyn_lt l hl 15 0 (by omega) (by omega)).2, ?_⟩
  unfold cy
  rw [cyn, cstep, if_neg (by omega), gset_ne _ _ _ _ (by omega), gset_same _ _ _ (by rw [cyn_len, hl]; omega)]
  rfl
theorem cyn_val (l : List Int) (hl : l.length = 16) : ∀ k, k ≤ 15 → vi (cyn l k) = vi l
  | 0, _ => rfl
  | k + 1, hk => by
    have ih := cyn_val l hl k (by omega)
    have hlen := cyn_len l k
    rw [cyn, cstep, if_pos (by omega), vi_set _ _ _ (by rw [List.length_set, hlen, hl]; omega), vi_set _ _ _ (by rw [hlen, hl]; omega), gset_ne _ _ _ _ (by omega), ih, Int.pow_succ]
    generalize (cyn l k).getD k 0 = x
    generalize (cyn l k).getD (k + 1) 0 = y
    generalize (65536 : Int) ^ k = P
    have h1 : x % 65536 - x = -(65536 * (x / 65536)) := by omega
    have h2 : y + x / 65536 - y = x / 65536 := by omega
    rw [h1, h2, Int.mul_neg, Int.mul_assoc]
    omega
theorem cy_val (l : List Int) (hl : l.length = 16) : vi (cy l) = vi l - 115792089237316195423570985008687907853269984665640564039457584007913129639898 * cq l 15 := by
  have h15 := cyn_val l hl 15 (by omega)
  have hlen := cyn_len l 15
  unfold cy
  rw [cyn, cstep, if_neg (by omega), vi_set _ _ _ (by rw [List.length_set, hlen, hl]; omega), vi_set _ _ _ (by rw [hlen, hl]; omega), gset_ne _ _ _ _ (by omega), h15]
  have e : cq l 15 = (cyn l 15).getD 15 0 / 65536 := rfl
  rw [e]
  generalize (cyn l 15).getD 15 0 = x
  generalize (cyn l 15).getD 0 0 = y
  have h1 : x % 65536 - x = -(65536 * (x / 65536)) := by omega
  rw [h1]
  rw [show (65536 : Int) ^ 15 = 1766847064778384329583297500742918515827483896875618958121606201292619776 from by decide +kernel, Int.pow_zero]
  omega
theorem vi_add : ∀ (a b c : List Int), a.length = c.length → b.length = c.length → (∀ i, c.getD i 0 = a.getD i 0 + b.getD i 0) → vi c = vi a + vi b
  | [], [], [], _, _, _ => rfl
  | x :: a, y :: b, z :: c, h1, h2, h => by
    have ih := vi_add a b c (by simpa using h1) (by simpa using h2) (fun i => by simpa using h (i + 1))
    have h0 := h 0
    simp only [List.getD_cons_zero] at h0
    simp only [vi, ih, h0]; omega
  | [], y :: b, [], _, h2, _ => by simp at h2
  | x :: a, [], _, h1, h2, _ => by simp at h1 h2; omega
  | [], [], z :: c, h1, _, _ => by simp at h1
  | x :: a, y :: b, [], h1, _, _ => by simp at h1
  | [], y :: b, z :: c, h1, _, _ => by simp at h1
theorem vi_sub (a b c : List Int) (h1 : a.length = c.length) (h2 : b.length = c.length) (h : ∀ i, c.getD i 0 = a.getD i 0 - b.getD i 0) : vi c = vi a - vi b := by
  have := vi_add c b a (by omega) (by omega) (fun i => by have := h i; omega)
  omega
/-- Rows that are not far out of their bounds. -/
def Ok (l : List Int) : Prop := ∀ i, -1048576 ≤ l.getD i 0 ∧ l.getD i 0 ≤ 1048576
/-- A row that stands for a number modulo p. -/
structure Rep (l : List Int) (x : Nat) : Prop where
  len : l.length = 16
  ok : Ok l
  val : vi l % 57896044618658097711785492504343953926634992332820282019728792003956564819949 = (x : Int)
theorem Rep.lt {l : List Int} {x : Nat} (h : Rep l x) : x < pp := by
  have := h.val
  unfold pp
  omega
theorem getD_out (l : List Int) (i : Nat) (h : l.length ≤ i) : l.getD i 0 = 0 := by
  rw [List.getD_eq_getElem?_getD, List.getElem?_eq_none h]; rfl
theorem cy_ok (l : List Int) (hl : l.length = 16) (C : Int) (hC : C ≤ 20000) (hq : -C ≤ cq l 15 ∧ cq l 15 ≤ C) : Ok (cy l) := by
  intro i
  by_cases h0 : i = 0
  · subst h0
    obtain ⟨r, h1, h2, h3⟩ := cy_zero l hl
    rw [h3]; omega
  · by_cases h1 : i ≤ 15
    · have := cy_high l hl i (by omega) h1; omega
    · rw [getD_out _ _ (by rw [cy_len, hl]; omega)]; omega
theorem cy_mod (l : List Int) (hl : l.length = 16) : vi (cy l) % 57896044618658097711785492504343953926634992332820282019728792003956564819949 = vi l % 57896044618658097711785492504343953926634992332820282019728792003956564819949 := by
  rw [cy_val l hl]
  generalize cq l 15 = c
  generalize vi l = v
  omega
/-- Rows of at most twice the bound, carried once. -/
theorem rep_cy {l : List Int} {x : Nat} (hl : l.length = 16) (hM : ∀ i, -2097152 ≤ l.getD i 0 ∧ l.getD i 0 ≤ 2097152) (hv : vi l % 57896044618658097711785492504343953926634992332820282019728792003956564819949 = (x : Int)) : Rep (cy l) x :=
  ⟨by rw [cy_len, hl], cy_ok l hl 34 (by decide) (cq_bound l hl 2097152 34 hM (by decide) (by decide) 15 (Nat.le_refl _)), by rw [cy_mod l hl, hv]⟩
theorem add_rep (u v : Int) (x y : Nat) (hu : u % 57896044618658097711785492504343953926634992332820282019728792003956564819949 = (x : Int)) (hv : v % 57896044618658097711785492504343953926634992332820282019728792003956564819949 = (y : Int)) :
    (u + v) % 57896044618658097711785492504343953926634992332820282019728792003956564819949 = (((x + y) % pp : Nat) : Int) := by
  unfold pp; omega
theorem sub_rep (u v : Int) (x y : Nat) (hu : u % 57896044618658097711785492504343953926634992332820282019728792003956564819949 = (x : Int)) (hv : v % 57896044618658097711785492504343953926634992332820282019728792003956564819949 = (y : Int)) :
    (u - v) % 57896044618658097711785492504343953926634992332820282019728792003956564819949 = (((x + (pp - y) % pp) % pp : Nat) : Int) := by
  unfold pp; omega
theorem mul_rep (u v : Int) (x y : Nat) (hu : u % 57896044618658097711785492504343953926634992332820282019728792003956564819949 = (x : Int)) (hv : v % 57896044618658097711785492504343953926634992332820282019728792003956564819949 = (y : Int)) :
    (u * v) % 57896044618658097711785492504343953926634992332820282019728792003956564819949 = ((x * y % pp : Nat) : Int) := by
  rw [Int.mul_emod, hu, hv]
  unfold pp
  simp
/-- Sums so far. -/
def adl (a b : List Int) : Nat → List Int
  | 0 => a
  | k + 1 => (adl a b k).set k (a.getD k 0 + b.getD k 0)
theorem adl_len (a b : List Int) : ∀ k, (adl a b k).length = a.length
  | 0 => rfl
  | k + 1 => by simp [adl, adl_len a b k]
theorem adl_get (a b : List Int) : ∀ k, k ≤ a.length → ∀ j, (adl a b k).getD j 0 = if j < k then a.getD j 0 + b.getD j 0 else a.getD j 0
  | 0, _, j => by simp [adl]
  | k + 1, hk, j => by
    have ih := adl_get a b k (by omega) j
    rw [adl]
    by_cases e : k = j
    · subst e
      rw [gset_same _ _ _ (by rw [adl_len]; omega), if_pos (by omega)]
    · rw [gset_ne _ _ _ _ e, ih]
      by_cases h : j < k
      · rw [if_pos h, if_pos (by omega)]
      · rw [if_neg h, if_neg (by omega)]
def sbl (a b : List Int) : Nat → List Int
  | 0 => a
  | k + 1 => (sbl a b k).set k (a.getD k 0 - b.getD k 0)
theorem sbl_len (a b : List Int) : ∀ k, (sbl a b k).length = a.length
  | 0 => rfl
  | k + 1 => by simp [sbl, sbl_len a b k]
theorem sbl_get (a b : List Int) : ∀ k, k ≤ a.length → ∀ j, (sbl a b k).getD j 0 = if j < k then a.getD j 0 - b.getD j 0 else a.getD j 0
  | 0, _, j => by simp [sbl]
  | k + 1, hk, j => by
    have ih := sbl_get a b k (by omega) j
    rw [sbl]
    by_cases e : k = j
    · subst e
      rw [gset_same _ _ _ (by rw [sbl_len]; omega), if_pos (by omega)]
    · rw [gset_ne _ _ _ _ e, ih]
      by_cases h : j < k
      · rw [if_pos h, if_pos (by omega)]
      · rw [if_neg h, if_neg (by omega)]
theorem adl_all (a b : List Int) (ha : a.length = 16) (hb : b.length = 16) (j : Nat) : (adl a b 16).getD j 0 = a.getD j 0 + b.getD j 0 := by
  rw [adl_get a b 16 (by omega)]
  by_cases h : j < 16
  · rw [if_pos h]
  · rw [if_neg h, getD_out a j (by omega), getD_out b j (by omega)]; rfl
theorem sbl_all (a b : List Int) (ha : a.length = 16) (hb : b.length = 16) (j : Nat) : (sbl a b 16).getD j 0 = a.getD j 0 - b.getD j 0 := by
  rw [sbl_get a b 16 (by omega)]
  by_cases h : j < 16
  · rw [if_pos h]
  · rw [if_neg h, getD_out a j (by omega), getD_out b j (by omega)]; rfl
end Go.Proofs.YtbaionconnhdiaaDoor
