/- The page's own bytes of a number: plain arithmetic of rows. -/
import Derived.Test.YtbaionconnhdiaaDoorRefMulMath
namespace Go.Proofs.YtbaionconnhdiaaDoor
/-- All rows in their bounds. -/
def Norm (l : List Int) : Prop := l.length = 16 ∧ ∀ i, 0 ≤ l.getD i 0 ∧ l.getD i 0 ≤ 65535
theorem vi_norm : ∀ (l : List Int), (∀ i, 0 ≤ l.getD i 0 ∧ l.getD i 0 ≤ 65535) → 0 ≤ vi l ∧ vi l < 65536 ^ l.length
  | [], _ => by simp [vi]
  | x :: t, h => by
    have ih := vi_norm t (fun i => by simpa using h (i + 1))
    have h0 := h 0
    simp only [List.getD_cons_zero] at h0
    simp only [vi, List.length_cons, Int.pow_succ]
    omega
theorem vi_head (l : List Int) (hl : 0 < l.length) : vi l = l.getD 0 0 + 65536 * vi (l.drop 1) := by
  cases l with
  | nil => simp at hl
  | cons x t => rfl
theorem drop_getD (L : List Int) (k i : Nat) : (L.drop k).getD i 0 = L.getD (k + i) 0 := by
  simp [List.getD_eq_getElem?_getD, List.getElem?_drop]
theorem take_getD (L : List Int) (k i : Nat) (h : i < k) : (L.take k).getD i 0 = L.getD i 0 := by
  rw [List.getD_eq_getElem?_getD, List.getElem?_take, if_pos h, List.getD_eq_getElem?_getD]
/-- Carried three times, rows that were not far out are in their bounds. -/
theorem norm_cy3 {l : List Int} {x : Nat} (h : Rep l x) : Norm (cy (cy (cy l))) ∧ vi (cy (cy (cy l))) % 57896044618658097711785492504343953926634992332820282019728792003956564819949 = (x : Int)
    ∧ (∀ i, -1152921504606846976 ≤ l.getD i 0 ∧ l.getD i 0 ≤ 1152921504606846976) ∧ (∀ i, -1152921504606846976 ≤ (cy l).getD i 0 ∧ (cy l).getD i 0 ≤ 1152921504606846976) ∧ (∀ i, -1152921504606846976 ≤ (cy (cy l)).getD i 0 ∧ (cy (cy l)).getD i 0 ≤ 1152921504606846976) := by
  have hl := h.len
  have hl1 : (cy l).length = 16 := by rw [cy_len, hl]
  have hl2 : (cy (cy l)).length = 16 := by rw [cy_len, hl1]
  have hl3 : (cy (cy (cy l))).length = 16 := by rw [cy_len, hl2]
  have hM : ∀ i, -2097152 ≤ l.getD i 0 ∧ l.getD i 0 ≤ 2097152 := fun i => by have := h.ok i; omega
  have h1 := rep_cy hl hM h.val
  obtain ⟨r0, a1, a2, a3⟩ := cy_zero l hl
  have q1 := cq_bound l hl 2097152 34 hM (by decide) (by decide) 15 (Nat.le_refl _)
  have q2 := cq_tight (cy l) hl1 (by rw [a3]; omega) (cy_high l hl) 15 (by omega) (Nat.le_refl _)
  obtain ⟨r1, b1, b2, b3⟩ := cy_zero (cy l) hl1
  have q3 := cq_tight (cy (cy l)) hl2 (by rw [b3]; omega) (cy_high (cy l) hl1) 15 (by omega) (Nat.le_refl _)
  obtain ⟨r2, c1, c2, c3⟩ := cy_zero (cy (cy l)) hl2
  have hv3 := cy_val (cy (cy l)) hl2
  -- the row with its first number's overflow left out
  have hL : ∀ i, 0 ≤ ((cy (cy (cy l))).set 0 r2).getD i 0 ∧ ((cy (cy (cy l))).set 0 r2).getD i 0 ≤ 65535 := by
    intro i
    by_cases e : i = 0
    · subst e; rw [gset_same _ _ _ (by omega)]; omega
    · rw [gset_ne _ _ _ _ (by omega)]
      by_cases e2 : i ≤ 15
      · exact cy_high (cy (cy l)) hl2 i (by omega) e2
      · rw [getD_out _ _ (by omega)]; omega
  have hs := vi_set (cy (cy (cy l))) 0 r2 (by omega)
  rw [Int.pow_zero, c3] at hs
  have hhd := vi_head ((cy (cy (cy l))).set 0 r2) (by rw [List.length_set]; omega)
  rw [gset_same _ _ _ (by omega)] at hhd
  have hdr := vi_norm (((cy (cy (cy l))).set 0 r2).drop 1) (fun i => by
    rw [drop_getD]; exact hL (1 + i))
  rw [List.length_drop, List.length_set, hl3] at hdr
  simp only [show (65536 : Int) ^ (16 - 1) = 1766847064778384329583297500742918515827483896875618958121606201292619776 from by decide +kernel] at hdr
  -- the value of what was carried twice
  have hd2 := vi_head (cy (cy l)) (by omega)
  have hn2 := vi_norm ((cy (cy l)).drop 1) (fun i => by
    have hh : 0 ≤ (cy (cy l)).getD (1 + i) 0 ∧ (cy (cy l)).getD (1 + i) 0 ≤ 65535 := by
      by_cases e2 : 1 + i ≤ 15
      · exact cy_high (cy l) hl1 (1 + i) (by omega) e2
      · rw [getD_out _ _ (by omega)]; omega
    rw [drop_getD]; exact hh)
  rw [List.length_drop, hl2] at hn2
  simp only [show (65536 : Int) ^ (16 - 1) = 1766847064778384329583297500742918515827483896875618958121606201292619776 from by decide +kernel] at hn2
  rw [b3] at hd2
  refine ⟨⟨hl3, fun i => ?_⟩, by rw [cy_mod _ hl2, cy_mod _ hl1, cy_mod _ hl, h.val], fun i => by have := h.ok i; omega, fun i => by have := h1.ok i; omega, fun i => ?_⟩
  · by_cases e : i = 0
    · subst e; rw [c3]; omega
    · by_cases e2 : i ≤ 15
      · exact cy_high (cy (cy l)) hl2 i (by omega) e2
      · rw [getD_out _ _ (by omega)]; omega
  · by_cases e : i = 0
    · subst e; rw [b3]; omega
    · by_cases e2 : i ≤ 15
      · have := cy_high (cy l) hl1 i (by omega) e2; omega
      · rw [getD_out _ _ (by omega)]; omega
/-- One step of taking p away. -/
def sv (i : Nat) : Int := if i = 0 then 65517 else if i = 15 then 32767 else 65535
def mstep (t : List Int) (i : Nat) (m : List Int) : List Int :=
  if m.getD (i - 1) 0 < 0 then (m.set i (t.getD i 0 - sv i - 1)).set (i - 1) (m.getD (i - 1) 0 + 65536) else m.set i (t.getD i 0 - sv i)
def ml (t : List Int) : Nat → List Int
  | 0 => t.set 0 (t.getD 0 0 - 65517)
  | k + 1 => mstep t (k + 1) (ml t k)
theorem ml_len (t : List Int) : ∀ k, (ml t k).length = t.length
  | 0 => by simp [ml]
  | k + 1 => by rw [ml, mstep]; split <;> simp [ml_len t k]
theorem ml_gt (t : List Int) : ∀ k j, k < j → (ml t k).getD j 0 = t.getD j 0
  | 0, j, h => by rw [ml, gset_ne _ _ _ _ (by omega)]
  | k + 1, j, h => by
    rw [ml, mstep]
    split
    · rw [gset_ne _ _ _ _ (by omega), gset_ne _ _ _ _ (by omega)]; exact ml_gt t k j (by omega)
    · rw [gset_ne _ _ _ _ (by omega)]; exact ml_gt t k j (by omega)
theorem ml_all (t : List Int) (ht : Norm t) : ∀ k, k ≤ 15 → (∀ j, j < k → 0 ≤ (ml t k).getD j 0 ∧ (ml t k).getD j 0 ≤ 65535) ∧ -65536 ≤ (ml t k).getD k 0 ∧ (ml t k).getD k 0 ≤ t.getD k 0 - sv k ∧ t.getD k 0 - sv k - 1 ≤ (ml t k).getD k 0
  | 0, _ => by
    have h0 := ht.2 0
    refine ⟨fun j h => absurd h (by omega), ?_⟩
    rw [ml, gset_same _ _ _ (by rw [ht.1]; omega)]
    simp only [sv, if_true]; omega
  | k + 1, hk => by
    obtain ⟨ih, i1, i2, i3⟩ := ml_all t ht k (by omega)
    have h0 := ht.2 (k + 1)
    have hk0 := ht.2 k
    have hlen := ml_len t k
    rw [ht.1] at hlen
    have hsv : 32767 ≤ sv (k + 1) ∧ sv (k + 1) ≤ 65535 := by unfold sv; split <;> (try split) <;> omega
    have hsv0 : 32767 ≤ sv k := by unfold sv; split <;> (try split) <;> omega
    have e : k + 1 - 1 = k := by omega
    rw [ml, mstep, e]
    split
    · rename_i hneg
      refine ⟨fun j hj => ?_, ?_⟩
      · by_cases ej : j = k
        · subst ej; rw [gset_same _ _ _ (by rw [List.length_set]; omega)]; omega
        · rw [gset_ne _ _ _ _ (by omega), gset_ne _ _ _ _ (by omega)]; exact ih j (by omega)
      · rw [gset_ne _ _ _ _ (by omega), gset_same _ _ _ (by omega)]; omega
    · rename_i hneg
      refine ⟨fun j hj => ?_, ?_⟩
      · rw [gset_ne _ _ _ _ (by omega)]
        by_cases ej : j = k
        · subst ej; omega
        · exact ih j (by omega)
      · rw [gset_same _ _ _ (by omega)]; omega
/-- What has been taken away so far. -/
def pv : Nat → Int
  | 0 => 65517
  | k + 1 => pv k + 65536 ^ (k + 1) * sv (k + 1)
theorem ml_val (t : List Int) (ht : Norm t) : ∀ k, k ≤ 15 → vi (ml t k) = vi t - pv k
  | 0, _ => by
    rw [ml, vi_set _ _ _ (by rw [ht.1]; omega), Int.pow_zero, pv]; omega
  | k + 1, hk => by
    have ih := ml_val t ht k (by omega)
    have hlen := ml_len t k
    rw [ht.1] at hlen
    have hg := ml_gt t k (k + 1) (by omega)
    have e : k + 1 - 1 = k := by omega
    rw [ml, mstep, e, pv]
    split
    · rw [vi_set _ _ _ (by rw [List.length_set]; omega), vi_set _ _ _ (by omega), gset_ne _ _ _ _ (by omega), hg, ih, Int.pow_succ]
      generalize t.getD (k + 1) 0 = u
      generalize (ml t k).getD k 0 = v
      generalize sv (k + 1) = s
      generalize (65536 : Int) ^ k = P
      rw [show u - s - 1 - u = -(s + 1) by omega, show v + 65536 - v = 65536 by omega, Int.mul_neg, Int.mul_add, Int.mul_one]
      omega
    · rw [vi_set _ _ _ (by omega), hg, ih]
      generalize t.getD (k + 1) 0 = u
      generalize sv (k + 1) = s
      rw [show u - s - u = -s by omega, Int.mul_neg]
      omega
theorem pv15 : pv 15 = 57896044618658097711785492504343953926634992332820282019728792003956564819949 := by decide +kernel
/-- A round: p is taken away where it goes. -/
def tr (t : List Int) : Nat → List Int
  | 0 => t
  | j + 1 => if 0 ≤ (ml (tr t j) 15).getD 15 0 then ml (tr t j) 15 else tr t j
theorem tr_step (t : List Int) (ht : Norm t) (m : List Int) (hm : m = ml t 15) : (0 ≤ m.getD 15 0 → Norm m ∧ vi m = vi t - 57896044618658097711785492504343953926634992332820282019728792003956564819949) ∧ (¬ 0 ≤ m.getD 15 0 → vi t < 57896044618658097711785492504343953926634992332820282019728792003956564819949) := by
  obtain ⟨h1, h2, h3, _⟩ := ml_all t ht 15 (Nat.le_refl _)
  have hv := ml_val t ht 15 (Nat.le_refl _)
  have hlen := ml_len t 15
  rw [ht.1] at hlen
  rw [pv15] at hv
  rw [← hm] at h1 h2 h3 hv hlen
  clear hm
  have h15 := ht.2 15
  have hs : sv 15 = 32767 := by decide
  constructor
  · intro h0
    refine ⟨⟨hlen, fun i => ?_⟩, hv⟩
    by_cases e : i < 15
    · exact h1 i e
    · by_cases e2 : i = 15
      · subst e2; omega
      · rw [getD_out _ _ (by omega)]; omega
  · intro h0
    have hsp := vi_split m 15
    have htk := vi_norm (m.take 15) (fun i => by
      by_cases e : i < 15
      · rw [take_getD m 15 i e]; exact h1 i e
      · rw [getD_out _ _ (by rw [List.length_take]; omega)]; omega)
    have hdr : vi (m.drop 15) = m.getD 15 0 := by
      have hd := vi_head (m.drop 15) (by rw [List.length_drop]; omega)
      rw [List.drop_drop, List.drop_of_length_le (by omega : m.length ≤ 15 + 1), vi, drop_getD, Nat.add_zero] at hd
      rw [hd]; omega
    rw [hdr] at hsp
    rw [List.length_take, hlen, show min 15 16 = 15 from rfl] at htk
    simp only [show (65536 : Int) ^ 15 = 1766847064778384329583297500742918515827483896875618958121606201292619776 from by decide +kernel] at hsp htk
    omega
theorem tr_all (t : List Int) (ht : Norm t) (x : Nat) (hv : vi t % 57896044618658097711785492504343953926634992332820282019728792003956564819949 = (x : Int)) : (∀ j, j ≤ 3 → Norm (tr t j)) ∧ vi (tr t 3) = (x : Int) := by
  have h0 := vi_norm t ht.2
  rw [ht.1, show (65536 : Int) ^ 16 = 115792089237316195423570985008687907853269984665640564039457584007913129639936 from by decide +kernel] at h0
  have step : ∀ s, Norm s → Norm (if 0 ≤ (ml s 15).getD 15 0 then ml s 15 else s) ∧ vi (if 0 ≤ (ml s 15).getD 15 0 then ml s 15 else s) = if 57896044618658097711785492504343953926634992332820282019728792003956564819949 ≤ vi s then vi s - 57896044618658097711785492504343953926634992332820282019728792003956564819949 else vi s := by
    intro s hs
    obtain ⟨a, b⟩ := tr_step s hs _ rfl
    by_cases h : 0 ≤ (ml s 15).getD 15 0
    · obtain ⟨c, d⟩ := a h
      have := (vi_norm _ c.2).1
      rw [if_pos h, if_pos (by omega)]
      exact ⟨c, d⟩
    · have := b h
      rw [if_neg h, if_neg (by omega)]
      exact ⟨hs, rfl⟩
  have n0 : Norm (tr t 0) := ht
  have s1 := step (tr t 0) n0
  have s2 := step (tr t 1) s1.1
  have s3 := step (tr t 2) s2.1
  have e0 : vi (tr t 0) = vi t := rfl
  have e1 : vi (tr t 1) = _ := s1.2
  have e2 : vi (tr t 2) = _ := s2.2
  have e3 : vi (tr t 3) = _ := s3.2
  refine ⟨fun j hj => ?_, ?_⟩
  · have : j = 0 ∨ j = 1 ∨ j = 2 ∨ j = 3 := by omega
    rcases this with rfl | rfl | rfl | rfl
    · exact n0
    · exact s1.1
    · exact s2.1
    · exact s3.1
  · clear s1 s2 s3 step n0
    generalize vi (tr t 0) = v0 at *
    generalize vi (tr t 1) = v1 at *
    generalize vi (tr t 2) = v2 at *
    generalize vi (tr t 3) = v3 at *
    split at e1 <;> split at e2 <;> split at e3 <;> omega
theorem limb : ∀ (l : List Int), (∀ i, 0 ≤ l.getD i 0 ∧ l.getD i 0 ≤ 65535) → ∀ i, l.getD i 0 = vi l / 65536 ^ i % 65536
  | [], _, i => by simp [vi]
  | x :: t, h, 0 => by
    have h0 := h 0
    simp only [List.getD_cons_zero] at h0
    simp only [List.getD_cons_zero, vi, Int.pow_zero, Int.ediv_one]; omega
  | x :: t, h, i + 1 => by
    have ih := limb t (fun i => by simpa using h (i + 1)) i
    have h0 := h 0
    simp only [List.getD_cons_zero] at h0
    rw [List.getD_cons_succ, ih, vi, Int.pow_succ, Int.mul_comm (65536 ^ i) 65536, ← Int.ediv_ediv_of_nonneg (by decide)]
    congr 2; omega
end Go.Proofs.YtbaionconnhdiaaDoor
