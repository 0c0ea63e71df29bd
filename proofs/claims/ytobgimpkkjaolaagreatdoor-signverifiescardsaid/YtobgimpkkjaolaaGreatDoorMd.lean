/- The page's own numbers modulo p, as its calls answer them. -/
import Derived.Test.YtobgimpkkjaolaaGreatDoorMa
import Derived.Deep.AppendLies
import Derived.Shelf.Spec.TrailingZeros
import Derived.Test.YtobgimpkkjaolaaGreatDoorMb
/- The page's own numbers: sixteen rows of sixteen bits: what a carrying does to them: plain arithmetic, for all rows. -/
namespace Go.Proofs.YtobgimpkkjaolaaGreatDoor
def vi : List Int → Int
  | [] => 0
  | x :: t => x + 65536 * vi t
theorem vi_set : ∀ (l : List Int) (k : Nat) (y : Int), k < l.length → vi (l.set k y) = vi l + 65536 ^ k * (y - l.getD k 0)
  | [], k, y, h => absurd h (by simp)
  | x :: t, 0, y, _ => by simp only [List.set_cons_zero, vi, Int.pow_zero, List.getD_cons_zero]; omega
  | x :: t, k + 1, y, h => by
    have ih := vi_set t k y (by simpa using h)
    simp only [List.set_cons_succ, vi, List.getD_cons_succ, Int.pow_succ]
    rw [ih, Int.mul_add, Int.mul_comm (65536 ^ k) 65536, Int.mul_assoc]
    omega
theorem gset_same (l : List Int) (k : Nat) (y : Int) (h : k < l.length) : (l.set k y).getD k 0 = y := by
  simp [List.getD_eq_getElem?_getD, h]
theorem gset_ne (l : List Int) (k j : Nat) (y : Int) (h : k ≠ j) : (l.set k y).getD j 0 = l.getD j 0 := by
  simp [List.getD_eq_getElem?_getD, h]
def cstep (i : Nat) (l : List Int) : List Int :=
  if i < 15 then (l.set (i + 1) (l.getD (i + 1) 0 + l.getD i 0 / 65536)).set i (l.getD i 0 % 65536)
  else (l.set 0 (l.getD 0 0 + 38 * (l.getD i 0 / 65536))).set i (l.getD i 0 % 65536)
def cyn (l : List Int) : Nat → List Int
  | 0 => l
  | k + 1 => cstep k (cyn l k)
theorem cstep_len (i : Nat) (l : List Int) : (cstep i l).length = l.length := by
  unfold cstep; split <;> simp
theorem cyn_len (l : List Int) : ∀ k, (cyn l k).length = l.length
  | 0 => rfl
  | k + 1 => by rw [cyn, cstep_len, cyn_len l k]
theorem cyn_gt (l : List Int) (hl : l.length = 16) : ∀ k j, k ≤ 15 → k < j → (cyn l k).getD j 0 = l.getD j 0
  | 0, j, _, _ => rfl
  | k + 1, j, hk, hj => by
    rw [cyn, cstep, if_pos (by omega), gset_ne _ _ _ _ (by omega), gset_ne _ _ _ _ (by omega)]
    exact cyn_gt l hl k j (by omega) (by omega)
theorem cyn_lt (l : List Int) (hl : l.length = 16) : ∀ k j, k ≤ 15 → j < k → 0 ≤ (cyn l k).getD j 0 ∧ (cyn l k).getD j 0 ≤ 65535
  | 0, j, _, h => absurd h (by omega)
  | k + 1, j, hk, hj => by
    rw [cyn, cstep, if_pos (by omega)]
    by_cases e : j = k
    · subst e
      rw [gset_same _ _ _ (by rw [List.length_set, cyn_len, hl]; omega)]
      omega
    · rw [gset_ne _ _ _ _ (by omega), gset_ne _ _ _ _ (by omega)]
      exact cyn_lt l hl k j (by omega) (by omega)
def cq (l : List Int) (k : Nat) : Int := (cyn l k).getD k 0 / 65536
theorem cyn_at (l : List Int) (hl : l.length = 16) (k : Nat) (hk : k + 1 ≤ 15) : (cyn l (k + 1)).getD (k + 1) 0 = l.getD (k + 1) 0 + cq l k := by
  rw [cyn, cstep, if_pos (by omega), gset_ne _ _ _ _ (by omega), gset_same _ _ _ (by rw [cyn_len, hl]; omega), cyn_gt l hl k (k + 1) (by omega) (by omega)]
  rfl
theorem cq_bound (l : List Int) (hl : l.length = 16) (M C : Int) (hM : ∀ i, -M ≤ l.getD i 0 ∧ l.getD i 0 ≤ M) (hC : M + C ≤ 65536 * C - 65536) (hC0 : 0 ≤ C) : ∀ k, k ≤ 15 → -C ≤ cq l k ∧ cq l k ≤ C
  | 0, _ => by
    have h := hM 0
    unfold cq
    show -C ≤ l.getD 0 0 / 65536 ∧ l.getD 0 0 / 65536 ≤ C
    omega
  | k + 1, hk => by
    have ih := cq_bound l hl M C hM hC hC0 k (by omega)
    have h := hM (k + 1)
    unfold cq
    rw [cyn_at l hl k hk]
    omega
theorem cyn_in (l : List Int) (hl : l.length = 16) (M C : Int) (hM : ∀ i, -M ≤ l.getD i 0 ∧ l.getD i 0 ≤ M) (hC : M + C ≤ 65536 * C - 65536) (hC0 : 0 ≤ C) (hM0 : 65535 ≤ M) : ∀ k j, k ≤ 15 → -(M + C) ≤ (cyn l k).getD j 0 ∧ (cyn l k).getD j 0 ≤ M + C := by
  intro k j hk
  rcases Nat.lt_trichotomy j k with h | h | h
  · have := cyn_lt l hl k j hk h; omega
  · subst h
    cases j with
    | zero => have := hM 0; show -(M + C) ≤ l.getD 0 0 ∧ l.getD 0 0 ≤ M + C; omega
    | succ j =>
      have h1 := cq_bound l hl M C hM hC hC0 j (by omega)
      have h2 := hM (j + 1)
      rw [cyn_at l hl j hk]; omega
  · rw [cyn_gt l hl k j hk h]; have := hM j; omega
def cy (l : List Int) : List Int := cyn l 16
theorem cy_len (l : List Int) : (cy l).length = l.length := cyn_len l 16
theorem cy_high (l : List Int) (hl : l.length = 16) (j : Nat) (h1 : 1 ≤ j) (h2 : j ≤ 15) : 0 ≤ (cy l).getD j 0 ∧ (cy l).getD j 0 ≤ 65535 := by
  unfold cy
  rw [cyn, cstep, if_neg (by omega)]
  by_cases e : j = 15
  · subst e
    rw [gset_same _ _ _ (by rw [List.length_set, cyn_len, hl]; omega)]
    omega
  · rw [gset_ne _ _ _ _ (by omega), gset_ne _ _ _ _ (by omega)]
    exact cyn_lt l hl 15 j (by omega) (by omega)
theorem cy_zero (l : List Int) (hl : l.length = 16) : ∃ r : Int, 0 ≤ r ∧ r ≤ 65535 ∧ (cy l).getD 0 0 = r + 38 * cq l 15 := by
  refine ⟨(cyn l 15).getD 0 0, (cyn_lt l hl 15 0 (by omega) (by omega)).1, (cyn_lt l hl 15 0 (by omega) (by omega)).2, ?_⟩
  unfold cy
  rw [cyn, cstep, if_neg (by omega), gset_ne _ _ _ _ (by omega), gset_same _ _ _ (by rw [cyn_len, hl]; omega)]
  rfl
theorem cyn_val (l : List Int) (hl : l.length = 16) : ∀ k, k ≤ 15 → vi (cyn l k) = vi l
  | 0, _ => rfl
  | k + 1, hk => by
    have ih := cyn_val l hl k (by omega)
    have hlen := cyn_len l k
    rw [cyn, cstep, if_pos (by omega), vi_set _ _ _ (by rw [List.length_set, hlen, hl]; omega), vi_set _ _ _ (by rw [hlen, hl]; omega), gset_ne _ _ _ _ (by omega), ih, Int.pow_succ]
    generalize (cyn l k).getD k 0 = x
    generalize (cyn l k).getD (k + 1) 0 = y
    generalize (65536 : Int) ^ k = P
    have h1 : x % 65536 - x = -(65536 * (x / 65536)) := by omega
    have h2 : y + x / 65536 - y = x / 65536 := by omega
    rw [h1, h2, Int.mul_neg, Int.mul_assoc]
    omega
theorem cy_val (l : List Int) (hl : l.length = 16) : vi (cy l) = vi l - 115792089237316195423570985008687907853269984665640564039457584007913129639898 * cq l 15 := by
  have h15 := cyn_val l hl 15 (by omega)
  have hlen := cyn_len l 15
  unfold cy
  rw [cyn, cstep, if_neg (by omega), vi_set _ _ _ (by rw [List.length_set, hlen, hl]; omega), vi_set _ _ _ (by rw [hlen, hl]; omega), gset_ne _ _ _ _ (by omega), h15]
  have e : cq l 15 = (cyn l 15).getD 15 0 / 65536 := rfl
  rw [e]
  generalize (cyn l 15).getD 15 0 = x
  generalize (cyn l 15).getD 0 0 = y
  have h1 : x % 65536 - x = -(65536 * (x / 65536)) := by omega
  rw [h1]
  rw [show (65536 : Int) ^ 15 = 1766847064778384329583297500742918515827483896875618958121606201292619776 from by decide +kernel, Int.pow_zero]
  omega
theorem vi_add : ∀ (a b c : List Int), a.length = c.length → b.length = c.length → (∀ i, c.getD i 0 = a.getD i 0 + b.getD i 0) → vi c = vi a + vi b
  | [], [], [], _, _, _ => rfl
  | x :: a, y :: b, z :: c, h1, h2, h => by
    have ih := vi_add a b c (by simpa using h1) (by simpa using h2) (fun i => by simpa using h (i + 1))
    have h0 := h 0
    simp only [List.getD_cons_zero] at h0
    simp only [vi, ih, h0]; omega
  | [], y :: b, [], _, h2, _ => by simp at h2
  | x :: a, [], _, h1, h2, _ => by simp at h1 h2; omega
  | [], [], z :: c, h1, _, _ => by simp at h1
  | x :: a, y :: b, [], h1, _, _ => by simp at h1
  | [], y :: b, z :: c, h1, _, _ => by simp at h1
theorem vi_sub (a b c : List Int) (h1 : a.length = c.length) (h2 : b.length = c.length) (h : ∀ i, c.getD i 0 = a.getD i 0 - b.getD i 0) : vi c = vi a - vi b := by
  have := vi_add c b a (by omega) (by omega) (fun i => by have := h i; omega)
  omega
def Ok (l : List Int) : Prop := ∀ i, -1048576 ≤ l.getD i 0 ∧ l.getD i 0 ≤ 1048576
structure Rep (l : List Int) (x : Nat) : Prop where
  len : l.length = 16
  ok : Ok l
  val : vi l % 57896044618658097711785492504343953926634992332820282019728792003956564819949 = (x : Int)
theorem Rep.lt {l : List Int} {x : Nat} (h : Rep l x) : x < pp := by
  have := h.val
  unfold pp
  omega
theorem getD_out (l : List Int) (i : Nat) (h : l.length ≤ i) : l.getD i 0 = 0 := by
  rw [List.getD_eq_getElem?_getD, List.getElem?_eq_none h]; rfl
theorem cy_ok (l : List Int) (hl : l.length = 16) (C : Int) (hC : C ≤ 20000) (hq : -C ≤ cq l 15 ∧ cq l 15 ≤ C) : Ok (cy l) := by
  intro i
  by_cases h0 : i = 0
  · subst h0
    obtain ⟨r, h1, h2, h3⟩ := cy_zero l hl
    rw [h3]; omega
  · by_cases h1 : i ≤ 15
    · have := cy_high l hl i (by omega) h1; omega
    · rw [getD_out _ _ (by rw [cy_len, hl]; omega)]; omega
theorem cy_mod (l : List Int) (hl : l.length = 16) : vi (cy l) % 57896044618658097711785492504343953926634992332820282019728792003956564819949 = vi l % 57896044618658097711785492504343953926634992332820282019728792003956564819949 := by
  rw [cy_val l hl]
  generalize cq l 15 = c
  generalize vi l = v
  omega
theorem rep_cy {l : List Int} {x : Nat} (hl : l.length = 16) (hM : ∀ i, -2097152 ≤ l.getD i 0 ∧ l.getD i 0 ≤ 2097152) (hv : vi l % 57896044618658097711785492504343953926634992332820282019728792003956564819949 = (x : Int)) : Rep (cy l) x :=
  ⟨by rw [cy_len, hl], cy_ok l hl 34 (by decide) (cq_bound l hl 2097152 34 hM (by decide) (by decide) 15 (Nat.le_refl _)), by rw [cy_mod l hl, hv]⟩
theorem add_rep (u v : Int) (x y : Nat) (hu : u % 57896044618658097711785492504343953926634992332820282019728792003956564819949 = (x : Int)) (hv : v % 57896044618658097711785492504343953926634992332820282019728792003956564819949 = (y : Int)) :
    (u + v) % 57896044618658097711785492504343953926634992332820282019728792003956564819949 = (((x + y) % pp : Nat) : Int) := by
  unfold pp; omega
theorem sub_rep (u v : Int) (x y : Nat) (hu : u % 57896044618658097711785492504343953926634992332820282019728792003956564819949 = (x : Int)) (hv : v % 57896044618658097711785492504343953926634992332820282019728792003956564819949 = (y : Int)) :
    (u - v) % 57896044618658097711785492504343953926634992332820282019728792003956564819949 = (((x + (pp - y) % pp) % pp : Nat) : Int) := by
  unfold pp; omega
theorem mul_rep (u v : Int) (x y : Nat) (hu : u % 57896044618658097711785492504343953926634992332820282019728792003956564819949 = (x : Int)) (hv : v % 57896044618658097711785492504343953926634992332820282019728792003956564819949 = (y : Int)) :
    (u * v) % 57896044618658097711785492504343953926634992332820282019728792003956564819949 = ((x * y % pp : Nat) : Int) := by
  rw [Int.mul_emod, hu, hv]
  unfold pp
  simp
def adl (a b : List Int) : Nat → List Int
  | 0 => a
  | k + 1 => (adl a b k).set k (a.getD k 0 + b.getD k 0)
theorem adl_len (a b : List Int) : ∀ k, (adl a b k).length = a.length
  | 0 => rfl
  | k + 1 => by simp [adl, adl_len a b k]
theorem adl_get (a b : List Int) : ∀ k, k ≤ a.length → ∀ j, (adl a b k).getD j 0 = if j < k then a.getD j 0 + b.getD j 0 else a.getD j 0
  | 0, _, j => by simp [adl]
  | k + 1, hk, j => by
    have ih := adl_get a b k (by omega) j
    rw [adl]
    by_cases e : k = j
    · subst e
      rw [gset_same _ _ _ (by rw [adl_len]; omega), if_pos (by omega)]
    · rw [gset_ne _ _ _ _ e, ih]
      by_cases h : j < k
      · rw [if_pos h, if_pos (by omega)]
      · rw [if_neg h, if_neg (by omega)]
def sbl (a b : List Int) : Nat → List Int
  | 0 => a
  | k + 1 => (sbl a b k).set k (a.getD k 0 - b.getD k 0)
theorem sbl_len (a b : List Int) : ∀ k, (sbl a b k).length = a.length
  | 0 => rfl
  | k + 1 => by simp [sbl, sbl_len a b k]
theorem sbl_get (a b : List Int) : ∀ k, k ≤ a.length → ∀ j, (sbl a b k).getD j 0 = if j < k then a.getD j 0 - b.getD j 0 else a.getD j 0
  | 0, _, j => by simp [sbl]
  | k + 1, hk, j => by
    have ih := sbl_get a b k (by omega) j
    rw [sbl]
    by_cases e : k = j
    · subst e
      rw [gset_same _ _ _ (by rw [sbl_len]; omega), if_pos (by omega)]
    · rw [gset_ne _ _ _ _ e, ih]
      by_cases h : j < k
      · rw [if_pos h, if_pos (by omega)]
      · rw [if_neg h, if_neg (by omega)]
theorem adl_all (a b : List Int) (ha : a.length = 16) (hb : b.length = 16) (j : Nat) : (adl a b 16).getD j 0 = a.getD j 0 + b.getD j 0 := by
  rw [adl_get a b 16 (by omega)]
  by_cases h : j < 16
  · rw [if_pos h]
  · rw [if_neg h, getD_out a j (by omega), getD_out b j (by omega)]; rfl
theorem sbl_all (a b : List Int) (ha : a.length = 16) (hb : b.length = 16) (j : Nat) : (sbl a b 16).getD j 0 = a.getD j 0 - b.getD j 0 := by
  rw [sbl_get a b 16 (by omega)]
  by_cases h : j < 16
  · rw [if_pos h]
  · rw [if_neg h, getD_out a j (by omega), getD_out b j (by omega)]; rfl
end Go.Proofs.YtobgimpkkjaolaaGreatDoor
/- The page's own carrying, as its call answers it, in any world. -/
namespace Go.Proofs.YtobgimpkkjaolaaGreatDoor
open Go.RowKit
def ia (l : List Int) : Array Value := (l.map fun (n : Int) => Value.int .i64 n).toArray
theorem ia_size (l : List Int) : (ia l).size = l.length := by simp [ia]
theorem ia_get (l : List Int) (k : Nat) (h : k < l.length) : (ia l)[k]? = some (.int .i64 (l.getD k 0)) := by
  simp [ia, List.getD_eq_getElem?_getD, h]
theorem ia_set (l : List Int) (k : Nat) (n : Int) : (ia l).setIfInBounds k (.int .i64 n) = ia (l.set k n) := by
  simp [ia, List.map_set]
theorem ia_one (l : List Int) : (ia l).all (·.oneCell') = true := by
  simp [ia]; intro x _; rfl
def z16 : List Int := [0, 0, 0, 0, 0, 0, 0, 0, 0, 0, 0, 0, 0, 0, 0, 0]
theorem undN : Tryz.prog.underlying 37 = some (.array 16 2) := by kernel_rfl
theorem sizeN : (Tryz.prog.info? 37).map (·.size) = some 16 := by kernel_rfl
theorem zeroN (w : World) : (zeroValue 37).run Tryz.prog w = .ok (.agg (ia z16)) w := by kernel_rfl
set_option maxRecDepth 100000 in
set_option maxHeartbeats 2000000 in
theorem carry_any (l : List Int) (hl : l.length = 16) (hM : ∀ i, -1152921504606846976 ≤ l.getD i 0 ∧ l.getD i 0 ≤ 1152921504606846976) (w : World) :
    Calls Tryz.prog 80 #[.agg (ia l)] w fun e w' => e = .returned (.agg (ia (cy l))) ∧ Below w.heap.size w w' := by
  have hz := zeroN
  have HIN := hide (cyn_in l hl 1152921504606846976 35184372088832 hM (by decide) (by decide) (by decide))
  have HQ := hide (cq_bound l hl 1152921504606846976 35184372088832 hM (by decide) (by decide))
  have HL := hide hl
  clear hM hl
  go_enter Tryz.func80, Tryz.ntmps80
  go_wp2
  clear hz
  go_loopw [5] (fun i wr => ∃ k : Nat, k ≤ 16 ∧ i = .int .i64 k ∧ wr.heap[w.heap.size]? = some (.cells (ia (cyn l k)) 37 (0, 0)) ∧ wr.heap[w.heap.size + 1]? = some (.cells (ia z16) 37 (0, 0)) ∧ wr.heap.size = w.heap.size + 1 + 1 ∧ Below w.heap.size w wr) (fun i _ => 16 - (intOf i).toNat)
  case atStart => exact ⟨0, by omega, rfl, heap2_0 _ _ _, heap2_1 _ _ _, by simp, below2 _ _ _⟩
  case round =>
    obtain ⟨k, hk, rfl, hR, hO, hS, hB⟩ := hrel
    by_cases hlt : k < 16
    · have hlen : (cyn l k).length = 16 := by rw [cyn_len, HL.out]
      have hx := HIN.out k k (by omega)
      have hq := HQ.out k (by omega)
      have ck := cell_of_row _ _ k _ _ _ hR
      rw [ia_get _ _ (by omega)] at ck
      have hfro : ∀ i, wr.frozen? ⟨w.heap.size, i, none⟩ = false := fun i => frozen_of_row _ _ _ _ _ hR
      have HR := hide hR
      have HO := hide hO
      have b0 : (0 : Int) ≤ (k : Int) := by omega
      have b1 : (k : Int) < 16 := by omega
      by_cases h15 : k < 15
      · have hy := HIN.out k (k + 1) (by omega)
        have ck1 := cell_of_row _ _ (k + 1) _ _ _ hR
        rw [ia_get _ _ (by omega)] at ck1
        have HC : Hid (cyn l (k + 1) = ((cyn l k).set (k + 1) ((cyn l k).getD (k + 1) 0 + (cyn l k).getD k 0 / 65536)).set k ((cyn l k).getD k 0 % 65536)) := by
          show _ = _
          rw [cyn, cstep, if_pos h15]
        have HN := hide hlen
        clear hR hO hlen hq
        generalize hgx : (cyn l k).getD k 0 = x at *
        generalize hgy : (cyn l k).getD (k + 1) 0 = y at *
        clear hgx hgy
        have b2 : (k : Int) + 1 < 16 := by omega
        have b3 : (0 : Int) ≤ (k : Int) + 1 := by omega
        have d15 : decide ((k : Int) < 15) = true := decide_eq_true (by omega)
        go_wp2
        refine ⟨⟨k + 1, by omega, by go_num, ?_, ?_, ?_, ?_⟩, by simp [intOf]; omega⟩
        · rw [heap_setCell_same _ _ _ _ _ _ (heap_setCell_same _ _ _ _ _ _ (heap_setCell_same _ _ _ _ _ _ HR.out)), ia_set, ia_set, ia_set, HC.out, List.set_comm _ _ (show k ≠ k + 1 by omega), List.set_set]
          rw [show x + 65536 - (x + 65536) / 65536 * 65536 = x % 65536 by omega, show y + ((x + 65536) / 65536 - 1) = y + x / 65536 by omega]
        · rw [heap_setCell_other _ _ _ _ (by simp), heap_setCell_other _ _ _ _ (by simp), heap_setCell_other _ _ _ _ (by simp)]; exact HO.out
        · simpa using hS
        · exact ((hB.setCell (by simp) _).setCell (by simp) _).setCell (by simp) _
      · have hk15 : k = 15 := by omega
        subst hk15
        have hy := HIN.out 15 0 (by omega)
        have hy0 := cyn_lt l HL.out 15 0 (by omega) (by omega)
        have ck1 := cell_of_row _ _ 0 _ _ _ hR
        rw [ia_get _ _ (by omega)] at ck1
        have HC : Hid (cyn l 16 = ((cyn l 15).set 0 ((cyn l 15).getD 0 0 + 38 * ((cyn l 15).getD 15 0 / 65536))).set 15 ((cyn l 15).getD 15 0 % 65536)) := by
          show _ = _
          rw [cyn, cstep, if_neg (by omega)]
        have HN := hide hlen
        clear hR hO hlen hq
        generalize hgx : (cyn l 15).getD 15 0 = x at *
        generalize hgy : (cyn l 15).getD 0 0 = y at *
        clear hgx hgy
        generalize cyn l 15 = L at *
        have d15 : decide (((15 : Nat) : Int) < 15) = false := by decide
        go_wp2
        refine ⟨⟨16, by omega, by go_num, ?_, ?_, ?_, ?_⟩, by simp [intOf]⟩
        · rw [HC.out, heap_setCell_same _ _ _ _ _ _ (heap_setCell_same _ _ _ _ _ _ (heap_setCell_same _ _ _ _ _ _ HR.out)), ia_set, ia_set, ia_set, List.set_comm _ _ (show 15 ≠ 0 by omega), List.set_set]
          rw [show x + 65536 - (x + 65536) / 65536 * 65536 = x % 65536 by omega, show y + 38 * ((x + 65536) / 65536 - 1) = y + 38 * (x / 65536) by omega]
        · rw [heap_setCell_other _ _ _ _ (by simp), heap_setCell_other _ _ _ _ (by simp), heap_setCell_other _ _ _ _ (by simp)]; exact HO.out
        · simpa using hS
        · exact ((hB.setCell (by simp) _).setCell (by simp) _).setCell (by simp) _
    · have hk16 : k = 16 := by omega
      rw [hk16] at hR
      have hw : (ia (cyn l 16)).size = 16 := by rw [ia_size, cyn_len, HL.out]
      have dk : decide ((k : Int) < 16) = false := decide_eq_false (by omega)
      clear hk16 hlt hk
      go_wp2_with (first | (refine wpList_load_row rfl 37 (.tmp 1) rfl w.heap.size rfl 37 (ia (cyn l 16)) (0,0) (.array 16 2) hR undN rfl (by rw [hw]; exact sizeN) ?_) | (refine wpList_store_row rfl 37 (.tmp 2) (.tmp 42) rfl (w.heap.size + 1) (ia (cyn l 16)) rfl rfl 37 (ia z16) hO (by rw [hw]; exact sizeN) (by rw [hw]; rfl) (ia_one _) ?_))
      exact bodyPost_ret_by (results_cell_row rfl _ _ (w.heap.size + 1) 37 (ia (cyn l 16)) (0, 0) (.array 16 2) rfl (setRow_heap _ _ _ _ _ _ hO) undN rfl (by rw [hw]; exact sizeN)) rfl ⟨rfl, Below.setRow hB _ _ (by omega)⟩
end Go.Proofs.YtobgimpkkjaolaaGreatDoor
/- The page's own sums and differences, as its calls answer them, in any world. -/
namespace Go.Proofs.YtobgimpkkjaolaaGreatDoor
open Go.RowKit
set_option maxRecDepth 100000 in
set_option maxHeartbeats 2000000 in
theorem radd_any (a b : List Int) (x y : Nat) (ha : Rep a x) (hb : Rep b y) (w : World) :
    Calls Tryz.prog 75 #[.agg (ia a), .agg (ia b)] w fun e w' => ∃ c, e = .returned (.agg (ia c)) ∧ Rep c ((x + y) % pp) ∧ Below w.heap.size w w' := by
  have hz := zeroN
  have hcarry := carry_any (adl a b 16) (by rw [adl_len, ha.len]) (fun i => by rw [adl_all a b ha.len hb.len]; have h1 := ha.ok i; have h2 := hb.ok i; omega)
  have HREP : Hid (Rep (cy (adl a b 16)) ((x + y) % pp)) := by
    refine rep_cy (by rw [adl_len, ha.len]) (fun i => by rw [adl_all a b ha.len hb.len]; have h1 := ha.ok i; have h2 := hb.ok i; omega) ?_
    rw [vi_add a b (adl a b 16) (by rw [adl_len]) (by rw [adl_len, ha.len, hb.len]) (adl_all a b ha.len hb.len)]
    exact add_rep _ _ x y ha.val hb.val
  have HA := hide ha
  have HB := hide hb
  have HC := hide hcarry
  clear ha hb hcarry
  go_enter Tryz.func75, Tryz.ntmps75
  go_wp2
  clear hz
  go_loopw [6] (fun i wr => ∃ k : Nat, k ≤ 16 ∧ i = .int .i64 k ∧ wr.heap[w.heap.size]? = some (.cells (ia (adl a b k)) 37 (0, 0)) ∧ wr.heap[w.heap.size + 1]? = some (.cells (ia b) 37 (0, 0)) ∧ wr.heap[w.heap.size + 1 + 1]? = some (.cells (ia z16) 37 (0, 0)) ∧ wr.heap.size = w.heap.size + 1 + 1 + 1 ∧ Below w.heap.size w wr) (fun i _ => 16 - (intOf i).toNat)
  case atStart => exact ⟨0, by omega, rfl, heap3_0 _ _ _ _, heap_alloc_mid3 _ _ _ _, heap_alloc_last3 _ _ _ _, by simp, below3 _ _ _ _⟩
  case round =>
    obtain ⟨k, hk, rfl, hR, hBr, hO, hS, hBe⟩ := hrel
    by_cases hlt : k < 16
    · have ck := cell_of_row _ _ k _ _ _ hR
      rw [ia_get _ _ (by rw [adl_len, HA.out.len]; omega), adl_get a b k (by rw [HA.out.len]; omega), if_neg (by omega)] at ck
      have cb := cell_of_row _ _ k _ _ _ hBr
      rw [ia_get _ _ (by rw [HB.out.len]; omega)] at cb
      have hfro : ∀ i, wr.frozen? ⟨w.heap.size, i, none⟩ = false := fun i => frozen_of_row _ _ _ _ _ hR
      have hx := HA.out.ok k
      have hy := HB.out.ok k
      have HR := hide hR
      have HBr := hide hBr
      have HO := hide hO
      clear hR hBr hO
      obtain ⟨p, hp⟩ : ∃ p, a.getD k 0 = p := ⟨_, rfl⟩
      obtain ⟨q, hq⟩ : ∃ q, b.getD k 0 = q := ⟨_, rfl⟩
      rw [hp] at ck hx
      rw [hq] at cb hy
      have HPQ := hide (And.intro hp hq)
      clear hp hq
      have b0 : (0 : Int) ≤ (k : Int) := by omega
      have b1 : (k : Int) < 16 := by omega
      go_wp2
      go_region
      go_wp2
      go_roundw
      case rel =>
        refine ⟨k + 1, by omega, by go_num, ?_, ?_, ?_, ?_, ?_⟩
        · rw [heap_drew, heap_setCell_same _ _ _ _ _ _ HR.out, ia_set, adl, HPQ.out.1, HPQ.out.2]
        · rw [heap_drew, heap_setCell_other _ _ _ _ (by simp)]; exact HBr.out
        · rw [heap_drew, heap_setCell_other _ _ _ _ (by simp; omega)]; exact HO.out
        · simpa [heap_drew] using hS
        · exact (hBe.setCell (by simp) _).drew
      case measure => simp [intOf]; omega
    · have hk16 : k = 16 := by omega
      rw [hk16] at hR
      have hw : (ia (adl a b 16)).size = 16 := by rw [ia_size, adl_len, HA.out.len]
      have dk : decide ((k : Int) < 16) = false := decide_eq_false (by omega)
      clear hk16 hlt hk
      go_wp2_with (first | (refine wpList_load_row rfl 37 (.tmp 2) rfl w.heap.size rfl 37 (ia (adl a b 16)) (0,0) (.array 16 2) hR undN rfl (by rw [hw]; exact sizeN) ?_) | fail)
      refine (HC.out _).mono ?_
      rintro e w5 ⟨rfl, b5⟩
      have hO5 := Below.heap b5 (by omega) hO
      have hw5 : (ia (cy (adl a b 16))).size = 16 := by rw [ia_size, HREP.out.len]
      have HB5 := hide (hBe.trans (b5.mono (by omega)))
      clear b5 hO hR hBr
      go_wp2_with (refine wpList_store_row rfl 37 (.tmp 4) (.tmp 19) rfl (w.heap.size + 1 + 1) (ia (cy (adl a b 16))) rfl rfl 37 (ia z16) hO5 (by rw [hw5]; exact sizeN) (by rw [hw5]; rfl) (ia_one _) ?_)
      exact bodyPost_ret_by (results_cell_row rfl _ _ (w.heap.size + 1 + 1) 37 (ia (cy (adl a b 16))) (0, 0) (.array 16 2) rfl (setRow_heap _ _ _ _ _ _ hO5) undN rfl (by rw [hw5]; exact sizeN)) rfl ⟨_, rfl, HREP.out, Below.setRow HB5.out _ _ (by omega)⟩
set_option maxRecDepth 100000 in
set_option maxHeartbeats 2000000 in
theorem rsub_any (a b : List Int) (x y : Nat) (ha : Rep a x) (hb : Rep b y) (w : World) :
    Calls Tryz.prog 74 #[.agg (ia a), .agg (ia b)] w fun e w' => ∃ c, e = .returned (.agg (ia c)) ∧ Rep c ((x + (pp - y) % pp) % pp) ∧ Below w.heap.size w w' := by
  have hz := zeroN
  have hcarry := carry_any (sbl a b 16) (by rw [sbl_len, ha.len]) (fun i => by rw [sbl_all a b ha.len hb.len]; have h1 := ha.ok i; have h2 := hb.ok i; omega)
  have HREP : Hid (Rep (cy (sbl a b 16)) ((x + (pp - y) % pp) % pp)) := by
    refine rep_cy (by rw [sbl_len, ha.len]) (fun i => by rw [sbl_all a b ha.len hb.len]; have h1 := ha.ok i; have h2 := hb.ok i; omega) ?_
    rw [vi_sub a b (sbl a b 16) (by rw [sbl_len]) (by rw [sbl_len, ha.len, hb.len]) (sbl_all a b ha.len hb.len)]
    exact sub_rep _ _ x y ha.val hb.val
  have HA := hide ha
  have HB := hide hb
  have HC := hide hcarry
  clear ha hb hcarry
  go_enter Tryz.func74, Tryz.ntmps74
  go_wp2
  clear hz
  go_loopw [6] (fun i wr => ∃ k : Nat, k ≤ 16 ∧ i = .int .i64 k ∧ wr.heap[w.heap.size]? = some (.cells (ia (sbl a b k)) 37 (0, 0)) ∧ wr.heap[w.heap.size + 1]? = some (.cells (ia b) 37 (0, 0)) ∧ wr.heap[w.heap.size + 1 + 1]? = some (.cells (ia z16) 37 (0, 0)) ∧ wr.heap.size = w.heap.size + 1 + 1 + 1 ∧ Below w.heap.size w wr) (fun i _ => 16 - (intOf i).toNat)
  case atStart => exact ⟨0, by omega, rfl, heap3_0 _ _ _ _, heap_alloc_mid3 _ _ _ _, heap_alloc_last3 _ _ _ _, by simp, below3 _ _ _ _⟩
  case round =>
    obtain ⟨k, hk, rfl, hR, hBr, hO, hS, hBe⟩ := hrel
    by_cases hlt : k < 16
    · have ck := cell_of_row _ _ k _ _ _ hR
      rw [ia_get _ _ (by rw [sbl_len, HA.out.len]; omega), sbl_get a b k (by rw [HA.out.len]; omega), if_neg (by omega)] at ck
      have cb := cell_of_row _ _ k _ _ _ hBr
      rw [ia_get _ _ (by rw [HB.out.len]; omega)] at cb
      have hfro : ∀ i, wr.frozen? ⟨w.heap.size, i, none⟩ = false := fun i => frozen_of_row _ _ _ _ _ hR
      have hx := HA.out.ok k
      have hy := HB.out.ok k
      have HR := hide hR
      have HBr := hide hBr
      have HO := hide hO
      clear hR hBr hO
      obtain ⟨p, hp⟩ : ∃ p, a.getD k 0 = p := ⟨_, rfl⟩
      obtain ⟨q, hq⟩ : ∃ q, b.getD k 0 = q := ⟨_, rfl⟩
      rw [hp] at ck hx
      rw [hq] at cb hy
      have HPQ := hide (And.intro hp hq)
      clear hp hq
      have b0 : (0 : Int) ≤ (k : Int) := by omega
      have b1 : (k : Int) < 16 := by omega
      go_wp2
      go_region
      go_wp2
      go_roundw
      case rel =>
        refine ⟨k + 1, by omega, by go_num, ?_, ?_, ?_, ?_, ?_⟩
        · rw [heap_drew, heap_setCell_same _ _ _ _ _ _ HR.out, ia_set, sbl, HPQ.out.1, HPQ.out.2]
        · rw [heap_drew, heap_setCell_other _ _ _ _ (by simp)]; exact HBr.out
        · rw [heap_drew, heap_setCell_other _ _ _ _ (by simp; omega)]; exact HO.out
        · simpa [heap_drew] using hS
        · exact (hBe.setCell (by simp) _).drew
      case measure => simp [intOf]; omega
    · have hk16 : k = 16 := by omega
      rw [hk16] at hR
      have hw : (ia (sbl a b 16)).size = 16 := by rw [ia_size, sbl_len, HA.out.len]
      have dk : decide ((k : Int) < 16) = false := decide_eq_false (by omega)
      clear hk16 hlt hk
      go_wp2_with (first | (refine wpList_load_row rfl 37 (.tmp 2) rfl w.heap.size rfl 37 (ia (sbl a b 16)) (0,0) (.array 16 2) hR undN rfl (by rw [hw]; exact sizeN) ?_) | fail)
      refine (HC.out _).mono ?_
      rintro e w5 ⟨rfl, b5⟩
      have hO5 := Below.heap b5 (by omega) hO
      have hw5 : (ia (cy (sbl a b 16))).size = 16 := by rw [ia_size, HREP.out.len]
      have HB5 := hide (hBe.trans (b5.mono (by omega)))
      clear b5 hO hR hBr
      go_wp2_with (refine wpList_store_row rfl 37 (.tmp 4) (.tmp 19) rfl (w.heap.size + 1 + 1) (ia (cy (sbl a b 16))) rfl rfl 37 (ia z16) hO5 (by rw [hw5]; exact sizeN) (by rw [hw5]; rfl) (ia_one _) ?_)
      exact bodyPost_ret_by (results_cell_row rfl _ _ (w.heap.size + 1 + 1) 37 (ia (cy (sbl a b 16))) (0, 0) (.array 16 2) rfl (setRow_heap _ _ _ _ _ _ hO5) undN rfl (by rw [hw5]; exact sizeN)) rfl ⟨_, rfl, HREP.out, Below.setRow HB5.out _ _ (by omega)⟩
end Go.Proofs.YtobgimpkkjaolaaGreatDoor
/- The page's own product: plain arithmetic of rows. -/
namespace Go.Proofs.YtobgimpkkjaolaaGreatDoor
theorem vi_take : ∀ (l : List Int) (k : Nat), k < l.length → vi (l.take (k + 1)) = vi (l.take k) + 65536 ^ k * l.getD k 0
  | [], k, h => absurd h (by simp)
  | x :: t, 0, _ => by simp [vi]
  | x :: t, k + 1, h => by
    have ih := vi_take t k (by simpa using h)
    rw [List.take_succ_cons, List.take_succ_cons, vi, vi, ih, List.getD_cons_succ, Int.pow_succ, Int.mul_add, Int.mul_comm (65536 ^ k) 65536, Int.mul_assoc]
    omega
theorem vi_split : ∀ (l : List Int) (k : Nat), vi l = vi (l.take k) + 65536 ^ k * vi (l.drop k)
  | l, 0 => by simp [vi]
  | [], k + 1 => by simp [vi]
  | x :: t, k + 1 => by
    have ih := vi_split t k
    rw [List.take_succ_cons, List.drop_succ_cons, vi, vi, ih, Int.pow_succ, Int.mul_add, Int.mul_comm (65536 ^ k) 65536, Int.mul_assoc]
    omega
theorem vi_scale (c : Int) : ∀ l : List Int, vi (l.map (c * ·)) = c * vi l
  | [] => by simp [vi]
  | x :: t => by
    rw [List.map_cons, vi, vi, vi_scale c t, Int.mul_add, Int.mul_left_comm]
theorem vi_snoc : ∀ l : List Int, vi (l ++ [0]) = vi l
  | [] => rfl
  | x :: t => by rw [List.cons_append, vi, vi, vi_snoc t]
def mrow (x : Int) (b : List Int) (i : Nat) (t : List Int) : Nat → List Int
  | 0 => t
  | k + 1 => (mrow x b i t k).set (i + k) ((mrow x b i t k).getD (i + k) 0 + x * b.getD k 0)
theorem mrow_len (x : Int) (b : List Int) (i : Nat) (t : List Int) : ∀ k, (mrow x b i t k).length = t.length
  | 0 => rfl
  | k + 1 => by simp [mrow, mrow_len x b i t k]
theorem mrow_get (x : Int) (b : List Int) (i : Nat) (t : List Int) : ∀ k, i + k ≤ t.length → ∀ j, (mrow x b i t k).getD j 0 = t.getD j 0 + if i ≤ j ∧ j < i + k then x * b.getD (j - i) 0 else 0
  | 0, _, j => by rw [if_neg (by omega)]; simp [mrow]
  | k + 1, hk, j => by
    have ih := mrow_get x b i t k (by omega)
    rw [mrow]
    by_cases e : i + k = j
    · subst e
      rw [gset_same _ _ _ (by rw [mrow_len]; omega), ih, if_neg (by omega), if_pos (by omega), show i + k - i = k by omega, Int.add_zero]
    · rw [gset_ne _ _ _ _ e, ih]
      by_cases h : i ≤ j ∧ j < i + k
      · rw [if_pos h, if_pos (by omega)]
      · rw [if_neg h, if_neg (by omega)]
theorem mrow_val (x : Int) (b : List Int) (i : Nat) (t : List Int) : ∀ k, i + k ≤ t.length → k ≤ b.length → vi (mrow x b i t k) = vi t + 65536 ^ i * (x * vi (b.take k))
  | 0, _, _ => by simp [mrow, vi]
  | k + 1, h1, h2 => by
    have ih := mrow_val x b i t k (by omega) (by omega)
    rw [mrow, vi_set _ _ _ (by rw [mrow_len]; omega), ih, vi_take b k (by omega), Int.mul_add x, Int.mul_add (65536 ^ i), Int.pow_add]
    generalize (mrow x b i t k).getD (i + k) 0 = z
    rw [show z + x * b.getD k 0 - z = x * b.getD k 0 by omega, Int.mul_assoc, Int.mul_left_comm (65536 ^ k) x]
    omega
def z31 : List Int := [0, 0, 0, 0, 0, 0, 0, 0, 0, 0, 0, 0, 0, 0, 0, 0, 0, 0, 0, 0, 0, 0, 0, 0, 0, 0, 0, 0, 0, 0, 0]
def mall (a b : List Int) : Nat → List Int
  | 0 => z31
  | i + 1 => mrow (a.getD i 0) b i (mall a b i) 16
theorem mall_len (a b : List Int) : ∀ i, (mall a b i).length = 31
  | 0 => rfl
  | i + 1 => by rw [mall, mrow_len, mall_len a b i]
theorem z31_get (j : Nat) : z31.getD j 0 = 0 := by
  by_cases h : j < 31
  · have : ∀ i : Fin 31, z31.getD i.val 0 = 0 := by decide +kernel
    exact this ⟨j, h⟩
  · rw [getD_out _ _ (by simp [z31]; omega)]
theorem prod_bound (x y : Int) (hx : -1048576 ≤ x ∧ x ≤ 1048576) (hy : -1048576 ≤ y ∧ y ≤ 1048576) : -1099511627776 ≤ x * y ∧ x * y ≤ 1099511627776 := by
  have h1 : 0 ≤ (1048576 - x) * (1048576 - y) := Int.mul_nonneg (by omega) (by omega)
  have h2 : 0 ≤ (1048576 + x) * (1048576 + y) := Int.mul_nonneg (by omega) (by omega)
  have h3 : 0 ≤ (1048576 - x) * (1048576 + y) := Int.mul_nonneg (by omega) (by omega)
  have h4 : 0 ≤ (1048576 + x) * (1048576 - y) := Int.mul_nonneg (by omega) (by omega)
  rw [Int.sub_mul, Int.mul_sub, Int.mul_sub] at h1
  rw [Int.add_mul, Int.mul_add, Int.mul_add] at h2
  rw [Int.sub_mul, Int.mul_add, Int.mul_add] at h3
  rw [Int.add_mul, Int.mul_sub, Int.mul_sub] at h4
  omega
theorem mall_in (a b : List Int) (ha : Ok a) (hb : Ok b) : ∀ i : Nat, i ≤ 16 → ∀ j, -(1099511627776 * (i : Int)) ≤ (mall a b i).getD j 0 ∧ (mall a b i).getD j 0 ≤ 1099511627776 * (i : Int)
  | 0, _, j => by rw [mall, z31_get]; omega
  | i + 1, hi, j => by
    have ih := mall_in a b ha hb i (by omega) j
    rw [mall, mrow_get _ _ _ _ 16 (by rw [mall_len]; omega)]
    have hp := prod_bound (a.getD i 0) (b.getD (j - i) 0) (ha i) (hb (j - i))
    split <;> omega
theorem mrow_in (a b : List Int) (ha : Ok a) (hb : Ok b) (i : Nat) (hi : i ≤ 15) (k : Nat) (hk : k ≤ 16) (j : Nat) : -17592186044416 ≤ (mrow (a.getD i 0) b i (mall a b i) k).getD j 0 ∧ (mrow (a.getD i 0) b i (mall a b i) k).getD j 0 ≤ 17592186044416 := by
  have ih := mall_in a b ha hb i (by omega) j
  rw [mrow_get _ _ _ _ k (by rw [mall_len]; omega)]
  have hp := prod_bound (a.getD i 0) (b.getD (j - i) 0) (ha i) (hb (j - i))
  split <;> omega
theorem mall_val (a b : List Int) (ha : a.length = 16) (hb : b.length = 16) : ∀ i, i ≤ 16 → vi (mall a b i) = vi (a.take i) * vi b
  | 0, _ => by
    rw [mall, List.take_zero, vi, Int.zero_mul]; decide +kernel
  | i + 1, hi => by
    have ih := mall_val a b ha hb i (by omega)
    rw [mall, mrow_val _ _ _ _ 16 (by rw [mall_len]; omega) (by omega), ih, List.take_of_length_le (by omega : b.length ≤ 16), vi_take a i (by omega), Int.add_mul, Int.mul_assoc]
def ol (t : List Int) : Nat → List Int
  | 0 => [0, 0, 0, 0, 0, 0, 0, 0, 0, 0, 0, 0, 0, 0, 0, 0]
  | k + 1 => (ol t k).set k (if k < 15 then t.getD k 0 + 38 * t.getD (k + 16) 0 else t.getD k 0)
theorem ol_len (t : List Int) : ∀ k, (ol t k).length = 16
  | 0 => rfl
  | k + 1 => by simp [ol, ol_len t k]
theorem ol_get (t : List Int) : ∀ k, k ≤ 16 → ∀ j, j < k → (ol t k).getD j 0 = if j < 15 then t.getD j 0 + 38 * t.getD (j + 16) 0 else t.getD j 0
  | 0, _, j, h => absurd h (by omega)
  | k + 1, hk, j, hj => by
    rw [ol]
    by_cases e : k = j
    · subst e
      rw [gset_same _ _ _ (by rw [ol_len]; omega)]
    · rw [gset_ne _ _ _ _ e, ol_get t k (by omega) j (by omega)]
theorem ol_val (t : List Int) (ht : t.length = 31) : vi (ol t 16) = vi t - 115792089237316195423570985008687907853269984665640564039457584007913129639898 * vi (t.drop 16) := by
  have h := vi_add (t.take 16) ((t.drop 16 ++ [0]).map (38 * ·)) (ol t 16) (by rw [ol_len, List.length_take, ht]; rfl) (by simp [ol_len, ht]) (fun i => by
    by_cases hi : i < 16
    · rw [ol_get t 16 (Nat.le_refl _) i hi]
      have e1 : (t.take 16).getD i 0 = t.getD i 0 := by
        rw [List.getD_eq_getElem?_getD, List.getElem?_take, if_pos hi, List.getD_eq_getElem?_getD]
      rw [e1]
      by_cases h15 : i < 15
      · rw [if_pos h15]
        have e2 : ((t.drop 16 ++ [0]).map (38 * ·)).getD i 0 = 38 * t.getD (i + 16) 0 := by
          rw [List.getD_eq_getElem?_getD, List.getElem?_map, List.getElem?_append_left (by rw [List.length_drop, ht]; omega), List.getElem?_drop, List.getD_eq_getElem?_getD, Nat.add_comm 16 i, List.getElem?_eq_getElem (by omega)]
          rfl
        rw [e2]
      · rw [if_neg h15]
        have e2 : ((t.drop 16 ++ [0]).map (38 * ·)).getD i 0 = 0 := by
          rw [List.getD_eq_getElem?_getD, List.getElem?_map, show i = 15 by omega, List.getElem?_append_right (by rw [List.length_drop, ht]; omega), List.length_drop, ht]
          rfl
        rw [e2]; omega
    · rw [getD_out _ _ (by rw [ol_len]; omega), getD_out _ _ (by rw [List.length_take]; omega), getD_out _ _ (by simp [ht]; omega)]; rfl)
  rw [vi_scale, vi_snoc] at h
  have hs := vi_split t 16
  rw [show (65536 : Int) ^ 16 = 115792089237316195423570985008687907853269984665640564039457584007913129639936 from by decide +kernel] at hs
  omega
theorem ol_in (t : List Int) (ht : ∀ j, -17592186044416 ≤ t.getD j 0 ∧ t.getD j 0 ≤ 17592186044416) (i : Nat) : -1125899906842624 ≤ (ol t 16).getD i 0 ∧ (ol t 16).getD i 0 ≤ 1125899906842624 := by
  by_cases hi : i < 16
  · rw [ol_get t 16 (Nat.le_refl _) i hi]
    have h1 := ht i
    have h2 := ht (i + 16)
    split <;> omega
  · rw [getD_out _ _ (by rw [ol_len]; omega)]; omega
theorem cq_tight (l : List Int) (hl : l.length = 16) (h0 : -35184372088832 ≤ l.getD 0 0 ∧ l.getD 0 0 ≤ 35184372088832) (hh : ∀ j, 1 ≤ j → j ≤ 15 → 0 ≤ l.getD j 0 ∧ l.getD j 0 ≤ 65535) : ∀ k, 2 ≤ k → k ≤ 15 → -1 ≤ cq l k ∧ cq l k ≤ 1 := by
  have c0 : -536870912 ≤ cq l 0 ∧ cq l 0 ≤ 536870912 := by
    unfold cq
    show -536870912 ≤ l.getD 0 0 / 65536 ∧ l.getD 0 0 / 65536 ≤ 536870912
    omega
  have c1 : -8193 ≤ cq l 1 ∧ cq l 1 ≤ 8193 := by
    have h := hh 1 (by omega) (by omega)
    unfold cq
    have e := cyn_at l hl 0 (by omega)
    simp only [Nat.zero_add] at e
    rw [e]
    omega
  intro k
  induction k with
  | zero => intro h _; omega
  | succ k ih =>
    intro h1 h2
    have h := hh (k + 1) (by omega) h2
    have hc : -8193 ≤ cq l k ∧ cq l k ≤ 8193 := by
      by_cases e : k = 1
      · subst e; exact c1
      · have := ih (by omega) (by omega); omega
    unfold cq
    rw [cyn_at l hl k h2]
    omega
theorem rep_cy2 {l : List Int} {x : Nat} (hl : l.length = 16) (hM : ∀ i, -1125899906842624 ≤ l.getD i 0 ∧ l.getD i 0 ≤ 1125899906842624) (hv : vi l % 57896044618658097711785492504343953926634992332820282019728792003956564819949 = (x : Int)) :
    Rep (cy (cy l)) x ∧ ∀ i, -1152921504606846976 ≤ (cy l).getD i 0 ∧ (cy l).getD i 0 ≤ 1152921504606846976 := by
  have hq := cq_bound l hl 1125899906842624 34359738368 hM (by decide) (by decide) 15 (Nat.le_refl _)
  have hl1 : (cy l).length = 16 := by rw [cy_len, hl]
  obtain ⟨r, h1, h2, h3⟩ := cy_zero l hl
  have ht := cq_tight (cy l) hl1 (by rw [h3]; omega) (cy_high l hl) 15 (by omega) (Nat.le_refl _)
  refine ⟨⟨by rw [cy_len, hl1], cy_ok (cy l) hl1 1 (by decide) ht, by rw [cy_mod (cy l) hl1, cy_mod l hl, hv]⟩, fun i => ?_⟩
  by_cases e : i = 0
  · subst e; rw [h3]; omega
  · by_cases e2 : i ≤ 15
    · have := cy_high l hl i (by omega) e2; omega
    · rw [getD_out _ _ (by omega)]; omega
end Go.Proofs.YtobgimpkkjaolaaGreatDoor
/- The page's own product, as its call answers it, in any world. -/
namespace Go.Proofs.YtobgimpkkjaolaaGreatDoor
open Go.RowKit
theorem zero31 (w : World) : (zeroValue 102).run Tryz.prog w = .ok (.agg (ia z31)) w := by kernel_rfl
structure MulAt (w wr : World) (a b t : List Int) : Prop where
  a : wr.heap[w.heap.size]? = some (.cells (ia a) 37 (0, 0))
  b : wr.heap[w.heap.size + 1]? = some (.cells (ia b) 37 (0, 0))
  o : wr.heap[w.heap.size + 1 + 1]? = some (.cells (ia z16) 37 (0, 0))
  p : wr.heap[w.heap.size + 1 + 1 + 1]? = some (.cells (ia t) 102 (0, 0))
  size : wr.heap.size = w.heap.size + 1 + 1 + 1 + 1
  below : Below w.heap.size w wr
theorem MulAt.set {w wr : World} {a b t : List Int} (h : MulAt w wr a b t) (k : Nat) (n : Int) : MulAt w (wr.setCell ⟨w.heap.size + 1 + 1 + 1, k, none⟩ (.int .i64 n)) a b (t.set k n) where
  a := by rw [heap_setCell_other _ _ _ _ (by simp; omega)]; exact h.a
  b := by rw [heap_setCell_other _ _ _ _ (by simp)]; exact h.b
  o := by rw [heap_setCell_other _ _ _ _ (by simp)]; exact h.o
  p := by rw [heap_setCell_same _ _ _ _ _ _ h.p, ia_set]
  size := by simpa using h.size
  below := h.below.setCell (by simp; omega) _
theorem MulAt.drew {w wr : World} {a b t : List Int} (h : MulAt w wr a b t) : MulAt w wr.drew a b t :=
  ⟨h.a, h.b, h.o, h.p, h.size, h.below.drew⟩
theorem heap_alloc_last4' (w : World) (a b c d : Obj) : ((((w.alloc a).alloc b).alloc c).alloc d).heap[w.heap.size + 1 + 1 + 1]? = some d := by
  have h := heap_alloc_last (((w.alloc a).alloc b).alloc c) d
  simpa using h
set_option maxRecDepth 100000 in
set_option maxHeartbeats 4000000 in
theorem rmul_any (a b : List Int) (x y : Nat) (ha : Rep a x) (hb : Rep b y) (w : World) :
    Calls Tryz.prog 42 #[.agg (ia a), .agg (ia b)] w fun e w' => ∃ c, e = .returned (.agg (ia c)) ∧ Rep c (x * y % pp) ∧ Below w.heap.size w w' := by
  have hz := zeroN
  have hz2 := zero31
  have hin : ∀ j, -17592186044416 ≤ (mall a b 16).getD j 0 ∧ (mall a b 16).getD j 0 ≤ 17592186044416 := fun j => by
    have := mall_in a b ha.ok hb.ok 16 (Nat.le_refl _) j; omega
  have hvi : vi (ol (mall a b 16) 16) % 57896044618658097711785492504343953926634992332820282019728792003956564819949 = ((x * y % pp : Nat) : Int) := by
    rw [ol_val _ (mall_len a b 16), mall_val a b ha.len hb.len 16 (Nat.le_refl _), List.take_of_length_le (by rw [ha.len]; exact Nat.le_refl _)]
    have hm := mul_rep (vi a) (vi b) x y ha.val hb.val
    rw [← hm]
    generalize vi a * vi b = v
    generalize vi ((mall a b 16).drop 16) = u
    omega
  have hrep := rep_cy2 (ol_len (mall a b 16) 16) (ol_in _ hin) hvi
  have HC1 := hide (carry_any (ol (mall a b 16) 16) (ol_len _ _) (fun i => by have := ol_in _ hin i; omega))
  have HC2 := hide (carry_any (cy (ol (mall a b 16) 16)) (by rw [cy_len, ol_len]) hrep.2)
  have HREP := hide hrep.1
  have HIN := hide hin
  have HA := hide ha
  have HB := hide hb
  clear ha hb hin hvi hrep
  go_enter Tryz.func42, Tryz.ntmps42
  go_wp2
  clear hz2
  go_loopw [10] (fun i wr => ∃ m : Nat, m ≤ 16 ∧ i = .int .i64 m ∧ MulAt w wr a b (mall a b m)) (fun i _ => 16 - (intOf i).toNat)
  case atStart =>
    refine ⟨0, by omega, rfl, ⟨?_, ?_, ?_, heap_alloc_last4' _ _ _ _ _, by simp, (below3 _ _ _ _).alloc (by simp; omega) _⟩⟩
    · rw [Below.heap_alloc _ _ _ (by simp; omega)]; exact heap3_0 _ _ _ _
    · rw [Below.heap_alloc _ _ _ (by simp)]; exact heap_alloc_mid3 _ _ _ _
    · rw [Below.heap_alloc _ _ _ (by simp)]; exact heap_alloc_last3 _ _ _ _
  case round =>
    obtain ⟨m, hm, rfl, hat⟩ := hrel
    by_cases hlt : m < 16
    · have hd : decide ((m : Int) < 16) = true := decide_eq_true (by omega)
      obtain ⟨p, hp⟩ : ∃ p, a.getD m 0 = p := ⟨_, rfl⟩
      have HM1 : Hid (mall a b (m + 1) = mrow p b m (mall a b m) 16) := by show _ = _; rw [mall, hp]
      have HP := hide hp
      clear hp
      go_wp2
      clear hd
      go_loopw [13] (fun j wr => ∃ k : Nat, k ≤ 16 ∧ j = .int .i64 k ∧ MulAt w wr a b (mrow p b m (mall a b m) k)) (fun j _ => 16 - (intOf j).toNat)
      case atStart => exact ⟨0, by omega, rfl, hat⟩
      case round =>
        clear hat
        obtain ⟨k, hk, rfl, hat⟩ := hrel
        by_cases hlt2 : k < 16
        · obtain ⟨T, hT⟩ : ∃ T, mrow p b m (mall a b m) k = T := ⟨_, rfl⟩
          have hTl : T.length = 31 := by rw [← hT, mrow_len, mall_len]
          have hz3 := mrow_in a b HA.out.ok HB.out.ok m (by omega) k hk (m + k)
          rw [HP.out] at hz3
          have HN : Hid (mrow p b m (mall a b m) (k + 1) = T.set (m + k) (T.getD (m + k) 0 + p * b.getD k 0)) := by
            show _ = _
            rw [mrow, hT]
          rw [hT] at hat hz3
          have ca := cell_of_row _ _ m _ _ _ hat.a
          rw [ia_get _ _ (by rw [HA.out.len]; omega), HP.out] at ca
          have cb := cell_of_row _ _ k _ _ _ hat.b
          rw [ia_get _ _ (by rw [HB.out.len]; omega)] at cb
          have cp := cell_of_row _ _ (m + k) _ _ _ hat.p
          rw [ia_get _ _ (by omega)] at cp
          have hfro : wr.frozen? ⟨w.heap.size + 1 + 1 + 1, m + k, none⟩ = false := frozen_of_row _ _ _ _ _ hat.p
          have hpr := prod_bound _ _ (HA.out.ok m) (HB.out.ok k)
          rw [HP.out] at hpr
          have HAT := hide hat
          clear hat hT
          generalize b.getD k 0 = q at *
          generalize T.getD (m + k) 0 = z at *
          obtain ⟨pq, hpq⟩ : ∃ pq, p * q = pq := ⟨_, rfl⟩
          rw [hpq] at hpr
          rw [hpq] at HN
          have hpw : IntKind.i64.wrap (p * q) = pq := by rw [hpq, IntKind.wrap_i64]; omega
          generalize hn : m + k = n at *
          have hn1 : (m : Int) + (k : Int) = (n : Int) := by omega
          have hn2 : (n : Int) < 31 := by omega
          have hn3 : (0 : Int) ≤ (n : Int) := by omega
          have hn4 : IntKind.i64.wrap (n : Int) = (n : Int) := by rw [IntKind.wrap_i64]; omega
          have b0 : (0 : Int) ≤ (k : Int) := by omega
          have b1 : (k : Int) < 16 := by omega
          have b2 : (0 : Int) ≤ (m : Int) := by omega
          have b3 : (m : Int) < 16 := by omega
          clear hn
          go_wp2
          go_region
          clear hn1 hn2 hn3 hn4 ca cb cp hpw
          go_wp2
          go_roundw
          case rel =>
            refine ⟨k + 1, by omega, by go_num, ?_⟩
            rw [HN.out]
            exact (HAT.out.set n (z + pq)).drew
          case measure => simp [intOf]; omega
        · have hk16 : k = 16 := by omega
          rw [hk16] at hat
          have dk : decide ((k : Int) < 16) = false := decide_eq_false (by omega)
          have HAT := hide hat
          clear hat hk16 hlt2 hk
          go_wp2
          go_roundw
          case rel =>
            refine ⟨m + 1, by omega, by go_num, ?_⟩
            rw [HM1.out]
            exact HAT.out
          case measure => simp [intOf]; omega
    · have hm16 : m = 16 := by omega
      rw [hm16] at hat
      have dm : decide ((m : Int) < 16) = false := decide_eq_false (by omega)
      have HAT := hide hat
      have hs := hat.size
      clear hat hm16 hlt hm
      go_wp2
      clear hz dm
      obtain ⟨t, ht⟩ : ∃ t, mall a b 16 = t := ⟨_, rfl⟩
      have htl : t.length = 31 := by rw [← ht, mall_len]
      rw [ht] at HC1 HC2 HREP HAT HIN
      go_loopw [32] (fun i wr' => ∃ k : Nat, k ≤ 16 ∧ i = .int .i64 k ∧ wr'.heap[w.heap.size + 1 + 1 + 1 + 1]? = some (.cells (ia (ol t k)) 37 (0, 0)) ∧ wr'.heap[w.heap.size + 1 + 1 + 1]? = some (.cells (ia t) 102 (0, 0)) ∧ wr'.heap[w.heap.size + 1 + 1]? = some (.cells (ia z16) 37 (0, 0)) ∧ wr'.heap.size = w.heap.size + 1 + 1 + 1 + 1 + 1 ∧ Below w.heap.size w wr') (fun i _ => 16 - (intOf i).toNat)
      case atStart =>
        refine ⟨0, by omega, rfl, ?_, ?_, ?_, by simp [hs], HAT.out.below.alloc (by omega) _⟩
        · rw [← hs]; exact heap_alloc_last _ _
        · rw [Below.heap_alloc _ _ _ (by omega)]; exact HAT.out.p
        · rw [Below.heap_alloc _ _ _ (by omega)]; exact HAT.out.o
      case round =>
        clear HAT hs
        obtain ⟨k, hk, rfl, hO, hT, hZ, hS, hB⟩ := hrel
        by_cases hlt : k < 16
        · have ck := cell_of_row _ _ k _ _ _ hT
          rw [ia_get _ _ (by omega)] at ck
          have co := cell_of_row _ _ k _ _ _ hO
          rw [ia_get _ _ (by rw [ol_len]; omega)] at co
          have hfro : ∀ i, wr.frozen? ⟨w.heap.size + 1 + 1 + 1 + 1, i, none⟩ = false := fun i => frozen_of_row _ _ _ _ _ hO
          have hx := HIN.out k
          have HO := hide hO
          have HT := hide hT
          have HZ := hide hZ
          have b0 : (0 : Int) ≤ (k : Int) := by omega
          have b1 : (k : Int) < 16 := by omega
          have b4 : (k : Int) < 31 := by omega
          by_cases h15 : k < 15
          · have ck2 := cell_of_row _ _ (k + 16) _ _ _ hT
            rw [ia_get _ _ (by omega)] at ck2
            have hy := HIN.out (k + 16)
            have HN : Hid (ol t (k + 1) = (ol t k).set k (t.getD k 0 + 38 * t.getD (k + 16) 0)) := by show _ = _; rw [ol, if_pos h15]
            clear hO hT hZ
            generalize t.getD k 0 = u at *
            generalize t.getD (k + 16) 0 = v at *
            generalize (ol t k).getD k 0 = o at *
            have d15 : decide ((k : Int) < 15) = true := decide_eq_true (by omega)
            have b2 : (k : Int) + 16 < 31 := by omega
            have b3 : (0 : Int) ≤ (k : Int) + 16 := by omega
            go_wp2
            go_region
            go_wp2
            go_roundw
            case rel =>
              refine ⟨k + 1, by omega, by go_num, ?_, ?_, ?_, ?_, ?_⟩
              · rw [heap_drew, heap_setCell_same _ _ _ _ _ _ (heap_setCell_same _ _ _ _ _ _ HO.out), ia_set, ia_set, List.set_set, HN.out]
              · rw [heap_drew, heap_setCell_other _ _ _ _ (by simp), heap_setCell_other _ _ _ _ (by simp)]; exact HT.out
              · rw [heap_drew, heap_setCell_other _ _ _ _ (by simp), heap_setCell_other _ _ _ _ (by simp)]; exact HZ.out
              · simpa [heap_drew] using hS
              · exact ((hB.setCell (by simp; omega) _).setCell (by simp; omega) _).drew
            case measure => simp [intOf]; omega
          · have HN : Hid (ol t (k + 1) = (ol t k).set k (t.getD k 0)) := by show _ = _; rw [ol, if_neg h15]
            clear hO hT hZ
            generalize t.getD k 0 = u at *
            generalize (ol t k).getD k 0 = o at *
            have d15 : decide ((k : Int) < 15) = false := decide_eq_false (by omega)
            go_wp2
            refine ⟨⟨k + 1, by omega, by go_num, ?_, ?_, ?_, ?_, ?_⟩, by simp [intOf]; omega⟩
            · rw [heap_setCell_same _ _ _ _ _ _ HO.out, ia_set, HN.out]
            · rw [heap_setCell_other _ _ _ _ (by simp)]; exact HT.out
            · rw [heap_setCell_other _ _ _ _ (by simp)]; exact HZ.out
            · simpa using hS
            · exact hB.setCell (by simp; omega) _
        · have hk16 : k = 16 := by omega
          rw [hk16] at hO
          have hw : (ia (ol t 16)).size = 16 := by rw [ia_size, ol_len]
          have dk : decide ((k : Int) < 16) = false := decide_eq_false (by omega)
          clear hk16 hlt hk
          go_wp2_with (first | (refine wpList_load_row rfl 37 (.tmp 8) rfl (w.heap.size + 1 + 1 + 1 + 1) rfl 37 (ia (ol t 16)) (0,0) (.array 16 2) hO undN rfl (by rw [hw]; exact sizeN) ?_) | fail)
          refine (HC1.out _).mono ?_
          rintro e w5 ⟨rfl, b5⟩
          go_wp2_with fail
          refine (HC2.out _).mono ?_
          rintro e w6 ⟨rfl, b6⟩
          have hZ6 := Below.heap (Below.chain b5 b6) (by omega) hZ
          have hw6 : (ia (cy (cy (ol t 16)))).size = 16 := by rw [ia_size, HREP.out.len]
          have HB6 := hide (hB.trans ((Below.chain b5 b6).mono (by omega)))
          clear b5 b6 hO hT hZ
          go_wp2_with (refine wpList_store_row rfl 37 (.tmp 4) (.tmp 55) rfl (w.heap.size + 1 + 1) (ia (cy (cy (ol t 16)))) rfl rfl 37 (ia z16) hZ6 (by rw [hw6]; exact sizeN) (by rw [hw6]; rfl) (ia_one _) ?_)
          exact bodyPost_ret_by (results_cell_row rfl _ _ (w.heap.size + 1 + 1) 37 (ia (cy (cy (ol t 16)))) (0, 0) (.array 16 2) rfl (setRow_heap _ _ _ _ _ _ hZ6) undN rfl (by rw [hw6]; exact sizeN)) rfl ⟨_, rfl, HREP.out, Below.setRow HB6.out _ _ (by omega)⟩
end Go.Proofs.YtobgimpkkjaolaaGreatDoor
/- The page's own bytes of a number: plain arithmetic of rows. -/
namespace Go.Proofs.YtobgimpkkjaolaaGreatDoor
def Norm (l : List Int) : Prop := l.length = 16 ∧ ∀ i, 0 ≤ l.getD i 0 ∧ l.getD i 0 ≤ 65535
theorem vi_norm : ∀ (l : List Int), (∀ i, 0 ≤ l.getD i 0 ∧ l.getD i 0 ≤ 65535) → 0 ≤ vi l ∧ vi l < 65536 ^ l.length
  | [], _ => by simp [vi]
  | x :: t, h => by
    have ih := vi_norm t (fun i => by simpa using h (i + 1))
    have h0 := h 0
    simp only [List.getD_cons_zero] at h0
    simp only [vi, List.length_cons, Int.pow_succ]
    omega
theorem vi_head (l : List Int) (hl : 0 < l.length) : vi l = l.getD 0 0 + 65536 * vi (l.drop 1) := by
  cases l with
  | nil => simp at hl
  | cons x t => rfl
theorem drop_getD (L : List Int) (k i : Nat) : (L.drop k).getD i 0 = L.getD (k + i) 0 := by
  simp [List.getD_eq_getElem?_getD, List.getElem?_drop]
theorem take_getD (L : List Int) (k i : Nat) (h : i < k) : (L.take k).getD i 0 = L.getD i 0 := by
  rw [List.getD_eq_getElem?_getD, List.getElem?_take, if_pos h, List.getD_eq_getElem?_getD]
theorem norm_cy3 {l : List Int} {x : Nat} (h : Rep l x) : Norm (cy (cy (cy l))) ∧ vi (cy (cy (cy l))) % 57896044618658097711785492504343953926634992332820282019728792003956564819949 = (x : Int)
    ∧ (∀ i, -1152921504606846976 ≤ l.getD i 0 ∧ l.getD i 0 ≤ 1152921504606846976) ∧ (∀ i, -1152921504606846976 ≤ (cy l).getD i 0 ∧ (cy l).getD i 0 ≤ 1152921504606846976) ∧ (∀ i, -1152921504606846976 ≤ (cy (cy l)).getD i 0 ∧ (cy (cy l)).getD i 0 ≤ 1152921504606846976) := by
  have hl := h.len
  have hl1 : (cy l).length = 16 := by rw [cy_len, hl]
  have hl2 : (cy (cy l)).length = 16 := by rw [cy_len, hl1]
  have hl3 : (cy (cy (cy l))).length = 16 := by rw [cy_len, hl2]
  have hM : ∀ i, -2097152 ≤ l.getD i 0 ∧ l.getD i 0 ≤ 2097152 := fun i => by have := h.ok i; omega
  have h1 := rep_cy hl hM h.val
  obtain ⟨r0, a1, a2, a3⟩ := cy_zero l hl
  have q1 := cq_bound l hl 2097152 34 hM (by decide) (by decide) 15 (Nat.le_refl _)
  have q2 := cq_tight (cy l) hl1 (by rw [a3]; omega) (cy_high l hl) 15 (by omega) (Nat.le_refl _)
  obtain ⟨r1, b1, b2, b3⟩ := cy_zero (cy l) hl1
  have q3 := cq_tight (cy (cy l)) hl2 (by rw [b3]; omega) (cy_high (cy l) hl1) 15 (by omega) (Nat.le_refl _)
  obtain ⟨r2, c1, c2, c3⟩ := cy_zero (cy (cy l)) hl2
  have hv3 := cy_val (cy (cy l)) hl2
  -- the row with its first number's overflow left out
  have hL : ∀ i, 0 ≤ ((cy (cy (cy l))).set 0 r2).getD i 0 ∧ ((cy (cy (cy l))).set 0 r2).getD i 0 ≤ 65535 := by
    intro i
    by_cases e : i = 0
    · subst e; rw [gset_same _ _ _ (by omega)]; omega
    · rw [gset_ne _ _ _ _ (by omega)]
      by_cases e2 : i ≤ 15
      · exact cy_high (cy (cy l)) hl2 i (by omega) e2
      · rw [getD_out _ _ (by omega)]; omega
  have hs := vi_set (cy (cy (cy l))) 0 r2 (by omega)
  rw [Int.pow_zero, c3] at hs
  have hhd := vi_head ((cy (cy (cy l))).set 0 r2) (by rw [List.length_set]; omega)
  rw [gset_same _ _ _ (by omega)] at hhd
  have hdr := vi_norm (((cy (cy (cy l))).set 0 r2).drop 1) (fun i => by
    rw [drop_getD]; exact hL (1 + i))
  rw [List.length_drop, List.length_set, hl3] at hdr
  simp only [show (65536 : Int) ^ (16 - 1) = 1766847064778384329583297500742918515827483896875618958121606201292619776 from by decide +kernel] at hdr
  -- the value of what was carried twice
  have hd2 := vi_head (cy (cy l)) (by omega)
  have hn2 := vi_norm ((cy (cy l)).drop 1) (fun i => by
    have hh : 0 ≤ (cy (cy l)).getD (1 + i) 0 ∧ (cy (cy l)).getD (1 + i) 0 ≤ 65535 := by
      by_cases e2 : 1 + i ≤ 15
      · exact cy_high (cy l) hl1 (1 + i) (by omega) e2
      · rw [getD_out _ _ (by omega)]; omega
    rw [drop_getD]; exact hh)
  rw [List.length_drop, hl2] at hn2
  simp only [show (65536 : Int) ^ (16 - 1) = 1766847064778384329583297500742918515827483896875618958121606201292619776 from by decide +kernel] at hn2
  rw [b3] at hd2
  refine ⟨⟨hl3, fun i => ?_⟩, by rw [cy_mod _ hl2, cy_mod _ hl1, cy_mod _ hl, h.val], fun i => by have := h.ok i; omega, fun i => by have := h1.ok i; omega, fun i => ?_⟩
  · by_cases e : i = 0
    · subst e; rw [c3]; omega
    · by_cases e2 : i ≤ 15
      · exact cy_high (cy (cy l)) hl2 i (by omega) e2
      · rw [getD_out _ _ (by omega)]; omega
  · by_cases e : i = 0
    · subst e; rw [b3]; omega
    · by_cases e2 : i ≤ 15
      · have := cy_high (cy l) hl1 i (by omega) e2; omega
      · rw [getD_out _ _ (by omega)]; omega
def sv (i : Nat) : Int := if i = 0 then 65517 else if i = 15 then 32767 else 65535
def mstep (t : List Int) (i : Nat) (m : List Int) : List Int :=
  if m.getD (i - 1) 0 < 0 then (m.set i (t.getD i 0 - sv i - 1)).set (i - 1) (m.getD (i - 1) 0 + 65536) else m.set i (t.getD i 0 - sv i)
def ml (t : List Int) : Nat → List Int
  | 0 => t.set 0 (t.getD 0 0 - 65517)
  | k + 1 => mstep t (k + 1) (ml t k)
theorem ml_len (t : List Int) : ∀ k, (ml t k).length = t.length
  | 0 => by simp [ml]
  | k + 1 => by rw [ml, mstep]; split <;> simp [ml_len t k]
theorem ml_gt (t : List Int) : ∀ k j, k < j → (ml t k).getD j 0 = t.getD j 0
  | 0, j, h => by rw [ml, gset_ne _ _ _ _ (by omega)]
  | k + 1, j, h => by
    rw [ml, mstep]
    split
    · rw [gset_ne _ _ _ _ (by omega), gset_ne _ _ _ _ (by omega)]; exact ml_gt t k j (by omega)
    · rw [gset_ne _ _ _ _ (by omega)]; exact ml_gt t k j (by omega)
theorem ml_all (t : List Int) (ht : Norm t) : ∀ k, k ≤ 15 → (∀ j, j < k → 0 ≤ (ml t k).getD j 0 ∧ (ml t k).getD j 0 ≤ 65535) ∧ -65536 ≤ (ml t k).getD k 0 ∧ (ml t k).getD k 0 ≤ t.getD k 0 - sv k ∧ t.getD k 0 - sv k - 1 ≤ (ml t k).getD k 0
  | 0, _ => by
    have h0 := ht.2 0
    refine ⟨fun j h => absurd h (by omega), ?_⟩
    rw [ml, gset_same _ _ _ (by rw [ht.1]; omega)]
    simp only [sv, if_true]; omega
  | k + 1, hk => by
    obtain ⟨ih, i1, i2, i3⟩ := ml_all t ht k (by omega)
    have h0 := ht.2 (k + 1)
    have hk0 := ht.2 k
    have hlen := ml_len t k
    rw [ht.1] at hlen
    have hsv : 32767 ≤ sv (k + 1) ∧ sv (k + 1) ≤ 65535 := by unfold sv; split <;> (try split) <;> omega
    have hsv0 : 32767 ≤ sv k := by unfold sv; split <;> (try split) <;> omega
    have e : k + 1 - 1 = k := by omega
    rw [ml, mstep, e]
    split
    · rename_i hneg
      refine ⟨fun j hj => ?_, ?_⟩
      · by_cases ej : j = k
        · subst ej; rw [gset_same _ _ _ (by rw [List.length_set]; omega)]; omega
        · rw [gset_ne _ _ _ _ (by omega), gset_ne _ _ _ _ (by omega)]; exact ih j (by omega)
      · rw [gset_ne _ _ _ _ (by omega), gset_same _ _ _ (by omega)]; omega
    · rename_i hneg
      refine ⟨fun j hj => ?_, ?_⟩
      · rw [gset_ne _ _ _ _ (by omega)]
        by_cases ej : j = k
        · subst ej; omega
        · exact ih j (by omega)
      · rw [gset_same _ _ _ (by omega)]; omega
def pv : Nat → Int
  | 0 => 65517
  | k + 1 => pv k + 65536 ^ (k + 1) * sv (k + 1)
theorem ml_val (t : List Int) (ht : Norm t) : ∀ k, k ≤ 15 → vi (ml t k) = vi t - pv k
  | 0, _ => by
    rw [ml, vi_set _ _ _ (by rw [ht.1]; omega), Int.pow_zero, pv]; omega
  | k + 1, hk => by
    have ih := ml_val t ht k (by omega)
    have hlen := ml_len t k
    rw [ht.1] at hlen
    have hg := ml_gt t k (k + 1) (by omega)
    have e : k + 1 - 1 = k := by omega
    rw [ml, mstep, e, pv]
    split
    · rw [vi_set _ _ _ (by rw [List.length_set]; omega), vi_set _ _ _ (by omega), gset_ne _ _ _ _ (by omega), hg, ih, Int.pow_succ]
      generalize t.getD (k + 1) 0 = u
      generalize (ml t k).getD k 0 = v
      generalize sv (k + 1) = s
      generalize (65536 : Int) ^ k = P
      rw [show u - s - 1 - u = -(s + 1) by omega, show v + 65536 - v = 65536 by omega, Int.mul_neg, Int.mul_add, Int.mul_one]
      omega
    · rw [vi_set _ _ _ (by omega), hg, ih]
      generalize t.getD (k + 1) 0 = u
      generalize sv (k + 1) = s
      rw [show u - s - u = -s by omega, Int.mul_neg]
      omega
theorem pv15 : pv 15 = 57896044618658097711785492504343953926634992332820282019728792003956564819949 := by decide +kernel
def tr (t : List Int) : Nat → List Int
  | 0 => t
  | j + 1 => if 0 ≤ (ml (tr t j) 15).getD 15 0 then ml (tr t j) 15 else tr t j
theorem tr_step (t : List Int) (ht : Norm t) (m : List Int) (hm : m = ml t 15) : (0 ≤ m.getD 15 0 → Norm m ∧ vi m = vi t - 57896044618658097711785492504343953926634992332820282019728792003956564819949) ∧ (¬ 0 ≤ m.getD 15 0 → vi t < 57896044618658097711785492504343953926634992332820282019728792003956564819949) := by
  obtain ⟨h1, h2, h3, _⟩ := ml_all t ht 15 (Nat.le_refl _)
  have hv := ml_val t ht 15 (Nat.le_refl _)
  have hlen := ml_len t 15
  rw [ht.1] at hlen
  rw [pv15] at hv
  rw [← hm] at h1 h2 h3 hv hlen
  clear hm
  have h15 := ht.2 15
  have hs : sv 15 = 32767 := by decide
  constructor
  · intro h0
    refine ⟨⟨hlen, fun i => ?_⟩, hv⟩
    by_cases e : i < 15
    · exact h1 i e
    · by_cases e2 : i = 15
      · subst e2; omega
      · rw [getD_out _ _ (by omega)]; omega
  · intro h0
    have hsp := vi_split m 15
    have htk := vi_norm (m.take 15) (fun i => by
      by_cases e : i < 15
      · rw [take_getD m 15 i e]; exact h1 i e
      · rw [getD_out _ _ (by rw [List.length_take]; omega)]; omega)
    have hdr : vi (m.drop 15) = m.getD 15 0 := by
      have hd := vi_head (m.drop 15) (by rw [List.length_drop]; omega)
      rw [List.drop_drop, List.drop_of_length_le (by omega : m.length ≤ 15 + 1), vi, drop_getD, Nat.add_zero] at hd
      rw [hd]; omega
    rw [hdr] at hsp
    rw [List.length_take, hlen, show min 15 16 = 15 from rfl] at htk
    simp only [show (65536 : Int) ^ 15 = 1766847064778384329583297500742918515827483896875618958121606201292619776 from by decide +kernel] at hsp htk
    omega
theorem tr_all (t : List Int) (ht : Norm t) (x : Nat) (hv : vi t % 57896044618658097711785492504343953926634992332820282019728792003956564819949 = (x : Int)) : (∀ j, j ≤ 3 → Norm (tr t j)) ∧ vi (tr t 3) = (x : Int) := by
  have h0 := vi_norm t ht.2
  rw [ht.1, show (65536 : Int) ^ 16 = 115792089237316195423570985008687907853269984665640564039457584007913129639936 from by decide +kernel] at h0
  have step : ∀ s, Norm s → Norm (if 0 ≤ (ml s 15).getD 15 0 then ml s 15 else s) ∧ vi (if 0 ≤ (ml s 15).getD 15 0 then ml s 15 else s) = if 57896044618658097711785492504343953926634992332820282019728792003956564819949 ≤ vi s then vi s - 57896044618658097711785492504343953926634992332820282019728792003956564819949 else vi s := by
    intro s hs
    obtain ⟨a, b⟩ := tr_step s hs _ rfl
    by_cases h : 0 ≤ (ml s 15).getD 15 0
    · obtain ⟨c, d⟩ := a h
      have := (vi_norm _ c.2).1
      rw [if_pos h, if_pos (by omega)]
      exact ⟨c, d⟩
    · have := b h
      rw [if_neg h, if_neg (by omega)]
      exact ⟨hs, rfl⟩
  have n0 : Norm (tr t 0) := ht
  have s1 := step (tr t 0) n0
  have s2 := step (tr t 1) s1.1
  have s3 := step (tr t 2) s2.1
  have e0 : vi (tr t 0) = vi t := rfl
  have e1 : vi (tr t 1) = _ := s1.2
  have e2 : vi (tr t 2) = _ := s2.2
  have e3 : vi (tr t 3) = _ := s3.2
  refine ⟨fun j hj => ?_, ?_⟩
  · have : j = 0 ∨ j = 1 ∨ j = 2 ∨ j = 3 := by omega
    rcases this with rfl | rfl | rfl | rfl
    · exact n0
    · exact s1.1
    · exact s2.1
    · exact s3.1
  · clear s1 s2 s3 step n0
    generalize vi (tr t 0) = v0 at *
    generalize vi (tr t 1) = v1 at *
    generalize vi (tr t 2) = v2 at *
    generalize vi (tr t 3) = v3 at *
    split at e1 <;> split at e2 <;> split at e3 <;> omega
theorem limb : ∀ (l : List Int), (∀ i, 0 ≤ l.getD i 0 ∧ l.getD i 0 ≤ 65535) → ∀ i, l.getD i 0 = vi l / 65536 ^ i % 65536
  | [], _, i => by simp [vi]
  | x :: t, h, 0 => by
    have h0 := h 0
    simp only [List.getD_cons_zero] at h0
    simp only [List.getD_cons_zero, vi, Int.pow_zero, Int.ediv_one]; omega
  | x :: t, h, i + 1 => by
    have ih := limb t (fun i => by simpa using h (i + 1)) i
    have h0 := h 0
    simp only [List.getD_cons_zero] at h0
    rw [List.getD_cons_succ, ih, vi, Int.pow_succ, Int.mul_comm (65536 ^ i) 65536, ← Int.ediv_ediv_of_nonneg (by decide)]
    congr 2; omega
end Go.Proofs.YtobgimpkkjaolaaGreatDoor
/- The page's own bytes of a number, as its call answers them, in any world. -/
namespace Go.Proofs.YtobgimpkkjaolaaGreatDoor
open Go.RowKit
theorem limb_bytes (t : List Int) (ht : Norm t) (x : Nat) (hv : vi t = (x : Int)) (k : Nat) : IntKind.u8.wrap (t.getD k 0) = ((byt x (2 * k) : Nat) : Int) ∧ IntKind.u8.wrap (t.getD k 0 / 256) = ((byt x (2 * k + 1) : Nat) : Int) := by
  have h := limb t ht.2 k
  rw [hv, show ((x : Int) / 65536 ^ k % 65536) = ((x / 65536 ^ k % 65536 : Nat) : Int) from by simp] at h
  have e1 : (256 : Nat) ^ (2 * k) = 65536 ^ k := by rw [Nat.pow_mul]
  unfold byt
  rw [Nat.pow_succ, e1, ← Nat.div_div_eq_div_mul]
  generalize x / 65536 ^ k = y at *
  rw [h, IntKind.wrap_u8', IntKind.wrap_u8']
  omega
theorem run_index_arr {P : Program} {t e : TypeId} {len : Nat} {d : TypeDesc} (hu : P.underlying t = some (.array len e)) (he : P.underlying e = some d) (hd : d.isRow = false) (hs : (P.info? e).map (·.size) = some 1)
    (cs : Array Value) (i : Nat) (hi : i < len) (v : Value) (hv : cs[i]? = some v) (w : World) : (Instr.index t (.agg cs) (.int .i64 (i : Int))).run P w = .ok v w := by
  cases hq : P.info? e with
  | none => simp [hq] at hs
  | some ie =>
    have h1 : ie.size = 1 := by simpa [hq] using hs
    have hagg : (isAgg e).run P w = .ok false w := by
      unfold isAgg
      rw [Sem.run_bind, run_underlying he w]
      cases d <;> simp_all
    have h2 : ¬ len ≤ i := by omega
    simp [Instr.index, asIntOf, run_underlying hu, part, hagg, sizeOf, typeInfo, hq, h1, hv, h2]
theorem size2 : (Tryz.prog.info? 2).map (·.size) = some 1 := by kernel_rfl
theorem info5 : (Tryz.prog.info? 5).map (fun i => (i.zero, i.size, i.bytes)) = some (some (.int .u8 0), 1, 1) := by kernel_rfl
theorem info_five : ∃ i, Tryz.prog.info? 5 = some i ∧ i.zero = some (.int .u8 0) ∧ i.size = 1 ∧ i.bytes = 1 := by
  cases h : Tryz.prog.info? 5 with
  | none => have := info5; rw [h] at this; cases this
  | some i =>
    have h2 := info5
    rw [h] at h2
    simp only [Option.map_some, Option.some.injEq, Prod.mk.injEq] at h2
    exact ⟨i, rfl, h2.1, h2.2.1, h2.2.2⟩
def bvs (x k : Nat) : List Value := (List.range (2 * k)).map fun i => Value.int .u8 ((byt x i : Nat) : Int)
theorem bvs_succ (x k : Nat) : bvs x (k + 1) = bvs x k ++ [.int .u8 ((byt x (2 * k) : Nat) : Int), .int .u8 ((byt x (2 * k + 1) : Nat) : Int)] := by
  unfold bvs
  rw [show 2 * (k + 1) = 2 * k + 1 + 1 by omega, List.range_succ, List.range_succ]
  simp
theorem Below.own {B : Nat} {w wa w' : World} {row : Option Nat} (h : Below B w wa) (g : wa.grownBy w' row) (hr : ∀ b, row = some b → B ≤ b) (hB : B ≤ wa.heap.size) : Below B w w' :=
  h.trans ⟨g.os, g.tape, g.output, g.size, fun k hk => g.block k (by omega) (by intro e; have := hr k (by first | exact e | exact e.symm); omega)⟩
set_option maxRecDepth 100000 in
set_option maxHeartbeats 2000000 in
theorem rbytes_own (l : List Int) (x : Nat) (h : Rep l x) (w : World) :
    Calls Tryz.prog 41 #[.agg (ia l)] w fun e w' => ∃ g cap, e = .returned (.slice (some ⟨g, 0, none⟩) 32 cap) ∧ g < w'.heap.size ∧ 32 ≤ cap ∧ cap ≤ maxLen ∧ (∀ i, i < 32 → w'.cell? ⟨g, i, none⟩ = some (.int .u8 ((byt x i : Nat) : Int))) ∧ Below w.heap.size w w' ∧ w'.ownsRow w.heap.size 5 1 (.slice (some ⟨g, 0, none⟩) 32 cap) 32 (bvs x 16) := by
  have hz := zeroN
  obtain ⟨hn, hv, hb0, hb1, hb2⟩ := norm_cy3 h
  have hl := h.len
  have HC1 := hide (carry_any l hl hb0)
  have HC2 := hide (carry_any (cy l) (by rw [cy_len, hl]) hb1)
  have HC3 := hide (carry_any (cy (cy l)) (by rw [cy_len, cy_len, hl]) hb2)
  have htr := tr_all _ hn x hv
  have hlen3 : (cy (cy (cy l))).length = 16 := hn.1
  generalize cy (cy (cy l)) = t at *
  have HTR := hide htr
  have hw0 : (ia l).size = 16 := by rw [ia_size, hl]
  have hwt : (ia t).size = 16 := by rw [ia_size, hlen3]
  clear hn hv hb0 hb1 hb2 hl h htr hlen3
  go_enter Tryz.func41, Tryz.ntmps41
  have hrow0 := heap_alloc_last w (.cells (ia l) 37)
  go_wp2_with (first | (refine wpList_load_row rfl 37 (.tmp 1) rfl w.heap.size rfl 37 (ia l) (0,0) (.array 16 2) hrow0 undN rfl (by rw [hw0]; exact sizeN) ?_) | fail)
  refine (HC1.out _).mono ?_
  rintro e w1 ⟨rfl, b1⟩
  go_wp2_with fail
  refine (HC2.out _).mono ?_
  rintro e w2 ⟨rfl, b2⟩
  go_wp2_with fail
  refine (HC3.out _).mono ?_
  rintro e w3 ⟨rfl, b3⟩
  have HB3 := hide (Below.chain (Below.chain (Below.chain ((Below.refl w.heap.size w).alloc (Nat.le_refl _) (.cells (ia l) 37)) b1) b2) b3)
  clear b1 b2 b3 hrow0 HC1 HC2 HC3
  go_wp2_with (refine wpList_store_row rfl 37 (.tmp 3) (.tmp 12) rfl w3.heap.size (ia t) rfl rfl 37 (ia z16) (heap_alloc_last _ _) (by rw [hwt]; exact sizeN) (by rw [hwt]; rfl) (ia_one _) ?_)
  have hw3 : w.heap.size ≤ w3.heap.size := HB3.out.size
  go_loopw [13] (fun i wr => ∃ j : Nat, j ≤ 3 ∧ i = .int .i64 j ∧ wr.heap[w3.heap.size]? = some (.cells (ia (tr t j)) 37 (0, 0)) ∧ w3.heap.size < wr.heap.size ∧ Below w.heap.size w wr) (fun i _ => 3 - (intOf i).toNat)
  case atStart => exact ⟨0, by omega, rfl, setRow_heap _ _ _ _ _ _ (heap_alloc_last _ _), by simp, Below.setRow (HB3.out.alloc (by omega) _) _ _ (by omega)⟩
  case round =>
    clear HB3 hwt hw0
    obtain ⟨j, hj, rfl, hR, hS, hB⟩ := hrel
    by_cases hlt : j < 3
    · have hN := HTR.out.1 j hj
      have HTS : Hid (tr t (j + 1) = if 0 ≤ (ml (tr t j) 15).getD 15 0 then ml (tr t j) 15 else tr t j) := rfl
      generalize tr t j = T at *
      have hT16 : (ia T).size = 16 := by rw [ia_size, hN.1]
      have hTr : ∀ i, i < 16 → (ia T)[i]? = some (.int .i64 (T.getD i 0)) := fun i hi => ia_get _ _ (by rw [hN.1]; exact hi)
      have HN := hide hN
      have dj : decide ((j : Int) < 3) = true := decide_eq_true (by omega)
      have hR1 : (wr.alloc (.cells (ia z16) 37)).heap[w3.heap.size]? = some (.cells (ia T) 37 (0, 0)) := (Below.heap_alloc _ _ _ hS).trans hR
      have h0 := hN.2 0
      obtain ⟨u0, hu0⟩ : ∃ u, T.getD 0 0 = u := ⟨_, rfl⟩
      have c0 : wr.cell? ⟨w3.heap.size, 0, none⟩ = some (.int .i64 u0) := by rw [cell_of_row _ _ _ _ _ _ hR, hTr 0 (by decide), hu0]
      rw [hu0] at h0
      have hM : ((wr.alloc (.cells (ia z16) 37)).setRow wr.heap.size (ia T)).heap[wr.heap.size]? = some (.cells (ia T) 37 (0, 0)) := setRow_heap _ _ _ _ _ _ (heap_alloc_last _ _)
      have hRM : ((wr.alloc (.cells (ia z16) 37)).setRow wr.heap.size (ia T)).heap[w3.heap.size]? = some (.cells (ia T) 37 (0, 0)) := (setRow_other _ _ _ _ (by omega)).trans hR1
      have hSM : ((wr.alloc (.cells (ia z16) 37)).setRow wr.heap.size (ia T)).heap.size = wr.heap.size + 1 := by simp
      have hBM : Below w.heap.size w ((wr.alloc (.cells (ia z16) 37)).setRow wr.heap.size (ia T)) := Below.setRow (hB.alloc (by omega) _) _ _ (by omega)
      have cA : ((wr.alloc (.cells (ia z16) 37)).setRow wr.heap.size (ia T)).cell? ⟨w3.heap.size, 0, none⟩ = some (.int .i64 u0) := by rw [cell_of_row _ _ _ _ _ _ hRM, hTr 0 (by decide), hu0]
      have cB : ((wr.alloc (.cells (ia z16) 37)).setRow wr.heap.size (ia T)).cell? ⟨wr.heap.size, 0, none⟩ = some (.int .i64 u0) := by rw [cell_of_row _ _ _ _ _ _ hM, hTr 0 (by decide), hu0]
      have fB : ((wr.alloc (.cells (ia z16) 37)).setRow wr.heap.size (ia T)).frozen? ⟨wr.heap.size, 0, none⟩ = false := frozen_of_row _ _ _ _ _ hM
      have HU := hide hu0
      have HM := hide (And.intro hM (And.intro hRM (And.intro hSM hBM)))
      clear hN hTr hM hRM hSM hBM c0 hR1 hu0
      go_wp2_with (first | (refine wpList_load_row rfl 37 (.tmp 3) rfl w3.heap.size rfl 37 (ia T) (0,0) (.array 16 2) hR undN rfl (by rw [hT16]; exact sizeN) ?_) | (refine wpList_store_row rfl 37 (.tmp 4) (.tmp 15) rfl wr.heap.size (ia T) rfl rfl 37 (ia z16) (heap_alloc_last _ _) (by rw [hT16]; exact sizeN) (by rw [hT16]; rfl) (ia_one _) ?_))
      obtain ⟨hM, hRM, hSM, hBM⟩ := HM.out
      have hM0 := heap_setCell_same _ _ 0 _ _ (.int .i64 (u0 - 65517)) hM
      rw [ia_set, ← HU.out, show T.set 0 (T.getD 0 0 - 65517) = ml T 0 from rfl, HU.out] at hM0
      have hRM0 := (heap_setCell_other ((wr.alloc (.cells (ia z16) 37)).setRow wr.heap.size (ia T)) ⟨wr.heap.size, 0, none⟩ w3.heap.size (.int .i64 (u0 - 65517)) (by simp; omega)).trans hRM
      have hSM0 : (((wr.alloc (.cells (ia z16) 37)).setRow wr.heap.size (ia T)).setCell ⟨wr.heap.size, 0, none⟩ (.int .i64 (u0 - 65517))).heap.size = wr.heap.size + 1 := by simp
      have hBM0 := hBM.setCell (p := ⟨wr.heap.size, 0, none⟩) (by simp; omega) (.int .i64 (u0 - 65517))
      clear cA cB fB hM hRM hSM hBM HM
      generalize ((wr.alloc (.cells (ia z16) 37)).setRow wr.heap.size (ia T)).setCell ⟨wr.heap.size, 0, none⟩ (.int .i64 (u0 - 65517)) = W0 at *
      generalize wr.heap.size = P at *
      clear hB hR
      go_loopw [5] (fun i wr' => ∃ k : Nat, k ≤ 15 ∧ i = .int .i64 ((k : Int) + 1) ∧ wr'.heap[P]? = some (.cells (ia (ml T k)) 37 (0, 0)) ∧ wr'.heap[w3.heap.size]? = some (.cells (ia T) 37 (0, 0)) ∧ wr'.heap.size = P + 1 ∧ Below w.heap.size w wr') (fun i _ => 16 - (intOf i).toNat)
      case atStart => exact ⟨0, by omega, rfl, hM0, hRM0, hSM0, hBM0⟩
      case round =>
        clear hM0 hRM0 hSM0 hBM0
        obtain ⟨k, hk, rfl, hM2, hR2, hS2, hB2⟩ := hrel
        have HM2 := hide hM2
        have HR2 := hide hR2
        have hml : (ml T k).length = 16 := by rw [ml_len, HN.out.1]
        by_cases hk15 : k < 15
        · obtain ⟨m1, m2, m3, m4⟩ := ml_all T HN.out k hk
          have hv := HN.out.2 (k + 1)
          have hz0 := HN.out.2 k
          have hgt := ml_gt T k (k + 1) (by omega)
          have cv := cell_of_row _ _ (k + 1) _ _ _ hR2
          rw [ia_get _ _ (by rw [HN.out.1]; omega)] at cv
          have cm := cell_of_row _ _ (k + 1) _ _ _ hM2
          rw [ia_get _ _ (by omega), hgt] at cm
          have cz := cell_of_row _ _ k _ _ _ hM2
          rw [ia_get _ _ (by omega)] at cz
          have hfro : ∀ i, wr.frozen? ⟨P, i, none⟩ = false := fun i => frozen_of_row _ _ _ _ _ hM2
          obtain ⟨v, hgv⟩ : ∃ v, T.getD (k + 1) 0 = v := ⟨_, rfl⟩
          obtain ⟨z, hgz⟩ : ∃ z, (ml T k).getD k 0 = z := ⟨_, rfl⟩
          rw [hgv] at cv cm hv
          rw [hgz] at cz m2 m3
          have hzb : z ≤ 65535 := by
            have : 0 ≤ sv k := by unfold sv; split <;> (try split) <;> decide
            omega
          have b0 : (0 : Int) ≤ (k : Int) + 1 := by omega
          have b1 : (k : Int) + 1 < 16 := by omega
          have b2 : (0 : Int) ≤ (k : Int) := by omega
          have b3 : (k : Int) < 16 := by omega
          have dl : decide ((k : Int) + 1 < 16) = true := decide_eq_true b1
          have hPw : w3.heap.size ≠ P := by omega
          clear hM2 hR2 m1 m3 m4 hz0 hgt hml
          by_cases h14 : k = 14 <;> by_cases hneg : z < 0
          · have hsv : sv (k + 1) = 32767 := by unfold sv; rw [if_neg (by omega), if_pos (by omega)]
            have HST : Hid (ml T (k + 1) = ((ml T k).set (k + 1) (v - 32767 - 1)).set k (z + 65536)) := by
              show _ = _
              rw [ml, mstep, Nat.add_sub_cancel, hgz, hgv, hsv, if_pos hneg]
            have e15 : (((k : Int) + 1) == 15) = true := by rw [show (k : Int) + 1 = 15 by omega]; rfl
            have e15' : decide ((k : Int) + 1 = 15) = true := decide_eq_true (by omega)
            have dz : decide (z < 0) = true := decide_eq_true hneg
            have HG := hide (And.intro hgz hgv)
            clear hsv hgz hgv h14 hneg
            go_wp2
            refine ⟨⟨k + 1, by omega, by go_num, ?_, ?_, ?_, ?_⟩, by simp [intOf]; omega⟩
            · rw [heap_setCell_same _ _ _ _ _ _ (heap_setCell_same _ _ _ _ _ _ (heap_setCell_same _ _ _ _ _ _ (heap_setCell_same _ _ _ _ _ _ HM2.out))), ia_set, ia_set, ia_set, ia_set, List.set_set, List.set_set, HST.out]
            · rw [heap_setCell_other _ _ _ _ (by simp; omega), heap_setCell_other _ _ _ _ (by simp; omega), heap_setCell_other _ _ _ _ (by simp; omega), heap_setCell_other _ _ _ _ (by simp; omega)]; exact HR2.out
            · simpa using hS2
            · exact ((((hB2).setCell (by simp; omega) _).setCell (by simp; omega) _).setCell (by simp; omega) _).setCell (by simp; omega) _
          · have hsv : sv (k + 1) = 32767 := by unfold sv; rw [if_neg (by omega), if_pos (by omega)]
            have HST : Hid (ml T (k + 1) = (ml T k).set (k + 1) (v - 32767)) := by
              show _ = _
              rw [ml, mstep, Nat.add_sub_cancel, hgz, hgv, hsv, if_neg hneg]
            have e15 : (((k : Int) + 1) == 15) = true := by rw [show (k : Int) + 1 = 15 by omega]; rfl
            have e15' : decide ((k : Int) + 1 = 15) = true := decide_eq_true (by omega)
            have dz : decide (z < 0) = false := decide_eq_false hneg
            have HG := hide (And.intro hgz hgv)
            clear hsv hgz hgv h14 hneg
            go_wp2
            refine ⟨⟨k + 1, by omega, by go_num, ?_, ?_, ?_, ?_⟩, by simp [intOf]; omega⟩
            · rw [heap_setCell_same _ _ _ _ _ _ (heap_setCell_same _ _ _ _ _ _ HM2.out), ia_set, ia_set, List.set_set, HST.out]
            · rw [heap_setCell_other _ _ _ _ (by simp; omega), heap_setCell_other _ _ _ _ (by simp; omega)]; exact HR2.out
            · simpa using hS2
            · exact ((hB2).setCell (by simp; omega) _).setCell (by simp; omega) _
          · have hsv : sv (k + 1) = 65535 := by unfold sv; rw [if_neg (by omega), if_neg (by omega)]
            have HST : Hid (ml T (k + 1) = ((ml T k).set (k + 1) (v - 65535 - 1)).set k (z + 65536)) := by
              show _ = _
              rw [ml, mstep, Nat.add_sub_cancel, hgz, hgv, hsv, if_pos hneg]
            have e15 : (((k : Int) + 1) == 15) = false := by simp; omega
            have e15' : decide ((k : Int) + 1 = 15) = false := decide_eq_false (by omega)
            have dz : decide (z < 0) = true := decide_eq_true hneg
            have HG := hide (And.intro hgz hgv)
            clear hsv hgz hgv h14 hneg
            go_wp2
            refine ⟨⟨k + 1, by omega, by go_num, ?_, ?_, ?_, ?_⟩, by simp [intOf]; omega⟩
            · rw [heap_setCell_same _ _ _ _ _ _ (heap_setCell_same _ _ _ _ _ _ (heap_setCell_same _ _ _ _ _ _ HM2.out)), ia_set, ia_set, ia_set, List.set_set, HST.out]
            · rw [heap_setCell_other _ _ _ _ (by simp; omega), heap_setCell_other _ _ _ _ (by simp; omega), heap_setCell_other _ _ _ _ (by simp; omega)]; exact HR2.out
            · simpa using hS2
            · exact (((hB2).setCell (by simp; omega) _).setCell (by simp; omega) _).setCell (by simp; omega) _
          · have hsv : sv (k + 1) = 65535 := by unfold sv; rw [if_neg (by omega), if_neg (by omega)]
            have HST : Hid (ml T (k + 1) = (ml T k).set (k + 1) (v - 65535)) := by
              show _ = _
              rw [ml, mstep, Nat.add_sub_cancel, hgz, hgv, hsv, if_neg hneg]
            have e15 : (((k : Int) + 1) == 15) = false := by simp; omega
            have e15' : decide ((k : Int) + 1 = 15) = false := decide_eq_false (by omega)
            have dz : decide (z < 0) = false := decide_eq_false hneg
            have HG := hide (And.intro hgz hgv)
            clear hsv hgz hgv h14 hneg
            go_wp2
            refine ⟨⟨k + 1, by omega, by go_num, ?_, ?_, ?_, ?_⟩, by simp [intOf]; omega⟩
            · rw [heap_setCell_same _ _ _ _ _ _ HM2.out, ia_set, HST.out]
            · rw [heap_setCell_other _ _ _ _ (by simp; omega)]; exact HR2.out
            · simpa using hS2
            · exact (hB2).setCell (by simp; omega) _
        · have hk' : k = 15 := by omega
          have dl : decide ((k : Int) + 1 < 16) = false := decide_eq_false (by omega)
          rw [hk'] at hM2 hml HM2
          have c15 := cell_of_row _ _ 15 _ _ _ hM2
          rw [ia_get _ _ (by omega)] at c15
          have hw15 : (ia (ml T 15)).size = 16 := by rw [ia_size, hml]
          obtain ⟨z, hgz⟩ : ∃ z, (ml T 15).getD 15 0 = z := ⟨_, rfl⟩
          rw [hgz] at c15
          clear hk' hk15 hk
          by_cases hpos : 0 ≤ z
          · have dz : decide (0 ≤ z) = true := decide_eq_true hpos
            have HST : Hid (tr t (j + 1) = ml T 15) := by show _ = _; rw [HTS.out, hgz, if_pos hpos]
            clear hpos
            go_wp2_with (first | (refine wpList_load_row rfl 37 (.tmp 4) rfl P rfl 37 (ia (ml T 15)) (0,0) (.array 16 2) hM2 undN rfl (by rw [hw15]; exact sizeN) ?_) | (refine wpList_store_row rfl 37 (.tmp 3) (.tmp 57) rfl w3.heap.size (ia (ml T 15)) rfl rfl 37 (ia T) hR2 (by rw [hw15]; exact sizeN) (by rw [hw15, hT16]) (ia_one _) ?_))
            refine ⟨⟨j + 1, by omega, by go_num, by rw [HST.out]; exact setRow_heap _ _ _ _ _ _ HR2.out, by simp; omega, Below.setRow hB2 _ _ hw3⟩, by simp [intOf]; omega⟩
          · have dz : decide (0 ≤ z) = false := decide_eq_false hpos
            have HST : Hid (tr t (j + 1) = T) := by show _ = _; rw [HTS.out, hgz, if_neg hpos]
            clear hpos hM2 hR2
            go_wp2
            refine ⟨⟨j + 1, by omega, by go_num, by rw [HST.out]; exact HR2.out, by omega, hB2⟩, by simp [intOf]; omega⟩
    · have hj3 : j = 3 := by omega
      rw [hj3] at hR
      obtain ⟨hnn, hvx⟩ := HTR.out
      have hN := hnn 3 (Nat.le_refl _)
      have hdj : decide ((j : Int) < 3) = false := decide_eq_false (by omega)
      clear hj3 hnn hlt hj
      generalize tr t 3 = T at *
      have hT16 : (ia T).size = 16 := by rw [ia_size, hN.1]
      have HN := hide (And.intro hN hvx)
      clear hN hvx HTR
      go_wp2_with (refine wpList_load_row rfl 37 (.tmp 3) rfl w3.heap.size rfl 37 (ia T) (0,0) (.array 16 2) hR undN rfl (by rw [hT16]; exact sizeN) ?_)
      clear hz hR hdj
      go_loopw [6, 60] (fun sv i wr' => ∃ k : Nat, k ≤ 16 ∧ i = .int .i64 k ∧ wr'.ownsRow w.heap.size 5 1 sv (2 * k) (bvs x k) ∧ Below w.heap.size w wr') (fun _ i _ => 16 - (intOf i).toNat)
      case atStart => exact ⟨0, by omega, rfl, ⟨rfl, .inl ⟨rfl, rfl⟩⟩, hB⟩
      case round =>
        clear hB hS
        obtain ⟨k, hk, rfl, hown, hB2⟩ := hrel
        obtain ⟨i0, hi, hz0, hz1, hz2⟩ := info_five
        by_cases hk16 : k < 16
        · obtain ⟨e1, e2⟩ := limb_bytes T HN.out.1 x HN.out.2 k
          have hidx : ∀ W, (Instr.index 37 (.agg (ia T)) (.int .i64 (k : Int))).run Tryz.prog W = .ok (.int .i64 (T.getD k 0)) W := fun W => run_index_arr undN Tryz.underlying2 rfl size2 (ia T) k hk16 _ (ia_get _ _ (by rw [HN.out.1.1]; exact hk16)) W
          have HS := hide (bvs_succ x k)
          have hd : decide ((k : Int) < 16) = true := decide_eq_true (by omega)
          obtain ⟨v, hgv⟩ : ∃ v, T.getD k 0 = v := ⟨_, rfl⟩
          obtain ⟨p, hp⟩ : ∃ p, byt x (2 * k) = p := ⟨_, rfl⟩
          obtain ⟨q, hq⟩ : ∃ q, byt x (2 * k + 1) = q := ⟨_, rfl⟩
          rw [hgv] at e1 e2 hidx
          rw [hp] at e1
          rw [hq] at e2
          have HP := hide (And.intro hp hq)
          have hbe := hB2.size
          clear hgv hp hq hk
          have hlo := (hown.alloc (.cells #[.int .u8 (p : Int), .int .u8 (q : Int)] 5)).lt
          have hB3 := hB2.alloc hbe (.cells #[.int .u8 (p : Int), .int .u8 (q : Int)] 5)
          have HL := hide (And.intro hlo hB3)
          have hown2 := hown.alloc (.cells #[.int .u8 (p : Int), .int .u8 (q : Int)] 5)
          clear hlo hB3 hown
          go_wp2_with (at_builtin; refine wpList_append_lies _ rfl _ _ 22 rfl w.heap.size 5 i0 (.int .u8 0) 1 1 Tryz.underlying22 hi hz0 hz1 hz2 rfl (by decide) _ (2 * k) (bvs x k) rfl hown2 ⟨wr.heap.size, 0, none⟩ 2 2 [.int .u8 (p : Int), .int .u8 (q : Int)] rfl rfl (World.news_of_block (heap_alloc_last _ _)) (by intro u hu; simp at hu; rcases hu with rfl | rfl <;> rfl) (by decide) (by unfold maxLen; omega) (by omega) (by simp; omega) _ rfl ?_)
          intro g cap w6 hown6 hgrow _ hlt6
          have hB6 := Below.own HL.out.2 hgrow (fun b hb => (HL.out.1 b hb).1) (by simp; omega)
          rw [← HP.out.1, ← HP.out.2, ← HS.out] at hown6
          clear hgrow HL hown2 hi hz0 hz1 hz2
          go_wp2
          refine ⟨⟨k + 1, by omega, by go_num, hown6, hB6⟩, by simp [intOf]; omega⟩
        · have hd : decide ((k : Int) < 16) = false := decide_eq_false (by omega)
          have hk' : k = 16 := by omega
          rw [hk'] at hown
          clear hk' hk16 hk
          obtain ⟨g, cap, hv, hg1, hg2⟩ := hown.form (by decide)
          subst hv
          have hcell := fun i (hi : i < 32) => hown.cellAt i hi
          rcases hown.2 with ⟨h1, _⟩ | ⟨g', cap', cur, e, _, hr, h1, h2, _, h4⟩
          · cases h1
          · injection e with e1 e2 e3
            injection e1 with e4
            injection e4 with e5
            subst e5 e3
            have hres : ∀ i, i < 32 → wr.cell? ⟨g, i, none⟩ = some (.int .u8 ((byt x i : Nat) : Int)) := fun i hi => by
              rw [hcell i hi]
              unfold bvs
              rw [List.getElem?_map, List.getElem?_range (by omega)]
              rfl
            have HOWN := hide hown
            clear hcell hown hr h4
            go_wp2
            go_ret
            exact ⟨g, cap, rfl, hg2, h1, h2, hres, hB2, HOWN.out⟩
theorem rbytes_any (l : List Int) (x : Nat) (h : Rep l x) (w : World) :
    Calls Tryz.prog 41 #[.agg (ia l)] w fun e w' => ∃ g cap, e = .returned (.slice (some ⟨g, 0, none⟩) 32 cap) ∧ g < w'.heap.size ∧ 32 ≤ cap ∧ cap ≤ maxLen ∧ (∀ i, i < 32 → w'.cell? ⟨g, i, none⟩ = some (.int .u8 ((byt x i : Nat) : Int))) ∧ Below w.heap.size w w' :=
  (rbytes_own l x h w).mono fun _ _ ⟨g, cap, h1, h2, h3, h4, h5, h6, _⟩ => ⟨g, cap, h1, h2, h3, h4, h5, h6⟩
end Go.Proofs.YtobgimpkkjaolaaGreatDoor
/- The page's own small numbers and which numbers are odd, as its calls answer, in any world. -/
namespace Go.Proofs.YtobgimpkkjaolaaGreatDoor
open Go.RowKit
def smr (n : Nat) : List Int := [(n : Int) % 65536, (n : Int) / 65536, 0, 0, 0, 0, 0, 0, 0, 0, 0, 0, 0, 0, 0, 0]
theorem smr_rep (n : Nat) (hn : n < 4294967296) : Rep (smr n) n := by
  refine ⟨rfl, fun i => ?_, ?_⟩
  · unfold smr
    match i with
    | 0 => simp only [List.getD_cons_zero]; omega
    | 1 => simp only [List.getD_cons_zero, List.getD_cons_succ]; omega
    | i + 2 =>
      simp only [List.getD_cons_succ]
      have : ∀ j, ([0, 0, 0, 0, 0, 0, 0, 0, 0, 0, 0, 0, 0, 0] : List Int).getD j 0 = 0 := fun j => by
        rw [show ([0, 0, 0, 0, 0, 0, 0, 0, 0, 0, 0, 0, 0, 0] : List Int) = List.replicate 14 0 from rfl, List.getD_eq_getElem?_getD, List.getElem?_replicate]
        split <;> rfl
      rw [this]; decide
  · unfold smr
    simp only [vi]
    omega
theorem and_low (n : Nat) (hn : n < 4294967296) : bits .and .u32 (n : Int) 65535 = (n : Int) % 65536 := by
  have h := bits_and_u32_nat n 65535 hn (by decide)
  rw [show (65535 : Nat) = 2 ^ 16 - 1 from rfl, Nat.and_two_pow_sub_one_eq_mod] at h
  rw [show (n : Int) % 65536 = ((n % 2 ^ 16 : Nat) : Int) by simp]
  exact h
theorem and_bit (n : Nat) (hn : n < 256) : bits .and .u8 (n : Int) 1 = ((n % 2 : Nat) : Int) := by
  have : ∀ i : Fin 256, bits .and .u8 ((i.val : Nat) : Int) 1 = ((i.val % 2 : Nat) : Int) := by decide +kernel
  exact this ⟨n, hn⟩
set_option maxRecDepth 100000 in
set_option maxHeartbeats 1000000 in
theorem rsmall_any (n : Nat) (hn : n < 4294967296) (w : World) :
    Calls Tryz.prog 45 #[.int .u32 (n : Int)] w fun e w' => e = .returned (.agg (ia (smr n))) ∧ Below w.heap.size w w' := by
  have hz : ∀ w, (zeroValue 37).run Tryz.prog w = .ok (.agg #[.int .i64 0, .int .i64 0, .int .i64 0, .int .i64 0, .int .i64 0, .int .i64 0, .int .i64 0, .int .i64 0, .int .i64 0, .int .i64 0, .int .i64 0, .int .i64 0, .int .i64 0, .int .i64 0, .int .i64 0, .int .i64 0]) w := zeroN
  have ha := and_low n hn
  go_enter Tryz.func45, Tryz.ntmps45
  go_wp2_with (refine wpList_store_row rfl 37 (.tmp 2) (.tmp 9) rfl w.heap.size (ia (smr n)) rfl rfl 37 (ia z16) (heap_alloc_last _ _) sizeN rfl (ia_one _) ?_)
  exact bodyPost_ret_by (results_cell_row rfl _ _ w.heap.size 37 (ia (smr n)) (0, 0) (.array 16 2) rfl (setRow_heap _ _ _ _ _ _ (heap_alloc_last _ _)) undN rfl sizeN) rfl ⟨rfl, Below.setRow ((Below.refl _ _).alloc (Nat.le_refl _) _) _ _ (Nat.le_refl _)⟩
set_option maxRecDepth 100000 in
set_option maxHeartbeats 1000000 in
theorem rodd_any (l : List Int) (x : Nat) (h : Rep l x) (w : World) :
    Calls Tryz.prog 43 #[.agg (ia l)] w fun e w' => e = .returned (.bool (decide (x % 2 = 1))) ∧ Below w.heap.size w w' := by
  have HC := hide (rbytes_any l x h)
  have hw0 : (ia l).size = 16 := by rw [ia_size, h.len]
  have hlt : byt x 0 < 256 := by unfold byt; omega
  have ho := and_bit (byt x 0) hlt
  have hp : x % 2 = byt x 0 % 2 := by unfold byt; omega
  rw [hp]
  obtain ⟨y, hy⟩ : ∃ y, byt x 0 = y := ⟨_, rfl⟩
  rw [hy] at hlt ho ⊢
  obtain ⟨q, hq⟩ : ∃ q, y % 2 = q := ⟨_, rfl⟩
  rw [hq] at ho ⊢
  have HY := hide hy
  clear h hp hy hq
  have hrow0 := heap_alloc_last w (.cells (ia l) 37)
  go_enter Tryz.func43, Tryz.ntmps43
  go_wp2_with (first | (refine wpList_load_row rfl 37 (.tmp 1) rfl w.heap.size rfl 37 (ia l) (0,0) (.array 16 2) hrow0 undN rfl (by rw [hw0]; exact sizeN) ?_) | fail)
  refine (HC.out _).mono ?_
  rintro e w1 ⟨g, cap, rfl, hg, hc1, hc2, hcell, hb⟩
  have HB := hide (Below.chain ((Below.refl w.heap.size w).alloc (Nat.le_refl _) (.cells (ia l) 37)) hb)
  have c0 := hcell 0 (by decide)
  rw [HY.out] at c0
  clear hb hcell hrow0
  go_wp2
  go_ret
  refine ⟨?_, HB.out⟩
  show Ending.returned (.bool ((q : Int) == 1)) = _
  congr 2
  rw [Bool.eq_iff_iff]; simp; omega
end Go.Proofs.YtobgimpkkjaolaaGreatDoor
/- The page's own number of some bytes, as its call answers it, in any world that holds the bytes. -/
namespace Go.Proofs.YtobgimpkkjaolaaGreatDoor
open Go.RowKit
structure Fl (l : List Int) (bs : List Nat) (k : Nat) : Prop where
  len : l.length = 16
  ok : ∀ j, 0 ≤ l.getD j 0 ∧ l.getD j 0 ≤ 65535
  nil : ∀ j, k ≤ 2 * j → l.getD j 0 = 0
  low : ∀ j, k ≤ 2 * j + 1 → l.getD j 0 ≤ 255
  val : vi l = ((bval (bs.take k) : Nat) : Int)
theorem z16_get (j : Nat) : z16.getD j 0 = 0 := by
  rw [show z16 = List.replicate 16 0 from rfl, List.getD_eq_getElem?_getD, List.getElem?_replicate]
  split <;> rfl
theorem Fl.start (bs : List Nat) : Fl z16 bs 0 :=
  ⟨rfl, fun j => by rw [z16_get]; decide, fun j _ => z16_get j, fun j _ => by rw [z16_get]; decide, by simp [bval]; decide⟩
theorem Fl.step {l : List Int} {bs : List Nat} {k : Nat} (h : Fl l bs k) (hk : k < bs.length) (hk2 : k < 32) (hb : bs.getD k 0 < 256) (y : Int) (hy : y = l.getD (k / 2) 0 + ((bs.getD k 0 : Nat) : Int) * 256 ^ (k % 2)) : Fl (l.set (k / 2) y) bs (k + 1) := by
  have hv := vi_set l (k / 2) y (by rw [h.len]; omega)
  have h1 := h.ok (k / 2)
  have hyb : 0 ≤ y ∧ y ≤ 65535 ∧ (k % 2 = 0 → y ≤ 255) := by
    by_cases he : k % 2 = 0
    · have h2 := h.nil (k / 2) (by omega)
      rw [he] at hy; omega
    · have h2 := h.low (k / 2) (by omega)
      rw [show k % 2 = 1 by omega] at hy; omega
  refine ⟨by rw [List.length_set, h.len], fun j => ?_, fun j hj => ?_, fun j hj => ?_, ?_⟩
  · by_cases e : k / 2 = j
    · subst e; rw [gset_same _ _ _ (by rw [h.len]; omega)]; omega
    · rw [gset_ne _ _ _ _ e]; exact h.ok j
  · rw [gset_ne _ _ _ _ (by omega)]; exact h.nil j (by omega)
  · by_cases e : k / 2 = j
    · subst e; rw [gset_same _ _ _ (by rw [h.len]; omega)]; exact hyb.2.2 (by omega)
    · rw [gset_ne _ _ _ _ e]; exact h.low j (by omega)
  · rw [hv, bval_take bs k hk, h.val, hy]
    have e1 : (65536 : Int) ^ (k / 2) * 256 ^ (k % 2) = 256 ^ k := by
      rw [show (65536 : Int) = 256 ^ 2 from rfl, ← Int.pow_mul, ← Int.pow_add]; congr 1; omega
    generalize bs.getD k 0 = b
    rw [show l.getD (k / 2) 0 + (b : Int) * 256 ^ (k % 2) - l.getD (k / 2) 0 = 256 ^ (k % 2) * (b : Int) by rw [Int.mul_comm]; omega, ← Int.mul_assoc, e1]
    simp
theorem Fl.rep {l : List Int} {bs : List Nat} (h : Fl l bs 32) : Rep l (bval (bs.take 32) % pp) :=
  ⟨h.len, fun i => by have := h.ok i; omega, by rw [h.val]; unfold pp; omega⟩
set_option maxRecDepth 100000 in
set_option maxHeartbeats 1000000 in
theorem rfrom_any (v : Value) (bs : List Nat) (hlen : bs.length ≤ 100) (w : World) (hbs : BsAt w v bs) :
    Calls Tryz.prog 72 #[v] w fun e w' => ∃ c, e = .returned (.agg (ia c)) ∧ Rep c (bval (bs.take 32) % pp) ∧ Below w.heap.size w w' := by
  have hz := zeroN
  obtain ⟨b, o, c, ao, rfl, hc, hm, hl, hh⟩ := hbs
  obtain ⟨n, hn⟩ : ∃ n, min bs.length 32 = n := ⟨_, rfl⟩
  have hmin : min (bs.length : Int) 32 = (n : Int) := by omega
  have hn1 : n ≤ bs.length := by omega
  have hn2 : n ≤ 32 := by omega
  have i1 : (0 : Int) ≤ (n : Int) := by omega
  have i2 : (n : Int) ≤ (c : Int) := by omega
  unfold maxLen at hm
  by_cases h32 : bs.length ≤ 32
  · have hn3 : bs.length = n := by omega
    go_enter Tryz.func72, Tryz.ntmps72
    go_wp2
    clear hz
    go_loopw [8] (fun i wr => ∃ (k : Nat) (l : List Int), k ≤ n ∧ i = .int .i64 k ∧ Fl l bs k ∧ wr.heap[w.heap.size]? = some (.cells (ia z16) 37 (0, 0)) ∧ wr.heap[w.heap.size + 1]? = some (.cells (ia l) 37 (0, 0)) ∧ wr.heap.size = w.heap.size + 1 + 1 ∧ Below w.heap.size w wr) (fun i _ => n - (intOf i).toNat)
    case atStart => exact ⟨0, z16, by omega, rfl, Fl.start bs, heap2_0 _ _ _, heap2_1 _ _ _, by simp, below2 _ _ _⟩
    case round =>
      obtain ⟨k, l, hk, rfl, hF, hA, hO, hS, hB⟩ := hrel
      by_cases hlt : k < n
      · obtain ⟨rfl, hb, hcells⟩ := hh (fun e => by rw [e] at hn; simp at hn; omega)
        have hcb := (Below.cell (p := ⟨b, o + k, none⟩) hB hb).trans (hcells k (by omega))
        have hcw := cell_of_row _ _ (k / 2) _ _ _ hO
        rw [ia_get _ _ (by rw [hF.len]; omega)] at hcw
        have hfro : wr.frozen? ⟨w.heap.size + 1, k / 2, none⟩ = false := frozen_of_row _ _ _ _ _ hO
        have hx := hl k
        have hy := hF.ok (k / 2)
        have hyn := hF.nil (k / 2)
        have hyl := hF.low (k / 2)
        have HA := hide hA
        have HO := hide hO
        have HF := hide hF
        have HC := hide (And.intro hl (And.intro hcells hb))
        clear hA hO hF hh hl hcells
        obtain ⟨x, hgx⟩ : ∃ x, bs.getD k 0 = x := ⟨_, rfl⟩
        obtain ⟨y, hgy⟩ : ∃ y, l.getD (k / 2) 0 = y := ⟨_, rfl⟩
        rw [hgx] at hcb hx
        rw [hgy] at hcw hy hyn hyl
        have hy2 : y ≤ 255 := hyl (by omega)
        have hy0 : k % 2 = 0 → y = 0 := fun h => hyn (by omega)
        have b0 : (0 : Int) ≤ (k : Int) := by omega
        have b1 : (k : Int) < (bs.length : Int) := by omega
        have b2 : (0 : Int) ≤ (k : Int) / 2 := by omega
        have b3 : (k : Int) / 2 < 16 := by omega
        clear hyn hyl
        rcases Nat.mod_two_eq_zero_or_one k with hpar | hpar
        · have hm2 : (k : Int) % 2 = 0 := by omega
          have hb9 : (0 : Int) ≤ (x : Int) ∧ (x : Int) ≤ 65535 := by omega
          have HE : Hid ((x : Int) = l.getD (k / 2) 0 + ((bs.getD k 0 : Nat) : Int) * 256 ^ (k % 2)) := by
            show _ = _
            rw [hgy, hgx, show k % 2 = 0 by omega]; first | omega | (simp; omega)
          clear hgx hgy
          go_wp2
          go_region
          go_wp2
          go_roundw
          case rel =>
            refine ⟨k + 1, l.set (k / 2) ((x : Int)), by omega, by go_num, HF.out.step (by omega) (by omega) (HC.out.1 k) _ HE.out, ?_, ?_, ?_, ?_⟩
            · rw [heap_drew, heap_setCell_other _ _ _ _ (by simp)]; exact HA.out
            · rw [heap_drew, heap_setCell_same _ _ _ _ _ _ HO.out, ia_set]
            · simpa [heap_drew] using hS
            · exact (hB.setCell (by simp) _).drew
          case measure => simp [intOf]; omega
        · have hm2 : (k : Int) % 2 = 1 := by omega
          have hb9 : (0 : Int) ≤ y + (x : Int) * 256 ∧ y + (x : Int) * 256 ≤ 65535 := by omega
          have HE : Hid (y + (x : Int) * 256 = l.getD (k / 2) 0 + ((bs.getD k 0 : Nat) : Int) * 256 ^ (k % 2)) := by
            show _ = _
            rw [hgy, hgx, show k % 2 = 1 by omega]; first | omega | (simp; omega)
          clear hgx hgy
          go_wp2
          go_region
          go_wp2
          go_roundw
          case rel =>
            refine ⟨k + 1, l.set (k / 2) (y + (x : Int) * 256), by omega, by go_num, HF.out.step (by omega) (by omega) (HC.out.1 k) _ HE.out, ?_, ?_, ?_, ?_⟩
            · rw [heap_drew, heap_setCell_other _ _ _ _ (by simp)]; exact HA.out
            · rw [heap_drew, heap_setCell_same _ _ _ _ _ _ HO.out, ia_set]
            · simpa [heap_drew] using hS
            · exact (hB.setCell (by simp) _).drew
          case measure => simp [intOf]; omega
      · have hF32 : Fl l bs 32 := by
          have hkn : bs.take k = bs.take 32 := by
            by_cases h : bs.length ≤ 32
            · rw [List.take_of_length_le (by omega), List.take_of_length_le h]
            · rw [show k = 32 by omega]
          exact ⟨hF.len, hF.ok, fun j hj => hF.nil j (by omega), fun j hj => hF.low j (by omega), by rw [← hkn]; exact hF.val⟩
        have HR := hide hF32.rep
        have hw : (ia l).size = 16 := by rw [ia_size, hF.len]
        clear hF hF32 hh hl
        go_wp2_with (first | (refine wpList_load_row rfl 37 (.tmp 3) rfl (w.heap.size + 1) rfl 37 (ia l) (0,0) (.array 16 2) hO undN rfl (by rw [hw]; exact sizeN) ?_) | (refine wpList_store_row rfl 37 (.tmp 2) (.tmp 28) rfl w.heap.size (ia l) rfl rfl 37 (ia z16) hA (by rw [hw]; exact sizeN) (by rw [hw]; rfl) (ia_one _) ?_))
        exact bodyPost_ret_by (results_cell_row rfl _ _ w.heap.size 37 (ia l) (0, 0) (.array 16 2) rfl (setRow_heap _ _ _ _ _ _ hA) undN rfl (by rw [hw]; exact sizeN)) rfl ⟨_, rfl, HR.out, Below.setRow hB _ _ (Nat.le_refl _)⟩
  · have hn3 : n = 32 := by omega
    go_enter Tryz.func72, Tryz.ntmps72
    go_wp2
    clear hz
    go_loopw [8] (fun i wr => ∃ (k : Nat) (l : List Int), k ≤ n ∧ i = .int .i64 k ∧ Fl l bs k ∧ wr.heap[w.heap.size]? = some (.cells (ia z16) 37 (0, 0)) ∧ wr.heap[w.heap.size + 1]? = some (.cells (ia l) 37 (0, 0)) ∧ wr.heap.size = w.heap.size + 1 + 1 ∧ Below w.heap.size w wr) (fun i _ => n - (intOf i).toNat)
    case atStart => exact ⟨0, z16, by omega, rfl, Fl.start bs, heap2_0 _ _ _, heap2_1 _ _ _, by simp, below2 _ _ _⟩
    case round =>
      obtain ⟨k, l, hk, rfl, hF, hA, hO, hS, hB⟩ := hrel
      by_cases hlt : k < n
      · obtain ⟨rfl, hb, hcells⟩ := hh (fun e => by rw [e] at hn; simp at hn; omega)
        have hcb := (Below.cell (p := ⟨b, o + k, none⟩) hB hb).trans (hcells k (by omega))
        have hcw := cell_of_row _ _ (k / 2) _ _ _ hO
        rw [ia_get _ _ (by rw [hF.len]; omega)] at hcw
        have hfro : wr.frozen? ⟨w.heap.size + 1, k / 2, none⟩ = false := frozen_of_row _ _ _ _ _ hO
        have hx := hl k
        have hy := hF.ok (k / 2)
        have hyn := hF.nil (k / 2)
        have hyl := hF.low (k / 2)
        have HA := hide hA
        have HO := hide hO
        have HF := hide hF
        have HC := hide (And.intro hl (And.intro hcells hb))
        clear hA hO hF hh hl hcells
        obtain ⟨x, hgx⟩ : ∃ x, bs.getD k 0 = x := ⟨_, rfl⟩
        obtain ⟨y, hgy⟩ : ∃ y, l.getD (k / 2) 0 = y := ⟨_, rfl⟩
        rw [hgx] at hcb hx
        rw [hgy] at hcw hy hyn hyl
        have hy2 : y ≤ 255 := hyl (by omega)
        have hy0 : k % 2 = 0 → y = 0 := fun h => hyn (by omega)
        have b0 : (0 : Int) ≤ (k : Int) := by omega
        have b1 : (k : Int) < (32 : Int) := by omega
        have b2 : (0 : Int) ≤ (k : Int) / 2 := by omega
        have b3 : (k : Int) / 2 < 16 := by omega
        clear hyn hyl
        rcases Nat.mod_two_eq_zero_or_one k with hpar | hpar
        · have hm2 : (k : Int) % 2 = 0 := by omega
          have hb9 : (0 : Int) ≤ (x : Int) ∧ (x : Int) ≤ 65535 := by omega
          have HE : Hid ((x : Int) = l.getD (k / 2) 0 + ((bs.getD k 0 : Nat) : Int) * 256 ^ (k % 2)) := by
            show _ = _
            rw [hgy, hgx, show k % 2 = 0 by omega]; first | omega | (simp; omega)
          clear hgx hgy
          go_wp2
          go_region
          go_wp2
          go_roundw
          case rel =>
            refine ⟨k + 1, l.set (k / 2) ((x : Int)), by omega, by go_num, HF.out.step (by omega) (by omega) (HC.out.1 k) _ HE.out, ?_, ?_, ?_, ?_⟩
            · rw [heap_drew, heap_setCell_other _ _ _ _ (by simp)]; exact HA.out
            · rw [heap_drew, heap_setCell_same _ _ _ _ _ _ HO.out, ia_set]
            · simpa [heap_drew] using hS
            · exact (hB.setCell (by simp) _).drew
          case measure => simp [intOf]; omega
        · have hm2 : (k : Int) % 2 = 1 := by omega
          have hb9 : (0 : Int) ≤ y + (x : Int) * 256 ∧ y + (x : Int) * 256 ≤ 65535 := by omega
          have HE : Hid (y + (x : Int) * 256 = l.getD (k / 2) 0 + ((bs.getD k 0 : Nat) : Int) * 256 ^ (k % 2)) := by
            show _ = _
            rw [hgy, hgx, show k % 2 = 1 by omega]; first | omega | (simp; omega)
          clear hgx hgy
          go_wp2
          go_region
          go_wp2
          go_roundw
          case rel =>
            refine ⟨k + 1, l.set (k / 2) (y + (x : Int) * 256), by omega, by go_num, HF.out.step (by omega) (by omega) (HC.out.1 k) _ HE.out, ?_, ?_, ?_, ?_⟩
            · rw [heap_drew, heap_setCell_other _ _ _ _ (by simp)]; exact HA.out
            · rw [heap_drew, heap_setCell_same _ _ _ _ _ _ HO.out, ia_set]
            · simpa [heap_drew] using hS
            · exact (hB.setCell (by simp) _).drew
          case measure => simp [intOf]; omega
      · have hF32 : Fl l bs 32 := by
          have hkn : bs.take k = bs.take 32 := by
            by_cases h : bs.length ≤ 32
            · rw [List.take_of_length_le (by omega), List.take_of_length_le h]
            · rw [show k = 32 by omega]
          exact ⟨hF.len, hF.ok, fun j hj => hF.nil j (by omega), fun j hj => hF.low j (by omega), by rw [← hkn]; exact hF.val⟩
        have HR := hide hF32.rep
        have hw : (ia l).size = 16 := by rw [ia_size, hF.len]
        clear hF hF32 hh hl
        go_wp2_with (first | (refine wpList_load_row rfl 37 (.tmp 3) rfl (w.heap.size + 1) rfl 37 (ia l) (0,0) (.array 16 2) hO undN rfl (by rw [hw]; exact sizeN) ?_) | (refine wpList_store_row rfl 37 (.tmp 2) (.tmp 28) rfl w.heap.size (ia l) rfl rfl 37 (ia z16) hA (by rw [hw]; exact sizeN) (by rw [hw]; rfl) (ia_one _) ?_))
        exact bodyPost_ret_by (results_cell_row rfl _ _ w.heap.size 37 (ia l) (0, 0) (.array 16 2) rfl (setRow_heap _ _ _ _ _ _ hA) undN rfl (by rw [hw]; exact sizeN)) rfl ⟨_, rfl, HR.out, Below.setRow hB _ _ (Nat.le_refl _)⟩
end Go.Proofs.YtobgimpkkjaolaaGreatDoor
/- The page's own powers by the bits of an exponent, and its own one by a number, as its calls answer, in any world. -/
namespace Go.Proofs.YtobgimpkkjaolaaGreatDoor
open Go.RowKit
def bex : List Bool → Nat
  | [] => 0
  | b :: t => 2 * bex t + b.toNat
def bv (l : List Bool) : Array Value := (l.map Value.bool).toArray
theorem bv_size (l : List Bool) : (bv l).size = l.length := by simp [bv]
theorem bv_get (l : List Bool) (k : Nat) (h : k < l.length) : (bv l)[k]? = some (.bool (l.getD k false)) := by
  simp [bv, List.getD_eq_getElem?_getD, h]
theorem bv_set (l : List Bool) (k : Nat) (b : Bool) : (bv l).setIfInBounds k (.bool b) = bv (l.set k b) := by
  simp [bv, List.map_set]
theorem bex_drop (l : List Bool) (k : Nat) (h : k < l.length) : bex (l.drop k) = 2 * bex (l.drop (k + 1)) + (l.getD k false).toNat := by
  rw [List.drop_eq_getElem_cons h, bex, List.getD_eq_getElem?_getD, List.getElem?_eq_getElem h]; rfl
theorem undB : Tryz.prog.underlying 100 = some (.array 255 4) := by kernel_rfl
theorem sizeB : (Tryz.prog.info? 100).map (·.size) = some 255 := by kernel_rfl
set_option maxRecDepth 100000 in
set_option maxHeartbeats 2000000 in
theorem rpower_any (a : List Int) (x : Nat) (ha : Rep a x) (bs : List Bool) (hbl : bs.length = 255) (w : World) :
    Calls Tryz.prog 79 #[.agg (ia a), .agg (bv bs)] w fun e w' => ∃ c, e = .returned (.agg (ia c)) ∧ Rep c (pw x (bex bs)) ∧ Below w.heap.size w w' := by
  have hz := zeroN
  have HS : Hid (∀ W : World, Calls Tryz.prog 45 #[.int .u32 1] W fun e w' => e = .returned (.agg (ia (smr 1))) ∧ Below W.heap.size W w') := rsmall_any 1 (by decide)
  have HR1 : Hid (Rep (smr 1) (pw x (bex (bs.drop 255)))) := by
    show Rep _ _
    rw [List.drop_of_length_le (by omega), show pw x (bex []) = 1 from by unfold pw bex; rw [Nat.pow_zero]; rfl]
    exact smr_rep 1 (by decide)
  have hw1 : (ia (smr 1)).size = 16 := rfl
  have HA := hide ha
  generalize smr 1 = s1 at *
  clear ha
  go_enter Tryz.func79, Tryz.ntmps79
  go_wp2_with fail
  refine (HS.out _).mono ?_
  rintro e w1 ⟨rfl, hb1⟩
  have hA1 := Below.heap hb1 (g := w.heap.size) (by simp; omega) (heap3_0 _ _ _ _)
  have hT1 := Below.heap hb1 (g := w.heap.size + 1) (by simp) (heap_alloc_mid3 _ _ _ _)
  have hO1 := Below.heap hb1 (g := w.heap.size + 1 + 1) (by simp) (heap_alloc_last3 _ _ _ _)
  have hB1 := (below3 _ _ _ _).trans (hb1.mono (by simp; omega))
  have hs1 : w.heap.size + 1 + 1 + 1 ≤ w1.heap.size := by have := hb1.size; simpa using this
  have HW1 := hide (And.intro hA1 (And.intro hT1 (And.intro hO1 hB1)))
  clear hb1 hA1 hT1 hO1 hB1 HS
  go_wp2_with (refine wpList_store_row rfl 37 (.tmp 5) (.tmp 7) rfl w1.heap.size (ia s1) rfl rfl 37 (ia z16) (heap_alloc_last _ _) (by rw [hw1]; exact sizeN) (by rw [hw1]; rfl) (ia_one _) ?_)
  obtain ⟨hA1, hT1, hO1, hB1⟩ := HW1.out
  have hX2 := setRow_heap _ _ _ (ia s1) _ _ (heap_alloc_last w1 (.cells (ia z16) 37))
  have hA2 := (setRow_other (w1.alloc (.cells (ia z16) 37)) w1.heap.size w.heap.size (ia s1) (by omega)).trans ((Below.heap_alloc _ _ _ (by omega)).trans hA1)
  have hT2 := (setRow_other (w1.alloc (.cells (ia z16) 37)) w1.heap.size (w.heap.size + 1) (ia s1) (by omega)).trans ((Below.heap_alloc _ _ _ (by omega)).trans hT1)
  have hO2 := (setRow_other (w1.alloc (.cells (ia z16) 37)) w1.heap.size (w.heap.size + 1 + 1) (ia s1) (by omega)).trans ((Below.heap_alloc _ _ _ (by omega)).trans hO1)
  have hB2 := Below.setRow (hB1.alloc (by omega) (.cells (ia z16) 37)) w1.heap.size (ia s1) (by omega)
  have hsz : ((w1.alloc (.cells (ia z16) 37)).setRow w1.heap.size (ia s1)).heap.size = w1.heap.size + 1 := by simp
  clear hA1 hT1 hO1 hB1 HW1 hz
  generalize (w1.alloc (.cells (ia z16) 37)).setRow w1.heap.size (ia s1) = W2 at *
  generalize w1.heap.size = P at *
  go_loopw [6] (fun i wr => ∃ (k : Nat) (c : List Int), k ≤ 255 ∧ i = .int .i64 ((k : Int) - 1) ∧ Rep c (pw x (bex (bs.drop k))) ∧ wr.heap[P]? = some (.cells (ia c) 37 (0, 0)) ∧ wr.heap[w.heap.size]? = some (.cells (ia a) 37 (0, 0)) ∧ wr.heap[w.heap.size + 1]? = some (.cells (bv bs) 100 (0, 0)) ∧ wr.heap[w.heap.size + 1 + 1]? = some (.cells (ia z16) 37 (0, 0)) ∧ P < wr.heap.size ∧ Below w.heap.size w wr) (fun i _ => (intOf i + 1).toNat)
  case atStart => exact ⟨255, s1, Nat.le_refl _, rfl, HR1.out, hX2, hA2, hT2, hO2, by omega, hB2⟩
  case round =>
    clear hX2 hA2 hT2 hO2 hB2 hsz HR1 hw1
    obtain ⟨k, c, hk, hi, hrep, hX, hA, hT, hO, hP, hB⟩ := hrel
    have hc16 : (ia c).size = 16 := by rw [ia_size, hrep.len]
    by_cases h0 : 0 < k
    · obtain ⟨j, rfl⟩ : ∃ j, k = j + 1 := ⟨k - 1, by omega⟩
      rw [show (((j + 1 : Nat) : Int) - 1) = (j : Int) by omega] at hi
      subst hi
      have hj : j < 255 := by omega
      have hdec : decide ((0 : Int) ≤ (j : Int)) = true := decide_eq_true (by omega)
      have b0 : (0 : Int) ≤ (j : Int) := by omega
      have b1 : (j : Int) < 255 := by omega
      have hdr := bex_drop bs j (by omega)
      have hbit := bv_get bs j (by omega)
      obtain ⟨b, hb⟩ : ∃ b, bs.getD j false = b := ⟨_, rfl⟩
      rw [hb] at hdr hbit
      have HD : Hid (pw x (bex (bs.drop j)) = if b then pw x (bex (bs.drop (j + 1))) * pw x (bex (bs.drop (j + 1))) % pp * x % pp else pw x (bex (bs.drop (j + 1))) * pw x (bex (bs.drop (j + 1))) % pp) := by
        show _ = _
        rw [hdr]
        cases b
        · exact pw_even _ _
        · exact pw_odd _ _
      obtain ⟨y, hy⟩ : ∃ y, pw x (bex (bs.drop (j + 1))) = y := ⟨_, rfl⟩
      have HRY : Hid (Rep c y) := by rw [← hy]; exact hrep
      have HDY : Hid (pw x (bex (bs.drop j)) = if b then y * y % pp * x % pp else y * y % pp) := by have := HD.out; rw [hy] at this; exact this
      have HM := hide (rmul_any c c y y HRY.out HRY.out)
      have HW := hide (And.intro hA (And.intro hT hO))
      clear hrep hdr hy HD hb hk h0 hA hT hO
      go_wp2_with (first | (refine wpList_load_row rfl 37 (.tmp 5) rfl P rfl 37 (ia c) (0,0) (.array 16 2) hX undN rfl (by rw [hc16]; exact sizeN) ?_) | fail)
      refine (HM.out _).mono ?_
      rintro e w2 ⟨d, rfl, hd, hb2⟩
      obtain ⟨hA, hT, hO⟩ := HW.out
      have hP2 : P < w2.heap.size := Nat.lt_of_lt_of_le hP hb2.size
      have hX2 := Below.heap hb2 hP hX
      have hA2 := Below.heap hb2 (by omega) hA
      have hT2 := Below.heap hb2 (by omega) hT
      have hO2 := Below.heap hb2 (by omega) hO
      have hB2 := hB.trans (hb2.mono (hB.size))
      have hA3 := (setRow_other w2 P w.heap.size (ia d) (by omega)).trans hA2
      have hT3 := (setRow_other w2 P (w.heap.size + 1) (ia d) (by omega)).trans hT2
      have hO3 := (setRow_other w2 P (w.heap.size + 1 + 1) (ia d) (by omega)).trans hO2
      have hX3 := setRow_heap _ _ _ (ia d) _ _ hX2
      have hB3 := Below.setRow hB2 P (ia d) (by omega)
      have hs3 : P < (w2.setRow P (ia d)).heap.size := by simpa using hP2
      have cb : (w2.setRow P (ia d)).cell? ⟨w.heap.size + 1, j, none⟩ = some (.bool b) := by rw [cell_of_row _ _ _ _ _ _ hT3, hbit]
      have hd16 : (ia d).size = 16 := by rw [ia_size, hd.len]
      have HRD := hide hd
      have HW3 := hide (And.intro hT3 (And.intro hO3 hB3))
      clear hA hT hO hX hA2 hT2 hO2 hB2 hB hb2 HW HM hT3 hO3 hB3 hd
      cases b
      · go_wp2_with (refine wpList_store_row rfl 37 (.tmp 5) (.tmp 14) rfl P (ia d) rfl rfl 37 (ia c) hX2 (by rw [hd16]; exact sizeN) (by rw [hd16, hc16]) (ia_one _) ?_)
        obtain ⟨hT3, hO3, hB3⟩ := HW3.out
        refine ⟨⟨j, d, by omega, rfl, by rw [HDY.out]; exact HRD.out, hX3, hA3, hT3, hO3, hs3, hB3⟩, by simp [intOf]⟩
      · have HM := hide (rmul_any d a (y * y % pp) x HRD.out HA.out)
        have ha16 : (ia a).size = 16 := by rw [ia_size, HA.out.len]
        go_wp2_with (first | (refine wpList_store_row rfl 37 (.tmp 5) (.tmp 14) rfl P (ia d) rfl rfl 37 (ia c) hX2 (by rw [hd16]; exact sizeN) (by rw [hd16, hc16]) (ia_one _) ?_) | (refine wpList_load_row rfl 37 (.tmp 5) rfl P rfl 37 (ia d) (0,0) (.array 16 2) hX3 undN rfl (by rw [hd16]; exact sizeN) ?_) | (refine wpList_load_row rfl 37 (.tmp 2) rfl w.heap.size rfl 37 (ia a) (0,0) (.array 16 2) hA3 undN rfl (by rw [ha16]; exact sizeN) ?_) | fail)
        refine (HM.out _).mono ?_
        rintro e w4 ⟨f, rfl, hf, hb4⟩
        obtain ⟨hT3, hO3, hB3⟩ := HW3.out
        have hX4 := Below.heap hb4 hs3 hX3
        have hA4 := Below.heap hb4 (by omega) hA3
        have hT4 := Below.heap hb4 (by omega) hT3
        have hO4 := Below.heap hb4 (by omega) hO3
        have hB4 := hB3.trans (hb4.mono (hB3.size))
        have hs4 : P < w4.heap.size := Nat.lt_of_lt_of_le hs3 hb4.size
        have hf16 : (ia f).size = 16 := by rw [ia_size, hf.len]
        clear hT3 hO3 hB3 hb4 hX3 hA3 hX2 HW3 cb
        go_wp2_with (refine wpList_store_row rfl 37 (.tmp 5) (.tmp 20) rfl P (ia f) rfl rfl 37 (ia d) hX4 (by rw [hf16]; exact sizeN) (by rw [hf16, hd16]) (ia_one _) ?_)
        refine ⟨⟨j, f, by omega, rfl, by rw [HDY.out]; exact hf, setRow_heap _ _ _ _ _ _ hX4, (setRow_other _ _ _ _ (by omega)).trans hA4, (setRow_other _ _ _ _ (by omega)).trans hT4, (setRow_other _ _ _ _ (by omega)).trans hO4, by simpa using hs4, Below.setRow hB4 _ _ (by omega)⟩, by simp [intOf]⟩
    · obtain rfl : k = 0 := by omega
      rw [show (((0 : Nat) : Int) - 1) = -1 by rfl] at hi
      subst hi
      rw [List.drop_zero] at hrep
      go_wp2_with (first | (refine wpList_load_row rfl 37 (.tmp 5) rfl P rfl 37 (ia c) (0,0) (.array 16 2) hX undN rfl (by rw [hc16]; exact sizeN) ?_) | (refine wpList_store_row rfl 37 (.tmp 4) (.tmp 21) rfl (w.heap.size + 1 + 1) (ia c) rfl rfl 37 (ia z16) hO (by rw [hc16]; exact sizeN) (by rw [hc16]; rfl) (ia_one _) ?_))
      exact bodyPost_ret_by (results_cell_row rfl _ _ (w.heap.size + 1 + 1) 37 (ia c) (0, 0) (.array 16 2) rfl (setRow_heap _ _ _ _ _ _ hO) undN rfl (by rw [hc16]; exact sizeN)) rfl ⟨_, rfl, hrep, Below.setRow hB _ _ (by omega)⟩
end Go.Proofs.YtobgimpkkjaolaaGreatDoor
/- The page's own one by a number, as its call answers it, in any world. -/
namespace Go.Proofs.YtobgimpkkjaolaaGreatDoor
open Go.RowKit
def bl : Nat → List Bool
  | 0 => List.replicate 255 false
  | k + 1 => (bl k).set k (k != 2 && k != 4)
theorem bl_len : ∀ k, (bl k).length = 255
  | 0 => List.length_replicate
  | k + 1 => by rw [bl, List.length_set, bl_len k]
theorem bl_ex : bex (bl 255) = ex := by decide +kernel
theorem zeroB (w : World) : (zeroValue 100).run Tryz.prog w = .ok (.agg (bv (bl 0))) w := by kernel_rfl
set_option maxRecDepth 100000 in
set_option maxHeartbeats 2000000 in
theorem rinv_any (a : List Int) (x : Nat) (ha : Rep a x) (w : World) :
    Calls Tryz.prog 40 #[.agg (ia a)] w fun e w' => ∃ c, e = .returned (.agg (ia c)) ∧ Rep c (pw x ex) ∧ Below w.heap.size w w' := by
  have hz := zeroN
  have hzb := zeroB
  have HP := hide (rpower_any a x ha (bl 255) (bl_len 255))
  rw [bl_ex] at HP
  generalize hE : pw x ex = E at *
  have ha16 : (ia a).size = 16 := by rw [ia_size, ha.len]
  have HB : Hid (∀ k, bl (k + 1) = (bl k).set k (k != 2 && k != 4)) := fun _ => rfl
  have HL := hide bl_len
  clear ha hE
  generalize bl = B at *
  go_enter Tryz.func40, Tryz.ntmps40
  go_wp2
  clear hz hzb
  go_loopw [5] (fun i wr => ∃ k : Nat, k ≤ 255 ∧ i = .int .i64 k ∧ wr.heap[w.heap.size + 1 + 1]? = some (.cells (bv (B k)) 100 (0, 0)) ∧ wr.heap[w.heap.size]? = some (.cells (ia a) 37 (0, 0)) ∧ wr.heap[w.heap.size + 1]? = some (.cells (ia z16) 37 (0, 0)) ∧ wr.heap.size = w.heap.size + 1 + 1 + 1 ∧ Below w.heap.size w wr) (fun i _ => 255 - (intOf i).toNat)
  case atStart => exact ⟨0, by omega, rfl, heap_alloc_last3 _ _ _ _, heap3_0 _ _ _ _, heap_alloc_mid3 _ _ _ _, by simp, below3 _ _ _ _⟩
  case round =>
    obtain ⟨k, hk, rfl, hT, hA, hO, hS, hBe⟩ := hrel
    by_cases hlt : k < 255
    · have hfro : wr.frozen? ⟨w.heap.size + 1 + 1, k, none⟩ = false := frozen_of_row _ _ _ _ _ hT
      have hcell := cell_of_row _ _ k _ _ _ hT
      rw [bv_get _ _ (by rw [HL.out]; exact hlt)] at hcell
      have HW := hide (And.intro hT (And.intro hA hO))
      have b0 : (0 : Int) ≤ (k : Int) := by omega
      have b1 : (k : Int) < 255 := by omega
      have dk : decide ((k : Int) < 255) = true := decide_eq_true b1
      obtain ⟨q, hq⟩ : ∃ q, (B k).getD k false = q := ⟨_, rfl⟩
      rw [hq] at hcell
      clear hT hA hO hq
      by_cases e2 : k = 2
      · subst e2
        clear dk b0 b1 hlt hk
        go_wp2
        obtain ⟨hT, hA, hO⟩ := HW.out
        refine ⟨⟨3, by omega, rfl, by rw [show B 3 = (B 2).set 2 false from HB.out 2, heap_setCell_same _ _ _ _ _ _ hT, bv_set], (heap_setCell_other _ _ _ _ (by simp; omega)).trans hA, (heap_setCell_other _ _ _ _ (by simp)).trans hO, by simpa using hS, hBe.setCell (by simp; omega) _⟩, by simp [intOf]⟩
      · have d2 : ((k : Int) == 2) = false := by simp; omega
        have d2' : decide ((k : Int) = 2) = false := decide_eq_false (by omega)
        by_cases e4 : k = 4
        · subst e4
          clear d2 d2' e2
          clear dk b0 b1 hlt hk
          go_wp2
          obtain ⟨hT, hA, hO⟩ := HW.out
          refine ⟨⟨5, by omega, rfl, by rw [show B 5 = (B 4).set 4 false from HB.out 4, heap_setCell_same _ _ _ _ _ _ hT, bv_set], (heap_setCell_other _ _ _ _ (by simp; omega)).trans hA, (heap_setCell_other _ _ _ _ (by simp)).trans hO, by simpa using hS, hBe.setCell (by simp; omega) _⟩, by simp [intOf]⟩
        · have d4 : ((k : Int) == 4) = false := by simp; omega
          have d4' : decide ((k : Int) = 4) = false := decide_eq_false (by omega)
          have HV : Hid ((k != 2 && k != 4) = true) := by show _ = _; simp [e2, e4]
          have n2 : ¬ ((k : Int) = 2) := by omega
          have n4 : ¬ ((k : Int) = 4) := by omega
          clear e2 e4
          go_wp2
          obtain ⟨hT, hA, hO⟩ := HW.out
          refine ⟨⟨k + 1, by omega, by go_num, by rw [HB.out, HV.out, heap_setCell_same _ _ _ _ _ _ hT, bv_set, show ((k : Int) != 2 && (k : Int) != 4) = true by simp [n2, n4]], (heap_setCell_other _ _ _ _ (by simp; omega)).trans hA, (heap_setCell_other _ _ _ _ (by simp)).trans hO, by simpa using hS, hBe.setCell (by simp; omega) _⟩, by simp [intOf]; omega⟩
    · have hk5 : k = 255 := by omega
      rw [hk5] at hT
      have hb55 : (bv (B 255)).size = 255 := by rw [bv_size, HL.out]
      have dk : decide ((k : Int) < 255) = false := decide_eq_false (by omega)
      clear hk5 hlt hk
      go_wp2_with (first | (refine wpList_load_row rfl 37 (.tmp 1) rfl w.heap.size rfl 37 (ia a) (0,0) (.array 16 2) hA undN rfl (by rw [ha16]; exact sizeN) ?_) | (refine wpList_load_row rfl 100 (.tmp 3) rfl (w.heap.size + 1 + 1) rfl 100 (bv (B 255)) (0,0) (.array 255 4) hT undB rfl (by rw [hb55]; exact sizeB) ?_) | fail)
      refine (HP.out _).mono ?_
      rintro e w2 ⟨c, rfl, hc, hb2⟩
      have hO2 := Below.heap hb2 (by omega) hO
      have hB2 := hBe.trans (hb2.mono hBe.size)
      have hc16 : (ia c).size = 16 := by rw [ia_size, hc.len]
      clear hT hA hO hb2 hBe
      go_wp2_with (refine wpList_store_row rfl 37 (.tmp 2) (.tmp 19) rfl (w.heap.size + 1) (ia c) rfl rfl 37 (ia z16) hO2 (by rw [hc16]; exact sizeN) (by rw [hc16]; rfl) (ia_one _) ?_)
      exact bodyPost_ret_by (results_cell_row rfl _ _ (w.heap.size + 1) 37 (ia c) (0, 0) (.array 16 2) rfl (setRow_heap _ _ _ _ _ _ hO2) undN rfl (by rw [hc16]; exact sizeN)) rfl ⟨_, rfl, hc, Below.setRow hB2 _ _ (by omega)⟩
end Go.Proofs.YtobgimpkkjaolaaGreatDoor
/- Two numbers' bytes as strings, which are the same if the numbers are: the page's own comparison, and the law's, as their calls answer, in any world. -/
namespace Go.Proofs.YtobgimpkkjaolaaGreatDoor
open Go.RowKit
def nms (x : Nat) : List Int := (List.range 32).map fun i => ((byt x i : Nat) : Int)
def sx (x : Nat) : ByteArray := strOfNums (nms x)
theorem nms_get (x i : Nat) (hi : i < 32) : (nms x).getD i 0 = ((byt x i : Nat) : Int) := by
  unfold nms
  rw [List.getD_eq_getElem?_getD, List.getElem?_map, List.getElem?_range hi]
  rfl
theorem digits_same : ∀ (n x y : Nat), (∀ i, i < n → byt x i = byt y i) → x % 256 ^ n = y % 256 ^ n
  | 0, x, y, _ => by rw [Nat.pow_zero, Nat.mod_one, Nat.mod_one]
  | n + 1, x, y, h => by
    have ih := digits_same n x y (fun i hi => h i (by omega))
    have h1 := h n (by omega)
    unfold byt at h1
    rw [Nat.pow_succ, Nat.mod_mul, Nat.mod_mul, ih, h1]
theorem sx_inj {x y : Nat} (hx : x < pp) (hy : y < pp) (h : (sx x).toList = (sx y).toList) : x = y := by
  have h1 : (nms x).map (fun n => UInt8.ofNat n.toNat) = (nms y).map (fun n => UInt8.ofNat n.toNat) := by
    rw [ByteArray.toList_eq, ByteArray.toList_eq] at h
    exact h
  have h2 : ∀ i, i < 32 → byt x i = byt y i := fun i hi => by
    have h3 := congrArg (fun l => l[i]?) h1
    simp only [nms, List.getElem?_map, List.getElem?_range hi, Option.map_some, Option.some.injEq] at h3
    have h4 := congrArg UInt8.toNat h3
    simp only [Int.toNat_natCast, UInt8.toNat_ofNat'] at h4
    have h5 : byt x i < 256 := Nat.mod_lt _ (by decide)
    have h6 : byt y i < 256 := Nat.mod_lt _ (by decide)
    rw [Nat.mod_eq_of_lt h5, Nat.mod_eq_of_lt h6] at h4
    exact h4
  have h7 := digits_same 32 x y h2
  unfold pp at hx hy
  rw [Nat.mod_eq_of_lt (Nat.lt_trans hx (by decide)), Nat.mod_eq_of_lt (Nat.lt_trans hy (by decide))] at h7
  exact h7
theorem sx_dec {x y : Nat} (hx : x < pp) (hy : y < pp) : ((sx x).toList == (sx y).toList) = decide (x = y) := by
  rw [Bool.eq_iff_iff]
  simp only [beq_iff_eq, decide_eq_true_eq]
  exact ⟨sx_inj hx hy, fun h => by rw [h]⟩
theorem run_sx {w : World} {g x cap : Nat} (h : ∀ i, i < 32 → w.cell? ⟨g, i, none⟩ = some (.int .u8 ((byt x i : Nat) : Int))) (w' : World) (hw : w.grownBy w' none) : (convert 22 9 (.slice (some ⟨g, 0, none⟩) 32 cap)).run Tryz.prog w' = .ok (.string (sx x)) w' :=
  run_convert_bytes_arg (P := Tryz.prog) w' 22 5 Tryz.underlying22 Tryz.underlying5 g 0 32 cap (nms x) (by simp [nms]) (fun i hi => by
    rw [Nat.zero_add, nms_get x i hi]
    exact hw.cell (h i hi) (by simp)) 9 Tryz.underlying9
theorem run_load_row {o : Oper} {a : Act} {W w' : World} (ty : TypeId) (x : Operand) (ho : o.op = .load ty x) (g : Nat) (hx : a.eval x = .pointer (some ⟨g, 0, none⟩)) (t : TypeId) (cs : Array Value) (hlt : g < W.heap.size) (hg : W.heap[g]? = some (.cells cs t (0, 0)))
    (hv : ∀ w' : World, w'.heap[g]? = some (.cells cs t (0, 0)) → (loadVar ty ⟨g, 0, none⟩).run Tryz.prog w' = .ok (.agg cs) w') (hw : W.grownBy w' none) : (execOp a.eval o).run Tryz.prog w' = .ok (.value (.agg cs)) w' := by
  have h1 := hv w' ((hw.block g hlt (by simp)).trans hg)
  unfold execOp
  simp only [ho, hx, Instr.loadAt, Instr.sureAddr, Sem.run_bind, Sem.run_pure, Result.andThen_ok, h1]
set_option maxRecDepth 100000 in
set_option maxHeartbeats 2000000 in
theorem rsame_any (l : List Int) (x : Nat) (hl : Rep l x) (m : List Int) (y : Nat) (hm : Rep m y) (w : World) :
    Calls Tryz.prog 77 #[.agg (ia l), .agg (ia m)] w fun e w' => e = .returned (.bool (decide (x = y))) ∧ Below w.heap.size w w' := by
  have hx := hl.lt
  have HC1 : Hid (∀ W : World, Calls Tryz.prog 41 #[.agg (ia l)] W fun e w' => ∃ g cap, e = .returned (.slice (some ⟨g, 0, none⟩) 32 cap) ∧ g < w'.heap.size ∧ (∀ i, i < 32 → w'.cell? ⟨g, i, none⟩ = some (.int .u8 ((byt x i : Nat) : Int))) ∧ Below W.heap.size W w') := fun W => (rbytes_any l x hl W).mono (by
    rintro e w' ⟨g, cap, rfl, hg, _, _, hr, hb⟩
    exact ⟨g, cap, rfl, hg, hr, hb⟩)
  have hA : (Tryz.prog.info? 37).map (·.size) = some (ia l).size := by rw [ia_size, hl.len]; exact sizeN
  have HC2 := hide (rbytes_any m y hm)
  have hM : (Tryz.prog.info? 37).map (·.size) = some (ia m).size := by rw [ia_size, hm.len]; exact sizeN
  have HD := hide (sx_dec hx hm.lt)
  generalize hAA : ia l = A at *
  generalize ia m = M at *
  clear hAA
  go_enter Tryz.func77, Tryz.ntmps77
  go_wp2
  have r0 : ((w.alloc (.cells A 37)).alloc (.cells M 37)).drew.heap[w.heap.size]? = some (.cells A 37 (0, 0)) := heap2_0 _ _ _
  have r1 : ((w.alloc (.cells A 37)).alloc (.cells M 37)).drew.heap[w.heap.size + 1]? = some (.cells M 37 (0, 0)) := heap2_1 _ _ _
  have hsz : ((w.alloc (.cells A 37)).alloc (.cells M 37)).drew.heap.size = w.heap.size + 1 + 1 := by simp [heap_drew]
  have HB : Hid (Below w.heap.size w ((w.alloc (.cells A 37)).alloc (.cells M 37)).drew) := (below2 _ _ _).drew
  refine wp_region_ext (by kernel_rfl) ?_
  generalize ((w.alloc (.cells A 37)).alloc (.cells M 37)).drew = w0 at *
  refine wpE_take (i := 0) (v := .agg A) rfl (by kernel_rfl) (by kernel_rfl) (by kernel_rfl) (fun _ _ _ h => h) rfl (fun w' hw' => run_load_row 37 (.tmp 2) rfl w.heap.size rfl 37 A (by omega) r0 (fun _ h => run_loadVar_row _ _ _ _ _ _ _ h undN rfl hA) hw') ?_
  simp only [List.getElem_toArray, List.getElem_cons_zero, Act.put, List.setIfInBounds_toArray, List.set_cons_zero, List.set_cons_succ]
  refine wpE_take (i := 3) (v := .agg M) rfl (by kernel_rfl) (by kernel_rfl) (by kernel_rfl) (fun _ _ _ h => h) rfl (fun w' hw' => run_load_row 37 (.tmp 3) rfl (w.heap.size + 1) rfl 37 M (by omega) r1 (fun _ h => run_loadVar_row _ _ _ _ _ _ _ h undN rfl hM) hw') ?_
  simp only [List.getElem_toArray, List.getElem_cons_zero, List.getElem_cons_succ, Act.put, List.setIfInBounds_toArray, List.set_cons_zero, List.set_cons_succ]
  refine wpE_call (i := 1) (f := 41) (vals := #[.agg A]) (by kernel_rfl) rfl rfl (by go_simp) (HC1.out w0) ?_
  rintro e w1 ⟨g1, c1, rfl, hg1, hr1, hb1⟩
  refine ⟨_, rfl, hb1, ?_⟩
  simp only [List.getElem_toArray, List.getElem_cons_zero, List.getElem_cons_succ, Act.put, List.setIfInBounds_toArray, List.set_cons_zero, List.set_cons_succ]
  refine wpE_take (i := 2) (v := .string (sx x)) rfl (by kernel_rfl) (by kernel_rfl) (by kernel_rfl) (fun _ _ _ h => h) rfl (fun w' hw' => run_op_convert rfl rfl (run_sx hr1 w' hw')) ?_
  simp only [List.getElem_toArray, List.getElem_cons_zero, List.getElem_cons_succ, Act.put, List.setIfInBounds_toArray, List.set_cons_zero, List.set_cons_succ]
  refine wpE_call (i := 4) (f := 41) (vals := #[.agg M]) (by kernel_rfl) rfl rfl (by go_simp) (HC2.out w1) ?_
  rintro e w2 ⟨g2, c2, rfl, hg2, _, _, hr2, hb2⟩
  refine ⟨_, rfl, hb2, ?_⟩
  simp only [List.getElem_toArray, List.getElem_cons_zero, List.getElem_cons_succ, Act.put, List.setIfInBounds_toArray, List.set_cons_zero, List.set_cons_succ]
  refine wpE_take (i := 5) (v := .string (sx y)) rfl (by kernel_rfl) (by kernel_rfl) (by kernel_rfl) (fun _ _ _ h => h) rfl (fun w' hw' => run_op_convert rfl rfl (run_sx hr2 w' hw')) ?_
  simp only [List.getElem_toArray, List.getElem_cons_zero, List.getElem_cons_succ, Act.put, List.setIfInBounds_toArray, List.set_cons_zero, List.set_cons_succ]
  have HZ := hide (Below.chain (Below.chain HB.out hb1) hb2)
  generalize sx x = X at *
  generalize sx y = Y at *
  clear hr1 hr2 hb1 hb2 r0 r1 hsz HC1 HC2 HB
  refine wpE_take (i := 6) (v := ?va1) rfl (by kernel_rfl) (by kernel_rfl) (by kernel_rfl) (fun _ _ _ h => h) rfl ?ya1 ?ra1
  case ya1 => (intro w' hw'; go_simp; try rfl)
  simp only [List.getElem_toArray, List.getElem_cons_zero, List.getElem_cons_succ, Act.put, List.setIfInBounds_toArray, List.set_cons_zero, List.set_cons_succ]
  refine wpE_take (i := 7) (v := ?va2) rfl (by kernel_rfl) (by kernel_rfl) (by kernel_rfl) (fun _ _ _ h => h) rfl ?ya2 ?ra2
  case ya2 => (intro w' hw'; go_simp; try rfl)
  simp only [List.getElem_toArray, List.getElem_cons_zero, List.getElem_cons_succ, Act.put, List.setIfInBounds_toArray, List.set_cons_zero, List.set_cons_succ]
  refine wpE_done (by kernel_rfl) ?_
  go_wp2
  go_ret
  refine ⟨?_, HZ.out⟩
  rw [← HD.out]
  rfl
end Go.Proofs.YtobgimpkkjaolaaGreatDoor
