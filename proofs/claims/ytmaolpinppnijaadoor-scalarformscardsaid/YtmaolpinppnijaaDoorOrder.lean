/- A number less the curve's order, as the program's call answers it, in any world where the order lies as the program's text lays it. -/
import Derived.Test.YtmaolpinppnijaaDoorRow
namespace Go.Proofs.YtmaolpinppnijaaDoor
open Go.RowKit
/-- The order. -/
def ll : Nat := 7237005577332262213973186563042994240857116359379907606001950938285454250989
theorem llv : ll = 7237005577332262213973186563042994240857116359379907606001950938285454250989 := rfl
theorem ll_pos : 0 < ll := by decide
theorem ll_mod (n : Nat) : n % ll < ll := Nat.mod_lt _ ll_pos
/-- The order as the program's text lays it. -/
def orw : List Nat := [6346243789798364141, 1503914060200516822, 0, 1152921504606846976]
theorem orw_lim : lim orw := lim4_mk (by decide)
theorem orw_val : val orw = ll := by decide +kernel
/-- The order lies where the program's variable is. -/
structure Laid (w : World) : Prop where
  cell : ∀ i, i < 4 → w.cell? ⟨0, i, none⟩ = some (.int .u64 ((orw.getD i 0 : Nat) : Int))
  lt : 0 < w.heap.size
theorem Laid.step {w w' : World} (h : Laid w) (k : Below w.heap.size w w') : Laid w' :=
  ⟨fun i hi => (Below.cell (p := ⟨0, i, none⟩) k h.lt).trans (h.cell i hi), Nat.lt_of_lt_of_le h.lt k.size⟩
theorem Laid.drew {w : World} (h : Laid w) : Laid w.drew := ⟨h.cell, h.lt⟩
/-- A round of a difference, into another row. -/
theorem less_step {l : List Nat} {k x y b r b' P X Y : Nat} (hk : k < l.length) (hP : 18446744073709551616 ^ k = P) (hz : l.getD k 0 = 0) (hr : r + y + b = x + 18446744073709551616 * b')
    (h : val l + Y = X + b * P) : val (l.set k r) + (Y + P * y) = (X + P * x) + b' * 18446744073709551616 ^ (k + 1) := by
  have hs := val_set l k r hk
  rw [hP, hz] at hs
  rw [Nat.pow_succ, hP]
  have e : P * r + P * y + P * b = P * x + P * (18446744073709551616 * b') := by
    rw [← Nat.mul_add, ← Nat.mul_add, hr, Nat.mul_add]
  have e1 : b' * (P * 18446744073709551616) = P * (18446744073709551616 * b') := by
    rw [Nat.mul_comm b', Nat.mul_assoc]
  rw [Nat.mul_comm b P] at h
  omega
set_option maxRecDepth 100000 in
set_option maxHeartbeats 1000000 in
theorem take_list (la : List Nat) (ha : la.length = 4) (la' : lim la) (w : World) (hL : Laid w) :
    Calls Tryd.prog 20 #[.agg (na la)] w fun e w' => ∃ (l : List Nat), e = .returned (.tuple #[.agg (na l), .bool (decide (val la < ll))]) ∧ l.length = 4 ∧ lim l ∧ val l = (if val la < ll then val la else val la - ll) ∧ Below w.heap.size w w' := by
  obtain ⟨dd, hdd⟩ : ∃ dd, decide (val la < ll) = dd := ⟨_, rfl⟩
  obtain ⟨vv, hvv⟩ : ∃ vv, (if val la < ll then val la else val la - ll) = vv := ⟨_, rfl⟩
  rw [hdd, hvv]
  have HDD := hide hdd
  have HVV := hide hvv
  clear hdd hvv
  go_enter Tryd.func20, Tryd.ntmps20
  go_wp2
  go_loopw [5, 7] (fun c i wr => ∃ (k : Nat) (l : List Nat) (cn : Nat), k ≤ 4 ∧ i = .int .i64 k ∧ c = .int .u64 (cn : Int) ∧ cn ≤ 1 ∧ l.length = 4 ∧ lim l ∧ val l + val (orw.take k) = val (la.take k) + cn * 18446744073709551616 ^ k ∧ (∀ j, k ≤ j → l.getD j 0 = 0) ∧ wr.heap[w.heap.size]? = some (.cells (na la) 35 (0,0)) ∧ wr.heap[w.heap.size + 1]? = some (.cells #[.int .u64 0, .int .u64 0, .int .u64 0, .int .u64 0] 35 (0,0)) ∧ wr.heap[w.heap.size + 1 + 1]? = some (.cells (na l) 35 (0,0)) ∧ wr.heap.size = w.heap.size + 1 + 1 + 1 ∧ Below w.heap.size w wr) (fun _ i _ => 4 - (intOf i).toNat)
  case atStart =>
    refine ⟨0, [0, 0, 0, 0], 0, by omega, rfl, rfl, by omega, rfl, lim4_mk (by decide), by simp [val], ?_, heap3_0 _ _ _ _, heap_alloc_mid3 _ _ _ _, heap_alloc_last3 _ _ _ _, by simp, below3 _ _ _ _⟩
    intro j _
    match j with
    | 0 | 1 | 2 | 3 => rfl
    | j + 4 => simp
  case round =>
    obtain ⟨k, l, cn, hk, rfl, rfl, hcn, hl, hlim, hval, hz, hra, hr0, hrow, hsz, hbel⟩ := hrel
    by_cases hlt : k < 4
    · have hcell : wr.cell? ⟨w.heap.size, k, none⟩ = some (.int .u64 ((la.getD k 0 : Nat) : Int)) := by
        rw [cell_of_row _ _ _ _ _ _ hra, na_get _ _ (by omega)]
      have hcellb : wr.cell? ⟨0, k, none⟩ = some (.int .u64 ((orw.getD k 0 : Nat) : Int)) := ((hL.step hbel).cell k hlt)
      have hfro : wr.frozen? ⟨w.heap.size + 1 + 1, k, none⟩ = false := frozen_of_row _ _ _ _ _ hrow
      have hcl : wr.cell? ⟨w.heap.size + 1 + 1, k, none⟩ = some (.int .u64 ((l.getD k 0 : Nat) : Int)) := by
        rw [cell_of_row _ _ _ _ _ _ hrow, na_get _ _ (by omega)]
      have hx := la' k
      have hy := orw_lim k
      have HR := hide hrow
      have HB := hide hra
      have H0 := hide hr0
      have HV := hide hval
      have HT := hide (val_take orw k (by simpa [orw] using hlt))
      have HT2 := hide (val_take la k (by omega))
      have HL := hide hlim
      have HLB := hide la'
      have HN := hide hl
      have HZ := hide hz
      have HLD := hide hL
      clear hrow hra hr0 hval hlim la' hl hz hL
      generalize hgx : la.getD k 0 = x at *
      generalize hgy : orw.getD k 0 = y at *
      generalize hgz : l.getD k 0 = z at *
      have HX := hide hgx
      have HY := hide hgy
      clear hgx hgy hgz
      have ha1 := sub64_nat x y cn hcn
      have HS := hide (sub_word x y cn hx hy hcn)
      generalize hq : (if x < y + cn then 1 else 0 : Nat) = q at *
      generalize hr : (x + 18446744073709551616 - y - cn) % 18446744073709551616 = r at *
      have hq1 : q ≤ 1 := by rw [← hq]; split <;> omega
      have hr1 : r < 18446744073709551616 := by rw [← hr]; exact Nat.mod_lt _ (by decide)
      clear hq hr
      have b0 : (0 : Int) ≤ (k : Int) := by omega
      have b1 : (k : Int) < 4 := by omega
      go_wp2
      go_region
      go_wp2
      go_roundw
      case rel =>
        refine ⟨k + 1, l.set k r, q, by omega, by go_num, rfl, hq1, by rw [List.length_set, HN.out], lim_set HL.out _ _ hr1, ?_, ?_, ?_, ?_, ?_, ?_, ?_⟩
        · rw [HT.out, HT2.out]
          exact less_step (by rw [HN.out]; omega) rfl (HZ.out k (Nat.le_refl _)) HS.out HV.out
        · intro j hj
          rw [getD_set_ne' (by omega), HZ.out j (by omega)]
        · rw [heap_drew, heap_setCell_other _ _ _ _ (by simp; omega)]; exact HB.out
        · rw [heap_drew, heap_setCell_other _ _ _ _ (by simp)]; exact H0.out
        · rw [heap_drew, heap_setCell_same _ _ _ _ _ _ HR.out, na_set]
        · simpa [heap_drew] using hsz
        · exact (hbel.setCell (by simp; omega) _).drew
      case measure => simp [intOf]; omega
    · obtain ⟨x0, x1, x2, x3, rfl⟩ := four hl
      obtain ⟨y0, y1, y2, y3, rfl⟩ := four ha
      have hk4 : k = 4 := by omega
      rw [hk4, List.take_of_length_le (show orw.length ≤ 4 from Nat.le_refl _), List.take_of_length_le (show [y0, y1, y2, y3].length ≤ 4 from Nat.le_refl _), orw_val] at hval
      have hb1 := val_lt hlim
      have hb2 := val_lt la'
      rw [na4] at hrow hra
      simp only [List.length_cons, List.length_nil, Nat.reduceAdd] at hb1 hb2
      have HV : Hid (val [x0, x1, x2, x3] + ll = val [y0, y1, y2, y3] + cn * 115792089237316195423570985008687907853269984665640564039457584007913129639936) := hval
      have HL := hide hlim
      have HLA := hide la'
      obtain ⟨ra, rfa⟩ := row_reads hra
      obtain ⟨rl, rfl'⟩ := row_reads hrow
      obtain ⟨r0, rf0⟩ := row_reads hr0
      have H0 := hide hr0
      have HB1 : Hid (val [x0, x1, x2, x3] < 115792089237316195423570985008687907853269984665640564039457584007913129639936) := hb1
      have HB2 : Hid (val [y0, y1, y2, y3] < 115792089237316195423570985008687907853269984665640564039457584007913129639936) := hb2
      clear hval hlim hb1 hb2 la' hra hrow hz hL hr0
      have hcc : cn = 0 ∨ cn = 1 := by omega
      rcases hcc with rfl | rfl
      · have hd : dd = false := by rw [← HDD.out]; exact decide_eq_false (by have := HV.out; have := HB1.out; omega)
        have hnot : ¬ val [y0, y1, y2, y3] < ll := by have := HV.out; omega
        have HE : Hid (val [x0, x1, x2, x3] = vv) := by have h := HVV.out; rw [if_neg hnot] at h; show _ = _; have := HV.out; omega
        subst hd
        clear hnot
        go_wp2
        refine bodyPost_ret (v := .tuple #[.agg (na [x0, x1, x2, x3]), .bool false]) (by simp [results, Tryd.results20, go_sem, na4, r0]) rfl ⟨[x0, x1, x2, x3], rfl, rfl, HL.out, HE.out, Below.set4 hbel (by omega) _ _ _ _⟩
      · have hlt1 : val [y0, y1, y2, y3] < ll := by have := HV.out; have := HB1.out; have := HB2.out; omega
        have hd : dd = true := by rw [← HDD.out]; exact decide_eq_true hlt1
        have HE : Hid (val [y0, y1, y2, y3] = vv) := by have h := HVV.out; rw [if_pos hlt1] at h; exact h
        subst hd
        clear hlt1
        go_wp2
        refine bodyPost_ret (v := .tuple #[.agg (na [y0, y1, y2, y3]), .bool true]) (by simp [results, Tryd.results20, go_sem, na4, r0]) rfl ⟨[y0, y1, y2, y3], rfl, rfl, HLA.out, HE.out, Below.set4 hbel (by omega) _ _ _ _⟩
theorem take_any (x : Nat) (hx : x < 115792089237316195423570985008687907853269984665640564039457584007913129639936) (w : World) (hL : Laid w) :
    Calls Tryd.prog 20 #[.agg (el x)] w fun e w' => e = .returned (.tuple #[.agg (el (if x < ll then x else x - ll)), .bool (decide (x < ll))]) ∧ Below w.heap.size w w' := by
  obtain ⟨a, b, c, d, he, hb, hv⟩ := el_open x hx
  rw [he, ← na4]
  refine (take_list [a, b, c, d] rfl (lim4_mk hb) w hL).mono ?_
  rintro e w' ⟨l, rfl, hl, hlim, hvl, hbel⟩
  rw [hv] at hvl ⊢
  exact ⟨by rw [el_na hl hlim hvl], hbel⟩
end Go.Proofs.YtmaolpinppnijaaDoor
