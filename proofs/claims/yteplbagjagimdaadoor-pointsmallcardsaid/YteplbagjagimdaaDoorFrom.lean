/- The number of some bytes, modulo p, as the program's call answers it, in any world that holds the bytes. -/
import Derived.Test.YteplbagjagimdaaDoorBytes
namespace Go.Proofs.YteplbagjagimdaaDoor
open Go.RowKit
/-- A slice of bytes in memory that was there. -/
def BsAt (w : World) (v : Value) (bs : List Nat) : Prop :=
  ∃ (b o c : Nat) (ao : Option Addr), v = .slice ao bs.length c ∧ bs.length ≤ c ∧ c ≤ maxLen ∧ (∀ i, bs.getD i 0 < 256) ∧ (bs ≠ [] → ao = some ⟨b, o, none⟩ ∧ b < w.heap.size ∧ ∀ i, i < bs.length → w.cell? ⟨b, o + i, none⟩ = some (.int .u8 ((bs.getD i 0 : Nat) : Int)))
theorem BsAt.ext {W w : World} {v : Value} {bs : List Nat} (h : BsAt W v bs) (he : Below W.heap.size W w) : BsAt w v bs := by
  obtain ⟨b, o, c, ao, e, hc, hm, hl, hh⟩ := h
  refine ⟨b, o, c, ao, e, hc, hm, hl, fun hne => ?_⟩
  obtain ⟨e1, hb, hr⟩ := hh hne
  exact ⟨e1, Nat.lt_of_lt_of_le hb he.size, fun i hi => (Below.cell (p := ⟨b, o + i, none⟩) he hb).trans (hr i hi)⟩
/-- The number of bytes, the lowest first. -/
def bval : List Nat → Nat
  | [] => 0
  | x :: t => x + 256 * bval t
theorem bval_take : ∀ (l : List Nat) (k : Nat), k < l.length → bval (l.take (k + 1)) = bval (l.take k) + 256 ^ k * l.getD k 0
  | [], k, h => absurd h (by simp)
  | x :: t, 0, _ => by simp [bval]
  | x :: t, k + 1, h => by
    have ih := bval_take t k (by simpa using h)
    rw [List.take_succ_cons, List.take_succ_cons, bval, bval, ih, List.getD_cons_succ, Nat.pow_succ, Nat.mul_add]
    rw [Nat.mul_comm (256 ^ k) 256, Nat.mul_assoc]
    omega
theorem bval_lt : ∀ {l : List Nat}, (∀ i, l.getD i 0 < 256) → ∀ k, bval (l.take k) < 256 ^ k
  | [], _, k => by simp [bval]; exact Nat.pow_pos (by decide)
  | x :: t, h, 0 => by simp [bval]
  | x :: t, h, k + 1 => by
    have ih := bval_lt (l := t) (fun i => h (i + 1)) k
    have hx := h 0
    simp only [List.getD_cons_zero] at hx
    simp only [List.take_succ_cons, bval, Nat.pow_succ]
    omega
/-- A word with a byte put into its place, where there is nothing. -/
theorem or_byte (y x s : Nat) (hy : y < 2 ^ s) (hx : x < 256) (hs : s + 8 ≤ 64) : bits .or .u64 (y : Int) (IntKind.u64.wrap ((x : Int) * 2 ^ s)) = ((y + 2 ^ s * x : Nat) : Int) := by
  have h1 : x * 2 ^ s < 18446744073709551616 := by
    have : x * 2 ^ s < 256 * 2 ^ s := (Nat.mul_lt_mul_right (Nat.two_pow_pos s)).2 hx
    have h2 : 256 * 2 ^ s ≤ 2 ^ 64 := by
      rw [show (256 : Nat) = 2 ^ 8 from rfl, ← Nat.pow_add]; exact Nat.pow_le_pow_right (by decide) (by omega)
    omega
  have h3 : 2 ^ s ≤ 2 ^ 64 := Nat.pow_le_pow_right (by decide) (by omega)
  have e : IntKind.u64.wrap ((x : Int) * 2 ^ s) = ((x * 2 ^ s : Nat) : Int) := by
    rw [show ((x : Int) * 2 ^ s) = ((x * 2 ^ s : Nat) : Int) by simp]
    exact u64_wrap _ h1
  rw [e, bits_or_u64_nat _ _ (by omega) h1, Nat.or_comm, Nat.mul_comm x, ← Nat.two_pow_add_eq_or_of_lt hy, Nat.add_comm]
theorem val_ge : ∀ (l : List Nat) (j : Nat), 18446744073709551616 ^ j * l.getD j 0 ≤ val l
  | [], j => by simp
  | x :: t, 0 => by simp [val]
  | x :: t, j + 1 => by
    have ih := val_ge t j
    rw [List.getD_cons_succ, val, Nat.pow_succ, Nat.mul_comm (18446744073709551616 ^ j), Nat.mul_assoc]
    omega
theorem word_small {l : List Nat} {s j : Nat} (_ : s + 8 ≤ 64) (h : val l < 18446744073709551616 ^ j * 2 ^ s) : l.getD j 0 < 2 ^ s := by
  have h1 := val_ge l j
  exact Nat.lt_of_mul_lt_mul_left (Nat.lt_of_le_of_lt h1 h)
theorem word_pow (k : Nat) : (18446744073709551616 : Nat) ^ (k / 8) * 2 ^ (k % 8 * 8) = 256 ^ k := by
  rw [show (18446744073709551616 : Nat) = 2 ^ 64 from rfl, show (256 : Nat) = 2 ^ 8 from rfl, ← Nat.pow_mul, ← Nat.pow_mul, ← Nat.pow_add]
  congr 1; omega
theorem word_fits {y x s : Nat} (hy : y < 2 ^ s) (hx : x < 256) (hs : s + 8 ≤ 64) : y + 2 ^ s * x < 18446744073709551616 := by
  have h1 : y + 2 ^ s * x < 2 ^ s * 256 := by
    have : 2 ^ s * x + 2 ^ s ≤ 2 ^ s * 256 := by rw [← Nat.mul_succ]; exact Nat.mul_le_mul_left _ hx
    omega
  have h2 : 2 ^ s * 256 ≤ 2 ^ 64 := by
    rw [show (256 : Nat) = 2 ^ 8 from rfl, ← Nat.pow_add]; exact Nat.pow_le_pow_right (by decide) hs
  omega
set_option maxRecDepth 100000 in
set_option maxHeartbeats 1000000 in
theorem from_any (v : Value) (bs : List Nat) (hlen : bs.length ≤ 100) (w : World) (hbs : BsAt w v bs) :
    Calls Tryd.prog 65 #[v] w fun e w' => e = .returned (.agg (el (bval (bs.take 32) % pp))) ∧ Below w.heap.size w w' := by
  obtain ⟨b, o, c, ao, rfl, hc, hm, hl, hh⟩ := hbs
  obtain ⟨n, hn⟩ : ∃ n, min bs.length 32 = n := ⟨_, rfl⟩
  have hmin : min (bs.length : Int) 32 = (n : Int) := by omega
  have hn1 : n ≤ bs.length := by omega
  have hn2 : n ≤ 32 := by omega
  have i1 : (0 : Int) ≤ (n : Int) := by omega
  have i2 : (n : Int) ≤ (c : Int) := by omega
  unfold maxLen at hm
  by_cases h32 : bs.length ≤ 32
  · have hn3 : bs.length = n := by omega
    go_enter Tryd.func65, Tryd.ntmps65
    go_wp2
    go_loopw [12] (fun i wr => ∃ (k : Nat) (l : List Nat), k ≤ n ∧ i = .int .i64 k ∧ l.length = 4 ∧ lim l ∧ val l = bval (bs.take k) ∧ wr.heap[w.heap.size]? = some (.cells #[.int .u64 0, .int .u64 0, .int .u64 0, .int .u64 0] 28 (0, 0)) ∧ wr.heap[w.heap.size + 1]? = some (.cells (na l) 26 (0, 0)) ∧ wr.heap.size = w.heap.size + 1 + 1 ∧ Below w.heap.size w wr) (fun i _ => n - (intOf i).toNat)
    case atStart => exact ⟨0, [0, 0, 0, 0], by omega, rfl, rfl, lim4_mk (by decide), by simp [val, bval], heap2_0 _ _ _, heap2_1 _ _ _, by simp, below2 _ _ _⟩
    case round =>
      obtain ⟨k, l, hk, rfl, hl4, hlim, hval, hA, hO, hS, hB⟩ := hrel
      by_cases hlt : k < n
      · obtain ⟨rfl, hb, hcells⟩ := hh (fun e => by rw [e] at hn; simp at hn; omega)
        have hcb := (Below.cell (p := ⟨b, o + k, none⟩) hB hb).trans (hcells k (by omega))
        have hcw := cell_of_row _ _ (k / 8) _ _ _ hO
        rw [na_get _ _ (by omega)] at hcw
        have hfro : wr.frozen? ⟨w.heap.size + 1, k / 8, none⟩ = false := frozen_of_row _ _ _ _ _ hO
        have hx := hl k
        have hy := word_small (s := k % 8 * 8) (j := k / 8) (by omega) (show val l < 18446744073709551616 ^ (k / 8) * 2 ^ (k % 8 * 8) by rw [hval, word_pow]; exact bval_lt hl k)
        have HT := hide (bval_take bs k (by omega))
        have HA := hide hA
        have HO := hide hO
        have HV := hide hval
        have HL := hide (And.intro hl4 hlim)
        have HC := hide (And.intro hl (And.intro hcells hb))
        clear hA hO hval hlim hl4 hh hl hcells
        generalize hgx : bs.getD k 0 = x at *
        generalize hgy : l.getD (k / 8) 0 = y at *
        have HY := hide hgy
        clear hgx hgy
        have hor := or_byte y x (k % 8 * 8) hy hx (by omega)
        have hlx : y + 2 ^ (k % 8 * 8) * x < 18446744073709551616 := word_fits hy hx (by omega)
        generalize hz : y + 2 ^ (k % 8 * 8) * x = z at *
        have HZ := hide hz
        have HYY := hide hy
        clear hz hy
        have b0 : (0 : Int) ≤ (k : Int) := by omega
        have b1 : (k : Int) < (bs.length : Int) := by omega
        have b2 : (0 : Int) ≤ (k : Int) / 8 := by omega
        have b3 : (k : Int) / 8 < 4 := by omega
        go_wp2
        go_region
        go_wp2
        go_roundw
        case rel =>
          refine ⟨k + 1, l.set (k / 8) z, by omega, by go_num, by rw [List.length_set, HL.out.1], lim_set HL.out.2 _ _ hlx, ?_, ?_, ?_, ?_, ?_⟩
          · have hvs := val_set l (k / 8) z (by rw [HL.out.1]; omega)
            rw [HY.out, ← HZ.out, Nat.mul_add, ← Nat.mul_assoc, word_pow] at hvs
            rw [HT.out, ← HV.out, ← HZ.out]
            omega
          · rw [heap_drew, heap_setCell_other _ _ _ _ (by simp)]; exact HA.out
          · rw [heap_drew, heap_setCell_same _ _ _ _ _ _ HO.out, na_set]
          · simpa [heap_drew] using hS
          · exact (hB.setCell (by simp) _).drew
        case measure => simp [intOf]; omega
      · obtain ⟨x0, x1, x2, x3, rfl⟩ := four hl4
        have hkn : bs.take k = bs.take 32 := by
          by_cases h : bs.length ≤ 32
          · rw [List.take_of_length_le (by omega), List.take_of_length_le h]
          · rw [show k = 32 by omega]
        rw [na4] at hO
        obtain ⟨z1, z2⟩ := row_reads hO
        have HA := hide hA
        have HV := hide (And.intro hval hkn)
        have HL := hide (lim4 hlim)
        clear hA hO hval hlim hh hl hkn
        go_wp2_with fail
        clear z1 z2
        refine (reduce_four x0 x1 x2 x3 HL.out _).mono ?_
        rintro e w2 ⟨r', s', t', u', rfl, hr', hv2, hb2⟩
        have HB2 := hide (hB.trans (hb2.mono (by omega)))
        have HO2 := hide (Below.heap hb2 (by omega) HA.out)
        have HV2 := hide hv2
        obtain ⟨z1, z2⟩ := row_reads HO2.out
        clear hv2 hb2 hB HA
        go_wp2
        refine bodyPost_ret_by (results_cell_row rfl _ _ w.heap.size 28 _ (0, 0) _ rfl (set4_row HO2.out) Tryd.underlying28 rfl (by kernel_rfl)) rfl ⟨?_, Below.set4 HB2.out (Nat.le_refl _) _ _ _ _⟩
        rw [el_close hr' HV2.out, ← ppv, HV.out.1, HV.out.2]
  · have hn3 : n = 32 := by omega
    go_enter Tryd.func65, Tryd.ntmps65
    go_wp2
    go_loopw [12] (fun i wr => ∃ (k : Nat) (l : List Nat), k ≤ n ∧ i = .int .i64 k ∧ l.length = 4 ∧ lim l ∧ val l = bval (bs.take k) ∧ wr.heap[w.heap.size]? = some (.cells #[.int .u64 0, .int .u64 0, .int .u64 0, .int .u64 0] 28 (0, 0)) ∧ wr.heap[w.heap.size + 1]? = some (.cells (na l) 26 (0, 0)) ∧ wr.heap.size = w.heap.size + 1 + 1 ∧ Below w.heap.size w wr) (fun i _ => n - (intOf i).toNat)
    case atStart => exact ⟨0, [0, 0, 0, 0], by omega, rfl, rfl, lim4_mk (by decide), by simp [val, bval], heap2_0 _ _ _, heap2_1 _ _ _, by simp, below2 _ _ _⟩
    case round =>
      obtain ⟨k, l, hk, rfl, hl4, hlim, hval, hA, hO, hS, hB⟩ := hrel
      by_cases hlt : k < n
      · obtain ⟨rfl, hb, hcells⟩ := hh (fun e => by rw [e] at hn; simp at hn; omega)
        have hcb := (Below.cell (p := ⟨b, o + k, none⟩) hB hb).trans (hcells k (by omega))
        have hcw := cell_of_row _ _ (k / 8) _ _ _ hO
        rw [na_get _ _ (by omega)] at hcw
        have hfro : wr.frozen? ⟨w.heap.size + 1, k / 8, none⟩ = false := frozen_of_row _ _ _ _ _ hO
        have hx := hl k
        have hy := word_small (s := k % 8 * 8) (j := k / 8) (by omega) (show val l < 18446744073709551616 ^ (k / 8) * 2 ^ (k % 8 * 8) by rw [hval, word_pow]; exact bval_lt hl k)
        have HT := hide (bval_take bs k (by omega))
        have HA := hide hA
        have HO := hide hO
        have HV := hide hval
        have HL := hide (And.intro hl4 hlim)
        have HC := hide (And.intro hl (And.intro hcells hb))
        clear hA hO hval hlim hl4 hh hl hcells
        generalize hgx : bs.getD k 0 = x at *
        generalize hgy : l.getD (k / 8) 0 = y at *
        have HY := hide hgy
        clear hgx hgy
        have hor := or_byte y x (k % 8 * 8) hy hx (by omega)
        have hlx : y + 2 ^ (k % 8 * 8) * x < 18446744073709551616 := word_fits hy hx (by omega)
        generalize hz : y + 2 ^ (k % 8 * 8) * x = z at *
        have HZ := hide hz
        have HYY := hide hy
        clear hz hy
        have b0 : (0 : Int) ≤ (k : Int) := by omega
        have b1 : (k : Int) < (32 : Int) := by omega
        have b2 : (0 : Int) ≤ (k : Int) / 8 := by omega
        have b3 : (k : Int) / 8 < 4 := by omega
        go_wp2
        go_region
        go_wp2
        go_roundw
        case rel =>
          refine ⟨k + 1, l.set (k / 8) z, by omega, by go_num, by rw [List.length_set, HL.out.1], lim_set HL.out.2 _ _ hlx, ?_, ?_, ?_, ?_, ?_⟩
          · have hvs := val_set l (k / 8) z (by rw [HL.out.1]; omega)
            rw [HY.out, ← HZ.out, Nat.mul_add, ← Nat.mul_assoc, word_pow] at hvs
            rw [HT.out, ← HV.out, ← HZ.out]
            omega
          · rw [heap_drew, heap_setCell_other _ _ _ _ (by simp)]; exact HA.out
          · rw [heap_drew, heap_setCell_same _ _ _ _ _ _ HO.out, na_set]
          · simpa [heap_drew] using hS
          · exact (hB.setCell (by simp) _).drew
        case measure => simp [intOf]; omega
      · obtain ⟨x0, x1, x2, x3, rfl⟩ := four hl4
        have hkn : bs.take k = bs.take 32 := by
          by_cases h : bs.length ≤ 32
          · rw [List.take_of_length_le (by omega), List.take_of_length_le h]
          · rw [show k = 32 by omega]
        rw [na4] at hO
        obtain ⟨z1, z2⟩ := row_reads hO
        have HA := hide hA
        have HV := hide (And.intro hval hkn)
        have HL := hide (lim4 hlim)
        clear hA hO hval hlim hh hl hkn
        go_wp2_with fail
        clear z1 z2
        refine (reduce_four x0 x1 x2 x3 HL.out _).mono ?_
        rintro e w2 ⟨r', s', t', u', rfl, hr', hv2, hb2⟩
        have HB2 := hide (hB.trans (hb2.mono (by omega)))
        have HO2 := hide (Below.heap hb2 (by omega) HA.out)
        have HV2 := hide hv2
        obtain ⟨z1, z2⟩ := row_reads HO2.out
        clear hv2 hb2 hB HA
        go_wp2
        refine bodyPost_ret_by (results_cell_row rfl _ _ w.heap.size 28 _ (0, 0) _ rfl (set4_row HO2.out) Tryd.underlying28 rfl (by kernel_rfl)) rfl ⟨?_, Below.set4 HB2.out (Nat.le_refl _) _ _ _ _⟩
        rw [el_close hr' HV2.out, ← ppv, HV.out.1, HV.out.2]
end Go.Proofs.YteplbagjagimdaaDoor
