/- A number modulo the order, bit by bit, as the program's call answers it, in any world where the order lies as the program's text lays it. -/
import Derived.Test.YtmaolpinppnijaaDoorBring
namespace Go.Proofs.YtmaolpinppnijaaDoor
open Go.RowKit
theorem half (v j : Nat) : v / 2 ^ j = 2 * (v / 2 ^ (j + 1)) + v / 2 ^ j % 2 := by
  rw [Nat.pow_succ, ← Nat.div_div_eq_div_mul]; omega
theorem big_pow (n : Nat) (h : 64 * 8 = n) : (18446744073709551616 : Nat) ^ 8 = 2 ^ n := by
  subst h; rw [show (18446744073709551616 : Nat) = 2 ^ 64 from rfl, ← Nat.pow_mul]
theorem mod_bit {V b : Nat} (hb : b ≤ 1) : (if 2 * (V % ll) + b < ll then 2 * (V % ll) + b else 2 * (V % ll) + b - ll) = (2 * V + b) % ll := by
  have h := ll_mod V
  have e : (2 * V + b) % ll = (2 * (V % ll) + b) % ll := by
    rw [Nat.add_mod (2 * V), Nat.add_mod (2 * (V % ll)), Nat.mul_mod 2 V, Nat.mul_mod 2 (V % ll), Nat.mod_mod]
  rw [e]
  generalize V % ll = r at h
  split
  · rename_i h1; exact (Nat.mod_eq_of_lt h1).symm
  · rename_i h1
    rw [Nat.mod_eq_sub_mod (by omega), Nat.mod_eq_of_lt (by omega)]
set_option maxRecDepth 100000 in
set_option maxHeartbeats 2000000 in
theorem rem_list (la : List Nat) (ha : la.length = 8) (la' : lim la) (w : World) (hL : Laid w) :
    Calls Tryd.prog 24 #[.agg (na la)] w fun e w' => e = .returned (.agg (el (val la % ll))) ∧ Below w.heap.size w w' := by
  have HLE := hide (And.intro ha la')
  have LD := hide hL
  clear ha la' hL
  go_enter Tryd.func24, Tryd.ntmps24
  go_wp2
  go_loopw [4] (fun i wr => ∃ k r0 r1 r2 r3 : Nat, k ≤ 512 ∧ i = .int .i64 ((k : Int) - 1) ∧ #[.int .u64 (r0 : Int), .int .u64 (r1 : Int), .int .u64 (r2 : Int), .int .u64 (r3 : Int)] = el (val la / 2 ^ k % ll) ∧ wr.heap[w.heap.size + 1 + 1]? = some (.cells #[.int .u64 (r0 : Int), .int .u64 (r1 : Int), .int .u64 (r2 : Int), .int .u64 (r3 : Int)] 35 (0, 0)) ∧ w.heap.size + 1 + 1 < wr.heap.size ∧ At w wr [(w.heap.size + 1, #[.int .u64 0, .int .u64 0, .int .u64 0, .int .u64 0], 35), (w.heap.size, na la, 39)]) (fun i _ => (intOf i + 1).toNat)
  case atStart =>
    refine ⟨512, 0, 0, 0, 0, Nat.le_refl _, rfl, ?_, heap_alloc_last3 _ _ _ _, by simp, ?_⟩
    · have hlt := val_lt HLE.out.2
      rw [HLE.out.1] at hlt
      rw [Nat.div_eq_of_lt (Nat.lt_of_lt_of_le hlt (Nat.le_of_eq (big_pow 512 rfl))), Nat.zero_mod]
      exact el_close (by decide) (by simp [val])
    · have hA := ((At.nil (Below.refl w.heap.size w)).alloc (na la) 39).alloc #[.int .u64 0, .int .u64 0, .int .u64 0, .int .u64 0] 35
      simp only [World.size_alloc] at hA
      exact hA.step ((Below.refl _ _).alloc (Nat.le_refl _) _)
  case round =>
    obtain ⟨k, r0, r1, r2, r3, hk, rfl, hrow, hR, hlt6, hAt⟩ := hrel
    have AT := hide hAt
    have HR := hide hR
    cases k with
    | zero =>
      have hz := (hAt.rows (w.heap.size + 1) #[.int .u64 0, .int .u64 0, .int .u64 0, .int .u64 0] 35 (by simp)).1
      have HZ := hide hz
      obtain ⟨cr, cr2⟩ := row_reads hR
      obtain ⟨cz, cz2⟩ := row_reads hz
      have HROW := hide hrow
      clear hz hR hAt hrow
      go_wp2
      refine bodyPost_ret_by (results_cell_row rfl _ _ (w.heap.size + 1) 35 _ (0, 0) _ rfl (set4_row HZ.out) Tryd.underlying35 rfl (by kernel_rfl)) rfl ⟨?_, Below.set4 AT.out.below (by omega) _ _ _ _⟩
      rw [HROW.out, Nat.pow_zero, Nat.div_one]
    | succ j =>
      rw [show (((j + 1 : Nat) : Int) - 1) = (j : Int) by omega]
      have hpd : val la / 2 ^ (j + 1) % ll < ll := ll_mod _
      obtain ⟨y, hy⟩ : ∃ y, la.getD (j / 64) 0 = y := ⟨_, rfl⟩
      have hyl : y < 18446744073709551616 := by rw [← hy]; exact HLE.out.2 _
      obtain ⟨bit, hbb⟩ : ∃ bit, y / 2 ^ (j % 64) % 2 = bit := ⟨_, rfl⟩
      have hbit : bits BinOp.and IntKind.u64 ((y : Int) / 2 ^ (j % 64)) 1 = (bit : Int) := by
        have h := and_one (y / 2 ^ (j % 64)) (Nat.lt_of_le_of_lt (Nat.div_le_self _ _) hyl)
        rw [hbb] at h
        rw [← h]; simp
      have hval : val la / 2 ^ j % 2 = bit := by
        rw [← bit_word la HLE.out.2 j, hy, hbb]
      have hb1 : bit ≤ 1 := by omega
      have HPW : Hid ((if 2 * (val la / 2 ^ (j + 1) % ll) + bit < ll then 2 * (val la / 2 ^ (j + 1) % ll) + bit else 2 * (val la / 2 ^ (j + 1) % ll) + bit - ll) = val la / 2 ^ j % ll) := by
        show _ = _
        rw [mod_bit hb1, ← hval, ← half]
      have hbr := bring_any (val la / 2 ^ (j + 1) % ll) bit hb1 hpd
      rw [← hrow] at hbr
      have htk := take_any (2 * (val la / 2 ^ (j + 1) % ll) + bit) (by have h : val la / 2 ^ (j + 1) % ll < 7237005577332262213973186563042994240857116359379907606001950938285454250989 := hpd; omega)
      rw [HPW.out] at htk
      obtain ⟨t0, t1, t2, t3, ht⟩ : ∃ a b c d : Nat, el (2 * (val la / 2 ^ (j + 1) % ll) + bit) = #[.int .u64 (a : Int), .int .u64 (b : Int), .int .u64 (c : Int), .int .u64 (d : Int)] := ⟨_, _, _, _, rfl⟩
      obtain ⟨q0, q1, q2, q3, hq⟩ : ∃ a b c d : Nat, el (val la / 2 ^ j % ll) = #[.int .u64 (a : Int), .int .u64 (b : Int), .int .u64 (c : Int), .int .u64 (d : Int)] := ⟨_, _, _, _, rfl⟩
      rw [ht] at hbr htk
      rw [hq] at htk
      generalize decide (2 * (val la / 2 ^ (j + 1) % ll) + bit < ll) = dd at htk
      have HBR := hide hbr
      have HTK := hide htk
      have HQ := hide hq
      have cw : wr.cell? ⟨w.heap.size, j / 64, none⟩ = some (.int .u64 (y : Int)) := by
        rw [hAt.rd (p := w.heap.size) (T := 39) (A := na la) (by simp), na_get _ _ (by rw [HLE.out.1]; omega), hy]
      obtain ⟨cr, cr2⟩ := row_reads hR
      have j0 : (0 : Int) ≤ (j : Int) := by omega
      have j1 : (0 : Int) ≤ (j : Int) / 64 := by omega
      have j2 : (j : Int) / 64 < 8 := by omega
      have hd : decide ((0 : Int) ≤ (j : Int)) = true := decide_eq_true j0
      clear hAt hR hq hy hbb hval hyl hbr htk ht hpd HPW hrow
      go_wp2_with fail
      refine (HBR.out _).mono ?_
      rintro e w5 ⟨rfl, b5⟩
      go_wp2_with fail
      refine (HTK.out _ ((LD.out.step AT.out.below).step b5)).mono ?_
      rintro e w6 ⟨rfl, b6⟩
      obtain ⟨z1, z2⟩ := row_reads (Below.heap b6 (Nat.lt_of_lt_of_le hlt6 b5.size) (Below.heap b5 hlt6 HR.out))
      have R6 := hide (Below.heap b6 (Nat.lt_of_lt_of_le hlt6 b5.size) (Below.heap b5 hlt6 HR.out))
      have T6 := hide ((AT.out.step b5).step b6)
      have hlt5 : w.heap.size + 1 + 1 < w6.heap.size := Nat.lt_of_lt_of_le (Nat.lt_of_lt_of_le hlt6 b5.size) b6.size
      clear cw cr cr2 b5 b6 HBR HTK
      go_wp2
      go_roundw
      case rel =>
        refine ⟨j, q0, q1, q2, q3, by omega, rfl, HQ.out.symm, set4_row R6.out, by simpa using hlt5, T6.out.set4 (by omega) ?_ _ _ _ _⟩
        intro p A T hm
        simp only [List.mem_cons, Prod.mk.injEq, List.not_mem_nil, or_false] at hm
        rcases hm with ⟨rfl, _⟩ | ⟨rfl, _⟩ <;> omega
      case measure => simp [intOf]
theorem rem_any (x : Nat) (hx : x < 18446744073709551616 ^ 8) (w : World) (hL : Laid w) :
    Calls Tryd.prog 24 #[.agg (el8 x)] w fun e w' => e = .returned (.agg (el (x % ll))) ∧ Below w.heap.size w w' := by
  obtain ⟨l, he, hl, hlim, hv⟩ := el8_open x hx
  rw [he, ← hv]; exact rem_list l hl hlim w hL
end Go.Proofs.YtmaolpinppnijaaDoor
