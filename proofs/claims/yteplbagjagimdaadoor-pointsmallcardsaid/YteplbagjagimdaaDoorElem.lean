/- The numbers modulo p: what each of the program's operations on them answers, in any world, for all numbers. -/
import Derived.Test.YteplbagjagimdaaDoorFold
import Derived.Test.YteplbagjagimdaaDoorFermat
namespace Go.Proofs.YteplbagjagimdaaDoor
open Go.RowKit
/-- A number's four words, as the model has them. -/
def el (n : Nat) : Array Value := #[.int .u64 ((n % 18446744073709551616 : Nat) : Int), .int .u64 ((n / 18446744073709551616 % 18446744073709551616 : Nat) : Int), .int .u64 ((n / 340282366920938463463374607431768211456 % 18446744073709551616 : Nat) : Int), .int .u64 ((n / 6277101735386680763835789423207666416102355444464034512896 % 18446744073709551616 : Nat) : Int)]
theorem el_open (x : Nat) (hx : x < pp) : ∃ a b c d : Nat, el x = #[.int .u64 (a : Int), .int .u64 (b : Int), .int .u64 (c : Int), .int .u64 (d : Int)] ∧ (a < 18446744073709551616 ∧ b < 18446744073709551616 ∧ c < 18446744073709551616 ∧ d < 18446744073709551616) ∧ val [a, b, c, d] = x := by
  refine ⟨_, _, _, _, rfl, ?_, ?_⟩
  · omega
  · rw [val4]; unfold pp at hx; omega
theorem el_close {a b c d x : Nat} (h : a < 18446744073709551616 ∧ b < 18446744073709551616 ∧ c < 18446744073709551616 ∧ d < 18446744073709551616) (hv : val [a, b, c, d] = x) : #[.int .u64 (a : Int), .int .u64 (b : Int), .int .u64 (c : Int), .int .u64 (d : Int)] = el x := by
  rw [val4] at hv
  have e1 : x % 18446744073709551616 = a := by omega
  have e2 : x / 18446744073709551616 % 18446744073709551616 = b := by omega
  have e3 : x / 340282366920938463463374607431768211456 % 18446744073709551616 = c := by omega
  have e4 : x / 6277101735386680763835789423207666416102355444464034512896 % 18446744073709551616 = d := by omega
  unfold el
  rw [e1, e2, e3, e4]
theorem ppv : pp = 57896044618658097711785492504343953926634992332820282019728792003956564819949 := rfl
theorem pp_pos : 0 < pp := by decide
theorem heap3_0 (w : World) (a b c : Obj) : (((w.alloc a).alloc b).alloc c).heap[w.heap.size]? = some a := by
  rw [Below.heap_alloc _ _ _ (by simp; omega)]; exact heap2_0 _ _ _
theorem fromPrime_four (a b c d : Nat) (h : a < 18446744073709551616 ∧ b < 18446744073709551616 ∧ c < 18446744073709551616 ∧ d < 18446744073709551616) (hle : val [a, b, c, d] ≤ pp) (w : World) :
    Calls Tryd.prog 74 #[.agg #[.int .u64 (a : Int), .int .u64 (b : Int), .int .u64 (c : Int), .int .u64 (d : Int)]] w fun e w' =>
      ∃ r s t u : Nat, e = .returned (.agg #[.int .u64 (r : Int), .int .u64 (s : Int), .int .u64 (t : Int), .int .u64 (u : Int)]) ∧ (r < 18446744073709551616 ∧ s < 18446744073709551616 ∧ t < 18446744073709551616 ∧ u < 18446744073709551616) ∧
        val [r, s, t, u] + val [a, b, c, d] = pp ∧ Below w.heap.size w w' := by
  refine (fromPrime_list [a, b, c, d] rfl (lim4_mk h) hle w).mono ?_
  rintro e w' ⟨l, rfl, hl, hlim, hv, hb⟩
  obtain ⟨r, s, t, u, rfl⟩ := four hl
  exact ⟨r, s, t, u, rfl, lim4 hlim, hv, hb⟩
theorem times_four (a b c d a' b' c' d' : Nat) (h : a < 18446744073709551616 ∧ b < 18446744073709551616 ∧ c < 18446744073709551616 ∧ d < 18446744073709551616) (h' : a' < 18446744073709551616 ∧ b' < 18446744073709551616 ∧ c' < 18446744073709551616 ∧ d' < 18446744073709551616) (w : World) :
    Calls Tryd.prog 78 #[.agg #[.int .u64 (a : Int), .int .u64 (b : Int), .int .u64 (c : Int), .int .u64 (d : Int)], .agg #[.int .u64 (a' : Int), .int .u64 (b' : Int), .int .u64 (c' : Int), .int .u64 (d' : Int)]] w fun e w' =>
      ∃ l : List Nat, e = .returned (.agg (na l)) ∧ l.length = 8 ∧ lim l ∧ val l = val [a, b, c, d] * val [a', b', c', d'] ∧ Below w.heap.size w w' :=
  multiply_list [a, b, c, d] [a', b', c', d'] rfl rfl (lim4_mk h) (lim4_mk h') w
theorem fold_four (l : List Nat) (hl : l.length = 8) (hlim : lim l) (w : World) :
    Calls Tryd.prog 77 #[.agg (na l)] w fun e w' =>
      ∃ r s t u : Nat, e = .returned (.agg #[.int .u64 (r : Int), .int .u64 (s : Int), .int .u64 (t : Int), .int .u64 (u : Int)]) ∧ (r < 18446744073709551616 ∧ s < 18446744073709551616 ∧ t < 18446744073709551616 ∧ u < 18446744073709551616) ∧
        val [r, s, t, u] = val l % pp ∧ Below w.heap.size w w' := by
  refine (fold_list l hl hlim w).mono ?_
  rintro e w' ⟨l, rfl, hl, hlim, hv, hb⟩
  obtain ⟨r, s, t, u, rfl⟩ := four hl
  exact ⟨r, s, t, u, rfl, lim4 hlim, hv, hb⟩
set_option maxRecDepth 100000 in
set_option maxHeartbeats 1000000 in
theorem neg_any (x : Nat) (hx : x < pp) (w : World) :
    Calls Tryd.prog 53 #[.agg (el x)] w fun e w' => e = .returned (.agg (el ((pp - x) % pp))) ∧ Below w.heap.size w w' := by
  obtain ⟨a, b, c, d, he, hb, hv⟩ := el_open x hx
  rw [he]
  have HV := hide hv
  have HX := hide hx
  clear hv hx he
  go_enter Tryd.func53, Tryd.ntmps53
  go_wp2_with fail
  refine (fromPrime_four a b c d hb (by rw [HV.out]; exact Nat.le_of_lt HX.out) _).mono ?_
  rintro e w1 ⟨r, s, t, u, rfl, hr, hv1, hb1⟩
  have HB1 := hide ((below2 _ _ _).trans (hb1.mono (by simp; omega)))
  have HO1 := hide (Below.heap hb1 (g := w.heap.size + 1) (by simp) (heap2_1 _ _ _))
  have hz1 : w.heap.size + 1 < w1.heap.size := by have := hb1.size; simp at this; omega
  have HV1 := hide hv1
  clear hv1 hb1
  go_wp2_with fail
  refine (reduce_four r s t u hr _).mono ?_
  rintro e w2 ⟨r', s', t', u', rfl, hr', hv2, hb2⟩
  have HB2 := hide (HB1.out.trans (hb2.mono (by omega)))
  have HO2 := hide (Below.heap hb2 hz1 HO1.out)
  have HV2 := hide hv2
  obtain ⟨x2, y2⟩ := row_reads HO2.out
  clear hv2 hb2 HB1 HO1
  go_wp2
  refine bodyPost_ret_by (results_cell_row rfl _ _ (w.heap.size + 1) 28 _ (0, 0) _ rfl (set4_row HO2.out) Tryd.underlying28 rfl (by kernel_rfl)) rfl ⟨?_, Below.set4 HB2.out (by omega) _ _ _ _⟩
  rw [el_close hr' HV2.out, ← ppv]
  have h1 := HV1.out
  rw [HV.out] at h1
  rw [show val [r, s, t, u] = pp - x by omega]
set_option maxRecDepth 100000 in
set_option maxHeartbeats 1000000 in
theorem add_any (x y : Nat) (hx : x < pp) (hy : y < pp) (w : World) :
    Calls Tryd.prog 63 #[.agg (el x), .agg (el y)] w fun e w' => e = .returned (.agg (el ((x + y) % pp))) ∧ Below w.heap.size w w' := by
  obtain ⟨a, b, c, d, he, hb, hv⟩ := el_open x hx
  obtain ⟨a', b', c', d', he', hb', hv'⟩ := el_open y hy
  rw [he, he']
  have HV := hide (And.intro hv hv')
  have HX := hide (And.intro hx hy)
  clear hv hx he hv' hy he'
  go_enter Tryd.func63, Tryd.ntmps63
  go_wp2_with fail
  refine (add_four a b c d a' b' c' d' hb hb' _).mono ?_
  rintro e w1 ⟨r, s, t, u, k, rfl, hr, hv1, hb1⟩
  have HB1 := hide ((below3 _ _ _ _).trans (hb1.mono (by simp; omega)))
  have HO1 := hide (Below.heap hb1 (g := w.heap.size + 1 + 1) (by simp) (heap_alloc_last3 _ _ _ _))
  have hz1 : w.heap.size + 1 + 1 < w1.heap.size := by have := hb1.size; simp at this; omega
  have HV1 := hide hv1
  clear hv1 hb1
  go_wp2_with fail
  refine (reduce_four r s t u hr _).mono ?_
  rintro e w2 ⟨r', s', t', u', rfl, hr', hv2, hb2⟩
  have HB2 := hide ((HB1.out.alloc (by omega) _).trans (hb2.mono (by simp; omega)))
  have HO2 := hide (Below.heap hb2 (g := w.heap.size + 1 + 1) (by simp; omega) ((Below.heap_alloc _ _ _ hz1).trans HO1.out))
  have HV2 := hide hv2
  obtain ⟨x2, y2⟩ := row_reads HO2.out
  clear hv2 hb2 HB1 HO1
  go_wp2
  refine bodyPost_ret_by (results_cell_row rfl _ _ (w.heap.size + 1 + 1) 28 _ (0, 0) _ rfl (set4_row HO2.out) Tryd.underlying28 rfl (by kernel_rfl)) rfl ⟨?_, Below.set4 HB2.out (by omega) _ _ _ _⟩
  rw [el_close hr' HV2.out, ← ppv]
  have h1 := HV1.out
  rw [HV.out.1, HV.out.2] at h1
  have h2 := HX.out
  unfold pp at h2
  rw [show val [r, s, t, u] = x + y by omega]
set_option maxRecDepth 100000 in
set_option maxHeartbeats 1000000 in
theorem mul_any (x y : Nat) (hx : x < pp) (hy : y < pp) (w : World) :
    Calls Tryd.prog 58 #[.agg (el x), .agg (el y)] w fun e w' => e = .returned (.agg (el (x * y % pp))) ∧ Below w.heap.size w w' := by
  obtain ⟨a, b, c, d, he, hb, hv⟩ := el_open x hx
  obtain ⟨a', b', c', d', he', hb', hv'⟩ := el_open y hy
  rw [he, he']
  have HV := hide (And.intro hv hv')
  clear hv hx he hv' hy he'
  go_enter Tryd.func58, Tryd.ntmps58
  go_wp2_with fail
  refine (times_four a b c d a' b' c' d' hb hb' _).mono ?_
  rintro e w1 ⟨l, rfl, hl, hlim, hv1, hb1⟩
  have HB1 := hide ((below3 _ _ _ _).trans (hb1.mono (by simp; omega)))
  have HO1 := hide (Below.heap hb1 (g := w.heap.size + 1 + 1) (by simp) (heap_alloc_last3 _ _ _ _))
  have hz1 : w.heap.size + 1 + 1 < w1.heap.size := by have := hb1.size; simp at this; omega
  have HV1 := hide hv1
  have HL := hide (And.intro hl hlim)
  clear hv1 hb1 hl hlim
  go_wp2_with fail
  refine (fold_four l HL.out.1 HL.out.2 _).mono ?_
  rintro e w2 ⟨r', s', t', u', rfl, hr', hv2, hb2⟩
  have HB2 := hide (HB1.out.trans (hb2.mono (by omega)))
  have HO2 := hide (Below.heap hb2 hz1 HO1.out)
  have HV2 := hide hv2
  obtain ⟨x2, y2⟩ := row_reads HO2.out
  clear hv2 hb2 HB1 HO1
  go_wp2
  refine bodyPost_ret_by (results_cell_row rfl _ _ (w.heap.size + 1 + 1) 28 _ (0, 0) _ rfl (set4_row HO2.out) Tryd.underlying28 rfl (by kernel_rfl)) rfl ⟨?_, Below.set4 HB2.out (by omega) _ _ _ _⟩
  rw [el_close hr' HV2.out, HV1.out, HV.out.1, HV.out.2]
theorem eq_row (a b c d a' b' c' d' : Int) (w : World) :
    (Op.equalIn 9999 26 (.agg #[.int .u64 a, .int .u64 b, .int .u64 c, .int .u64 d]) (.agg #[.int .u64 a', .int .u64 b', .int .u64 c', .int .u64 d'])).run Tryd.prog w = .ok (decide (a = a' ∧ b = b' ∧ c = c' ∧ d = d')) w := by
  have hp : ∀ (xs : Array Value) (i : Nat) (v : Value) (w : World), xs[i]? = some v → (part 24 xs i).run Tryd.prog w = .ok v w := by
    intro xs i v w h
    have hagg : (isAgg 24).run Tryd.prog w = .ok false w := by kernel_rfl
    simp [part, hagg, h]
  have hi : ∀ (x y : Int) (w : World), (Op.equalIn 9998 24 (.int .u64 x) (.int .u64 y)).run Tryd.prog w = .ok (x == y) w := fun x y w => run_equalIn_int w 9997 24 .u64 .u64 x y Tryd.underlying24
  have hs : (Go.sizeOf 24).run Tryd.prog w = .ok 1 w := by kernel_rfl
  rw [show (9999 : Nat) = 9998 + 1 from rfl, Op.equalIn]
  rw [Sem.run_bind, run_underlying und26, Result.andThen_ok]
  simp only [Sem.run_bind, hs, Result.andThen_ok, Std.Legacy.Range.forIn_eq_forIn_range', Std.Legacy.Range.size]
  simp [List.range', hp, hi]
  by_cases h1 : a = a' <;> by_cases h2 : b = b' <;> by_cases h3 : c = c' <;> by_cases h4 : d = d' <;> simp [h1, h2, h3, h4]
set_option maxHeartbeats 1000000 in
theorem small_any (n : Nat) (hn : n < 4294967296) (w : World) :
    Calls Tryd.prog 59 #[.int .u32 (n : Int)] w fun e w' => e = .returned (.agg (el n)) ∧ Below w.heap.size w w' := by
  have hw : IntKind.u64.wrap (n : Int) = (n : Int) := u64_wrap n (by omega)
  go_enter Tryd.func59, Tryd.ntmps59
  go_wp2
  refine bodyPost_ret_by (results_cell_row rfl _ _ w.heap.size 28 _ (0, 0) _ rfl (heap_alloc_last _ _) Tryd.underlying28 rfl (by kernel_rfl)) rfl ⟨?_, (Below.refl _ _).alloc (Nat.le_refl _) _⟩
  rw [← el_close (a := n) (b := 0) (c := 0) (d := 0) (by omega) (by rw [val4]; omega)]
  rfl
theorem val_inj {a b c d a' b' c' d' : Nat} (h : a < 18446744073709551616 ∧ b < 18446744073709551616 ∧ c < 18446744073709551616 ∧ d < 18446744073709551616) (h' : a' < 18446744073709551616 ∧ b' < 18446744073709551616 ∧ c' < 18446744073709551616 ∧ d' < 18446744073709551616) :
    (((a : Int) = a' ∧ (b : Int) = b' ∧ (c : Int) = c' ∧ (d : Int) = d') ↔ val [a, b, c, d] = val [a', b', c', d']) := by
  rw [val4, val4]; omega
set_option maxHeartbeats 1000000 in
theorem same_any (x y : Nat) (hx : x < pp) (hy : y < pp) (w : World) :
    Calls Tryd.prog 54 #[.agg (el x), .agg (el y)] w fun e w' => e = .returned (.bool (decide (x = y))) ∧ Below w.heap.size w w' := by
  obtain ⟨a, b, c, d, he, hb, hv⟩ := el_open x hx
  obtain ⟨a', b', c', d', he', hb', hv'⟩ := el_open y hy
  rw [he, he']
  have hi := val_inj hb hb'
  rw [hv, hv'] at hi
  have hE : ∀ w, (Op.equalIn 9999 26 (.agg #[.int .u64 a, .int .u64 b, .int .u64 c, .int .u64 d]) (.agg #[.int .u64 a', .int .u64 b', .int .u64 c', .int .u64 d'])).run Tryd.prog w = .ok (decide (x = y)) w := fun w => by
    rw [eq_row, decide_eq_decide.2 hi]
  clear he he' hi hb hb' hv hv' hx hy
  cases hd : decide (x = y) <;> rw [hd] at hE
  all_goals
    clear hd
    go_enter Tryd.func54, Tryd.ntmps54
    go_wp2
    go_ret
    exact ⟨rfl, below2 _ _ _⟩
theorem and_one (a : Nat) (ha : a < 18446744073709551616) : bits BinOp.and IntKind.u64 (a : Int) 1 = ((a % 2 : Nat) : Int) := by
  have h := bits_and_u64_nat a 1 ha (by omega)
  have e : a &&& 1 = a % 2 := Nat.and_two_pow_sub_one_eq_mod a 1
  rw [e] at h
  exact h
set_option maxHeartbeats 1000000 in
theorem isOdd_any (x : Nat) (hx : x < pp) (w : World) :
    Calls Tryd.prog 43 #[.agg (el x)] w fun e w' => e = .returned (.bool (decide (x % 2 = 1))) ∧ Below w.heap.size w w' := by
  obtain ⟨a, b, c, d, he, hb, hv⟩ := el_open x hx
  rw [he]
  rw [val4] at hv
  have ho := and_one a hb.1
  have hp : x % 2 = a % 2 := by omega
  rw [hp]
  generalize a % 2 = q at *
  have HH := hide (And.intro hp hb)
  clear he hb hv hx hp
  go_enter Tryd.func43, Tryd.ntmps43
  go_wp2
  go_ret
  refine ⟨?_, (Below.refl _ _).alloc (Nat.le_refl _) _⟩
  show Ending.returned (.bool ((q : Int) == 1)) = _
  congr 2
  rw [Bool.eq_iff_iff]; simp; omega
end Go.Proofs.YteplbagjagimdaaDoor
