/- OpInts: the law answers true. -/
import Derived.Test.YtlfhppicglfinaaGreatOl1
import Derived.Deep.Cut
namespace Go.Proofs.YtlfhppicglfinaaGreat
open Go.RowKit
theorem rest_spec (x y : Int) (hy : y ≠ 0) : ∃ M R : Int, Int.tdiv x y * y = M ∧ x - M = R ∧ R.natAbs < y.natAbs ∧ R.natAbs ≤ x.natAbs ∧ (0 ≤ x → 0 ≤ R) ∧ (x ≤ 0 → R ≤ 0) := by
  have h := Int.mul_tdiv_add_tmod x y
  rw [Int.mul_comm] at h
  have hn := Int.natAbs_tmod x y
  have hy0 : 0 < y.natAbs := by omega
  have h1 : (x.tmod y).natAbs < y.natAbs := by rw [hn]; exact Nat.mod_lt _ hy0
  have h2 : (x.tmod y).natAbs ≤ x.natAbs := by rw [hn]; exact Nat.mod_le _ _
  refine ⟨_, x.tmod y, rfl, by omega, h1, h2, fun hx => Int.tmod_nonneg y hx, fun hx => ?_⟩
  obtain ⟨z, rfl⟩ : ∃ z, x = -z := ⟨-x, by omega⟩
  rw [Int.neg_tmod]
  have := Int.tmod_nonneg (a := z) y (by omega)
  omega
theorem out_quot {x y : Int} (hx : inB x) (hy0 : y ≠ 0) (hQ : ¬ inB (Int.tdiv x y)) : x = -9223372036854775808 ∧ y = -1 := by
  by_cases hm : y = -1
  · subst hm
    rw [Int.tdiv_neg, Int.tdiv_one] at hQ
    unfold inB at *
    omega
  · exact absurd (tdiv_in hx hy0 hm) hQ
set_option maxRecDepth 100000 in
set_option maxHeartbeats 8000000 in
theorem ints_z {x : Int} (hx : inB x) : Says 4 #[.int .i64 x, .int .i64 0] (.bool true) := by
  intro w
  have HW := hide awake_any
  have H1 := n7 (y := 0) hx (by decide)
  rw [show x + 0 = x by omega, numA_in hx] at H1
  replace H1 := hide H1
  have H2 := n8 (y := 0) hx (by decide)
  rw [show x - 0 = x by omega, numA_in hx] at H2
  replace H2 := hide H2
  have H3 := n9 (y := 0) hx (by decide)
  rw [show x * 0 = 0 by omega, numA_in (z := 0) (by decide)] at H3
  replace H3 := hide H3
  have H5 := hide (n10_zero hx)
  clear hx
  go_enter Tryz.func4, Tryz.ntmps4
  have K1 := hide (((KR.nil w).add (w.heap.size) (nvC x) (by first | rfl | simp)).add (w.heap.size + 1) (nvC 0) (by first | rfl | simp))
  go_wp2_with fail
  refine (H1.out _).mono ?_
  rintro e_ w2 ⟨rfl, b_⟩
  have K2 := hide (K1.out.ext b_)
  clear b_
  have K3 := hide (K2.out.add (w2.heap.size) (nvC x) (by first | rfl | simp))
  have s_0 : (w2.alloc (.cells (nvC x) 24)).cell? ⟨w2.heap.size, 0, none⟩ = _ := K3.out.cell (p := w2.heap.size) (cs := (nvC x)) (i := 0) (.head _) rfl
  have s_1 : (w2.alloc (.cells (nvC x) 24)).cell? ⟨w2.heap.size, 1, none⟩ = _ := K3.out.cell (p := w2.heap.size) (cs := (nvC x)) (i := 1) (.head _) rfl
  have s_2 : (w2.alloc (.cells (nvC x) 24)).cell? ⟨w2.heap.size, 2, none⟩ = _ := K3.out.cell (p := w2.heap.size) (cs := (nvC x)) (i := 2) (.head _) rfl
  have s_3 : (w2.alloc (.cells (nvC x) 24)).cell? ⟨w2.heap.size, 3, none⟩ = _ := K3.out.cell (p := w2.heap.size) (cs := (nvC x)) (i := 3) (.head _) rfl
  have y_0 : (w2.alloc (.cells (nvC x) 24)).cell? ⟨w.heap.size + 1, 0, none⟩ = _ := K3.out.cell (p := w.heap.size + 1) (cs := (nvC 0)) (i := 0) (.tail _ (.head _)) rfl
  have y_1 : (w2.alloc (.cells (nvC x) 24)).cell? ⟨w.heap.size + 1, 1, none⟩ = _ := K3.out.cell (p := w.heap.size + 1) (cs := (nvC 0)) (i := 1) (.tail _ (.head _)) rfl
  have y_2 : (w2.alloc (.cells (nvC x) 24)).cell? ⟨w.heap.size + 1, 2, none⟩ = _ := K3.out.cell (p := w.heap.size + 1) (cs := (nvC 0)) (i := 2) (.tail _ (.head _)) rfl
  have y_3 : (w2.alloc (.cells (nvC x) 24)).cell? ⟨w.heap.size + 1, 3, none⟩ = _ := K3.out.cell (p := w.heap.size + 1) (cs := (nvC 0)) (i := 3) (.tail _ (.head _)) rfl
  go_wp2_with fail
  refine (H2.out _).mono ?_
  rintro e_ w4 ⟨rfl, b_⟩
  have K4 := hide (K3.out.ext b_)
  clear b_ s_0 s_1 s_2 s_3 y_0 y_1 y_2 y_3
  have K5 := hide (K4.out.add (w4.heap.size) (nvC x) (by first | rfl | simp))
  have d_1 : (w4.alloc (.cells (nvC x) 24)).cell? ⟨w4.heap.size, 1, none⟩ = _ := K5.out.cell (p := w4.heap.size) (cs := (nvC x)) (i := 1) (.head _) rfl
  have s_1 : (w4.alloc (.cells (nvC x) 24)).cell? ⟨w2.heap.size, 1, none⟩ = _ := K5.out.cell (p := w2.heap.size) (cs := (nvC x)) (i := 1) (.tail _ (.head _)) rfl
  have x_0 : (w4.alloc (.cells (nvC x) 24)).cell? ⟨w.heap.size, 0, none⟩ = _ := K5.out.cell (p := w.heap.size) (cs := (nvC x)) (i := 0) (.tail _ (.tail _ (.tail _ (.head _)))) rfl
  have x_1 : (w4.alloc (.cells (nvC x) 24)).cell? ⟨w.heap.size, 1, none⟩ = _ := K5.out.cell (p := w.heap.size) (cs := (nvC x)) (i := 1) (.tail _ (.tail _ (.tail _ (.head _)))) rfl
  have x_2 : (w4.alloc (.cells (nvC x) 24)).cell? ⟨w.heap.size, 2, none⟩ = _ := K5.out.cell (p := w.heap.size) (cs := (nvC x)) (i := 2) (.tail _ (.tail _ (.tail _ (.head _)))) rfl
  have x_3 : (w4.alloc (.cells (nvC x) 24)).cell? ⟨w.heap.size, 3, none⟩ = _ := K5.out.cell (p := w.heap.size) (cs := (nvC x)) (i := 3) (.tail _ (.tail _ (.tail _ (.head _)))) rfl
  have y_0 : (w4.alloc (.cells (nvC x) 24)).cell? ⟨w.heap.size + 1, 0, none⟩ = _ := K5.out.cell (p := w.heap.size + 1) (cs := (nvC 0)) (i := 0) (.tail _ (.tail _ (.head _))) rfl
  have y_1 : (w4.alloc (.cells (nvC x) 24)).cell? ⟨w.heap.size + 1, 1, none⟩ = _ := K5.out.cell (p := w.heap.size + 1) (cs := (nvC 0)) (i := 1) (.tail _ (.tail _ (.head _))) rfl
  have y_2 : (w4.alloc (.cells (nvC x) 24)).cell? ⟨w.heap.size + 1, 2, none⟩ = _ := K5.out.cell (p := w.heap.size + 1) (cs := (nvC 0)) (i := 2) (.tail _ (.tail _ (.head _))) rfl
  have y_3 : (w4.alloc (.cells (nvC x) 24)).cell? ⟨w.heap.size + 1, 3, none⟩ = _ := K5.out.cell (p := w.heap.size + 1) (cs := (nvC 0)) (i := 3) (.tail _ (.tail _ (.head _))) rfl
  go_wp2_with fail
  refine (H3.out _).mono ?_
  rintro e_ w6 ⟨rfl, b_⟩
  have K6 := hide (K5.out.ext b_)
  clear b_ d_1 s_1 x_0 x_1 x_2 x_3 y_0 y_1 y_2 y_3
  have K7 := hide (K6.out.add (w6.heap.size) (nvC 0) (by first | rfl | simp))
  have x_0 : (w6.alloc (.cells (nvC 0) 24)).cell? ⟨w.heap.size, 0, none⟩ = _ := K7.out.cell (p := w.heap.size) (cs := (nvC x)) (i := 0) (.tail _ (.tail _ (.tail _ (.tail _ (.head _))))) rfl
  have x_1 : (w6.alloc (.cells (nvC 0) 24)).cell? ⟨w.heap.size, 1, none⟩ = _ := K7.out.cell (p := w.heap.size) (cs := (nvC x)) (i := 1) (.tail _ (.tail _ (.tail _ (.tail _ (.head _))))) rfl
  have x_2 : (w6.alloc (.cells (nvC 0) 24)).cell? ⟨w.heap.size, 2, none⟩ = _ := K7.out.cell (p := w.heap.size) (cs := (nvC x)) (i := 2) (.tail _ (.tail _ (.tail _ (.tail _ (.head _))))) rfl
  have x_3 : (w6.alloc (.cells (nvC 0) 24)).cell? ⟨w.heap.size, 3, none⟩ = _ := K7.out.cell (p := w.heap.size) (cs := (nvC x)) (i := 3) (.tail _ (.tail _ (.tail _ (.tail _ (.head _))))) rfl
  have y_0 : (w6.alloc (.cells (nvC 0) 24)).cell? ⟨w.heap.size + 1, 0, none⟩ = _ := K7.out.cell (p := w.heap.size + 1) (cs := (nvC 0)) (i := 0) (.tail _ (.tail _ (.tail _ (.head _)))) rfl
  have y_1 : (w6.alloc (.cells (nvC 0) 24)).cell? ⟨w.heap.size + 1, 1, none⟩ = _ := K7.out.cell (p := w.heap.size + 1) (cs := (nvC 0)) (i := 1) (.tail _ (.tail _ (.tail _ (.head _)))) rfl
  have y_2 : (w6.alloc (.cells (nvC 0) 24)).cell? ⟨w.heap.size + 1, 2, none⟩ = _ := K7.out.cell (p := w.heap.size + 1) (cs := (nvC 0)) (i := 2) (.tail _ (.tail _ (.tail _ (.head _)))) rfl
  have y_3 : (w6.alloc (.cells (nvC 0) 24)).cell? ⟨w.heap.size + 1, 3, none⟩ = _ := K7.out.cell (p := w.heap.size + 1) (cs := (nvC 0)) (i := 3) (.tail _ (.tail _ (.tail _ (.head _)))) rfl
  go_wp2_with fail
  refine (H5.out _).mono ?_
  rintro e_ w8 ⟨rfl, b_⟩
  have K8 := hide (K7.out.ext b_)
  clear b_ x_0 x_1 x_2 x_3 y_0 y_1 y_2 y_3
  have K9 := hide (K8.out.add (w8.heap.size) zvC (by first | rfl | simp))
  go_wp2_with fail
  refine (HW.out _).mono ?_
  rintro e_ w10 ⟨rfl, b_⟩
  have K10 := hide (K9.out.ext b_)
  clear b_
  go_wp2
  go_ret
  exact ⟨rfl, K10.out.bel⟩
set_option maxRecDepth 100000 in
set_option maxHeartbeats 8000000 in
theorem ints_p11 {x y : Int} (hx : inB x) (hy : inB y) (h0 : 0 < y) (hS : inB (x + y)) (hP : inB (x * y)) (hQ : inB (Int.tdiv x y)) : Says 4 #[.int .i64 x, .int .i64 y] (.bool true) := by
  intro w
  have HW := hide awake_any
  have hy0 : y ≠ 0 := by omega
  have y0 : (y == 0) = false := by simpa using hy0
  have y1 : (y != 0) = true := by simpa using hy0
  have dp : decide (0 < y) = true := decide_eq_true (by omega)
  have dn : decide (y < 0) = false := decide_eq_false (by omega)
  have H1 := n7 hx hy
  rw [numA_in hS] at H1
  replace H1 := hide H1
  have H2 := n8 hS hy
  rw [show x + y - y = x by omega, numA_in hx] at H2
  obtain ⟨S, hSe⟩ : ∃ S, x + y = S := ⟨_, rfl⟩
  rw [hSe] at H1 H2
  replace H2 := hide H2
  have dS : decide (S ≤ x) = false := decide_eq_false (by omega)
  clear hSe
  have H3 := n9 hx hy
  rw [numA_in hP] at H3
  replace H3 := hide H3
  have H4 := n10 hP hy hy0
  rw [Int.mul_tdiv_cancel x hy0, numA_in hx] at H4
  obtain ⟨P, hPe⟩ : ∃ P, x * y = P := ⟨_, rfl⟩
  rw [hPe] at H3 H4
  clear hPe
  replace H4 := hide H4
  have H5 := n10 hx hy hy0
  rw [numA_in hQ] at H5
  replace H5 := hide H5
  obtain ⟨M, R, hM, hR, r1, r2, r3, r4⟩ := rest_spec x y hy0
  obtain ⟨Q, hQe⟩ : ∃ Q, Int.tdiv x y = Q := ⟨_, rfl⟩
  rw [hQe] at H5 hM
  have hxb : -9223372036854775808 ≤ x ∧ x ≤ 9223372036854775807 := hx
  have hyb : -9223372036854775808 ≤ y ∧ y ≤ 9223372036854775807 := hy
  have hMb : -9223372036854775808 ≤ M ∧ M ≤ 9223372036854775807 := by omega
  have hRb : -9223372036854775808 ≤ R ∧ R ≤ 9223372036854775807 := by omega
  have HF := hide (And.intro r1 (And.intro r2 (And.intro r3 (And.intro r4 (And.intro h0 (And.intro hxb hyb))))))
  clear hQe
  clear hx hy h0 hS hP hQ hy0 r1 r2 r3 r4 hxb hyb
  go_enter Tryz.func4, Tryz.ntmps4
  have K1 := hide (((KR.nil w).add (w.heap.size) (nvC x) (by first | rfl | simp)).add (w.heap.size + 1) (nvC y) (by first | rfl | simp))
  go_wp2_with fail
  refine (H1.out _).mono ?_
  rintro e_ w2 ⟨rfl, b_⟩
  have K2 := hide (K1.out.ext b_)
  clear b_
  have K3 := hide (K2.out.add (w2.heap.size) (nvC S) (by first | rfl | simp))
  have s_0 : (w2.alloc (.cells (nvC S) 24)).cell? ⟨w2.heap.size, 0, none⟩ = _ := K3.out.cell (p := w2.heap.size) (cs := (nvC S)) (i := 0) (.head _) rfl
  have s_1 : (w2.alloc (.cells (nvC S) 24)).cell? ⟨w2.heap.size, 1, none⟩ = _ := K3.out.cell (p := w2.heap.size) (cs := (nvC S)) (i := 1) (.head _) rfl
  have s_2 : (w2.alloc (.cells (nvC S) 24)).cell? ⟨w2.heap.size, 2, none⟩ = _ := K3.out.cell (p := w2.heap.size) (cs := (nvC S)) (i := 2) (.head _) rfl
  have s_3 : (w2.alloc (.cells (nvC S) 24)).cell? ⟨w2.heap.size, 3, none⟩ = _ := K3.out.cell (p := w2.heap.size) (cs := (nvC S)) (i := 3) (.head _) rfl
  have y_0 : (w2.alloc (.cells (nvC S) 24)).cell? ⟨w.heap.size + 1, 0, none⟩ = _ := K3.out.cell (p := w.heap.size + 1) (cs := (nvC y)) (i := 0) (.tail _ (.head _)) rfl
  have y_1 : (w2.alloc (.cells (nvC S) 24)).cell? ⟨w.heap.size + 1, 1, none⟩ = _ := K3.out.cell (p := w.heap.size + 1) (cs := (nvC y)) (i := 1) (.tail _ (.head _)) rfl
  have y_2 : (w2.alloc (.cells (nvC S) 24)).cell? ⟨w.heap.size + 1, 2, none⟩ = _ := K3.out.cell (p := w.heap.size + 1) (cs := (nvC y)) (i := 2) (.tail _ (.head _)) rfl
  have y_3 : (w2.alloc (.cells (nvC S) 24)).cell? ⟨w.heap.size + 1, 3, none⟩ = _ := K3.out.cell (p := w.heap.size + 1) (cs := (nvC y)) (i := 3) (.tail _ (.head _)) rfl
  go_wp2_with fail
  refine (H2.out _).mono ?_
  rintro e_ w4 ⟨rfl, b_⟩
  have K4 := hide (K3.out.ext b_)
  clear b_ s_0 s_1 s_2 s_3 y_0 y_1 y_2 y_3
  have K5 := hide (K4.out.add (w4.heap.size) (nvC x) (by first | rfl | simp))
  have d_1 : (w4.alloc (.cells (nvC x) 24)).cell? ⟨w4.heap.size, 1, none⟩ = _ := K5.out.cell (p := w4.heap.size) (cs := (nvC x)) (i := 1) (.head _) rfl
  have s_1 : (w4.alloc (.cells (nvC x) 24)).cell? ⟨w2.heap.size, 1, none⟩ = _ := K5.out.cell (p := w2.heap.size) (cs := (nvC S)) (i := 1) (.tail _ (.head _)) rfl
  have x_0 : (w4.alloc (.cells (nvC x) 24)).cell? ⟨w.heap.size, 0, none⟩ = _ := K5.out.cell (p := w.heap.size) (cs := (nvC x)) (i := 0) (.tail _ (.tail _ (.tail _ (.head _)))) rfl
  have x_1 : (w4.alloc (.cells (nvC x) 24)).cell? ⟨w.heap.size, 1, none⟩ = _ := K5.out.cell (p := w.heap.size) (cs := (nvC x)) (i := 1) (.tail _ (.tail _ (.tail _ (.head _)))) rfl
  have x_2 : (w4.alloc (.cells (nvC x) 24)).cell? ⟨w.heap.size, 2, none⟩ = _ := K5.out.cell (p := w.heap.size) (cs := (nvC x)) (i := 2) (.tail _ (.tail _ (.tail _ (.head _)))) rfl
  have x_3 : (w4.alloc (.cells (nvC x) 24)).cell? ⟨w.heap.size, 3, none⟩ = _ := K5.out.cell (p := w.heap.size) (cs := (nvC x)) (i := 3) (.tail _ (.tail _ (.tail _ (.head _)))) rfl
  have y_0 : (w4.alloc (.cells (nvC x) 24)).cell? ⟨w.heap.size + 1, 0, none⟩ = _ := K5.out.cell (p := w.heap.size + 1) (cs := (nvC y)) (i := 0) (.tail _ (.tail _ (.head _))) rfl
  have y_1 : (w4.alloc (.cells (nvC x) 24)).cell? ⟨w.heap.size + 1, 1, none⟩ = _ := K5.out.cell (p := w.heap.size + 1) (cs := (nvC y)) (i := 1) (.tail _ (.tail _ (.head _))) rfl
  have y_2 : (w4.alloc (.cells (nvC x) 24)).cell? ⟨w.heap.size + 1, 2, none⟩ = _ := K5.out.cell (p := w.heap.size + 1) (cs := (nvC y)) (i := 2) (.tail _ (.tail _ (.head _))) rfl
  have y_3 : (w4.alloc (.cells (nvC x) 24)).cell? ⟨w.heap.size + 1, 3, none⟩ = _ := K5.out.cell (p := w.heap.size + 1) (cs := (nvC y)) (i := 3) (.tail _ (.tail _ (.head _))) rfl
  go_wp2_with fail
  refine (H3.out _).mono ?_
  rintro e_ w6 ⟨rfl, b_⟩
  have K6 := hide (K5.out.ext b_)
  clear b_ d_1 s_1 x_0 x_1 x_2 x_3 y_0 y_1 y_2 y_3
  have K7 := hide (K6.out.add (w6.heap.size) (nvC P) (by first | rfl | simp))
  have p_0 : (w6.alloc (.cells (nvC P) 24)).cell? ⟨w6.heap.size, 0, none⟩ = _ := K7.out.cell (p := w6.heap.size) (cs := (nvC P)) (i := 0) (.head _) rfl
  have p_1 : (w6.alloc (.cells (nvC P) 24)).cell? ⟨w6.heap.size, 1, none⟩ = _ := K7.out.cell (p := w6.heap.size) (cs := (nvC P)) (i := 1) (.head _) rfl
  have p_2 : (w6.alloc (.cells (nvC P) 24)).cell? ⟨w6.heap.size, 2, none⟩ = _ := K7.out.cell (p := w6.heap.size) (cs := (nvC P)) (i := 2) (.head _) rfl
  have p_3 : (w6.alloc (.cells (nvC P) 24)).cell? ⟨w6.heap.size, 3, none⟩ = _ := K7.out.cell (p := w6.heap.size) (cs := (nvC P)) (i := 3) (.head _) rfl
  have y_0 : (w6.alloc (.cells (nvC P) 24)).cell? ⟨w.heap.size + 1, 0, none⟩ = _ := K7.out.cell (p := w.heap.size + 1) (cs := (nvC y)) (i := 0) (.tail _ (.tail _ (.tail _ (.head _)))) rfl
  have y_1 : (w6.alloc (.cells (nvC P) 24)).cell? ⟨w.heap.size + 1, 1, none⟩ = _ := K7.out.cell (p := w.heap.size + 1) (cs := (nvC y)) (i := 1) (.tail _ (.tail _ (.tail _ (.head _)))) rfl
  have y_2 : (w6.alloc (.cells (nvC P) 24)).cell? ⟨w.heap.size + 1, 2, none⟩ = _ := K7.out.cell (p := w.heap.size + 1) (cs := (nvC y)) (i := 2) (.tail _ (.tail _ (.tail _ (.head _)))) rfl
  have y_3 : (w6.alloc (.cells (nvC P) 24)).cell? ⟨w.heap.size + 1, 3, none⟩ = _ := K7.out.cell (p := w.heap.size + 1) (cs := (nvC y)) (i := 3) (.tail _ (.tail _ (.tail _ (.head _)))) rfl
  go_wp2_with fail
  refine (H4.out _).mono ?_
  rintro e_ w8 ⟨rfl, b_⟩
  have K8 := hide (K7.out.ext b_)
  clear b_ p_0 p_1 p_2 p_3 y_0 y_1 y_2 y_3
  have K9 := hide (K8.out.add (w8.heap.size) (nvC x) (by first | rfl | simp))
  have d2_1 : (w8.alloc (.cells (nvC x) 24)).cell? ⟨w8.heap.size, 1, none⟩ = _ := K9.out.cell (p := w8.heap.size) (cs := (nvC x)) (i := 1) (.head _) rfl
  have p_1 : (w8.alloc (.cells (nvC x) 24)).cell? ⟨w6.heap.size, 1, none⟩ = _ := K9.out.cell (p := w6.heap.size) (cs := (nvC P)) (i := 1) (.tail _ (.head _)) rfl
  have x_0 : (w8.alloc (.cells (nvC x) 24)).cell? ⟨w.heap.size, 0, none⟩ = _ := K9.out.cell (p := w.heap.size) (cs := (nvC x)) (i := 0) (.tail _ (.tail _ (.tail _ (.tail _ (.tail _ (.head _)))))) rfl
  have x_1 : (w8.alloc (.cells (nvC x) 24)).cell? ⟨w.heap.size, 1, none⟩ = _ := K9.out.cell (p := w.heap.size) (cs := (nvC x)) (i := 1) (.tail _ (.tail _ (.tail _ (.tail _ (.tail _ (.head _)))))) rfl
  have x_2 : (w8.alloc (.cells (nvC x) 24)).cell? ⟨w.heap.size, 2, none⟩ = _ := K9.out.cell (p := w.heap.size) (cs := (nvC x)) (i := 2) (.tail _ (.tail _ (.tail _ (.tail _ (.tail _ (.head _)))))) rfl
  have x_3 : (w8.alloc (.cells (nvC x) 24)).cell? ⟨w.heap.size, 3, none⟩ = _ := K9.out.cell (p := w.heap.size) (cs := (nvC x)) (i := 3) (.tail _ (.tail _ (.tail _ (.tail _ (.tail _ (.head _)))))) rfl
  have y_0 : (w8.alloc (.cells (nvC x) 24)).cell? ⟨w.heap.size + 1, 0, none⟩ = _ := K9.out.cell (p := w.heap.size + 1) (cs := (nvC y)) (i := 0) (.tail _ (.tail _ (.tail _ (.tail _ (.head _))))) rfl
  have y_1 : (w8.alloc (.cells (nvC x) 24)).cell? ⟨w.heap.size + 1, 1, none⟩ = _ := K9.out.cell (p := w.heap.size + 1) (cs := (nvC y)) (i := 1) (.tail _ (.tail _ (.tail _ (.tail _ (.head _))))) rfl
  have y_2 : (w8.alloc (.cells (nvC x) 24)).cell? ⟨w.heap.size + 1, 2, none⟩ = _ := K9.out.cell (p := w.heap.size + 1) (cs := (nvC y)) (i := 2) (.tail _ (.tail _ (.tail _ (.tail _ (.head _))))) rfl
  have y_3 : (w8.alloc (.cells (nvC x) 24)).cell? ⟨w.heap.size + 1, 3, none⟩ = _ := K9.out.cell (p := w.heap.size + 1) (cs := (nvC y)) (i := 3) (.tail _ (.tail _ (.tail _ (.tail _ (.head _))))) rfl
  go_wp2_with fail
  refine (H5.out _).mono ?_
  rintro e_ w10 ⟨rfl, b_⟩
  have K10 := hide (K9.out.ext b_)
  clear b_ d2_1 p_1 x_0 x_1 x_2 x_3 y_0 y_1 y_2 y_3
  have K11 := hide (K10.out.add (w10.heap.size) (nvC Q) (by first | rfl | simp))
  have q_1 : (w10.alloc (.cells (nvC Q) 24)).cell? ⟨w10.heap.size, 1, none⟩ = _ := K11.out.cell (p := w10.heap.size) (cs := (nvC Q)) (i := 1) (.head _) rfl
  obtain ⟨r1, r2, r3, r4, h0, hxb, hyb⟩ := HF.out
  have hwy : -9223372036854775808 ≤ -y ∧ -y ≤ 9223372036854775807 := by omega
  by_cases hz : R = 0
  · have a1 : decide (0 ≤ R) = true := decide_eq_true (by omega)
    have a2 : decide (R < 0) = false := decide_eq_false (by omega)
    have a3 : decide (R < y) = true := decide_eq_true (by omega)
    have a0 : (R == 0) = true := by simpa using hz
    clear hz
    clear r1 r2 r3 r4 h0 hxb hyb
    go_wp2_with fail
    refine (HW.out _).mono ?_
    rintro e_ wz ⟨rfl, b_⟩
    have KZ := hide (K11.out.ext b_)
    clear b_
    go_wp2
    go_ret
    exact ⟨rfl, KZ.out.bel⟩
  · by_cases hg : 0 < R
    · have a1 : decide (0 ≤ R) = true := decide_eq_true (by omega)
      have a2 : decide (R < 0) = false := decide_eq_false (by omega)
      have a3 : decide (R < y) = true := decide_eq_true (by omega)
      have a0 : (R == 0) = false := by simpa using hz
      have dx : decide (x < 0) = false := decide_eq_false (by omega)
      clear hz hg
      clear r1 r2 r3 r4 h0 hxb hyb
      go_wp2_with fail
      refine (HW.out _).mono ?_
      rintro e_ wz ⟨rfl, b_⟩
      have KZ := hide (K11.out.ext b_)
      clear b_
      go_wp2
      go_ret
      exact ⟨rfl, KZ.out.bel⟩
    · have a2 : decide (R < 0) = true := decide_eq_true (by omega)
      have a3 : decide (-y < R) = true := decide_eq_true (by omega)
      have a0 : (R == 0) = false := by simpa using hz
      have dx : decide (x < 0) = true := decide_eq_true (by omega)
      clear hz hg
      clear r1 r2 r3 r4 h0 hxb hyb
      go_wp2_with fail
      refine (HW.out _).mono ?_
      rintro e_ wz ⟨rfl, b_⟩
      have KZ := hide (K11.out.ext b_)
      clear b_
      go_wp2
      go_ret
      exact ⟨rfl, KZ.out.bel⟩
set_option maxRecDepth 100000 in
set_option maxHeartbeats 8000000 in
theorem ints_p10 {x y : Int} (hx : inB x) (hy : inB y) (h0 : 0 < y) (hS : inB (x + y)) (hP : ¬ inB (x * y)) (hQ : inB (Int.tdiv x y)) : Says 4 #[.int .i64 x, .int .i64 y] (.bool true) := by
  intro w
  have HW := hide awake_any
  have hy0 : y ≠ 0 := by omega
  have y0 : (y == 0) = false := by simpa using hy0
  have y1 : (y != 0) = true := by simpa using hy0
  have dp : decide (0 < y) = true := decide_eq_true (by omega)
  have dn : decide (y < 0) = false := decide_eq_false (by omega)
  have H1 := n7 hx hy
  rw [numA_in hS] at H1
  replace H1 := hide H1
  have H2 := n8 hS hy
  rw [show x + y - y = x by omega, numA_in hx] at H2
  obtain ⟨S, hSe⟩ : ∃ S, x + y = S := ⟨_, rfl⟩
  rw [hSe] at H1 H2
  replace H2 := hide H2
  have dS : decide (S ≤ x) = false := decide_eq_false (by omega)
  clear hSe
  have H3 := n9 hx hy
  rw [numA_out hP] at H3
  replace H3 := hide H3
  have H5 := n10 hx hy hy0
  rw [numA_in hQ] at H5
  replace H5 := hide H5
  obtain ⟨M, R, hM, hR, r1, r2, r3, r4⟩ := rest_spec x y hy0
  obtain ⟨Q, hQe⟩ : ∃ Q, Int.tdiv x y = Q := ⟨_, rfl⟩
  rw [hQe] at H5 hM
  have hxb : -9223372036854775808 ≤ x ∧ x ≤ 9223372036854775807 := hx
  have hyb : -9223372036854775808 ≤ y ∧ y ≤ 9223372036854775807 := hy
  have hMb : -9223372036854775808 ≤ M ∧ M ≤ 9223372036854775807 := by omega
  have hRb : -9223372036854775808 ≤ R ∧ R ≤ 9223372036854775807 := by omega
  have HF := hide (And.intro r1 (And.intro r2 (And.intro r3 (And.intro r4 (And.intro h0 (And.intro hxb hyb))))))
  clear hQe
  clear hx hy h0 hS hP hQ hy0 r1 r2 r3 r4 hxb hyb
  go_enter Tryz.func4, Tryz.ntmps4
  have K1 := hide (((KR.nil w).add (w.heap.size) (nvC x) (by first | rfl | simp)).add (w.heap.size + 1) (nvC y) (by first | rfl | simp))
  go_wp2_with fail
  refine (H1.out _).mono ?_
  rintro e_ w2 ⟨rfl, b_⟩
  have K2 := hide (K1.out.ext b_)
  clear b_
  have K3 := hide (K2.out.add (w2.heap.size) (nvC S) (by first | rfl | simp))
  have s_0 : (w2.alloc (.cells (nvC S) 24)).cell? ⟨w2.heap.size, 0, none⟩ = _ := K3.out.cell (p := w2.heap.size) (cs := (nvC S)) (i := 0) (.head _) rfl
  have s_1 : (w2.alloc (.cells (nvC S) 24)).cell? ⟨w2.heap.size, 1, none⟩ = _ := K3.out.cell (p := w2.heap.size) (cs := (nvC S)) (i := 1) (.head _) rfl
  have s_2 : (w2.alloc (.cells (nvC S) 24)).cell? ⟨w2.heap.size, 2, none⟩ = _ := K3.out.cell (p := w2.heap.size) (cs := (nvC S)) (i := 2) (.head _) rfl
  have s_3 : (w2.alloc (.cells (nvC S) 24)).cell? ⟨w2.heap.size, 3, none⟩ = _ := K3.out.cell (p := w2.heap.size) (cs := (nvC S)) (i := 3) (.head _) rfl
  have y_0 : (w2.alloc (.cells (nvC S) 24)).cell? ⟨w.heap.size + 1, 0, none⟩ = _ := K3.out.cell (p := w.heap.size + 1) (cs := (nvC y)) (i := 0) (.tail _ (.head _)) rfl
  have y_1 : (w2.alloc (.cells (nvC S) 24)).cell? ⟨w.heap.size + 1, 1, none⟩ = _ := K3.out.cell (p := w.heap.size + 1) (cs := (nvC y)) (i := 1) (.tail _ (.head _)) rfl
  have y_2 : (w2.alloc (.cells (nvC S) 24)).cell? ⟨w.heap.size + 1, 2, none⟩ = _ := K3.out.cell (p := w.heap.size + 1) (cs := (nvC y)) (i := 2) (.tail _ (.head _)) rfl
  have y_3 : (w2.alloc (.cells (nvC S) 24)).cell? ⟨w.heap.size + 1, 3, none⟩ = _ := K3.out.cell (p := w.heap.size + 1) (cs := (nvC y)) (i := 3) (.tail _ (.head _)) rfl
  go_wp2_with fail
  refine (H2.out _).mono ?_
  rintro e_ w4 ⟨rfl, b_⟩
  have K4 := hide (K3.out.ext b_)
  clear b_ s_0 s_1 s_2 s_3 y_0 y_1 y_2 y_3
  have K5 := hide (K4.out.add (w4.heap.size) (nvC x) (by first | rfl | simp))
  have d_1 : (w4.alloc (.cells (nvC x) 24)).cell? ⟨w4.heap.size, 1, none⟩ = _ := K5.out.cell (p := w4.heap.size) (cs := (nvC x)) (i := 1) (.head _) rfl
  have s_1 : (w4.alloc (.cells (nvC x) 24)).cell? ⟨w2.heap.size, 1, none⟩ = _ := K5.out.cell (p := w2.heap.size) (cs := (nvC S)) (i := 1) (.tail _ (.head _)) rfl
  have x_0 : (w4.alloc (.cells (nvC x) 24)).cell? ⟨w.heap.size, 0, none⟩ = _ := K5.out.cell (p := w.heap.size) (cs := (nvC x)) (i := 0) (.tail _ (.tail _ (.tail _ (.head _)))) rfl
  have x_1 : (w4.alloc (.cells (nvC x) 24)).cell? ⟨w.heap.size, 1, none⟩ = _ := K5.out.cell (p := w.heap.size) (cs := (nvC x)) (i := 1) (.tail _ (.tail _ (.tail _ (.head _)))) rfl
  have x_2 : (w4.alloc (.cells (nvC x) 24)).cell? ⟨w.heap.size, 2, none⟩ = _ := K5.out.cell (p := w.heap.size) (cs := (nvC x)) (i := 2) (.tail _ (.tail _ (.tail _ (.head _)))) rfl
  have x_3 : (w4.alloc (.cells (nvC x) 24)).cell? ⟨w.heap.size, 3, none⟩ = _ := K5.out.cell (p := w.heap.size) (cs := (nvC x)) (i := 3) (.tail _ (.tail _ (.tail _ (.head _)))) rfl
  have y_0 : (w4.alloc (.cells (nvC x) 24)).cell? ⟨w.heap.size + 1, 0, none⟩ = _ := K5.out.cell (p := w.heap.size + 1) (cs := (nvC y)) (i := 0) (.tail _ (.tail _ (.head _))) rfl
  have y_1 : (w4.alloc (.cells (nvC x) 24)).cell? ⟨w.heap.size + 1, 1, none⟩ = _ := K5.out.cell (p := w.heap.size + 1) (cs := (nvC y)) (i := 1) (.tail _ (.tail _ (.head _))) rfl
  have y_2 : (w4.alloc (.cells (nvC x) 24)).cell? ⟨w.heap.size + 1, 2, none⟩ = _ := K5.out.cell (p := w.heap.size + 1) (cs := (nvC y)) (i := 2) (.tail _ (.tail _ (.head _))) rfl
  have y_3 : (w4.alloc (.cells (nvC x) 24)).cell? ⟨w.heap.size + 1, 3, none⟩ = _ := K5.out.cell (p := w.heap.size + 1) (cs := (nvC y)) (i := 3) (.tail _ (.tail _ (.head _))) rfl
  go_wp2_with fail
  refine (H3.out _).mono ?_
  rintro e_ w6 ⟨rfl, b_⟩
  have K6 := hide (K5.out.ext b_)
  clear b_ d_1 s_1 x_0 x_1 x_2 x_3 y_0 y_1 y_2 y_3
  have K7 := hide (K6.out.add (w6.heap.size) zvC (by first | rfl | simp))
  have x_0 : (w6.alloc (.cells zvC 24)).cell? ⟨w.heap.size, 0, none⟩ = _ := K7.out.cell (p := w.heap.size) (cs := (nvC x)) (i := 0) (.tail _ (.tail _ (.tail _ (.tail _ (.head _))))) rfl
  have x_1 : (w6.alloc (.cells zvC 24)).cell? ⟨w.heap.size, 1, none⟩ = _ := K7.out.cell (p := w.heap.size) (cs := (nvC x)) (i := 1) (.tail _ (.tail _ (.tail _ (.tail _ (.head _))))) rfl
  have x_2 : (w6.alloc (.cells zvC 24)).cell? ⟨w.heap.size, 2, none⟩ = _ := K7.out.cell (p := w.heap.size) (cs := (nvC x)) (i := 2) (.tail _ (.tail _ (.tail _ (.tail _ (.head _))))) rfl
  have x_3 : (w6.alloc (.cells zvC 24)).cell? ⟨w.heap.size, 3, none⟩ = _ := K7.out.cell (p := w.heap.size) (cs := (nvC x)) (i := 3) (.tail _ (.tail _ (.tail _ (.tail _ (.head _))))) rfl
  have y_0 : (w6.alloc (.cells zvC 24)).cell? ⟨w.heap.size + 1, 0, none⟩ = _ := K7.out.cell (p := w.heap.size + 1) (cs := (nvC y)) (i := 0) (.tail _ (.tail _ (.tail _ (.head _)))) rfl
  have y_1 : (w6.alloc (.cells zvC 24)).cell? ⟨w.heap.size + 1, 1, none⟩ = _ := K7.out.cell (p := w.heap.size + 1) (cs := (nvC y)) (i := 1) (.tail _ (.tail _ (.tail _ (.head _)))) rfl
  have y_2 : (w6.alloc (.cells zvC 24)).cell? ⟨w.heap.size + 1, 2, none⟩ = _ := K7.out.cell (p := w.heap.size + 1) (cs := (nvC y)) (i := 2) (.tail _ (.tail _ (.tail _ (.head _)))) rfl
  have y_3 : (w6.alloc (.cells zvC 24)).cell? ⟨w.heap.size + 1, 3, none⟩ = _ := K7.out.cell (p := w.heap.size + 1) (cs := (nvC y)) (i := 3) (.tail _ (.tail _ (.tail _ (.head _)))) rfl
  go_wp2_with fail
  refine (H5.out _).mono ?_
  rintro e_ w8 ⟨rfl, b_⟩
  have K8 := hide (K7.out.ext b_)
  clear b_ x_0 x_1 x_2 x_3 y_0 y_1 y_2 y_3
  have K9 := hide (K8.out.add (w8.heap.size) (nvC Q) (by first | rfl | simp))
  have q_1 : (w8.alloc (.cells (nvC Q) 24)).cell? ⟨w8.heap.size, 1, none⟩ = _ := K9.out.cell (p := w8.heap.size) (cs := (nvC Q)) (i := 1) (.head _) rfl
  obtain ⟨r1, r2, r3, r4, h0, hxb, hyb⟩ := HF.out
  have hwy : -9223372036854775808 ≤ -y ∧ -y ≤ 9223372036854775807 := by omega
  by_cases hz : R = 0
  · have a1 : decide (0 ≤ R) = true := decide_eq_true (by omega)
    have a2 : decide (R < 0) = false := decide_eq_false (by omega)
    have a3 : decide (R < y) = true := decide_eq_true (by omega)
    have a0 : (R == 0) = true := by simpa using hz
    clear hz
    clear r1 r2 r3 r4 h0 hxb hyb
    go_wp2_with fail
    refine (HW.out _).mono ?_
    rintro e_ wz ⟨rfl, b_⟩
    have KZ := hide (K9.out.ext b_)
    clear b_
    go_wp2
    go_ret
    exact ⟨rfl, KZ.out.bel⟩
  · by_cases hg : 0 < R
    · have a1 : decide (0 ≤ R) = true := decide_eq_true (by omega)
      have a2 : decide (R < 0) = false := decide_eq_false (by omega)
      have a3 : decide (R < y) = true := decide_eq_true (by omega)
      have a0 : (R == 0) = false := by simpa using hz
      have dx : decide (x < 0) = false := decide_eq_false (by omega)
      clear hz hg
      clear r1 r2 r3 r4 h0 hxb hyb
      go_wp2_with fail
      refine (HW.out _).mono ?_
      rintro e_ wz ⟨rfl, b_⟩
      have KZ := hide (K9.out.ext b_)
      clear b_
      go_wp2
      go_ret
      exact ⟨rfl, KZ.out.bel⟩
    · have a2 : decide (R < 0) = true := decide_eq_true (by omega)
      have a3 : decide (-y < R) = true := decide_eq_true (by omega)
      have a0 : (R == 0) = false := by simpa using hz
      have dx : decide (x < 0) = true := decide_eq_true (by omega)
      clear hz hg
      clear r1 r2 r3 r4 h0 hxb hyb
      go_wp2_with fail
      refine (HW.out _).mono ?_
      rintro e_ wz ⟨rfl, b_⟩
      have KZ := hide (K9.out.ext b_)
      clear b_
      go_wp2
      go_ret
      exact ⟨rfl, KZ.out.bel⟩
set_option maxRecDepth 100000 in
set_option maxHeartbeats 8000000 in
theorem ints_p01 {x y : Int} (hx : inB x) (hy : inB y) (h0 : 0 < y) (hS : ¬ inB (x + y)) (hP : inB (x * y)) (hQ : inB (Int.tdiv x y)) : Says 4 #[.int .i64 x, .int .i64 y] (.bool true) := by
  intro w
  have HW := hide awake_any
  have hy0 : y ≠ 0 := by omega
  have y0 : (y == 0) = false := by simpa using hy0
  have y1 : (y != 0) = true := by simpa using hy0
  have dp : decide (0 < y) = true := decide_eq_true (by omega)
  have dn : decide (y < 0) = false := decide_eq_false (by omega)
  have H1 := n7 hx hy
  rw [numA_out hS] at H1
  replace H1 := hide H1
  have dx : decide (x < 0) = false := decide_eq_false (by unfold inB at *; omega)
  have H3 := n9 hx hy
  rw [numA_in hP] at H3
  replace H3 := hide H3
  have H4 := n10 hP hy hy0
  rw [Int.mul_tdiv_cancel x hy0, numA_in hx] at H4
  obtain ⟨P, hPe⟩ : ∃ P, x * y = P := ⟨_, rfl⟩
  rw [hPe] at H3 H4
  clear hPe
  replace H4 := hide H4
  have H5 := n10 hx hy hy0
  rw [numA_in hQ] at H5
  replace H5 := hide H5
  obtain ⟨M, R, hM, hR, r1, r2, r3, r4⟩ := rest_spec x y hy0
  obtain ⟨Q, hQe⟩ : ∃ Q, Int.tdiv x y = Q := ⟨_, rfl⟩
  rw [hQe] at H5 hM
  have hxb : -9223372036854775808 ≤ x ∧ x ≤ 9223372036854775807 := hx
  have hyb : -9223372036854775808 ≤ y ∧ y ≤ 9223372036854775807 := hy
  have hMb : -9223372036854775808 ≤ M ∧ M ≤ 9223372036854775807 := by omega
  have hRb : -9223372036854775808 ≤ R ∧ R ≤ 9223372036854775807 := by omega
  have HF := hide (And.intro r1 (And.intro r2 (And.intro r3 (And.intro r4 (And.intro h0 (And.intro hxb hyb))))))
  clear hQe
  clear hx hy h0 hS hP hQ hy0 r1 r2 r3 r4 hxb hyb
  go_enter Tryz.func4, Tryz.ntmps4
  have K1 := hide (((KR.nil w).add (w.heap.size) (nvC x) (by first | rfl | simp)).add (w.heap.size + 1) (nvC y) (by first | rfl | simp))
  go_wp2_with fail
  refine (H1.out _).mono ?_
  rintro e_ w2 ⟨rfl, b_⟩
  have K2 := hide (K1.out.ext b_)
  clear b_
  have K3 := hide (K2.out.add (w2.heap.size) zvC (by first | rfl | simp))
  have x_0 : (w2.alloc (.cells zvC 24)).cell? ⟨w.heap.size, 0, none⟩ = _ := K3.out.cell (p := w.heap.size) (cs := (nvC x)) (i := 0) (.tail _ (.tail _ (.head _))) rfl
  have x_1 : (w2.alloc (.cells zvC 24)).cell? ⟨w.heap.size, 1, none⟩ = _ := K3.out.cell (p := w.heap.size) (cs := (nvC x)) (i := 1) (.tail _ (.tail _ (.head _))) rfl
  have x_2 : (w2.alloc (.cells zvC 24)).cell? ⟨w.heap.size, 2, none⟩ = _ := K3.out.cell (p := w.heap.size) (cs := (nvC x)) (i := 2) (.tail _ (.tail _ (.head _))) rfl
  have x_3 : (w2.alloc (.cells zvC 24)).cell? ⟨w.heap.size, 3, none⟩ = _ := K3.out.cell (p := w.heap.size) (cs := (nvC x)) (i := 3) (.tail _ (.tail _ (.head _))) rfl
  have y_0 : (w2.alloc (.cells zvC 24)).cell? ⟨w.heap.size + 1, 0, none⟩ = _ := K3.out.cell (p := w.heap.size + 1) (cs := (nvC y)) (i := 0) (.tail _ (.head _)) rfl
  have y_1 : (w2.alloc (.cells zvC 24)).cell? ⟨w.heap.size + 1, 1, none⟩ = _ := K3.out.cell (p := w.heap.size + 1) (cs := (nvC y)) (i := 1) (.tail _ (.head _)) rfl
  have y_2 : (w2.alloc (.cells zvC 24)).cell? ⟨w.heap.size + 1, 2, none⟩ = _ := K3.out.cell (p := w.heap.size + 1) (cs := (nvC y)) (i := 2) (.tail _ (.head _)) rfl
  have y_3 : (w2.alloc (.cells zvC 24)).cell? ⟨w.heap.size + 1, 3, none⟩ = _ := K3.out.cell (p := w.heap.size + 1) (cs := (nvC y)) (i := 3) (.tail _ (.head _)) rfl
  go_wp2_with fail
  refine (H3.out _).mono ?_
  rintro e_ w4 ⟨rfl, b_⟩
  have K4 := hide (K3.out.ext b_)
  clear b_ x_0 x_1 x_2 x_3 y_0 y_1 y_2 y_3
  have K5 := hide (K4.out.add (w4.heap.size) (nvC P) (by first | rfl | simp))
  have p_0 : (w4.alloc (.cells (nvC P) 24)).cell? ⟨w4.heap.size, 0, none⟩ = _ := K5.out.cell (p := w4.heap.size) (cs := (nvC P)) (i := 0) (.head _) rfl
  have p_1 : (w4.alloc (.cells (nvC P) 24)).cell? ⟨w4.heap.size, 1, none⟩ = _ := K5.out.cell (p := w4.heap.size) (cs := (nvC P)) (i := 1) (.head _) rfl
  have p_2 : (w4.alloc (.cells (nvC P) 24)).cell? ⟨w4.heap.size, 2, none⟩ = _ := K5.out.cell (p := w4.heap.size) (cs := (nvC P)) (i := 2) (.head _) rfl
  have p_3 : (w4.alloc (.cells (nvC P) 24)).cell? ⟨w4.heap.size, 3, none⟩ = _ := K5.out.cell (p := w4.heap.size) (cs := (nvC P)) (i := 3) (.head _) rfl
  have y_0 : (w4.alloc (.cells (nvC P) 24)).cell? ⟨w.heap.size + 1, 0, none⟩ = _ := K5.out.cell (p := w.heap.size + 1) (cs := (nvC y)) (i := 0) (.tail _ (.tail _ (.head _))) rfl
  have y_1 : (w4.alloc (.cells (nvC P) 24)).cell? ⟨w.heap.size + 1, 1, none⟩ = _ := K5.out.cell (p := w.heap.size + 1) (cs := (nvC y)) (i := 1) (.tail _ (.tail _ (.head _))) rfl
  have y_2 : (w4.alloc (.cells (nvC P) 24)).cell? ⟨w.heap.size + 1, 2, none⟩ = _ := K5.out.cell (p := w.heap.size + 1) (cs := (nvC y)) (i := 2) (.tail _ (.tail _ (.head _))) rfl
  have y_3 : (w4.alloc (.cells (nvC P) 24)).cell? ⟨w.heap.size + 1, 3, none⟩ = _ := K5.out.cell (p := w.heap.size + 1) (cs := (nvC y)) (i := 3) (.tail _ (.tail _ (.head _))) rfl
  go_wp2_with fail
  refine (H4.out _).mono ?_
  rintro e_ w6 ⟨rfl, b_⟩
  have K6 := hide (K5.out.ext b_)
  clear b_ p_0 p_1 p_2 p_3 y_0 y_1 y_2 y_3
  have K7 := hide (K6.out.add (w6.heap.size) (nvC x) (by first | rfl | simp))
  have d2_1 : (w6.alloc (.cells (nvC x) 24)).cell? ⟨w6.heap.size, 1, none⟩ = _ := K7.out.cell (p := w6.heap.size) (cs := (nvC x)) (i := 1) (.head _) rfl
  have p_1 : (w6.alloc (.cells (nvC x) 24)).cell? ⟨w4.heap.size, 1, none⟩ = _ := K7.out.cell (p := w4.heap.size) (cs := (nvC P)) (i := 1) (.tail _ (.head _)) rfl
  have x_0 : (w6.alloc (.cells (nvC x) 24)).cell? ⟨w.heap.size, 0, none⟩ = _ := K7.out.cell (p := w.heap.size) (cs := (nvC x)) (i := 0) (.tail _ (.tail _ (.tail _ (.tail _ (.head _))))) rfl
  have x_1 : (w6.alloc (.cells (nvC x) 24)).cell? ⟨w.heap.size, 1, none⟩ = _ := K7.out.cell (p := w.heap.size) (cs := (nvC x)) (i := 1) (.tail _ (.tail _ (.tail _ (.tail _ (.head _))))) rfl
  have x_2 : (w6.alloc (.cells (nvC x) 24)).cell? ⟨w.heap.size, 2, none⟩ = _ := K7.out.cell (p := w.heap.size) (cs := (nvC x)) (i := 2) (.tail _ (.tail _ (.tail _ (.tail _ (.head _))))) rfl
  have x_3 : (w6.alloc (.cells (nvC x) 24)).cell? ⟨w.heap.size, 3, none⟩ = _ := K7.out.cell (p := w.heap.size) (cs := (nvC x)) (i := 3) (.tail _ (.tail _ (.tail _ (.tail _ (.head _))))) rfl
  have y_0 : (w6.alloc (.cells (nvC x) 24)).cell? ⟨w.heap.size + 1, 0, none⟩ = _ := K7.out.cell (p := w.heap.size + 1) (cs := (nvC y)) (i := 0) (.tail _ (.tail _ (.tail _ (.head _)))) rfl
  have y_1 : (w6.alloc (.cells (nvC x) 24)).cell? ⟨w.heap.size + 1, 1, none⟩ = _ := K7.out.cell (p := w.heap.size + 1) (cs := (nvC y)) (i := 1) (.tail _ (.tail _ (.tail _ (.head _)))) rfl
  have y_2 : (w6.alloc (.cells (nvC x) 24)).cell? ⟨w.heap.size + 1, 2, none⟩ = _ := K7.out.cell (p := w.heap.size + 1) (cs := (nvC y)) (i := 2) (.tail _ (.tail _ (.tail _ (.head _)))) rfl
  have y_3 : (w6.alloc (.cells (nvC x) 24)).cell? ⟨w.heap.size + 1, 3, none⟩ = _ := K7.out.cell (p := w.heap.size + 1) (cs := (nvC y)) (i := 3) (.tail _ (.tail _ (.tail _ (.head _)))) rfl
  go_wp2_with fail
  refine (H5.out _).mono ?_
  rintro e_ w8 ⟨rfl, b_⟩
  have K8 := hide (K7.out.ext b_)
  clear b_ d2_1 p_1 x_0 x_1 x_2 x_3 y_0 y_1 y_2 y_3
  have K9 := hide (K8.out.add (w8.heap.size) (nvC Q) (by first | rfl | simp))
  have q_1 : (w8.alloc (.cells (nvC Q) 24)).cell? ⟨w8.heap.size, 1, none⟩ = _ := K9.out.cell (p := w8.heap.size) (cs := (nvC Q)) (i := 1) (.head _) rfl
  obtain ⟨r1, r2, r3, r4, h0, hxb, hyb⟩ := HF.out
  have hwy : -9223372036854775808 ≤ -y ∧ -y ≤ 9223372036854775807 := by omega
  by_cases hz : R = 0
  · have a1 : decide (0 ≤ R) = true := decide_eq_true (by omega)
    have a2 : decide (R < 0) = false := decide_eq_false (by omega)
    have a3 : decide (R < y) = true := decide_eq_true (by omega)
    have a0 : (R == 0) = true := by simpa using hz
    clear hz
    clear r1 r2 r3 r4 h0 hxb hyb
    go_wp2_with fail
    refine (HW.out _).mono ?_
    rintro e_ wz ⟨rfl, b_⟩
    have KZ := hide (K9.out.ext b_)
    clear b_
    go_wp2
    go_ret
    exact ⟨rfl, KZ.out.bel⟩
  · have hg : 0 < R := by have := of_decide_eq_false dx; omega
    have a1 : decide (0 ≤ R) = true := decide_eq_true (by omega)
    have a2 : decide (R < 0) = false := decide_eq_false (by omega)
    have a3 : decide (R < y) = true := decide_eq_true (by omega)
    have a0 : (R == 0) = false := by simpa using hz
    clear hz hg
    clear r1 r2 r3 r4 h0 hxb hyb
    go_wp2_with fail
    refine (HW.out _).mono ?_
    rintro e_ wz ⟨rfl, b_⟩
    have KZ := hide (K9.out.ext b_)
    clear b_
    go_wp2
    go_ret
    exact ⟨rfl, KZ.out.bel⟩
set_option maxRecDepth 100000 in
set_option maxHeartbeats 8000000 in
theorem ints_p00 {x y : Int} (hx : inB x) (hy : inB y) (h0 : 0 < y) (hS : ¬ inB (x + y)) (hP : ¬ inB (x * y)) (hQ : inB (Int.tdiv x y)) : Says 4 #[.int .i64 x, .int .i64 y] (.bool true) := by
  intro w
  have HW := hide awake_any
  have hy0 : y ≠ 0 := by omega
  have y0 : (y == 0) = false := by simpa using hy0
  have y1 : (y != 0) = true := by simpa using hy0
  have dp : decide (0 < y) = true := decide_eq_true (by omega)
  have dn : decide (y < 0) = false := decide_eq_false (by omega)
  have H1 := n7 hx hy
  rw [numA_out hS] at H1
  replace H1 := hide H1
  have dx : decide (x < 0) = false := decide_eq_false (by unfold inB at *; omega)
  have H3 := n9 hx hy
  rw [numA_out hP] at H3
  replace H3 := hide H3
  have H5 := n10 hx hy hy0
  rw [numA_in hQ] at H5
  replace H5 := hide H5
  obtain ⟨M, R, hM, hR, r1, r2, r3, r4⟩ := rest_spec x y hy0
  obtain ⟨Q, hQe⟩ : ∃ Q, Int.tdiv x y = Q := ⟨_, rfl⟩
  rw [hQe] at H5 hM
  have hxb : -9223372036854775808 ≤ x ∧ x ≤ 9223372036854775807 := hx
  have hyb : -9223372036854775808 ≤ y ∧ y ≤ 9223372036854775807 := hy
  have hMb : -9223372036854775808 ≤ M ∧ M ≤ 9223372036854775807 := by omega
  have hRb : -9223372036854775808 ≤ R ∧ R ≤ 9223372036854775807 := by omega
  have HF := hide (And.intro r1 (And.intro r2 (And.intro r3 (And.intro r4 (And.intro h0 (And.intro hxb hyb))))))
  clear hQe
  clear hx hy h0 hS hP hQ hy0 r1 r2 r3 r4 hxb hyb
  go_enter Tryz.func4, Tryz.ntmps4
  have K1 := hide (((KR.nil w).add (w.heap.size) (nvC x) (by first | rfl | simp)).add (w.heap.size + 1) (nvC y) (by first | rfl | simp))
  go_wp2_with fail
  refine (H1.out _).mono ?_
  rintro e_ w2 ⟨rfl, b_⟩
  have K2 := hide (K1.out.ext b_)
  clear b_
  have K3 := hide (K2.out.add (w2.heap.size) zvC (by first | rfl | simp))
  have x_0 : (w2.alloc (.cells zvC 24)).cell? ⟨w.heap.size, 0, none⟩ = _ := K3.out.cell (p := w.heap.size) (cs := (nvC x)) (i := 0) (.tail _ (.tail _ (.head _))) rfl
  have x_1 : (w2.alloc (.cells zvC 24)).cell? ⟨w.heap.size, 1, none⟩ = _ := K3.out.cell (p := w.heap.size) (cs := (nvC x)) (i := 1) (.tail _ (.tail _ (.head _))) rfl
  have x_2 : (w2.alloc (.cells zvC 24)).cell? ⟨w.heap.size, 2, none⟩ = _ := K3.out.cell (p := w.heap.size) (cs := (nvC x)) (i := 2) (.tail _ (.tail _ (.head _))) rfl
  have x_3 : (w2.alloc (.cells zvC 24)).cell? ⟨w.heap.size, 3, none⟩ = _ := K3.out.cell (p := w.heap.size) (cs := (nvC x)) (i := 3) (.tail _ (.tail _ (.head _))) rfl
  have y_0 : (w2.alloc (.cells zvC 24)).cell? ⟨w.heap.size + 1, 0, none⟩ = _ := K3.out.cell (p := w.heap.size + 1) (cs := (nvC y)) (i := 0) (.tail _ (.head _)) rfl
  have y_1 : (w2.alloc (.cells zvC 24)).cell? ⟨w.heap.size + 1, 1, none⟩ = _ := K3.out.cell (p := w.heap.size + 1) (cs := (nvC y)) (i := 1) (.tail _ (.head _)) rfl
  have y_2 : (w2.alloc (.cells zvC 24)).cell? ⟨w.heap.size + 1, 2, none⟩ = _ := K3.out.cell (p := w.heap.size + 1) (cs := (nvC y)) (i := 2) (.tail _ (.head _)) rfl
  have y_3 : (w2.alloc (.cells zvC 24)).cell? ⟨w.heap.size + 1, 3, none⟩ = _ := K3.out.cell (p := w.heap.size + 1) (cs := (nvC y)) (i := 3) (.tail _ (.head _)) rfl
  go_wp2_with fail
  refine (H3.out _).mono ?_
  rintro e_ w4 ⟨rfl, b_⟩
  have K4 := hide (K3.out.ext b_)
  clear b_ x_0 x_1 x_2 x_3 y_0 y_1 y_2 y_3
  have K5 := hide (K4.out.add (w4.heap.size) zvC (by first | rfl | simp))
  have x_0 : (w4.alloc (.cells zvC 24)).cell? ⟨w.heap.size, 0, none⟩ = _ := K5.out.cell (p := w.heap.size) (cs := (nvC x)) (i := 0) (.tail _ (.tail _ (.tail _ (.head _)))) rfl
  have x_1 : (w4.alloc (.cells zvC 24)).cell? ⟨w.heap.size, 1, none⟩ = _ := K5.out.cell (p := w.heap.size) (cs := (nvC x)) (i := 1) (.tail _ (.tail _ (.tail _ (.head _)))) rfl
  have x_2 : (w4.alloc (.cells zvC 24)).cell? ⟨w.heap.size, 2, none⟩ = _ := K5.out.cell (p := w.heap.size) (cs := (nvC x)) (i := 2) (.tail _ (.tail _ (.tail _ (.head _)))) rfl
  have x_3 : (w4.alloc (.cells zvC 24)).cell? ⟨w.heap.size, 3, none⟩ = _ := K5.out.cell (p := w.heap.size) (cs := (nvC x)) (i := 3) (.tail _ (.tail _ (.tail _ (.head _)))) rfl
  have y_0 : (w4.alloc (.cells zvC 24)).cell? ⟨w.heap.size + 1, 0, none⟩ = _ := K5.out.cell (p := w.heap.size + 1) (cs := (nvC y)) (i := 0) (.tail _ (.tail _ (.head _))) rfl
  have y_1 : (w4.alloc (.cells zvC 24)).cell? ⟨w.heap.size + 1, 1, none⟩ = _ := K5.out.cell (p := w.heap.size + 1) (cs := (nvC y)) (i := 1) (.tail _ (.tail _ (.head _))) rfl
  have y_2 : (w4.alloc (.cells zvC 24)).cell? ⟨w.heap.size + 1, 2, none⟩ = _ := K5.out.cell (p := w.heap.size + 1) (cs := (nvC y)) (i := 2) (.tail _ (.tail _ (.head _))) rfl
  have y_3 : (w4.alloc (.cells zvC 24)).cell? ⟨w.heap.size + 1, 3, none⟩ = _ := K5.out.cell (p := w.heap.size + 1) (cs := (nvC y)) (i := 3) (.tail _ (.tail _ (.head _))) rfl
  go_wp2_with fail
  refine (H5.out _).mono ?_
  rintro e_ w6 ⟨rfl, b_⟩
  have K6 := hide (K5.out.ext b_)
  clear b_ x_0 x_1 x_2 x_3 y_0 y_1 y_2 y_3
  have K7 := hide (K6.out.add (w6.heap.size) (nvC Q) (by first | rfl | simp))
  have q_1 : (w6.alloc (.cells (nvC Q) 24)).cell? ⟨w6.heap.size, 1, none⟩ = _ := K7.out.cell (p := w6.heap.size) (cs := (nvC Q)) (i := 1) (.head _) rfl
  obtain ⟨r1, r2, r3, r4, h0, hxb, hyb⟩ := HF.out
  have hwy : -9223372036854775808 ≤ -y ∧ -y ≤ 9223372036854775807 := by omega
  by_cases hz : R = 0
  · have a1 : decide (0 ≤ R) = true := decide_eq_true (by omega)
    have a2 : decide (R < 0) = false := decide_eq_false (by omega)
    have a3 : decide (R < y) = true := decide_eq_true (by omega)
    have a0 : (R == 0) = true := by simpa using hz
    clear hz
    clear r1 r2 r3 r4 h0 hxb hyb
    go_wp2_with fail
    refine (HW.out _).mono ?_
    rintro e_ wz ⟨rfl, b_⟩
    have KZ := hide (K7.out.ext b_)
    clear b_
    go_wp2
    go_ret
    exact ⟨rfl, KZ.out.bel⟩
  · have hg : 0 < R := by have := of_decide_eq_false dx; omega
    have a1 : decide (0 ≤ R) = true := decide_eq_true (by omega)
    have a2 : decide (R < 0) = false := decide_eq_false (by omega)
    have a3 : decide (R < y) = true := decide_eq_true (by omega)
    have a0 : (R == 0) = false := by simpa using hz
    clear hz hg
    clear r1 r2 r3 r4 h0 hxb hyb
    go_wp2_with fail
    refine (HW.out _).mono ?_
    rintro e_ wz ⟨rfl, b_⟩
    have KZ := hide (K7.out.ext b_)
    clear b_
    go_wp2
    go_ret
    exact ⟨rfl, KZ.out.bel⟩
set_option maxRecDepth 100000 in
set_option maxHeartbeats 8000000 in
theorem ints_n111 {x y : Int} (hx : inB x) (hy : inB y) (h0 : y < 0) (hS : inB (x + y)) (hP : inB (x * y)) (hQ : inB (Int.tdiv x y)) : Says 4 #[.int .i64 x, .int .i64 y] (.bool true) := by
  intro w
  have HW := hide awake_any
  have hy0 : y ≠ 0 := by omega
  have y0 : (y == 0) = false := by simpa using hy0
  have y1 : (y != 0) = true := by simpa using hy0
  have dp : decide (0 < y) = false := decide_eq_false (by omega)
  have dn : decide (y < 0) = true := decide_eq_true (by omega)
  have H1 := n7 hx hy
  rw [numA_in hS] at H1
  replace H1 := hide H1
  have H2 := n8 hS hy
  rw [show x + y - y = x by omega, numA_in hx] at H2
  obtain ⟨S, hSe⟩ : ∃ S, x + y = S := ⟨_, rfl⟩
  rw [hSe] at H1 H2
  replace H2 := hide H2
  have dS : decide (x ≤ S) = false := decide_eq_false (by omega)
  clear hSe
  have H3 := n9 hx hy
  rw [numA_in hP] at H3
  replace H3 := hide H3
  have H4 := n10 hP hy hy0
  rw [Int.mul_tdiv_cancel x hy0, numA_in hx] at H4
  obtain ⟨P, hPe⟩ : ∃ P, x * y = P := ⟨_, rfl⟩
  rw [hPe] at H3 H4
  clear hPe
  replace H4 := hide H4
  have H5 := n10 hx hy hy0
  rw [numA_in hQ] at H5
  replace H5 := hide H5
  obtain ⟨M, R, hM, hR, r1, r2, r3, r4⟩ := rest_spec x y hy0
  obtain ⟨Q, hQe⟩ : ∃ Q, Int.tdiv x y = Q := ⟨_, rfl⟩
  rw [hQe] at H5 hM
  have hxb : -9223372036854775808 ≤ x ∧ x ≤ 9223372036854775807 := hx
  have hyb : -9223372036854775808 ≤ y ∧ y ≤ 9223372036854775807 := hy
  have hMb : -9223372036854775808 ≤ M ∧ M ≤ 9223372036854775807 := by omega
  have hRb : -9223372036854775808 ≤ R ∧ R ≤ 9223372036854775807 := by omega
  have HF := hide (And.intro r1 (And.intro r2 (And.intro r3 (And.intro r4 (And.intro h0 (And.intro hxb hyb))))))
  clear hQe
  clear hx hy h0 hS hP hQ hy0 r1 r2 r3 r4 hxb hyb
  go_enter Tryz.func4, Tryz.ntmps4
  have K1 := hide (((KR.nil w).add (w.heap.size) (nvC x) (by first | rfl | simp)).add (w.heap.size + 1) (nvC y) (by first | rfl | simp))
  go_wp2_with fail
  refine (H1.out _).mono ?_
  rintro e_ w2 ⟨rfl, b_⟩
  have K2 := hide (K1.out.ext b_)
  clear b_
  have K3 := hide (K2.out.add (w2.heap.size) (nvC S) (by first | rfl | simp))
  have s_0 : (w2.alloc (.cells (nvC S) 24)).cell? ⟨w2.heap.size, 0, none⟩ = _ := K3.out.cell (p := w2.heap.size) (cs := (nvC S)) (i := 0) (.head _) rfl
  have s_1 : (w2.alloc (.cells (nvC S) 24)).cell? ⟨w2.heap.size, 1, none⟩ = _ := K3.out.cell (p := w2.heap.size) (cs := (nvC S)) (i := 1) (.head _) rfl
  have s_2 : (w2.alloc (.cells (nvC S) 24)).cell? ⟨w2.heap.size, 2, none⟩ = _ := K3.out.cell (p := w2.heap.size) (cs := (nvC S)) (i := 2) (.head _) rfl
  have s_3 : (w2.alloc (.cells (nvC S) 24)).cell? ⟨w2.heap.size, 3, none⟩ = _ := K3.out.cell (p := w2.heap.size) (cs := (nvC S)) (i := 3) (.head _) rfl
  have y_0 : (w2.alloc (.cells (nvC S) 24)).cell? ⟨w.heap.size + 1, 0, none⟩ = _ := K3.out.cell (p := w.heap.size + 1) (cs := (nvC y)) (i := 0) (.tail _ (.head _)) rfl
  have y_1 : (w2.alloc (.cells (nvC S) 24)).cell? ⟨w.heap.size + 1, 1, none⟩ = _ := K3.out.cell (p := w.heap.size + 1) (cs := (nvC y)) (i := 1) (.tail _ (.head _)) rfl
  have y_2 : (w2.alloc (.cells (nvC S) 24)).cell? ⟨w.heap.size + 1, 2, none⟩ = _ := K3.out.cell (p := w.heap.size + 1) (cs := (nvC y)) (i := 2) (.tail _ (.head _)) rfl
  have y_3 : (w2.alloc (.cells (nvC S) 24)).cell? ⟨w.heap.size + 1, 3, none⟩ = _ := K3.out.cell (p := w.heap.size + 1) (cs := (nvC y)) (i := 3) (.tail _ (.head _)) rfl
  go_wp2_with fail
  refine (H2.out _).mono ?_
  rintro e_ w4 ⟨rfl, b_⟩
  have K4 := hide (K3.out.ext b_)
  clear b_ s_0 s_1 s_2 s_3 y_0 y_1 y_2 y_3
  have K5 := hide (K4.out.add (w4.heap.size) (nvC x) (by first | rfl | simp))
  have d_1 : (w4.alloc (.cells (nvC x) 24)).cell? ⟨w4.heap.size, 1, none⟩ = _ := K5.out.cell (p := w4.heap.size) (cs := (nvC x)) (i := 1) (.head _) rfl
  have s_1 : (w4.alloc (.cells (nvC x) 24)).cell? ⟨w2.heap.size, 1, none⟩ = _ := K5.out.cell (p := w2.heap.size) (cs := (nvC S)) (i := 1) (.tail _ (.head _)) rfl
  have x_0 : (w4.alloc (.cells (nvC x) 24)).cell? ⟨w.heap.size, 0, none⟩ = _ := K5.out.cell (p := w.heap.size) (cs := (nvC x)) (i := 0) (.tail _ (.tail _ (.tail _ (.head _)))) rfl
  have x_1 : (w4.alloc (.cells (nvC x) 24)).cell? ⟨w.heap.size, 1, none⟩ = _ := K5.out.cell (p := w.heap.size) (cs := (nvC x)) (i := 1) (.tail _ (.tail _ (.tail _ (.head _)))) rfl
  have x_2 : (w4.alloc (.cells (nvC x) 24)).cell? ⟨w.heap.size, 2, none⟩ = _ := K5.out.cell (p := w.heap.size) (cs := (nvC x)) (i := 2) (.tail _ (.tail _ (.tail _ (.head _)))) rfl
  have x_3 : (w4.alloc (.cells (nvC x) 24)).cell? ⟨w.heap.size, 3, none⟩ = _ := K5.out.cell (p := w.heap.size) (cs := (nvC x)) (i := 3) (.tail _ (.tail _ (.tail _ (.head _)))) rfl
  have y_0 : (w4.alloc (.cells (nvC x) 24)).cell? ⟨w.heap.size + 1, 0, none⟩ = _ := K5.out.cell (p := w.heap.size + 1) (cs := (nvC y)) (i := 0) (.tail _ (.tail _ (.head _))) rfl
  have y_1 : (w4.alloc (.cells (nvC x) 24)).cell? ⟨w.heap.size + 1, 1, none⟩ = _ := K5.out.cell (p := w.heap.size + 1) (cs := (nvC y)) (i := 1) (.tail _ (.tail _ (.head _))) rfl
  have y_2 : (w4.alloc (.cells (nvC x) 24)).cell? ⟨w.heap.size + 1, 2, none⟩ = _ := K5.out.cell (p := w.heap.size + 1) (cs := (nvC y)) (i := 2) (.tail _ (.tail _ (.head _))) rfl
  have y_3 : (w4.alloc (.cells (nvC x) 24)).cell? ⟨w.heap.size + 1, 3, none⟩ = _ := K5.out.cell (p := w.heap.size + 1) (cs := (nvC y)) (i := 3) (.tail _ (.tail _ (.head _))) rfl
  go_wp2_with fail
  refine (H3.out _).mono ?_
  rintro e_ w6 ⟨rfl, b_⟩
  have K6 := hide (K5.out.ext b_)
  clear b_ d_1 s_1 x_0 x_1 x_2 x_3 y_0 y_1 y_2 y_3
  have K7 := hide (K6.out.add (w6.heap.size) (nvC P) (by first | rfl | simp))
  have p_0 : (w6.alloc (.cells (nvC P) 24)).cell? ⟨w6.heap.size, 0, none⟩ = _ := K7.out.cell (p := w6.heap.size) (cs := (nvC P)) (i := 0) (.head _) rfl
  have p_1 : (w6.alloc (.cells (nvC P) 24)).cell? ⟨w6.heap.size, 1, none⟩ = _ := K7.out.cell (p := w6.heap.size) (cs := (nvC P)) (i := 1) (.head _) rfl
  have p_2 : (w6.alloc (.cells (nvC P) 24)).cell? ⟨w6.heap.size, 2, none⟩ = _ := K7.out.cell (p := w6.heap.size) (cs := (nvC P)) (i := 2) (.head _) rfl
  have p_3 : (w6.alloc (.cells (nvC P) 24)).cell? ⟨w6.heap.size, 3, none⟩ = _ := K7.out.cell (p := w6.heap.size) (cs := (nvC P)) (i := 3) (.head _) rfl
  have y_0 : (w6.alloc (.cells (nvC P) 24)).cell? ⟨w.heap.size + 1, 0, none⟩ = _ := K7.out.cell (p := w.heap.size + 1) (cs := (nvC y)) (i := 0) (.tail _ (.tail _ (.tail _ (.head _)))) rfl
  have y_1 : (w6.alloc (.cells (nvC P) 24)).cell? ⟨w.heap.size + 1, 1, none⟩ = _ := K7.out.cell (p := w.heap.size + 1) (cs := (nvC y)) (i := 1) (.tail _ (.tail _ (.tail _ (.head _)))) rfl
  have y_2 : (w6.alloc (.cells (nvC P) 24)).cell? ⟨w.heap.size + 1, 2, none⟩ = _ := K7.out.cell (p := w.heap.size + 1) (cs := (nvC y)) (i := 2) (.tail _ (.tail _ (.tail _ (.head _)))) rfl
  have y_3 : (w6.alloc (.cells (nvC P) 24)).cell? ⟨w.heap.size + 1, 3, none⟩ = _ := K7.out.cell (p := w.heap.size + 1) (cs := (nvC y)) (i := 3) (.tail _ (.tail _ (.tail _ (.head _)))) rfl
  go_wp2_with fail
  refine (H4.out _).mono ?_
  rintro e_ w8 ⟨rfl, b_⟩
  have K8 := hide (K7.out.ext b_)
  clear b_ p_0 p_1 p_2 p_3 y_0 y_1 y_2 y_3
  have K9 := hide (K8.out.add (w8.heap.size) (nvC x) (by first | rfl | simp))
  have d2_1 : (w8.alloc (.cells (nvC x) 24)).cell? ⟨w8.heap.size, 1, none⟩ = _ := K9.out.cell (p := w8.heap.size) (cs := (nvC x)) (i := 1) (.head _) rfl
  have p_1 : (w8.alloc (.cells (nvC x) 24)).cell? ⟨w6.heap.size, 1, none⟩ = _ := K9.out.cell (p := w6.heap.size) (cs := (nvC P)) (i := 1) (.tail _ (.head _)) rfl
  have x_0 : (w8.alloc (.cells (nvC x) 24)).cell? ⟨w.heap.size, 0, none⟩ = _ := K9.out.cell (p := w.heap.size) (cs := (nvC x)) (i := 0) (.tail _ (.tail _ (.tail _ (.tail _ (.tail _ (.head _)))))) rfl
  have x_1 : (w8.alloc (.cells (nvC x) 24)).cell? ⟨w.heap.size, 1, none⟩ = _ := K9.out.cell (p := w.heap.size) (cs := (nvC x)) (i := 1) (.tail _ (.tail _ (.tail _ (.tail _ (.tail _ (.head _)))))) rfl
  have x_2 : (w8.alloc (.cells (nvC x) 24)).cell? ⟨w.heap.size, 2, none⟩ = _ := K9.out.cell (p := w.heap.size) (cs := (nvC x)) (i := 2) (.tail _ (.tail _ (.tail _ (.tail _ (.tail _ (.head _)))))) rfl
  have x_3 : (w8.alloc (.cells (nvC x) 24)).cell? ⟨w.heap.size, 3, none⟩ = _ := K9.out.cell (p := w.heap.size) (cs := (nvC x)) (i := 3) (.tail _ (.tail _ (.tail _ (.tail _ (.tail _ (.head _)))))) rfl
  have y_0 : (w8.alloc (.cells (nvC x) 24)).cell? ⟨w.heap.size + 1, 0, none⟩ = _ := K9.out.cell (p := w.heap.size + 1) (cs := (nvC y)) (i := 0) (.tail _ (.tail _ (.tail _ (.tail _ (.head _))))) rfl
  have y_1 : (w8.alloc (.cells (nvC x) 24)).cell? ⟨w.heap.size + 1, 1, none⟩ = _ := K9.out.cell (p := w.heap.size + 1) (cs := (nvC y)) (i := 1) (.tail _ (.tail _ (.tail _ (.tail _ (.head _))))) rfl
  have y_2 : (w8.alloc (.cells (nvC x) 24)).cell? ⟨w.heap.size + 1, 2, none⟩ = _ := K9.out.cell (p := w.heap.size + 1) (cs := (nvC y)) (i := 2) (.tail _ (.tail _ (.tail _ (.tail _ (.head _))))) rfl
  have y_3 : (w8.alloc (.cells (nvC x) 24)).cell? ⟨w.heap.size + 1, 3, none⟩ = _ := K9.out.cell (p := w.heap.size + 1) (cs := (nvC y)) (i := 3) (.tail _ (.tail _ (.tail _ (.tail _ (.head _))))) rfl
  go_wp2_with fail
  refine (H5.out _).mono ?_
  rintro e_ w10 ⟨rfl, b_⟩
  have K10 := hide (K9.out.ext b_)
  clear b_ d2_1 p_1 x_0 x_1 x_2 x_3 y_0 y_1 y_2 y_3
  have K11 := hide (K10.out.add (w10.heap.size) (nvC Q) (by first | rfl | simp))
  have q_1 : (w10.alloc (.cells (nvC Q) 24)).cell? ⟨w10.heap.size, 1, none⟩ = _ := K11.out.cell (p := w10.heap.size) (cs := (nvC Q)) (i := 1) (.head _) rfl
  obtain ⟨r1, r2, r3, r4, h0, hxb, hyb⟩ := HF.out
  by_cases hz : R = 0
  · have a1 : decide (0 ≤ R) = true := decide_eq_true (by omega)
    have a2 : decide (R < 0) = false := decide_eq_false (by omega)
    have a0 : (R == 0) = true := by simpa using hz
    clear hz
    by_cases hmin : y = -9223372036854775808
    · have a5 : IntKind.i64.wrap (-y) = -9223372036854775808 := by rw [hmin]; decide
      have a4 : decide (R < -9223372036854775808) = false := decide_eq_false (by omega)
      have a6 : (y == -9223372036854775808) = true := by simpa using hmin
      clear hmin
      clear r1 r2 r3 r4 h0 hxb hyb
      go_wp2_with fail
      refine (HW.out _).mono ?_
      rintro e_ wz ⟨rfl, b_⟩
      have KZ := hide (K11.out.ext b_)
      clear b_
      go_wp2
      go_ret
      exact ⟨rfl, KZ.out.bel⟩
    · have a5 : IntKind.i64.wrap (-y) = -y := by rw [IntKind.wrap_i64]; omega
      have a4 : decide (R < -y) = true := decide_eq_true (by omega)
      clear hmin
      clear r1 r2 r3 r4 h0 hxb hyb
      go_wp2_with fail
      refine (HW.out _).mono ?_
      rintro e_ wz ⟨rfl, b_⟩
      have KZ := hide (K11.out.ext b_)
      clear b_
      go_wp2
      go_ret
      exact ⟨rfl, KZ.out.bel⟩
  · by_cases hg : 0 < R
    · have a1 : decide (0 ≤ R) = true := decide_eq_true (by omega)
      have a2 : decide (R < 0) = false := decide_eq_false (by omega)
      have a0 : (R == 0) = false := by simpa using hz
      have dx : decide (x < 0) = false := decide_eq_false (by omega)
      clear hz hg
      by_cases hmin : y = -9223372036854775808
      · have a5 : IntKind.i64.wrap (-y) = -9223372036854775808 := by rw [hmin]; decide
        have a4 : decide (R < -9223372036854775808) = false := decide_eq_false (by omega)
        have a6 : (y == -9223372036854775808) = true := by simpa using hmin
        clear hmin
        clear r1 r2 r3 r4 h0 hxb hyb
        go_wp2_with fail
        refine (HW.out _).mono ?_
        rintro e_ wz ⟨rfl, b_⟩
        have KZ := hide (K11.out.ext b_)
        clear b_
        go_wp2
        go_ret
        exact ⟨rfl, KZ.out.bel⟩
      · have a5 : IntKind.i64.wrap (-y) = -y := by rw [IntKind.wrap_i64]; omega
        have a4 : decide (R < -y) = true := decide_eq_true (by omega)
        clear hmin
        clear r1 r2 r3 r4 h0 hxb hyb
        go_wp2_with fail
        refine (HW.out _).mono ?_
        rintro e_ wz ⟨rfl, b_⟩
        have KZ := hide (K11.out.ext b_)
        clear b_
        go_wp2
        go_ret
        exact ⟨rfl, KZ.out.bel⟩
    · have a2 : decide (R < 0) = true := decide_eq_true (by omega)
      have a3 : decide (y < R) = true := decide_eq_true (by omega)
      have a0 : (R == 0) = false := by simpa using hz
      have dx : decide (x < 0) = true := decide_eq_true (by omega)
      clear hz hg
      clear r1 r2 r3 r4 h0 hxb hyb
      go_wp2_with fail
      refine (HW.out _).mono ?_
      rintro e_ wz ⟨rfl, b_⟩
      have KZ := hide (K11.out.ext b_)
      clear b_
      go_wp2
      go_ret
      exact ⟨rfl, KZ.out.bel⟩
set_option maxRecDepth 100000 in
set_option maxHeartbeats 8000000 in
theorem ints_n101 {x y : Int} (hx : inB x) (hy : inB y) (h0 : y < 0) (hS : inB (x + y)) (hP : ¬ inB (x * y)) (hQ : inB (Int.tdiv x y)) : Says 4 #[.int .i64 x, .int .i64 y] (.bool true) := by
  intro w
  have HW := hide awake_any
  have hy0 : y ≠ 0 := by omega
  have y0 : (y == 0) = false := by simpa using hy0
  have y1 : (y != 0) = true := by simpa using hy0
  have dp : decide (0 < y) = false := decide_eq_false (by omega)
  have dn : decide (y < 0) = true := decide_eq_true (by omega)
  have H1 := n7 hx hy
  rw [numA_in hS] at H1
  replace H1 := hide H1
  have H2 := n8 hS hy
  rw [show x + y - y = x by omega, numA_in hx] at H2
  obtain ⟨S, hSe⟩ : ∃ S, x + y = S := ⟨_, rfl⟩
  rw [hSe] at H1 H2
  replace H2 := hide H2
  have dS : decide (x ≤ S) = false := decide_eq_false (by omega)
  clear hSe
  have H3 := n9 hx hy
  rw [numA_out hP] at H3
  replace H3 := hide H3
  have H5 := n10 hx hy hy0
  rw [numA_in hQ] at H5
  replace H5 := hide H5
  obtain ⟨M, R, hM, hR, r1, r2, r3, r4⟩ := rest_spec x y hy0
  obtain ⟨Q, hQe⟩ : ∃ Q, Int.tdiv x y = Q := ⟨_, rfl⟩
  rw [hQe] at H5 hM
  have hxb : -9223372036854775808 ≤ x ∧ x ≤ 9223372036854775807 := hx
  have hyb : -9223372036854775808 ≤ y ∧ y ≤ 9223372036854775807 := hy
  have hMb : -9223372036854775808 ≤ M ∧ M ≤ 9223372036854775807 := by omega
  have hRb : -9223372036854775808 ≤ R ∧ R ≤ 9223372036854775807 := by omega
  have HF := hide (And.intro r1 (And.intro r2 (And.intro r3 (And.intro r4 (And.intro h0 (And.intro hxb hyb))))))
  clear hQe
  clear hx hy h0 hS hP hQ hy0 r1 r2 r3 r4 hxb hyb
  go_enter Tryz.func4, Tryz.ntmps4
  have K1 := hide (((KR.nil w).add (w.heap.size) (nvC x) (by first | rfl | simp)).add (w.heap.size + 1) (nvC y) (by first | rfl | simp))
  go_wp2_with fail
  refine (H1.out _).mono ?_
  rintro e_ w2 ⟨rfl, b_⟩
  have K2 := hide (K1.out.ext b_)
  clear b_
  have K3 := hide (K2.out.add (w2.heap.size) (nvC S) (by first | rfl | simp))
  have s_0 : (w2.alloc (.cells (nvC S) 24)).cell? ⟨w2.heap.size, 0, none⟩ = _ := K3.out.cell (p := w2.heap.size) (cs := (nvC S)) (i := 0) (.head _) rfl
  have s_1 : (w2.alloc (.cells (nvC S) 24)).cell? ⟨w2.heap.size, 1, none⟩ = _ := K3.out.cell (p := w2.heap.size) (cs := (nvC S)) (i := 1) (.head _) rfl
  have s_2 : (w2.alloc (.cells (nvC S) 24)).cell? ⟨w2.heap.size, 2, none⟩ = _ := K3.out.cell (p := w2.heap.size) (cs := (nvC S)) (i := 2) (.head _) rfl
  have s_3 : (w2.alloc (.cells (nvC S) 24)).cell? ⟨w2.heap.size, 3, none⟩ = _ := K3.out.cell (p := w2.heap.size) (cs := (nvC S)) (i := 3) (.head _) rfl
  have y_0 : (w2.alloc (.cells (nvC S) 24)).cell? ⟨w.heap.size + 1, 0, none⟩ = _ := K3.out.cell (p := w.heap.size + 1) (cs := (nvC y)) (i := 0) (.tail _ (.head _)) rfl
  have y_1 : (w2.alloc (.cells (nvC S) 24)).cell? ⟨w.heap.size + 1, 1, none⟩ = _ := K3.out.cell (p := w.heap.size + 1) (cs := (nvC y)) (i := 1) (.tail _ (.head _)) rfl
  have y_2 : (w2.alloc (.cells (nvC S) 24)).cell? ⟨w.heap.size + 1, 2, none⟩ = _ := K3.out.cell (p := w.heap.size + 1) (cs := (nvC y)) (i := 2) (.tail _ (.head _)) rfl
  have y_3 : (w2.alloc (.cells (nvC S) 24)).cell? ⟨w.heap.size + 1, 3, none⟩ = _ := K3.out.cell (p := w.heap.size + 1) (cs := (nvC y)) (i := 3) (.tail _ (.head _)) rfl
  go_wp2_with fail
  refine (H2.out _).mono ?_
  rintro e_ w4 ⟨rfl, b_⟩
  have K4 := hide (K3.out.ext b_)
  clear b_ s_0 s_1 s_2 s_3 y_0 y_1 y_2 y_3
  have K5 := hide (K4.out.add (w4.heap.size) (nvC x) (by first | rfl | simp))
  have d_1 : (w4.alloc (.cells (nvC x) 24)).cell? ⟨w4.heap.size, 1, none⟩ = _ := K5.out.cell (p := w4.heap.size) (cs := (nvC x)) (i := 1) (.head _) rfl
  have s_1 : (w4.alloc (.cells (nvC x) 24)).cell? ⟨w2.heap.size, 1, none⟩ = _ := K5.out.cell (p := w2.heap.size) (cs := (nvC S)) (i := 1) (.tail _ (.head _)) rfl
  have x_0 : (w4.alloc (.cells (nvC x) 24)).cell? ⟨w.heap.size, 0, none⟩ = _ := K5.out.cell (p := w.heap.size) (cs := (nvC x)) (i := 0) (.tail _ (.tail _ (.tail _ (.head _)))) rfl
  have x_1 : (w4.alloc (.cells (nvC x) 24)).cell? ⟨w.heap.size, 1, none⟩ = _ := K5.out.cell (p := w.heap.size) (cs := (nvC x)) (i := 1) (.tail _ (.tail _ (.tail _ (.head _)))) rfl
  have x_2 : (w4.alloc (.cells (nvC x) 24)).cell? ⟨w.heap.size, 2, none⟩ = _ := K5.out.cell (p := w.heap.size) (cs := (nvC x)) (i := 2) (.tail _ (.tail _ (.tail _ (.head _)))) rfl
  have x_3 : (w4.alloc (.cells (nvC x) 24)).cell? ⟨w.heap.size, 3, none⟩ = _ := K5.out.cell (p := w.heap.size) (cs := (nvC x)) (i := 3) (.tail _ (.tail _ (.tail _ (.head _)))) rfl
  have y_0 : (w4.alloc (.cells (nvC x) 24)).cell? ⟨w.heap.size + 1, 0, none⟩ = _ := K5.out.cell (p := w.heap.size + 1) (cs := (nvC y)) (i := 0) (.tail _ (.tail _ (.head _))) rfl
  have y_1 : (w4.alloc (.cells (nvC x) 24)).cell? ⟨w.heap.size + 1, 1, none⟩ = _ := K5.out.cell (p := w.heap.size + 1) (cs := (nvC y)) (i := 1) (.tail _ (.tail _ (.head _))) rfl
  have y_2 : (w4.alloc (.cells (nvC x) 24)).cell? ⟨w.heap.size + 1, 2, none⟩ = _ := K5.out.cell (p := w.heap.size + 1) (cs := (nvC y)) (i := 2) (.tail _ (.tail _ (.head _))) rfl
  have y_3 : (w4.alloc (.cells (nvC x) 24)).cell? ⟨w.heap.size + 1, 3, none⟩ = _ := K5.out.cell (p := w.heap.size + 1) (cs := (nvC y)) (i := 3) (.tail _ (.tail _ (.head _))) rfl
  go_wp2_with fail
  refine (H3.out _).mono ?_
  rintro e_ w6 ⟨rfl, b_⟩
  have K6 := hide (K5.out.ext b_)
  clear b_ d_1 s_1 x_0 x_1 x_2 x_3 y_0 y_1 y_2 y_3
  have K7 := hide (K6.out.add (w6.heap.size) zvC (by first | rfl | simp))
  have x_0 : (w6.alloc (.cells zvC 24)).cell? ⟨w.heap.size, 0, none⟩ = _ := K7.out.cell (p := w.heap.size) (cs := (nvC x)) (i := 0) (.tail _ (.tail _ (.tail _ (.tail _ (.head _))))) rfl
  have x_1 : (w6.alloc (.cells zvC 24)).cell? ⟨w.heap.size, 1, none⟩ = _ := K7.out.cell (p := w.heap.size) (cs := (nvC x)) (i := 1) (.tail _ (.tail _ (.tail _ (.tail _ (.head _))))) rfl
  have x_2 : (w6.alloc (.cells zvC 24)).cell? ⟨w.heap.size, 2, none⟩ = _ := K7.out.cell (p := w.heap.size) (cs := (nvC x)) (i := 2) (.tail _ (.tail _ (.tail _ (.tail _ (.head _))))) rfl
  have x_3 : (w6.alloc (.cells zvC 24)).cell? ⟨w.heap.size, 3, none⟩ = _ := K7.out.cell (p := w.heap.size) (cs := (nvC x)) (i := 3) (.tail _ (.tail _ (.tail _ (.tail _ (.head _))))) rfl
  have y_0 : (w6.alloc (.cells zvC 24)).cell? ⟨w.heap.size + 1, 0, none⟩ = _ := K7.out.cell (p := w.heap.size + 1) (cs := (nvC y)) (i := 0) (.tail _ (.tail _ (.tail _ (.head _)))) rfl
  have y_1 : (w6.alloc (.cells zvC 24)).cell? ⟨w.heap.size + 1, 1, none⟩ = _ := K7.out.cell (p := w.heap.size + 1) (cs := (nvC y)) (i := 1) (.tail _ (.tail _ (.tail _ (.head _)))) rfl
  have y_2 : (w6.alloc (.cells zvC 24)).cell? ⟨w.heap.size + 1, 2, none⟩ = _ := K7.out.cell (p := w.heap.size + 1) (cs := (nvC y)) (i := 2) (.tail _ (.tail _ (.tail _ (.head _)))) rfl
  have y_3 : (w6.alloc (.cells zvC 24)).cell? ⟨w.heap.size + 1, 3, none⟩ = _ := K7.out.cell (p := w.heap.size + 1) (cs := (nvC y)) (i := 3) (.tail _ (.tail _ (.tail _ (.head _)))) rfl
  go_wp2_with fail
  refine (H5.out _).mono ?_
  rintro e_ w8 ⟨rfl, b_⟩
  have K8 := hide (K7.out.ext b_)
  clear b_ x_0 x_1 x_2 x_3 y_0 y_1 y_2 y_3
  have K9 := hide (K8.out.add (w8.heap.size) (nvC Q) (by first | rfl | simp))
  have q_1 : (w8.alloc (.cells (nvC Q) 24)).cell? ⟨w8.heap.size, 1, none⟩ = _ := K9.out.cell (p := w8.heap.size) (cs := (nvC Q)) (i := 1) (.head _) rfl
  obtain ⟨r1, r2, r3, r4, h0, hxb, hyb⟩ := HF.out
  by_cases hz : R = 0
  · have a1 : decide (0 ≤ R) = true := decide_eq_true (by omega)
    have a2 : decide (R < 0) = false := decide_eq_false (by omega)
    have a0 : (R == 0) = true := by simpa using hz
    clear hz
    by_cases hmin : y = -9223372036854775808
    · have a5 : IntKind.i64.wrap (-y) = -9223372036854775808 := by rw [hmin]; decide
      have a4 : decide (R < -9223372036854775808) = false := decide_eq_false (by omega)
      have a6 : (y == -9223372036854775808) = true := by simpa using hmin
      clear hmin
      clear r1 r2 r3 r4 h0 hxb hyb
      go_wp2_with fail
      refine (HW.out _).mono ?_
      rintro e_ wz ⟨rfl, b_⟩
      have KZ := hide (K9.out.ext b_)
      clear b_
      go_wp2
      go_ret
      exact ⟨rfl, KZ.out.bel⟩
    · have a5 : IntKind.i64.wrap (-y) = -y := by rw [IntKind.wrap_i64]; omega
      have a4 : decide (R < -y) = true := decide_eq_true (by omega)
      clear hmin
      clear r1 r2 r3 r4 h0 hxb hyb
      go_wp2_with fail
      refine (HW.out _).mono ?_
      rintro e_ wz ⟨rfl, b_⟩
      have KZ := hide (K9.out.ext b_)
      clear b_
      go_wp2
      go_ret
      exact ⟨rfl, KZ.out.bel⟩
  · by_cases hg : 0 < R
    · have a1 : decide (0 ≤ R) = true := decide_eq_true (by omega)
      have a2 : decide (R < 0) = false := decide_eq_false (by omega)
      have a0 : (R == 0) = false := by simpa using hz
      have dx : decide (x < 0) = false := decide_eq_false (by omega)
      clear hz hg
      by_cases hmin : y = -9223372036854775808
      · have a5 : IntKind.i64.wrap (-y) = -9223372036854775808 := by rw [hmin]; decide
        have a4 : decide (R < -9223372036854775808) = false := decide_eq_false (by omega)
        have a6 : (y == -9223372036854775808) = true := by simpa using hmin
        clear hmin
        clear r1 r2 r3 r4 h0 hxb hyb
        go_wp2_with fail
        refine (HW.out _).mono ?_
        rintro e_ wz ⟨rfl, b_⟩
        have KZ := hide (K9.out.ext b_)
        clear b_
        go_wp2
        go_ret
        exact ⟨rfl, KZ.out.bel⟩
      · have a5 : IntKind.i64.wrap (-y) = -y := by rw [IntKind.wrap_i64]; omega
        have a4 : decide (R < -y) = true := decide_eq_true (by omega)
        clear hmin
        clear r1 r2 r3 r4 h0 hxb hyb
        go_wp2_with fail
        refine (HW.out _).mono ?_
        rintro e_ wz ⟨rfl, b_⟩
        have KZ := hide (K9.out.ext b_)
        clear b_
        go_wp2
        go_ret
        exact ⟨rfl, KZ.out.bel⟩
    · have a2 : decide (R < 0) = true := decide_eq_true (by omega)
      have a3 : decide (y < R) = true := decide_eq_true (by omega)
      have a0 : (R == 0) = false := by simpa using hz
      have dx : decide (x < 0) = true := decide_eq_true (by omega)
      clear hz hg
      clear r1 r2 r3 r4 h0 hxb hyb
      go_wp2_with fail
      refine (HW.out _).mono ?_
      rintro e_ wz ⟨rfl, b_⟩
      have KZ := hide (K9.out.ext b_)
      clear b_
      go_wp2
      go_ret
      exact ⟨rfl, KZ.out.bel⟩
set_option maxRecDepth 100000 in
set_option maxHeartbeats 8000000 in
theorem ints_n011 {x y : Int} (hx : inB x) (hy : inB y) (h0 : y < 0) (hS : ¬ inB (x + y)) (hP : inB (x * y)) (hQ : inB (Int.tdiv x y)) : Says 4 #[.int .i64 x, .int .i64 y] (.bool true) := by
  intro w
  have HW := hide awake_any
  have hy0 : y ≠ 0 := by omega
  have y0 : (y == 0) = false := by simpa using hy0
  have y1 : (y != 0) = true := by simpa using hy0
  have dp : decide (0 < y) = false := decide_eq_false (by omega)
  have dn : decide (y < 0) = true := decide_eq_true (by omega)
  have H1 := n7 hx hy
  rw [numA_out hS] at H1
  replace H1 := hide H1
  have dx : decide (x < 0) = true := decide_eq_true (by unfold inB at *; omega)
  have H3 := n9 hx hy
  rw [numA_in hP] at H3
  replace H3 := hide H3
  have H4 := n10 hP hy hy0
  rw [Int.mul_tdiv_cancel x hy0, numA_in hx] at H4
  obtain ⟨P, hPe⟩ : ∃ P, x * y = P := ⟨_, rfl⟩
  rw [hPe] at H3 H4
  clear hPe
  replace H4 := hide H4
  have H5 := n10 hx hy hy0
  rw [numA_in hQ] at H5
  replace H5 := hide H5
  obtain ⟨M, R, hM, hR, r1, r2, r3, r4⟩ := rest_spec x y hy0
  obtain ⟨Q, hQe⟩ : ∃ Q, Int.tdiv x y = Q := ⟨_, rfl⟩
  rw [hQe] at H5 hM
  have hxb : -9223372036854775808 ≤ x ∧ x ≤ 9223372036854775807 := hx
  have hyb : -9223372036854775808 ≤ y ∧ y ≤ 9223372036854775807 := hy
  have hMb : -9223372036854775808 ≤ M ∧ M ≤ 9223372036854775807 := by omega
  have hRb : -9223372036854775808 ≤ R ∧ R ≤ 9223372036854775807 := by omega
  have HF := hide (And.intro r1 (And.intro r2 (And.intro r3 (And.intro r4 (And.intro h0 (And.intro hxb hyb))))))
  clear hQe
  clear hx hy h0 hS hP hQ hy0 r1 r2 r3 r4 hxb hyb
  go_enter Tryz.func4, Tryz.ntmps4
  have K1 := hide (((KR.nil w).add (w.heap.size) (nvC x) (by first | rfl | simp)).add (w.heap.size + 1) (nvC y) (by first | rfl | simp))
  go_wp2_with fail
  refine (H1.out _).mono ?_
  rintro e_ w2 ⟨rfl, b_⟩
  have K2 := hide (K1.out.ext b_)
  clear b_
  have K3 := hide (K2.out.add (w2.heap.size) zvC (by first | rfl | simp))
  have x_0 : (w2.alloc (.cells zvC 24)).cell? ⟨w.heap.size, 0, none⟩ = _ := K3.out.cell (p := w.heap.size) (cs := (nvC x)) (i := 0) (.tail _ (.tail _ (.head _))) rfl
  have x_1 : (w2.alloc (.cells zvC 24)).cell? ⟨w.heap.size, 1, none⟩ = _ := K3.out.cell (p := w.heap.size) (cs := (nvC x)) (i := 1) (.tail _ (.tail _ (.head _))) rfl
  have x_2 : (w2.alloc (.cells zvC 24)).cell? ⟨w.heap.size, 2, none⟩ = _ := K3.out.cell (p := w.heap.size) (cs := (nvC x)) (i := 2) (.tail _ (.tail _ (.head _))) rfl
  have x_3 : (w2.alloc (.cells zvC 24)).cell? ⟨w.heap.size, 3, none⟩ = _ := K3.out.cell (p := w.heap.size) (cs := (nvC x)) (i := 3) (.tail _ (.tail _ (.head _))) rfl
  have y_0 : (w2.alloc (.cells zvC 24)).cell? ⟨w.heap.size + 1, 0, none⟩ = _ := K3.out.cell (p := w.heap.size + 1) (cs := (nvC y)) (i := 0) (.tail _ (.head _)) rfl
  have y_1 : (w2.alloc (.cells zvC 24)).cell? ⟨w.heap.size + 1, 1, none⟩ = _ := K3.out.cell (p := w.heap.size + 1) (cs := (nvC y)) (i := 1) (.tail _ (.head _)) rfl
  have y_2 : (w2.alloc (.cells zvC 24)).cell? ⟨w.heap.size + 1, 2, none⟩ = _ := K3.out.cell (p := w.heap.size + 1) (cs := (nvC y)) (i := 2) (.tail _ (.head _)) rfl
  have y_3 : (w2.alloc (.cells zvC 24)).cell? ⟨w.heap.size + 1, 3, none⟩ = _ := K3.out.cell (p := w.heap.size + 1) (cs := (nvC y)) (i := 3) (.tail _ (.head _)) rfl
  go_wp2_with fail
  refine (H3.out _).mono ?_
  rintro e_ w4 ⟨rfl, b_⟩
  have K4 := hide (K3.out.ext b_)
  clear b_ x_0 x_1 x_2 x_3 y_0 y_1 y_2 y_3
  have K5 := hide (K4.out.add (w4.heap.size) (nvC P) (by first | rfl | simp))
  have p_0 : (w4.alloc (.cells (nvC P) 24)).cell? ⟨w4.heap.size, 0, none⟩ = _ := K5.out.cell (p := w4.heap.size) (cs := (nvC P)) (i := 0) (.head _) rfl
  have p_1 : (w4.alloc (.cells (nvC P) 24)).cell? ⟨w4.heap.size, 1, none⟩ = _ := K5.out.cell (p := w4.heap.size) (cs := (nvC P)) (i := 1) (.head _) rfl
  have p_2 : (w4.alloc (.cells (nvC P) 24)).cell? ⟨w4.heap.size, 2, none⟩ = _ := K5.out.cell (p := w4.heap.size) (cs := (nvC P)) (i := 2) (.head _) rfl
  have p_3 : (w4.alloc (.cells (nvC P) 24)).cell? ⟨w4.heap.size, 3, none⟩ = _ := K5.out.cell (p := w4.heap.size) (cs := (nvC P)) (i := 3) (.head _) rfl
  have y_0 : (w4.alloc (.cells (nvC P) 24)).cell? ⟨w.heap.size + 1, 0, none⟩ = _ := K5.out.cell (p := w.heap.size + 1) (cs := (nvC y)) (i := 0) (.tail _ (.tail _ (.head _))) rfl
  have y_1 : (w4.alloc (.cells (nvC P) 24)).cell? ⟨w.heap.size + 1, 1, none⟩ = _ := K5.out.cell (p := w.heap.size + 1) (cs := (nvC y)) (i := 1) (.tail _ (.tail _ (.head _))) rfl
  have y_2 : (w4.alloc (.cells (nvC P) 24)).cell? ⟨w.heap.size + 1, 2, none⟩ = _ := K5.out.cell (p := w.heap.size + 1) (cs := (nvC y)) (i := 2) (.tail _ (.tail _ (.head _))) rfl
  have y_3 : (w4.alloc (.cells (nvC P) 24)).cell? ⟨w.heap.size + 1, 3, none⟩ = _ := K5.out.cell (p := w.heap.size + 1) (cs := (nvC y)) (i := 3) (.tail _ (.tail _ (.head _))) rfl
  go_wp2_with fail
  refine (H4.out _).mono ?_
  rintro e_ w6 ⟨rfl, b_⟩
  have K6 := hide (K5.out.ext b_)
  clear b_ p_0 p_1 p_2 p_3 y_0 y_1 y_2 y_3
  have K7 := hide (K6.out.add (w6.heap.size) (nvC x) (by first | rfl | simp))
  have d2_1 : (w6.alloc (.cells (nvC x) 24)).cell? ⟨w6.heap.size, 1, none⟩ = _ := K7.out.cell (p := w6.heap.size) (cs := (nvC x)) (i := 1) (.head _) rfl
  have p_1 : (w6.alloc (.cells (nvC x) 24)).cell? ⟨w4.heap.size, 1, none⟩ = _ := K7.out.cell (p := w4.heap.size) (cs := (nvC P)) (i := 1) (.tail _ (.head _)) rfl
  have x_0 : (w6.alloc (.cells (nvC x) 24)).cell? ⟨w.heap.size, 0, none⟩ = _ := K7.out.cell (p := w.heap.size) (cs := (nvC x)) (i := 0) (.tail _ (.tail _ (.tail _ (.tail _ (.head _))))) rfl
  have x_1 : (w6.alloc (.cells (nvC x) 24)).cell? ⟨w.heap.size, 1, none⟩ = _ := K7.out.cell (p := w.heap.size) (cs := (nvC x)) (i := 1) (.tail _ (.tail _ (.tail _ (.tail _ (.head _))))) rfl
  have x_2 : (w6.alloc (.cells (nvC x) 24)).cell? ⟨w.heap.size, 2, none⟩ = _ := K7.out.cell (p := w.heap.size) (cs := (nvC x)) (i := 2) (.tail _ (.tail _ (.tail _ (.tail _ (.head _))))) rfl
  have x_3 : (w6.alloc (.cells (nvC x) 24)).cell? ⟨w.heap.size, 3, none⟩ = _ := K7.out.cell (p := w.heap.size) (cs := (nvC x)) (i := 3) (.tail _ (.tail _ (.tail _ (.tail _ (.head _))))) rfl
  have y_0 : (w6.alloc (.cells (nvC x) 24)).cell? ⟨w.heap.size + 1, 0, none⟩ = _ := K7.out.cell (p := w.heap.size + 1) (cs := (nvC y)) (i := 0) (.tail _ (.tail _ (.tail _ (.head _)))) rfl
  have y_1 : (w6.alloc (.cells (nvC x) 24)).cell? ⟨w.heap.size + 1, 1, none⟩ = _ := K7.out.cell (p := w.heap.size + 1) (cs := (nvC y)) (i := 1) (.tail _ (.tail _ (.tail _ (.head _)))) rfl
  have y_2 : (w6.alloc (.cells (nvC x) 24)).cell? ⟨w.heap.size + 1, 2, none⟩ = _ := K7.out.cell (p := w.heap.size + 1) (cs := (nvC y)) (i := 2) (.tail _ (.tail _ (.tail _ (.head _)))) rfl
  have y_3 : (w6.alloc (.cells (nvC x) 24)).cell? ⟨w.heap.size + 1, 3, none⟩ = _ := K7.out.cell (p := w.heap.size + 1) (cs := (nvC y)) (i := 3) (.tail _ (.tail _ (.tail _ (.head _)))) rfl
  go_wp2_with fail
  refine (H5.out _).mono ?_
  rintro e_ w8 ⟨rfl, b_⟩
  have K8 := hide (K7.out.ext b_)
  clear b_ d2_1 p_1 x_0 x_1 x_2 x_3 y_0 y_1 y_2 y_3
  have K9 := hide (K8.out.add (w8.heap.size) (nvC Q) (by first | rfl | simp))
  have q_1 : (w8.alloc (.cells (nvC Q) 24)).cell? ⟨w8.heap.size, 1, none⟩ = _ := K9.out.cell (p := w8.heap.size) (cs := (nvC Q)) (i := 1) (.head _) rfl
  obtain ⟨r1, r2, r3, r4, h0, hxb, hyb⟩ := HF.out
  by_cases hz : R = 0
  · have a1 : decide (0 ≤ R) = true := decide_eq_true (by omega)
    have a2 : decide (R < 0) = false := decide_eq_false (by omega)
    have a0 : (R == 0) = true := by simpa using hz
    clear hz
    by_cases hmin : y = -9223372036854775808
    · have a5 : IntKind.i64.wrap (-y) = -9223372036854775808 := by rw [hmin]; decide
      have a4 : decide (R < -9223372036854775808) = false := decide_eq_false (by omega)
      have a6 : (y == -9223372036854775808) = true := by simpa using hmin
      clear hmin
      clear r1 r2 r3 r4 h0 hxb hyb
      go_wp2_with fail
      refine (HW.out _).mono ?_
      rintro e_ wz ⟨rfl, b_⟩
      have KZ := hide (K9.out.ext b_)
      clear b_
      go_wp2
      go_ret
      exact ⟨rfl, KZ.out.bel⟩
    · have a5 : IntKind.i64.wrap (-y) = -y := by rw [IntKind.wrap_i64]; omega
      have a4 : decide (R < -y) = true := decide_eq_true (by omega)
      clear hmin
      clear r1 r2 r3 r4 h0 hxb hyb
      go_wp2_with fail
      refine (HW.out _).mono ?_
      rintro e_ wz ⟨rfl, b_⟩
      have KZ := hide (K9.out.ext b_)
      clear b_
      go_wp2
      go_ret
      exact ⟨rfl, KZ.out.bel⟩
  · have hg : ¬ 0 < R := by have := of_decide_eq_true dx; omega
    have a2 : decide (R < 0) = true := decide_eq_true (by omega)
    have a3 : decide (y < R) = true := decide_eq_true (by omega)
    have a0 : (R == 0) = false := by simpa using hz
    clear hz hg
    clear r1 r2 r3 r4 h0 hxb hyb
    go_wp2_with fail
    refine (HW.out _).mono ?_
    rintro e_ wz ⟨rfl, b_⟩
    have KZ := hide (K9.out.ext b_)
    clear b_
    go_wp2
    go_ret
    exact ⟨rfl, KZ.out.bel⟩
set_option maxRecDepth 100000 in
set_option maxHeartbeats 8000000 in
theorem ints_n001 {x y : Int} (hx : inB x) (hy : inB y) (h0 : y < 0) (hS : ¬ inB (x + y)) (hP : ¬ inB (x * y)) (hQ : inB (Int.tdiv x y)) : Says 4 #[.int .i64 x, .int .i64 y] (.bool true) := by
  intro w
  have HW := hide awake_any
  have hy0 : y ≠ 0 := by omega
  have y0 : (y == 0) = false := by simpa using hy0
  have y1 : (y != 0) = true := by simpa using hy0
  have dp : decide (0 < y) = false := decide_eq_false (by omega)
  have dn : decide (y < 0) = true := decide_eq_true (by omega)
  have H1 := n7 hx hy
  rw [numA_out hS] at H1
  replace H1 := hide H1
  have dx : decide (x < 0) = true := decide_eq_true (by unfold inB at *; omega)
  have H3 := n9 hx hy
  rw [numA_out hP] at H3
  replace H3 := hide H3
  have H5 := n10 hx hy hy0
  rw [numA_in hQ] at H5
  replace H5 := hide H5
  obtain ⟨M, R, hM, hR, r1, r2, r3, r4⟩ := rest_spec x y hy0
  obtain ⟨Q, hQe⟩ : ∃ Q, Int.tdiv x y = Q := ⟨_, rfl⟩
  rw [hQe] at H5 hM
  have hxb : -9223372036854775808 ≤ x ∧ x ≤ 9223372036854775807 := hx
  have hyb : -9223372036854775808 ≤ y ∧ y ≤ 9223372036854775807 := hy
  have hMb : -9223372036854775808 ≤ M ∧ M ≤ 9223372036854775807 := by omega
  have hRb : -9223372036854775808 ≤ R ∧ R ≤ 9223372036854775807 := by omega
  have HF := hide (And.intro r1 (And.intro r2 (And.intro r3 (And.intro r4 (And.intro h0 (And.intro hxb hyb))))))
  clear hQe
  clear hx hy h0 hS hP hQ hy0 r1 r2 r3 r4 hxb hyb
  go_enter Tryz.func4, Tryz.ntmps4
  have K1 := hide (((KR.nil w).add (w.heap.size) (nvC x) (by first | rfl | simp)).add (w.heap.size + 1) (nvC y) (by first | rfl | simp))
  go_wp2_with fail
  refine (H1.out _).mono ?_
  rintro e_ w2 ⟨rfl, b_⟩
  have K2 := hide (K1.out.ext b_)
  clear b_
  have K3 := hide (K2.out.add (w2.heap.size) zvC (by first | rfl | simp))
  have x_0 : (w2.alloc (.cells zvC 24)).cell? ⟨w.heap.size, 0, none⟩ = _ := K3.out.cell (p := w.heap.size) (cs := (nvC x)) (i := 0) (.tail _ (.tail _ (.head _))) rfl
  have x_1 : (w2.alloc (.cells zvC 24)).cell? ⟨w.heap.size, 1, none⟩ = _ := K3.out.cell (p := w.heap.size) (cs := (nvC x)) (i := 1) (.tail _ (.tail _ (.head _))) rfl
  have x_2 : (w2.alloc (.cells zvC 24)).cell? ⟨w.heap.size, 2, none⟩ = _ := K3.out.cell (p := w.heap.size) (cs := (nvC x)) (i := 2) (.tail _ (.tail _ (.head _))) rfl
  have x_3 : (w2.alloc (.cells zvC 24)).cell? ⟨w.heap.size, 3, none⟩ = _ := K3.out.cell (p := w.heap.size) (cs := (nvC x)) (i := 3) (.tail _ (.tail _ (.head _))) rfl
  have y_0 : (w2.alloc (.cells zvC 24)).cell? ⟨w.heap.size + 1, 0, none⟩ = _ := K3.out.cell (p := w.heap.size + 1) (cs := (nvC y)) (i := 0) (.tail _ (.head _)) rfl
  have y_1 : (w2.alloc (.cells zvC 24)).cell? ⟨w.heap.size + 1, 1, none⟩ = _ := K3.out.cell (p := w.heap.size + 1) (cs := (nvC y)) (i := 1) (.tail _ (.head _)) rfl
  have y_2 : (w2.alloc (.cells zvC 24)).cell? ⟨w.heap.size + 1, 2, none⟩ = _ := K3.out.cell (p := w.heap.size + 1) (cs := (nvC y)) (i := 2) (.tail _ (.head _)) rfl
  have y_3 : (w2.alloc (.cells zvC 24)).cell? ⟨w.heap.size + 1, 3, none⟩ = _ := K3.out.cell (p := w.heap.size + 1) (cs := (nvC y)) (i := 3) (.tail _ (.head _)) rfl
  go_wp2_with fail
  refine (H3.out _).mono ?_
  rintro e_ w4 ⟨rfl, b_⟩
  have K4 := hide (K3.out.ext b_)
  clear b_ x_0 x_1 x_2 x_3 y_0 y_1 y_2 y_3
  have K5 := hide (K4.out.add (w4.heap.size) zvC (by first | rfl | simp))
  have x_0 : (w4.alloc (.cells zvC 24)).cell? ⟨w.heap.size, 0, none⟩ = _ := K5.out.cell (p := w.heap.size) (cs := (nvC x)) (i := 0) (.tail _ (.tail _ (.tail _ (.head _)))) rfl
  have x_1 : (w4.alloc (.cells zvC 24)).cell? ⟨w.heap.size, 1, none⟩ = _ := K5.out.cell (p := w.heap.size) (cs := (nvC x)) (i := 1) (.tail _ (.tail _ (.tail _ (.head _)))) rfl
  have x_2 : (w4.alloc (.cells zvC 24)).cell? ⟨w.heap.size, 2, none⟩ = _ := K5.out.cell (p := w.heap.size) (cs := (nvC x)) (i := 2) (.tail _ (.tail _ (.tail _ (.head _)))) rfl
  have x_3 : (w4.alloc (.cells zvC 24)).cell? ⟨w.heap.size, 3, none⟩ = _ := K5.out.cell (p := w.heap.size) (cs := (nvC x)) (i := 3) (.tail _ (.tail _ (.tail _ (.head _)))) rfl
  have y_0 : (w4.alloc (.cells zvC 24)).cell? ⟨w.heap.size + 1, 0, none⟩ = _ := K5.out.cell (p := w.heap.size + 1) (cs := (nvC y)) (i := 0) (.tail _ (.tail _ (.head _))) rfl
  have y_1 : (w4.alloc (.cells zvC 24)).cell? ⟨w.heap.size + 1, 1, none⟩ = _ := K5.out.cell (p := w.heap.size + 1) (cs := (nvC y)) (i := 1) (.tail _ (.tail _ (.head _))) rfl
  have y_2 : (w4.alloc (.cells zvC 24)).cell? ⟨w.heap.size + 1, 2, none⟩ = _ := K5.out.cell (p := w.heap.size + 1) (cs := (nvC y)) (i := 2) (.tail _ (.tail _ (.head _))) rfl
  have y_3 : (w4.alloc (.cells zvC 24)).cell? ⟨w.heap.size + 1, 3, none⟩ = _ := K5.out.cell (p := w.heap.size + 1) (cs := (nvC y)) (i := 3) (.tail _ (.tail _ (.head _))) rfl
  go_wp2_with fail
  refine (H5.out _).mono ?_
  rintro e_ w6 ⟨rfl, b_⟩
  have K6 := hide (K5.out.ext b_)
  clear b_ x_0 x_1 x_2 x_3 y_0 y_1 y_2 y_3
  have K7 := hide (K6.out.add (w6.heap.size) (nvC Q) (by first | rfl | simp))
  have q_1 : (w6.alloc (.cells (nvC Q) 24)).cell? ⟨w6.heap.size, 1, none⟩ = _ := K7.out.cell (p := w6.heap.size) (cs := (nvC Q)) (i := 1) (.head _) rfl
  obtain ⟨r1, r2, r3, r4, h0, hxb, hyb⟩ := HF.out
  by_cases hz : R = 0
  · have a1 : decide (0 ≤ R) = true := decide_eq_true (by omega)
    have a2 : decide (R < 0) = false := decide_eq_false (by omega)
    have a0 : (R == 0) = true := by simpa using hz
    clear hz
    by_cases hmin : y = -9223372036854775808
    · have a5 : IntKind.i64.wrap (-y) = -9223372036854775808 := by rw [hmin]; decide
      have a4 : decide (R < -9223372036854775808) = false := decide_eq_false (by omega)
      have a6 : (y == -9223372036854775808) = true := by simpa using hmin
      clear hmin
      clear r1 r2 r3 r4 h0 hxb hyb
      go_wp2_with fail
      refine (HW.out _).mono ?_
      rintro e_ wz ⟨rfl, b_⟩
      have KZ := hide (K7.out.ext b_)
      clear b_
      go_wp2
      go_ret
      exact ⟨rfl, KZ.out.bel⟩
    · have a5 : IntKind.i64.wrap (-y) = -y := by rw [IntKind.wrap_i64]; omega
      have a4 : decide (R < -y) = true := decide_eq_true (by omega)
      clear hmin
      clear r1 r2 r3 r4 h0 hxb hyb
      go_wp2_with fail
      refine (HW.out _).mono ?_
      rintro e_ wz ⟨rfl, b_⟩
      have KZ := hide (K7.out.ext b_)
      clear b_
      go_wp2
      go_ret
      exact ⟨rfl, KZ.out.bel⟩
  · have hg : ¬ 0 < R := by have := of_decide_eq_true dx; omega
    have a2 : decide (R < 0) = true := decide_eq_true (by omega)
    have a3 : decide (y < R) = true := decide_eq_true (by omega)
    have a0 : (R == 0) = false := by simpa using hz
    clear hz hg
    clear r1 r2 r3 r4 h0 hxb hyb
    go_wp2_with fail
    refine (HW.out _).mono ?_
    rintro e_ wz ⟨rfl, b_⟩
    have KZ := hide (K7.out.ext b_)
    clear b_
    go_wp2
    go_ret
    exact ⟨rfl, KZ.out.bel⟩
set_option maxRecDepth 100000 in
set_option maxHeartbeats 8000000 in
theorem ints_n000 {x y : Int} (hx : inB x) (hy : inB y) (h0 : y < 0) (hS : ¬ inB (x + y)) (hP : ¬ inB (x * y)) (hQ : ¬ inB (Int.tdiv x y)) : Says 4 #[.int .i64 x, .int .i64 y] (.bool true) := by
  intro w
  have HW := hide awake_any
  have hy0 : y ≠ 0 := by omega
  have y0 : (y == 0) = false := by simpa using hy0
  have y1 : (y != 0) = true := by simpa using hy0
  have dp : decide (0 < y) = false := decide_eq_false (by omega)
  have dn : decide (y < 0) = true := decide_eq_true (by omega)
  have H1 := n7 hx hy
  rw [numA_out hS] at H1
  replace H1 := hide H1
  have dx : decide (x < 0) = true := decide_eq_true (by unfold inB at *; omega)
  have H3 := n9 hx hy
  rw [numA_out hP] at H3
  replace H3 := hide H3
  have H5 := n10 hx hy hy0
  rw [numA_out hQ] at H5
  replace H5 := hide H5
  obtain ⟨hxm, hym⟩ := out_quot hx hy0 hQ
  clear hx hy h0 hS hP hQ hy0
  subst hxm
  subst hym
  go_enter Tryz.func4, Tryz.ntmps4
  have K1 := hide (((KR.nil w).add (w.heap.size) (nvC (-9223372036854775808)) (by first | rfl | simp)).add (w.heap.size + 1) (nvC (-1)) (by first | rfl | simp))
  go_wp2_with fail
  refine (H1.out _).mono ?_
  rintro e_ w2 ⟨rfl, b_⟩
  have K2 := hide (K1.out.ext b_)
  clear b_
  have K3 := hide (K2.out.add (w2.heap.size) zvC (by first | rfl | simp))
  have x_0 : (w2.alloc (.cells zvC 24)).cell? ⟨w.heap.size, 0, none⟩ = _ := K3.out.cell (p := w.heap.size) (cs := (nvC (-9223372036854775808))) (i := 0) (.tail _ (.tail _ (.head _))) rfl
  have x_1 : (w2.alloc (.cells zvC 24)).cell? ⟨w.heap.size, 1, none⟩ = _ := K3.out.cell (p := w.heap.size) (cs := (nvC (-9223372036854775808))) (i := 1) (.tail _ (.tail _ (.head _))) rfl
  have x_2 : (w2.alloc (.cells zvC 24)).cell? ⟨w.heap.size, 2, none⟩ = _ := K3.out.cell (p := w.heap.size) (cs := (nvC (-9223372036854775808))) (i := 2) (.tail _ (.tail _ (.head _))) rfl
  have x_3 : (w2.alloc (.cells zvC 24)).cell? ⟨w.heap.size, 3, none⟩ = _ := K3.out.cell (p := w.heap.size) (cs := (nvC (-9223372036854775808))) (i := 3) (.tail _ (.tail _ (.head _))) rfl
  have y_0 : (w2.alloc (.cells zvC 24)).cell? ⟨w.heap.size + 1, 0, none⟩ = _ := K3.out.cell (p := w.heap.size + 1) (cs := (nvC (-1))) (i := 0) (.tail _ (.head _)) rfl
  have y_1 : (w2.alloc (.cells zvC 24)).cell? ⟨w.heap.size + 1, 1, none⟩ = _ := K3.out.cell (p := w.heap.size + 1) (cs := (nvC (-1))) (i := 1) (.tail _ (.head _)) rfl
  have y_2 : (w2.alloc (.cells zvC 24)).cell? ⟨w.heap.size + 1, 2, none⟩ = _ := K3.out.cell (p := w.heap.size + 1) (cs := (nvC (-1))) (i := 2) (.tail _ (.head _)) rfl
  have y_3 : (w2.alloc (.cells zvC 24)).cell? ⟨w.heap.size + 1, 3, none⟩ = _ := K3.out.cell (p := w.heap.size + 1) (cs := (nvC (-1))) (i := 3) (.tail _ (.head _)) rfl
  go_wp2_with fail
  refine (H3.out _).mono ?_
  rintro e_ w4 ⟨rfl, b_⟩
  have K4 := hide (K3.out.ext b_)
  clear b_ x_0 x_1 x_2 x_3 y_0 y_1 y_2 y_3
  have K5 := hide (K4.out.add (w4.heap.size) zvC (by first | rfl | simp))
  have x_0 : (w4.alloc (.cells zvC 24)).cell? ⟨w.heap.size, 0, none⟩ = _ := K5.out.cell (p := w.heap.size) (cs := (nvC (-9223372036854775808))) (i := 0) (.tail _ (.tail _ (.tail _ (.head _)))) rfl
  have x_1 : (w4.alloc (.cells zvC 24)).cell? ⟨w.heap.size, 1, none⟩ = _ := K5.out.cell (p := w.heap.size) (cs := (nvC (-9223372036854775808))) (i := 1) (.tail _ (.tail _ (.tail _ (.head _)))) rfl
  have x_2 : (w4.alloc (.cells zvC 24)).cell? ⟨w.heap.size, 2, none⟩ = _ := K5.out.cell (p := w.heap.size) (cs := (nvC (-9223372036854775808))) (i := 2) (.tail _ (.tail _ (.tail _ (.head _)))) rfl
  have x_3 : (w4.alloc (.cells zvC 24)).cell? ⟨w.heap.size, 3, none⟩ = _ := K5.out.cell (p := w.heap.size) (cs := (nvC (-9223372036854775808))) (i := 3) (.tail _ (.tail _ (.tail _ (.head _)))) rfl
  have y_0 : (w4.alloc (.cells zvC 24)).cell? ⟨w.heap.size + 1, 0, none⟩ = _ := K5.out.cell (p := w.heap.size + 1) (cs := (nvC (-1))) (i := 0) (.tail _ (.tail _ (.head _))) rfl
  have y_1 : (w4.alloc (.cells zvC 24)).cell? ⟨w.heap.size + 1, 1, none⟩ = _ := K5.out.cell (p := w.heap.size + 1) (cs := (nvC (-1))) (i := 1) (.tail _ (.tail _ (.head _))) rfl
  have y_2 : (w4.alloc (.cells zvC 24)).cell? ⟨w.heap.size + 1, 2, none⟩ = _ := K5.out.cell (p := w.heap.size + 1) (cs := (nvC (-1))) (i := 2) (.tail _ (.tail _ (.head _))) rfl
  have y_3 : (w4.alloc (.cells zvC 24)).cell? ⟨w.heap.size + 1, 3, none⟩ = _ := K5.out.cell (p := w.heap.size + 1) (cs := (nvC (-1))) (i := 3) (.tail _ (.tail _ (.head _))) rfl
  go_wp2_with fail
  refine (H5.out _).mono ?_
  rintro e_ w6 ⟨rfl, b_⟩
  have K6 := hide (K5.out.ext b_)
  clear b_ x_0 x_1 x_2 x_3 y_0 y_1 y_2 y_3
  have K7 := hide (K6.out.add (w6.heap.size) zvC (by first | rfl | simp))
  go_wp2_with fail
  refine (HW.out _).mono ?_
  rintro e_ w8 ⟨rfl, b_⟩
  have K8 := hide (K7.out.ext b_)
  clear b_
  go_wp2
  go_ret
  exact ⟨rfl, K8.out.bel⟩
theorem OpInts_any {x y : Int} (hx : inB x) (hy : inB y) : Says 4 #[.int .i64 x, .int .i64 y] (.bool true) := by
  have hq : y ≠ 0 → y ≠ -1 → inB (Int.tdiv x y) := fun h0 h1 => tdiv_in hx h0 h1
  by_cases hz : y = 0
  · subst hz; exact ints_z hx
  by_cases h0 : 0 < y
  · have hQ := hq hz (by omega)
    by_cases hS : inB (x + y) <;> by_cases hP : inB (x * y)
    · exact ints_p11 hx hy h0 hS hP hQ
    · exact ints_p10 hx hy h0 hS hP hQ
    · exact ints_p01 hx hy h0 hS hP hQ
    · exact ints_p00 hx hy h0 hS hP hQ
  · have hn : y < 0 := by omega
    by_cases hQ : inB (Int.tdiv x y)
    · by_cases hS : inB (x + y) <;> by_cases hP : inB (x * y)
      · exact ints_n111 hx hy hn hS hP hQ
      · exact ints_n101 hx hy hn hS hP hQ
      · exact ints_n011 hx hy hn hS hP hQ
      · exact ints_n001 hx hy hn hS hP hQ
    · obtain ⟨hxm, hym⟩ := out_quot hx hz hQ
      exact ints_n000 hx hy hn (by subst hxm; subst hym; decide) (by subst hxm; subst hym; decide) hQ
end Go.Proofs.YtlfhppicglfinaaGreat
