/- Points and fractions, and their sums, as the program answers them. -/
import Derived.Test.YtobgimpkkjaolaaGreatDoorCst
namespace Go.Proofs.YtobgimpkkjaolaaGreatDoor
open Go.RowKit
def fpx (x1 y1 z1 x2 y2 z2 : Kp) : Kp := z1 * z2 * (x1 * y2 + x2 * y1) * (z1 * z2 * (z1 * z2) - dd * (x1 * x2) * (y1 * y2))
def fpy (x1 y1 z1 x2 y2 z2 : Kp) : Kp := z1 * z2 * (y1 * y2 + x1 * x2) * (z1 * z2 * (z1 * z2) + dd * (x1 * x2) * (y1 * y2))
def fpz (x1 y1 z1 x2 y2 z2 : Kp) : Kp := (z1 * z2 * (z1 * z2) + dd * (x1 * x2) * (y1 * y2)) * (z1 * z2 * (z1 * z2) - dd * (x1 * x2) * (y1 * y2))
theorem k_same_t {x y : Kp} {u v : Value} {w : World} (h1 : u = .agg (el x.val)) (h2 : v = .agg (el y.val)) (h : x = y) : Hands Tryz.prog 109 #[u, v] w (isv (.bool true)) := by
  have := k_same (w := w) h1 h2
  rwa [decide_eq_true h] at this
theorem k_same_f {x y : Kp} {u v : Value} {w : World} (h1 : u = .agg (el x.val)) (h2 : v = .agg (el y.val)) (h : ¬ x = y) : Hands Tryz.prog 109 #[u, v] w (isv (.bool false)) := by
  have := k_same (w := w) h1 h2
  rwa [decide_eq_false h] at this
set_option maxRecDepth 100000 in
set_option maxHeartbeats 2000000 in
theorem p_at {x y : Kp} {u0 u1 : Value} {w : World} (h0 : u0 = .agg (el x.val)) (h1 : u1 = .agg (el y.val))  : Hands Tryz.prog 56 #[u0, u1] w (ipt x y) := by
  subst h0 h1
  suffices HH : ∀ R_ : STy, (∀ W, R_.p W (.agg (pe x (y - 1)))) → Hands Tryz.prog 56 #[.agg (el x.val), .agg (el y.val)] w R_ from HH _ (fun _ => rfl)
  intro R_ hR_
  obtain ⟨A0, hA0⟩ : ∃ A_, A_ = el x.val := ⟨_, rfl⟩
  rw [← hA0]
  obtain ⟨A1, hA1⟩ : ∃ A_, A_ = el y.val := ⟨_, rfl⟩
  rw [← hA1]
  have EA0 := hide hA0
  clear hA0
  have EA1 := hide hA1
  clear hA1
  have HR := hide hR_
  clear hR_
  unfold Hands
  go_enter Tryz.func56, Tryz.ntmps56
  go_upto_region 1 with fail
  refine cut_world (fun W => Below w.heap.size w W ∧ (w.heap.size < W.heap.size ∧ W.heap[w.heap.size]? = some (.cells A0 47 (0, 0))) ∧ (w.heap.size + 1 < W.heap.size ∧ W.heap[w.heap.size + 1]? = some (.cells A1 47 (0, 0))) ∧ (w.heap.size + 1 + 1 < W.heap.size ∧ W.heap[w.heap.size + 1 + 1]? = some (.cells zp 49 (0, 0)))) ⟨below3 _ _ _ _, ⟨by simp; omega, heap3_0 _ _ _ _⟩, ⟨by simp, heap_alloc_mid3 _ _ _ _⟩, by simp, heap_alloc_last3 _ _ _ _⟩ ?_
  rintro W1 ⟨BEL, R2, R3, R4⟩
  replace BEL := hide BEL
  have SZ := hide BEL.out.size
  replace R2 := hide R2
  replace R3 := hide R3
  replace R4 := hide R4
  have hA0 := EA0.out
  subst hA0
  have hA1 := EA1.out
  subst hA1
  clear EA0 EA1
  have SW1 := (R4.out.1)
  refine wrt3 (tl := [isv (.pointer (some ⟨w.heap.size, 0, none⟩)), isk x, isv (.pointer (some ⟨w.heap.size + 1, 0, none⟩)), isk y, isk (1 : Kp), isk (y - (1 : Kp)), ipt x y]) (pre := [(2, 0), (3, 2)])
    (plan := [.val [(2, 0)] 1, .val [(3, 2)] 3, .val [] 4, .val [(6, 3), (7, 4)] 5, .val [(5, 1), (8, 5)] 6, .put 0 4 9 6])
    [] [(w.heap.size + 1 + 1, 49, 8)] [(0, 4)] (by kernel_rfl) 10 (by kernel_rfl) rfl (by kernel_rfl) ⟨.inr (lv0 _ _ _), ⟨.inr (lull_k _ _ _), ⟨.inr (lv0 _ _ _), ⟨.inr (lull_k _ _ _), ⟨.inr (lull_k _ _ _), ⟨.inr (lull_k _ _ _), ⟨.inr (lull_p _ _ _ _), trivial⟩⟩⟩⟩⟩⟩⟩
    (snkAt1 R4.out rfl rfl) (snk1 _) ⟨rfl, ⟨rfl, trivial⟩⟩
   (Oc3 (fun a w X_ h => g_ldk (wq0 rfl) rfl h.1 (X_.at_ R2.out.1 (out1 (by omega)) R2.out.2))
   (Oc3 (fun a w X_ h => g_ldk (wq0 rfl) rfl h.1 (X_.at_ R3.out.1 (out1 (by omega)) R3.out.2))
   (Oc3 (fun a w X_ h => g_call1 (wq0 rfl) (by kernel_rfl) rfl (k_one rfl))
   (Oc3 (fun a w X_ h => g_call2 (wq0 rfl) (by kernel_rfl) rfl (k_sub h.1 h.2.1))
   (Oc3 (fun a w X_ h => g_pe (wq0 rfl) rfl h.1 h.2.1)
   (Oc3 (⟨rfl, _, _, _, rfl, rfl, by kernel_rfl, row_p _ _⟩)
      OkL3.nil)))))) ?_
  rintro W2 X2 _ rfl _ rfl _ rfl _ rfl _ rfl c4 r4 H4
  refine Fd3 ?_
  simp only [Act.put, List.setIfInBounds_toArray, List.set_cons_zero, List.set_cons_succ]
  obtain rfl : c4 = pe x (y - 1) := agg_inj H4
  replace R4 := hide (And.intro (Nat.lt_of_lt_of_le R4.out.1 X2.size) r4)
  clear r4
  replace R2 := hide (X2.row (out1 (by omega)) R2.out)
  replace R3 := hide (X2.row (out1 (by omega)) R3.out)
  replace BEL := hide (X2.on BEL.out SZ.out (one_le (by omega)))
  replace SZ := hide BEL.out.size
  have SW2 := X2.size
  clear X2
  go_wp2
  exact bodyPost_ret_by (results_cell_row rfl _ _ (w.heap.size + 1 + 1) 49 _ (0, 0) _ rfl R4.out.2 Tryz.underlying49 rfl (by kernel_rfl)) rfl ⟨_, rfl, BEL.out, HR.out _⟩
set_option maxRecDepth 100000 in
set_option maxHeartbeats 2000000 in
theorem p_frac {x y : Kp} {u0 : Value} {w : World} (h0 : u0 = .agg (pe x (y - 1)))  : Hands Tryz.prog 59 #[u0] w (ifr x y (1 : Kp)) := by
  subst h0
  suffices HH : ∀ R_ : STy, (∀ W, R_.p W (.agg (fe x y (1 : Kp)))) → Hands Tryz.prog 59 #[.agg (pe x (y - 1))] w R_ from HH _ (fun _ => rfl)
  intro R_ hR_
  obtain ⟨A0, hA0⟩ : ∃ A_, A_ = pe x (y - 1) := ⟨_, rfl⟩
  rw [← hA0]
  have EA0 := hide hA0
  clear hA0
  have HR := hide hR_
  clear hR_
  unfold Hands
  go_enter Tryz.func59, Tryz.ntmps59
  go_upto_region 1 with fail
  refine cut_world (fun W => Below w.heap.size w W ∧ (w.heap.size < W.heap.size ∧ W.heap[w.heap.size]? = some (.cells A0 49 (0, 0))) ∧ (w.heap.size + 1 < W.heap.size ∧ W.heap[w.heap.size + 1]? = some (.cells zf 87 (0, 0)))) ⟨below2 _ _ _, ⟨by simp; omega, heap2_0 _ _ _⟩, by simp, heap2_1 _ _ _⟩ ?_
  rintro W1 ⟨BEL, R1, R2⟩
  replace BEL := hide BEL
  have SZ := hide BEL.out.size
  replace R1 := hide R1
  replace R2 := hide R2
  have hA0 := EA0.out
  subst hA0
  clear EA0
  have SW1 := (R2.out.1)
  refine wrt3 (tl := [isv (.pointer (some ⟨w.heap.size, 0, none⟩)), isk x, ipt x y, isk y, isk (1 : Kp), ifr x y (1 : Kp)]) (pre := [(1, 0)])
    (plan := [.val [(1, 0)] 0, .val [(3, 0)] 1, .val [(1, 0)] 2, .val [(5, 2)] 3, .val [] 4, .val [(4, 1), (6, 3), (7, 4)] 5, .put 0 2 8 5])
    [] [(w.heap.size + 1, 87, 12)] [(0, 2)] (by kernel_rfl) 9 (by kernel_rfl) rfl (by kernel_rfl) ⟨.inr (lv0 _ _ _), ⟨.inr (lull_k _ _ _), ⟨.inr (lull_p _ _ _ _), ⟨.inr (lull_k _ _ _), ⟨.inr (lull_k _ _ _), ⟨.inr (lull_f _ _ _ _ _), trivial⟩⟩⟩⟩⟩⟩
    (snkAt1 R2.out rfl rfl) (snk1 _) ⟨rfl, trivial⟩
   (Oc3 (fun a w X_ h => g_fld (wq0 rfl) rfl h.1 atP0)
   (Oc3 (fun a w X_ h => g_ldp0 (wq0 rfl) rfl h.1 (X_.at_ R1.out.1 (out1 (by omega)) R1.out.2))
   (Oc3 (fun a w X_ h => g_ldp (wq0 rfl) rfl h.1 (X_.at_ R1.out.1 (out1 (by omega)) R1.out.2))
   (Oc3 (fun a w X_ h => g_call1 (wq0 rfl) (by kernel_rfl) rfl (p_y h.1))
   (Oc3 (fun a w X_ h => g_call1 (wq0 rfl) (by kernel_rfl) rfl (k_one rfl))
   (Oc3 (fun a w X_ h => g_fe (wq0 rfl) rfl h.1 h.2.1 h.2.2.1)
   (Oc3 (⟨rfl, _, _, _, rfl, rfl, by kernel_rfl, row_f _ _ _⟩)
      OkL3.nil))))))) ?_
  rintro W2 X2 _ rfl _ rfl _ rfl _ rfl _ rfl _ rfl c2 r2 H2
  refine Fd3 ?_
  simp only [Act.put, List.setIfInBounds_toArray, List.set_cons_zero, List.set_cons_succ]
  obtain rfl : c2 = fe x y (1 : Kp) := agg_inj H2
  replace R2 := hide (And.intro (Nat.lt_of_lt_of_le R2.out.1 X2.size) r2)
  clear r2
  replace R1 := hide (X2.row (out1 (by omega)) R1.out)
  replace BEL := hide (X2.on BEL.out SZ.out (one_le (by omega)))
  replace SZ := hide BEL.out.size
  have SW2 := X2.size
  clear X2
  go_wp2
  exact bodyPost_ret_by (results_cell_row rfl _ _ (w.heap.size + 1) 87 _ (0, 0) _ rfl R2.out.2 Tryz.underlying87 rfl (by kernel_rfl)) rfl ⟨_, rfl, BEL.out, HR.out _⟩
set_option maxRecDepth 100000 in
set_option maxHeartbeats 2000000 in
theorem f_point {x y z : Kp} {u0 : Value} {w : World} (h0 : u0 = .agg (fe x y z)) (LDi : LaidW 2 exw w) : Hands Tryz.prog 61 #[u0] w (ipt (x * kinv z) (y * kinv z)) := by
  subst h0
  suffices HH : ∀ R_ : STy, (∀ W, R_.p W (.agg (pe (x * kinv z) ((y * kinv z) - 1)))) → Hands Tryz.prog 61 #[.agg (fe x y z)] w R_ from HH _ (fun _ => rfl)
  intro R_ hR_
  replace LDi := hide LDi
  obtain ⟨A0, hA0⟩ : ∃ A_, A_ = fe x y z := ⟨_, rfl⟩
  rw [← hA0]
  have EA0 := hide hA0
  clear hA0
  have HR := hide hR_
  clear hR_
  unfold Hands
  go_enter Tryz.func61, Tryz.ntmps61
  go_upto_region 1 with fail
  refine cut_world (fun W => Below w.heap.size w W ∧ (w.heap.size < W.heap.size ∧ W.heap[w.heap.size]? = some (.cells A0 87 (0, 0))) ∧ (w.heap.size + 1 < W.heap.size ∧ W.heap[w.heap.size + 1]? = some (.cells zp 49 (0, 0)))) ⟨below2 _ _ _, ⟨by simp; omega, heap2_0 _ _ _⟩, by simp, heap2_1 _ _ _⟩ ?_
  rintro W1 ⟨BEL, R1, R2⟩
  replace BEL := hide BEL
  have SZ := hide BEL.out.size
  replace R1 := hide R1
  replace R2 := hide R2
  have hA0 := EA0.out
  subst hA0
  clear EA0
  have SW1 := (R2.out.1)
  refine wrl3 (tl := [isv (.pointer (some ⟨w.heap.size, 0, none⟩)), isv (.pointer (some ⟨w.heap.size, 8, none⟩)), isk z, isk (kinv z)]) (pre := [(1, 0)])
    (plan := [.val [(1, 0)] 1, .val [(4, 1)] 2, .val [(5, 2)] 3, .alc 47 4, .sto 3 6 3])
    [] [] [] 16 (by kernel_rfl) rfl (by kernel_rfl) ⟨.inr (lv0 _ _ _), ⟨.inr (lv0 _ _ _), ⟨.inr (lull_k _ _ _), ⟨.inr (lull_k _ _ _), trivial⟩⟩⟩⟩
    snkAt0 snk0 ⟨rfl, trivial⟩
   (Oc3 (fun a w X_ h => g_fld (wq0 rfl) rfl h.1 atF2)
   (Oc3 (fun a w X_ h => g_ldf2 (wq0 rfl) rfl h.1 (X_.at_ R1.out.1 out0 R1.out.2))
   (Oc3 (fun a w X_ h => g_call1 (wq0 rfl) (by kernel_rfl) rfl (k_inv h.1 (LDi.out.step (X_.on BEL.out SZ.out none_le))))
   (Oc3 (alc_of zk rfl rfl rfl newK)
   (Oc3 (⟨rfl, _, _, _, rfl, rfl, rfl, by kernel_rfl, row_k _⟩)
      OkL3.nil))))) ?_
  rintro W2 X2 _ rfl _ rfl _ rfl g3 c3 ⟨L3, Z3, -⟩ r3 H3
  refine FinL3.fill ?_
  refine Fd3 ?_
  simp only [Act.put, List.setIfInBounds_toArray, List.set_cons_zero, List.set_cons_succ]
  obtain rfl : c3 = el (kinv z).val := agg_inj H3
  have R3 := hide (And.intro Z3 r3)
  clear r3
  replace R1 := hide (X2.row out0 R1.out)
  replace R2 := hide (X2.row out0 R2.out)
  replace BEL := hide (X2.on BEL.out SZ.out none_le)
  replace SZ := hide BEL.out.size
  have SW2 := X2.size
  clear X2
  go_upto_region 2 with fail
  refine wrt3 (tl := [isv (.pointer (some ⟨w.heap.size, 0, none⟩)), isk x, isv (.pointer (some ⟨g3, 0, none⟩)), isk (kinv z), isk (x * (kinv z)), isv (.pointer (some ⟨w.heap.size, 4, none⟩)), isk y, isk (y * (kinv z)), ipt (x * (kinv z)) (y * (kinv z))]) (pre := [(1, 0), (3, 2)])
    (plan := [.val [(1, 0)] 0, .val [(7, 0)] 1, .val [(3, 2)] 3, .val [(8, 1), (9, 3)] 4, .val [(1, 0)] 5, .val [(11, 5)] 6, .val [(3, 2)] 3, .val [(12, 6), (13, 3)] 7, .val [(10, 4), (14, 7)] 8, .put 0 2 15 8])
    [] [(w.heap.size + 1, 49, 8)] [(0, 2)] (by kernel_rfl) 16 (by kernel_rfl) rfl (by kernel_rfl) ⟨.inr (lv0 _ _ _), ⟨.inr (lull_k _ _ _), ⟨.inr (lv0 _ _ _), ⟨.inr (lull_k _ _ _), ⟨.inr (lull_k _ _ _), ⟨.inr (lv0 _ _ _), ⟨.inr (lull_k _ _ _), ⟨.inr (lull_k _ _ _), ⟨.inr (lull_p _ _ _ _), trivial⟩⟩⟩⟩⟩⟩⟩⟩⟩
    (snkAt1 R2.out rfl rfl) (snk1 _) ⟨rfl, ⟨rfl, trivial⟩⟩
   (Oc3 (fun a w X_ h => g_fld (wq0 rfl) rfl h.1 atF0)
   (Oc3 (fun a w X_ h => g_ldf0 (wq0 rfl) rfl h.1 (X_.at_ R1.out.1 (out1 (by omega)) R1.out.2))
   (Oc3 (fun a w X_ h => g_ldk (wq0 rfl) rfl h.1 (X_.at_ R3.out.1 (out1 (by omega)) R3.out.2))
   (Oc3 (fun a w X_ h => g_call2 (wq0 rfl) (by kernel_rfl) rfl (k_mul h.1 h.2.1))
   (Oc3 (fun a w X_ h => g_fld (wq0 rfl) rfl h.1 atF1)
   (Oc3 (fun a w X_ h => g_ldf1 (wq0 rfl) rfl h.1 (X_.at_ R1.out.1 (out1 (by omega)) R1.out.2))
   (Oc3 (fun a w X_ h => g_ldk (wq0 rfl) rfl h.1 (X_.at_ R3.out.1 (out1 (by omega)) R3.out.2))
   (Oc3 (fun a w X_ h => g_call2 (wq0 rfl) (by kernel_rfl) rfl (k_mul h.1 h.2.1))
   (Oc3 (fun a w X_ h => g_call2 (wq0 rfl) (by kernel_rfl) rfl (p_at h.1 h.2.1))
   (Oc3 (⟨rfl, _, _, _, rfl, rfl, by kernel_rfl, row_p _ _⟩)
      OkL3.nil)))))))))) ?_
  rintro W3 X3 _ rfl _ rfl _ rfl _ rfl _ rfl _ rfl _ rfl _ rfl _ rfl c2 r2 H2
  refine Fd3 ?_
  simp only [Act.put, List.setIfInBounds_toArray, List.set_cons_zero, List.set_cons_succ]
  obtain rfl : c2 = pe (x * (kinv z)) ((y * (kinv z)) - 1) := agg_inj H2
  replace R2 := hide (And.intro (Nat.lt_of_lt_of_le R2.out.1 X3.size) r2)
  clear r2
  replace R1 := hide (X3.row (out1 (by omega)) R1.out)
  replace R3 := hide (X3.row (out1 (by omega)) R3.out)
  replace BEL := hide (X3.on BEL.out SZ.out (one_le (by omega)))
  replace SZ := hide BEL.out.size
  have SW3 := X3.size
  clear X3
  go_wp2
  exact bodyPost_ret_by (results_cell_row rfl _ _ (w.heap.size + 1) 49 _ (0, 0) _ rfl R2.out.2 Tryz.underlying49 rfl (by kernel_rfl)) rfl ⟨_, rfl, BEL.out, HR.out _⟩
set_option maxRecDepth 100000 in
set_option maxHeartbeats 2000000 in
theorem f_plus {x1 y1 z1 x2 y2 z2 : Kp} {u0 u1 : Value} {w : World} (h0 : u0 = .agg (fe x1 y1 z1)) (h1 : u1 = .agg (fe x2 y2 z2))  : Hands Tryz.prog 68 #[u0, u1] w (ifr (fpx x1 y1 z1 x2 y2 z2) (fpy x1 y1 z1 x2 y2 z2) (fpz x1 y1 z1 x2 y2 z2)) := by
  subst h0 h1
  suffices HH : ∀ R_ : STy, (∀ W, R_.p W (.agg (fe (z1 * z2 * (x1 * y2 + x2 * y1) * (z1 * z2 * (z1 * z2) - dd * (x1 * x2) * (y1 * y2))) (z1 * z2 * (y1 * y2 + x1 * x2) * (z1 * z2 * (z1 * z2) + dd * (x1 * x2) * (y1 * y2))) ((z1 * z2 * (z1 * z2) + dd * (x1 * x2) * (y1 * y2)) * (z1 * z2 * (z1 * z2) - dd * (x1 * x2) * (y1 * y2)))))) → Hands Tryz.prog 68 #[.agg (fe x1 y1 z1), .agg (fe x2 y2 z2)] w R_ from HH _ (fun _ => rfl)
  intro R_ hR_
  obtain ⟨A0, hA0⟩ : ∃ A_, A_ = fe x1 y1 z1 := ⟨_, rfl⟩
  rw [← hA0]
  obtain ⟨A1, hA1⟩ : ∃ A_, A_ = fe x2 y2 z2 := ⟨_, rfl⟩
  rw [← hA1]
  have EA0 := hide hA0
  clear hA0
  have EA1 := hide hA1
  clear hA1
  have HR := hide hR_
  clear hR_
  unfold Hands
  go_enter Tryz.func68, Tryz.ntmps68
  go_upto_region 1 with fail
  refine cut_world (fun W => Below w.heap.size w W ∧ (w.heap.size < W.heap.size ∧ W.heap[w.heap.size]? = some (.cells A0 87 (0, 0))) ∧ (w.heap.size + 1 < W.heap.size ∧ W.heap[w.heap.size + 1]? = some (.cells A1 87 (0, 0))) ∧ (w.heap.size + 1 + 1 < W.heap.size ∧ W.heap[w.heap.size + 1 + 1]? = some (.cells zf 87 (0, 0)))) ⟨below3 _ _ _ _, ⟨by simp; omega, heap3_0 _ _ _ _⟩, ⟨by simp, heap_alloc_mid3 _ _ _ _⟩, by simp, heap_alloc_last3 _ _ _ _⟩ ?_
  rintro W1 ⟨BEL, R2, R3, R4⟩
  replace BEL := hide BEL
  have SZ := hide BEL.out.size
  replace R2 := hide R2
  replace R3 := hide R3
  replace R4 := hide R4
  have hA0 := EA0.out
  subst hA0
  have hA1 := EA1.out
  subst hA1
  clear EA0 EA1
  have SW1 := (R4.out.1)
  refine wrt3 (tl := [isv (.pointer (some ⟨w.heap.size, 0, none⟩)), isk x1, isv (.pointer (some ⟨w.heap.size + 1, 0, none⟩)), isk x2, isk (x1 * x2), isv (.pointer (some ⟨w.heap.size, 4, none⟩)), isk y1, isv (.pointer (some ⟨w.heap.size + 1, 4, none⟩)), isk y2, isk (y1 * y2)]) (pre := [(2, 0), (3, 2)])
    (plan := [.val [(2, 0)] 0, .val [(13, 0)] 1, .val [(3, 2)] 2, .val [(15, 2)] 3, .val [(14, 1), (16, 3)] 4, .val [(2, 0)] 5, .val [(18, 5)] 6, .val [(3, 2)] 7, .val [(20, 7)] 8, .val [(19, 6), (21, 8)] 9, .alc 47 4, .alc 47 4, .sto 10 17 4, .sto 11 22 9])
    [] [] [] (by kernel_rfl) 69 (by kernel_rfl) rfl (by kernel_rfl) ⟨.inr (lv0 _ _ _), ⟨.inr (lull_k _ _ _), ⟨.inr (lv0 _ _ _), ⟨.inr (lull_k _ _ _), ⟨.inr (lull_k _ _ _), ⟨.inr (lv0 _ _ _), ⟨.inr (lull_k _ _ _), ⟨.inr (lv0 _ _ _), ⟨.inr (lull_k _ _ _), ⟨.inr (lull_k _ _ _), trivial⟩⟩⟩⟩⟩⟩⟩⟩⟩⟩
    snkAt0 snk0 ⟨rfl, ⟨rfl, trivial⟩⟩
   (Oc3 (fun a w X_ h => g_fld (wq0 rfl) rfl h.1 atF0)
   (Oc3 (fun a w X_ h => g_ldf0 (wq0 rfl) rfl h.1 (X_.at_ R2.out.1 out0 R2.out.2))
   (Oc3 (fun a w X_ h => g_fld (wq0 rfl) rfl h.1 atF0)
   (Oc3 (fun a w X_ h => g_ldf0 (wq0 rfl) rfl h.1 (X_.at_ R3.out.1 out0 R3.out.2))
   (Oc3 (fun a w X_ h => g_call2 (wq0 rfl) (by kernel_rfl) rfl (k_mul h.1 h.2.1))
   (Oc3 (fun a w X_ h => g_fld (wq0 rfl) rfl h.1 atF1)
   (Oc3 (fun a w X_ h => g_ldf1 (wq0 rfl) rfl h.1 (X_.at_ R2.out.1 out0 R2.out.2))
   (Oc3 (fun a w X_ h => g_fld (wq0 rfl) rfl h.1 atF1)
   (Oc3 (fun a w X_ h => g_ldf1 (wq0 rfl) rfl h.1 (X_.at_ R3.out.1 out0 R3.out.2))
   (Oc3 (fun a w X_ h => g_call2 (wq0 rfl) (by kernel_rfl) rfl (k_mul h.1 h.2.1))
   (Oc3 (alc_of zk rfl rfl rfl newK)
   (Oc3 (alc_of zk rfl rfl rfl newK)
   (Oc3 (⟨rfl, _, _, _, rfl, rfl, rfl, by kernel_rfl, row_k _⟩)
   (Oc3 (⟨rfl, _, _, _, rfl, rfl, rfl, by kernel_rfl, row_k _⟩)
      OkL3.nil)))))))))))))) ?_
  rintro W2 X2 _ rfl _ rfl _ rfl _ rfl _ rfl _ rfl _ rfl _ rfl _ rfl _ rfl g5 c5 ⟨L5, Z5, -⟩ r5 H5 g6 c6 ⟨L6, Z6, -⟩ r6 H6
  refine FinL3.fill ?_
  refine FinL3.fill ?_
  refine Fd3 ?_
  simp only [Act.put, List.setIfInBounds_toArray, List.set_cons_zero, List.set_cons_succ]
  obtain rfl : c5 = el (x1 * x2).val := agg_inj H5
  have R5 := hide (And.intro Z5 r5)
  clear r5
  obtain rfl : c6 = el (y1 * y2).val := agg_inj H6
  have R6 := hide (And.intro Z6 r6)
  clear r6
  replace R2 := hide (X2.row out0 R2.out)
  replace R3 := hide (X2.row out0 R3.out)
  replace R4 := hide (X2.row out0 R4.out)
  replace BEL := hide (X2.on BEL.out SZ.out none_le)
  replace SZ := hide BEL.out.size
  have SW2 := X2.size
  clear X2
  go_upto_region 2 with fail
  refine wrt3 (tl := [isv (.pointer (some ⟨w.heap.size, 0, none⟩)), isk x1, isv (.pointer (some ⟨w.heap.size + 1, 0, none⟩)), isv (.pointer (some ⟨w.heap.size + 1, 4, none⟩)), isk y2, isk (x1 * y2), isk x2, isv (.pointer (some ⟨w.heap.size, 4, none⟩)), isk y1, isk (x2 * y1), isk ((x1 * y2) + (x2 * y1))]) (pre := [(2, 0), (3, 2)])
    (plan := [.val [(2, 0)] 0, .val [(23, 0)] 1, .val [(3, 2)] 3, .val [(25, 3)] 4, .val [(24, 1), (26, 4)] 5, .val [(3, 2)] 2, .val [(28, 2)] 6, .val [(2, 0)] 7, .val [(30, 7)] 8, .val [(29, 6), (31, 8)] 9, .val [(27, 5), (32, 9)] 10, .alc 47 4, .sto 11 33 10])
    [] [] [] (by kernel_rfl) 69 (by kernel_rfl) rfl (by kernel_rfl) ⟨.inr (lv0 _ _ _), ⟨.inr (lull_k _ _ _), ⟨.inr (lv0 _ _ _), ⟨.inr (lv0 _ _ _), ⟨.inr (lull_k _ _ _), ⟨.inr (lull_k _ _ _), ⟨.inr (lull_k _ _ _), ⟨.inr (lv0 _ _ _), ⟨.inr (lull_k _ _ _), ⟨.inr (lull_k _ _ _), ⟨.inr (lull_k _ _ _), trivial⟩⟩⟩⟩⟩⟩⟩⟩⟩⟩⟩
    snkAt0 snk0 ⟨rfl, ⟨rfl, trivial⟩⟩
   (Oc3 (fun a w X_ h => g_fld (wq0 rfl) rfl h.1 atF0)
   (Oc3 (fun a w X_ h => g_ldf0 (wq0 rfl) rfl h.1 (X_.at_ R2.out.1 out0 R2.out.2))
   (Oc3 (fun a w X_ h => g_fld (wq0 rfl) rfl h.1 atF1)
   (Oc3 (fun a w X_ h => g_ldf1 (wq0 rfl) rfl h.1 (X_.at_ R3.out.1 out0 R3.out.2))
   (Oc3 (fun a w X_ h => g_call2 (wq0 rfl) (by kernel_rfl) rfl (k_mul h.1 h.2.1))
   (Oc3 (fun a w X_ h => g_fld (wq0 rfl) rfl h.1 atF0)
   (Oc3 (fun a w X_ h => g_ldf0 (wq0 rfl) rfl h.1 (X_.at_ R3.out.1 out0 R3.out.2))
   (Oc3 (fun a w X_ h => g_fld (wq0 rfl) rfl h.1 atF1)
   (Oc3 (fun a w X_ h => g_ldf1 (wq0 rfl) rfl h.1 (X_.at_ R2.out.1 out0 R2.out.2))
   (Oc3 (fun a w X_ h => g_call2 (wq0 rfl) (by kernel_rfl) rfl (k_mul h.1 h.2.1))
   (Oc3 (fun a w X_ h => g_call2 (wq0 rfl) (by kernel_rfl) rfl (k_add h.1 h.2.1))
   (Oc3 (alc_of zk rfl rfl rfl newK)
   (Oc3 (⟨rfl, _, _, _, rfl, rfl, rfl, by kernel_rfl, row_k _⟩)
      OkL3.nil))))))))))))) ?_
  rintro W3 X3 _ rfl _ rfl _ rfl _ rfl _ rfl _ rfl _ rfl _ rfl _ rfl _ rfl _ rfl g7 c7 ⟨L7, Z7, -⟩ r7 H7
  refine FinL3.fill ?_
  refine Fd3 ?_
  simp only [Act.put, List.setIfInBounds_toArray, List.set_cons_zero, List.set_cons_succ]
  obtain rfl : c7 = el ((x1 * y2) + (x2 * y1)).val := agg_inj H7
  have R7 := hide (And.intro Z7 r7)
  clear r7
  replace R2 := hide (X3.row out0 R2.out)
  replace R3 := hide (X3.row out0 R3.out)
  replace R4 := hide (X3.row out0 R4.out)
  replace R5 := hide (X3.row out0 R5.out)
  replace R6 := hide (X3.row out0 R6.out)
  replace BEL := hide (X3.on BEL.out SZ.out none_le)
  replace SZ := hide BEL.out.size
  have SW3 := X3.size
  clear X3
  go_upto_region 3 with fail
  refine wrl3 (tl := [isv (.pointer (some ⟨w.heap.size, 0, none⟩)), isv (.pointer (some ⟨w.heap.size, 8, none⟩)), isk z1, isv (.pointer (some ⟨w.heap.size + 1, 0, none⟩)), isv (.pointer (some ⟨w.heap.size + 1, 8, none⟩)), isk z2, isk (z1 * z2)]) (pre := [(2, 0), (3, 3)])
    (plan := [.val [(2, 0)] 1, .val [(34, 1)] 2, .val [(3, 3)] 4, .val [(36, 4)] 5, .val [(35, 2), (37, 5)] 6, .alc 47 4, .sto 5 38 6])
    [] [] [] 69 (by kernel_rfl) rfl (by kernel_rfl) ⟨.inr (lv0 _ _ _), ⟨.inr (lv0 _ _ _), ⟨.inr (lull_k _ _ _), ⟨.inr (lv0 _ _ _), ⟨.inr (lv0 _ _ _), ⟨.inr (lull_k _ _ _), ⟨.inr (lull_k _ _ _), trivial⟩⟩⟩⟩⟩⟩⟩
    snkAt0 snk0 ⟨rfl, ⟨rfl, trivial⟩⟩
   (Oc3 (fun a w X_ h => g_fld (wq0 rfl) rfl h.1 atF2)
   (Oc3 (fun a w X_ h => g_ldf2 (wq0 rfl) rfl h.1 (X_.at_ R2.out.1 out0 R2.out.2))
   (Oc3 (fun a w X_ h => g_fld (wq0 rfl) rfl h.1 atF2)
   (Oc3 (fun a w X_ h => g_ldf2 (wq0 rfl) rfl h.1 (X_.at_ R3.out.1 out0 R3.out.2))
   (Oc3 (fun a w X_ h => g_call2 (wq0 rfl) (by kernel_rfl) rfl (k_mul h.1 h.2.1))
   (Oc3 (alc_of zk rfl rfl rfl newK)
   (Oc3 (⟨rfl, _, _, _, rfl, rfl, rfl, by kernel_rfl, row_k _⟩)
      OkL3.nil))))))) ?_
  rintro W4 X4 _ rfl _ rfl _ rfl _ rfl _ rfl g8 c8 ⟨L8, Z8, -⟩ r8 H8
  refine FinL3.fill ?_
  refine Fd3 ?_
  simp only [Act.put, List.setIfInBounds_toArray, List.set_cons_zero, List.set_cons_succ]
  obtain rfl : c8 = el (z1 * z2).val := agg_inj H8
  have R8 := hide (And.intro Z8 r8)
  clear r8
  replace R2 := hide (X4.row out0 R2.out)
  replace R3 := hide (X4.row out0 R3.out)
  replace R4 := hide (X4.row out0 R4.out)
  replace R5 := hide (X4.row out0 R5.out)
  replace R6 := hide (X4.row out0 R6.out)
  replace R7 := hide (X4.row out0 R7.out)
  replace BEL := hide (X4.on BEL.out SZ.out none_le)
  replace SZ := hide BEL.out.size
  have SW4 := X4.size
  clear X4
  go_upto_region 4 with fail
  refine wrt3 (tl := [isv (.pointer (some ⟨g8, 0, none⟩)), isk (z1 * z2), isk ((z1 * z2) * (z1 * z2)), isk dd, isv (.pointer (some ⟨g5, 0, none⟩)), isk (x1 * x2), isk (dd * (x1 * x2)), isv (.pointer (some ⟨g6, 0, none⟩)), isk (y1 * y2), isk ((dd * (x1 * x2)) * (y1 * y2))]) (pre := [(5, 4), (6, 7), (8, 0)])
    (plan := [.val [(8, 0)] 1, .val [(8, 0)] 1, .val [(39, 1), (40, 1)] 2, .val [] 3, .val [(5, 4)] 5, .val [(42, 3), (43, 5)] 6, .val [(6, 7)] 8, .val [(44, 6), (45, 8)] 9, .alc 47 4, .alc 47 4, .sto 8 41 2, .sto 9 46 9])
    [] [] [] (by kernel_rfl) 69 (by kernel_rfl) rfl (by kernel_rfl) ⟨.inr (lv0 _ _ _), ⟨.inr (lull_k _ _ _), ⟨.inr (lull_k _ _ _), ⟨.inr (lull_k _ _ _), ⟨.inr (lv0 _ _ _), ⟨.inr (lull_k _ _ _), ⟨.inr (lull_k _ _ _), ⟨.inr (lv0 _ _ _), ⟨.inr (lull_k _ _ _), ⟨.inr (lull_k _ _ _), trivial⟩⟩⟩⟩⟩⟩⟩⟩⟩⟩
    snkAt0 snk0 ⟨rfl, ⟨rfl, ⟨rfl, trivial⟩⟩⟩
   (Oc3 (fun a w X_ h => g_ldk (wq0 rfl) rfl h.1 (X_.at_ R8.out.1 out0 R8.out.2))
   (Oc3 (fun a w X_ h => g_ldk (wq0 rfl) rfl h.1 (X_.at_ R8.out.1 out0 R8.out.2))
   (Oc3 (fun a w X_ h => g_call2 (wq0 rfl) (by kernel_rfl) rfl (k_mul h.1 h.2.1))
   (Oc3 (fun a w X_ h => g_call0 (wq0 rfl) (by kernel_rfl) rfl (k_dd))
   (Oc3 (fun a w X_ h => g_ldk (wq0 rfl) rfl h.1 (X_.at_ R5.out.1 out0 R5.out.2))
   (Oc3 (fun a w X_ h => g_call2 (wq0 rfl) (by kernel_rfl) rfl (k_mul h.1 h.2.1))
   (Oc3 (fun a w X_ h => g_ldk (wq0 rfl) rfl h.1 (X_.at_ R6.out.1 out0 R6.out.2))
   (Oc3 (fun a w X_ h => g_call2 (wq0 rfl) (by kernel_rfl) rfl (k_mul h.1 h.2.1))
   (Oc3 (alc_of zk rfl rfl rfl newK)
   (Oc3 (alc_of zk rfl rfl rfl newK)
   (Oc3 (⟨rfl, _, _, _, rfl, rfl, rfl, by kernel_rfl, row_k _⟩)
   (Oc3 (⟨rfl, _, _, _, rfl, rfl, rfl, by kernel_rfl, row_k _⟩)
      OkL3.nil)))))))))))) ?_
  rintro W5 X5 _ rfl _ rfl _ rfl _ rfl _ rfl _ rfl _ rfl _ rfl g9 c9 ⟨L9, Z9, -⟩ r9 H9 g10 c10 ⟨L10, Z10, -⟩ r10 H10
  refine FinL3.fill ?_
  refine FinL3.fill ?_
  refine Fd3 ?_
  simp only [Act.put, List.setIfInBounds_toArray, List.set_cons_zero, List.set_cons_succ]
  obtain rfl : c9 = el ((z1 * z2) * (z1 * z2)).val := agg_inj H9
  have R9 := hide (And.intro Z9 r9)
  clear r9
  obtain rfl : c10 = el ((dd * (x1 * x2)) * (y1 * y2)).val := agg_inj H10
  have R10 := hide (And.intro Z10 r10)
  clear r10
  replace R2 := hide (X5.row out0 R2.out)
  replace R3 := hide (X5.row out0 R3.out)
  replace R4 := hide (X5.row out0 R4.out)
  replace R5 := hide (X5.row out0 R5.out)
  replace R6 := hide (X5.row out0 R6.out)
  replace R7 := hide (X5.row out0 R7.out)
  replace R8 := hide (X5.row out0 R8.out)
  replace BEL := hide (X5.on BEL.out SZ.out none_le)
  replace SZ := hide BEL.out.size
  have SW5 := X5.size
  clear X5
  go_upto_region 5 with fail
  refine wrt3 (tl := [isv (.pointer (some ⟨g9, 0, none⟩)), isk ((z1 * z2) * (z1 * z2)), isv (.pointer (some ⟨g10, 0, none⟩)), isk ((dd * (x1 * x2)) * (y1 * y2)), isk (((z1 * z2) * (z1 * z2)) + ((dd * (x1 * x2)) * (y1 * y2))), isk (((z1 * z2) * (z1 * z2)) - ((dd * (x1 * x2)) * (y1 * y2)))]) (pre := [(9, 0), (10, 2)])
    (plan := [.val [(9, 0)] 1, .val [(10, 2)] 3, .val [(47, 1), (48, 3)] 4, .val [(9, 0)] 1, .val [(10, 2)] 3, .val [(50, 1), (51, 3)] 5, .alc 47 4, .alc 47 4, .sto 6 49 4, .sto 7 52 5])
    [] [] [] (by kernel_rfl) 69 (by kernel_rfl) rfl (by kernel_rfl) ⟨.inr (lv0 _ _ _), ⟨.inr (lull_k _ _ _), ⟨.inr (lv0 _ _ _), ⟨.inr (lull_k _ _ _), ⟨.inr (lull_k _ _ _), ⟨.inr (lull_k _ _ _), trivial⟩⟩⟩⟩⟩⟩
    snkAt0 snk0 ⟨rfl, ⟨rfl, trivial⟩⟩
   (Oc3 (fun a w X_ h => g_ldk (wq0 rfl) rfl h.1 (X_.at_ R9.out.1 out0 R9.out.2))
   (Oc3 (fun a w X_ h => g_ldk (wq0 rfl) rfl h.1 (X_.at_ R10.out.1 out0 R10.out.2))
   (Oc3 (fun a w X_ h => g_call2 (wq0 rfl) (by kernel_rfl) rfl (k_add h.1 h.2.1))
   (Oc3 (fun a w X_ h => g_ldk (wq0 rfl) rfl h.1 (X_.at_ R9.out.1 out0 R9.out.2))
   (Oc3 (fun a w X_ h => g_ldk (wq0 rfl) rfl h.1 (X_.at_ R10.out.1 out0 R10.out.2))
   (Oc3 (fun a w X_ h => g_call2 (wq0 rfl) (by kernel_rfl) rfl (k_sub h.1 h.2.1))
   (Oc3 (alc_of zk rfl rfl rfl newK)
   (Oc3 (alc_of zk rfl rfl rfl newK)
   (Oc3 (⟨rfl, _, _, _, rfl, rfl, rfl, by kernel_rfl, row_k _⟩)
   (Oc3 (⟨rfl, _, _, _, rfl, rfl, rfl, by kernel_rfl, row_k _⟩)
      OkL3.nil)))))))))) ?_
  rintro W6 X6 _ rfl _ rfl _ rfl _ rfl _ rfl _ rfl g11 c11 ⟨L11, Z11, -⟩ r11 H11 g12 c12 ⟨L12, Z12, -⟩ r12 H12
  refine FinL3.fill ?_
  refine FinL3.fill ?_
  refine Fd3 ?_
  simp only [Act.put, List.setIfInBounds_toArray, List.set_cons_zero, List.set_cons_succ]
  obtain rfl : c11 = el (((z1 * z2) * (z1 * z2)) + ((dd * (x1 * x2)) * (y1 * y2))).val := agg_inj H11
  have R11 := hide (And.intro Z11 r11)
  clear r11
  obtain rfl : c12 = el (((z1 * z2) * (z1 * z2)) - ((dd * (x1 * x2)) * (y1 * y2))).val := agg_inj H12
  have R12 := hide (And.intro Z12 r12)
  clear r12
  replace R2 := hide (X6.row out0 R2.out)
  replace R3 := hide (X6.row out0 R3.out)
  replace R4 := hide (X6.row out0 R4.out)
  replace R5 := hide (X6.row out0 R5.out)
  replace R6 := hide (X6.row out0 R6.out)
  replace R7 := hide (X6.row out0 R7.out)
  replace R8 := hide (X6.row out0 R8.out)
  replace R9 := hide (X6.row out0 R9.out)
  replace R10 := hide (X6.row out0 R10.out)
  replace BEL := hide (X6.on BEL.out SZ.out none_le)
  replace SZ := hide BEL.out.size
  have SW6 := X6.size
  clear X6
  go_upto_region 6 with fail
  refine wrt3 (tl := [isv (.pointer (some ⟨g8, 0, none⟩)), isk (z1 * z2), isv (.pointer (some ⟨g7, 0, none⟩)), isk ((x1 * y2) + (x2 * y1)), isk ((z1 * z2) * ((x1 * y2) + (x2 * y1))), isv (.pointer (some ⟨g12, 0, none⟩)), isk (((z1 * z2) * (z1 * z2)) - ((dd * (x1 * x2)) * (y1 * y2))), isk (((z1 * z2) * ((x1 * y2) + (x2 * y1))) * (((z1 * z2) * (z1 * z2)) - ((dd * (x1 * x2)) * (y1 * y2)))), isv (.pointer (some ⟨g6, 0, none⟩)), isk (y1 * y2), isv (.pointer (some ⟨g5, 0, none⟩)), isk (x1 * x2), isk ((y1 * y2) + (x1 * x2)), isk ((z1 * z2) * ((y1 * y2) + (x1 * x2))), isv (.pointer (some ⟨g11, 0, none⟩)), isk (((z1 * z2) * (z1 * z2)) + ((dd * (x1 * x2)) * (y1 * y2))), isk (((z1 * z2) * ((y1 * y2) + (x1 * x2))) * (((z1 * z2) * (z1 * z2)) + ((dd * (x1 * x2)) * (y1 * y2)))), isk ((((z1 * z2) * (z1 * z2)) + ((dd * (x1 * x2)) * (y1 * y2))) * (((z1 * z2) * (z1 * z2)) - ((dd * (x1 * x2)) * (y1 * y2)))), ifr (((z1 * z2) * ((x1 * y2) + (x2 * y1))) * (((z1 * z2) * (z1 * z2)) - ((dd * (x1 * x2)) * (y1 * y2)))) (((z1 * z2) * ((y1 * y2) + (x1 * x2))) * (((z1 * z2) * (z1 * z2)) + ((dd * (x1 * x2)) * (y1 * y2)))) ((((z1 * z2) * (z1 * z2)) + ((dd * (x1 * x2)) * (y1 * y2))) * (((z1 * z2) * (z1 * z2)) - ((dd * (x1 * x2)) * (y1 * y2))))]) (pre := [(5, 10), (6, 8), (7, 2), (8, 0), (11, 14), (12, 5)])
    (plan := [.val [(8, 0)] 1, .val [(7, 2)] 3, .val [(53, 1), (54, 3)] 4, .val [(12, 5)] 6, .val [(55, 4), (56, 6)] 7, .val [(8, 0)] 1, .val [(6, 8)] 9, .val [(5, 10)] 11, .val [(59, 9), (60, 11)] 12, .val [(58, 1), (61, 12)] 13, .val [(11, 14)] 15, .val [(62, 13), (63, 15)] 16, .val [(11, 14)] 15, .val [(12, 5)] 6, .val [(65, 15), (66, 6)] 17, .val [(57, 7), (64, 16), (67, 17)] 18, .put 0 4 68 18])
    [] [(w.heap.size + 1 + 1, 87, 12)] [(0, 4)] (by kernel_rfl) 69 (by kernel_rfl) rfl (by kernel_rfl) ⟨.inr (lv0 _ _ _), ⟨.inr (lull_k _ _ _), ⟨.inr (lv0 _ _ _), ⟨.inr (lull_k _ _ _), ⟨.inr (lull_k _ _ _), ⟨.inr (lv0 _ _ _), ⟨.inr (lull_k _ _ _), ⟨.inr (lull_k _ _ _), ⟨.inr (lv0 _ _ _), ⟨.inr (lull_k _ _ _), ⟨.inr (lv0 _ _ _), ⟨.inr (lull_k _ _ _), ⟨.inr (lull_k _ _ _), ⟨.inr (lull_k _ _ _), ⟨.inr (lv0 _ _ _), ⟨.inr (lull_k _ _ _), ⟨.inr (lull_k _ _ _), ⟨.inr (lull_k _ _ _), ⟨.inr (lull_f _ _ _ _ _), trivial⟩⟩⟩⟩⟩⟩⟩⟩⟩⟩⟩⟩⟩⟩⟩⟩⟩⟩⟩
    (snkAt1 R4.out rfl rfl) (snk1 _) ⟨rfl, ⟨rfl, ⟨rfl, ⟨rfl, ⟨rfl, ⟨rfl, trivial⟩⟩⟩⟩⟩⟩
   (Oc3 (fun a w X_ h => g_ldk (wq0 rfl) rfl h.1 (X_.at_ R8.out.1 (out1 (by omega)) R8.out.2))
   (Oc3 (fun a w X_ h => g_ldk (wq0 rfl) rfl h.1 (X_.at_ R7.out.1 (out1 (by omega)) R7.out.2))
   (Oc3 (fun a w X_ h => g_call2 (wq0 rfl) (by kernel_rfl) rfl (k_mul h.1 h.2.1))
   (Oc3 (fun a w X_ h => g_ldk (wq0 rfl) rfl h.1 (X_.at_ R12.out.1 (out1 (by omega)) R12.out.2))
   (Oc3 (fun a w X_ h => g_call2 (wq0 rfl) (by kernel_rfl) rfl (k_mul h.1 h.2.1))
   (Oc3 (fun a w X_ h => g_ldk (wq0 rfl) rfl h.1 (X_.at_ R8.out.1 (out1 (by omega)) R8.out.2))
   (Oc3 (fun a w X_ h => g_ldk (wq0 rfl) rfl h.1 (X_.at_ R6.out.1 (out1 (by omega)) R6.out.2))
   (Oc3 (fun a w X_ h => g_ldk (wq0 rfl) rfl h.1 (X_.at_ R5.out.1 (out1 (by omega)) R5.out.2))
   (Oc3 (fun a w X_ h => g_call2 (wq0 rfl) (by kernel_rfl) rfl (k_add h.1 h.2.1))
   (Oc3 (fun a w X_ h => g_call2 (wq0 rfl) (by kernel_rfl) rfl (k_mul h.1 h.2.1))
   (Oc3 (fun a w X_ h => g_ldk (wq0 rfl) rfl h.1 (X_.at_ R11.out.1 (out1 (by omega)) R11.out.2))
   (Oc3 (fun a w X_ h => g_call2 (wq0 rfl) (by kernel_rfl) rfl (k_mul h.1 h.2.1))
   (Oc3 (fun a w X_ h => g_ldk (wq0 rfl) rfl h.1 (X_.at_ R11.out.1 (out1 (by omega)) R11.out.2))
   (Oc3 (fun a w X_ h => g_ldk (wq0 rfl) rfl h.1 (X_.at_ R12.out.1 (out1 (by omega)) R12.out.2))
   (Oc3 (fun a w X_ h => g_call2 (wq0 rfl) (by kernel_rfl) rfl (k_mul h.1 h.2.1))
   (Oc3 (fun a w X_ h => g_fe (wq0 rfl) rfl h.1 h.2.1 h.2.2.1)
   (Oc3 (⟨rfl, _, _, _, rfl, rfl, by kernel_rfl, row_f _ _ _⟩)
      OkL3.nil))))))))))))))))) ?_
  rintro W7 X7 _ rfl _ rfl _ rfl _ rfl _ rfl _ rfl _ rfl _ rfl _ rfl _ rfl _ rfl _ rfl _ rfl _ rfl _ rfl _ rfl c4 r4 H4
  refine Fd3 ?_
  simp only [Act.put, List.setIfInBounds_toArray, List.set_cons_zero, List.set_cons_succ]
  obtain rfl : c4 = fe (((z1 * z2) * ((x1 * y2) + (x2 * y1))) * (((z1 * z2) * (z1 * z2)) - ((dd * (x1 * x2)) * (y1 * y2)))) (((z1 * z2) * ((y1 * y2) + (x1 * x2))) * (((z1 * z2) * (z1 * z2)) + ((dd * (x1 * x2)) * (y1 * y2)))) ((((z1 * z2) * (z1 * z2)) + ((dd * (x1 * x2)) * (y1 * y2))) * (((z1 * z2) * (z1 * z2)) - ((dd * (x1 * x2)) * (y1 * y2)))) := agg_inj H4
  replace R4 := hide (And.intro (Nat.lt_of_lt_of_le R4.out.1 X7.size) r4)
  clear r4
  replace R2 := hide (X7.row (out1 (by omega)) R2.out)
  replace R3 := hide (X7.row (out1 (by omega)) R3.out)
  replace R5 := hide (X7.row (out1 (by omega)) R5.out)
  replace R6 := hide (X7.row (out1 (by omega)) R6.out)
  replace R7 := hide (X7.row (out1 (by omega)) R7.out)
  replace R8 := hide (X7.row (out1 (by omega)) R8.out)
  replace R9 := hide (X7.row (out1 (by omega)) R9.out)
  replace R10 := hide (X7.row (out1 (by omega)) R10.out)
  replace R11 := hide (X7.row (out1 (by omega)) R11.out)
  replace R12 := hide (X7.row (out1 (by omega)) R12.out)
  replace BEL := hide (X7.on BEL.out SZ.out (one_le (by omega)))
  replace SZ := hide BEL.out.size
  have SW7 := X7.size
  clear X7
  go_wp2
  exact bodyPost_ret_by (results_cell_row rfl _ _ (w.heap.size + 1 + 1) 87 _ (0, 0) _ rfl R4.out.2 Tryz.underlying87 rfl (by kernel_rfl)) rfl ⟨_, rfl, BEL.out, HR.out _⟩
end Go.Proofs.YtobgimpkkjaolaaGreatDoor
