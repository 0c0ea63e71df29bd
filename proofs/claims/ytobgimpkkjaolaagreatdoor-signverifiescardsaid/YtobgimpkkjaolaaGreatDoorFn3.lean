/- Sums, turned points, and whether they are the same, as the program answers them. -/
import Derived.Test.YtobgimpkkjaolaaGreatDoorFn2
namespace Go.Proofs.YtobgimpkkjaolaaGreatDoor
open Go.RowKit
theorem k_odd_t {x : Kp} {u : Value} {w : World} (h1 : u = .agg (el x.val)) (h : x.val % 2 = 1) : Hands Tryz.prog 71 #[u] w (isv (.bool true)) := by
  have := k_odd (w := w) h1
  rwa [decide_eq_true h] at this
theorem k_odd_f {x : Kp} {u : Value} {w : World} (h1 : u = .agg (el x.val)) (h : ¬ x.val % 2 = 1) : Hands Tryz.prog 71 #[u] w (isv (.bool false)) := by
  have := k_odd (w := w) h1
  rwa [decide_eq_false h] at this
set_option maxRecDepth 100000 in
set_option maxHeartbeats 2000000 in
theorem f_alone {x1 y1 z1 x2 y2 z2 : Kp} {u0 u1 : Value} {w : World} (h0 : u0 = .agg (fe x1 y1 z1)) (h1 : u1 = .agg (fe x2 y2 z2))  : Hands Tryz.prog 92 #[u0, u1] w (ifr (fpx x1 y1 z1 x1 y1 z1) (fpy x1 y1 z1 x1 y1 z1) (fpz x1 y1 z1 x1 y1 z1)) := by
  subst h0 h1
  suffices HH : ∀ R_ : STy, (∀ W, R_.p W (.agg (fe (fpx x1 y1 z1 x1 y1 z1) (fpy x1 y1 z1 x1 y1 z1) (fpz x1 y1 z1 x1 y1 z1)))) → Hands Tryz.prog 92 #[.agg (fe x1 y1 z1), .agg (fe x2 y2 z2)] w R_ from HH _ (fun _ => rfl)
  intro R_ hR_
  obtain ⟨A0, hA0⟩ : ∃ A_, A_ = fe x1 y1 z1 := ⟨_, rfl⟩
  rw [← hA0]
  obtain ⟨A1, hA1⟩ : ∃ A_, A_ = fe x2 y2 z2 := ⟨_, rfl⟩
  rw [← hA1]
  have EA0 := hide hA0
  clear hA0
  have EA1 := hide hA1
  clear hA1
  have HR := hide hR_
  clear hR_
  unfold Hands
  go_enter Tryz.func92, Tryz.ntmps92
  go_upto_region 1 with fail
  refine cut_world (fun W => Below w.heap.size w W ∧ (w.heap.size < W.heap.size ∧ W.heap[w.heap.size]? = some (.cells A0 87 (0, 0))) ∧ (w.heap.size + 1 < W.heap.size ∧ W.heap[w.heap.size + 1]? = some (.cells A1 87 (0, 0))) ∧ (w.heap.size + 1 + 1 < W.heap.size ∧ W.heap[w.heap.size + 1 + 1]? = some (.cells zf 87 (0, 0)))) ⟨below3 _ _ _ _, ⟨by simp; omega, heap3_0 _ _ _ _⟩, ⟨by simp, heap_alloc_mid3 _ _ _ _⟩, by simp, heap_alloc_last3 _ _ _ _⟩ ?_
  rintro W1 ⟨BEL, R2, R3, R4⟩
  replace BEL := hide BEL
  have SZ := hide BEL.out.size
  replace R2 := hide R2
  replace R3 := hide R3
  replace R4 := hide R4
  have hA0 := EA0.out
  subst hA0
  have hA1 := EA1.out
  subst hA1
  clear EA0 EA1
  have SW1 := (R4.out.1)
  refine wrl3 (tl := [isv (.pointer (some ⟨w.heap.size, 0, none⟩)), ifr x1 y1 z1, ifr (fpx x1 y1 z1 x1 y1 z1) (fpy x1 y1 z1 x1 y1 z1) (fpz x1 y1 z1 x1 y1 z1)]) (pre := [(2, 0)])
    (plan := [.val [(2, 0)] 1, .val [(2, 0)] 1, .val [(5, 1), (6, 1)] 2, .put 0 4 7 2])
    [] [(w.heap.size + 1 + 1, 87, 12)] [(0, 4)] 8 (by kernel_rfl) rfl (by kernel_rfl) ⟨.inr (lv0 _ _ _), ⟨.inr (lull_f _ _ _ _ _), ⟨.inr (lull_f _ _ _ _ _), trivial⟩⟩⟩
    (snkAt1 R4.out rfl rfl) (snk1 _) ⟨rfl, trivial⟩
   (Oc3 (fun a w X_ h => g_ldf (wq0 rfl) rfl h.1 (X_.at_ R2.out.1 (out1 (by omega)) R2.out.2))
   (Oc3 (fun a w X_ h => g_ldf (wq0 rfl) rfl h.1 (X_.at_ R2.out.1 (out1 (by omega)) R2.out.2))
   (Oc3 (fun a w X_ h => g_call2 (wq0 rfl) (by kernel_rfl) rfl (f_plus h.1 h.2.1))
   (Oc3 (⟨rfl, _, _, _, rfl, rfl, by kernel_rfl, row_f _ _ _⟩)
      OkL3.nil)))) ?_
  rintro W2 X2 _ rfl _ rfl _ rfl c4 r4 H4
  refine Fd3 ?_
  simp only [Act.put, List.setIfInBounds_toArray, List.set_cons_zero, List.set_cons_succ]
  obtain rfl : c4 = fe (fpx x1 y1 z1 x1 y1 z1) (fpy x1 y1 z1 x1 y1 z1) (fpz x1 y1 z1 x1 y1 z1) := agg_inj H4
  replace R4 := hide (And.intro (Nat.lt_of_lt_of_le R4.out.1 X2.size) r4)
  clear r4
  replace R2 := hide (X2.row (out1 (by omega)) R2.out)
  replace R3 := hide (X2.row (out1 (by omega)) R3.out)
  replace BEL := hide (X2.on BEL.out SZ.out (one_le (by omega)))
  replace SZ := hide BEL.out.size
  have SW2 := X2.size
  clear X2
  go_wp2
  exact bodyPost_ret_by (results_cell_row rfl _ _ (w.heap.size + 1 + 1) 87 _ (0, 0) _ rfl R4.out.2 Tryz.underlying87 rfl (by kernel_rfl)) rfl ⟨_, rfl, BEL.out, HR.out _⟩
set_option maxRecDepth 100000 in
set_option maxHeartbeats 2000000 in
theorem f_twice {x1 y1 z1 x2 y2 z2 : Kp} {u0 u1 : Value} {w : World} (h0 : u0 = .agg (fe x1 y1 z1)) (h1 : u1 = .agg (fe x2 y2 z2))  : Hands Tryz.prog 93 #[u0, u1] w (ifr (fpx (fpx x1 y1 z1 x1 y1 z1) (fpy x1 y1 z1 x1 y1 z1) (fpz x1 y1 z1 x1 y1 z1) x2 y2 z2) (fpy (fpx x1 y1 z1 x1 y1 z1) (fpy x1 y1 z1 x1 y1 z1) (fpz x1 y1 z1 x1 y1 z1) x2 y2 z2) (fpz (fpx x1 y1 z1 x1 y1 z1) (fpy x1 y1 z1 x1 y1 z1) (fpz x1 y1 z1 x1 y1 z1) x2 y2 z2)) := by
  subst h0 h1
  suffices HH : ∀ R_ : STy, (∀ W, R_.p W (.agg (fe (fpx (fpx x1 y1 z1 x1 y1 z1) (fpy x1 y1 z1 x1 y1 z1) (fpz x1 y1 z1 x1 y1 z1) x2 y2 z2) (fpy (fpx x1 y1 z1 x1 y1 z1) (fpy x1 y1 z1 x1 y1 z1) (fpz x1 y1 z1 x1 y1 z1) x2 y2 z2) (fpz (fpx x1 y1 z1 x1 y1 z1) (fpy x1 y1 z1 x1 y1 z1) (fpz x1 y1 z1 x1 y1 z1) x2 y2 z2)))) → Hands Tryz.prog 93 #[.agg (fe x1 y1 z1), .agg (fe x2 y2 z2)] w R_ from HH _ (fun _ => rfl)
  intro R_ hR_
  obtain ⟨A0, hA0⟩ : ∃ A_, A_ = fe x1 y1 z1 := ⟨_, rfl⟩
  rw [← hA0]
  obtain ⟨A1, hA1⟩ : ∃ A_, A_ = fe x2 y2 z2 := ⟨_, rfl⟩
  rw [← hA1]
  have EA0 := hide hA0
  clear hA0
  have EA1 := hide hA1
  clear hA1
  have HR := hide hR_
  clear hR_
  unfold Hands
  go_enter Tryz.func93, Tryz.ntmps93
  go_upto_region 1 with fail
  refine cut_world (fun W => Below w.heap.size w W ∧ (w.heap.size < W.heap.size ∧ W.heap[w.heap.size]? = some (.cells A0 87 (0, 0))) ∧ (w.heap.size + 1 < W.heap.size ∧ W.heap[w.heap.size + 1]? = some (.cells A1 87 (0, 0))) ∧ (w.heap.size + 1 + 1 < W.heap.size ∧ W.heap[w.heap.size + 1 + 1]? = some (.cells zf 87 (0, 0)))) ⟨below3 _ _ _ _, ⟨by simp; omega, heap3_0 _ _ _ _⟩, ⟨by simp, heap_alloc_mid3 _ _ _ _⟩, by simp, heap_alloc_last3 _ _ _ _⟩ ?_
  rintro W1 ⟨BEL, R2, R3, R4⟩
  replace BEL := hide BEL
  have SZ := hide BEL.out.size
  replace R2 := hide R2
  replace R3 := hide R3
  replace R4 := hide R4
  have hA0 := EA0.out
  subst hA0
  have hA1 := EA1.out
  subst hA1
  clear EA0 EA1
  have SW1 := (R4.out.1)
  refine wrt3 (tl := [isv (.pointer (some ⟨w.heap.size, 0, none⟩)), ifr x1 y1 z1, ifr (fpx x1 y1 z1 x1 y1 z1) (fpy x1 y1 z1 x1 y1 z1) (fpz x1 y1 z1 x1 y1 z1), isv (.pointer (some ⟨w.heap.size + 1, 0, none⟩)), ifr x2 y2 z2, ifr (fpx (fpx x1 y1 z1 x1 y1 z1) (fpy x1 y1 z1 x1 y1 z1) (fpz x1 y1 z1 x1 y1 z1) x2 y2 z2) (fpy (fpx x1 y1 z1 x1 y1 z1) (fpy x1 y1 z1 x1 y1 z1) (fpz x1 y1 z1 x1 y1 z1) x2 y2 z2) (fpz (fpx x1 y1 z1 x1 y1 z1) (fpy x1 y1 z1 x1 y1 z1) (fpz x1 y1 z1 x1 y1 z1) x2 y2 z2)]) (pre := [(2, 0), (3, 3)])
    (plan := [.val [(2, 0)] 1, .val [(2, 0)] 1, .val [(5, 1), (6, 1)] 2, .val [(3, 3)] 4, .val [(7, 2), (8, 4)] 5, .put 0 4 9 5])
    [] [(w.heap.size + 1 + 1, 87, 12)] [(0, 4)] (by kernel_rfl) 10 (by kernel_rfl) rfl (by kernel_rfl) ⟨.inr (lv0 _ _ _), ⟨.inr (lull_f _ _ _ _ _), ⟨.inr (lull_f _ _ _ _ _), ⟨.inr (lv0 _ _ _), ⟨.inr (lull_f _ _ _ _ _), ⟨.inr (lull_f _ _ _ _ _), trivial⟩⟩⟩⟩⟩⟩
    (snkAt1 R4.out rfl rfl) (snk1 _) ⟨rfl, ⟨rfl, trivial⟩⟩
   (Oc3 (fun a w X_ h => g_ldf (wq0 rfl) rfl h.1 (X_.at_ R2.out.1 (out1 (by omega)) R2.out.2))
   (Oc3 (fun a w X_ h => g_ldf (wq0 rfl) rfl h.1 (X_.at_ R2.out.1 (out1 (by omega)) R2.out.2))
   (Oc3 (fun a w X_ h => g_call2 (wq0 rfl) (by kernel_rfl) rfl (f_plus h.1 h.2.1))
   (Oc3 (fun a w X_ h => g_ldf (wq0 rfl) rfl h.1 (X_.at_ R3.out.1 (out1 (by omega)) R3.out.2))
   (Oc3 (fun a w X_ h => g_call2 (wq0 rfl) (by kernel_rfl) rfl (f_plus h.1 h.2.1))
   (Oc3 (⟨rfl, _, _, _, rfl, rfl, by kernel_rfl, row_f _ _ _⟩)
      OkL3.nil)))))) ?_
  rintro W2 X2 _ rfl _ rfl _ rfl _ rfl _ rfl c4 r4 H4
  refine Fd3 ?_
  simp only [Act.put, List.setIfInBounds_toArray, List.set_cons_zero, List.set_cons_succ]
  obtain rfl : c4 = fe (fpx (fpx x1 y1 z1 x1 y1 z1) (fpy x1 y1 z1 x1 y1 z1) (fpz x1 y1 z1 x1 y1 z1) x2 y2 z2) (fpy (fpx x1 y1 z1 x1 y1 z1) (fpy x1 y1 z1 x1 y1 z1) (fpz x1 y1 z1 x1 y1 z1) x2 y2 z2) (fpz (fpx x1 y1 z1 x1 y1 z1) (fpy x1 y1 z1 x1 y1 z1) (fpz x1 y1 z1 x1 y1 z1) x2 y2 z2) := agg_inj H4
  replace R4 := hide (And.intro (Nat.lt_of_lt_of_le R4.out.1 X2.size) r4)
  clear r4
  replace R2 := hide (X2.row (out1 (by omega)) R2.out)
  replace R3 := hide (X2.row (out1 (by omega)) R3.out)
  replace BEL := hide (X2.on BEL.out SZ.out (one_le (by omega)))
  replace SZ := hide BEL.out.size
  have SW2 := X2.size
  clear X2
  go_wp2
  exact bodyPost_ret_by (results_cell_row rfl _ _ (w.heap.size + 1 + 1) 87 _ (0, 0) _ rfl R4.out.2 Tryz.underlying87 rfl (by kernel_rfl)) rfl ⟨_, rfl, BEL.out, HR.out _⟩
set_option maxRecDepth 100000 in
set_option maxHeartbeats 2000000 in
theorem p_zero {w : World}  : Hands Tryz.prog 94 #[] w (ipt (0 : Kp) (1 : Kp)) := by
  suffices HH : ∀ R_ : STy, (∀ W, R_.p W (.agg (pe (0 : Kp) ((1 : Kp) - 1)))) → Hands Tryz.prog 94 #[] w R_ from HH _ (fun _ => rfl)
  intro R_ hR_
  have HR := hide hR_
  clear hR_
  unfold Hands
  go_enter Tryz.func94, Tryz.ntmps94
  go_upto_region 1 with fail
  refine cut_world (fun W => Below w.heap.size w W ∧ (w.heap.size < W.heap.size ∧ W.heap[w.heap.size]? = some (.cells zp 49 (0, 0)))) ⟨(Below.refl _ _).alloc (Nat.le_refl _) _, by simp, heap_alloc_last _ _⟩ ?_
  rintro W1 ⟨BEL, R0⟩
  replace BEL := hide BEL
  have SZ := hide BEL.out.size
  replace R0 := hide R0
  have SW1 := (R0.out.1)
  refine wrl3 (tl := [ipt (0 : Kp) (1 : Kp)]) (pre := [])
    (plan := [.val [] 0, .put 0 0 1 0])
    [] [(w.heap.size, 49, 8)] [(0, 0)] 2 (by kernel_rfl) rfl (by kernel_rfl) ⟨.inr (lull_p _ _ _ _), trivial⟩
    (snkAt1 R0.out rfl rfl) (snk1 _) trivial
   (Oc3 (fun a w X_ h => g_pz (wq0 rfl) rfl)
   (Oc3 (⟨rfl, _, _, _, rfl, rfl, by kernel_rfl, row_p _ _⟩)
      OkL3.nil)) ?_
  rintro W2 X2 _ rfl c0 r0 H0
  refine Fd3 ?_
  simp only [Act.put, List.setIfInBounds_toArray, List.set_cons_zero, List.set_cons_succ]
  obtain rfl : c0 = pe (0 : Kp) ((1 : Kp) - 1) := agg_inj H0
  replace R0 := hide (And.intro (Nat.lt_of_lt_of_le R0.out.1 X2.size) r0)
  clear r0
  replace BEL := hide (X2.on BEL.out SZ.out (one_le (by omega)))
  replace SZ := hide BEL.out.size
  have SW2 := X2.size
  clear X2
  go_wp2
  exact bodyPost_ret_by (results_cell_row rfl _ _ (w.heap.size) 49 _ (0, 0) _ rfl R0.out.2 Tryz.underlying49 rfl (by kernel_rfl)) rfl ⟨_, rfl, BEL.out, HR.out _⟩
set_option maxRecDepth 100000 in
set_option maxHeartbeats 2000000 in
theorem p_base {w : World}  : Hands Tryz.prog 27 #[] w (ipt bx byy) := by
  suffices HH : ∀ R_ : STy, (∀ W, R_.p W (.agg (pe bx (byy - 1)))) → Hands Tryz.prog 27 #[] w R_ from HH _ (fun _ => rfl)
  intro R_ hR_
  have HR := hide hR_
  clear hR_
  unfold Hands
  go_enter Tryz.func27, Tryz.ntmps27
  go_upto_region 1 with fail
  refine cut_world (fun W => Below w.heap.size w W ∧ (w.heap.size < W.heap.size ∧ W.heap[w.heap.size]? = some (.cells zp 49 (0, 0)))) ⟨(Below.refl _ _).alloc (Nat.le_refl _) _, by simp, heap_alloc_last _ _⟩ ?_
  rintro W1 ⟨BEL, R0⟩
  replace BEL := hide BEL
  have SZ := hide BEL.out.size
  replace R0 := hide R0
  have SW1 := (R0.out.1)
  refine wrl3 (tl := [isk bx, isk byy, ipt bx byy]) (pre := [])
    (plan := [.val [] 0, .val [] 1, .val [(1, 0), (2, 1)] 2, .put 0 0 3 2])
    [] [(w.heap.size, 49, 8)] [(0, 0)] 4 (by kernel_rfl) rfl (by kernel_rfl) ⟨.inr (lull_k _ _ _), ⟨.inr (lull_k _ _ _), ⟨.inr (lull_p _ _ _ _), trivial⟩⟩⟩
    (snkAt1 R0.out rfl rfl) (snk1 _) trivial
   (Oc3 (fun a w X_ h => g_call0 (wq0 rfl) (by kernel_rfl) rfl (k_bx))
   (Oc3 (fun a w X_ h => g_call0 (wq0 rfl) (by kernel_rfl) rfl (k_by))
   (Oc3 (fun a w X_ h => g_call2 (wq0 rfl) (by kernel_rfl) rfl (p_at h.1 h.2.1))
   (Oc3 (⟨rfl, _, _, _, rfl, rfl, by kernel_rfl, row_p _ _⟩)
      OkL3.nil)))) ?_
  rintro W2 X2 _ rfl _ rfl _ rfl c0 r0 H0
  refine Fd3 ?_
  simp only [Act.put, List.setIfInBounds_toArray, List.set_cons_zero, List.set_cons_succ]
  obtain rfl : c0 = pe bx (byy - 1) := agg_inj H0
  replace R0 := hide (And.intro (Nat.lt_of_lt_of_le R0.out.1 X2.size) r0)
  clear r0
  replace BEL := hide (X2.on BEL.out SZ.out (one_le (by omega)))
  replace SZ := hide BEL.out.size
  have SW2 := X2.size
  clear X2
  go_wp2
  exact bodyPost_ret_by (results_cell_row rfl _ _ (w.heap.size) 49 _ (0, 0) _ rfl R0.out.2 Tryz.underlying49 rfl (by kernel_rfl)) rfl ⟨_, rfl, BEL.out, HR.out _⟩
set_option maxRecDepth 100000 in
set_option maxHeartbeats 2000000 in
theorem p_add {x1 y1 x2 y2 : Kp} {u0 u1 : Value} {w : World} (h0 : u0 = .agg (pe x1 (y1 - 1))) (h1 : u1 = .agg (pe x2 (y2 - 1))) (LDi : LaidW 2 exw w) : Hands Tryz.prog 32 #[u0, u1] w (ipt ((fpx x1 y1 (1 : Kp) x2 y2 (1 : Kp)) * kinv (fpz x1 y1 (1 : Kp) x2 y2 (1 : Kp))) ((fpy x1 y1 (1 : Kp) x2 y2 (1 : Kp)) * kinv (fpz x1 y1 (1 : Kp) x2 y2 (1 : Kp)))) := by
  subst h0 h1
  suffices HH : ∀ R_ : STy, (∀ W, R_.p W (.agg (pe ((fpx x1 y1 (1 : Kp) x2 y2 (1 : Kp)) * kinv (fpz x1 y1 (1 : Kp) x2 y2 (1 : Kp))) (((fpy x1 y1 (1 : Kp) x2 y2 (1 : Kp)) * kinv (fpz x1 y1 (1 : Kp) x2 y2 (1 : Kp))) - 1)))) → Hands Tryz.prog 32 #[.agg (pe x1 (y1 - 1)), .agg (pe x2 (y2 - 1))] w R_ from HH _ (fun _ => rfl)
  intro R_ hR_
  replace LDi := hide LDi
  obtain ⟨A0, hA0⟩ : ∃ A_, A_ = pe x1 (y1 - 1) := ⟨_, rfl⟩
  rw [← hA0]
  obtain ⟨A1, hA1⟩ : ∃ A_, A_ = pe x2 (y2 - 1) := ⟨_, rfl⟩
  rw [← hA1]
  have EA0 := hide hA0
  clear hA0
  have EA1 := hide hA1
  clear hA1
  have HR := hide hR_
  clear hR_
  unfold Hands
  go_enter Tryz.func32, Tryz.ntmps32
  go_upto_region 1 with fail
  refine cut_world (fun W => Below w.heap.size w W ∧ (w.heap.size < W.heap.size ∧ W.heap[w.heap.size]? = some (.cells A0 49 (0, 0))) ∧ (w.heap.size + 1 < W.heap.size ∧ W.heap[w.heap.size + 1]? = some (.cells A1 49 (0, 0))) ∧ (w.heap.size + 1 + 1 < W.heap.size ∧ W.heap[w.heap.size + 1 + 1]? = some (.cells zp 49 (0, 0)))) ⟨below3 _ _ _ _, ⟨by simp; omega, heap3_0 _ _ _ _⟩, ⟨by simp, heap_alloc_mid3 _ _ _ _⟩, by simp, heap_alloc_last3 _ _ _ _⟩ ?_
  rintro W1 ⟨BEL, R2, R3, R4⟩
  replace BEL := hide BEL
  have SZ := hide BEL.out.size
  replace R2 := hide R2
  replace R3 := hide R3
  replace R4 := hide R4
  have hA0 := EA0.out
  subst hA0
  have hA1 := EA1.out
  subst hA1
  clear EA0 EA1
  have SW1 := (R4.out.1)
  refine wrt3 (tl := [isv (.pointer (some ⟨w.heap.size, 0, none⟩)), ipt x1 y1, ifr x1 y1 (1 : Kp), isv (.pointer (some ⟨w.heap.size + 1, 0, none⟩)), ipt x2 y2, ifr x2 y2 (1 : Kp), ifr (fpx x1 y1 (1 : Kp) x2 y2 (1 : Kp)) (fpy x1 y1 (1 : Kp) x2 y2 (1 : Kp)) (fpz x1 y1 (1 : Kp) x2 y2 (1 : Kp)), ipt ((fpx x1 y1 (1 : Kp) x2 y2 (1 : Kp)) * kinv (fpz x1 y1 (1 : Kp) x2 y2 (1 : Kp))) ((fpy x1 y1 (1 : Kp) x2 y2 (1 : Kp)) * kinv (fpz x1 y1 (1 : Kp) x2 y2 (1 : Kp)))]) (pre := [(2, 0), (3, 3)])
    (plan := [.val [(2, 0)] 1, .val [(5, 1)] 2, .val [(3, 3)] 4, .val [(7, 4)] 5, .val [(6, 2), (8, 5)] 6, .val [(9, 6)] 7, .put 0 4 10 7])
    [] [(w.heap.size + 1 + 1, 49, 8)] [(0, 4)] (by kernel_rfl) 11 (by kernel_rfl) rfl (by kernel_rfl) ⟨.inr (lv0 _ _ _), ⟨.inr (lull_p _ _ _ _), ⟨.inr (lull_f _ _ _ _ _), ⟨.inr (lv0 _ _ _), ⟨.inr (lull_p _ _ _ _), ⟨.inr (lull_f _ _ _ _ _), ⟨.inr (lull_f _ _ _ _ _), ⟨.inr (lull_p _ _ _ _), trivial⟩⟩⟩⟩⟩⟩⟩⟩
    (snkAt1 R4.out rfl rfl) (snk1 _) ⟨rfl, ⟨rfl, trivial⟩⟩
   (Oc3 (fun a w X_ h => g_ldp (wq0 rfl) rfl h.1 (X_.at_ R2.out.1 (out1 (by omega)) R2.out.2))
   (Oc3 (fun a w X_ h => g_call1 (wq0 rfl) (by kernel_rfl) rfl (p_frac h.1))
   (Oc3 (fun a w X_ h => g_ldp (wq0 rfl) rfl h.1 (X_.at_ R3.out.1 (out1 (by omega)) R3.out.2))
   (Oc3 (fun a w X_ h => g_call1 (wq0 rfl) (by kernel_rfl) rfl (p_frac h.1))
   (Oc3 (fun a w X_ h => g_call2 (wq0 rfl) (by kernel_rfl) rfl (f_plus h.1 h.2.1))
   (Oc3 (fun a w X_ h => g_call1 (wq0 rfl) (by kernel_rfl) rfl (f_point h.1 (LDi.out.step (X_.on BEL.out SZ.out (one_le (by omega))))))
   (Oc3 (⟨rfl, _, _, _, rfl, rfl, by kernel_rfl, row_p _ _⟩)
      OkL3.nil))))))) ?_
  rintro W2 X2 _ rfl _ rfl _ rfl _ rfl _ rfl _ rfl c4 r4 H4
  refine Fd3 ?_
  simp only [Act.put, List.setIfInBounds_toArray, List.set_cons_zero, List.set_cons_succ]
  obtain rfl : c4 = pe ((fpx x1 y1 (1 : Kp) x2 y2 (1 : Kp)) * kinv (fpz x1 y1 (1 : Kp) x2 y2 (1 : Kp))) (((fpy x1 y1 (1 : Kp) x2 y2 (1 : Kp)) * kinv (fpz x1 y1 (1 : Kp) x2 y2 (1 : Kp))) - 1) := agg_inj H4
  replace R4 := hide (And.intro (Nat.lt_of_lt_of_le R4.out.1 X2.size) r4)
  clear r4
  replace R2 := hide (X2.row (out1 (by omega)) R2.out)
  replace R3 := hide (X2.row (out1 (by omega)) R3.out)
  replace BEL := hide (X2.on BEL.out SZ.out (one_le (by omega)))
  replace SZ := hide BEL.out.size
  have SW2 := X2.size
  clear X2
  go_wp2
  exact bodyPost_ret_by (results_cell_row rfl _ _ (w.heap.size + 1 + 1) 49 _ (0, 0) _ rfl R4.out.2 Tryz.underlying49 rfl (by kernel_rfl)) rfl ⟨_, rfl, BEL.out, HR.out _⟩
set_option maxRecDepth 100000 in
set_option maxHeartbeats 2000000 in
theorem p_neg {x y : Kp} {u0 : Value} {w : World} (h0 : u0 = .agg (pe x (y - 1)))  : Hands Tryz.prog 29 #[u0] w (ipt (-x) y) := by
  subst h0
  suffices HH : ∀ R_ : STy, (∀ W, R_.p W (.agg (pe (-x) (y - 1)))) → Hands Tryz.prog 29 #[.agg (pe x (y - 1))] w R_ from HH _ (fun _ => rfl)
  intro R_ hR_
  obtain ⟨A0, hA0⟩ : ∃ A_, A_ = pe x (y - 1) := ⟨_, rfl⟩
  rw [← hA0]
  have EA0 := hide hA0
  clear hA0
  have HR := hide hR_
  clear hR_
  unfold Hands
  go_enter Tryz.func29, Tryz.ntmps29
  go_upto_region 1 with fail
  refine cut_world (fun W => Below w.heap.size w W ∧ (w.heap.size < W.heap.size ∧ W.heap[w.heap.size]? = some (.cells A0 49 (0, 0))) ∧ (w.heap.size + 1 < W.heap.size ∧ W.heap[w.heap.size + 1]? = some (.cells zp 49 (0, 0)))) ⟨below2 _ _ _, ⟨by simp; omega, heap2_0 _ _ _⟩, by simp, heap2_1 _ _ _⟩ ?_
  rintro W1 ⟨BEL, R1, R2⟩
  replace BEL := hide BEL
  have SZ := hide BEL.out.size
  replace R1 := hide R1
  replace R2 := hide R2
  have hA0 := EA0.out
  subst hA0
  clear EA0
  have SW1 := (R2.out.1)
  refine wrt3 (tl := [isv (.pointer (some ⟨w.heap.size, 0, none⟩)), isk x, isk (-x), isv (.pointer (some ⟨w.heap.size, 4, none⟩)), isk (y - 1), ipt (-x) y]) (pre := [(1, 0)])
    (plan := [.val [(1, 0)] 0, .val [(3, 0)] 1, .val [(4, 1)] 2, .val [(1, 0)] 3, .val [(6, 3)] 4, .val [(5, 2), (7, 4)] 5, .put 0 2 8 5])
    [] [(w.heap.size + 1, 49, 8)] [(0, 2)] (by kernel_rfl) 9 (by kernel_rfl) rfl (by kernel_rfl) ⟨.inr (lv0 _ _ _), ⟨.inr (lull_k _ _ _), ⟨.inr (lull_k _ _ _), ⟨.inr (lv0 _ _ _), ⟨.inr (lull_k _ _ _), ⟨.inr (lull_p _ _ _ _), trivial⟩⟩⟩⟩⟩⟩
    (snkAt1 R2.out rfl rfl) (snk1 _) ⟨rfl, trivial⟩
   (Oc3 (fun a w X_ h => g_fld (wq0 rfl) rfl h.1 atP0)
   (Oc3 (fun a w X_ h => g_ldp0 (wq0 rfl) rfl h.1 (X_.at_ R1.out.1 (out1 (by omega)) R1.out.2))
   (Oc3 (fun a w X_ h => g_call1 (wq0 rfl) (by kernel_rfl) rfl (k_neg h.1))
   (Oc3 (fun a w X_ h => g_fld (wq0 rfl) rfl h.1 atP1)
   (Oc3 (fun a w X_ h => g_ldp1 (wq0 rfl) rfl h.1 (X_.at_ R1.out.1 (out1 (by omega)) R1.out.2))
   (Oc3 (fun a w X_ h => g_pe (wq0 rfl) rfl h.1 h.2.1)
   (Oc3 (⟨rfl, _, _, _, rfl, rfl, by kernel_rfl, row_p _ _⟩)
      OkL3.nil))))))) ?_
  rintro W2 X2 _ rfl _ rfl _ rfl _ rfl _ rfl _ rfl c2 r2 H2
  refine Fd3 ?_
  simp only [Act.put, List.setIfInBounds_toArray, List.set_cons_zero, List.set_cons_succ]
  obtain rfl : c2 = pe (-x) (y - 1) := agg_inj H2
  replace R2 := hide (And.intro (Nat.lt_of_lt_of_le R2.out.1 X2.size) r2)
  clear r2
  replace R1 := hide (X2.row (out1 (by omega)) R1.out)
  replace BEL := hide (X2.on BEL.out SZ.out (one_le (by omega)))
  replace SZ := hide BEL.out.size
  have SW2 := X2.size
  clear X2
  go_wp2
  exact bodyPost_ret_by (results_cell_row rfl _ _ (w.heap.size + 1) 49 _ (0, 0) _ rfl R2.out.2 Tryz.underlying49 rfl (by kernel_rfl)) rfl ⟨_, rfl, BEL.out, HR.out _⟩
end Go.Proofs.YtobgimpkkjaolaaGreatDoor
