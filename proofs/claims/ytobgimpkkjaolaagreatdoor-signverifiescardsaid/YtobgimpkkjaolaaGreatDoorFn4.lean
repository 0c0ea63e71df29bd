/- The program's root, as its call answers it. -/
import Derived.Test.YtobgimpkkjaolaaGreatDoorFn3
namespace Go.Proofs.YtobgimpkkjaolaaGreatDoor
open Go.RowKit
def ei : Nat := 7237005577332262213973186563042994240829374041602535252466099000494570602493
def eiw : List Nat := [18446744073709551613, 18446744073709551615, 18446744073709551615, 1152921504606846975]
theorem eiw_lim : lim eiw := lim4_mk (by decide)
theorem eiw_val : val eiw = ei := by decide +kernel
def rmw : List Nat := [14190309331451158704, 3405592160176694392, 3120150775007532967, 3135389899092516619]
theorem rmw_lim : lim rmw := lim4_mk (by decide)
theorem rmw_val : val rmw = rm.val := by decide +kernel
def rt0 (u v : Kp) : Kp := u * (v * v * v) * kpw (u * (v * v * v * (v * v * v) * v)) ei
set_option maxRecDepth 100000 in
set_option maxHeartbeats 2000000 in
theorem k_rt0 {u v : Kp} {u0 u1 : Value} {w : World} (h0 : u0 = .agg (el u.val)) (h1 : u1 = .agg (el v.val)) (LDe : LaidW 3 eiw w) : Hands Tryz.prog 108 #[u0, u1] w (isk (rt0 u v)) := by
  subst h0 h1
  suffices HH : ∀ R_ : STy, (∀ W, R_.p W (.agg (el (u * (v * v * v) * kpw (u * (v * v * v * (v * v * v) * v)) ei).val))) → Hands Tryz.prog 108 #[.agg (el u.val), .agg (el v.val)] w R_ from HH _ (fun _ => rfl)
  intro R_ hR_
  replace LDe := hide LDe
  obtain ⟨A0, hA0⟩ : ∃ A_, A_ = el u.val := ⟨_, rfl⟩
  rw [← hA0]
  obtain ⟨A1, hA1⟩ : ∃ A_, A_ = el v.val := ⟨_, rfl⟩
  rw [← hA1]
  have EA0 := hide hA0
  clear hA0
  have EA1 := hide hA1
  clear hA1
  have HR := hide hR_
  clear hR_
  unfold Hands
  go_enter Tryz.func108, Tryz.ntmps108
  go_upto_region 1 with fail
  refine cut_world (fun W => Below w.heap.size w W ∧ (w.heap.size < W.heap.size ∧ W.heap[w.heap.size]? = some (.cells A0 47 (0, 0))) ∧ (w.heap.size + 1 < W.heap.size ∧ W.heap[w.heap.size + 1]? = some (.cells A1 47 (0, 0))) ∧ (w.heap.size + 1 + 1 < W.heap.size ∧ W.heap[w.heap.size + 1 + 1]? = some (.cells zk 47 (0, 0)))) ⟨below3 _ _ _ _, ⟨by simp; omega, heap3_0 _ _ _ _⟩, ⟨by simp, heap_alloc_mid3 _ _ _ _⟩, by simp, heap_alloc_last3 _ _ _ _⟩ ?_
  rintro W1 ⟨BEL, R2, R3, R4⟩
  replace BEL := hide BEL
  have SZ := hide BEL.out.size
  replace R2 := hide R2
  replace R3 := hide R3
  replace R4 := hide R4
  have hA0 := EA0.out
  subst hA0
  have hA1 := EA1.out
  subst hA1
  clear EA0 EA1
  have SW1 := (R4.out.1)
  refine wrt3 (tl := [isv (.pointer (some ⟨w.heap.size + 1, 0, none⟩)), isk v, isk (v * v), isk ((v * v) * v)]) (pre := [(3, 0)])
    (plan := [.val [(3, 0)] 1, .val [(3, 0)] 1, .val [(7, 1), (8, 1)] 2, .val [(3, 0)] 1, .val [(9, 2), (10, 1)] 3, .alc 47 4, .sto 5 11 3])
    [] [] [] (by kernel_rfl) 26 (by kernel_rfl) rfl (by kernel_rfl) ⟨.inr (lv0 _ _ _), ⟨.inr (lull_k _ _ _), ⟨.inr (lull_k _ _ _), ⟨.inr (lull_k _ _ _), trivial⟩⟩⟩⟩
    snkAt0 snk0 ⟨rfl, trivial⟩
   (Oc3 (fun a w X_ h => g_ldk (wq0 rfl) rfl h.1 (X_.at_ R3.out.1 out0 R3.out.2))
   (Oc3 (fun a w X_ h => g_ldk (wq0 rfl) rfl h.1 (X_.at_ R3.out.1 out0 R3.out.2))
   (Oc3 (fun a w X_ h => g_call2 (wq0 rfl) (by kernel_rfl) rfl (k_mul h.1 h.2.1))
   (Oc3 (fun a w X_ h => g_ldk (wq0 rfl) rfl h.1 (X_.at_ R3.out.1 out0 R3.out.2))
   (Oc3 (fun a w X_ h => g_call2 (wq0 rfl) (by kernel_rfl) rfl (k_mul h.1 h.2.1))
   (Oc3 (alc_of zk rfl rfl rfl newK)
   (Oc3 (⟨rfl, _, _, _, rfl, rfl, rfl, by kernel_rfl, row_k _⟩)
      OkL3.nil))))))) ?_
  rintro W2 X2 _ rfl _ rfl _ rfl _ rfl _ rfl g5 c5 ⟨L5, Z5, -⟩ r5 H5
  refine FinL3.fill ?_
  refine Fd3 ?_
  simp only [Act.put, List.setIfInBounds_toArray, List.set_cons_zero, List.set_cons_succ]
  obtain rfl : c5 = el ((v * v) * v).val := agg_inj H5
  have R5 := hide (And.intro Z5 r5)
  clear r5
  replace R2 := hide (X2.row out0 R2.out)
  replace R3 := hide (X2.row out0 R3.out)
  replace R4 := hide (X2.row out0 R4.out)
  replace BEL := hide (X2.on BEL.out SZ.out none_le)
  replace SZ := hide BEL.out.size
  have SW2 := X2.size
  clear X2
  go_upto_region 2 with fail
  refine wrt3 (tl := [isv (.pointer (some ⟨g5, 0, none⟩)), isk ((v * v) * v), isk (((v * v) * v) * ((v * v) * v)), isv (.pointer (some ⟨w.heap.size + 1, 0, none⟩)), isk v, isk ((((v * v) * v) * ((v * v) * v)) * v)]) (pre := [(3, 3), (5, 0)])
    (plan := [.val [(5, 0)] 1, .val [(5, 0)] 1, .val [(12, 1), (13, 1)] 2, .val [(3, 3)] 4, .val [(14, 2), (15, 4)] 5, .alc 47 4, .sto 5 16 5])
    [] [] [] (by kernel_rfl) 26 (by kernel_rfl) rfl (by kernel_rfl) ⟨.inr (lv0 _ _ _), ⟨.inr (lull_k _ _ _), ⟨.inr (lull_k _ _ _), ⟨.inr (lv0 _ _ _), ⟨.inr (lull_k _ _ _), ⟨.inr (lull_k _ _ _), trivial⟩⟩⟩⟩⟩⟩
    snkAt0 snk0 ⟨rfl, ⟨rfl, trivial⟩⟩
   (Oc3 (fun a w X_ h => g_ldk (wq0 rfl) rfl h.1 (X_.at_ R5.out.1 out0 R5.out.2))
   (Oc3 (fun a w X_ h => g_ldk (wq0 rfl) rfl h.1 (X_.at_ R5.out.1 out0 R5.out.2))
   (Oc3 (fun a w X_ h => g_call2 (wq0 rfl) (by kernel_rfl) rfl (k_mul h.1 h.2.1))
   (Oc3 (fun a w X_ h => g_ldk (wq0 rfl) rfl h.1 (X_.at_ R3.out.1 out0 R3.out.2))
   (Oc3 (fun a w X_ h => g_call2 (wq0 rfl) (by kernel_rfl) rfl (k_mul h.1 h.2.1))
   (Oc3 (alc_of zk rfl rfl rfl newK)
   (Oc3 (⟨rfl, _, _, _, rfl, rfl, rfl, by kernel_rfl, row_k _⟩)
      OkL3.nil))))))) ?_
  rintro W3 X3 _ rfl _ rfl _ rfl _ rfl _ rfl g6 c6 ⟨L6, Z6, -⟩ r6 H6
  refine FinL3.fill ?_
  refine Fd3 ?_
  simp only [Act.put, List.setIfInBounds_toArray, List.set_cons_zero, List.set_cons_succ]
  obtain rfl : c6 = el ((((v * v) * v) * ((v * v) * v)) * v).val := agg_inj H6
  have R6 := hide (And.intro Z6 r6)
  clear r6
  replace R2 := hide (X3.row out0 R2.out)
  replace R3 := hide (X3.row out0 R3.out)
  replace R4 := hide (X3.row out0 R4.out)
  replace R5 := hide (X3.row out0 R5.out)
  replace BEL := hide (X3.on BEL.out SZ.out none_le)
  replace SZ := hide BEL.out.size
  have SW3 := X3.size
  clear X3
  go_upto_region 3 with fail
  refine wrt3 (tl := [isv (.pointer (some ⟨w.heap.size, 0, none⟩)), isk u, isv (.pointer (some ⟨g5, 0, none⟩)), isk ((v * v) * v), isk (u * ((v * v) * v)), isv (.pointer (some ⟨g6, 0, none⟩)), isk ((((v * v) * v) * ((v * v) * v)) * v), isk (u * ((((v * v) * v) * ((v * v) * v)) * v)), isw eiw, isk (kpw (u * ((((v * v) * v) * ((v * v) * v)) * v)) ei), isk ((u * ((v * v) * v)) * (kpw (u * ((((v * v) * v) * ((v * v) * v)) * v)) ei))]) (pre := [(2, 0), (5, 2), (6, 5)])
    (plan := [.val [(2, 0)] 1, .val [(5, 2)] 3, .val [(17, 1), (18, 3)] 4, .val [(2, 0)] 1, .val [(6, 5)] 6, .val [(20, 1), (21, 6)] 7, .val [] 8, .val [(22, 7), (23, 8)] 9, .val [(19, 4), (24, 9)] 10, .put 0 4 25 10])
    [] [(w.heap.size + 1 + 1, 47, 4)] [(0, 4)] (by kernel_rfl) 26 (by kernel_rfl) rfl (by kernel_rfl) ⟨.inr (lv0 _ _ _), ⟨.inr (lull_k _ _ _), ⟨.inr (lv0 _ _ _), ⟨.inr (lull_k _ _ _), ⟨.inr (lull_k _ _ _), ⟨.inr (lv0 _ _ _), ⟨.inr (lull_k _ _ _), ⟨.inr (lull_k _ _ _), ⟨.inr (lv0 _ _ _), ⟨.inr (lull_k _ _ _), ⟨.inr (lull_k _ _ _), trivial⟩⟩⟩⟩⟩⟩⟩⟩⟩⟩⟩
    (snkAt1 R4.out rfl rfl) (snk1 _) ⟨rfl, ⟨rfl, ⟨rfl, trivial⟩⟩⟩
   (Oc3 (fun a w X_ h => g_ldk (wq0 rfl) rfl h.1 (X_.at_ R2.out.1 (out1 (by omega)) R2.out.2))
   (Oc3 (fun a w X_ h => g_ldk (wq0 rfl) rfl h.1 (X_.at_ R5.out.1 (out1 (by omega)) R5.out.2))
   (Oc3 (fun a w X_ h => g_call2 (wq0 rfl) (by kernel_rfl) rfl (k_mul h.1 h.2.1))
   (Oc3 (fun a w X_ h => g_ldk (wq0 rfl) rfl h.1 (X_.at_ R2.out.1 (out1 (by omega)) R2.out.2))
   (Oc3 (fun a w X_ h => g_ldk (wq0 rfl) rfl h.1 (X_.at_ R6.out.1 (out1 (by omega)) R6.out.2))
   (Oc3 (fun a w X_ h => g_call2 (wq0 rfl) (by kernel_rfl) rfl (k_mul h.1 h.2.1))
   (Oc3 (fun a w X_ h => g_glb (wq0 rfl) rfl (LDe.out.step (X_.on BEL.out SZ.out (one_le (by omega)))) rfl)
   (Oc3 (fun a w X_ h => g_call2 (wq0 rfl) (by kernel_rfl) rfl (k_pow h.1 h.2.1 rfl eiw_lim eiw_val))
   (Oc3 (fun a w X_ h => g_call2 (wq0 rfl) (by kernel_rfl) rfl (k_mul h.1 h.2.1))
   (Oc3 (⟨rfl, _, _, _, rfl, rfl, by kernel_rfl, row_k _⟩)
      OkL3.nil)))))))))) ?_
  rintro W4 X4 _ rfl _ rfl _ rfl _ rfl _ rfl _ rfl _ rfl _ rfl _ rfl c4 r4 H4
  refine Fd3 ?_
  simp only [Act.put, List.setIfInBounds_toArray, List.set_cons_zero, List.set_cons_succ]
  obtain rfl : c4 = el ((u * ((v * v) * v)) * (kpw (u * ((((v * v) * v) * ((v * v) * v)) * v)) ei)).val := agg_inj H4
  replace R4 := hide (And.intro (Nat.lt_of_lt_of_le R4.out.1 X4.size) r4)
  clear r4
  replace R2 := hide (X4.row (out1 (by omega)) R2.out)
  replace R3 := hide (X4.row (out1 (by omega)) R3.out)
  replace R5 := hide (X4.row (out1 (by omega)) R5.out)
  replace R6 := hide (X4.row (out1 (by omega)) R6.out)
  replace BEL := hide (X4.on BEL.out SZ.out (one_le (by omega)))
  replace SZ := hide BEL.out.size
  have SW4 := X4.size
  clear X4
  go_wp2
  exact bodyPost_ret_by (results_cell_row rfl _ _ (w.heap.size + 1 + 1) 47 _ (0, 0) _ rfl R4.out.2 Tryz.underlying47 rfl (by kernel_rfl)) rfl ⟨_, rfl, BEL.out, HR.out _⟩
set_option maxRecDepth 100000 in
set_option maxHeartbeats 2000000 in
theorem root_a0 {u v : Kp} {u0 u1 : Value} {w : World} (h0 : u0 = .agg (el u.val)) (h1 : u1 = .agg (el v.val)) (LDe : LaidW 3 eiw w) (LDm : LaidW 1 rmw w) (ha : v * rt0 u v * rt0 u v = u) (ho : ¬ (rt0 u v).val % 2 = 1) : Hands Tryz.prog 86 #[u0, u1] w (isv (.tuple #[.agg (el (rt0 u v).val), .bool true])) := by
  subst h0 h1
  suffices HH : ∀ R_ : STy, (∀ W, R_.p W (.tuple #[.agg (el (rt0 u v).val), .bool true])) → Hands Tryz.prog 86 #[.agg (el u.val), .agg (el v.val)] w R_ from HH _ (fun _ => rfl)
  intro R_ hR_
  replace LDe := hide LDe
  replace LDm := hide LDm
  obtain ⟨A0, hA0⟩ : ∃ A_, A_ = el u.val := ⟨_, rfl⟩
  rw [← hA0]
  obtain ⟨A1, hA1⟩ : ∃ A_, A_ = el v.val := ⟨_, rfl⟩
  rw [← hA1]
  have EA0 := hide hA0
  clear hA0
  have EA1 := hide hA1
  clear hA1
  have HR := hide hR_
  clear hR_
  unfold Hands
  go_enter Tryz.func86, Tryz.ntmps86
  go_upto_region 1 with fail
  refine cut_world (fun W => Below w.heap.size w W ∧ (w.heap.size < W.heap.size ∧ W.heap[w.heap.size]? = some (.cells A0 47 (0, 0))) ∧ (w.heap.size + 1 < W.heap.size ∧ W.heap[w.heap.size + 1]? = some (.cells A1 47 (0, 0))) ∧ (w.heap.size + 1 + 1 < W.heap.size ∧ W.heap[w.heap.size + 1 + 1]? = some (.cells zk 47 (0, 0)))) ⟨below3 _ _ _ _, ⟨by simp; omega, heap3_0 _ _ _ _⟩, ⟨by simp, heap_alloc_mid3 _ _ _ _⟩, by simp, heap_alloc_last3 _ _ _ _⟩ ?_
  rintro W1 ⟨BEL, R2, R3, R4⟩
  replace BEL := hide BEL
  have SZ := hide BEL.out.size
  replace R2 := hide R2
  replace R3 := hide R3
  replace R4 := hide R4
  have hA0 := EA0.out
  subst hA0
  have hA1 := EA1.out
  subst hA1
  clear EA0 EA1
  have SW1 := (R4.out.1)
  refine wrl3 (tl := [isv (.pointer (some ⟨w.heap.size, 0, none⟩)), isk u, isv (.pointer (some ⟨w.heap.size + 1, 0, none⟩)), isk v, isk (rt0 u v)]) (pre := [(2, 0), (3, 2)])
    (plan := [.val [(2, 0)] 1, .val [(3, 2)] 3, .val [(8, 1), (9, 3)] 4, .alc 47 4, .sto 3 10 4])
    [] [] [] 36 (by kernel_rfl) rfl (by kernel_rfl) ⟨.inr (lv0 _ _ _), ⟨.inr (lull_k _ _ _), ⟨.inr (lv0 _ _ _), ⟨.inr (lull_k _ _ _), ⟨.inr (lull_k _ _ _), trivial⟩⟩⟩⟩⟩
    snkAt0 snk0 ⟨rfl, ⟨rfl, trivial⟩⟩
   (Oc3 (fun a w X_ h => g_ldk (wq0 rfl) rfl h.1 (X_.at_ R2.out.1 out0 R2.out.2))
   (Oc3 (fun a w X_ h => g_ldk (wq0 rfl) rfl h.1 (X_.at_ R3.out.1 out0 R3.out.2))
   (Oc3 (fun a w X_ h => g_call2 (wq0 rfl) (by kernel_rfl) rfl (k_rt0 h.1 h.2.1 (LDe.out.step (X_.on BEL.out SZ.out none_le))))
   (Oc3 (alc_of zk rfl rfl rfl newK)
   (Oc3 (⟨rfl, _, _, _, rfl, rfl, rfl, by kernel_rfl, row_k _⟩)
      OkL3.nil))))) ?_
  rintro W2 X2 _ rfl _ rfl _ rfl g6 c6 ⟨L6, Z6, -⟩ r6 H6
  refine FinL3.fill ?_
  refine Fd3 ?_
  simp only [Act.put, List.setIfInBounds_toArray, List.set_cons_zero, List.set_cons_succ]
  obtain rfl : c6 = el (rt0 u v).val := agg_inj H6
  have R6 := hide (And.intro Z6 r6)
  clear r6
  replace R2 := hide (X2.row out0 R2.out)
  replace R3 := hide (X2.row out0 R3.out)
  replace R4 := hide (X2.row out0 R4.out)
  replace BEL := hide (X2.on BEL.out SZ.out none_le)
  replace SZ := hide BEL.out.size
  have SW2 := X2.size
  clear X2
  go_upto_region 2 with fail
  refine wrt3 (tl := [isv (.pointer (some ⟨w.heap.size + 1, 0, none⟩)), isk v, isv (.pointer (some ⟨g6, 0, none⟩)), isk (rt0 u v), isk (v * (rt0 u v)), isk ((v * (rt0 u v)) * (rt0 u v))]) (pre := [(3, 0), (6, 2)])
    (plan := [.val [(3, 0)] 1, .val [(6, 2)] 3, .val [(11, 1), (12, 3)] 4, .val [(6, 2)] 3, .val [(13, 4), (14, 3)] 5, .alc 47 4, .sto 5 15 5])
    [] [] [] (by kernel_rfl) 36 (by kernel_rfl) rfl (by kernel_rfl) ⟨.inr (lv0 _ _ _), ⟨.inr (lull_k _ _ _), ⟨.inr (lv0 _ _ _), ⟨.inr (lull_k _ _ _), ⟨.inr (lull_k _ _ _), ⟨.inr (lull_k _ _ _), trivial⟩⟩⟩⟩⟩⟩
    snkAt0 snk0 ⟨rfl, ⟨rfl, trivial⟩⟩
   (Oc3 (fun a w X_ h => g_ldk (wq0 rfl) rfl h.1 (X_.at_ R3.out.1 out0 R3.out.2))
   (Oc3 (fun a w X_ h => g_ldk (wq0 rfl) rfl h.1 (X_.at_ R6.out.1 out0 R6.out.2))
   (Oc3 (fun a w X_ h => g_call2 (wq0 rfl) (by kernel_rfl) rfl (k_mul h.1 h.2.1))
   (Oc3 (fun a w X_ h => g_ldk (wq0 rfl) rfl h.1 (X_.at_ R6.out.1 out0 R6.out.2))
   (Oc3 (fun a w X_ h => g_call2 (wq0 rfl) (by kernel_rfl) rfl (k_mul h.1 h.2.1))
   (Oc3 (alc_of zk rfl rfl rfl newK)
   (Oc3 (⟨rfl, _, _, _, rfl, rfl, rfl, by kernel_rfl, row_k _⟩)
      OkL3.nil))))))) ?_
  rintro W3 X3 _ rfl _ rfl _ rfl _ rfl _ rfl g7 c7 ⟨L7, Z7, -⟩ r7 H7
  refine FinL3.fill ?_
  refine Fd3 ?_
  simp only [Act.put, List.setIfInBounds_toArray, List.set_cons_zero, List.set_cons_succ]
  obtain rfl : c7 = el ((v * (rt0 u v)) * (rt0 u v)).val := agg_inj H7
  have R7 := hide (And.intro Z7 r7)
  clear r7
  replace R2 := hide (X3.row out0 R2.out)
  replace R3 := hide (X3.row out0 R3.out)
  replace R4 := hide (X3.row out0 R4.out)
  replace R6 := hide (X3.row out0 R6.out)
  replace BEL := hide (X3.on BEL.out SZ.out none_le)
  replace SZ := hide BEL.out.size
  have SW3 := X3.size
  clear X3
  go_upto_region 3 with fail
  refine wrl3 (tl := [isv (.pointer (some ⟨g7, 0, none⟩)), isk ((v * (rt0 u v)) * (rt0 u v)), isv (.pointer (some ⟨w.heap.size, 0, none⟩)), isk u, isv (.bool true), isv (.bool false)]) (pre := [(2, 2), (7, 0)])
    (plan := [.val [(7, 0)] 1, .val [(2, 2)] 3, .val [(16, 1), (17, 3)] 4, .val [(18, 4)] 5])
    [] [] [] 36 (by kernel_rfl) rfl (by kernel_rfl) ⟨.inr (lv0 _ _ _), ⟨.inr (lull_k _ _ _), ⟨.inr (lv0 _ _ _), ⟨.inr (lull_k _ _ _), ⟨.inr (lv0 _ _ _), ⟨.inr (lv0 _ _ _), trivial⟩⟩⟩⟩⟩⟩
    snkAt0 snk0 ⟨rfl, ⟨rfl, trivial⟩⟩
   (Oc3 (fun a w X_ h => g_ldk (wq0 rfl) rfl h.1 (X_.at_ R7.out.1 out0 R7.out.2))
   (Oc3 (fun a w X_ h => g_ldk (wq0 rfl) rfl h.1 (X_.at_ R2.out.1 out0 R2.out.2))
   (Oc3 (fun a w X_ h => g_call2 (wq0 rfl) (by kernel_rfl) rfl (k_same_t h.1 h.2.1 ha))
   (Oc3 (fun a w X_ h => g_not (wq0 rfl) rfl h.1 rfl)
      OkL3.nil)))) ?_
  rintro W4 X4 _ rfl _ rfl _ rfl _ rfl
  refine Fd3 ?_
  simp only [Act.put, List.setIfInBounds_toArray, List.set_cons_zero, List.set_cons_succ]
  replace R2 := hide (X4.row out0 R2.out)
  replace R3 := hide (X4.row out0 R3.out)
  replace R4 := hide (X4.row out0 R4.out)
  replace R6 := hide (X4.row out0 R6.out)
  replace R7 := hide (X4.row out0 R7.out)
  replace BEL := hide (X4.on BEL.out SZ.out none_le)
  replace SZ := hide BEL.out.size
  have SW4 := X4.size
  clear X4
  go_upto_region 6 with fail
  refine wrl3 (tl := [isv (.pointer (some ⟨g7, 0, none⟩)), isk ((v * (rt0 u v)) * (rt0 u v)), isv (.pointer (some ⟨w.heap.size, 0, none⟩)), isk u, isv (.bool true), isv (.bool false)]) (pre := [(2, 2), (7, 0)])
    (plan := [.val [(7, 0)] 1, .val [(2, 2)] 3, .val [(26, 1), (27, 3)] 4, .val [(28, 4)] 5])
    [] [] [] 36 (by kernel_rfl) rfl (by kernel_rfl) ⟨.inr (lv0 _ _ _), ⟨.inr (lull_k _ _ _), ⟨.inr (lv0 _ _ _), ⟨.inr (lull_k _ _ _), ⟨.inr (lv0 _ _ _), ⟨.inr (lv0 _ _ _), trivial⟩⟩⟩⟩⟩⟩
    snkAt0 snk0 ⟨rfl, ⟨rfl, trivial⟩⟩
   (Oc3 (fun a w X_ h => g_ldk (wq0 rfl) rfl h.1 (X_.at_ R7.out.1 out0 R7.out.2))
   (Oc3 (fun a w X_ h => g_ldk (wq0 rfl) rfl h.1 (X_.at_ R2.out.1 out0 R2.out.2))
   (Oc3 (fun a w X_ h => g_call2 (wq0 rfl) (by kernel_rfl) rfl (k_same_t h.1 h.2.1 ha))
   (Oc3 (fun a w X_ h => g_not (wq0 rfl) rfl h.1 rfl)
      OkL3.nil)))) ?_
  rintro W5 X5 _ rfl _ rfl _ rfl _ rfl
  refine Fd3 ?_
  simp only [Act.put, List.setIfInBounds_toArray, List.set_cons_zero, List.set_cons_succ]
  replace R2 := hide (X5.row out0 R2.out)
  replace R3 := hide (X5.row out0 R3.out)
  replace R4 := hide (X5.row out0 R4.out)
  replace R6 := hide (X5.row out0 R6.out)
  replace R7 := hide (X5.row out0 R7.out)
  replace BEL := hide (X5.on BEL.out SZ.out none_le)
  replace SZ := hide BEL.out.size
  have SW5 := X5.size
  clear X5
  go_upto_region 8 with fail
  refine wrl3 (tl := [isv (.pointer (some ⟨g6, 0, none⟩)), isk (rt0 u v), isv (.bool false)]) (pre := [(6, 0)])
    (plan := [.val [(6, 0)] 1, .val [(31, 1)] 2])
    [] [] [] 36 (by kernel_rfl) rfl (by kernel_rfl) ⟨.inr (lv0 _ _ _), ⟨.inr (lull_k _ _ _), ⟨.inr (lv0 _ _ _), trivial⟩⟩⟩
    snkAt0 snk0 ⟨rfl, trivial⟩
   (Oc3 (fun a w X_ h => g_ldk (wq0 rfl) rfl h.1 (X_.at_ R6.out.1 out0 R6.out.2))
   (Oc3 (fun a w X_ h => g_call1 (wq0 rfl) (by kernel_rfl) rfl (k_odd_f h.1 ho))
      OkL3.nil)) ?_
  rintro W6 X6 _ rfl _ rfl
  refine Fd3 ?_
  simp only [Act.put, List.setIfInBounds_toArray, List.set_cons_zero, List.set_cons_succ]
  replace R2 := hide (X6.row out0 R2.out)
  replace R3 := hide (X6.row out0 R3.out)
  replace R4 := hide (X6.row out0 R4.out)
  replace R6 := hide (X6.row out0 R6.out)
  replace R7 := hide (X6.row out0 R7.out)
  replace BEL := hide (X6.on BEL.out SZ.out none_le)
  replace SZ := hide BEL.out.size
  have SW6 := X6.size
  clear X6
  go_upto_region 10 with fail
  refine wrl3 (tl := [isv (.pointer (some ⟨g6, 0, none⟩)), isk (rt0 u v), isv (.bool true)]) (pre := [(6, 0)])
    (plan := [.val [(6, 0)] 1, .put 0 4 35 1, .val [] 2])
    [] [(w.heap.size + 1 + 1, 47, 4)] [(0, 4)] 36 (by kernel_rfl) rfl (by kernel_rfl) ⟨.inr (lv0 _ _ _), ⟨.inr (lull_k _ _ _), ⟨.inr (lv0 _ _ _), trivial⟩⟩⟩
    (snkAt1 R4.out rfl rfl) (snk1 _) ⟨rfl, trivial⟩
   (Oc3 (fun a w X_ h => g_ldk (wq0 rfl) rfl h.1 (X_.at_ R6.out.1 (out1 (by omega)) R6.out.2))
   (Oc3 (⟨rfl, _, _, _, rfl, rfl, by kernel_rfl, row_k _⟩)
   (Oc3 (fun a w X_ h => g_move (wq0 rfl) (.inr rfl) rfl)
      OkL3.nil))) ?_
  rintro W7 X7 _ rfl c4 r4 H4 _ rfl
  refine Fd3 ?_
  simp only [Act.put, List.setIfInBounds_toArray, List.set_cons_zero, List.set_cons_succ]
  obtain rfl : c4 = el (rt0 u v).val := agg_inj H4
  replace R4 := hide (And.intro (Nat.lt_of_lt_of_le R4.out.1 X7.size) r4)
  clear r4
  replace R2 := hide (X7.row (out1 (by omega)) R2.out)
  replace R3 := hide (X7.row (out1 (by omega)) R3.out)
  replace R6 := hide (X7.row (out1 (by omega)) R6.out)
  replace R7 := hide (X7.row (out1 (by omega)) R7.out)
  replace BEL := hide (X7.on BEL.out SZ.out (one_le (by omega)))
  replace SZ := hide BEL.out.size
  have SW7 := X7.size
  clear X7
  go_wp2
  exact bodyPost_ret_by (results_row_tmp rfl _ _ (w.heap.size + 1 + 1) 47 _ (0, 0) _ rfl R4.out.2 Tryz.underlying47 rfl (by kernel_rfl)) rfl ⟨_, rfl, BEL.out, HR.out _⟩
set_option maxRecDepth 100000 in
set_option maxHeartbeats 2000000 in
theorem root_a1 {u v : Kp} {u0 u1 : Value} {w : World} (h0 : u0 = .agg (el u.val)) (h1 : u1 = .agg (el v.val)) (LDe : LaidW 3 eiw w) (LDm : LaidW 1 rmw w) (ha : v * rt0 u v * rt0 u v = u) (ho : (rt0 u v).val % 2 = 1) : Hands Tryz.prog 86 #[u0, u1] w (isv (.tuple #[.agg (el (-(rt0 u v)).val), .bool true])) := by
  subst h0 h1
  suffices HH : ∀ R_ : STy, (∀ W, R_.p W (.tuple #[.agg (el (-(rt0 u v)).val), .bool true])) → Hands Tryz.prog 86 #[.agg (el u.val), .agg (el v.val)] w R_ from HH _ (fun _ => rfl)
  intro R_ hR_
  replace LDe := hide LDe
  replace LDm := hide LDm
  obtain ⟨A0, hA0⟩ : ∃ A_, A_ = el u.val := ⟨_, rfl⟩
  rw [← hA0]
  obtain ⟨A1, hA1⟩ : ∃ A_, A_ = el v.val := ⟨_, rfl⟩
  rw [← hA1]
  have EA0 := hide hA0
  clear hA0
  have EA1 := hide hA1
  clear hA1
  have HR := hide hR_
  clear hR_
  unfold Hands
  go_enter Tryz.func86, Tryz.ntmps86
  go_upto_region 1 with fail
  refine cut_world (fun W => Below w.heap.size w W ∧ (w.heap.size < W.heap.size ∧ W.heap[w.heap.size]? = some (.cells A0 47 (0, 0))) ∧ (w.heap.size + 1 < W.heap.size ∧ W.heap[w.heap.size + 1]? = some (.cells A1 47 (0, 0))) ∧ (w.heap.size + 1 + 1 < W.heap.size ∧ W.heap[w.heap.size + 1 + 1]? = some (.cells zk 47 (0, 0)))) ⟨below3 _ _ _ _, ⟨by simp; omega, heap3_0 _ _ _ _⟩, ⟨by simp, heap_alloc_mid3 _ _ _ _⟩, by simp, heap_alloc_last3 _ _ _ _⟩ ?_
  rintro W1 ⟨BEL, R2, R3, R4⟩
  replace BEL := hide BEL
  have SZ := hide BEL.out.size
  replace R2 := hide R2
  replace R3 := hide R3
  replace R4 := hide R4
  have hA0 := EA0.out
  subst hA0
  have hA1 := EA1.out
  subst hA1
  clear EA0 EA1
  have SW1 := (R4.out.1)
  refine wrl3 (tl := [isv (.pointer (some ⟨w.heap.size, 0, none⟩)), isk u, isv (.pointer (some ⟨w.heap.size + 1, 0, none⟩)), isk v, isk (rt0 u v)]) (pre := [(2, 0), (3, 2)])
    (plan := [.val [(2, 0)] 1, .val [(3, 2)] 3, .val [(8, 1), (9, 3)] 4, .alc 47 4, .sto 3 10 4])
    [] [] [] 36 (by kernel_rfl) rfl (by kernel_rfl) ⟨.inr (lv0 _ _ _), ⟨.inr (lull_k _ _ _), ⟨.inr (lv0 _ _ _), ⟨.inr (lull_k _ _ _), ⟨.inr (lull_k _ _ _), trivial⟩⟩⟩⟩⟩
    snkAt0 snk0 ⟨rfl, ⟨rfl, trivial⟩⟩
   (Oc3 (fun a w X_ h => g_ldk (wq0 rfl) rfl h.1 (X_.at_ R2.out.1 out0 R2.out.2))
   (Oc3 (fun a w X_ h => g_ldk (wq0 rfl) rfl h.1 (X_.at_ R3.out.1 out0 R3.out.2))
   (Oc3 (fun a w X_ h => g_call2 (wq0 rfl) (by kernel_rfl) rfl (k_rt0 h.1 h.2.1 (LDe.out.step (X_.on BEL.out SZ.out none_le))))
   (Oc3 (alc_of zk rfl rfl rfl newK)
   (Oc3 (⟨rfl, _, _, _, rfl, rfl, rfl, by kernel_rfl, row_k _⟩)
      OkL3.nil))))) ?_
  rintro W2 X2 _ rfl _ rfl _ rfl g6 c6 ⟨L6, Z6, -⟩ r6 H6
  refine FinL3.fill ?_
  refine Fd3 ?_
  simp only [Act.put, List.setIfInBounds_toArray, List.set_cons_zero, List.set_cons_succ]
  obtain rfl : c6 = el (rt0 u v).val := agg_inj H6
  have R6 := hide (And.intro Z6 r6)
  clear r6
  replace R2 := hide (X2.row out0 R2.out)
  replace R3 := hide (X2.row out0 R3.out)
  replace R4 := hide (X2.row out0 R4.out)
  replace BEL := hide (X2.on BEL.out SZ.out none_le)
  replace SZ := hide BEL.out.size
  have SW2 := X2.size
  clear X2
  go_upto_region 2 with fail
  refine wrt3 (tl := [isv (.pointer (some ⟨w.heap.size + 1, 0, none⟩)), isk v, isv (.pointer (some ⟨g6, 0, none⟩)), isk (rt0 u v), isk (v * (rt0 u v)), isk ((v * (rt0 u v)) * (rt0 u v))]) (pre := [(3, 0), (6, 2)])
    (plan := [.val [(3, 0)] 1, .val [(6, 2)] 3, .val [(11, 1), (12, 3)] 4, .val [(6, 2)] 3, .val [(13, 4), (14, 3)] 5, .alc 47 4, .sto 5 15 5])
    [] [] [] (by kernel_rfl) 36 (by kernel_rfl) rfl (by kernel_rfl) ⟨.inr (lv0 _ _ _), ⟨.inr (lull_k _ _ _), ⟨.inr (lv0 _ _ _), ⟨.inr (lull_k _ _ _), ⟨.inr (lull_k _ _ _), ⟨.inr (lull_k _ _ _), trivial⟩⟩⟩⟩⟩⟩
    snkAt0 snk0 ⟨rfl, ⟨rfl, trivial⟩⟩
   (Oc3 (fun a w X_ h => g_ldk (wq0 rfl) rfl h.1 (X_.at_ R3.out.1 out0 R3.out.2))
   (Oc3 (fun a w X_ h => g_ldk (wq0 rfl) rfl h.1 (X_.at_ R6.out.1 out0 R6.out.2))
   (Oc3 (fun a w X_ h => g_call2 (wq0 rfl) (by kernel_rfl) rfl (k_mul h.1 h.2.1))
   (Oc3 (fun a w X_ h => g_ldk (wq0 rfl) rfl h.1 (X_.at_ R6.out.1 out0 R6.out.2))
   (Oc3 (fun a w X_ h => g_call2 (wq0 rfl) (by kernel_rfl) rfl (k_mul h.1 h.2.1))
   (Oc3 (alc_of zk rfl rfl rfl newK)
   (Oc3 (⟨rfl, _, _, _, rfl, rfl, rfl, by kernel_rfl, row_k _⟩)
      OkL3.nil))))))) ?_
  rintro W3 X3 _ rfl _ rfl _ rfl _ rfl _ rfl g7 c7 ⟨L7, Z7, -⟩ r7 H7
  refine FinL3.fill ?_
  refine Fd3 ?_
  simp only [Act.put, List.setIfInBounds_toArray, List.set_cons_zero, List.set_cons_succ]
  obtain rfl : c7 = el ((v * (rt0 u v)) * (rt0 u v)).val := agg_inj H7
  have R7 := hide (And.intro Z7 r7)
  clear r7
  replace R2 := hide (X3.row out0 R2.out)
  replace R3 := hide (X3.row out0 R3.out)
  replace R4 := hide (X3.row out0 R4.out)
  replace R6 := hide (X3.row out0 R6.out)
  replace BEL := hide (X3.on BEL.out SZ.out none_le)
  replace SZ := hide BEL.out.size
  have SW3 := X3.size
  clear X3
  go_upto_region 3 with fail
  refine wrl3 (tl := [isv (.pointer (some ⟨g7, 0, none⟩)), isk ((v * (rt0 u v)) * (rt0 u v)), isv (.pointer (some ⟨w.heap.size, 0, none⟩)), isk u, isv (.bool true), isv (.bool false)]) (pre := [(2, 2), (7, 0)])
    (plan := [.val [(7, 0)] 1, .val [(2, 2)] 3, .val [(16, 1), (17, 3)] 4, .val [(18, 4)] 5])
    [] [] [] 36 (by kernel_rfl) rfl (by kernel_rfl) ⟨.inr (lv0 _ _ _), ⟨.inr (lull_k _ _ _), ⟨.inr (lv0 _ _ _), ⟨.inr (lull_k _ _ _), ⟨.inr (lv0 _ _ _), ⟨.inr (lv0 _ _ _), trivial⟩⟩⟩⟩⟩⟩
    snkAt0 snk0 ⟨rfl, ⟨rfl, trivial⟩⟩
   (Oc3 (fun a w X_ h => g_ldk (wq0 rfl) rfl h.1 (X_.at_ R7.out.1 out0 R7.out.2))
   (Oc3 (fun a w X_ h => g_ldk (wq0 rfl) rfl h.1 (X_.at_ R2.out.1 out0 R2.out.2))
   (Oc3 (fun a w X_ h => g_call2 (wq0 rfl) (by kernel_rfl) rfl (k_same_t h.1 h.2.1 ha))
   (Oc3 (fun a w X_ h => g_not (wq0 rfl) rfl h.1 rfl)
      OkL3.nil)))) ?_
  rintro W4 X4 _ rfl _ rfl _ rfl _ rfl
  refine Fd3 ?_
  simp only [Act.put, List.setIfInBounds_toArray, List.set_cons_zero, List.set_cons_succ]
  replace R2 := hide (X4.row out0 R2.out)
  replace R3 := hide (X4.row out0 R3.out)
  replace R4 := hide (X4.row out0 R4.out)
  replace R6 := hide (X4.row out0 R6.out)
  replace R7 := hide (X4.row out0 R7.out)
  replace BEL := hide (X4.on BEL.out SZ.out none_le)
  replace SZ := hide BEL.out.size
  have SW4 := X4.size
  clear X4
  go_upto_region 6 with fail
  refine wrl3 (tl := [isv (.pointer (some ⟨g7, 0, none⟩)), isk ((v * (rt0 u v)) * (rt0 u v)), isv (.pointer (some ⟨w.heap.size, 0, none⟩)), isk u, isv (.bool true), isv (.bool false)]) (pre := [(2, 2), (7, 0)])
    (plan := [.val [(7, 0)] 1, .val [(2, 2)] 3, .val [(26, 1), (27, 3)] 4, .val [(28, 4)] 5])
    [] [] [] 36 (by kernel_rfl) rfl (by kernel_rfl) ⟨.inr (lv0 _ _ _), ⟨.inr (lull_k _ _ _), ⟨.inr (lv0 _ _ _), ⟨.inr (lull_k _ _ _), ⟨.inr (lv0 _ _ _), ⟨.inr (lv0 _ _ _), trivial⟩⟩⟩⟩⟩⟩
    snkAt0 snk0 ⟨rfl, ⟨rfl, trivial⟩⟩
   (Oc3 (fun a w X_ h => g_ldk (wq0 rfl) rfl h.1 (X_.at_ R7.out.1 out0 R7.out.2))
   (Oc3 (fun a w X_ h => g_ldk (wq0 rfl) rfl h.1 (X_.at_ R2.out.1 out0 R2.out.2))
   (Oc3 (fun a w X_ h => g_call2 (wq0 rfl) (by kernel_rfl) rfl (k_same_t h.1 h.2.1 ha))
   (Oc3 (fun a w X_ h => g_not (wq0 rfl) rfl h.1 rfl)
      OkL3.nil)))) ?_
  rintro W5 X5 _ rfl _ rfl _ rfl _ rfl
  refine Fd3 ?_
  simp only [Act.put, List.setIfInBounds_toArray, List.set_cons_zero, List.set_cons_succ]
  replace R2 := hide (X5.row out0 R2.out)
  replace R3 := hide (X5.row out0 R3.out)
  replace R4 := hide (X5.row out0 R4.out)
  replace R6 := hide (X5.row out0 R6.out)
  replace R7 := hide (X5.row out0 R7.out)
  replace BEL := hide (X5.on BEL.out SZ.out none_le)
  replace SZ := hide BEL.out.size
  have SW5 := X5.size
  clear X5
  go_upto_region 8 with fail
  refine wrl3 (tl := [isv (.pointer (some ⟨g6, 0, none⟩)), isk (rt0 u v), isv (.bool true)]) (pre := [(6, 0)])
    (plan := [.val [(6, 0)] 1, .val [(31, 1)] 2])
    [] [] [] 36 (by kernel_rfl) rfl (by kernel_rfl) ⟨.inr (lv0 _ _ _), ⟨.inr (lull_k _ _ _), ⟨.inr (lv0 _ _ _), trivial⟩⟩⟩
    snkAt0 snk0 ⟨rfl, trivial⟩
   (Oc3 (fun a w X_ h => g_ldk (wq0 rfl) rfl h.1 (X_.at_ R6.out.1 out0 R6.out.2))
   (Oc3 (fun a w X_ h => g_call1 (wq0 rfl) (by kernel_rfl) rfl (k_odd_t h.1 ho))
      OkL3.nil)) ?_
  rintro W6 X6 _ rfl _ rfl
  refine Fd3 ?_
  simp only [Act.put, List.setIfInBounds_toArray, List.set_cons_zero, List.set_cons_succ]
  replace R2 := hide (X6.row out0 R2.out)
  replace R3 := hide (X6.row out0 R3.out)
  replace R4 := hide (X6.row out0 R4.out)
  replace R6 := hide (X6.row out0 R6.out)
  replace R7 := hide (X6.row out0 R7.out)
  replace BEL := hide (X6.on BEL.out SZ.out none_le)
  replace SZ := hide BEL.out.size
  have SW6 := X6.size
  clear X6
  go_upto_region 9 with fail
  refine wrl3 (tl := [isk (rt0 u v), isk (-(rt0 u v))]) (pre := [])
    (plan := [.ld 0 6 0, .val [(33, 0)] 1, .put 0 6 34 1])
    [] [(g6, 47, 4)] [(0, 6)] 36 (by kernel_rfl) rfl (by kernel_rfl) ⟨.inr (lull_k _ _ _), ⟨.inr (lull_k _ _ _), trivial⟩⟩
    (snkAt1 R6.out rfl rfl) (snk1 _) trivial
   (Oc3 (fun a w X_ h hr => g_ldk (wq0 rfl) rfl h (hr.trans R6.out.2))
   (Oc3 (fun a w X_ h => g_call1 (wq0 rfl) (by kernel_rfl) rfl (k_neg h.1))
   (Oc3 (⟨rfl, _, _, _, rfl, rfl, by kernel_rfl, row_k _⟩)
      OkL3.nil))) ?_
  rintro W7 X7 _ rfl _ rfl c6 r6 H6
  refine Fd3 ?_
  simp only [Act.put, List.setIfInBounds_toArray, List.set_cons_zero, List.set_cons_succ]
  obtain rfl : c6 = el (-(rt0 u v)).val := agg_inj H6
  replace R6 := hide (And.intro (Nat.lt_of_lt_of_le R6.out.1 X7.size) r6)
  clear r6
  replace R2 := hide (X7.row (out1 (by omega)) R2.out)
  replace R3 := hide (X7.row (out1 (by omega)) R3.out)
  replace R4 := hide (X7.row (out1 (by omega)) R4.out)
  replace R7 := hide (X7.row (out1 (by omega)) R7.out)
  replace BEL := hide (X7.on BEL.out SZ.out (one_le (by omega)))
  replace SZ := hide BEL.out.size
  have SW7 := X7.size
  clear X7
  go_upto_region 10 with fail
  refine wrl3 (tl := [isv (.pointer (some ⟨g6, 0, none⟩)), isk (-(rt0 u v)), isv (.bool true)]) (pre := [(6, 0)])
    (plan := [.val [(6, 0)] 1, .put 0 4 35 1, .val [] 2])
    [] [(w.heap.size + 1 + 1, 47, 4)] [(0, 4)] 36 (by kernel_rfl) rfl (by kernel_rfl) ⟨.inr (lv0 _ _ _), ⟨.inr (lull_k _ _ _), ⟨.inr (lv0 _ _ _), trivial⟩⟩⟩
    (snkAt1 R4.out rfl rfl) (snk1 _) ⟨rfl, trivial⟩
   (Oc3 (fun a w X_ h => g_ldk (wq0 rfl) rfl h.1 (X_.at_ R6.out.1 (out1 (by omega)) R6.out.2))
   (Oc3 (⟨rfl, _, _, _, rfl, rfl, by kernel_rfl, row_k _⟩)
   (Oc3 (fun a w X_ h => g_move (wq0 rfl) (.inr rfl) rfl)
      OkL3.nil))) ?_
  rintro W8 X8 _ rfl c4 r4 H4 _ rfl
  refine Fd3 ?_
  simp only [Act.put, List.setIfInBounds_toArray, List.set_cons_zero, List.set_cons_succ]
  obtain rfl : c4 = el (-(rt0 u v)).val := agg_inj H4
  replace R4 := hide (And.intro (Nat.lt_of_lt_of_le R4.out.1 X8.size) r4)
  clear r4
  replace R2 := hide (X8.row (out1 (by omega)) R2.out)
  replace R3 := hide (X8.row (out1 (by omega)) R3.out)
  replace R6 := hide (X8.row (out1 (by omega)) R6.out)
  replace R7 := hide (X8.row (out1 (by omega)) R7.out)
  replace BEL := hide (X8.on BEL.out SZ.out (one_le (by omega)))
  replace SZ := hide BEL.out.size
  have SW8 := X8.size
  clear X8
  go_wp2
  exact bodyPost_ret_by (results_row_tmp rfl _ _ (w.heap.size + 1 + 1) 47 _ (0, 0) _ rfl R4.out.2 Tryz.underlying47 rfl (by kernel_rfl)) rfl ⟨_, rfl, BEL.out, HR.out _⟩
set_option maxRecDepth 100000 in
set_option maxHeartbeats 2000000 in
theorem root_b0 {u v : Kp} {u0 u1 : Value} {w : World} (h0 : u0 = .agg (el u.val)) (h1 : u1 = .agg (el v.val)) (LDe : LaidW 3 eiw w) (LDm : LaidW 1 rmw w) (ha : ¬ v * rt0 u v * rt0 u v = u) (hb : -(v * rt0 u v * rt0 u v) = u) (ho : ¬ (rt0 u v * rm).val % 2 = 1) : Hands Tryz.prog 86 #[u0, u1] w (isv (.tuple #[.agg (el (rt0 u v * rm).val), .bool true])) := by
  subst h0 h1
  suffices HH : ∀ R_ : STy, (∀ W, R_.p W (.tuple #[.agg (el (rt0 u v * rm).val), .bool true])) → Hands Tryz.prog 86 #[.agg (el u.val), .agg (el v.val)] w R_ from HH _ (fun _ => rfl)
  intro R_ hR_
  replace LDe := hide LDe
  replace LDm := hide LDm
  obtain ⟨A0, hA0⟩ : ∃ A_, A_ = el u.val := ⟨_, rfl⟩
  rw [← hA0]
  obtain ⟨A1, hA1⟩ : ∃ A_, A_ = el v.val := ⟨_, rfl⟩
  rw [← hA1]
  have EA0 := hide hA0
  clear hA0
  have EA1 := hide hA1
  clear hA1
  have HR := hide hR_
  clear hR_
  unfold Hands
  go_enter Tryz.func86, Tryz.ntmps86
  go_upto_region 1 with fail
  refine cut_world (fun W => Below w.heap.size w W ∧ (w.heap.size < W.heap.size ∧ W.heap[w.heap.size]? = some (.cells A0 47 (0, 0))) ∧ (w.heap.size + 1 < W.heap.size ∧ W.heap[w.heap.size + 1]? = some (.cells A1 47 (0, 0))) ∧ (w.heap.size + 1 + 1 < W.heap.size ∧ W.heap[w.heap.size + 1 + 1]? = some (.cells zk 47 (0, 0)))) ⟨below3 _ _ _ _, ⟨by simp; omega, heap3_0 _ _ _ _⟩, ⟨by simp, heap_alloc_mid3 _ _ _ _⟩, by simp, heap_alloc_last3 _ _ _ _⟩ ?_
  rintro W1 ⟨BEL, R2, R3, R4⟩
  replace BEL := hide BEL
  have SZ := hide BEL.out.size
  replace R2 := hide R2
  replace R3 := hide R3
  replace R4 := hide R4
  have hA0 := EA0.out
  subst hA0
  have hA1 := EA1.out
  subst hA1
  clear EA0 EA1
  have SW1 := (R4.out.1)
  refine wrl3 (tl := [isv (.pointer (some ⟨w.heap.size, 0, none⟩)), isk u, isv (.pointer (some ⟨w.heap.size + 1, 0, none⟩)), isk v, isk (rt0 u v)]) (pre := [(2, 0), (3, 2)])
    (plan := [.val [(2, 0)] 1, .val [(3, 2)] 3, .val [(8, 1), (9, 3)] 4, .alc 47 4, .sto 3 10 4])
    [] [] [] 36 (by kernel_rfl) rfl (by kernel_rfl) ⟨.inr (lv0 _ _ _), ⟨.inr (lull_k _ _ _), ⟨.inr (lv0 _ _ _), ⟨.inr (lull_k _ _ _), ⟨.inr (lull_k _ _ _), trivial⟩⟩⟩⟩⟩
    snkAt0 snk0 ⟨rfl, ⟨rfl, trivial⟩⟩
   (Oc3 (fun a w X_ h => g_ldk (wq0 rfl) rfl h.1 (X_.at_ R2.out.1 out0 R2.out.2))
   (Oc3 (fun a w X_ h => g_ldk (wq0 rfl) rfl h.1 (X_.at_ R3.out.1 out0 R3.out.2))
   (Oc3 (fun a w X_ h => g_call2 (wq0 rfl) (by kernel_rfl) rfl (k_rt0 h.1 h.2.1 (LDe.out.step (X_.on BEL.out SZ.out none_le))))
   (Oc3 (alc_of zk rfl rfl rfl newK)
   (Oc3 (⟨rfl, _, _, _, rfl, rfl, rfl, by kernel_rfl, row_k _⟩)
      OkL3.nil))))) ?_
  rintro W2 X2 _ rfl _ rfl _ rfl g6 c6 ⟨L6, Z6, -⟩ r6 H6
  refine FinL3.fill ?_
  refine Fd3 ?_
  simp only [Act.put, List.setIfInBounds_toArray, List.set_cons_zero, List.set_cons_succ]
  obtain rfl : c6 = el (rt0 u v).val := agg_inj H6
  have R6 := hide (And.intro Z6 r6)
  clear r6
  replace R2 := hide (X2.row out0 R2.out)
  replace R3 := hide (X2.row out0 R3.out)
  replace R4 := hide (X2.row out0 R4.out)
  replace BEL := hide (X2.on BEL.out SZ.out none_le)
  replace SZ := hide BEL.out.size
  have SW2 := X2.size
  clear X2
  go_upto_region 2 with fail
  refine wrt3 (tl := [isv (.pointer (some ⟨w.heap.size + 1, 0, none⟩)), isk v, isv (.pointer (some ⟨g6, 0, none⟩)), isk (rt0 u v), isk (v * (rt0 u v)), isk ((v * (rt0 u v)) * (rt0 u v))]) (pre := [(3, 0), (6, 2)])
    (plan := [.val [(3, 0)] 1, .val [(6, 2)] 3, .val [(11, 1), (12, 3)] 4, .val [(6, 2)] 3, .val [(13, 4), (14, 3)] 5, .alc 47 4, .sto 5 15 5])
    [] [] [] (by kernel_rfl) 36 (by kernel_rfl) rfl (by kernel_rfl) ⟨.inr (lv0 _ _ _), ⟨.inr (lull_k _ _ _), ⟨.inr (lv0 _ _ _), ⟨.inr (lull_k _ _ _), ⟨.inr (lull_k _ _ _), ⟨.inr (lull_k _ _ _), trivial⟩⟩⟩⟩⟩⟩
    snkAt0 snk0 ⟨rfl, ⟨rfl, trivial⟩⟩
   (Oc3 (fun a w X_ h => g_ldk (wq0 rfl) rfl h.1 (X_.at_ R3.out.1 out0 R3.out.2))
   (Oc3 (fun a w X_ h => g_ldk (wq0 rfl) rfl h.1 (X_.at_ R6.out.1 out0 R6.out.2))
   (Oc3 (fun a w X_ h => g_call2 (wq0 rfl) (by kernel_rfl) rfl (k_mul h.1 h.2.1))
   (Oc3 (fun a w X_ h => g_ldk (wq0 rfl) rfl h.1 (X_.at_ R6.out.1 out0 R6.out.2))
   (Oc3 (fun a w X_ h => g_call2 (wq0 rfl) (by kernel_rfl) rfl (k_mul h.1 h.2.1))
   (Oc3 (alc_of zk rfl rfl rfl newK)
   (Oc3 (⟨rfl, _, _, _, rfl, rfl, rfl, by kernel_rfl, row_k _⟩)
      OkL3.nil))))))) ?_
  rintro W3 X3 _ rfl _ rfl _ rfl _ rfl _ rfl g7 c7 ⟨L7, Z7, -⟩ r7 H7
  refine FinL3.fill ?_
  refine Fd3 ?_
  simp only [Act.put, List.setIfInBounds_toArray, List.set_cons_zero, List.set_cons_succ]
  obtain rfl : c7 = el ((v * (rt0 u v)) * (rt0 u v)).val := agg_inj H7
  have R7 := hide (And.intro Z7 r7)
  clear r7
  replace R2 := hide (X3.row out0 R2.out)
  replace R3 := hide (X3.row out0 R3.out)
  replace R4 := hide (X3.row out0 R4.out)
  replace R6 := hide (X3.row out0 R6.out)
  replace BEL := hide (X3.on BEL.out SZ.out none_le)
  replace SZ := hide BEL.out.size
  have SW3 := X3.size
  clear X3
  go_upto_region 3 with fail
  refine wrl3 (tl := [isv (.pointer (some ⟨g7, 0, none⟩)), isk ((v * (rt0 u v)) * (rt0 u v)), isv (.pointer (some ⟨w.heap.size, 0, none⟩)), isk u, isv (.bool false), isv (.bool true)]) (pre := [(2, 2), (7, 0)])
    (plan := [.val [(7, 0)] 1, .val [(2, 2)] 3, .val [(16, 1), (17, 3)] 4, .val [(18, 4)] 5])
    [] [] [] 36 (by kernel_rfl) rfl (by kernel_rfl) ⟨.inr (lv0 _ _ _), ⟨.inr (lull_k _ _ _), ⟨.inr (lv0 _ _ _), ⟨.inr (lull_k _ _ _), ⟨.inr (lv0 _ _ _), ⟨.inr (lv0 _ _ _), trivial⟩⟩⟩⟩⟩⟩
    snkAt0 snk0 ⟨rfl, ⟨rfl, trivial⟩⟩
   (Oc3 (fun a w X_ h => g_ldk (wq0 rfl) rfl h.1 (X_.at_ R7.out.1 out0 R7.out.2))
   (Oc3 (fun a w X_ h => g_ldk (wq0 rfl) rfl h.1 (X_.at_ R2.out.1 out0 R2.out.2))
   (Oc3 (fun a w X_ h => g_call2 (wq0 rfl) (by kernel_rfl) rfl (k_same_f h.1 h.2.1 ha))
   (Oc3 (fun a w X_ h => g_not (wq0 rfl) rfl h.1 rfl)
      OkL3.nil)))) ?_
  rintro W4 X4 _ rfl _ rfl _ rfl _ rfl
  refine Fd3 ?_
  simp only [Act.put, List.setIfInBounds_toArray, List.set_cons_zero, List.set_cons_succ]
  replace R2 := hide (X4.row out0 R2.out)
  replace R3 := hide (X4.row out0 R3.out)
  replace R4 := hide (X4.row out0 R4.out)
  replace R6 := hide (X4.row out0 R6.out)
  replace R7 := hide (X4.row out0 R7.out)
  replace BEL := hide (X4.on BEL.out SZ.out none_le)
  replace SZ := hide BEL.out.size
  have SW4 := X4.size
  clear X4
  go_upto_region 4 with fail
  refine wrl3 (tl := [isk (rt0 u v), isw rmw, isk rm, isk ((rt0 u v) * rm)]) (pre := [])
    (plan := [.ld 0 6 0, .val [] 1, .val [(21, 1)] 2, .val [(20, 0), (22, 2)] 3, .put 0 6 23 3])
    [] [(g6, 47, 4)] [(0, 6)] 36 (by kernel_rfl) rfl (by kernel_rfl) ⟨.inr (lull_k _ _ _), ⟨.inr (lv0 _ _ _), ⟨.inr (lull_k _ _ _), ⟨.inr (lull_k _ _ _), trivial⟩⟩⟩⟩
    (snkAt1 R6.out rfl rfl) (snk1 _) trivial
   (Oc3 (fun a w X_ h hr => g_ldk (wq0 rfl) rfl h (hr.trans R6.out.2))
   (Oc3 (fun a w X_ h => g_glb (wq0 rfl) rfl (LDm.out.step (X_.on BEL.out SZ.out (one_le (by omega)))) rfl)
   (Oc3 (fun a w X_ h => g_kw (wq0 rfl) rfl h.1 rfl rmw_lim rmw_val)
   (Oc3 (fun a w X_ h => g_call2 (wq0 rfl) (by kernel_rfl) rfl (k_mul h.1 h.2.1))
   (Oc3 (⟨rfl, _, _, _, rfl, rfl, by kernel_rfl, row_k _⟩)
      OkL3.nil))))) ?_
  rintro W5 X5 _ rfl _ rfl _ rfl _ rfl c6 r6 H6
  refine Fd3 ?_
  simp only [Act.put, List.setIfInBounds_toArray, List.set_cons_zero, List.set_cons_succ]
  obtain rfl : c6 = el ((rt0 u v) * rm).val := agg_inj H6
  replace R6 := hide (And.intro (Nat.lt_of_lt_of_le R6.out.1 X5.size) r6)
  clear r6
  replace R2 := hide (X5.row (out1 (by omega)) R2.out)
  replace R3 := hide (X5.row (out1 (by omega)) R3.out)
  replace R4 := hide (X5.row (out1 (by omega)) R4.out)
  replace R7 := hide (X5.row (out1 (by omega)) R7.out)
  replace BEL := hide (X5.on BEL.out SZ.out (one_le (by omega)))
  replace SZ := hide BEL.out.size
  have SW5 := X5.size
  clear X5
  go_upto_region 5 with fail
  refine wrl3 (tl := [isk ((v * (rt0 u v)) * (rt0 u v)), isk (-((v * (rt0 u v)) * (rt0 u v)))]) (pre := [])
    (plan := [.ld 0 7 0, .val [(24, 0)] 1, .put 0 7 25 1])
    [] [(g7, 47, 4)] [(0, 7)] 36 (by kernel_rfl) rfl (by kernel_rfl) ⟨.inr (lull_k _ _ _), ⟨.inr (lull_k _ _ _), trivial⟩⟩
    (snkAt1 R7.out rfl rfl) (snk1 _) trivial
   (Oc3 (fun a w X_ h hr => g_ldk (wq0 rfl) rfl h (hr.trans R7.out.2))
   (Oc3 (fun a w X_ h => g_call1 (wq0 rfl) (by kernel_rfl) rfl (k_neg h.1))
   (Oc3 (⟨rfl, _, _, _, rfl, rfl, by kernel_rfl, row_k _⟩)
      OkL3.nil))) ?_
  rintro W6 X6 _ rfl _ rfl c7 r7 H7
  refine Fd3 ?_
  simp only [Act.put, List.setIfInBounds_toArray, List.set_cons_zero, List.set_cons_succ]
  obtain rfl : c7 = el (-((v * (rt0 u v)) * (rt0 u v))).val := agg_inj H7
  replace R7 := hide (And.intro (Nat.lt_of_lt_of_le R7.out.1 X6.size) r7)
  clear r7
  replace R2 := hide (X6.row (out1 (by omega)) R2.out)
  replace R3 := hide (X6.row (out1 (by omega)) R3.out)
  replace R4 := hide (X6.row (out1 (by omega)) R4.out)
  replace R6 := hide (X6.row (out1 (by omega)) R6.out)
  replace BEL := hide (X6.on BEL.out SZ.out (one_le (by omega)))
  replace SZ := hide BEL.out.size
  have SW6 := X6.size
  clear X6
  go_upto_region 6 with fail
  refine wrl3 (tl := [isv (.pointer (some ⟨g7, 0, none⟩)), isk (-((v * (rt0 u v)) * (rt0 u v))), isv (.pointer (some ⟨w.heap.size, 0, none⟩)), isk u, isv (.bool true), isv (.bool false)]) (pre := [(2, 2), (7, 0)])
    (plan := [.val [(7, 0)] 1, .val [(2, 2)] 3, .val [(26, 1), (27, 3)] 4, .val [(28, 4)] 5])
    [] [] [] 36 (by kernel_rfl) rfl (by kernel_rfl) ⟨.inr (lv0 _ _ _), ⟨.inr (lull_k _ _ _), ⟨.inr (lv0 _ _ _), ⟨.inr (lull_k _ _ _), ⟨.inr (lv0 _ _ _), ⟨.inr (lv0 _ _ _), trivial⟩⟩⟩⟩⟩⟩
    snkAt0 snk0 ⟨rfl, ⟨rfl, trivial⟩⟩
   (Oc3 (fun a w X_ h => g_ldk (wq0 rfl) rfl h.1 (X_.at_ R7.out.1 out0 R7.out.2))
   (Oc3 (fun a w X_ h => g_ldk (wq0 rfl) rfl h.1 (X_.at_ R2.out.1 out0 R2.out.2))
   (Oc3 (fun a w X_ h => g_call2 (wq0 rfl) (by kernel_rfl) rfl (k_same_t h.1 h.2.1 hb))
   (Oc3 (fun a w X_ h => g_not (wq0 rfl) rfl h.1 rfl)
      OkL3.nil)))) ?_
  rintro W7 X7 _ rfl _ rfl _ rfl _ rfl
  refine Fd3 ?_
  simp only [Act.put, List.setIfInBounds_toArray, List.set_cons_zero, List.set_cons_succ]
  replace R2 := hide (X7.row out0 R2.out)
  replace R3 := hide (X7.row out0 R3.out)
  replace R4 := hide (X7.row out0 R4.out)
  replace R6 := hide (X7.row out0 R6.out)
  replace R7 := hide (X7.row out0 R7.out)
  replace BEL := hide (X7.on BEL.out SZ.out none_le)
  replace SZ := hide BEL.out.size
  have SW7 := X7.size
  clear X7
  go_upto_region 8 with fail
  refine wrl3 (tl := [isv (.pointer (some ⟨g6, 0, none⟩)), isk ((rt0 u v) * rm), isv (.bool false)]) (pre := [(6, 0)])
    (plan := [.val [(6, 0)] 1, .val [(31, 1)] 2])
    [] [] [] 36 (by kernel_rfl) rfl (by kernel_rfl) ⟨.inr (lv0 _ _ _), ⟨.inr (lull_k _ _ _), ⟨.inr (lv0 _ _ _), trivial⟩⟩⟩
    snkAt0 snk0 ⟨rfl, trivial⟩
   (Oc3 (fun a w X_ h => g_ldk (wq0 rfl) rfl h.1 (X_.at_ R6.out.1 out0 R6.out.2))
   (Oc3 (fun a w X_ h => g_call1 (wq0 rfl) (by kernel_rfl) rfl (k_odd_f h.1 ho))
      OkL3.nil)) ?_
  rintro W8 X8 _ rfl _ rfl
  refine Fd3 ?_
  simp only [Act.put, List.setIfInBounds_toArray, List.set_cons_zero, List.set_cons_succ]
  replace R2 := hide (X8.row out0 R2.out)
  replace R3 := hide (X8.row out0 R3.out)
  replace R4 := hide (X8.row out0 R4.out)
  replace R6 := hide (X8.row out0 R6.out)
  replace R7 := hide (X8.row out0 R7.out)
  replace BEL := hide (X8.on BEL.out SZ.out none_le)
  replace SZ := hide BEL.out.size
  have SW8 := X8.size
  clear X8
  go_upto_region 10 with fail
  refine wrl3 (tl := [isv (.pointer (some ⟨g6, 0, none⟩)), isk ((rt0 u v) * rm), isv (.bool true)]) (pre := [(6, 0)])
    (plan := [.val [(6, 0)] 1, .put 0 4 35 1, .val [] 2])
    [] [(w.heap.size + 1 + 1, 47, 4)] [(0, 4)] 36 (by kernel_rfl) rfl (by kernel_rfl) ⟨.inr (lv0 _ _ _), ⟨.inr (lull_k _ _ _), ⟨.inr (lv0 _ _ _), trivial⟩⟩⟩
    (snkAt1 R4.out rfl rfl) (snk1 _) ⟨rfl, trivial⟩
   (Oc3 (fun a w X_ h => g_ldk (wq0 rfl) rfl h.1 (X_.at_ R6.out.1 (out1 (by omega)) R6.out.2))
   (Oc3 (⟨rfl, _, _, _, rfl, rfl, by kernel_rfl, row_k _⟩)
   (Oc3 (fun a w X_ h => g_move (wq0 rfl) (.inr rfl) rfl)
      OkL3.nil))) ?_
  rintro W9 X9 _ rfl c4 r4 H4 _ rfl
  refine Fd3 ?_
  simp only [Act.put, List.setIfInBounds_toArray, List.set_cons_zero, List.set_cons_succ]
  obtain rfl : c4 = el ((rt0 u v) * rm).val := agg_inj H4
  replace R4 := hide (And.intro (Nat.lt_of_lt_of_le R4.out.1 X9.size) r4)
  clear r4
  replace R2 := hide (X9.row (out1 (by omega)) R2.out)
  replace R3 := hide (X9.row (out1 (by omega)) R3.out)
  replace R6 := hide (X9.row (out1 (by omega)) R6.out)
  replace R7 := hide (X9.row (out1 (by omega)) R7.out)
  replace BEL := hide (X9.on BEL.out SZ.out (one_le (by omega)))
  replace SZ := hide BEL.out.size
  have SW9 := X9.size
  clear X9
  go_wp2
  exact bodyPost_ret_by (results_row_tmp rfl _ _ (w.heap.size + 1 + 1) 47 _ (0, 0) _ rfl R4.out.2 Tryz.underlying47 rfl (by kernel_rfl)) rfl ⟨_, rfl, BEL.out, HR.out _⟩
set_option maxRecDepth 100000 in
set_option maxHeartbeats 2000000 in
theorem root_b1 {u v : Kp} {u0 u1 : Value} {w : World} (h0 : u0 = .agg (el u.val)) (h1 : u1 = .agg (el v.val)) (LDe : LaidW 3 eiw w) (LDm : LaidW 1 rmw w) (ha : ¬ v * rt0 u v * rt0 u v = u) (hb : -(v * rt0 u v * rt0 u v) = u) (ho : (rt0 u v * rm).val % 2 = 1) : Hands Tryz.prog 86 #[u0, u1] w (isv (.tuple #[.agg (el (-(rt0 u v * rm)).val), .bool true])) := by
  subst h0 h1
  suffices HH : ∀ R_ : STy, (∀ W, R_.p W (.tuple #[.agg (el (-(rt0 u v * rm)).val), .bool true])) → Hands Tryz.prog 86 #[.agg (el u.val), .agg (el v.val)] w R_ from HH _ (fun _ => rfl)
  intro R_ hR_
  replace LDe := hide LDe
  replace LDm := hide LDm
  obtain ⟨A0, hA0⟩ : ∃ A_, A_ = el u.val := ⟨_, rfl⟩
  rw [← hA0]
  obtain ⟨A1, hA1⟩ : ∃ A_, A_ = el v.val := ⟨_, rfl⟩
  rw [← hA1]
  have EA0 := hide hA0
  clear hA0
  have EA1 := hide hA1
  clear hA1
  have HR := hide hR_
  clear hR_
  unfold Hands
  go_enter Tryz.func86, Tryz.ntmps86
  go_upto_region 1 with fail
  refine cut_world (fun W => Below w.heap.size w W ∧ (w.heap.size < W.heap.size ∧ W.heap[w.heap.size]? = some (.cells A0 47 (0, 0))) ∧ (w.heap.size + 1 < W.heap.size ∧ W.heap[w.heap.size + 1]? = some (.cells A1 47 (0, 0))) ∧ (w.heap.size + 1 + 1 < W.heap.size ∧ W.heap[w.heap.size + 1 + 1]? = some (.cells zk 47 (0, 0)))) ⟨below3 _ _ _ _, ⟨by simp; omega, heap3_0 _ _ _ _⟩, ⟨by simp, heap_alloc_mid3 _ _ _ _⟩, by simp, heap_alloc_last3 _ _ _ _⟩ ?_
  rintro W1 ⟨BEL, R2, R3, R4⟩
  replace BEL := hide BEL
  have SZ := hide BEL.out.size
  replace R2 := hide R2
  replace R3 := hide R3
  replace R4 := hide R4
  have hA0 := EA0.out
  subst hA0
  have hA1 := EA1.out
  subst hA1
  clear EA0 EA1
  have SW1 := (R4.out.1)
  refine wrl3 (tl := [isv (.pointer (some ⟨w.heap.size, 0, none⟩)), isk u, isv (.pointer (some ⟨w.heap.size + 1, 0, none⟩)), isk v, isk (rt0 u v)]) (pre := [(2, 0), (3, 2)])
    (plan := [.val [(2, 0)] 1, .val [(3, 2)] 3, .val [(8, 1), (9, 3)] 4, .alc 47 4, .sto 3 10 4])
    [] [] [] 36 (by kernel_rfl) rfl (by kernel_rfl) ⟨.inr (lv0 _ _ _), ⟨.inr (lull_k _ _ _), ⟨.inr (lv0 _ _ _), ⟨.inr (lull_k _ _ _), ⟨.inr (lull_k _ _ _), trivial⟩⟩⟩⟩⟩
    snkAt0 snk0 ⟨rfl, ⟨rfl, trivial⟩⟩
   (Oc3 (fun a w X_ h => g_ldk (wq0 rfl) rfl h.1 (X_.at_ R2.out.1 out0 R2.out.2))
   (Oc3 (fun a w X_ h => g_ldk (wq0 rfl) rfl h.1 (X_.at_ R3.out.1 out0 R3.out.2))
   (Oc3 (fun a w X_ h => g_call2 (wq0 rfl) (by kernel_rfl) rfl (k_rt0 h.1 h.2.1 (LDe.out.step (X_.on BEL.out SZ.out none_le))))
   (Oc3 (alc_of zk rfl rfl rfl newK)
   (Oc3 (⟨rfl, _, _, _, rfl, rfl, rfl, by kernel_rfl, row_k _⟩)
      OkL3.nil))))) ?_
  rintro W2 X2 _ rfl _ rfl _ rfl g6 c6 ⟨L6, Z6, -⟩ r6 H6
  refine FinL3.fill ?_
  refine Fd3 ?_
  simp only [Act.put, List.setIfInBounds_toArray, List.set_cons_zero, List.set_cons_succ]
  obtain rfl : c6 = el (rt0 u v).val := agg_inj H6
  have R6 := hide (And.intro Z6 r6)
  clear r6
  replace R2 := hide (X2.row out0 R2.out)
  replace R3 := hide (X2.row out0 R3.out)
  replace R4 := hide (X2.row out0 R4.out)
  replace BEL := hide (X2.on BEL.out SZ.out none_le)
  replace SZ := hide BEL.out.size
  have SW2 := X2.size
  clear X2
  go_upto_region 2 with fail
  refine wrt3 (tl := [isv (.pointer (some ⟨w.heap.size + 1, 0, none⟩)), isk v, isv (.pointer (some ⟨g6, 0, none⟩)), isk (rt0 u v), isk (v * (rt0 u v)), isk ((v * (rt0 u v)) * (rt0 u v))]) (pre := [(3, 0), (6, 2)])
    (plan := [.val [(3, 0)] 1, .val [(6, 2)] 3, .val [(11, 1), (12, 3)] 4, .val [(6, 2)] 3, .val [(13, 4), (14, 3)] 5, .alc 47 4, .sto 5 15 5])
    [] [] [] (by kernel_rfl) 36 (by kernel_rfl) rfl (by kernel_rfl) ⟨.inr (lv0 _ _ _), ⟨.inr (lull_k _ _ _), ⟨.inr (lv0 _ _ _), ⟨.inr (lull_k _ _ _), ⟨.inr (lull_k _ _ _), ⟨.inr (lull_k _ _ _), trivial⟩⟩⟩⟩⟩⟩
    snkAt0 snk0 ⟨rfl, ⟨rfl, trivial⟩⟩
   (Oc3 (fun a w X_ h => g_ldk (wq0 rfl) rfl h.1 (X_.at_ R3.out.1 out0 R3.out.2))
   (Oc3 (fun a w X_ h => g_ldk (wq0 rfl) rfl h.1 (X_.at_ R6.out.1 out0 R6.out.2))
   (Oc3 (fun a w X_ h => g_call2 (wq0 rfl) (by kernel_rfl) rfl (k_mul h.1 h.2.1))
   (Oc3 (fun a w X_ h => g_ldk (wq0 rfl) rfl h.1 (X_.at_ R6.out.1 out0 R6.out.2))
   (Oc3 (fun a w X_ h => g_call2 (wq0 rfl) (by kernel_rfl) rfl (k_mul h.1 h.2.1))
   (Oc3 (alc_of zk rfl rfl rfl newK)
   (Oc3 (⟨rfl, _, _, _, rfl, rfl, rfl, by kernel_rfl, row_k _⟩)
      OkL3.nil))))))) ?_
  rintro W3 X3 _ rfl _ rfl _ rfl _ rfl _ rfl g7 c7 ⟨L7, Z7, -⟩ r7 H7
  refine FinL3.fill ?_
  refine Fd3 ?_
  simp only [Act.put, List.setIfInBounds_toArray, List.set_cons_zero, List.set_cons_succ]
  obtain rfl : c7 = el ((v * (rt0 u v)) * (rt0 u v)).val := agg_inj H7
  have R7 := hide (And.intro Z7 r7)
  clear r7
  replace R2 := hide (X3.row out0 R2.out)
  replace R3 := hide (X3.row out0 R3.out)
  replace R4 := hide (X3.row out0 R4.out)
  replace R6 := hide (X3.row out0 R6.out)
  replace BEL := hide (X3.on BEL.out SZ.out none_le)
  replace SZ := hide BEL.out.size
  have SW3 := X3.size
  clear X3
  go_upto_region 3 with fail
  refine wrl3 (tl := [isv (.pointer (some ⟨g7, 0, none⟩)), isk ((v * (rt0 u v)) * (rt0 u v)), isv (.pointer (some ⟨w.heap.size, 0, none⟩)), isk u, isv (.bool false), isv (.bool true)]) (pre := [(2, 2), (7, 0)])
    (plan := [.val [(7, 0)] 1, .val [(2, 2)] 3, .val [(16, 1), (17, 3)] 4, .val [(18, 4)] 5])
    [] [] [] 36 (by kernel_rfl) rfl (by kernel_rfl) ⟨.inr (lv0 _ _ _), ⟨.inr (lull_k _ _ _), ⟨.inr (lv0 _ _ _), ⟨.inr (lull_k _ _ _), ⟨.inr (lv0 _ _ _), ⟨.inr (lv0 _ _ _), trivial⟩⟩⟩⟩⟩⟩
    snkAt0 snk0 ⟨rfl, ⟨rfl, trivial⟩⟩
   (Oc3 (fun a w X_ h => g_ldk (wq0 rfl) rfl h.1 (X_.at_ R7.out.1 out0 R7.out.2))
   (Oc3 (fun a w X_ h => g_ldk (wq0 rfl) rfl h.1 (X_.at_ R2.out.1 out0 R2.out.2))
   (Oc3 (fun a w X_ h => g_call2 (wq0 rfl) (by kernel_rfl) rfl (k_same_f h.1 h.2.1 ha))
   (Oc3 (fun a w X_ h => g_not (wq0 rfl) rfl h.1 rfl)
      OkL3.nil)))) ?_
  rintro W4 X4 _ rfl _ rfl _ rfl _ rfl
  refine Fd3 ?_
  simp only [Act.put, List.setIfInBounds_toArray, List.set_cons_zero, List.set_cons_succ]
  replace R2 := hide (X4.row out0 R2.out)
  replace R3 := hide (X4.row out0 R3.out)
  replace R4 := hide (X4.row out0 R4.out)
  replace R6 := hide (X4.row out0 R6.out)
  replace R7 := hide (X4.row out0 R7.out)
  replace BEL := hide (X4.on BEL.out SZ.out none_le)
  replace SZ := hide BEL.out.size
  have SW4 := X4.size
  clear X4
  go_upto_region 4 with fail
  refine wrl3 (tl := [isk (rt0 u v), isw rmw, isk rm, isk ((rt0 u v) * rm)]) (pre := [])
    (plan := [.ld 0 6 0, .val [] 1, .val [(21, 1)] 2, .val [(20, 0), (22, 2)] 3, .put 0 6 23 3])
    [] [(g6, 47, 4)] [(0, 6)] 36 (by kernel_rfl) rfl (by kernel_rfl) ⟨.inr (lull_k _ _ _), ⟨.inr (lv0 _ _ _), ⟨.inr (lull_k _ _ _), ⟨.inr (lull_k _ _ _), trivial⟩⟩⟩⟩
    (snkAt1 R6.out rfl rfl) (snk1 _) trivial
   (Oc3 (fun a w X_ h hr => g_ldk (wq0 rfl) rfl h (hr.trans R6.out.2))
   (Oc3 (fun a w X_ h => g_glb (wq0 rfl) rfl (LDm.out.step (X_.on BEL.out SZ.out (one_le (by omega)))) rfl)
   (Oc3 (fun a w X_ h => g_kw (wq0 rfl) rfl h.1 rfl rmw_lim rmw_val)
   (Oc3 (fun a w X_ h => g_call2 (wq0 rfl) (by kernel_rfl) rfl (k_mul h.1 h.2.1))
   (Oc3 (⟨rfl, _, _, _, rfl, rfl, by kernel_rfl, row_k _⟩)
      OkL3.nil))))) ?_
  rintro W5 X5 _ rfl _ rfl _ rfl _ rfl c6 r6 H6
  refine Fd3 ?_
  simp only [Act.put, List.setIfInBounds_toArray, List.set_cons_zero, List.set_cons_succ]
  obtain rfl : c6 = el ((rt0 u v) * rm).val := agg_inj H6
  replace R6 := hide (And.intro (Nat.lt_of_lt_of_le R6.out.1 X5.size) r6)
  clear r6
  replace R2 := hide (X5.row (out1 (by omega)) R2.out)
  replace R3 := hide (X5.row (out1 (by omega)) R3.out)
  replace R4 := hide (X5.row (out1 (by omega)) R4.out)
  replace R7 := hide (X5.row (out1 (by omega)) R7.out)
  replace BEL := hide (X5.on BEL.out SZ.out (one_le (by omega)))
  replace SZ := hide BEL.out.size
  have SW5 := X5.size
  clear X5
  go_upto_region 5 with fail
  refine wrl3 (tl := [isk ((v * (rt0 u v)) * (rt0 u v)), isk (-((v * (rt0 u v)) * (rt0 u v)))]) (pre := [])
    (plan := [.ld 0 7 0, .val [(24, 0)] 1, .put 0 7 25 1])
    [] [(g7, 47, 4)] [(0, 7)] 36 (by kernel_rfl) rfl (by kernel_rfl) ⟨.inr (lull_k _ _ _), ⟨.inr (lull_k _ _ _), trivial⟩⟩
    (snkAt1 R7.out rfl rfl) (snk1 _) trivial
   (Oc3 (fun a w X_ h hr => g_ldk (wq0 rfl) rfl h (hr.trans R7.out.2))
   (Oc3 (fun a w X_ h => g_call1 (wq0 rfl) (by kernel_rfl) rfl (k_neg h.1))
   (Oc3 (⟨rfl, _, _, _, rfl, rfl, by kernel_rfl, row_k _⟩)
      OkL3.nil))) ?_
  rintro W6 X6 _ rfl _ rfl c7 r7 H7
  refine Fd3 ?_
  simp only [Act.put, List.setIfInBounds_toArray, List.set_cons_zero, List.set_cons_succ]
  obtain rfl : c7 = el (-((v * (rt0 u v)) * (rt0 u v))).val := agg_inj H7
  replace R7 := hide (And.intro (Nat.lt_of_lt_of_le R7.out.1 X6.size) r7)
  clear r7
  replace R2 := hide (X6.row (out1 (by omega)) R2.out)
  replace R3 := hide (X6.row (out1 (by omega)) R3.out)
  replace R4 := hide (X6.row (out1 (by omega)) R4.out)
  replace R6 := hide (X6.row (out1 (by omega)) R6.out)
  replace BEL := hide (X6.on BEL.out SZ.out (one_le (by omega)))
  replace SZ := hide BEL.out.size
  have SW6 := X6.size
  clear X6
  go_upto_region 6 with fail
  refine wrl3 (tl := [isv (.pointer (some ⟨g7, 0, none⟩)), isk (-((v * (rt0 u v)) * (rt0 u v))), isv (.pointer (some ⟨w.heap.size, 0, none⟩)), isk u, isv (.bool true), isv (.bool false)]) (pre := [(2, 2), (7, 0)])
    (plan := [.val [(7, 0)] 1, .val [(2, 2)] 3, .val [(26, 1), (27, 3)] 4, .val [(28, 4)] 5])
    [] [] [] 36 (by kernel_rfl) rfl (by kernel_rfl) ⟨.inr (lv0 _ _ _), ⟨.inr (lull_k _ _ _), ⟨.inr (lv0 _ _ _), ⟨.inr (lull_k _ _ _), ⟨.inr (lv0 _ _ _), ⟨.inr (lv0 _ _ _), trivial⟩⟩⟩⟩⟩⟩
    snkAt0 snk0 ⟨rfl, ⟨rfl, trivial⟩⟩
   (Oc3 (fun a w X_ h => g_ldk (wq0 rfl) rfl h.1 (X_.at_ R7.out.1 out0 R7.out.2))
   (Oc3 (fun a w X_ h => g_ldk (wq0 rfl) rfl h.1 (X_.at_ R2.out.1 out0 R2.out.2))
   (Oc3 (fun a w X_ h => g_call2 (wq0 rfl) (by kernel_rfl) rfl (k_same_t h.1 h.2.1 hb))
   (Oc3 (fun a w X_ h => g_not (wq0 rfl) rfl h.1 rfl)
      OkL3.nil)))) ?_
  rintro W7 X7 _ rfl _ rfl _ rfl _ rfl
  refine Fd3 ?_
  simp only [Act.put, List.setIfInBounds_toArray, List.set_cons_zero, List.set_cons_succ]
  replace R2 := hide (X7.row out0 R2.out)
  replace R3 := hide (X7.row out0 R3.out)
  replace R4 := hide (X7.row out0 R4.out)
  replace R6 := hide (X7.row out0 R6.out)
  replace R7 := hide (X7.row out0 R7.out)
  replace BEL := hide (X7.on BEL.out SZ.out none_le)
  replace SZ := hide BEL.out.size
  have SW7 := X7.size
  clear X7
  go_upto_region 8 with fail
  refine wrl3 (tl := [isv (.pointer (some ⟨g6, 0, none⟩)), isk ((rt0 u v) * rm), isv (.bool true)]) (pre := [(6, 0)])
    (plan := [.val [(6, 0)] 1, .val [(31, 1)] 2])
    [] [] [] 36 (by kernel_rfl) rfl (by kernel_rfl) ⟨.inr (lv0 _ _ _), ⟨.inr (lull_k _ _ _), ⟨.inr (lv0 _ _ _), trivial⟩⟩⟩
    snkAt0 snk0 ⟨rfl, trivial⟩
   (Oc3 (fun a w X_ h => g_ldk (wq0 rfl) rfl h.1 (X_.at_ R6.out.1 out0 R6.out.2))
   (Oc3 (fun a w X_ h => g_call1 (wq0 rfl) (by kernel_rfl) rfl (k_odd_t h.1 ho))
      OkL3.nil)) ?_
  rintro W8 X8 _ rfl _ rfl
  refine Fd3 ?_
  simp only [Act.put, List.setIfInBounds_toArray, List.set_cons_zero, List.set_cons_succ]
  replace R2 := hide (X8.row out0 R2.out)
  replace R3 := hide (X8.row out0 R3.out)
  replace R4 := hide (X8.row out0 R4.out)
  replace R6 := hide (X8.row out0 R6.out)
  replace R7 := hide (X8.row out0 R7.out)
  replace BEL := hide (X8.on BEL.out SZ.out none_le)
  replace SZ := hide BEL.out.size
  have SW8 := X8.size
  clear X8
  go_upto_region 9 with fail
  refine wrl3 (tl := [isk ((rt0 u v) * rm), isk (-((rt0 u v) * rm))]) (pre := [])
    (plan := [.ld 0 6 0, .val [(33, 0)] 1, .put 0 6 34 1])
    [] [(g6, 47, 4)] [(0, 6)] 36 (by kernel_rfl) rfl (by kernel_rfl) ⟨.inr (lull_k _ _ _), ⟨.inr (lull_k _ _ _), trivial⟩⟩
    (snkAt1 R6.out rfl rfl) (snk1 _) trivial
   (Oc3 (fun a w X_ h hr => g_ldk (wq0 rfl) rfl h (hr.trans R6.out.2))
   (Oc3 (fun a w X_ h => g_call1 (wq0 rfl) (by kernel_rfl) rfl (k_neg h.1))
   (Oc3 (⟨rfl, _, _, _, rfl, rfl, by kernel_rfl, row_k _⟩)
      OkL3.nil))) ?_
  rintro W9 X9 _ rfl _ rfl c6 r6 H6
  refine Fd3 ?_
  simp only [Act.put, List.setIfInBounds_toArray, List.set_cons_zero, List.set_cons_succ]
  obtain rfl : c6 = el (-((rt0 u v) * rm)).val := agg_inj H6
  replace R6 := hide (And.intro (Nat.lt_of_lt_of_le R6.out.1 X9.size) r6)
  clear r6
  replace R2 := hide (X9.row (out1 (by omega)) R2.out)
  replace R3 := hide (X9.row (out1 (by omega)) R3.out)
  replace R4 := hide (X9.row (out1 (by omega)) R4.out)
  replace R7 := hide (X9.row (out1 (by omega)) R7.out)
  replace BEL := hide (X9.on BEL.out SZ.out (one_le (by omega)))
  replace SZ := hide BEL.out.size
  have SW9 := X9.size
  clear X9
  go_upto_region 10 with fail
  refine wrl3 (tl := [isv (.pointer (some ⟨g6, 0, none⟩)), isk (-((rt0 u v) * rm)), isv (.bool true)]) (pre := [(6, 0)])
    (plan := [.val [(6, 0)] 1, .put 0 4 35 1, .val [] 2])
    [] [(w.heap.size + 1 + 1, 47, 4)] [(0, 4)] 36 (by kernel_rfl) rfl (by kernel_rfl) ⟨.inr (lv0 _ _ _), ⟨.inr (lull_k _ _ _), ⟨.inr (lv0 _ _ _), trivial⟩⟩⟩
    (snkAt1 R4.out rfl rfl) (snk1 _) ⟨rfl, trivial⟩
   (Oc3 (fun a w X_ h => g_ldk (wq0 rfl) rfl h.1 (X_.at_ R6.out.1 (out1 (by omega)) R6.out.2))
   (Oc3 (⟨rfl, _, _, _, rfl, rfl, by kernel_rfl, row_k _⟩)
   (Oc3 (fun a w X_ h => g_move (wq0 rfl) (.inr rfl) rfl)
      OkL3.nil))) ?_
  rintro W10 X10 _ rfl c4 r4 H4 _ rfl
  refine Fd3 ?_
  simp only [Act.put, List.setIfInBounds_toArray, List.set_cons_zero, List.set_cons_succ]
  obtain rfl : c4 = el (-((rt0 u v) * rm)).val := agg_inj H4
  replace R4 := hide (And.intro (Nat.lt_of_lt_of_le R4.out.1 X10.size) r4)
  clear r4
  replace R2 := hide (X10.row (out1 (by omega)) R2.out)
  replace R3 := hide (X10.row (out1 (by omega)) R3.out)
  replace R6 := hide (X10.row (out1 (by omega)) R6.out)
  replace R7 := hide (X10.row (out1 (by omega)) R7.out)
  replace BEL := hide (X10.on BEL.out SZ.out (one_le (by omega)))
  replace SZ := hide BEL.out.size
  have SW10 := X10.size
  clear X10
  go_wp2
  exact bodyPost_ret_by (results_row_tmp rfl _ _ (w.heap.size + 1 + 1) 47 _ (0, 0) _ rfl R4.out.2 Tryz.underlying47 rfl (by kernel_rfl)) rfl ⟨_, rfl, BEL.out, HR.out _⟩
set_option maxRecDepth 100000 in
set_option maxHeartbeats 2000000 in
theorem root_c {u v : Kp} {u0 u1 : Value} {w : World} (h0 : u0 = .agg (el u.val)) (h1 : u1 = .agg (el v.val)) (LDe : LaidW 3 eiw w) (LDm : LaidW 1 rmw w) (ha : ¬ v * rt0 u v * rt0 u v = u) (hb : ¬ -(v * rt0 u v * rt0 u v) = u) : Hands Tryz.prog 86 #[u0, u1] w (isv (.tuple #[.agg (el (0 : Kp).val), .bool false])) := by
  subst h0 h1
  suffices HH : ∀ R_ : STy, (∀ W, R_.p W (.tuple #[.agg (el (0 : Kp).val), .bool false])) → Hands Tryz.prog 86 #[.agg (el u.val), .agg (el v.val)] w R_ from HH _ (fun _ => rfl)
  intro R_ hR_
  replace LDe := hide LDe
  replace LDm := hide LDm
  obtain ⟨A0, hA0⟩ : ∃ A_, A_ = el u.val := ⟨_, rfl⟩
  rw [← hA0]
  obtain ⟨A1, hA1⟩ : ∃ A_, A_ = el v.val := ⟨_, rfl⟩
  rw [← hA1]
  have EA0 := hide hA0
  clear hA0
  have EA1 := hide hA1
  clear hA1
  have HR := hide hR_
  clear hR_
  unfold Hands
  go_enter Tryz.func86, Tryz.ntmps86
  go_upto_region 1 with fail
  refine cut_world (fun W => Below w.heap.size w W ∧ (w.heap.size < W.heap.size ∧ W.heap[w.heap.size]? = some (.cells A0 47 (0, 0))) ∧ (w.heap.size + 1 < W.heap.size ∧ W.heap[w.heap.size + 1]? = some (.cells A1 47 (0, 0))) ∧ (w.heap.size + 1 + 1 < W.heap.size ∧ W.heap[w.heap.size + 1 + 1]? = some (.cells zk 47 (0, 0)))) ⟨below3 _ _ _ _, ⟨by simp; omega, heap3_0 _ _ _ _⟩, ⟨by simp, heap_alloc_mid3 _ _ _ _⟩, by simp, heap_alloc_last3 _ _ _ _⟩ ?_
  rintro W1 ⟨BEL, R2, R3, R4⟩
  replace BEL := hide BEL
  have SZ := hide BEL.out.size
  replace R2 := hide R2
  replace R3 := hide R3
  replace R4 := hide R4
  have hA0 := EA0.out
  subst hA0
  have hA1 := EA1.out
  subst hA1
  clear EA0 EA1
  have SW1 := (R4.out.1)
  refine wrl3 (tl := [isv (.pointer (some ⟨w.heap.size, 0, none⟩)), isk u, isv (.pointer (some ⟨w.heap.size + 1, 0, none⟩)), isk v, isk (rt0 u v)]) (pre := [(2, 0), (3, 2)])
    (plan := [.val [(2, 0)] 1, .val [(3, 2)] 3, .val [(8, 1), (9, 3)] 4, .alc 47 4, .sto 3 10 4])
    [] [] [] 36 (by kernel_rfl) rfl (by kernel_rfl) ⟨.inr (lv0 _ _ _), ⟨.inr (lull_k _ _ _), ⟨.inr (lv0 _ _ _), ⟨.inr (lull_k _ _ _), ⟨.inr (lull_k _ _ _), trivial⟩⟩⟩⟩⟩
    snkAt0 snk0 ⟨rfl, ⟨rfl, trivial⟩⟩
   (Oc3 (fun a w X_ h => g_ldk (wq0 rfl) rfl h.1 (X_.at_ R2.out.1 out0 R2.out.2))
   (Oc3 (fun a w X_ h => g_ldk (wq0 rfl) rfl h.1 (X_.at_ R3.out.1 out0 R3.out.2))
   (Oc3 (fun a w X_ h => g_call2 (wq0 rfl) (by kernel_rfl) rfl (k_rt0 h.1 h.2.1 (LDe.out.step (X_.on BEL.out SZ.out none_le))))
   (Oc3 (alc_of zk rfl rfl rfl newK)
   (Oc3 (⟨rfl, _, _, _, rfl, rfl, rfl, by kernel_rfl, row_k _⟩)
      OkL3.nil))))) ?_
  rintro W2 X2 _ rfl _ rfl _ rfl g6 c6 ⟨L6, Z6, -⟩ r6 H6
  refine FinL3.fill ?_
  refine Fd3 ?_
  simp only [Act.put, List.setIfInBounds_toArray, List.set_cons_zero, List.set_cons_succ]
  obtain rfl : c6 = el (rt0 u v).val := agg_inj H6
  have R6 := hide (And.intro Z6 r6)
  clear r6
  replace R2 := hide (X2.row out0 R2.out)
  replace R3 := hide (X2.row out0 R3.out)
  replace R4 := hide (X2.row out0 R4.out)
  replace BEL := hide (X2.on BEL.out SZ.out none_le)
  replace SZ := hide BEL.out.size
  have SW2 := X2.size
  clear X2
  go_upto_region 2 with fail
  refine wrt3 (tl := [isv (.pointer (some ⟨w.heap.size + 1, 0, none⟩)), isk v, isv (.pointer (some ⟨g6, 0, none⟩)), isk (rt0 u v), isk (v * (rt0 u v)), isk ((v * (rt0 u v)) * (rt0 u v))]) (pre := [(3, 0), (6, 2)])
    (plan := [.val [(3, 0)] 1, .val [(6, 2)] 3, .val [(11, 1), (12, 3)] 4, .val [(6, 2)] 3, .val [(13, 4), (14, 3)] 5, .alc 47 4, .sto 5 15 5])
    [] [] [] (by kernel_rfl) 36 (by kernel_rfl) rfl (by kernel_rfl) ⟨.inr (lv0 _ _ _), ⟨.inr (lull_k _ _ _), ⟨.inr (lv0 _ _ _), ⟨.inr (lull_k _ _ _), ⟨.inr (lull_k _ _ _), ⟨.inr (lull_k _ _ _), trivial⟩⟩⟩⟩⟩⟩
    snkAt0 snk0 ⟨rfl, ⟨rfl, trivial⟩⟩
   (Oc3 (fun a w X_ h => g_ldk (wq0 rfl) rfl h.1 (X_.at_ R3.out.1 out0 R3.out.2))
   (Oc3 (fun a w X_ h => g_ldk (wq0 rfl) rfl h.1 (X_.at_ R6.out.1 out0 R6.out.2))
   (Oc3 (fun a w X_ h => g_call2 (wq0 rfl) (by kernel_rfl) rfl (k_mul h.1 h.2.1))
   (Oc3 (fun a w X_ h => g_ldk (wq0 rfl) rfl h.1 (X_.at_ R6.out.1 out0 R6.out.2))
   (Oc3 (fun a w X_ h => g_call2 (wq0 rfl) (by kernel_rfl) rfl (k_mul h.1 h.2.1))
   (Oc3 (alc_of zk rfl rfl rfl newK)
   (Oc3 (⟨rfl, _, _, _, rfl, rfl, rfl, by kernel_rfl, row_k _⟩)
      OkL3.nil))))))) ?_
  rintro W3 X3 _ rfl _ rfl _ rfl _ rfl _ rfl g7 c7 ⟨L7, Z7, -⟩ r7 H7
  refine FinL3.fill ?_
  refine Fd3 ?_
  simp only [Act.put, List.setIfInBounds_toArray, List.set_cons_zero, List.set_cons_succ]
  obtain rfl : c7 = el ((v * (rt0 u v)) * (rt0 u v)).val := agg_inj H7
  have R7 := hide (And.intro Z7 r7)
  clear r7
  replace R2 := hide (X3.row out0 R2.out)
  replace R3 := hide (X3.row out0 R3.out)
  replace R4 := hide (X3.row out0 R4.out)
  replace R6 := hide (X3.row out0 R6.out)
  replace BEL := hide (X3.on BEL.out SZ.out none_le)
  replace SZ := hide BEL.out.size
  have SW3 := X3.size
  clear X3
  go_upto_region 3 with fail
  refine wrl3 (tl := [isv (.pointer (some ⟨g7, 0, none⟩)), isk ((v * (rt0 u v)) * (rt0 u v)), isv (.pointer (some ⟨w.heap.size, 0, none⟩)), isk u, isv (.bool false), isv (.bool true)]) (pre := [(2, 2), (7, 0)])
    (plan := [.val [(7, 0)] 1, .val [(2, 2)] 3, .val [(16, 1), (17, 3)] 4, .val [(18, 4)] 5])
    [] [] [] 36 (by kernel_rfl) rfl (by kernel_rfl) ⟨.inr (lv0 _ _ _), ⟨.inr (lull_k _ _ _), ⟨.inr (lv0 _ _ _), ⟨.inr (lull_k _ _ _), ⟨.inr (lv0 _ _ _), ⟨.inr (lv0 _ _ _), trivial⟩⟩⟩⟩⟩⟩
    snkAt0 snk0 ⟨rfl, ⟨rfl, trivial⟩⟩
   (Oc3 (fun a w X_ h => g_ldk (wq0 rfl) rfl h.1 (X_.at_ R7.out.1 out0 R7.out.2))
   (Oc3 (fun a w X_ h => g_ldk (wq0 rfl) rfl h.1 (X_.at_ R2.out.1 out0 R2.out.2))
   (Oc3 (fun a w X_ h => g_call2 (wq0 rfl) (by kernel_rfl) rfl (k_same_f h.1 h.2.1 ha))
   (Oc3 (fun a w X_ h => g_not (wq0 rfl) rfl h.1 rfl)
      OkL3.nil)))) ?_
  rintro W4 X4 _ rfl _ rfl _ rfl _ rfl
  refine Fd3 ?_
  simp only [Act.put, List.setIfInBounds_toArray, List.set_cons_zero, List.set_cons_succ]
  replace R2 := hide (X4.row out0 R2.out)
  replace R3 := hide (X4.row out0 R3.out)
  replace R4 := hide (X4.row out0 R4.out)
  replace R6 := hide (X4.row out0 R6.out)
  replace R7 := hide (X4.row out0 R7.out)
  replace BEL := hide (X4.on BEL.out SZ.out none_le)
  replace SZ := hide BEL.out.size
  have SW4 := X4.size
  clear X4
  go_upto_region 4 with fail
  refine wrl3 (tl := [isk (rt0 u v), isw rmw, isk rm, isk ((rt0 u v) * rm)]) (pre := [])
    (plan := [.ld 0 6 0, .val [] 1, .val [(21, 1)] 2, .val [(20, 0), (22, 2)] 3, .put 0 6 23 3])
    [] [(g6, 47, 4)] [(0, 6)] 36 (by kernel_rfl) rfl (by kernel_rfl) ⟨.inr (lull_k _ _ _), ⟨.inr (lv0 _ _ _), ⟨.inr (lull_k _ _ _), ⟨.inr (lull_k _ _ _), trivial⟩⟩⟩⟩
    (snkAt1 R6.out rfl rfl) (snk1 _) trivial
   (Oc3 (fun a w X_ h hr => g_ldk (wq0 rfl) rfl h (hr.trans R6.out.2))
   (Oc3 (fun a w X_ h => g_glb (wq0 rfl) rfl (LDm.out.step (X_.on BEL.out SZ.out (one_le (by omega)))) rfl)
   (Oc3 (fun a w X_ h => g_kw (wq0 rfl) rfl h.1 rfl rmw_lim rmw_val)
   (Oc3 (fun a w X_ h => g_call2 (wq0 rfl) (by kernel_rfl) rfl (k_mul h.1 h.2.1))
   (Oc3 (⟨rfl, _, _, _, rfl, rfl, by kernel_rfl, row_k _⟩)
      OkL3.nil))))) ?_
  rintro W5 X5 _ rfl _ rfl _ rfl _ rfl c6 r6 H6
  refine Fd3 ?_
  simp only [Act.put, List.setIfInBounds_toArray, List.set_cons_zero, List.set_cons_succ]
  obtain rfl : c6 = el ((rt0 u v) * rm).val := agg_inj H6
  replace R6 := hide (And.intro (Nat.lt_of_lt_of_le R6.out.1 X5.size) r6)
  clear r6
  replace R2 := hide (X5.row (out1 (by omega)) R2.out)
  replace R3 := hide (X5.row (out1 (by omega)) R3.out)
  replace R4 := hide (X5.row (out1 (by omega)) R4.out)
  replace R7 := hide (X5.row (out1 (by omega)) R7.out)
  replace BEL := hide (X5.on BEL.out SZ.out (one_le (by omega)))
  replace SZ := hide BEL.out.size
  have SW5 := X5.size
  clear X5
  go_upto_region 5 with fail
  refine wrl3 (tl := [isk ((v * (rt0 u v)) * (rt0 u v)), isk (-((v * (rt0 u v)) * (rt0 u v)))]) (pre := [])
    (plan := [.ld 0 7 0, .val [(24, 0)] 1, .put 0 7 25 1])
    [] [(g7, 47, 4)] [(0, 7)] 36 (by kernel_rfl) rfl (by kernel_rfl) ⟨.inr (lull_k _ _ _), ⟨.inr (lull_k _ _ _), trivial⟩⟩
    (snkAt1 R7.out rfl rfl) (snk1 _) trivial
   (Oc3 (fun a w X_ h hr => g_ldk (wq0 rfl) rfl h (hr.trans R7.out.2))
   (Oc3 (fun a w X_ h => g_call1 (wq0 rfl) (by kernel_rfl) rfl (k_neg h.1))
   (Oc3 (⟨rfl, _, _, _, rfl, rfl, by kernel_rfl, row_k _⟩)
      OkL3.nil))) ?_
  rintro W6 X6 _ rfl _ rfl c7 r7 H7
  refine Fd3 ?_
  simp only [Act.put, List.setIfInBounds_toArray, List.set_cons_zero, List.set_cons_succ]
  obtain rfl : c7 = el (-((v * (rt0 u v)) * (rt0 u v))).val := agg_inj H7
  replace R7 := hide (And.intro (Nat.lt_of_lt_of_le R7.out.1 X6.size) r7)
  clear r7
  replace R2 := hide (X6.row (out1 (by omega)) R2.out)
  replace R3 := hide (X6.row (out1 (by omega)) R3.out)
  replace R4 := hide (X6.row (out1 (by omega)) R4.out)
  replace R6 := hide (X6.row (out1 (by omega)) R6.out)
  replace BEL := hide (X6.on BEL.out SZ.out (one_le (by omega)))
  replace SZ := hide BEL.out.size
  have SW6 := X6.size
  clear X6
  go_upto_region 6 with fail
  refine wrl3 (tl := [isv (.pointer (some ⟨g7, 0, none⟩)), isk (-((v * (rt0 u v)) * (rt0 u v))), isv (.pointer (some ⟨w.heap.size, 0, none⟩)), isk u, isv (.bool false), isv (.bool true)]) (pre := [(2, 2), (7, 0)])
    (plan := [.val [(7, 0)] 1, .val [(2, 2)] 3, .val [(26, 1), (27, 3)] 4, .val [(28, 4)] 5])
    [] [] [] 36 (by kernel_rfl) rfl (by kernel_rfl) ⟨.inr (lv0 _ _ _), ⟨.inr (lull_k _ _ _), ⟨.inr (lv0 _ _ _), ⟨.inr (lull_k _ _ _), ⟨.inr (lv0 _ _ _), ⟨.inr (lv0 _ _ _), trivial⟩⟩⟩⟩⟩⟩
    snkAt0 snk0 ⟨rfl, ⟨rfl, trivial⟩⟩
   (Oc3 (fun a w X_ h => g_ldk (wq0 rfl) rfl h.1 (X_.at_ R7.out.1 out0 R7.out.2))
   (Oc3 (fun a w X_ h => g_ldk (wq0 rfl) rfl h.1 (X_.at_ R2.out.1 out0 R2.out.2))
   (Oc3 (fun a w X_ h => g_call2 (wq0 rfl) (by kernel_rfl) rfl (k_same_f h.1 h.2.1 hb))
   (Oc3 (fun a w X_ h => g_not (wq0 rfl) rfl h.1 rfl)
      OkL3.nil)))) ?_
  rintro W7 X7 _ rfl _ rfl _ rfl _ rfl
  refine Fd3 ?_
  simp only [Act.put, List.setIfInBounds_toArray, List.set_cons_zero, List.set_cons_succ]
  replace R2 := hide (X7.row out0 R2.out)
  replace R3 := hide (X7.row out0 R3.out)
  replace R4 := hide (X7.row out0 R4.out)
  replace R6 := hide (X7.row out0 R6.out)
  replace R7 := hide (X7.row out0 R7.out)
  replace BEL := hide (X7.on BEL.out SZ.out none_le)
  replace SZ := hide BEL.out.size
  have SW7 := X7.size
  clear X7
  go_upto_region 7 with fail
  refine wrl3 (tl := [isk (0 : Kp), isv (.bool false)]) (pre := [])
    (plan := [.val [] 0, .put 0 4 30 0, .val [] 1])
    [] [(w.heap.size + 1 + 1, 47, 4)] [(0, 4)] 36 (by kernel_rfl) rfl (by kernel_rfl) ⟨.inr (lull_k _ _ _), ⟨.inr (lv0 _ _ _), trivial⟩⟩
    (snkAt1 R4.out rfl rfl) (snk1 _) trivial
   (Oc3 (fun a w X_ h => g_kz (wq0 rfl) rfl)
   (Oc3 (⟨rfl, _, _, _, rfl, rfl, by kernel_rfl, row_k _⟩)
   (Oc3 (fun a w X_ h => g_move (wq0 rfl) (.inr rfl) rfl)
      OkL3.nil))) ?_
  rintro W8 X8 _ rfl c4 r4 H4 _ rfl
  refine Fd3 ?_
  simp only [Act.put, List.setIfInBounds_toArray, List.set_cons_zero, List.set_cons_succ]
  obtain rfl : c4 = el (0 : Kp).val := agg_inj H4
  replace R4 := hide (And.intro (Nat.lt_of_lt_of_le R4.out.1 X8.size) r4)
  clear r4
  replace R2 := hide (X8.row (out1 (by omega)) R2.out)
  replace R3 := hide (X8.row (out1 (by omega)) R3.out)
  replace R6 := hide (X8.row (out1 (by omega)) R6.out)
  replace R7 := hide (X8.row (out1 (by omega)) R7.out)
  replace BEL := hide (X8.on BEL.out SZ.out (one_le (by omega)))
  replace SZ := hide BEL.out.size
  have SW8 := X8.size
  clear X8
  go_wp2
  exact bodyPost_ret_by (results_row_tmp rfl _ _ (w.heap.size + 1 + 1) 47 _ (0, 0) _ rfl R4.out.2 Tryz.underlying47 rfl (by kernel_rfl)) rfl ⟨_, rfl, BEL.out, HR.out _⟩
def ev (x : Kp) : Kp := if x.val % 2 = 1 then -x else x
def rt (u v : Kp) : Option Kp := if v * rt0 u v * rt0 u v = u then some (ev (rt0 u v)) else if -(v * rt0 u v * rt0 u v) = u then some (ev (rt0 u v * rm)) else none
theorem k_root {u v : Kp} {u0 u1 : Value} {w : World} (h0 : u0 = .agg (el u.val)) (h1 : u1 = .agg (el v.val)) (LDe : LaidW 3 eiw w) (LDm : LaidW 1 rmw w) :
    Hands Tryz.prog 86 #[u0, u1] w (isv (.tuple #[.agg (el ((rt u v).getD 0).val), .bool (rt u v).isSome])) := by
  unfold rt
  by_cases ha : v * rt0 u v * rt0 u v = u
  · rw [if_pos ha]
    unfold ev
    by_cases ho : (rt0 u v).val % 2 = 1
    · rw [if_pos ho]; exact root_a1 h0 h1 LDe LDm ha ho
    · rw [if_neg ho]; exact root_a0 h0 h1 LDe LDm ha ho
  · rw [if_neg ha]
    by_cases hb : -(v * rt0 u v * rt0 u v) = u
    · rw [if_pos hb]
      unfold ev
      by_cases ho : (rt0 u v * rm).val % 2 = 1
      · rw [if_pos ho]; exact root_b1 h0 h1 LDe LDm ha hb ho
      · rw [if_neg ho]; exact root_b0 h0 h1 LDe LDm ha hb ho
    · rw [if_neg hb]; exact root_c h0 h1 LDe LDm ha hb
end Go.Proofs.YtobgimpkkjaolaaGreatDoor
