/- The point at a height, and whether bytes are the same, as the program answers them. -/
import Derived.Test.YtobgimpkkjaolaaGreatDoorFn4
import Derived.Test.YtobgimpkkjaolaaGreatDoorFn5
namespace Go.Proofs.YtobgimpkkjaolaaGreatDoor
open Go.RowKit
theorem k_root_n {u v : Kp} {u0 u1 : Value} {w : World} (h0 : u0 = .agg (el u.val)) (h1 : u1 = .agg (el v.val)) (LDe : LaidW 3 eiw w) (LDm : LaidW 1 rmw w) (h : rt u v = none) :
    Hands Tryz.prog 86 #[u0, u1] w (isv (.tuple #[.agg (el (0 : Kp).val), .bool false])) := by
  have := k_root h0 h1 LDe LDm
  rwa [h] at this
theorem k_root_s {u v x : Kp} {u0 u1 : Value} {w : World} (h0 : u0 = .agg (el u.val)) (h1 : u1 = .agg (el v.val)) (LDe : LaidW 3 eiw w) (LDm : LaidW 1 rmw w) (h : rt u v = some x) :
    Hands Tryz.prog 86 #[u0, u1] w (isv (.tuple #[.agg (el x.val), .bool true])) := by
  have := k_root h0 h1 LDe LDm
  rwa [h] at this
set_option maxRecDepth 100000 in
set_option maxHeartbeats 2000000 in
theorem p_at_n {y : Kp} {b : Bool} {u0 u1 : Value} {w : World} (h0 : u0 = .agg (el y.val)) (h1 : u1 = .bool b) (LDe : LaidW 3 eiw w) (LDm : LaidW 1 rmw w) (hr : rt (y * y - (1 : Kp)) (dd * (y * y) + (1 : Kp)) = none) : Hands Tryz.prog 51 #[u0, u1] w (isv (.tuple #[.agg (pe (0 : Kp) ((1 : Kp) - 1)), .bool false])) := by
  subst h0 h1
  suffices HH : ∀ R_ : STy, (∀ W, R_.p W (.tuple #[.agg (pe (0 : Kp) ((1 : Kp) - 1)), .bool false])) → Hands Tryz.prog 51 #[.agg (el y.val), .bool b] w R_ from HH _ (fun _ => rfl)
  intro R_ hR_
  replace LDe := hide LDe
  replace LDm := hide LDm
  obtain ⟨A0, hA0⟩ : ∃ A_, A_ = el y.val := ⟨_, rfl⟩
  rw [← hA0]
  have EA0 := hide hA0
  clear hA0
  have HR := hide hR_
  clear hR_
  have HR1 := hide hr
  clear hr
  unfold Hands
  go_enter Tryz.func51, Tryz.ntmps51
  go_upto_region 1 with fail
  refine cut_world (fun W => Below w.heap.size w W ∧ (w.heap.size < W.heap.size ∧ W.heap[w.heap.size]? = some (.cells A0 47 (0, 0))) ∧ (w.heap.size + 1 < W.heap.size ∧ W.heap[w.heap.size + 1]? = some (.cells zp 49 (0, 0)))) ⟨below2 _ _ _, ⟨by simp; omega, heap2_0 _ _ _⟩, by simp, heap2_1 _ _ _⟩ ?_
  rintro W1 ⟨BEL, R2, R4⟩
  replace BEL := hide BEL
  have SZ := hide BEL.out.size
  replace R2 := hide R2
  replace R4 := hide R4
  have hA0 := EA0.out
  subst hA0
  clear EA0
  have SW1 := (R4.out.1)
  refine wrl3 (tl := [isv (.pointer (some ⟨w.heap.size, 0, none⟩)), isk y, isk (y * y), isk (1 : Kp)]) (pre := [(2, 0)])
    (plan := [.val [(2, 0)] 1, .val [(2, 0)] 1, .val [(10, 1), (11, 1)] 2, .val [] 3, .alc 47 4, .alc 47 4, .sto 4 12 2, .sto 5 13 3])
    [] [] [] 35 (by kernel_rfl) rfl (by kernel_rfl) ⟨.inr (lv0 _ _ _), ⟨.inr (lull_k _ _ _), ⟨.inr (lull_k _ _ _), ⟨.inr (lull_k _ _ _), trivial⟩⟩⟩⟩
    snkAt0 snk0 ⟨rfl, trivial⟩
   (Oc3 (fun a w X_ h => g_ldk (wq0 rfl) rfl h.1 (X_.at_ R2.out.1 out0 R2.out.2))
   (Oc3 (fun a w X_ h => g_ldk (wq0 rfl) rfl h.1 (X_.at_ R2.out.1 out0 R2.out.2))
   (Oc3 (fun a w X_ h => g_call2 (wq0 rfl) (by kernel_rfl) rfl (k_mul h.1 h.2.1))
   (Oc3 (fun a w X_ h => g_call1 (wq0 rfl) (by kernel_rfl) rfl (k_one rfl))
   (Oc3 (alc_of zk rfl rfl rfl newK)
   (Oc3 (alc_of zk rfl rfl rfl newK)
   (Oc3 (⟨rfl, _, _, _, rfl, rfl, rfl, by kernel_rfl, row_k _⟩)
   (Oc3 (⟨rfl, _, _, _, rfl, rfl, rfl, by kernel_rfl, row_k _⟩)
      OkL3.nil)))))))) ?_
  rintro W2 X2 _ rfl _ rfl _ rfl _ rfl g6 c6 ⟨L6, Z6, -⟩ r6 H6 g7 c7 ⟨L7, Z7, -⟩ r7 H7
  refine FinL3.fill ?_
  refine FinL3.fill ?_
  refine Fd3 ?_
  simp only [Act.put, List.setIfInBounds_toArray, List.set_cons_zero, List.set_cons_succ]
  obtain rfl : c6 = el (y * y).val := agg_inj H6
  have R6 := hide (And.intro Z6 r6)
  clear r6
  obtain rfl : c7 = el (1 : Kp).val := agg_inj H7
  have R7 := hide (And.intro Z7 r7)
  clear r7
  replace R2 := hide (X2.row out0 R2.out)
  replace R4 := hide (X2.row out0 R4.out)
  replace BEL := hide (X2.on BEL.out SZ.out none_le)
  replace SZ := hide BEL.out.size
  have SW2 := X2.size
  clear X2
  go_upto_region 2 with fail
  refine wrt3 (tl := [isv (.pointer (some ⟨g6, 0, none⟩)), isk (y * y), isv (.pointer (some ⟨g7, 0, none⟩)), isk (1 : Kp), isk ((y * y) - (1 : Kp)), isk dd, isk (dd * (y * y)), isk ((dd * (y * y)) + (1 : Kp)), isv (.tuple #[.agg (el (0 : Kp).val), .bool false]), isk (0 : Kp), isv (.bool false)]) (pre := [(6, 0), (7, 2)])
    (plan := [.val [(6, 0)] 1, .val [(7, 2)] 3, .val [(15, 1), (16, 3)] 4, .val [] 5, .val [(6, 0)] 1, .val [(18, 5), (19, 1)] 6, .val [(7, 2)] 3, .val [(20, 6), (21, 3)] 7, .val [(17, 4), (22, 7)] 8, .val [(23, 8)] 8, .val [(14, 8)] 9, .val [(14, 8)] 10, .alc 47 4, .sto 12 24 9, .val [(25, 10)] 10])
    [] [] [] (by kernel_rfl) 35 (by kernel_rfl) rfl (by kernel_rfl) ⟨.inr (lv0 _ _ _), ⟨.inr (lull_k _ _ _), ⟨.inr (lv0 _ _ _), ⟨.inr (lull_k _ _ _), ⟨.inr (lull_k _ _ _), ⟨.inr (lull_k _ _ _), ⟨.inr (lull_k _ _ _), ⟨.inr (lull_k _ _ _), ⟨.inr (lv0 _ _ _), ⟨.inr (lull_k _ _ _), ⟨.inr (lv0 _ _ _), trivial⟩⟩⟩⟩⟩⟩⟩⟩⟩⟩⟩
    snkAt0 snk0 ⟨rfl, ⟨rfl, trivial⟩⟩
   (Oc3 (fun a w X_ h => g_ldk (wq0 rfl) rfl h.1 (X_.at_ R6.out.1 out0 R6.out.2))
   (Oc3 (fun a w X_ h => g_ldk (wq0 rfl) rfl h.1 (X_.at_ R7.out.1 out0 R7.out.2))
   (Oc3 (fun a w X_ h => g_call2 (wq0 rfl) (by kernel_rfl) rfl (k_sub h.1 h.2.1))
   (Oc3 (fun a w X_ h => g_call0 (wq0 rfl) (by kernel_rfl) rfl (k_dd))
   (Oc3 (fun a w X_ h => g_ldk (wq0 rfl) rfl h.1 (X_.at_ R6.out.1 out0 R6.out.2))
   (Oc3 (fun a w X_ h => g_call2 (wq0 rfl) (by kernel_rfl) rfl (k_mul h.1 h.2.1))
   (Oc3 (fun a w X_ h => g_ldk (wq0 rfl) rfl h.1 (X_.at_ R7.out.1 out0 R7.out.2))
   (Oc3 (fun a w X_ h => g_call2 (wq0 rfl) (by kernel_rfl) rfl (k_add h.1 h.2.1))
   (Oc3 (fun a w X_ h => g_call2 (wq0 rfl) (by kernel_rfl) rfl (k_root_n h.1 h.2.1 (LDe.out.step (X_.on BEL.out SZ.out none_le)) (LDm.out.step (X_.on BEL.out SZ.out none_le)) HR1.out))
   (Oc3 (fun a w X_ h => g_move (wq0 rfl) (.inl rfl) h.1)
   (Oc3 (fun a w X_ h => g_ext (wq0 rfl) rfl h.1 rfl rfl)
   (Oc3 (fun a w X_ h => g_ext (wq0 rfl) rfl h.1 rfl rfl)
   (Oc3 (alc_of zk rfl rfl rfl newK)
   (Oc3 (⟨rfl, _, _, _, rfl, rfl, rfl, by kernel_rfl, row_k _⟩)
   (Oc3 (fun a w X_ h => g_move (wq0 rfl) (.inr rfl) h.1)
      OkL3.nil))))))))))))))) ?_
  rintro W3 X3 _ rfl _ rfl _ rfl _ rfl _ rfl _ rfl _ rfl _ rfl _ rfl _ rfl _ rfl _ rfl g8 c8 ⟨L8, Z8, -⟩ r8 H8 _ rfl
  refine Fd3 ?_
  simp only [Act.put, List.setIfInBounds_toArray, List.set_cons_zero, List.set_cons_succ]
  obtain rfl : c8 = el (0 : Kp).val := agg_inj H8
  have R8 := hide (And.intro Z8 r8)
  clear r8
  replace R2 := hide (X3.row out0 R2.out)
  replace R4 := hide (X3.row out0 R4.out)
  replace R6 := hide (X3.row out0 R6.out)
  replace R7 := hide (X3.row out0 R7.out)
  replace BEL := hide (X3.on BEL.out SZ.out none_le)
  replace SZ := hide BEL.out.size
  have SW3 := X3.size
  clear X3
  go_upto_region 3 with fail
  refine wrl3 (tl := [isv (.bool false), isv (.bool true)]) (pre := [(9, 0)])
    (plan := [.val [(9, 0)] 0, .val [(26, 0)] 1])
    [] [] [] 35 (by kernel_rfl) rfl (by kernel_rfl) ⟨.inr (lv0 _ _ _), ⟨.inr (lv0 _ _ _), trivial⟩⟩
    snkAt0 snk0 ⟨rfl, trivial⟩
   (Oc3 (fun a w X_ h => g_move (wq0 rfl) (.inl rfl) h.1)
   (Oc3 (fun a w X_ h => g_not (wq0 rfl) rfl h.1 rfl)
      OkL3.nil)) ?_
  rintro W4 X4 _ rfl _ rfl
  refine Fd3 ?_
  simp only [Act.put, List.setIfInBounds_toArray, List.set_cons_zero, List.set_cons_succ]
  replace R2 := hide (X4.row out0 R2.out)
  replace R4 := hide (X4.row out0 R4.out)
  replace R6 := hide (X4.row out0 R6.out)
  replace R7 := hide (X4.row out0 R7.out)
  replace R8 := hide (X4.row out0 R8.out)
  replace BEL := hide (X4.on BEL.out SZ.out none_le)
  replace SZ := hide BEL.out.size
  have SW4 := X4.size
  clear X4
  go_upto_region 4 with fail
  refine wrl3 (tl := [ipt (0 : Kp) (1 : Kp), isv (.bool false)]) (pre := [])
    (plan := [.val [] 0, .put 0 4 28 0, .val [] 1])
    [] [(w.heap.size + 1, 49, 8)] [(0, 4)] 35 (by kernel_rfl) rfl (by kernel_rfl) ⟨.inr (lull_p _ _ _ _), ⟨.inr (lv0 _ _ _), trivial⟩⟩
    (snkAt1 R4.out rfl rfl) (snk1 _) trivial
   (Oc3 (fun a w X_ h => g_pz (wq0 rfl) rfl)
   (Oc3 (⟨rfl, _, _, _, rfl, rfl, by kernel_rfl, row_p _ _⟩)
   (Oc3 (fun a w X_ h => g_move (wq0 rfl) (.inr rfl) rfl)
      OkL3.nil))) ?_
  rintro W5 X5 _ rfl c4 r4 H4 _ rfl
  refine Fd3 ?_
  simp only [Act.put, List.setIfInBounds_toArray, List.set_cons_zero, List.set_cons_succ]
  obtain rfl : c4 = pe (0 : Kp) ((1 : Kp) - 1) := agg_inj H4
  replace R4 := hide (And.intro (Nat.lt_of_lt_of_le R4.out.1 X5.size) r4)
  clear r4
  replace R2 := hide (X5.row (out1 (by omega)) R2.out)
  replace R6 := hide (X5.row (out1 (by omega)) R6.out)
  replace R7 := hide (X5.row (out1 (by omega)) R7.out)
  replace R8 := hide (X5.row (out1 (by omega)) R8.out)
  replace BEL := hide (X5.on BEL.out SZ.out (one_le (by omega)))
  replace SZ := hide BEL.out.size
  have SW5 := X5.size
  clear X5
  go_wp2
  exact bodyPost_ret_by (results_row_tmp rfl _ _ (w.heap.size + 1) 49 _ (0, 0) _ rfl R4.out.2 Tryz.underlying49 rfl (by kernel_rfl)) rfl ⟨_, rfl, BEL.out, HR.out _⟩
set_option maxRecDepth 100000 in
set_option maxHeartbeats 2000000 in
theorem p_at_s0 {x y : Kp} {u0 u1 : Value} {w : World} (h0 : u0 = .agg (el y.val)) (h1 : u1 = .bool false) (LDe : LaidW 3 eiw w) (LDm : LaidW 1 rmw w) (hr : rt (y * y - (1 : Kp)) (dd * (y * y) + (1 : Kp)) = some x) : Hands Tryz.prog 51 #[u0, u1] w (isv (.tuple #[.agg (pe x (y - 1)), .bool true])) := by
  subst h0 h1
  suffices HH : ∀ R_ : STy, (∀ W, R_.p W (.tuple #[.agg (pe x (y - 1)), .bool true])) → Hands Tryz.prog 51 #[.agg (el y.val), .bool false] w R_ from HH _ (fun _ => rfl)
  intro R_ hR_
  replace LDe := hide LDe
  replace LDm := hide LDm
  obtain ⟨A0, hA0⟩ : ∃ A_, A_ = el y.val := ⟨_, rfl⟩
  rw [← hA0]
  have EA0 := hide hA0
  clear hA0
  have HR := hide hR_
  clear hR_
  have HR1 := hide hr
  clear hr
  unfold Hands
  go_enter Tryz.func51, Tryz.ntmps51
  go_upto_region 1 with fail
  refine cut_world (fun W => Below w.heap.size w W ∧ (w.heap.size < W.heap.size ∧ W.heap[w.heap.size]? = some (.cells A0 47 (0, 0))) ∧ (w.heap.size + 1 < W.heap.size ∧ W.heap[w.heap.size + 1]? = some (.cells zp 49 (0, 0)))) ⟨below2 _ _ _, ⟨by simp; omega, heap2_0 _ _ _⟩, by simp, heap2_1 _ _ _⟩ ?_
  rintro W1 ⟨BEL, R2, R4⟩
  replace BEL := hide BEL
  have SZ := hide BEL.out.size
  replace R2 := hide R2
  replace R4 := hide R4
  have hA0 := EA0.out
  subst hA0
  clear EA0
  have SW1 := (R4.out.1)
  refine wrl3 (tl := [isv (.pointer (some ⟨w.heap.size, 0, none⟩)), isk y, isk (y * y), isk (1 : Kp)]) (pre := [(2, 0)])
    (plan := [.val [(2, 0)] 1, .val [(2, 0)] 1, .val [(10, 1), (11, 1)] 2, .val [] 3, .alc 47 4, .alc 47 4, .sto 4 12 2, .sto 5 13 3])
    [] [] [] 35 (by kernel_rfl) rfl (by kernel_rfl) ⟨.inr (lv0 _ _ _), ⟨.inr (lull_k _ _ _), ⟨.inr (lull_k _ _ _), ⟨.inr (lull_k _ _ _), trivial⟩⟩⟩⟩
    snkAt0 snk0 ⟨rfl, trivial⟩
   (Oc3 (fun a w X_ h => g_ldk (wq0 rfl) rfl h.1 (X_.at_ R2.out.1 out0 R2.out.2))
   (Oc3 (fun a w X_ h => g_ldk (wq0 rfl) rfl h.1 (X_.at_ R2.out.1 out0 R2.out.2))
   (Oc3 (fun a w X_ h => g_call2 (wq0 rfl) (by kernel_rfl) rfl (k_mul h.1 h.2.1))
   (Oc3 (fun a w X_ h => g_call1 (wq0 rfl) (by kernel_rfl) rfl (k_one rfl))
   (Oc3 (alc_of zk rfl rfl rfl newK)
   (Oc3 (alc_of zk rfl rfl rfl newK)
   (Oc3 (⟨rfl, _, _, _, rfl, rfl, rfl, by kernel_rfl, row_k _⟩)
   (Oc3 (⟨rfl, _, _, _, rfl, rfl, rfl, by kernel_rfl, row_k _⟩)
      OkL3.nil)))))))) ?_
  rintro W2 X2 _ rfl _ rfl _ rfl _ rfl g6 c6 ⟨L6, Z6, -⟩ r6 H6 g7 c7 ⟨L7, Z7, -⟩ r7 H7
  refine FinL3.fill ?_
  refine FinL3.fill ?_
  refine Fd3 ?_
  simp only [Act.put, List.setIfInBounds_toArray, List.set_cons_zero, List.set_cons_succ]
  obtain rfl : c6 = el (y * y).val := agg_inj H6
  have R6 := hide (And.intro Z6 r6)
  clear r6
  obtain rfl : c7 = el (1 : Kp).val := agg_inj H7
  have R7 := hide (And.intro Z7 r7)
  clear r7
  replace R2 := hide (X2.row out0 R2.out)
  replace R4 := hide (X2.row out0 R4.out)
  replace BEL := hide (X2.on BEL.out SZ.out none_le)
  replace SZ := hide BEL.out.size
  have SW2 := X2.size
  clear X2
  go_upto_region 2 with fail
  refine wrt3 (tl := [isv (.pointer (some ⟨g6, 0, none⟩)), isk (y * y), isv (.pointer (some ⟨g7, 0, none⟩)), isk (1 : Kp), isk ((y * y) - (1 : Kp)), isk dd, isk (dd * (y * y)), isk ((dd * (y * y)) + (1 : Kp)), isv (.tuple #[.agg (el x.val), .bool true]), isk x, isv (.bool true)]) (pre := [(6, 0), (7, 2)])
    (plan := [.val [(6, 0)] 1, .val [(7, 2)] 3, .val [(15, 1), (16, 3)] 4, .val [] 5, .val [(6, 0)] 1, .val [(18, 5), (19, 1)] 6, .val [(7, 2)] 3, .val [(20, 6), (21, 3)] 7, .val [(17, 4), (22, 7)] 8, .val [(23, 8)] 8, .val [(14, 8)] 9, .val [(14, 8)] 10, .alc 47 4, .sto 12 24 9, .val [(25, 10)] 10])
    [] [] [] (by kernel_rfl) 35 (by kernel_rfl) rfl (by kernel_rfl) ⟨.inr (lv0 _ _ _), ⟨.inr (lull_k _ _ _), ⟨.inr (lv0 _ _ _), ⟨.inr (lull_k _ _ _), ⟨.inr (lull_k _ _ _), ⟨.inr (lull_k _ _ _), ⟨.inr (lull_k _ _ _), ⟨.inr (lull_k _ _ _), ⟨.inr (lv0 _ _ _), ⟨.inr (lull_k _ _ _), ⟨.inr (lv0 _ _ _), trivial⟩⟩⟩⟩⟩⟩⟩⟩⟩⟩⟩
    snkAt0 snk0 ⟨rfl, ⟨rfl, trivial⟩⟩
   (Oc3 (fun a w X_ h => g_ldk (wq0 rfl) rfl h.1 (X_.at_ R6.out.1 out0 R6.out.2))
   (Oc3 (fun a w X_ h => g_ldk (wq0 rfl) rfl h.1 (X_.at_ R7.out.1 out0 R7.out.2))
   (Oc3 (fun a w X_ h => g_call2 (wq0 rfl) (by kernel_rfl) rfl (k_sub h.1 h.2.1))
   (Oc3 (fun a w X_ h => g_call0 (wq0 rfl) (by kernel_rfl) rfl (k_dd))
   (Oc3 (fun a w X_ h => g_ldk (wq0 rfl) rfl h.1 (X_.at_ R6.out.1 out0 R6.out.2))
   (Oc3 (fun a w X_ h => g_call2 (wq0 rfl) (by kernel_rfl) rfl (k_mul h.1 h.2.1))
   (Oc3 (fun a w X_ h => g_ldk (wq0 rfl) rfl h.1 (X_.at_ R7.out.1 out0 R7.out.2))
   (Oc3 (fun a w X_ h => g_call2 (wq0 rfl) (by kernel_rfl) rfl (k_add h.1 h.2.1))
   (Oc3 (fun a w X_ h => g_call2 (wq0 rfl) (by kernel_rfl) rfl (k_root_s h.1 h.2.1 (LDe.out.step (X_.on BEL.out SZ.out none_le)) (LDm.out.step (X_.on BEL.out SZ.out none_le)) HR1.out))
   (Oc3 (fun a w X_ h => g_move (wq0 rfl) (.inl rfl) h.1)
   (Oc3 (fun a w X_ h => g_ext (wq0 rfl) rfl h.1 rfl rfl)
   (Oc3 (fun a w X_ h => g_ext (wq0 rfl) rfl h.1 rfl rfl)
   (Oc3 (alc_of zk rfl rfl rfl newK)
   (Oc3 (⟨rfl, _, _, _, rfl, rfl, rfl, by kernel_rfl, row_k _⟩)
   (Oc3 (fun a w X_ h => g_move (wq0 rfl) (.inr rfl) h.1)
      OkL3.nil))))))))))))))) ?_
  rintro W3 X3 _ rfl _ rfl _ rfl _ rfl _ rfl _ rfl _ rfl _ rfl _ rfl _ rfl _ rfl _ rfl g8 c8 ⟨L8, Z8, -⟩ r8 H8 _ rfl
  refine Fd3 ?_
  simp only [Act.put, List.setIfInBounds_toArray, List.set_cons_zero, List.set_cons_succ]
  obtain rfl : c8 = el x.val := agg_inj H8
  have R8 := hide (And.intro Z8 r8)
  clear r8
  replace R2 := hide (X3.row out0 R2.out)
  replace R4 := hide (X3.row out0 R4.out)
  replace R6 := hide (X3.row out0 R6.out)
  replace R7 := hide (X3.row out0 R7.out)
  replace BEL := hide (X3.on BEL.out SZ.out none_le)
  replace SZ := hide BEL.out.size
  have SW3 := X3.size
  clear X3
  go_upto_region 3 with fail
  refine wrl3 (tl := [isv (.bool true), isv (.bool false)]) (pre := [(9, 0)])
    (plan := [.val [(9, 0)] 0, .val [(26, 0)] 1])
    [] [] [] 35 (by kernel_rfl) rfl (by kernel_rfl) ⟨.inr (lv0 _ _ _), ⟨.inr (lv0 _ _ _), trivial⟩⟩
    snkAt0 snk0 ⟨rfl, trivial⟩
   (Oc3 (fun a w X_ h => g_move (wq0 rfl) (.inl rfl) h.1)
   (Oc3 (fun a w X_ h => g_not (wq0 rfl) rfl h.1 rfl)
      OkL3.nil)) ?_
  rintro W4 X4 _ rfl _ rfl
  refine Fd3 ?_
  simp only [Act.put, List.setIfInBounds_toArray, List.set_cons_zero, List.set_cons_succ]
  replace R2 := hide (X4.row out0 R2.out)
  replace R4 := hide (X4.row out0 R4.out)
  replace R6 := hide (X4.row out0 R6.out)
  replace R7 := hide (X4.row out0 R7.out)
  replace R8 := hide (X4.row out0 R8.out)
  replace BEL := hide (X4.on BEL.out SZ.out none_le)
  replace SZ := hide BEL.out.size
  have SW4 := X4.size
  clear X4
  go_upto_region 5 with fail
  refine wrl3 (tl := [isv (.bool false)]) (pre := [(1, 0)])
    (plan := [.val [(1, 0)] 0])
    [] [] [] 35 (by kernel_rfl) rfl (by kernel_rfl) ⟨.inr (lv0 _ _ _), trivial⟩
    snkAt0 snk0 ⟨rfl, trivial⟩
   (Oc3 (fun a w X_ h => g_move (wq0 rfl) (.inl rfl) h.1)
      OkL3.nil) ?_
  rintro W5 X5 _ rfl
  refine Fd3 ?_
  simp only [Act.put, List.setIfInBounds_toArray, List.set_cons_zero, List.set_cons_succ]
  replace R2 := hide (X5.row out0 R2.out)
  replace R4 := hide (X5.row out0 R4.out)
  replace R6 := hide (X5.row out0 R6.out)
  replace R7 := hide (X5.row out0 R7.out)
  replace R8 := hide (X5.row out0 R8.out)
  replace BEL := hide (X5.on BEL.out SZ.out none_le)
  replace SZ := hide BEL.out.size
  have SW5 := X5.size
  clear X5
  go_upto_region 7 with fail
  refine wrl3 (tl := [isv (.pointer (some ⟨g8, 0, none⟩)), isk x, isv (.pointer (some ⟨w.heap.size, 0, none⟩)), isk y, ipt x y, isv (.bool true)]) (pre := [(2, 2), (8, 0)])
    (plan := [.val [(8, 0)] 1, .val [(2, 2)] 3, .val [(32, 1), (33, 3)] 4, .put 0 4 34 4, .val [] 5])
    [] [(w.heap.size + 1, 49, 8)] [(0, 4)] 35 (by kernel_rfl) rfl (by kernel_rfl) ⟨.inr (lv0 _ _ _), ⟨.inr (lull_k _ _ _), ⟨.inr (lv0 _ _ _), ⟨.inr (lull_k _ _ _), ⟨.inr (lull_p _ _ _ _), ⟨.inr (lv0 _ _ _), trivial⟩⟩⟩⟩⟩⟩
    (snkAt1 R4.out rfl rfl) (snk1 _) ⟨rfl, ⟨rfl, trivial⟩⟩
   (Oc3 (fun a w X_ h => g_ldk (wq0 rfl) rfl h.1 (X_.at_ R8.out.1 (out1 (by omega)) R8.out.2))
   (Oc3 (fun a w X_ h => g_ldk (wq0 rfl) rfl h.1 (X_.at_ R2.out.1 (out1 (by omega)) R2.out.2))
   (Oc3 (fun a w X_ h => g_call2 (wq0 rfl) (by kernel_rfl) rfl (p_at h.1 h.2.1))
   (Oc3 (⟨rfl, _, _, _, rfl, rfl, by kernel_rfl, row_p _ _⟩)
   (Oc3 (fun a w X_ h => g_move (wq0 rfl) (.inr rfl) rfl)
      OkL3.nil))))) ?_
  rintro W6 X6 _ rfl _ rfl _ rfl c4 r4 H4 _ rfl
  refine Fd3 ?_
  simp only [Act.put, List.setIfInBounds_toArray, List.set_cons_zero, List.set_cons_succ]
  obtain rfl : c4 = pe x (y - 1) := agg_inj H4
  replace R4 := hide (And.intro (Nat.lt_of_lt_of_le R4.out.1 X6.size) r4)
  clear r4
  replace R2 := hide (X6.row (out1 (by omega)) R2.out)
  replace R6 := hide (X6.row (out1 (by omega)) R6.out)
  replace R7 := hide (X6.row (out1 (by omega)) R7.out)
  replace R8 := hide (X6.row (out1 (by omega)) R8.out)
  replace BEL := hide (X6.on BEL.out SZ.out (one_le (by omega)))
  replace SZ := hide BEL.out.size
  have SW6 := X6.size
  clear X6
  go_wp2
  exact bodyPost_ret_by (results_row_tmp rfl _ _ (w.heap.size + 1) 49 _ (0, 0) _ rfl R4.out.2 Tryz.underlying49 rfl (by kernel_rfl)) rfl ⟨_, rfl, BEL.out, HR.out _⟩
set_option maxRecDepth 100000 in
set_option maxHeartbeats 2000000 in
theorem p_at_s1 {x y : Kp} {u0 u1 : Value} {w : World} (h0 : u0 = .agg (el y.val)) (h1 : u1 = .bool true) (LDe : LaidW 3 eiw w) (LDm : LaidW 1 rmw w) (hr : rt (y * y - (1 : Kp)) (dd * (y * y) + (1 : Kp)) = some x) : Hands Tryz.prog 51 #[u0, u1] w (isv (.tuple #[.agg (pe (-x) (y - 1)), .bool true])) := by
  subst h0 h1
  suffices HH : ∀ R_ : STy, (∀ W, R_.p W (.tuple #[.agg (pe (-x) (y - 1)), .bool true])) → Hands Tryz.prog 51 #[.agg (el y.val), .bool true] w R_ from HH _ (fun _ => rfl)
  intro R_ hR_
  replace LDe := hide LDe
  replace LDm := hide LDm
  obtain ⟨A0, hA0⟩ : ∃ A_, A_ = el y.val := ⟨_, rfl⟩
  rw [← hA0]
  have EA0 := hide hA0
  clear hA0
  have HR := hide hR_
  clear hR_
  have HR1 := hide hr
  clear hr
  unfold Hands
  go_enter Tryz.func51, Tryz.ntmps51
  go_upto_region 1 with fail
  refine cut_world (fun W => Below w.heap.size w W ∧ (w.heap.size < W.heap.size ∧ W.heap[w.heap.size]? = some (.cells A0 47 (0, 0))) ∧ (w.heap.size + 1 < W.heap.size ∧ W.heap[w.heap.size + 1]? = some (.cells zp 49 (0, 0)))) ⟨below2 _ _ _, ⟨by simp; omega, heap2_0 _ _ _⟩, by simp, heap2_1 _ _ _⟩ ?_
  rintro W1 ⟨BEL, R2, R4⟩
  replace BEL := hide BEL
  have SZ := hide BEL.out.size
  replace R2 := hide R2
  replace R4 := hide R4
  have hA0 := EA0.out
  subst hA0
  clear EA0
  have SW1 := (R4.out.1)
  refine wrl3 (tl := [isv (.pointer (some ⟨w.heap.size, 0, none⟩)), isk y, isk (y * y), isk (1 : Kp)]) (pre := [(2, 0)])
    (plan := [.val [(2, 0)] 1, .val [(2, 0)] 1, .val [(10, 1), (11, 1)] 2, .val [] 3, .alc 47 4, .alc 47 4, .sto 4 12 2, .sto 5 13 3])
    [] [] [] 35 (by kernel_rfl) rfl (by kernel_rfl) ⟨.inr (lv0 _ _ _), ⟨.inr (lull_k _ _ _), ⟨.inr (lull_k _ _ _), ⟨.inr (lull_k _ _ _), trivial⟩⟩⟩⟩
    snkAt0 snk0 ⟨rfl, trivial⟩
   (Oc3 (fun a w X_ h => g_ldk (wq0 rfl) rfl h.1 (X_.at_ R2.out.1 out0 R2.out.2))
   (Oc3 (fun a w X_ h => g_ldk (wq0 rfl) rfl h.1 (X_.at_ R2.out.1 out0 R2.out.2))
   (Oc3 (fun a w X_ h => g_call2 (wq0 rfl) (by kernel_rfl) rfl (k_mul h.1 h.2.1))
   (Oc3 (fun a w X_ h => g_call1 (wq0 rfl) (by kernel_rfl) rfl (k_one rfl))
   (Oc3 (alc_of zk rfl rfl rfl newK)
   (Oc3 (alc_of zk rfl rfl rfl newK)
   (Oc3 (⟨rfl, _, _, _, rfl, rfl, rfl, by kernel_rfl, row_k _⟩)
   (Oc3 (⟨rfl, _, _, _, rfl, rfl, rfl, by kernel_rfl, row_k _⟩)
      OkL3.nil)))))))) ?_
  rintro W2 X2 _ rfl _ rfl _ rfl _ rfl g6 c6 ⟨L6, Z6, -⟩ r6 H6 g7 c7 ⟨L7, Z7, -⟩ r7 H7
  refine FinL3.fill ?_
  refine FinL3.fill ?_
  refine Fd3 ?_
  simp only [Act.put, List.setIfInBounds_toArray, List.set_cons_zero, List.set_cons_succ]
  obtain rfl : c6 = el (y * y).val := agg_inj H6
  have R6 := hide (And.intro Z6 r6)
  clear r6
  obtain rfl : c7 = el (1 : Kp).val := agg_inj H7
  have R7 := hide (And.intro Z7 r7)
  clear r7
  replace R2 := hide (X2.row out0 R2.out)
  replace R4 := hide (X2.row out0 R4.out)
  replace BEL := hide (X2.on BEL.out SZ.out none_le)
  replace SZ := hide BEL.out.size
  have SW2 := X2.size
  clear X2
  go_upto_region 2 with fail
  refine wrt3 (tl := [isv (.pointer (some ⟨g6, 0, none⟩)), isk (y * y), isv (.pointer (some ⟨g7, 0, none⟩)), isk (1 : Kp), isk ((y * y) - (1 : Kp)), isk dd, isk (dd * (y * y)), isk ((dd * (y * y)) + (1 : Kp)), isv (.tuple #[.agg (el x.val), .bool true]), isk x, isv (.bool true)]) (pre := [(6, 0), (7, 2)])
    (plan := [.val [(6, 0)] 1, .val [(7, 2)] 3, .val [(15, 1), (16, 3)] 4, .val [] 5, .val [(6, 0)] 1, .val [(18, 5), (19, 1)] 6, .val [(7, 2)] 3, .val [(20, 6), (21, 3)] 7, .val [(17, 4), (22, 7)] 8, .val [(23, 8)] 8, .val [(14, 8)] 9, .val [(14, 8)] 10, .alc 47 4, .sto 12 24 9, .val [(25, 10)] 10])
    [] [] [] (by kernel_rfl) 35 (by kernel_rfl) rfl (by kernel_rfl) ⟨.inr (lv0 _ _ _), ⟨.inr (lull_k _ _ _), ⟨.inr (lv0 _ _ _), ⟨.inr (lull_k _ _ _), ⟨.inr (lull_k _ _ _), ⟨.inr (lull_k _ _ _), ⟨.inr (lull_k _ _ _), ⟨.inr (lull_k _ _ _), ⟨.inr (lv0 _ _ _), ⟨.inr (lull_k _ _ _), ⟨.inr (lv0 _ _ _), trivial⟩⟩⟩⟩⟩⟩⟩⟩⟩⟩⟩
    snkAt0 snk0 ⟨rfl, ⟨rfl, trivial⟩⟩
   (Oc3 (fun a w X_ h => g_ldk (wq0 rfl) rfl h.1 (X_.at_ R6.out.1 out0 R6.out.2))
   (Oc3 (fun a w X_ h => g_ldk (wq0 rfl) rfl h.1 (X_.at_ R7.out.1 out0 R7.out.2))
   (Oc3 (fun a w X_ h => g_call2 (wq0 rfl) (by kernel_rfl) rfl (k_sub h.1 h.2.1))
   (Oc3 (fun a w X_ h => g_call0 (wq0 rfl) (by kernel_rfl) rfl (k_dd))
   (Oc3 (fun a w X_ h => g_ldk (wq0 rfl) rfl h.1 (X_.at_ R6.out.1 out0 R6.out.2))
   (Oc3 (fun a w X_ h => g_call2 (wq0 rfl) (by kernel_rfl) rfl (k_mul h.1 h.2.1))
   (Oc3 (fun a w X_ h => g_ldk (wq0 rfl) rfl h.1 (X_.at_ R7.out.1 out0 R7.out.2))
   (Oc3 (fun a w X_ h => g_call2 (wq0 rfl) (by kernel_rfl) rfl (k_add h.1 h.2.1))
   (Oc3 (fun a w X_ h => g_call2 (wq0 rfl) (by kernel_rfl) rfl (k_root_s h.1 h.2.1 (LDe.out.step (X_.on BEL.out SZ.out none_le)) (LDm.out.step (X_.on BEL.out SZ.out none_le)) HR1.out))
   (Oc3 (fun a w X_ h => g_move (wq0 rfl) (.inl rfl) h.1)
   (Oc3 (fun a w X_ h => g_ext (wq0 rfl) rfl h.1 rfl rfl)
   (Oc3 (fun a w X_ h => g_ext (wq0 rfl) rfl h.1 rfl rfl)
   (Oc3 (alc_of zk rfl rfl rfl newK)
   (Oc3 (⟨rfl, _, _, _, rfl, rfl, rfl, by kernel_rfl, row_k _⟩)
   (Oc3 (fun a w X_ h => g_move (wq0 rfl) (.inr rfl) h.1)
      OkL3.nil))))))))))))))) ?_
  rintro W3 X3 _ rfl _ rfl _ rfl _ rfl _ rfl _ rfl _ rfl _ rfl _ rfl _ rfl _ rfl _ rfl g8 c8 ⟨L8, Z8, -⟩ r8 H8 _ rfl
  refine Fd3 ?_
  simp only [Act.put, List.setIfInBounds_toArray, List.set_cons_zero, List.set_cons_succ]
  obtain rfl : c8 = el x.val := agg_inj H8
  have R8 := hide (And.intro Z8 r8)
  clear r8
  replace R2 := hide (X3.row out0 R2.out)
  replace R4 := hide (X3.row out0 R4.out)
  replace R6 := hide (X3.row out0 R6.out)
  replace R7 := hide (X3.row out0 R7.out)
  replace BEL := hide (X3.on BEL.out SZ.out none_le)
  replace SZ := hide BEL.out.size
  have SW3 := X3.size
  clear X3
  go_upto_region 3 with fail
  refine wrl3 (tl := [isv (.bool true), isv (.bool false)]) (pre := [(9, 0)])
    (plan := [.val [(9, 0)] 0, .val [(26, 0)] 1])
    [] [] [] 35 (by kernel_rfl) rfl (by kernel_rfl) ⟨.inr (lv0 _ _ _), ⟨.inr (lv0 _ _ _), trivial⟩⟩
    snkAt0 snk0 ⟨rfl, trivial⟩
   (Oc3 (fun a w X_ h => g_move (wq0 rfl) (.inl rfl) h.1)
   (Oc3 (fun a w X_ h => g_not (wq0 rfl) rfl h.1 rfl)
      OkL3.nil)) ?_
  rintro W4 X4 _ rfl _ rfl
  refine Fd3 ?_
  simp only [Act.put, List.setIfInBounds_toArray, List.set_cons_zero, List.set_cons_succ]
  replace R2 := hide (X4.row out0 R2.out)
  replace R4 := hide (X4.row out0 R4.out)
  replace R6 := hide (X4.row out0 R6.out)
  replace R7 := hide (X4.row out0 R7.out)
  replace R8 := hide (X4.row out0 R8.out)
  replace BEL := hide (X4.on BEL.out SZ.out none_le)
  replace SZ := hide BEL.out.size
  have SW4 := X4.size
  clear X4
  go_upto_region 5 with fail
  refine wrl3 (tl := [isv (.bool true)]) (pre := [(1, 0)])
    (plan := [.val [(1, 0)] 0])
    [] [] [] 35 (by kernel_rfl) rfl (by kernel_rfl) ⟨.inr (lv0 _ _ _), trivial⟩
    snkAt0 snk0 ⟨rfl, trivial⟩
   (Oc3 (fun a w X_ h => g_move (wq0 rfl) (.inl rfl) h.1)
      OkL3.nil) ?_
  rintro W5 X5 _ rfl
  refine Fd3 ?_
  simp only [Act.put, List.setIfInBounds_toArray, List.set_cons_zero, List.set_cons_succ]
  replace R2 := hide (X5.row out0 R2.out)
  replace R4 := hide (X5.row out0 R4.out)
  replace R6 := hide (X5.row out0 R6.out)
  replace R7 := hide (X5.row out0 R7.out)
  replace R8 := hide (X5.row out0 R8.out)
  replace BEL := hide (X5.on BEL.out SZ.out none_le)
  replace SZ := hide BEL.out.size
  have SW5 := X5.size
  clear X5
  go_upto_region 6 with fail
  refine wrl3 (tl := [isk x, isk (-x)]) (pre := [])
    (plan := [.ld 0 8 0, .val [(30, 0)] 1, .put 0 8 31 1])
    [] [(g8, 47, 4)] [(0, 8)] 35 (by kernel_rfl) rfl (by kernel_rfl) ⟨.inr (lull_k _ _ _), ⟨.inr (lull_k _ _ _), trivial⟩⟩
    (snkAt1 R8.out rfl rfl) (snk1 _) trivial
   (Oc3 (fun a w X_ h hr => g_ldk (wq0 rfl) rfl h (hr.trans R8.out.2))
   (Oc3 (fun a w X_ h => g_call1 (wq0 rfl) (by kernel_rfl) rfl (k_neg h.1))
   (Oc3 (⟨rfl, _, _, _, rfl, rfl, by kernel_rfl, row_k _⟩)
      OkL3.nil))) ?_
  rintro W6 X6 _ rfl _ rfl c8 r8 H8
  refine Fd3 ?_
  simp only [Act.put, List.setIfInBounds_toArray, List.set_cons_zero, List.set_cons_succ]
  obtain rfl : c8 = el (-x).val := agg_inj H8
  replace R8 := hide (And.intro (Nat.lt_of_lt_of_le R8.out.1 X6.size) r8)
  clear r8
  replace R2 := hide (X6.row (out1 (by omega)) R2.out)
  replace R4 := hide (X6.row (out1 (by omega)) R4.out)
  replace R6 := hide (X6.row (out1 (by omega)) R6.out)
  replace R7 := hide (X6.row (out1 (by omega)) R7.out)
  replace BEL := hide (X6.on BEL.out SZ.out (one_le (by omega)))
  replace SZ := hide BEL.out.size
  have SW6 := X6.size
  clear X6
  go_upto_region 7 with fail
  refine wrl3 (tl := [isv (.pointer (some ⟨g8, 0, none⟩)), isk (-x), isv (.pointer (some ⟨w.heap.size, 0, none⟩)), isk y, ipt (-x) y, isv (.bool true)]) (pre := [(2, 2), (8, 0)])
    (plan := [.val [(8, 0)] 1, .val [(2, 2)] 3, .val [(32, 1), (33, 3)] 4, .put 0 4 34 4, .val [] 5])
    [] [(w.heap.size + 1, 49, 8)] [(0, 4)] 35 (by kernel_rfl) rfl (by kernel_rfl) ⟨.inr (lv0 _ _ _), ⟨.inr (lull_k _ _ _), ⟨.inr (lv0 _ _ _), ⟨.inr (lull_k _ _ _), ⟨.inr (lull_p _ _ _ _), ⟨.inr (lv0 _ _ _), trivial⟩⟩⟩⟩⟩⟩
    (snkAt1 R4.out rfl rfl) (snk1 _) ⟨rfl, ⟨rfl, trivial⟩⟩
   (Oc3 (fun a w X_ h => g_ldk (wq0 rfl) rfl h.1 (X_.at_ R8.out.1 (out1 (by omega)) R8.out.2))
   (Oc3 (fun a w X_ h => g_ldk (wq0 rfl) rfl h.1 (X_.at_ R2.out.1 (out1 (by omega)) R2.out.2))
   (Oc3 (fun a w X_ h => g_call2 (wq0 rfl) (by kernel_rfl) rfl (p_at h.1 h.2.1))
   (Oc3 (⟨rfl, _, _, _, rfl, rfl, by kernel_rfl, row_p _ _⟩)
   (Oc3 (fun a w X_ h => g_move (wq0 rfl) (.inr rfl) rfl)
      OkL3.nil))))) ?_
  rintro W7 X7 _ rfl _ rfl _ rfl c4 r4 H4 _ rfl
  refine Fd3 ?_
  simp only [Act.put, List.setIfInBounds_toArray, List.set_cons_zero, List.set_cons_succ]
  obtain rfl : c4 = pe (-x) (y - 1) := agg_inj H4
  replace R4 := hide (And.intro (Nat.lt_of_lt_of_le R4.out.1 X7.size) r4)
  clear r4
  replace R2 := hide (X7.row (out1 (by omega)) R2.out)
  replace R6 := hide (X7.row (out1 (by omega)) R6.out)
  replace R7 := hide (X7.row (out1 (by omega)) R7.out)
  replace R8 := hide (X7.row (out1 (by omega)) R8.out)
  replace BEL := hide (X7.on BEL.out SZ.out (one_le (by omega)))
  replace SZ := hide BEL.out.size
  have SW7 := X7.size
  clear X7
  go_wp2
  exact bodyPost_ret_by (results_row_tmp rfl _ _ (w.heap.size + 1) 49 _ (0, 0) _ rfl R4.out.2 Tryz.underlying49 rfl (by kernel_rfl)) rfl ⟨_, rfl, BEL.out, HR.out _⟩
set_option maxHeartbeats 1000000 in
theorem h_equal {u v : Value} {l m : List Nat} {w : World} (h1 : BsAt w u l) (h2 : BsAt w v m) : Hands Tryz.prog 31 #[u, v] w (isv (.bool (decide (l = m)))) := by
  have e1 := run_sob h1
  have e2 := run_sob h2
  have hq := sob_eq h1.lim h2.lim
  refine h1_of ?_
  generalize decide (l = m) = d at *
  generalize sob l = s at *
  generalize sob m = t at *
  clear h1 h2
  go_enter Tryz.func31, Tryz.ntmps31
  go_wp2
  go_ret
  exact ⟨rfl, Below.refl _ _⟩
end Go.Proofs.YtobgimpkkjaolaaGreatDoor
