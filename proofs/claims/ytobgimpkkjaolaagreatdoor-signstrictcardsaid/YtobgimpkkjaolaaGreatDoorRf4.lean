/- The page's root, as its call answers it. -/
import Derived.Test.YtobgimpkkjaolaaGreatDoorRfH
import Derived.Test.YtobgimpkkjaolaaGreatDoorRf2
namespace Go.Proofs.YtobgimpkkjaolaaGreatDoor
open Go.RowKit
theorem rep_rm : Rep [41136, 18958, 6951, 50414, 58488, 44335, 6150, 12099, 55207, 15867, 153, 11085, 57099, 20417, 9344, 11139] rm.val := ⟨rfl, ok_list (by decide +kernel), by decide +kernel⟩
set_option maxRecDepth 100000 in
set_option maxHeartbeats 4000000 in
theorem n_rm {w : World}  : Hands Tryz.prog 103 #[] w (nk rm) := by
  suffices HH : ∀ R_ : STy, (∀ W C, RN C rm → R_.p W (.agg C)) → Hands Tryz.prog 103 #[] w R_ from HH _ (fun _ C h => ⟨C, rfl, h⟩)
  intro R_ hR_
  have HR := hide hR_
  clear hR_
  unfold Hands
  go_enter Tryz.func103, Tryz.ntmps103
  go_upto_region 1 with fail
  refine cut_world (fun W => Below w.heap.size w W ∧ (w.heap.size < W.heap.size ∧ W.heap[w.heap.size]? = some (.cells zn 37 (0, 0)))) ⟨(Below.refl _ _).alloc (Nat.le_refl _) _, by simp, heap_alloc_last _ _⟩ ?_
  rintro W1 ⟨BEL, R0⟩
  replace BEL := hide BEL
  have SZ := hide BEL.out.size
  replace R0 := hide R0
  have SW1 := (R0.out.1)
  refine wrl3 (tl := [nk rm]) (pre := [])
    (plan := [Pk.val [] 0, Pk.put 0 0 1 0])
    [] [(w.heap.size, 37, 16)] [(0, 0)] 2 (by kernel_rfl) rfl (by kernel_rfl) ⟨.inr (lull_n _ _ _), trivial⟩
    (snkAt1 R0.out rfl rfl) (snk1 _) trivial
   (Oc3 (fun a w X_ h => g_nc (wq0 rfl) rfl rep_rm (by kernel_rfl))
   (Oc3 (⟨rfl, _, _, _, rfl, rfl, by kernel_rfl, row_n _⟩)
      OkL3.nil)) ?_
  rintro W2 X2 v1 - c0 r0 H0
  refine Fd3 ?_
  simp only [Act.put, List.setIfInBounds_toArray, List.set_cons_zero, List.set_cons_succ]
  have N0 := hide (nk_of H0)
  replace R0 := hide (And.intro (Nat.lt_of_lt_of_le R0.out.1 X2.size) r0)
  clear r0
  replace BEL := hide (X2.on BEL.out SZ.out (one_le (by omega)))
  replace SZ := hide BEL.out.size
  have SW2 := X2.size
  clear X2
  clear H0
  go_wp2
  exact bodyPost_ret_by (results_cell_row rfl _ _ (w.heap.size) 37 _ (0, 0) _ rfl R0.out.2 undN rfl (by rw [N0.out.size]; exact sizeN)) rfl ⟨_, rfl, BEL.out, HR.out _ _ N0.out⟩
def nkb (x : Kp) (b : Bool) : STy := ⟨fun _ v => ∃ C, v = .tuple #[.agg C, .bool b] ∧ RN C x, fun _ h => h⟩
theorem lull_nb (B : Nat) (S : List Nat) (x : Kp) (b : Bool) : LullT B S (nkb x b) := fun _ _ _ _ h => h
theorem rt_two (v x : Kp) : v * ((x * rm) * (x * rm)) = -(v * x * x) := by
  have h : rm * rm = -1 := rm_sq
  rw [show v * (x * rm * (x * rm)) = v * x * x * (rm * rm) by grind, h]
  grind
theorem k_zsub (x : Kp) : 0 - x = -x := by grind
theorem rt_one (v x : Kp) : v * (x * x) = v * x * x := by grind
set_option maxRecDepth 100000 in
set_option maxHeartbeats 4000000 in
theorem nroot_a0 {u v : Kp} {C0 C1 : Array Value} {w : World} (hq0 : RN C0 u) (hq1 : RN C1 v) (ha : v * ((rt0 u v) * (rt0 u v)) = u) (ho : ¬ ((rt0 u v)).val % 2 = 1) : Hands Tryz.prog 73 #[.agg C0, .agg C1] w (nkb (rt0 u v) true) := by
  suffices HH : ∀ R_ : STy, (∀ W C, RN C (rt0 u v) → R_.p W (.tuple #[.agg C, .bool true])) → Hands Tryz.prog 73 #[.agg C0, .agg C1] w R_ from HH _ (fun _ C h => ⟨C, rfl, h⟩)
  intro R_ hR_
  have HR := hide hR_
  clear hR_
  have NP0 := hide hq0
  clear hq0
  have NP1 := hide hq1
  clear hq1
  have HA := hide ha
  clear ha
  have HO := hide ho
  clear ho
  unfold Hands
  go_enter Tryz.func73, Tryz.ntmps73
  go_upto_region 1 with fail
  refine cut_world (fun W => Below w.heap.size w W ∧ (w.heap.size < W.heap.size ∧ W.heap[w.heap.size]? = some (.cells C0 37 (0, 0))) ∧ (w.heap.size + 1 < W.heap.size ∧ W.heap[w.heap.size + 1]? = some (.cells C1 37 (0, 0))) ∧ (w.heap.size + 1 + 1 < W.heap.size ∧ W.heap[w.heap.size + 1 + 1]? = some (.cells zn 37 (0, 0)))) ⟨below3 _ _ _ _, ⟨by simp; omega, heap3_0 _ _ _ _⟩, ⟨by simp, heap_alloc_mid3 _ _ _ _⟩, by simp, heap_alloc_last3 _ _ _ _⟩ ?_
  rintro W1 ⟨BEL, R2, R3, R4⟩
  replace BEL := hide BEL
  have SZ := hide BEL.out.size
  replace R2 := hide R2
  replace R3 := hide R3
  replace R4 := hide R4
  have SW1 := (R4.out.1)
  refine wrt3 (tl := [isv (.pointer (some ⟨w.heap.size + 1, 0, none⟩)), nk v, nk (v * v), nk ((v * v) * v)]) (pre := [(3, 0)])
    (plan := [Pk.val [(3, 0)] 1, Pk.val [(3, 0)] 1, Pk.val [(8, 1), (9, 1)] 2, Pk.val [(3, 0)] 1, Pk.val [(10, 2), (11, 1)] 3, Pk.alc 37 16, Pk.sto 5 12 3])
    [] [] [] (by kernel_rfl) 51 (by kernel_rfl) rfl (by kernel_rfl) ⟨.inr (lv0 _ _ _), ⟨.inr (lull_n _ _ _), ⟨.inr (lull_n _ _ _), ⟨.inr (lull_n _ _ _), trivial⟩⟩⟩⟩
    snkAt0 snk0 ⟨rfl, trivial⟩
   (Oc3 (fun a w X_ h => g_ldn NP1.out (wq0 rfl) rfl h.1 (X_.at_ R3.out.1 out0 R3.out.2))
   (Oc3 (fun a w X_ h => g_ldn NP1.out (wq0 rfl) rfl h.1 (X_.at_ R3.out.1 out0 R3.out.2))
   (Oc3 (fun a w X_ h => g_call2 (wq0 rfl) (by kernel_rfl) rfl (n_mul h.1 h.2.1))
   (Oc3 (fun a w X_ h => g_ldn NP1.out (wq0 rfl) rfl h.1 (X_.at_ R3.out.1 out0 R3.out.2))
   (Oc3 (fun a w X_ h => g_call2 (wq0 rfl) (by kernel_rfl) rfl (n_mul h.1 h.2.1))
   (Oc3 (alc_of zn rfl rfl rfl newN)
   (Oc3 (⟨rfl, _, _, _, rfl, rfl, rfl, by kernel_rfl, row_n _⟩)
      OkL3.nil))))))) ?_
  rintro W2 X2 v8 - v9 - v10 - v11 - v12 - g6 c6 ⟨L6, Z6, -⟩ r6 H6
  refine FinL3.fill ?_
  refine Fd3 ?_
  simp only [Act.put, List.setIfInBounds_toArray, List.set_cons_zero, List.set_cons_succ]
  have N6 := hide (nk_of H6)
  have R6 := hide (And.intro Z6 r6)
  clear r6
  replace R2 := hide (X2.row out0 R2.out)
  replace R3 := hide (X2.row out0 R3.out)
  replace R4 := hide (X2.row out0 R4.out)
  replace BEL := hide (X2.on BEL.out SZ.out none_le)
  replace SZ := hide BEL.out.size
  have SW2 := X2.size
  clear X2
  clear H6
  go_upto_region 2 with fail
  refine wrt3 (tl := [isv (.pointer (some ⟨w.heap.size, 0, none⟩)), nk u, isv (.pointer (some ⟨g6, 0, none⟩)), nk ((v * v) * v), nk (u * ((v * v) * v)), nk (((v * v) * v) * ((v * v) * v)), isv (.pointer (some ⟨w.heap.size + 1, 0, none⟩)), nk v, nk ((((v * v) * v) * ((v * v) * v)) * v), nk (u * ((((v * v) * v) * ((v * v) * v)) * v)), nk (kpw (u * ((((v * v) * v) * ((v * v) * v)) * v)) ei), nk ((u * ((v * v) * v)) * (kpw (u * ((((v * v) * v) * ((v * v) * v)) * v)) ei))]) (pre := [(2, 0), (3, 6), (6, 2)])
    (plan := [Pk.val [(2, 0)] 1, Pk.val [(6, 2)] 3, Pk.val [(13, 1), (14, 3)] 4, Pk.val [(2, 0)] 1, Pk.val [(6, 2)] 3, Pk.val [(6, 2)] 3, Pk.val [(17, 3), (18, 3)] 5, Pk.val [(3, 6)] 7, Pk.val [(19, 5), (20, 7)] 8, Pk.val [(16, 1), (21, 8)] 9, Pk.val [(22, 9)] 10, Pk.val [(15, 4), (23, 10)] 11, Pk.alc 37 16, Pk.sto 12 24 11])
    [] [] [] (by kernel_rfl) 51 (by kernel_rfl) rfl (by kernel_rfl) ⟨.inr (lv0 _ _ _), ⟨.inr (lull_n _ _ _), ⟨.inr (lv0 _ _ _), ⟨.inr (lull_n _ _ _), ⟨.inr (lull_n _ _ _), ⟨.inr (lull_n _ _ _), ⟨.inr (lv0 _ _ _), ⟨.inr (lull_n _ _ _), ⟨.inr (lull_n _ _ _), ⟨.inr (lull_n _ _ _), ⟨.inr (lull_n _ _ _), ⟨.inr (lull_n _ _ _), trivial⟩⟩⟩⟩⟩⟩⟩⟩⟩⟩⟩⟩
    snkAt0 snk0 ⟨rfl, ⟨rfl, ⟨rfl, trivial⟩⟩⟩
   (Oc3 (fun a w X_ h => g_ldn NP0.out (wq0 rfl) rfl h.1 (X_.at_ R2.out.1 out0 R2.out.2))
   (Oc3 (fun a w X_ h => g_ldn N6.out (wq0 rfl) rfl h.1 (X_.at_ R6.out.1 out0 R6.out.2))
   (Oc3 (fun a w X_ h => g_call2 (wq0 rfl) (by kernel_rfl) rfl (n_mul h.1 h.2.1))
   (Oc3 (fun a w X_ h => g_ldn NP0.out (wq0 rfl) rfl h.1 (X_.at_ R2.out.1 out0 R2.out.2))
   (Oc3 (fun a w X_ h => g_ldn N6.out (wq0 rfl) rfl h.1 (X_.at_ R6.out.1 out0 R6.out.2))
   (Oc3 (fun a w X_ h => g_ldn N6.out (wq0 rfl) rfl h.1 (X_.at_ R6.out.1 out0 R6.out.2))
   (Oc3 (fun a w X_ h => g_call2 (wq0 rfl) (by kernel_rfl) rfl (n_mul h.1 h.2.1))
   (Oc3 (fun a w X_ h => g_ldn NP1.out (wq0 rfl) rfl h.1 (X_.at_ R3.out.1 out0 R3.out.2))
   (Oc3 (fun a w X_ h => g_call2 (wq0 rfl) (by kernel_rfl) rfl (n_mul h.1 h.2.1))
   (Oc3 (fun a w X_ h => g_call2 (wq0 rfl) (by kernel_rfl) rfl (n_mul h.1 h.2.1))
   (Oc3 (fun a w X_ h => g_call1 (wq0 rfl) (by kernel_rfl) rfl (n_half h.1))
   (Oc3 (fun a w X_ h => g_call2 (wq0 rfl) (by kernel_rfl) rfl (n_mul h.1 h.2.1))
   (Oc3 (alc_of zn rfl rfl rfl newN)
   (Oc3 (⟨rfl, _, _, _, rfl, rfl, rfl, by kernel_rfl, row_n _⟩)
      OkL3.nil)))))))))))))) ?_
  rintro W3 X3 v13 - v14 - v15 - v16 - v17 - v18 - v19 - v20 - v21 - v22 - v23 - v24 - g7 c7 ⟨L7, Z7, -⟩ r7 H7
  refine FinL3.fill ?_
  refine Fd3 ?_
  simp only [Act.put, List.setIfInBounds_toArray, List.set_cons_zero, List.set_cons_succ]
  have N7 := hide (nk_of H7)
  have R7 := hide (And.intro Z7 r7)
  clear r7
  replace R2 := hide (X3.row out0 R2.out)
  replace R3 := hide (X3.row out0 R3.out)
  replace R4 := hide (X3.row out0 R4.out)
  replace R6 := hide (X3.row out0 R6.out)
  replace BEL := hide (X3.on BEL.out SZ.out none_le)
  replace SZ := hide BEL.out.size
  have SW3 := X3.size
  clear X3
  clear H7
  go_upto_region 3 with fail
  refine wrt3 (tl := [isv (.pointer (some ⟨w.heap.size + 1, 0, none⟩)), nk v, isv (.pointer (some ⟨g7, 0, none⟩)), nk ((u * ((v * v) * v)) * (kpw (u * ((((v * v) * v) * ((v * v) * v)) * v)) ei)), nk (((u * ((v * v) * v)) * (kpw (u * ((((v * v) * v) * ((v * v) * v)) * v)) ei)) * ((u * ((v * v) * v)) * (kpw (u * ((((v * v) * v) * ((v * v) * v)) * v)) ei))), nk (v * (((u * ((v * v) * v)) * (kpw (u * ((((v * v) * v) * ((v * v) * v)) * v)) ei)) * ((u * ((v * v) * v)) * (kpw (u * ((((v * v) * v) * ((v * v) * v)) * v)) ei)))), isv (.pointer (some ⟨w.heap.size, 0, none⟩)), nk u, isv (.bool true), isv (.bool false)]) (pre := [(2, 6), (3, 0), (7, 2)])
    (plan := [Pk.val [(3, 0)] 1, Pk.val [(7, 2)] 3, Pk.val [(7, 2)] 3, Pk.val [(26, 3), (27, 3)] 4, Pk.val [(25, 1), (28, 4)] 5, Pk.val [(2, 6)] 7, Pk.val [(29, 5), (30, 7)] 8, Pk.val [(31, 8)] 9])
    [] [] [] (by kernel_rfl) 51 (by kernel_rfl) rfl (by kernel_rfl) ⟨.inr (lv0 _ _ _), ⟨.inr (lull_n _ _ _), ⟨.inr (lv0 _ _ _), ⟨.inr (lull_n _ _ _), ⟨.inr (lull_n _ _ _), ⟨.inr (lull_n _ _ _), ⟨.inr (lv0 _ _ _), ⟨.inr (lull_n _ _ _), ⟨.inr (lv0 _ _ _), ⟨.inr (lv0 _ _ _), trivial⟩⟩⟩⟩⟩⟩⟩⟩⟩⟩
    snkAt0 snk0 ⟨rfl, ⟨rfl, ⟨rfl, trivial⟩⟩⟩
   (Oc3 (fun a w X_ h => g_ldn NP1.out (wq0 rfl) rfl h.1 (X_.at_ R3.out.1 out0 R3.out.2))
   (Oc3 (fun a w X_ h => g_ldn N7.out (wq0 rfl) rfl h.1 (X_.at_ R7.out.1 out0 R7.out.2))
   (Oc3 (fun a w X_ h => g_ldn N7.out (wq0 rfl) rfl h.1 (X_.at_ R7.out.1 out0 R7.out.2))
   (Oc3 (fun a w X_ h => g_call2 (wq0 rfl) (by kernel_rfl) rfl (n_mul h.1 h.2.1))
   (Oc3 (fun a w X_ h => g_call2 (wq0 rfl) (by kernel_rfl) rfl (n_mul h.1 h.2.1))
   (Oc3 (fun a w X_ h => g_ldn NP0.out (wq0 rfl) rfl h.1 (X_.at_ R2.out.1 out0 R2.out.2))
   (Oc3 (fun a w X_ h => g_call2 (wq0 rfl) (by kernel_rfl) rfl (n_same h.1 h.2.1 (iff_t HA.out)))
   (Oc3 (fun a w X_ h => g_not (wq0 rfl) rfl h.1 rfl)
      OkL3.nil)))))))) ?_
  rintro W4 X4 v25 - v26 - v27 - v28 - v29 - v30 - _ rfl _ rfl
  refine Fd3 ?_
  simp only [Act.put, List.setIfInBounds_toArray, List.set_cons_zero, List.set_cons_succ]
  replace R2 := hide (X4.row out0 R2.out)
  replace R3 := hide (X4.row out0 R3.out)
  replace R4 := hide (X4.row out0 R4.out)
  replace R6 := hide (X4.row out0 R6.out)
  replace R7 := hide (X4.row out0 R7.out)
  replace BEL := hide (X4.on BEL.out SZ.out none_le)
  replace SZ := hide BEL.out.size
  have SW4 := X4.size
  clear X4
  go_upto_region 5 with fail
  refine wrt3 (tl := [isv (.pointer (some ⟨w.heap.size + 1, 0, none⟩)), nk v, isv (.pointer (some ⟨g7, 0, none⟩)), nk ((u * ((v * v) * v)) * (kpw (u * ((((v * v) * v) * ((v * v) * v)) * v)) ei)), nk (((u * ((v * v) * v)) * (kpw (u * ((((v * v) * v) * ((v * v) * v)) * v)) ei)) * ((u * ((v * v) * v)) * (kpw (u * ((((v * v) * v) * ((v * v) * v)) * v)) ei))), nk (v * (((u * ((v * v) * v)) * (kpw (u * ((((v * v) * v) * ((v * v) * v)) * v)) ei)) * ((u * ((v * v) * v)) * (kpw (u * ((((v * v) * v) * ((v * v) * v)) * v)) ei)))), isv (.pointer (some ⟨w.heap.size, 0, none⟩)), nk u, isv (.bool true), isv (.bool false)]) (pre := [(2, 6), (3, 0), (7, 2)])
    (plan := [Pk.val [(3, 0)] 1, Pk.val [(7, 2)] 3, Pk.val [(7, 2)] 3, Pk.val [(37, 3), (38, 3)] 4, Pk.val [(36, 1), (39, 4)] 5, Pk.val [(2, 6)] 7, Pk.val [(40, 5), (41, 7)] 8, Pk.val [(42, 8)] 9])
    [] [] [] (by kernel_rfl) 51 (by kernel_rfl) rfl (by kernel_rfl) ⟨.inr (lv0 _ _ _), ⟨.inr (lull_n _ _ _), ⟨.inr (lv0 _ _ _), ⟨.inr (lull_n _ _ _), ⟨.inr (lull_n _ _ _), ⟨.inr (lull_n _ _ _), ⟨.inr (lv0 _ _ _), ⟨.inr (lull_n _ _ _), ⟨.inr (lv0 _ _ _), ⟨.inr (lv0 _ _ _), trivial⟩⟩⟩⟩⟩⟩⟩⟩⟩⟩
    snkAt0 snk0 ⟨rfl, ⟨rfl, ⟨rfl, trivial⟩⟩⟩
   (Oc3 (fun a w X_ h => g_ldn NP1.out (wq0 rfl) rfl h.1 (X_.at_ R3.out.1 out0 R3.out.2))
   (Oc3 (fun a w X_ h => g_ldn N7.out (wq0 rfl) rfl h.1 (X_.at_ R7.out.1 out0 R7.out.2))
   (Oc3 (fun a w X_ h => g_ldn N7.out (wq0 rfl) rfl h.1 (X_.at_ R7.out.1 out0 R7.out.2))
   (Oc3 (fun a w X_ h => g_call2 (wq0 rfl) (by kernel_rfl) rfl (n_mul h.1 h.2.1))
   (Oc3 (fun a w X_ h => g_call2 (wq0 rfl) (by kernel_rfl) rfl (n_mul h.1 h.2.1))
   (Oc3 (fun a w X_ h => g_ldn NP0.out (wq0 rfl) rfl h.1 (X_.at_ R2.out.1 out0 R2.out.2))
   (Oc3 (fun a w X_ h => g_call2 (wq0 rfl) (by kernel_rfl) rfl (n_same h.1 h.2.1 (iff_t HA.out)))
   (Oc3 (fun a w X_ h => g_not (wq0 rfl) rfl h.1 rfl)
      OkL3.nil)))))))) ?_
  rintro W5 X5 v36 - v37 - v38 - v39 - v40 - v41 - _ rfl _ rfl
  refine Fd3 ?_
  simp only [Act.put, List.setIfInBounds_toArray, List.set_cons_zero, List.set_cons_succ]
  replace R2 := hide (X5.row out0 R2.out)
  replace R3 := hide (X5.row out0 R3.out)
  replace R4 := hide (X5.row out0 R4.out)
  replace R6 := hide (X5.row out0 R6.out)
  replace R7 := hide (X5.row out0 R7.out)
  replace BEL := hide (X5.on BEL.out SZ.out none_le)
  replace SZ := hide BEL.out.size
  have SW5 := X5.size
  clear X5
  go_upto_region 7 with fail
  refine wrl3 (tl := [isv (.pointer (some ⟨g7, 0, none⟩)), nk ((u * ((v * v) * v)) * (kpw (u * ((((v * v) * v) * ((v * v) * v)) * v)) ei)), isv (.bool false)]) (pre := [(7, 0)])
    (plan := [Pk.val [(7, 0)] 1, Pk.val [(45, 1)] 2])
    [] [] [] 51 (by kernel_rfl) rfl (by kernel_rfl) ⟨.inr (lv0 _ _ _), ⟨.inr (lull_n _ _ _), ⟨.inr (lv0 _ _ _), trivial⟩⟩⟩
    snkAt0 snk0 ⟨rfl, trivial⟩
   (Oc3 (fun a w X_ h => g_ldn N7.out (wq0 rfl) rfl h.1 (X_.at_ R7.out.1 out0 R7.out.2))
   (Oc3 (fun a w X_ h => g_call1 (wq0 rfl) (by kernel_rfl) rfl (n_odd h.1 (iff_f HO.out)))
      OkL3.nil)) ?_
  rintro W6 X6 v45 - _ rfl
  refine Fd3 ?_
  simp only [Act.put, List.setIfInBounds_toArray, List.set_cons_zero, List.set_cons_succ]
  replace R2 := hide (X6.row out0 R2.out)
  replace R3 := hide (X6.row out0 R3.out)
  replace R4 := hide (X6.row out0 R4.out)
  replace R6 := hide (X6.row out0 R6.out)
  replace R7 := hide (X6.row out0 R7.out)
  replace BEL := hide (X6.on BEL.out SZ.out none_le)
  replace SZ := hide BEL.out.size
  have SW6 := X6.size
  clear X6
  go_upto_region 9 with fail
  refine wrl3 (tl := [isv (.pointer (some ⟨g7, 0, none⟩)), nk ((u * ((v * v) * v)) * (kpw (u * ((((v * v) * v) * ((v * v) * v)) * v)) ei)), isv (.bool true)]) (pre := [(7, 0)])
    (plan := [Pk.val [(7, 0)] 1, Pk.put 0 4 50 1, Pk.val [] 2])
    [] [(w.heap.size + 1 + 1, 37, 16)] [(0, 4)] 51 (by kernel_rfl) rfl (by kernel_rfl) ⟨.inr (lv0 _ _ _), ⟨.inr (lull_n _ _ _), ⟨.inr (lv0 _ _ _), trivial⟩⟩⟩
    (snkAt1 R4.out rfl rfl) (snk1 _) ⟨rfl, trivial⟩
   (Oc3 (fun a w X_ h => g_ldn N7.out (wq0 rfl) rfl h.1 (X_.at_ R7.out.1 (out1 (by omega)) R7.out.2))
   (Oc3 (⟨rfl, _, _, _, rfl, rfl, by kernel_rfl, row_n _⟩)
   (Oc3 (fun a w X_ h => g_move (wq0 rfl) (.inr rfl) rfl)
      OkL3.nil))) ?_
  rintro W7 X7 v50 - c4 r4 H4 _ rfl
  refine Fd3 ?_
  simp only [Act.put, List.setIfInBounds_toArray, List.set_cons_zero, List.set_cons_succ]
  have N4 := hide (nk_of H4)
  replace R4 := hide (And.intro (Nat.lt_of_lt_of_le R4.out.1 X7.size) r4)
  clear r4
  replace R2 := hide (X7.row (out1 (by omega)) R2.out)
  replace R3 := hide (X7.row (out1 (by omega)) R3.out)
  replace R6 := hide (X7.row (out1 (by omega)) R6.out)
  replace R7 := hide (X7.row (out1 (by omega)) R7.out)
  replace BEL := hide (X7.on BEL.out SZ.out (one_le (by omega)))
  replace SZ := hide BEL.out.size
  have SW7 := X7.size
  clear X7
  clear H4
  go_wp2
  exact bodyPost_ret_by (results_row_tmp rfl _ _ (w.heap.size + 1 + 1) 37 _ (0, 0) _ rfl R4.out.2 undN rfl (by rw [N4.out.size]; exact sizeN)) rfl ⟨_, rfl, BEL.out, HR.out _ _ N4.out⟩
set_option maxRecDepth 100000 in
set_option maxHeartbeats 4000000 in
theorem nroot_a1 {u v : Kp} {C0 C1 : Array Value} {w : World} (hq0 : RN C0 u) (hq1 : RN C1 v) (ha : v * ((rt0 u v) * (rt0 u v)) = u) (ho : ((rt0 u v)).val % 2 = 1) : Hands Tryz.prog 73 #[.agg C0, .agg C1] w (nkb (0 - rt0 u v) true) := by
  suffices HH : ∀ R_ : STy, (∀ W C, RN C (0 - rt0 u v) → R_.p W (.tuple #[.agg C, .bool true])) → Hands Tryz.prog 73 #[.agg C0, .agg C1] w R_ from HH _ (fun _ C h => ⟨C, rfl, h⟩)
  intro R_ hR_
  have HR := hide hR_
  clear hR_
  have NP0 := hide hq0
  clear hq0
  have NP1 := hide hq1
  clear hq1
  have HA := hide ha
  clear ha
  have HO := hide ho
  clear ho
  unfold Hands
  go_enter Tryz.func73, Tryz.ntmps73
  go_upto_region 1 with fail
  refine cut_world (fun W => Below w.heap.size w W ∧ (w.heap.size < W.heap.size ∧ W.heap[w.heap.size]? = some (.cells C0 37 (0, 0))) ∧ (w.heap.size + 1 < W.heap.size ∧ W.heap[w.heap.size + 1]? = some (.cells C1 37 (0, 0))) ∧ (w.heap.size + 1 + 1 < W.heap.size ∧ W.heap[w.heap.size + 1 + 1]? = some (.cells zn 37 (0, 0)))) ⟨below3 _ _ _ _, ⟨by simp; omega, heap3_0 _ _ _ _⟩, ⟨by simp, heap_alloc_mid3 _ _ _ _⟩, by simp, heap_alloc_last3 _ _ _ _⟩ ?_
  rintro W1 ⟨BEL, R2, R3, R4⟩
  replace BEL := hide BEL
  have SZ := hide BEL.out.size
  replace R2 := hide R2
  replace R3 := hide R3
  replace R4 := hide R4
  have SW1 := (R4.out.1)
  refine wrt3 (tl := [isv (.pointer (some ⟨w.heap.size + 1, 0, none⟩)), nk v, nk (v * v), nk ((v * v) * v)]) (pre := [(3, 0)])
    (plan := [Pk.val [(3, 0)] 1, Pk.val [(3, 0)] 1, Pk.val [(8, 1), (9, 1)] 2, Pk.val [(3, 0)] 1, Pk.val [(10, 2), (11, 1)] 3, Pk.alc 37 16, Pk.sto 5 12 3])
    [] [] [] (by kernel_rfl) 51 (by kernel_rfl) rfl (by kernel_rfl) ⟨.inr (lv0 _ _ _), ⟨.inr (lull_n _ _ _), ⟨.inr (lull_n _ _ _), ⟨.inr (lull_n _ _ _), trivial⟩⟩⟩⟩
    snkAt0 snk0 ⟨rfl, trivial⟩
   (Oc3 (fun a w X_ h => g_ldn NP1.out (wq0 rfl) rfl h.1 (X_.at_ R3.out.1 out0 R3.out.2))
   (Oc3 (fun a w X_ h => g_ldn NP1.out (wq0 rfl) rfl h.1 (X_.at_ R3.out.1 out0 R3.out.2))
   (Oc3 (fun a w X_ h => g_call2 (wq0 rfl) (by kernel_rfl) rfl (n_mul h.1 h.2.1))
   (Oc3 (fun a w X_ h => g_ldn NP1.out (wq0 rfl) rfl h.1 (X_.at_ R3.out.1 out0 R3.out.2))
   (Oc3 (fun a w X_ h => g_call2 (wq0 rfl) (by kernel_rfl) rfl (n_mul h.1 h.2.1))
   (Oc3 (alc_of zn rfl rfl rfl newN)
   (Oc3 (⟨rfl, _, _, _, rfl, rfl, rfl, by kernel_rfl, row_n _⟩)
      OkL3.nil))))))) ?_
  rintro W2 X2 v8 - v9 - v10 - v11 - v12 - g6 c6 ⟨L6, Z6, -⟩ r6 H6
  refine FinL3.fill ?_
  refine Fd3 ?_
  simp only [Act.put, List.setIfInBounds_toArray, List.set_cons_zero, List.set_cons_succ]
  have N6 := hide (nk_of H6)
  have R6 := hide (And.intro Z6 r6)
  clear r6
  replace R2 := hide (X2.row out0 R2.out)
  replace R3 := hide (X2.row out0 R3.out)
  replace R4 := hide (X2.row out0 R4.out)
  replace BEL := hide (X2.on BEL.out SZ.out none_le)
  replace SZ := hide BEL.out.size
  have SW2 := X2.size
  clear X2
  clear H6
  go_upto_region 2 with fail
  refine wrt3 (tl := [isv (.pointer (some ⟨w.heap.size, 0, none⟩)), nk u, isv (.pointer (some ⟨g6, 0, none⟩)), nk ((v * v) * v), nk (u * ((v * v) * v)), nk (((v * v) * v) * ((v * v) * v)), isv (.pointer (some ⟨w.heap.size + 1, 0, none⟩)), nk v, nk ((((v * v) * v) * ((v * v) * v)) * v), nk (u * ((((v * v) * v) * ((v * v) * v)) * v)), nk (kpw (u * ((((v * v) * v) * ((v * v) * v)) * v)) ei), nk ((u * ((v * v) * v)) * (kpw (u * ((((v * v) * v) * ((v * v) * v)) * v)) ei))]) (pre := [(2, 0), (3, 6), (6, 2)])
    (plan := [Pk.val [(2, 0)] 1, Pk.val [(6, 2)] 3, Pk.val [(13, 1), (14, 3)] 4, Pk.val [(2, 0)] 1, Pk.val [(6, 2)] 3, Pk.val [(6, 2)] 3, Pk.val [(17, 3), (18, 3)] 5, Pk.val [(3, 6)] 7, Pk.val [(19, 5), (20, 7)] 8, Pk.val [(16, 1), (21, 8)] 9, Pk.val [(22, 9)] 10, Pk.val [(15, 4), (23, 10)] 11, Pk.alc 37 16, Pk.sto 12 24 11])
    [] [] [] (by kernel_rfl) 51 (by kernel_rfl) rfl (by kernel_rfl) ⟨.inr (lv0 _ _ _), ⟨.inr (lull_n _ _ _), ⟨.inr (lv0 _ _ _), ⟨.inr (lull_n _ _ _), ⟨.inr (lull_n _ _ _), ⟨.inr (lull_n _ _ _), ⟨.inr (lv0 _ _ _), ⟨.inr (lull_n _ _ _), ⟨.inr (lull_n _ _ _), ⟨.inr (lull_n _ _ _), ⟨.inr (lull_n _ _ _), ⟨.inr (lull_n _ _ _), trivial⟩⟩⟩⟩⟩⟩⟩⟩⟩⟩⟩⟩
    snkAt0 snk0 ⟨rfl, ⟨rfl, ⟨rfl, trivial⟩⟩⟩
   (Oc3 (fun a w X_ h => g_ldn NP0.out (wq0 rfl) rfl h.1 (X_.at_ R2.out.1 out0 R2.out.2))
   (Oc3 (fun a w X_ h => g_ldn N6.out (wq0 rfl) rfl h.1 (X_.at_ R6.out.1 out0 R6.out.2))
   (Oc3 (fun a w X_ h => g_call2 (wq0 rfl) (by kernel_rfl) rfl (n_mul h.1 h.2.1))
   (Oc3 (fun a w X_ h => g_ldn NP0.out (wq0 rfl) rfl h.1 (X_.at_ R2.out.1 out0 R2.out.2))
   (Oc3 (fun a w X_ h => g_ldn N6.out (wq0 rfl) rfl h.1 (X_.at_ R6.out.1 out0 R6.out.2))
   (Oc3 (fun a w X_ h => g_ldn N6.out (wq0 rfl) rfl h.1 (X_.at_ R6.out.1 out0 R6.out.2))
   (Oc3 (fun a w X_ h => g_call2 (wq0 rfl) (by kernel_rfl) rfl (n_mul h.1 h.2.1))
   (Oc3 (fun a w X_ h => g_ldn NP1.out (wq0 rfl) rfl h.1 (X_.at_ R3.out.1 out0 R3.out.2))
   (Oc3 (fun a w X_ h => g_call2 (wq0 rfl) (by kernel_rfl) rfl (n_mul h.1 h.2.1))
   (Oc3 (fun a w X_ h => g_call2 (wq0 rfl) (by kernel_rfl) rfl (n_mul h.1 h.2.1))
   (Oc3 (fun a w X_ h => g_call1 (wq0 rfl) (by kernel_rfl) rfl (n_half h.1))
   (Oc3 (fun a w X_ h => g_call2 (wq0 rfl) (by kernel_rfl) rfl (n_mul h.1 h.2.1))
   (Oc3 (alc_of zn rfl rfl rfl newN)
   (Oc3 (⟨rfl, _, _, _, rfl, rfl, rfl, by kernel_rfl, row_n _⟩)
      OkL3.nil)))))))))))))) ?_
  rintro W3 X3 v13 - v14 - v15 - v16 - v17 - v18 - v19 - v20 - v21 - v22 - v23 - v24 - g7 c7 ⟨L7, Z7, -⟩ r7 H7
  refine FinL3.fill ?_
  refine Fd3 ?_
  simp only [Act.put, List.setIfInBounds_toArray, List.set_cons_zero, List.set_cons_succ]
  have N7 := hide (nk_of H7)
  have R7 := hide (And.intro Z7 r7)
  clear r7
  replace R2 := hide (X3.row out0 R2.out)
  replace R3 := hide (X3.row out0 R3.out)
  replace R4 := hide (X3.row out0 R4.out)
  replace R6 := hide (X3.row out0 R6.out)
  replace BEL := hide (X3.on BEL.out SZ.out none_le)
  replace SZ := hide BEL.out.size
  have SW3 := X3.size
  clear X3
  clear H7
  go_upto_region 3 with fail
  refine wrt3 (tl := [isv (.pointer (some ⟨w.heap.size + 1, 0, none⟩)), nk v, isv (.pointer (some ⟨g7, 0, none⟩)), nk ((u * ((v * v) * v)) * (kpw (u * ((((v * v) * v) * ((v * v) * v)) * v)) ei)), nk (((u * ((v * v) * v)) * (kpw (u * ((((v * v) * v) * ((v * v) * v)) * v)) ei)) * ((u * ((v * v) * v)) * (kpw (u * ((((v * v) * v) * ((v * v) * v)) * v)) ei))), nk (v * (((u * ((v * v) * v)) * (kpw (u * ((((v * v) * v) * ((v * v) * v)) * v)) ei)) * ((u * ((v * v) * v)) * (kpw (u * ((((v * v) * v) * ((v * v) * v)) * v)) ei)))), isv (.pointer (some ⟨w.heap.size, 0, none⟩)), nk u, isv (.bool true), isv (.bool false)]) (pre := [(2, 6), (3, 0), (7, 2)])
    (plan := [Pk.val [(3, 0)] 1, Pk.val [(7, 2)] 3, Pk.val [(7, 2)] 3, Pk.val [(26, 3), (27, 3)] 4, Pk.val [(25, 1), (28, 4)] 5, Pk.val [(2, 6)] 7, Pk.val [(29, 5), (30, 7)] 8, Pk.val [(31, 8)] 9])
    [] [] [] (by kernel_rfl) 51 (by kernel_rfl) rfl (by kernel_rfl) ⟨.inr (lv0 _ _ _), ⟨.inr (lull_n _ _ _), ⟨.inr (lv0 _ _ _), ⟨.inr (lull_n _ _ _), ⟨.inr (lull_n _ _ _), ⟨.inr (lull_n _ _ _), ⟨.inr (lv0 _ _ _), ⟨.inr (lull_n _ _ _), ⟨.inr (lv0 _ _ _), ⟨.inr (lv0 _ _ _), trivial⟩⟩⟩⟩⟩⟩⟩⟩⟩⟩
    snkAt0 snk0 ⟨rfl, ⟨rfl, ⟨rfl, trivial⟩⟩⟩
   (Oc3 (fun a w X_ h => g_ldn NP1.out (wq0 rfl) rfl h.1 (X_.at_ R3.out.1 out0 R3.out.2))
   (Oc3 (fun a w X_ h => g_ldn N7.out (wq0 rfl) rfl h.1 (X_.at_ R7.out.1 out0 R7.out.2))
   (Oc3 (fun a w X_ h => g_ldn N7.out (wq0 rfl) rfl h.1 (X_.at_ R7.out.1 out0 R7.out.2))
   (Oc3 (fun a w X_ h => g_call2 (wq0 rfl) (by kernel_rfl) rfl (n_mul h.1 h.2.1))
   (Oc3 (fun a w X_ h => g_call2 (wq0 rfl) (by kernel_rfl) rfl (n_mul h.1 h.2.1))
   (Oc3 (fun a w X_ h => g_ldn NP0.out (wq0 rfl) rfl h.1 (X_.at_ R2.out.1 out0 R2.out.2))
   (Oc3 (fun a w X_ h => g_call2 (wq0 rfl) (by kernel_rfl) rfl (n_same h.1 h.2.1 (iff_t HA.out)))
   (Oc3 (fun a w X_ h => g_not (wq0 rfl) rfl h.1 rfl)
      OkL3.nil)))))))) ?_
  rintro W4 X4 v25 - v26 - v27 - v28 - v29 - v30 - _ rfl _ rfl
  refine Fd3 ?_
  simp only [Act.put, List.setIfInBounds_toArray, List.set_cons_zero, List.set_cons_succ]
  replace R2 := hide (X4.row out0 R2.out)
  replace R3 := hide (X4.row out0 R3.out)
  replace R4 := hide (X4.row out0 R4.out)
  replace R6 := hide (X4.row out0 R6.out)
  replace R7 := hide (X4.row out0 R7.out)
  replace BEL := hide (X4.on BEL.out SZ.out none_le)
  replace SZ := hide BEL.out.size
  have SW4 := X4.size
  clear X4
  go_upto_region 5 with fail
  refine wrt3 (tl := [isv (.pointer (some ⟨w.heap.size + 1, 0, none⟩)), nk v, isv (.pointer (some ⟨g7, 0, none⟩)), nk ((u * ((v * v) * v)) * (kpw (u * ((((v * v) * v) * ((v * v) * v)) * v)) ei)), nk (((u * ((v * v) * v)) * (kpw (u * ((((v * v) * v) * ((v * v) * v)) * v)) ei)) * ((u * ((v * v) * v)) * (kpw (u * ((((v * v) * v) * ((v * v) * v)) * v)) ei))), nk (v * (((u * ((v * v) * v)) * (kpw (u * ((((v * v) * v) * ((v * v) * v)) * v)) ei)) * ((u * ((v * v) * v)) * (kpw (u * ((((v * v) * v) * ((v * v) * v)) * v)) ei)))), isv (.pointer (some ⟨w.heap.size, 0, none⟩)), nk u, isv (.bool true), isv (.bool false)]) (pre := [(2, 6), (3, 0), (7, 2)])
    (plan := [Pk.val [(3, 0)] 1, Pk.val [(7, 2)] 3, Pk.val [(7, 2)] 3, Pk.val [(37, 3), (38, 3)] 4, Pk.val [(36, 1), (39, 4)] 5, Pk.val [(2, 6)] 7, Pk.val [(40, 5), (41, 7)] 8, Pk.val [(42, 8)] 9])
    [] [] [] (by kernel_rfl) 51 (by kernel_rfl) rfl (by kernel_rfl) ⟨.inr (lv0 _ _ _), ⟨.inr (lull_n _ _ _), ⟨.inr (lv0 _ _ _), ⟨.inr (lull_n _ _ _), ⟨.inr (lull_n _ _ _), ⟨.inr (lull_n _ _ _), ⟨.inr (lv0 _ _ _), ⟨.inr (lull_n _ _ _), ⟨.inr (lv0 _ _ _), ⟨.inr (lv0 _ _ _), trivial⟩⟩⟩⟩⟩⟩⟩⟩⟩⟩
    snkAt0 snk0 ⟨rfl, ⟨rfl, ⟨rfl, trivial⟩⟩⟩
   (Oc3 (fun a w X_ h => g_ldn NP1.out (wq0 rfl) rfl h.1 (X_.at_ R3.out.1 out0 R3.out.2))
   (Oc3 (fun a w X_ h => g_ldn N7.out (wq0 rfl) rfl h.1 (X_.at_ R7.out.1 out0 R7.out.2))
   (Oc3 (fun a w X_ h => g_ldn N7.out (wq0 rfl) rfl h.1 (X_.at_ R7.out.1 out0 R7.out.2))
   (Oc3 (fun a w X_ h => g_call2 (wq0 rfl) (by kernel_rfl) rfl (n_mul h.1 h.2.1))
   (Oc3 (fun a w X_ h => g_call2 (wq0 rfl) (by kernel_rfl) rfl (n_mul h.1 h.2.1))
   (Oc3 (fun a w X_ h => g_ldn NP0.out (wq0 rfl) rfl h.1 (X_.at_ R2.out.1 out0 R2.out.2))
   (Oc3 (fun a w X_ h => g_call2 (wq0 rfl) (by kernel_rfl) rfl (n_same h.1 h.2.1 (iff_t HA.out)))
   (Oc3 (fun a w X_ h => g_not (wq0 rfl) rfl h.1 rfl)
      OkL3.nil)))))))) ?_
  rintro W5 X5 v36 - v37 - v38 - v39 - v40 - v41 - _ rfl _ rfl
  refine Fd3 ?_
  simp only [Act.put, List.setIfInBounds_toArray, List.set_cons_zero, List.set_cons_succ]
  replace R2 := hide (X5.row out0 R2.out)
  replace R3 := hide (X5.row out0 R3.out)
  replace R4 := hide (X5.row out0 R4.out)
  replace R6 := hide (X5.row out0 R6.out)
  replace R7 := hide (X5.row out0 R7.out)
  replace BEL := hide (X5.on BEL.out SZ.out none_le)
  replace SZ := hide BEL.out.size
  have SW5 := X5.size
  clear X5
  go_upto_region 7 with fail
  refine wrl3 (tl := [isv (.pointer (some ⟨g7, 0, none⟩)), nk ((u * ((v * v) * v)) * (kpw (u * ((((v * v) * v) * ((v * v) * v)) * v)) ei)), isv (.bool true)]) (pre := [(7, 0)])
    (plan := [Pk.val [(7, 0)] 1, Pk.val [(45, 1)] 2])
    [] [] [] 51 (by kernel_rfl) rfl (by kernel_rfl) ⟨.inr (lv0 _ _ _), ⟨.inr (lull_n _ _ _), ⟨.inr (lv0 _ _ _), trivial⟩⟩⟩
    snkAt0 snk0 ⟨rfl, trivial⟩
   (Oc3 (fun a w X_ h => g_ldn N7.out (wq0 rfl) rfl h.1 (X_.at_ R7.out.1 out0 R7.out.2))
   (Oc3 (fun a w X_ h => g_call1 (wq0 rfl) (by kernel_rfl) rfl (n_odd h.1 (iff_t HO.out)))
      OkL3.nil)) ?_
  rintro W6 X6 v45 - _ rfl
  refine Fd3 ?_
  simp only [Act.put, List.setIfInBounds_toArray, List.set_cons_zero, List.set_cons_succ]
  replace R2 := hide (X6.row out0 R2.out)
  replace R3 := hide (X6.row out0 R3.out)
  replace R4 := hide (X6.row out0 R4.out)
  replace R6 := hide (X6.row out0 R6.out)
  replace R7 := hide (X6.row out0 R7.out)
  replace BEL := hide (X6.on BEL.out SZ.out none_le)
  replace SZ := hide BEL.out.size
  have SW6 := X6.size
  clear X6
  go_upto_region 8 with fail
  refine wrl3 (tl := [nk (0 : Kp), nk ((u * ((v * v) * v)) * (kpw (u * ((((v * v) * v) * ((v * v) * v)) * v)) ei)), nk ((0 : Kp) - ((u * ((v * v) * v)) * (kpw (u * ((((v * v) * v) * ((v * v) * v)) * v)) ei)))]) (pre := [])
    (plan := [Pk.val [] 0, Pk.ld 0 7 1, Pk.val [(47, 0), (48, 1)] 2, Pk.put 0 7 49 2])
    [] [(g7, 37, 16)] [(0, 7)] 51 (by kernel_rfl) rfl (by kernel_rfl) ⟨.inr (lull_n _ _ _), ⟨.inr (lull_n _ _ _), ⟨.inr (lull_n _ _ _), trivial⟩⟩⟩
    (snkAt1 R7.out (N7.out.size) rfl) (snk1 _) trivial
   (Oc3 (fun a w X_ h => g_nz (wq0 rfl) rfl)
   (Oc3 (fun a w X_ h hr => g_ldn N7.out (wq0 rfl) rfl h (hr.trans R7.out.2))
   (Oc3 (fun a w X_ h => g_call2 (wq0 rfl) (by kernel_rfl) rfl (n_sub h.1 h.2.1))
   (Oc3 (⟨rfl, _, _, _, rfl, rfl, by kernel_rfl, row_n _⟩)
      OkL3.nil)))) ?_
  rintro W7 X7 v47 - v48 - v49 - c7 r7 H7
  refine Fd3 ?_
  simp only [Act.put, List.setIfInBounds_toArray, List.set_cons_zero, List.set_cons_succ]
  replace N7 := hide (nk_of H7)
  replace R7 := hide (And.intro (Nat.lt_of_lt_of_le R7.out.1 X7.size) r7)
  clear r7
  replace R2 := hide (X7.row (out1 (by omega)) R2.out)
  replace R3 := hide (X7.row (out1 (by omega)) R3.out)
  replace R4 := hide (X7.row (out1 (by omega)) R4.out)
  replace R6 := hide (X7.row (out1 (by omega)) R6.out)
  replace BEL := hide (X7.on BEL.out SZ.out (one_le (by omega)))
  replace SZ := hide BEL.out.size
  have SW7 := X7.size
  clear X7
  clear H7
  go_upto_region 9 with fail
  refine wrl3 (tl := [isv (.pointer (some ⟨g7, 0, none⟩)), nk ((0 : Kp) - ((u * ((v * v) * v)) * (kpw (u * ((((v * v) * v) * ((v * v) * v)) * v)) ei))), isv (.bool true)]) (pre := [(7, 0)])
    (plan := [Pk.val [(7, 0)] 1, Pk.put 0 4 50 1, Pk.val [] 2])
    [] [(w.heap.size + 1 + 1, 37, 16)] [(0, 4)] 51 (by kernel_rfl) rfl (by kernel_rfl) ⟨.inr (lv0 _ _ _), ⟨.inr (lull_n _ _ _), ⟨.inr (lv0 _ _ _), trivial⟩⟩⟩
    (snkAt1 R4.out rfl rfl) (snk1 _) ⟨rfl, trivial⟩
   (Oc3 (fun a w X_ h => g_ldn N7.out (wq0 rfl) rfl h.1 (X_.at_ R7.out.1 (out1 (by omega)) R7.out.2))
   (Oc3 (⟨rfl, _, _, _, rfl, rfl, by kernel_rfl, row_n _⟩)
   (Oc3 (fun a w X_ h => g_move (wq0 rfl) (.inr rfl) rfl)
      OkL3.nil))) ?_
  rintro W8 X8 v50 - c4 r4 H4 _ rfl
  refine Fd3 ?_
  simp only [Act.put, List.setIfInBounds_toArray, List.set_cons_zero, List.set_cons_succ]
  have N4 := hide (nk_of H4)
  replace R4 := hide (And.intro (Nat.lt_of_lt_of_le R4.out.1 X8.size) r4)
  clear r4
  replace R2 := hide (X8.row (out1 (by omega)) R2.out)
  replace R3 := hide (X8.row (out1 (by omega)) R3.out)
  replace R6 := hide (X8.row (out1 (by omega)) R6.out)
  replace R7 := hide (X8.row (out1 (by omega)) R7.out)
  replace BEL := hide (X8.on BEL.out SZ.out (one_le (by omega)))
  replace SZ := hide BEL.out.size
  have SW8 := X8.size
  clear X8
  clear H4
  go_wp2
  exact bodyPost_ret_by (results_row_tmp rfl _ _ (w.heap.size + 1 + 1) 37 _ (0, 0) _ rfl R4.out.2 undN rfl (by rw [N4.out.size]; exact sizeN)) rfl ⟨_, rfl, BEL.out, HR.out _ _ N4.out⟩
set_option maxRecDepth 100000 in
set_option maxHeartbeats 4000000 in
theorem nroot_b0 {u v : Kp} {C0 C1 : Array Value} {w : World} (hq0 : RN C0 u) (hq1 : RN C1 v) (ha : ¬ v * ((rt0 u v) * (rt0 u v)) = u) (hb : v * (((rt0 u v) * rm) * ((rt0 u v) * rm)) = u) (ho : ¬ ((rt0 u v) * rm).val % 2 = 1) : Hands Tryz.prog 73 #[.agg C0, .agg C1] w (nkb (rt0 u v * rm) true) := by
  suffices HH : ∀ R_ : STy, (∀ W C, RN C (rt0 u v * rm) → R_.p W (.tuple #[.agg C, .bool true])) → Hands Tryz.prog 73 #[.agg C0, .agg C1] w R_ from HH _ (fun _ C h => ⟨C, rfl, h⟩)
  intro R_ hR_
  have HR := hide hR_
  clear hR_
  have NP0 := hide hq0
  clear hq0
  have NP1 := hide hq1
  clear hq1
  have HA := hide ha
  clear ha
  have HB := hide hb
  clear hb
  have HO := hide ho
  clear ho
  unfold Hands
  go_enter Tryz.func73, Tryz.ntmps73
  go_upto_region 1 with fail
  refine cut_world (fun W => Below w.heap.size w W ∧ (w.heap.size < W.heap.size ∧ W.heap[w.heap.size]? = some (.cells C0 37 (0, 0))) ∧ (w.heap.size + 1 < W.heap.size ∧ W.heap[w.heap.size + 1]? = some (.cells C1 37 (0, 0))) ∧ (w.heap.size + 1 + 1 < W.heap.size ∧ W.heap[w.heap.size + 1 + 1]? = some (.cells zn 37 (0, 0)))) ⟨below3 _ _ _ _, ⟨by simp; omega, heap3_0 _ _ _ _⟩, ⟨by simp, heap_alloc_mid3 _ _ _ _⟩, by simp, heap_alloc_last3 _ _ _ _⟩ ?_
  rintro W1 ⟨BEL, R2, R3, R4⟩
  replace BEL := hide BEL
  have SZ := hide BEL.out.size
  replace R2 := hide R2
  replace R3 := hide R3
  replace R4 := hide R4
  have SW1 := (R4.out.1)
  refine wrt3 (tl := [isv (.pointer (some ⟨w.heap.size + 1, 0, none⟩)), nk v, nk (v * v), nk ((v * v) * v)]) (pre := [(3, 0)])
    (plan := [Pk.val [(3, 0)] 1, Pk.val [(3, 0)] 1, Pk.val [(8, 1), (9, 1)] 2, Pk.val [(3, 0)] 1, Pk.val [(10, 2), (11, 1)] 3, Pk.alc 37 16, Pk.sto 5 12 3])
    [] [] [] (by kernel_rfl) 51 (by kernel_rfl) rfl (by kernel_rfl) ⟨.inr (lv0 _ _ _), ⟨.inr (lull_n _ _ _), ⟨.inr (lull_n _ _ _), ⟨.inr (lull_n _ _ _), trivial⟩⟩⟩⟩
    snkAt0 snk0 ⟨rfl, trivial⟩
   (Oc3 (fun a w X_ h => g_ldn NP1.out (wq0 rfl) rfl h.1 (X_.at_ R3.out.1 out0 R3.out.2))
   (Oc3 (fun a w X_ h => g_ldn NP1.out (wq0 rfl) rfl h.1 (X_.at_ R3.out.1 out0 R3.out.2))
   (Oc3 (fun a w X_ h => g_call2 (wq0 rfl) (by kernel_rfl) rfl (n_mul h.1 h.2.1))
   (Oc3 (fun a w X_ h => g_ldn NP1.out (wq0 rfl) rfl h.1 (X_.at_ R3.out.1 out0 R3.out.2))
   (Oc3 (fun a w X_ h => g_call2 (wq0 rfl) (by kernel_rfl) rfl (n_mul h.1 h.2.1))
   (Oc3 (alc_of zn rfl rfl rfl newN)
   (Oc3 (⟨rfl, _, _, _, rfl, rfl, rfl, by kernel_rfl, row_n _⟩)
      OkL3.nil))))))) ?_
  rintro W2 X2 v8 - v9 - v10 - v11 - v12 - g6 c6 ⟨L6, Z6, -⟩ r6 H6
  refine FinL3.fill ?_
  refine Fd3 ?_
  simp only [Act.put, List.setIfInBounds_toArray, List.set_cons_zero, List.set_cons_succ]
  have N6 := hide (nk_of H6)
  have R6 := hide (And.intro Z6 r6)
  clear r6
  replace R2 := hide (X2.row out0 R2.out)
  replace R3 := hide (X2.row out0 R3.out)
  replace R4 := hide (X2.row out0 R4.out)
  replace BEL := hide (X2.on BEL.out SZ.out none_le)
  replace SZ := hide BEL.out.size
  have SW2 := X2.size
  clear X2
  clear H6
  go_upto_region 2 with fail
  refine wrt3 (tl := [isv (.pointer (some ⟨w.heap.size, 0, none⟩)), nk u, isv (.pointer (some ⟨g6, 0, none⟩)), nk ((v * v) * v), nk (u * ((v * v) * v)), nk (((v * v) * v) * ((v * v) * v)), isv (.pointer (some ⟨w.heap.size + 1, 0, none⟩)), nk v, nk ((((v * v) * v) * ((v * v) * v)) * v), nk (u * ((((v * v) * v) * ((v * v) * v)) * v)), nk (kpw (u * ((((v * v) * v) * ((v * v) * v)) * v)) ei), nk ((u * ((v * v) * v)) * (kpw (u * ((((v * v) * v) * ((v * v) * v)) * v)) ei))]) (pre := [(2, 0), (3, 6), (6, 2)])
    (plan := [Pk.val [(2, 0)] 1, Pk.val [(6, 2)] 3, Pk.val [(13, 1), (14, 3)] 4, Pk.val [(2, 0)] 1, Pk.val [(6, 2)] 3, Pk.val [(6, 2)] 3, Pk.val [(17, 3), (18, 3)] 5, Pk.val [(3, 6)] 7, Pk.val [(19, 5), (20, 7)] 8, Pk.val [(16, 1), (21, 8)] 9, Pk.val [(22, 9)] 10, Pk.val [(15, 4), (23, 10)] 11, Pk.alc 37 16, Pk.sto 12 24 11])
    [] [] [] (by kernel_rfl) 51 (by kernel_rfl) rfl (by kernel_rfl) ⟨.inr (lv0 _ _ _), ⟨.inr (lull_n _ _ _), ⟨.inr (lv0 _ _ _), ⟨.inr (lull_n _ _ _), ⟨.inr (lull_n _ _ _), ⟨.inr (lull_n _ _ _), ⟨.inr (lv0 _ _ _), ⟨.inr (lull_n _ _ _), ⟨.inr (lull_n _ _ _), ⟨.inr (lull_n _ _ _), ⟨.inr (lull_n _ _ _), ⟨.inr (lull_n _ _ _), trivial⟩⟩⟩⟩⟩⟩⟩⟩⟩⟩⟩⟩
    snkAt0 snk0 ⟨rfl, ⟨rfl, ⟨rfl, trivial⟩⟩⟩
   (Oc3 (fun a w X_ h => g_ldn NP0.out (wq0 rfl) rfl h.1 (X_.at_ R2.out.1 out0 R2.out.2))
   (Oc3 (fun a w X_ h => g_ldn N6.out (wq0 rfl) rfl h.1 (X_.at_ R6.out.1 out0 R6.out.2))
   (Oc3 (fun a w X_ h => g_call2 (wq0 rfl) (by kernel_rfl) rfl (n_mul h.1 h.2.1))
   (Oc3 (fun a w X_ h => g_ldn NP0.out (wq0 rfl) rfl h.1 (X_.at_ R2.out.1 out0 R2.out.2))
   (Oc3 (fun a w X_ h => g_ldn N6.out (wq0 rfl) rfl h.1 (X_.at_ R6.out.1 out0 R6.out.2))
   (Oc3 (fun a w X_ h => g_ldn N6.out (wq0 rfl) rfl h.1 (X_.at_ R6.out.1 out0 R6.out.2))
   (Oc3 (fun a w X_ h => g_call2 (wq0 rfl) (by kernel_rfl) rfl (n_mul h.1 h.2.1))
   (Oc3 (fun a w X_ h => g_ldn NP1.out (wq0 rfl) rfl h.1 (X_.at_ R3.out.1 out0 R3.out.2))
   (Oc3 (fun a w X_ h => g_call2 (wq0 rfl) (by kernel_rfl) rfl (n_mul h.1 h.2.1))
   (Oc3 (fun a w X_ h => g_call2 (wq0 rfl) (by kernel_rfl) rfl (n_mul h.1 h.2.1))
   (Oc3 (fun a w X_ h => g_call1 (wq0 rfl) (by kernel_rfl) rfl (n_half h.1))
   (Oc3 (fun a w X_ h => g_call2 (wq0 rfl) (by kernel_rfl) rfl (n_mul h.1 h.2.1))
   (Oc3 (alc_of zn rfl rfl rfl newN)
   (Oc3 (⟨rfl, _, _, _, rfl, rfl, rfl, by kernel_rfl, row_n _⟩)
      OkL3.nil)))))))))))))) ?_
  rintro W3 X3 v13 - v14 - v15 - v16 - v17 - v18 - v19 - v20 - v21 - v22 - v23 - v24 - g7 c7 ⟨L7, Z7, -⟩ r7 H7
  refine FinL3.fill ?_
  refine Fd3 ?_
  simp only [Act.put, List.setIfInBounds_toArray, List.set_cons_zero, List.set_cons_succ]
  have N7 := hide (nk_of H7)
  have R7 := hide (And.intro Z7 r7)
  clear r7
  replace R2 := hide (X3.row out0 R2.out)
  replace R3 := hide (X3.row out0 R3.out)
  replace R4 := hide (X3.row out0 R4.out)
  replace R6 := hide (X3.row out0 R6.out)
  replace BEL := hide (X3.on BEL.out SZ.out none_le)
  replace SZ := hide BEL.out.size
  have SW3 := X3.size
  clear X3
  clear H7
  go_upto_region 3 with fail
  refine wrt3 (tl := [isv (.pointer (some ⟨w.heap.size + 1, 0, none⟩)), nk v, isv (.pointer (some ⟨g7, 0, none⟩)), nk ((u * ((v * v) * v)) * (kpw (u * ((((v * v) * v) * ((v * v) * v)) * v)) ei)), nk (((u * ((v * v) * v)) * (kpw (u * ((((v * v) * v) * ((v * v) * v)) * v)) ei)) * ((u * ((v * v) * v)) * (kpw (u * ((((v * v) * v) * ((v * v) * v)) * v)) ei))), nk (v * (((u * ((v * v) * v)) * (kpw (u * ((((v * v) * v) * ((v * v) * v)) * v)) ei)) * ((u * ((v * v) * v)) * (kpw (u * ((((v * v) * v) * ((v * v) * v)) * v)) ei)))), isv (.pointer (some ⟨w.heap.size, 0, none⟩)), nk u, isv (.bool false), isv (.bool true)]) (pre := [(2, 6), (3, 0), (7, 2)])
    (plan := [Pk.val [(3, 0)] 1, Pk.val [(7, 2)] 3, Pk.val [(7, 2)] 3, Pk.val [(26, 3), (27, 3)] 4, Pk.val [(25, 1), (28, 4)] 5, Pk.val [(2, 6)] 7, Pk.val [(29, 5), (30, 7)] 8, Pk.val [(31, 8)] 9])
    [] [] [] (by kernel_rfl) 51 (by kernel_rfl) rfl (by kernel_rfl) ⟨.inr (lv0 _ _ _), ⟨.inr (lull_n _ _ _), ⟨.inr (lv0 _ _ _), ⟨.inr (lull_n _ _ _), ⟨.inr (lull_n _ _ _), ⟨.inr (lull_n _ _ _), ⟨.inr (lv0 _ _ _), ⟨.inr (lull_n _ _ _), ⟨.inr (lv0 _ _ _), ⟨.inr (lv0 _ _ _), trivial⟩⟩⟩⟩⟩⟩⟩⟩⟩⟩
    snkAt0 snk0 ⟨rfl, ⟨rfl, ⟨rfl, trivial⟩⟩⟩
   (Oc3 (fun a w X_ h => g_ldn NP1.out (wq0 rfl) rfl h.1 (X_.at_ R3.out.1 out0 R3.out.2))
   (Oc3 (fun a w X_ h => g_ldn N7.out (wq0 rfl) rfl h.1 (X_.at_ R7.out.1 out0 R7.out.2))
   (Oc3 (fun a w X_ h => g_ldn N7.out (wq0 rfl) rfl h.1 (X_.at_ R7.out.1 out0 R7.out.2))
   (Oc3 (fun a w X_ h => g_call2 (wq0 rfl) (by kernel_rfl) rfl (n_mul h.1 h.2.1))
   (Oc3 (fun a w X_ h => g_call2 (wq0 rfl) (by kernel_rfl) rfl (n_mul h.1 h.2.1))
   (Oc3 (fun a w X_ h => g_ldn NP0.out (wq0 rfl) rfl h.1 (X_.at_ R2.out.1 out0 R2.out.2))
   (Oc3 (fun a w X_ h => g_call2 (wq0 rfl) (by kernel_rfl) rfl (n_same h.1 h.2.1 (iff_f HA.out)))
   (Oc3 (fun a w X_ h => g_not (wq0 rfl) rfl h.1 rfl)
      OkL3.nil)))))))) ?_
  rintro W4 X4 v25 - v26 - v27 - v28 - v29 - v30 - _ rfl _ rfl
  refine Fd3 ?_
  simp only [Act.put, List.setIfInBounds_toArray, List.set_cons_zero, List.set_cons_succ]
  replace R2 := hide (X4.row out0 R2.out)
  replace R3 := hide (X4.row out0 R3.out)
  replace R4 := hide (X4.row out0 R4.out)
  replace R6 := hide (X4.row out0 R6.out)
  replace R7 := hide (X4.row out0 R7.out)
  replace BEL := hide (X4.on BEL.out SZ.out none_le)
  replace SZ := hide BEL.out.size
  have SW4 := X4.size
  clear X4
  go_upto_region 4 with fail
  refine wrt3 (tl := [nk ((u * ((v * v) * v)) * (kpw (u * ((((v * v) * v) * ((v * v) * v)) * v)) ei)), nk rm, nk (((u * ((v * v) * v)) * (kpw (u * ((((v * v) * v) * ((v * v) * v)) * v)) ei)) * rm)]) (pre := [])
    (plan := [Pk.ld 0 7 0, Pk.val [] 1, Pk.val [(33, 0), (34, 1)] 2, Pk.put 0 7 35 2])
    [] [(g7, 37, 16)] [(0, 7)] (by kernel_rfl) 51 (by kernel_rfl) rfl (by kernel_rfl) ⟨.inr (lull_n _ _ _), ⟨.inr (lull_n _ _ _), ⟨.inr (lull_n _ _ _), trivial⟩⟩⟩
    (snkAt1 R7.out (N7.out.size) rfl) (snk1 _) trivial
   (Oc3 (fun a w X_ h hr => g_ldn N7.out (wq0 rfl) rfl h (hr.trans R7.out.2))
   (Oc3 (fun a w X_ h => g_call0 (wq0 rfl) (by kernel_rfl) rfl (n_rm))
   (Oc3 (fun a w X_ h => g_call2 (wq0 rfl) (by kernel_rfl) rfl (n_mul h.1 h.2.1))
   (Oc3 (⟨rfl, _, _, _, rfl, rfl, by kernel_rfl, row_n _⟩)
      OkL3.nil)))) ?_
  rintro W5 X5 v33 - v34 - v35 - c7 r7 H7
  refine Fd3 ?_
  simp only [Act.put, List.setIfInBounds_toArray, List.set_cons_zero, List.set_cons_succ]
  replace N7 := hide (nk_of H7)
  replace R7 := hide (And.intro (Nat.lt_of_lt_of_le R7.out.1 X5.size) r7)
  clear r7
  replace R2 := hide (X5.row (out1 (by omega)) R2.out)
  replace R3 := hide (X5.row (out1 (by omega)) R3.out)
  replace R4 := hide (X5.row (out1 (by omega)) R4.out)
  replace R6 := hide (X5.row (out1 (by omega)) R6.out)
  replace BEL := hide (X5.on BEL.out SZ.out (one_le (by omega)))
  replace SZ := hide BEL.out.size
  have SW5 := X5.size
  clear X5
  clear H7
  go_upto_region 5 with fail
  refine wrt3 (tl := [isv (.pointer (some ⟨w.heap.size + 1, 0, none⟩)), nk v, isv (.pointer (some ⟨g7, 0, none⟩)), nk (((u * ((v * v) * v)) * (kpw (u * ((((v * v) * v) * ((v * v) * v)) * v)) ei)) * rm), nk ((((u * ((v * v) * v)) * (kpw (u * ((((v * v) * v) * ((v * v) * v)) * v)) ei)) * rm) * (((u * ((v * v) * v)) * (kpw (u * ((((v * v) * v) * ((v * v) * v)) * v)) ei)) * rm)), nk (v * ((((u * ((v * v) * v)) * (kpw (u * ((((v * v) * v) * ((v * v) * v)) * v)) ei)) * rm) * (((u * ((v * v) * v)) * (kpw (u * ((((v * v) * v) * ((v * v) * v)) * v)) ei)) * rm))), isv (.pointer (some ⟨w.heap.size, 0, none⟩)), nk u, isv (.bool true), isv (.bool false)]) (pre := [(2, 6), (3, 0), (7, 2)])
    (plan := [Pk.val [(3, 0)] 1, Pk.val [(7, 2)] 3, Pk.val [(7, 2)] 3, Pk.val [(37, 3), (38, 3)] 4, Pk.val [(36, 1), (39, 4)] 5, Pk.val [(2, 6)] 7, Pk.val [(40, 5), (41, 7)] 8, Pk.val [(42, 8)] 9])
    [] [] [] (by kernel_rfl) 51 (by kernel_rfl) rfl (by kernel_rfl) ⟨.inr (lv0 _ _ _), ⟨.inr (lull_n _ _ _), ⟨.inr (lv0 _ _ _), ⟨.inr (lull_n _ _ _), ⟨.inr (lull_n _ _ _), ⟨.inr (lull_n _ _ _), ⟨.inr (lv0 _ _ _), ⟨.inr (lull_n _ _ _), ⟨.inr (lv0 _ _ _), ⟨.inr (lv0 _ _ _), trivial⟩⟩⟩⟩⟩⟩⟩⟩⟩⟩
    snkAt0 snk0 ⟨rfl, ⟨rfl, ⟨rfl, trivial⟩⟩⟩
   (Oc3 (fun a w X_ h => g_ldn NP1.out (wq0 rfl) rfl h.1 (X_.at_ R3.out.1 out0 R3.out.2))
   (Oc3 (fun a w X_ h => g_ldn N7.out (wq0 rfl) rfl h.1 (X_.at_ R7.out.1 out0 R7.out.2))
   (Oc3 (fun a w X_ h => g_ldn N7.out (wq0 rfl) rfl h.1 (X_.at_ R7.out.1 out0 R7.out.2))
   (Oc3 (fun a w X_ h => g_call2 (wq0 rfl) (by kernel_rfl) rfl (n_mul h.1 h.2.1))
   (Oc3 (fun a w X_ h => g_call2 (wq0 rfl) (by kernel_rfl) rfl (n_mul h.1 h.2.1))
   (Oc3 (fun a w X_ h => g_ldn NP0.out (wq0 rfl) rfl h.1 (X_.at_ R2.out.1 out0 R2.out.2))
   (Oc3 (fun a w X_ h => g_call2 (wq0 rfl) (by kernel_rfl) rfl (n_same h.1 h.2.1 (iff_t HB.out)))
   (Oc3 (fun a w X_ h => g_not (wq0 rfl) rfl h.1 rfl)
      OkL3.nil)))))))) ?_
  rintro W6 X6 v36 - v37 - v38 - v39 - v40 - v41 - _ rfl _ rfl
  refine Fd3 ?_
  simp only [Act.put, List.setIfInBounds_toArray, List.set_cons_zero, List.set_cons_succ]
  replace R2 := hide (X6.row out0 R2.out)
  replace R3 := hide (X6.row out0 R3.out)
  replace R4 := hide (X6.row out0 R4.out)
  replace R6 := hide (X6.row out0 R6.out)
  replace R7 := hide (X6.row out0 R7.out)
  replace BEL := hide (X6.on BEL.out SZ.out none_le)
  replace SZ := hide BEL.out.size
  have SW6 := X6.size
  clear X6
  go_upto_region 7 with fail
  refine wrl3 (tl := [isv (.pointer (some ⟨g7, 0, none⟩)), nk (((u * ((v * v) * v)) * (kpw (u * ((((v * v) * v) * ((v * v) * v)) * v)) ei)) * rm), isv (.bool false)]) (pre := [(7, 0)])
    (plan := [Pk.val [(7, 0)] 1, Pk.val [(45, 1)] 2])
    [] [] [] 51 (by kernel_rfl) rfl (by kernel_rfl) ⟨.inr (lv0 _ _ _), ⟨.inr (lull_n _ _ _), ⟨.inr (lv0 _ _ _), trivial⟩⟩⟩
    snkAt0 snk0 ⟨rfl, trivial⟩
   (Oc3 (fun a w X_ h => g_ldn N7.out (wq0 rfl) rfl h.1 (X_.at_ R7.out.1 out0 R7.out.2))
   (Oc3 (fun a w X_ h => g_call1 (wq0 rfl) (by kernel_rfl) rfl (n_odd h.1 (iff_f HO.out)))
      OkL3.nil)) ?_
  rintro W7 X7 v45 - _ rfl
  refine Fd3 ?_
  simp only [Act.put, List.setIfInBounds_toArray, List.set_cons_zero, List.set_cons_succ]
  replace R2 := hide (X7.row out0 R2.out)
  replace R3 := hide (X7.row out0 R3.out)
  replace R4 := hide (X7.row out0 R4.out)
  replace R6 := hide (X7.row out0 R6.out)
  replace R7 := hide (X7.row out0 R7.out)
  replace BEL := hide (X7.on BEL.out SZ.out none_le)
  replace SZ := hide BEL.out.size
  have SW7 := X7.size
  clear X7
  go_upto_region 9 with fail
  refine wrl3 (tl := [isv (.pointer (some ⟨g7, 0, none⟩)), nk (((u * ((v * v) * v)) * (kpw (u * ((((v * v) * v) * ((v * v) * v)) * v)) ei)) * rm), isv (.bool true)]) (pre := [(7, 0)])
    (plan := [Pk.val [(7, 0)] 1, Pk.put 0 4 50 1, Pk.val [] 2])
    [] [(w.heap.size + 1 + 1, 37, 16)] [(0, 4)] 51 (by kernel_rfl) rfl (by kernel_rfl) ⟨.inr (lv0 _ _ _), ⟨.inr (lull_n _ _ _), ⟨.inr (lv0 _ _ _), trivial⟩⟩⟩
    (snkAt1 R4.out rfl rfl) (snk1 _) ⟨rfl, trivial⟩
   (Oc3 (fun a w X_ h => g_ldn N7.out (wq0 rfl) rfl h.1 (X_.at_ R7.out.1 (out1 (by omega)) R7.out.2))
   (Oc3 (⟨rfl, _, _, _, rfl, rfl, by kernel_rfl, row_n _⟩)
   (Oc3 (fun a w X_ h => g_move (wq0 rfl) (.inr rfl) rfl)
      OkL3.nil))) ?_
  rintro W8 X8 v50 - c4 r4 H4 _ rfl
  refine Fd3 ?_
  simp only [Act.put, List.setIfInBounds_toArray, List.set_cons_zero, List.set_cons_succ]
  have N4 := hide (nk_of H4)
  replace R4 := hide (And.intro (Nat.lt_of_lt_of_le R4.out.1 X8.size) r4)
  clear r4
  replace R2 := hide (X8.row (out1 (by omega)) R2.out)
  replace R3 := hide (X8.row (out1 (by omega)) R3.out)
  replace R6 := hide (X8.row (out1 (by omega)) R6.out)
  replace R7 := hide (X8.row (out1 (by omega)) R7.out)
  replace BEL := hide (X8.on BEL.out SZ.out (one_le (by omega)))
  replace SZ := hide BEL.out.size
  have SW8 := X8.size
  clear X8
  clear H4
  go_wp2
  exact bodyPost_ret_by (results_row_tmp rfl _ _ (w.heap.size + 1 + 1) 37 _ (0, 0) _ rfl R4.out.2 undN rfl (by rw [N4.out.size]; exact sizeN)) rfl ⟨_, rfl, BEL.out, HR.out _ _ N4.out⟩
set_option maxRecDepth 100000 in
set_option maxHeartbeats 4000000 in
theorem nroot_b1 {u v : Kp} {C0 C1 : Array Value} {w : World} (hq0 : RN C0 u) (hq1 : RN C1 v) (ha : ¬ v * ((rt0 u v) * (rt0 u v)) = u) (hb : v * (((rt0 u v) * rm) * ((rt0 u v) * rm)) = u) (ho : ((rt0 u v) * rm).val % 2 = 1) : Hands Tryz.prog 73 #[.agg C0, .agg C1] w (nkb (0 - rt0 u v * rm) true) := by
  suffices HH : ∀ R_ : STy, (∀ W C, RN C (0 - rt0 u v * rm) → R_.p W (.tuple #[.agg C, .bool true])) → Hands Tryz.prog 73 #[.agg C0, .agg C1] w R_ from HH _ (fun _ C h => ⟨C, rfl, h⟩)
  intro R_ hR_
  have HR := hide hR_
  clear hR_
  have NP0 := hide hq0
  clear hq0
  have NP1 := hide hq1
  clear hq1
  have HA := hide ha
  clear ha
  have HB := hide hb
  clear hb
  have HO := hide ho
  clear ho
  unfold Hands
  go_enter Tryz.func73, Tryz.ntmps73
  go_upto_region 1 with fail
  refine cut_world (fun W => Below w.heap.size w W ∧ (w.heap.size < W.heap.size ∧ W.heap[w.heap.size]? = some (.cells C0 37 (0, 0))) ∧ (w.heap.size + 1 < W.heap.size ∧ W.heap[w.heap.size + 1]? = some (.cells C1 37 (0, 0))) ∧ (w.heap.size + 1 + 1 < W.heap.size ∧ W.heap[w.heap.size + 1 + 1]? = some (.cells zn 37 (0, 0)))) ⟨below3 _ _ _ _, ⟨by simp; omega, heap3_0 _ _ _ _⟩, ⟨by simp, heap_alloc_mid3 _ _ _ _⟩, by simp, heap_alloc_last3 _ _ _ _⟩ ?_
  rintro W1 ⟨BEL, R2, R3, R4⟩
  replace BEL := hide BEL
  have SZ := hide BEL.out.size
  replace R2 := hide R2
  replace R3 := hide R3
  replace R4 := hide R4
  have SW1 := (R4.out.1)
  refine wrt3 (tl := [isv (.pointer (some ⟨w.heap.size + 1, 0, none⟩)), nk v, nk (v * v), nk ((v * v) * v)]) (pre := [(3, 0)])
    (plan := [Pk.val [(3, 0)] 1, Pk.val [(3, 0)] 1, Pk.val [(8, 1), (9, 1)] 2, Pk.val [(3, 0)] 1, Pk.val [(10, 2), (11, 1)] 3, Pk.alc 37 16, Pk.sto 5 12 3])
    [] [] [] (by kernel_rfl) 51 (by kernel_rfl) rfl (by kernel_rfl) ⟨.inr (lv0 _ _ _), ⟨.inr (lull_n _ _ _), ⟨.inr (lull_n _ _ _), ⟨.inr (lull_n _ _ _), trivial⟩⟩⟩⟩
    snkAt0 snk0 ⟨rfl, trivial⟩
   (Oc3 (fun a w X_ h => g_ldn NP1.out (wq0 rfl) rfl h.1 (X_.at_ R3.out.1 out0 R3.out.2))
   (Oc3 (fun a w X_ h => g_ldn NP1.out (wq0 rfl) rfl h.1 (X_.at_ R3.out.1 out0 R3.out.2))
   (Oc3 (fun a w X_ h => g_call2 (wq0 rfl) (by kernel_rfl) rfl (n_mul h.1 h.2.1))
   (Oc3 (fun a w X_ h => g_ldn NP1.out (wq0 rfl) rfl h.1 (X_.at_ R3.out.1 out0 R3.out.2))
   (Oc3 (fun a w X_ h => g_call2 (wq0 rfl) (by kernel_rfl) rfl (n_mul h.1 h.2.1))
   (Oc3 (alc_of zn rfl rfl rfl newN)
   (Oc3 (⟨rfl, _, _, _, rfl, rfl, rfl, by kernel_rfl, row_n _⟩)
      OkL3.nil))))))) ?_
  rintro W2 X2 v8 - v9 - v10 - v11 - v12 - g6 c6 ⟨L6, Z6, -⟩ r6 H6
  refine FinL3.fill ?_
  refine Fd3 ?_
  simp only [Act.put, List.setIfInBounds_toArray, List.set_cons_zero, List.set_cons_succ]
  have N6 := hide (nk_of H6)
  have R6 := hide (And.intro Z6 r6)
  clear r6
  replace R2 := hide (X2.row out0 R2.out)
  replace R3 := hide (X2.row out0 R3.out)
  replace R4 := hide (X2.row out0 R4.out)
  replace BEL := hide (X2.on BEL.out SZ.out none_le)
  replace SZ := hide BEL.out.size
  have SW2 := X2.size
  clear X2
  clear H6
  go_upto_region 2 with fail
  refine wrt3 (tl := [isv (.pointer (some ⟨w.heap.size, 0, none⟩)), nk u, isv (.pointer (some ⟨g6, 0, none⟩)), nk ((v * v) * v), nk (u * ((v * v) * v)), nk (((v * v) * v) * ((v * v) * v)), isv (.pointer (some ⟨w.heap.size + 1, 0, none⟩)), nk v, nk ((((v * v) * v) * ((v * v) * v)) * v), nk (u * ((((v * v) * v) * ((v * v) * v)) * v)), nk (kpw (u * ((((v * v) * v) * ((v * v) * v)) * v)) ei), nk ((u * ((v * v) * v)) * (kpw (u * ((((v * v) * v) * ((v * v) * v)) * v)) ei))]) (pre := [(2, 0), (3, 6), (6, 2)])
    (plan := [Pk.val [(2, 0)] 1, Pk.val [(6, 2)] 3, Pk.val [(13, 1), (14, 3)] 4, Pk.val [(2, 0)] 1, Pk.val [(6, 2)] 3, Pk.val [(6, 2)] 3, Pk.val [(17, 3), (18, 3)] 5, Pk.val [(3, 6)] 7, Pk.val [(19, 5), (20, 7)] 8, Pk.val [(16, 1), (21, 8)] 9, Pk.val [(22, 9)] 10, Pk.val [(15, 4), (23, 10)] 11, Pk.alc 37 16, Pk.sto 12 24 11])
    [] [] [] (by kernel_rfl) 51 (by kernel_rfl) rfl (by kernel_rfl) ⟨.inr (lv0 _ _ _), ⟨.inr (lull_n _ _ _), ⟨.inr (lv0 _ _ _), ⟨.inr (lull_n _ _ _), ⟨.inr (lull_n _ _ _), ⟨.inr (lull_n _ _ _), ⟨.inr (lv0 _ _ _), ⟨.inr (lull_n _ _ _), ⟨.inr (lull_n _ _ _), ⟨.inr (lull_n _ _ _), ⟨.inr (lull_n _ _ _), ⟨.inr (lull_n _ _ _), trivial⟩⟩⟩⟩⟩⟩⟩⟩⟩⟩⟩⟩
    snkAt0 snk0 ⟨rfl, ⟨rfl, ⟨rfl, trivial⟩⟩⟩
   (Oc3 (fun a w X_ h => g_ldn NP0.out (wq0 rfl) rfl h.1 (X_.at_ R2.out.1 out0 R2.out.2))
   (Oc3 (fun a w X_ h => g_ldn N6.out (wq0 rfl) rfl h.1 (X_.at_ R6.out.1 out0 R6.out.2))
   (Oc3 (fun a w X_ h => g_call2 (wq0 rfl) (by kernel_rfl) rfl (n_mul h.1 h.2.1))
   (Oc3 (fun a w X_ h => g_ldn NP0.out (wq0 rfl) rfl h.1 (X_.at_ R2.out.1 out0 R2.out.2))
   (Oc3 (fun a w X_ h => g_ldn N6.out (wq0 rfl) rfl h.1 (X_.at_ R6.out.1 out0 R6.out.2))
   (Oc3 (fun a w X_ h => g_ldn N6.out (wq0 rfl) rfl h.1 (X_.at_ R6.out.1 out0 R6.out.2))
   (Oc3 (fun a w X_ h => g_call2 (wq0 rfl) (by kernel_rfl) rfl (n_mul h.1 h.2.1))
   (Oc3 (fun a w X_ h => g_ldn NP1.out (wq0 rfl) rfl h.1 (X_.at_ R3.out.1 out0 R3.out.2))
   (Oc3 (fun a w X_ h => g_call2 (wq0 rfl) (by kernel_rfl) rfl (n_mul h.1 h.2.1))
   (Oc3 (fun a w X_ h => g_call2 (wq0 rfl) (by kernel_rfl) rfl (n_mul h.1 h.2.1))
   (Oc3 (fun a w X_ h => g_call1 (wq0 rfl) (by kernel_rfl) rfl (n_half h.1))
   (Oc3 (fun a w X_ h => g_call2 (wq0 rfl) (by kernel_rfl) rfl (n_mul h.1 h.2.1))
   (Oc3 (alc_of zn rfl rfl rfl newN)
   (Oc3 (⟨rfl, _, _, _, rfl, rfl, rfl, by kernel_rfl, row_n _⟩)
      OkL3.nil)))))))))))))) ?_
  rintro W3 X3 v13 - v14 - v15 - v16 - v17 - v18 - v19 - v20 - v21 - v22 - v23 - v24 - g7 c7 ⟨L7, Z7, -⟩ r7 H7
  refine FinL3.fill ?_
  refine Fd3 ?_
  simp only [Act.put, List.setIfInBounds_toArray, List.set_cons_zero, List.set_cons_succ]
  have N7 := hide (nk_of H7)
  have R7 := hide (And.intro Z7 r7)
  clear r7
  replace R2 := hide (X3.row out0 R2.out)
  replace R3 := hide (X3.row out0 R3.out)
  replace R4 := hide (X3.row out0 R4.out)
  replace R6 := hide (X3.row out0 R6.out)
  replace BEL := hide (X3.on BEL.out SZ.out none_le)
  replace SZ := hide BEL.out.size
  have SW3 := X3.size
  clear X3
  clear H7
  go_upto_region 3 with fail
  refine wrt3 (tl := [isv (.pointer (some ⟨w.heap.size + 1, 0, none⟩)), nk v, isv (.pointer (some ⟨g7, 0, none⟩)), nk ((u * ((v * v) * v)) * (kpw (u * ((((v * v) * v) * ((v * v) * v)) * v)) ei)), nk (((u * ((v * v) * v)) * (kpw (u * ((((v * v) * v) * ((v * v) * v)) * v)) ei)) * ((u * ((v * v) * v)) * (kpw (u * ((((v * v) * v) * ((v * v) * v)) * v)) ei))), nk (v * (((u * ((v * v) * v)) * (kpw (u * ((((v * v) * v) * ((v * v) * v)) * v)) ei)) * ((u * ((v * v) * v)) * (kpw (u * ((((v * v) * v) * ((v * v) * v)) * v)) ei)))), isv (.pointer (some ⟨w.heap.size, 0, none⟩)), nk u, isv (.bool false), isv (.bool true)]) (pre := [(2, 6), (3, 0), (7, 2)])
    (plan := [Pk.val [(3, 0)] 1, Pk.val [(7, 2)] 3, Pk.val [(7, 2)] 3, Pk.val [(26, 3), (27, 3)] 4, Pk.val [(25, 1), (28, 4)] 5, Pk.val [(2, 6)] 7, Pk.val [(29, 5), (30, 7)] 8, Pk.val [(31, 8)] 9])
    [] [] [] (by kernel_rfl) 51 (by kernel_rfl) rfl (by kernel_rfl) ⟨.inr (lv0 _ _ _), ⟨.inr (lull_n _ _ _), ⟨.inr (lv0 _ _ _), ⟨.inr (lull_n _ _ _), ⟨.inr (lull_n _ _ _), ⟨.inr (lull_n _ _ _), ⟨.inr (lv0 _ _ _), ⟨.inr (lull_n _ _ _), ⟨.inr (lv0 _ _ _), ⟨.inr (lv0 _ _ _), trivial⟩⟩⟩⟩⟩⟩⟩⟩⟩⟩
    snkAt0 snk0 ⟨rfl, ⟨rfl, ⟨rfl, trivial⟩⟩⟩
   (Oc3 (fun a w X_ h => g_ldn NP1.out (wq0 rfl) rfl h.1 (X_.at_ R3.out.1 out0 R3.out.2))
   (Oc3 (fun a w X_ h => g_ldn N7.out (wq0 rfl) rfl h.1 (X_.at_ R7.out.1 out0 R7.out.2))
   (Oc3 (fun a w X_ h => g_ldn N7.out (wq0 rfl) rfl h.1 (X_.at_ R7.out.1 out0 R7.out.2))
   (Oc3 (fun a w X_ h => g_call2 (wq0 rfl) (by kernel_rfl) rfl (n_mul h.1 h.2.1))
   (Oc3 (fun a w X_ h => g_call2 (wq0 rfl) (by kernel_rfl) rfl (n_mul h.1 h.2.1))
   (Oc3 (fun a w X_ h => g_ldn NP0.out (wq0 rfl) rfl h.1 (X_.at_ R2.out.1 out0 R2.out.2))
   (Oc3 (fun a w X_ h => g_call2 (wq0 rfl) (by kernel_rfl) rfl (n_same h.1 h.2.1 (iff_f HA.out)))
   (Oc3 (fun a w X_ h => g_not (wq0 rfl) rfl h.1 rfl)
      OkL3.nil)))))))) ?_
  rintro W4 X4 v25 - v26 - v27 - v28 - v29 - v30 - _ rfl _ rfl
  refine Fd3 ?_
  simp only [Act.put, List.setIfInBounds_toArray, List.set_cons_zero, List.set_cons_succ]
  replace R2 := hide (X4.row out0 R2.out)
  replace R3 := hide (X4.row out0 R3.out)
  replace R4 := hide (X4.row out0 R4.out)
  replace R6 := hide (X4.row out0 R6.out)
  replace R7 := hide (X4.row out0 R7.out)
  replace BEL := hide (X4.on BEL.out SZ.out none_le)
  replace SZ := hide BEL.out.size
  have SW4 := X4.size
  clear X4
  go_upto_region 4 with fail
  refine wrt3 (tl := [nk ((u * ((v * v) * v)) * (kpw (u * ((((v * v) * v) * ((v * v) * v)) * v)) ei)), nk rm, nk (((u * ((v * v) * v)) * (kpw (u * ((((v * v) * v) * ((v * v) * v)) * v)) ei)) * rm)]) (pre := [])
    (plan := [Pk.ld 0 7 0, Pk.val [] 1, Pk.val [(33, 0), (34, 1)] 2, Pk.put 0 7 35 2])
    [] [(g7, 37, 16)] [(0, 7)] (by kernel_rfl) 51 (by kernel_rfl) rfl (by kernel_rfl) ⟨.inr (lull_n _ _ _), ⟨.inr (lull_n _ _ _), ⟨.inr (lull_n _ _ _), trivial⟩⟩⟩
    (snkAt1 R7.out (N7.out.size) rfl) (snk1 _) trivial
   (Oc3 (fun a w X_ h hr => g_ldn N7.out (wq0 rfl) rfl h (hr.trans R7.out.2))
   (Oc3 (fun a w X_ h => g_call0 (wq0 rfl) (by kernel_rfl) rfl (n_rm))
   (Oc3 (fun a w X_ h => g_call2 (wq0 rfl) (by kernel_rfl) rfl (n_mul h.1 h.2.1))
   (Oc3 (⟨rfl, _, _, _, rfl, rfl, by kernel_rfl, row_n _⟩)
      OkL3.nil)))) ?_
  rintro W5 X5 v33 - v34 - v35 - c7 r7 H7
  refine Fd3 ?_
  simp only [Act.put, List.setIfInBounds_toArray, List.set_cons_zero, List.set_cons_succ]
  replace N7 := hide (nk_of H7)
  replace R7 := hide (And.intro (Nat.lt_of_lt_of_le R7.out.1 X5.size) r7)
  clear r7
  replace R2 := hide (X5.row (out1 (by omega)) R2.out)
  replace R3 := hide (X5.row (out1 (by omega)) R3.out)
  replace R4 := hide (X5.row (out1 (by omega)) R4.out)
  replace R6 := hide (X5.row (out1 (by omega)) R6.out)
  replace BEL := hide (X5.on BEL.out SZ.out (one_le (by omega)))
  replace SZ := hide BEL.out.size
  have SW5 := X5.size
  clear X5
  clear H7
  go_upto_region 5 with fail
  refine wrt3 (tl := [isv (.pointer (some ⟨w.heap.size + 1, 0, none⟩)), nk v, isv (.pointer (some ⟨g7, 0, none⟩)), nk (((u * ((v * v) * v)) * (kpw (u * ((((v * v) * v) * ((v * v) * v)) * v)) ei)) * rm), nk ((((u * ((v * v) * v)) * (kpw (u * ((((v * v) * v) * ((v * v) * v)) * v)) ei)) * rm) * (((u * ((v * v) * v)) * (kpw (u * ((((v * v) * v) * ((v * v) * v)) * v)) ei)) * rm)), nk (v * ((((u * ((v * v) * v)) * (kpw (u * ((((v * v) * v) * ((v * v) * v)) * v)) ei)) * rm) * (((u * ((v * v) * v)) * (kpw (u * ((((v * v) * v) * ((v * v) * v)) * v)) ei)) * rm))), isv (.pointer (some ⟨w.heap.size, 0, none⟩)), nk u, isv (.bool true), isv (.bool false)]) (pre := [(2, 6), (3, 0), (7, 2)])
    (plan := [Pk.val [(3, 0)] 1, Pk.val [(7, 2)] 3, Pk.val [(7, 2)] 3, Pk.val [(37, 3), (38, 3)] 4, Pk.val [(36, 1), (39, 4)] 5, Pk.val [(2, 6)] 7, Pk.val [(40, 5), (41, 7)] 8, Pk.val [(42, 8)] 9])
    [] [] [] (by kernel_rfl) 51 (by kernel_rfl) rfl (by kernel_rfl) ⟨.inr (lv0 _ _ _), ⟨.inr (lull_n _ _ _), ⟨.inr (lv0 _ _ _), ⟨.inr (lull_n _ _ _), ⟨.inr (lull_n _ _ _), ⟨.inr (lull_n _ _ _), ⟨.inr (lv0 _ _ _), ⟨.inr (lull_n _ _ _), ⟨.inr (lv0 _ _ _), ⟨.inr (lv0 _ _ _), trivial⟩⟩⟩⟩⟩⟩⟩⟩⟩⟩
    snkAt0 snk0 ⟨rfl, ⟨rfl, ⟨rfl, trivial⟩⟩⟩
   (Oc3 (fun a w X_ h => g_ldn NP1.out (wq0 rfl) rfl h.1 (X_.at_ R3.out.1 out0 R3.out.2))
   (Oc3 (fun a w X_ h => g_ldn N7.out (wq0 rfl) rfl h.1 (X_.at_ R7.out.1 out0 R7.out.2))
   (Oc3 (fun a w X_ h => g_ldn N7.out (wq0 rfl) rfl h.1 (X_.at_ R7.out.1 out0 R7.out.2))
   (Oc3 (fun a w X_ h => g_call2 (wq0 rfl) (by kernel_rfl) rfl (n_mul h.1 h.2.1))
   (Oc3 (fun a w X_ h => g_call2 (wq0 rfl) (by kernel_rfl) rfl (n_mul h.1 h.2.1))
   (Oc3 (fun a w X_ h => g_ldn NP0.out (wq0 rfl) rfl h.1 (X_.at_ R2.out.1 out0 R2.out.2))
   (Oc3 (fun a w X_ h => g_call2 (wq0 rfl) (by kernel_rfl) rfl (n_same h.1 h.2.1 (iff_t HB.out)))
   (Oc3 (fun a w X_ h => g_not (wq0 rfl) rfl h.1 rfl)
      OkL3.nil)))))))) ?_
  rintro W6 X6 v36 - v37 - v38 - v39 - v40 - v41 - _ rfl _ rfl
  refine Fd3 ?_
  simp only [Act.put, List.setIfInBounds_toArray, List.set_cons_zero, List.set_cons_succ]
  replace R2 := hide (X6.row out0 R2.out)
  replace R3 := hide (X6.row out0 R3.out)
  replace R4 := hide (X6.row out0 R4.out)
  replace R6 := hide (X6.row out0 R6.out)
  replace R7 := hide (X6.row out0 R7.out)
  replace BEL := hide (X6.on BEL.out SZ.out none_le)
  replace SZ := hide BEL.out.size
  have SW6 := X6.size
  clear X6
  go_upto_region 7 with fail
  refine wrl3 (tl := [isv (.pointer (some ⟨g7, 0, none⟩)), nk (((u * ((v * v) * v)) * (kpw (u * ((((v * v) * v) * ((v * v) * v)) * v)) ei)) * rm), isv (.bool true)]) (pre := [(7, 0)])
    (plan := [Pk.val [(7, 0)] 1, Pk.val [(45, 1)] 2])
    [] [] [] 51 (by kernel_rfl) rfl (by kernel_rfl) ⟨.inr (lv0 _ _ _), ⟨.inr (lull_n _ _ _), ⟨.inr (lv0 _ _ _), trivial⟩⟩⟩
    snkAt0 snk0 ⟨rfl, trivial⟩
   (Oc3 (fun a w X_ h => g_ldn N7.out (wq0 rfl) rfl h.1 (X_.at_ R7.out.1 out0 R7.out.2))
   (Oc3 (fun a w X_ h => g_call1 (wq0 rfl) (by kernel_rfl) rfl (n_odd h.1 (iff_t HO.out)))
      OkL3.nil)) ?_
  rintro W7 X7 v45 - _ rfl
  refine Fd3 ?_
  simp only [Act.put, List.setIfInBounds_toArray, List.set_cons_zero, List.set_cons_succ]
  replace R2 := hide (X7.row out0 R2.out)
  replace R3 := hide (X7.row out0 R3.out)
  replace R4 := hide (X7.row out0 R4.out)
  replace R6 := hide (X7.row out0 R6.out)
  replace R7 := hide (X7.row out0 R7.out)
  replace BEL := hide (X7.on BEL.out SZ.out none_le)
  replace SZ := hide BEL.out.size
  have SW7 := X7.size
  clear X7
  go_upto_region 8 with fail
  refine wrl3 (tl := [nk (0 : Kp), nk (((u * ((v * v) * v)) * (kpw (u * ((((v * v) * v) * ((v * v) * v)) * v)) ei)) * rm), nk ((0 : Kp) - (((u * ((v * v) * v)) * (kpw (u * ((((v * v) * v) * ((v * v) * v)) * v)) ei)) * rm))]) (pre := [])
    (plan := [Pk.val [] 0, Pk.ld 0 7 1, Pk.val [(47, 0), (48, 1)] 2, Pk.put 0 7 49 2])
    [] [(g7, 37, 16)] [(0, 7)] 51 (by kernel_rfl) rfl (by kernel_rfl) ⟨.inr (lull_n _ _ _), ⟨.inr (lull_n _ _ _), ⟨.inr (lull_n _ _ _), trivial⟩⟩⟩
    (snkAt1 R7.out (N7.out.size) rfl) (snk1 _) trivial
   (Oc3 (fun a w X_ h => g_nz (wq0 rfl) rfl)
   (Oc3 (fun a w X_ h hr => g_ldn N7.out (wq0 rfl) rfl h (hr.trans R7.out.2))
   (Oc3 (fun a w X_ h => g_call2 (wq0 rfl) (by kernel_rfl) rfl (n_sub h.1 h.2.1))
   (Oc3 (⟨rfl, _, _, _, rfl, rfl, by kernel_rfl, row_n _⟩)
      OkL3.nil)))) ?_
  rintro W8 X8 v47 - v48 - v49 - c7 r7 H7
  refine Fd3 ?_
  simp only [Act.put, List.setIfInBounds_toArray, List.set_cons_zero, List.set_cons_succ]
  replace N7 := hide (nk_of H7)
  replace R7 := hide (And.intro (Nat.lt_of_lt_of_le R7.out.1 X8.size) r7)
  clear r7
  replace R2 := hide (X8.row (out1 (by omega)) R2.out)
  replace R3 := hide (X8.row (out1 (by omega)) R3.out)
  replace R4 := hide (X8.row (out1 (by omega)) R4.out)
  replace R6 := hide (X8.row (out1 (by omega)) R6.out)
  replace BEL := hide (X8.on BEL.out SZ.out (one_le (by omega)))
  replace SZ := hide BEL.out.size
  have SW8 := X8.size
  clear X8
  clear H7
  go_upto_region 9 with fail
  refine wrl3 (tl := [isv (.pointer (some ⟨g7, 0, none⟩)), nk ((0 : Kp) - (((u * ((v * v) * v)) * (kpw (u * ((((v * v) * v) * ((v * v) * v)) * v)) ei)) * rm)), isv (.bool true)]) (pre := [(7, 0)])
    (plan := [Pk.val [(7, 0)] 1, Pk.put 0 4 50 1, Pk.val [] 2])
    [] [(w.heap.size + 1 + 1, 37, 16)] [(0, 4)] 51 (by kernel_rfl) rfl (by kernel_rfl) ⟨.inr (lv0 _ _ _), ⟨.inr (lull_n _ _ _), ⟨.inr (lv0 _ _ _), trivial⟩⟩⟩
    (snkAt1 R4.out rfl rfl) (snk1 _) ⟨rfl, trivial⟩
   (Oc3 (fun a w X_ h => g_ldn N7.out (wq0 rfl) rfl h.1 (X_.at_ R7.out.1 (out1 (by omega)) R7.out.2))
   (Oc3 (⟨rfl, _, _, _, rfl, rfl, by kernel_rfl, row_n _⟩)
   (Oc3 (fun a w X_ h => g_move (wq0 rfl) (.inr rfl) rfl)
      OkL3.nil))) ?_
  rintro W9 X9 v50 - c4 r4 H4 _ rfl
  refine Fd3 ?_
  simp only [Act.put, List.setIfInBounds_toArray, List.set_cons_zero, List.set_cons_succ]
  have N4 := hide (nk_of H4)
  replace R4 := hide (And.intro (Nat.lt_of_lt_of_le R4.out.1 X9.size) r4)
  clear r4
  replace R2 := hide (X9.row (out1 (by omega)) R2.out)
  replace R3 := hide (X9.row (out1 (by omega)) R3.out)
  replace R6 := hide (X9.row (out1 (by omega)) R6.out)
  replace R7 := hide (X9.row (out1 (by omega)) R7.out)
  replace BEL := hide (X9.on BEL.out SZ.out (one_le (by omega)))
  replace SZ := hide BEL.out.size
  have SW9 := X9.size
  clear X9
  clear H4
  go_wp2
  exact bodyPost_ret_by (results_row_tmp rfl _ _ (w.heap.size + 1 + 1) 37 _ (0, 0) _ rfl R4.out.2 undN rfl (by rw [N4.out.size]; exact sizeN)) rfl ⟨_, rfl, BEL.out, HR.out _ _ N4.out⟩
set_option maxRecDepth 100000 in
set_option maxHeartbeats 4000000 in
theorem nroot_c {u v : Kp} {C0 C1 : Array Value} {w : World} (hq0 : RN C0 u) (hq1 : RN C1 v) (ha : ¬ v * ((rt0 u v) * (rt0 u v)) = u) (hb : ¬ v * (((rt0 u v) * rm) * ((rt0 u v) * rm)) = u) : Hands Tryz.prog 73 #[.agg C0, .agg C1] w (nkb (0 : Kp) false) := by
  suffices HH : ∀ R_ : STy, (∀ W C, RN C (0 : Kp) → R_.p W (.tuple #[.agg C, .bool false])) → Hands Tryz.prog 73 #[.agg C0, .agg C1] w R_ from HH _ (fun _ C h => ⟨C, rfl, h⟩)
  intro R_ hR_
  have HR := hide hR_
  clear hR_
  have NP0 := hide hq0
  clear hq0
  have NP1 := hide hq1
  clear hq1
  have HA := hide ha
  clear ha
  have HB := hide hb
  clear hb
  unfold Hands
  go_enter Tryz.func73, Tryz.ntmps73
  go_upto_region 1 with fail
  refine cut_world (fun W => Below w.heap.size w W ∧ (w.heap.size < W.heap.size ∧ W.heap[w.heap.size]? = some (.cells C0 37 (0, 0))) ∧ (w.heap.size + 1 < W.heap.size ∧ W.heap[w.heap.size + 1]? = some (.cells C1 37 (0, 0))) ∧ (w.heap.size + 1 + 1 < W.heap.size ∧ W.heap[w.heap.size + 1 + 1]? = some (.cells zn 37 (0, 0)))) ⟨below3 _ _ _ _, ⟨by simp; omega, heap3_0 _ _ _ _⟩, ⟨by simp, heap_alloc_mid3 _ _ _ _⟩, by simp, heap_alloc_last3 _ _ _ _⟩ ?_
  rintro W1 ⟨BEL, R2, R3, R4⟩
  replace BEL := hide BEL
  have SZ := hide BEL.out.size
  replace R2 := hide R2
  replace R3 := hide R3
  replace R4 := hide R4
  have SW1 := (R4.out.1)
  refine wrt3 (tl := [isv (.pointer (some ⟨w.heap.size + 1, 0, none⟩)), nk v, nk (v * v), nk ((v * v) * v)]) (pre := [(3, 0)])
    (plan := [Pk.val [(3, 0)] 1, Pk.val [(3, 0)] 1, Pk.val [(8, 1), (9, 1)] 2, Pk.val [(3, 0)] 1, Pk.val [(10, 2), (11, 1)] 3, Pk.alc 37 16, Pk.sto 5 12 3])
    [] [] [] (by kernel_rfl) 51 (by kernel_rfl) rfl (by kernel_rfl) ⟨.inr (lv0 _ _ _), ⟨.inr (lull_n _ _ _), ⟨.inr (lull_n _ _ _), ⟨.inr (lull_n _ _ _), trivial⟩⟩⟩⟩
    snkAt0 snk0 ⟨rfl, trivial⟩
   (Oc3 (fun a w X_ h => g_ldn NP1.out (wq0 rfl) rfl h.1 (X_.at_ R3.out.1 out0 R3.out.2))
   (Oc3 (fun a w X_ h => g_ldn NP1.out (wq0 rfl) rfl h.1 (X_.at_ R3.out.1 out0 R3.out.2))
   (Oc3 (fun a w X_ h => g_call2 (wq0 rfl) (by kernel_rfl) rfl (n_mul h.1 h.2.1))
   (Oc3 (fun a w X_ h => g_ldn NP1.out (wq0 rfl) rfl h.1 (X_.at_ R3.out.1 out0 R3.out.2))
   (Oc3 (fun a w X_ h => g_call2 (wq0 rfl) (by kernel_rfl) rfl (n_mul h.1 h.2.1))
   (Oc3 (alc_of zn rfl rfl rfl newN)
   (Oc3 (⟨rfl, _, _, _, rfl, rfl, rfl, by kernel_rfl, row_n _⟩)
      OkL3.nil))))))) ?_
  rintro W2 X2 v8 - v9 - v10 - v11 - v12 - g6 c6 ⟨L6, Z6, -⟩ r6 H6
  refine FinL3.fill ?_
  refine Fd3 ?_
  simp only [Act.put, List.setIfInBounds_toArray, List.set_cons_zero, List.set_cons_succ]
  have N6 := hide (nk_of H6)
  have R6 := hide (And.intro Z6 r6)
  clear r6
  replace R2 := hide (X2.row out0 R2.out)
  replace R3 := hide (X2.row out0 R3.out)
  replace R4 := hide (X2.row out0 R4.out)
  replace BEL := hide (X2.on BEL.out SZ.out none_le)
  replace SZ := hide BEL.out.size
  have SW2 := X2.size
  clear X2
  clear H6
  go_upto_region 2 with fail
  refine wrt3 (tl := [isv (.pointer (some ⟨w.heap.size, 0, none⟩)), nk u, isv (.pointer (some ⟨g6, 0, none⟩)), nk ((v * v) * v), nk (u * ((v * v) * v)), nk (((v * v) * v) * ((v * v) * v)), isv (.pointer (some ⟨w.heap.size + 1, 0, none⟩)), nk v, nk ((((v * v) * v) * ((v * v) * v)) * v), nk (u * ((((v * v) * v) * ((v * v) * v)) * v)), nk (kpw (u * ((((v * v) * v) * ((v * v) * v)) * v)) ei), nk ((u * ((v * v) * v)) * (kpw (u * ((((v * v) * v) * ((v * v) * v)) * v)) ei))]) (pre := [(2, 0), (3, 6), (6, 2)])
    (plan := [Pk.val [(2, 0)] 1, Pk.val [(6, 2)] 3, Pk.val [(13, 1), (14, 3)] 4, Pk.val [(2, 0)] 1, Pk.val [(6, 2)] 3, Pk.val [(6, 2)] 3, Pk.val [(17, 3), (18, 3)] 5, Pk.val [(3, 6)] 7, Pk.val [(19, 5), (20, 7)] 8, Pk.val [(16, 1), (21, 8)] 9, Pk.val [(22, 9)] 10, Pk.val [(15, 4), (23, 10)] 11, Pk.alc 37 16, Pk.sto 12 24 11])
    [] [] [] (by kernel_rfl) 51 (by kernel_rfl) rfl (by kernel_rfl) ⟨.inr (lv0 _ _ _), ⟨.inr (lull_n _ _ _), ⟨.inr (lv0 _ _ _), ⟨.inr (lull_n _ _ _), ⟨.inr (lull_n _ _ _), ⟨.inr (lull_n _ _ _), ⟨.inr (lv0 _ _ _), ⟨.inr (lull_n _ _ _), ⟨.inr (lull_n _ _ _), ⟨.inr (lull_n _ _ _), ⟨.inr (lull_n _ _ _), ⟨.inr (lull_n _ _ _), trivial⟩⟩⟩⟩⟩⟩⟩⟩⟩⟩⟩⟩
    snkAt0 snk0 ⟨rfl, ⟨rfl, ⟨rfl, trivial⟩⟩⟩
   (Oc3 (fun a w X_ h => g_ldn NP0.out (wq0 rfl) rfl h.1 (X_.at_ R2.out.1 out0 R2.out.2))
   (Oc3 (fun a w X_ h => g_ldn N6.out (wq0 rfl) rfl h.1 (X_.at_ R6.out.1 out0 R6.out.2))
   (Oc3 (fun a w X_ h => g_call2 (wq0 rfl) (by kernel_rfl) rfl (n_mul h.1 h.2.1))
   (Oc3 (fun a w X_ h => g_ldn NP0.out (wq0 rfl) rfl h.1 (X_.at_ R2.out.1 out0 R2.out.2))
   (Oc3 (fun a w X_ h => g_ldn N6.out (wq0 rfl) rfl h.1 (X_.at_ R6.out.1 out0 R6.out.2))
   (Oc3 (fun a w X_ h => g_ldn N6.out (wq0 rfl) rfl h.1 (X_.at_ R6.out.1 out0 R6.out.2))
   (Oc3 (fun a w X_ h => g_call2 (wq0 rfl) (by kernel_rfl) rfl (n_mul h.1 h.2.1))
   (Oc3 (fun a w X_ h => g_ldn NP1.out (wq0 rfl) rfl h.1 (X_.at_ R3.out.1 out0 R3.out.2))
   (Oc3 (fun a w X_ h => g_call2 (wq0 rfl) (by kernel_rfl) rfl (n_mul h.1 h.2.1))
   (Oc3 (fun a w X_ h => g_call2 (wq0 rfl) (by kernel_rfl) rfl (n_mul h.1 h.2.1))
   (Oc3 (fun a w X_ h => g_call1 (wq0 rfl) (by kernel_rfl) rfl (n_half h.1))
   (Oc3 (fun a w X_ h => g_call2 (wq0 rfl) (by kernel_rfl) rfl (n_mul h.1 h.2.1))
   (Oc3 (alc_of zn rfl rfl rfl newN)
   (Oc3 (⟨rfl, _, _, _, rfl, rfl, rfl, by kernel_rfl, row_n _⟩)
      OkL3.nil)))))))))))))) ?_
  rintro W3 X3 v13 - v14 - v15 - v16 - v17 - v18 - v19 - v20 - v21 - v22 - v23 - v24 - g7 c7 ⟨L7, Z7, -⟩ r7 H7
  refine FinL3.fill ?_
  refine Fd3 ?_
  simp only [Act.put, List.setIfInBounds_toArray, List.set_cons_zero, List.set_cons_succ]
  have N7 := hide (nk_of H7)
  have R7 := hide (And.intro Z7 r7)
  clear r7
  replace R2 := hide (X3.row out0 R2.out)
  replace R3 := hide (X3.row out0 R3.out)
  replace R4 := hide (X3.row out0 R4.out)
  replace R6 := hide (X3.row out0 R6.out)
  replace BEL := hide (X3.on BEL.out SZ.out none_le)
  replace SZ := hide BEL.out.size
  have SW3 := X3.size
  clear X3
  clear H7
  go_upto_region 3 with fail
  refine wrt3 (tl := [isv (.pointer (some ⟨w.heap.size + 1, 0, none⟩)), nk v, isv (.pointer (some ⟨g7, 0, none⟩)), nk ((u * ((v * v) * v)) * (kpw (u * ((((v * v) * v) * ((v * v) * v)) * v)) ei)), nk (((u * ((v * v) * v)) * (kpw (u * ((((v * v) * v) * ((v * v) * v)) * v)) ei)) * ((u * ((v * v) * v)) * (kpw (u * ((((v * v) * v) * ((v * v) * v)) * v)) ei))), nk (v * (((u * ((v * v) * v)) * (kpw (u * ((((v * v) * v) * ((v * v) * v)) * v)) ei)) * ((u * ((v * v) * v)) * (kpw (u * ((((v * v) * v) * ((v * v) * v)) * v)) ei)))), isv (.pointer (some ⟨w.heap.size, 0, none⟩)), nk u, isv (.bool false), isv (.bool true)]) (pre := [(2, 6), (3, 0), (7, 2)])
    (plan := [Pk.val [(3, 0)] 1, Pk.val [(7, 2)] 3, Pk.val [(7, 2)] 3, Pk.val [(26, 3), (27, 3)] 4, Pk.val [(25, 1), (28, 4)] 5, Pk.val [(2, 6)] 7, Pk.val [(29, 5), (30, 7)] 8, Pk.val [(31, 8)] 9])
    [] [] [] (by kernel_rfl) 51 (by kernel_rfl) rfl (by kernel_rfl) ⟨.inr (lv0 _ _ _), ⟨.inr (lull_n _ _ _), ⟨.inr (lv0 _ _ _), ⟨.inr (lull_n _ _ _), ⟨.inr (lull_n _ _ _), ⟨.inr (lull_n _ _ _), ⟨.inr (lv0 _ _ _), ⟨.inr (lull_n _ _ _), ⟨.inr (lv0 _ _ _), ⟨.inr (lv0 _ _ _), trivial⟩⟩⟩⟩⟩⟩⟩⟩⟩⟩
    snkAt0 snk0 ⟨rfl, ⟨rfl, ⟨rfl, trivial⟩⟩⟩
   (Oc3 (fun a w X_ h => g_ldn NP1.out (wq0 rfl) rfl h.1 (X_.at_ R3.out.1 out0 R3.out.2))
   (Oc3 (fun a w X_ h => g_ldn N7.out (wq0 rfl) rfl h.1 (X_.at_ R7.out.1 out0 R7.out.2))
   (Oc3 (fun a w X_ h => g_ldn N7.out (wq0 rfl) rfl h.1 (X_.at_ R7.out.1 out0 R7.out.2))
   (Oc3 (fun a w X_ h => g_call2 (wq0 rfl) (by kernel_rfl) rfl (n_mul h.1 h.2.1))
   (Oc3 (fun a w X_ h => g_call2 (wq0 rfl) (by kernel_rfl) rfl (n_mul h.1 h.2.1))
   (Oc3 (fun a w X_ h => g_ldn NP0.out (wq0 rfl) rfl h.1 (X_.at_ R2.out.1 out0 R2.out.2))
   (Oc3 (fun a w X_ h => g_call2 (wq0 rfl) (by kernel_rfl) rfl (n_same h.1 h.2.1 (iff_f HA.out)))
   (Oc3 (fun a w X_ h => g_not (wq0 rfl) rfl h.1 rfl)
      OkL3.nil)))))))) ?_
  rintro W4 X4 v25 - v26 - v27 - v28 - v29 - v30 - _ rfl _ rfl
  refine Fd3 ?_
  simp only [Act.put, List.setIfInBounds_toArray, List.set_cons_zero, List.set_cons_succ]
  replace R2 := hide (X4.row out0 R2.out)
  replace R3 := hide (X4.row out0 R3.out)
  replace R4 := hide (X4.row out0 R4.out)
  replace R6 := hide (X4.row out0 R6.out)
  replace R7 := hide (X4.row out0 R7.out)
  replace BEL := hide (X4.on BEL.out SZ.out none_le)
  replace SZ := hide BEL.out.size
  have SW4 := X4.size
  clear X4
  go_upto_region 4 with fail
  refine wrt3 (tl := [nk ((u * ((v * v) * v)) * (kpw (u * ((((v * v) * v) * ((v * v) * v)) * v)) ei)), nk rm, nk (((u * ((v * v) * v)) * (kpw (u * ((((v * v) * v) * ((v * v) * v)) * v)) ei)) * rm)]) (pre := [])
    (plan := [Pk.ld 0 7 0, Pk.val [] 1, Pk.val [(33, 0), (34, 1)] 2, Pk.put 0 7 35 2])
    [] [(g7, 37, 16)] [(0, 7)] (by kernel_rfl) 51 (by kernel_rfl) rfl (by kernel_rfl) ⟨.inr (lull_n _ _ _), ⟨.inr (lull_n _ _ _), ⟨.inr (lull_n _ _ _), trivial⟩⟩⟩
    (snkAt1 R7.out (N7.out.size) rfl) (snk1 _) trivial
   (Oc3 (fun a w X_ h hr => g_ldn N7.out (wq0 rfl) rfl h (hr.trans R7.out.2))
   (Oc3 (fun a w X_ h => g_call0 (wq0 rfl) (by kernel_rfl) rfl (n_rm))
   (Oc3 (fun a w X_ h => g_call2 (wq0 rfl) (by kernel_rfl) rfl (n_mul h.1 h.2.1))
   (Oc3 (⟨rfl, _, _, _, rfl, rfl, by kernel_rfl, row_n _⟩)
      OkL3.nil)))) ?_
  rintro W5 X5 v33 - v34 - v35 - c7 r7 H7
  refine Fd3 ?_
  simp only [Act.put, List.setIfInBounds_toArray, List.set_cons_zero, List.set_cons_succ]
  replace N7 := hide (nk_of H7)
  replace R7 := hide (And.intro (Nat.lt_of_lt_of_le R7.out.1 X5.size) r7)
  clear r7
  replace R2 := hide (X5.row (out1 (by omega)) R2.out)
  replace R3 := hide (X5.row (out1 (by omega)) R3.out)
  replace R4 := hide (X5.row (out1 (by omega)) R4.out)
  replace R6 := hide (X5.row (out1 (by omega)) R6.out)
  replace BEL := hide (X5.on BEL.out SZ.out (one_le (by omega)))
  replace SZ := hide BEL.out.size
  have SW5 := X5.size
  clear X5
  clear H7
  go_upto_region 5 with fail
  refine wrt3 (tl := [isv (.pointer (some ⟨w.heap.size + 1, 0, none⟩)), nk v, isv (.pointer (some ⟨g7, 0, none⟩)), nk (((u * ((v * v) * v)) * (kpw (u * ((((v * v) * v) * ((v * v) * v)) * v)) ei)) * rm), nk ((((u * ((v * v) * v)) * (kpw (u * ((((v * v) * v) * ((v * v) * v)) * v)) ei)) * rm) * (((u * ((v * v) * v)) * (kpw (u * ((((v * v) * v) * ((v * v) * v)) * v)) ei)) * rm)), nk (v * ((((u * ((v * v) * v)) * (kpw (u * ((((v * v) * v) * ((v * v) * v)) * v)) ei)) * rm) * (((u * ((v * v) * v)) * (kpw (u * ((((v * v) * v) * ((v * v) * v)) * v)) ei)) * rm))), isv (.pointer (some ⟨w.heap.size, 0, none⟩)), nk u, isv (.bool false), isv (.bool true)]) (pre := [(2, 6), (3, 0), (7, 2)])
    (plan := [Pk.val [(3, 0)] 1, Pk.val [(7, 2)] 3, Pk.val [(7, 2)] 3, Pk.val [(37, 3), (38, 3)] 4, Pk.val [(36, 1), (39, 4)] 5, Pk.val [(2, 6)] 7, Pk.val [(40, 5), (41, 7)] 8, Pk.val [(42, 8)] 9])
    [] [] [] (by kernel_rfl) 51 (by kernel_rfl) rfl (by kernel_rfl) ⟨.inr (lv0 _ _ _), ⟨.inr (lull_n _ _ _), ⟨.inr (lv0 _ _ _), ⟨.inr (lull_n _ _ _), ⟨.inr (lull_n _ _ _), ⟨.inr (lull_n _ _ _), ⟨.inr (lv0 _ _ _), ⟨.inr (lull_n _ _ _), ⟨.inr (lv0 _ _ _), ⟨.inr (lv0 _ _ _), trivial⟩⟩⟩⟩⟩⟩⟩⟩⟩⟩
    snkAt0 snk0 ⟨rfl, ⟨rfl, ⟨rfl, trivial⟩⟩⟩
   (Oc3 (fun a w X_ h => g_ldn NP1.out (wq0 rfl) rfl h.1 (X_.at_ R3.out.1 out0 R3.out.2))
   (Oc3 (fun a w X_ h => g_ldn N7.out (wq0 rfl) rfl h.1 (X_.at_ R7.out.1 out0 R7.out.2))
   (Oc3 (fun a w X_ h => g_ldn N7.out (wq0 rfl) rfl h.1 (X_.at_ R7.out.1 out0 R7.out.2))
   (Oc3 (fun a w X_ h => g_call2 (wq0 rfl) (by kernel_rfl) rfl (n_mul h.1 h.2.1))
   (Oc3 (fun a w X_ h => g_call2 (wq0 rfl) (by kernel_rfl) rfl (n_mul h.1 h.2.1))
   (Oc3 (fun a w X_ h => g_ldn NP0.out (wq0 rfl) rfl h.1 (X_.at_ R2.out.1 out0 R2.out.2))
   (Oc3 (fun a w X_ h => g_call2 (wq0 rfl) (by kernel_rfl) rfl (n_same h.1 h.2.1 (iff_f HB.out)))
   (Oc3 (fun a w X_ h => g_not (wq0 rfl) rfl h.1 rfl)
      OkL3.nil)))))))) ?_
  rintro W6 X6 v36 - v37 - v38 - v39 - v40 - v41 - _ rfl _ rfl
  refine Fd3 ?_
  simp only [Act.put, List.setIfInBounds_toArray, List.set_cons_zero, List.set_cons_succ]
  replace R2 := hide (X6.row out0 R2.out)
  replace R3 := hide (X6.row out0 R3.out)
  replace R4 := hide (X6.row out0 R4.out)
  replace R6 := hide (X6.row out0 R6.out)
  replace R7 := hide (X6.row out0 R7.out)
  replace BEL := hide (X6.on BEL.out SZ.out none_le)
  replace SZ := hide BEL.out.size
  have SW6 := X6.size
  clear X6
  go_upto_region 6 with fail
  refine wrl3 (tl := [nk (0 : Kp), isv (.bool false)]) (pre := [])
    (plan := [Pk.val [] 0, Pk.put 0 4 44 0, Pk.val [] 1])
    [] [(w.heap.size + 1 + 1, 37, 16)] [(0, 4)] 51 (by kernel_rfl) rfl (by kernel_rfl) ⟨.inr (lull_n _ _ _), ⟨.inr (lv0 _ _ _), trivial⟩⟩
    (snkAt1 R4.out rfl rfl) (snk1 _) trivial
   (Oc3 (fun a w X_ h => g_nz (wq0 rfl) rfl)
   (Oc3 (⟨rfl, _, _, _, rfl, rfl, by kernel_rfl, row_n _⟩)
   (Oc3 (fun a w X_ h => g_move (wq0 rfl) (.inr rfl) rfl)
      OkL3.nil))) ?_
  rintro W7 X7 v44 - c4 r4 H4 _ rfl
  refine Fd3 ?_
  simp only [Act.put, List.setIfInBounds_toArray, List.set_cons_zero, List.set_cons_succ]
  have N4 := hide (nk_of H4)
  replace R4 := hide (And.intro (Nat.lt_of_lt_of_le R4.out.1 X7.size) r4)
  clear r4
  replace R2 := hide (X7.row (out1 (by omega)) R2.out)
  replace R3 := hide (X7.row (out1 (by omega)) R3.out)
  replace R6 := hide (X7.row (out1 (by omega)) R6.out)
  replace R7 := hide (X7.row (out1 (by omega)) R7.out)
  replace BEL := hide (X7.on BEL.out SZ.out (one_le (by omega)))
  replace SZ := hide BEL.out.size
  have SW7 := X7.size
  clear X7
  clear H4
  go_wp2
  exact bodyPost_ret_by (results_row_tmp rfl _ _ (w.heap.size + 1 + 1) 37 _ (0, 0) _ rfl R4.out.2 undN rfl (by rw [N4.out.size]; exact sizeN)) rfl ⟨_, rfl, BEL.out, HR.out _ _ N4.out⟩
theorem n_root {u v : Kp} {u0 u1 : Value} {w : World} (h0 : (nk u).p w u0) (h1 : (nk v).p w u1) : Hands Tryz.prog 73 #[u0, u1] w (nkb ((rt u v).getD 0) (rt u v).isSome) := by
  obtain ⟨C, rfl, hq0⟩ := h0
  obtain ⟨D, rfl, hq1⟩ := h1
  unfold rt
  by_cases ha : v * rt0 u v * rt0 u v = u
  · rw [if_pos ha]
    unfold ev
    have ha' : v * (rt0 u v * rt0 u v) = u := by rw [rt_one]; exact ha
    by_cases ho : (rt0 u v).val % 2 = 1
    · rw [if_pos ho, ← k_zsub]; exact nroot_a1 hq0 hq1 ha' ho
    · rw [if_neg ho]; exact nroot_a0 hq0 hq1 ha' ho
  · rw [if_neg ha]
    have ha' : ¬ v * (rt0 u v * rt0 u v) = u := by rw [rt_one]; exact ha
    by_cases hb : -(v * rt0 u v * rt0 u v) = u
    · rw [if_pos hb]
      unfold ev
      have hb' : v * ((rt0 u v * rm) * (rt0 u v * rm)) = u := by rw [rt_two]; exact hb
      by_cases ho : (rt0 u v * rm).val % 2 = 1
      · rw [if_pos ho, ← k_zsub]; exact nroot_b1 hq0 hq1 ha' hb' ho
      · rw [if_neg ho]; exact nroot_b0 hq0 hq1 ha' hb' ho
    · rw [if_neg hb]
      have hb' : ¬ v * ((rt0 u v * rm) * (rt0 u v * rm)) = u := by rw [rt_two]; exact hb
      exact nroot_c hq0 hq1 ha' hb'
end Go.Proofs.YtobgimpkkjaolaaGreatDoor
