/- The page's points: nothing, the base, sums, turned about, as its calls answer them. -/
import Derived.Test.YtobgimpkkjaolaaGreatDoorTyR
namespace Go.Proofs.YtobgimpkkjaolaaGreatDoor
open Go.RowKit
theorem ok_list {l : List Int} (h : l.all (fun x => decide (-1048576 ≤ x ∧ x ≤ 1048576)) = true) : Ok l := fun i => by
  rw [List.getD_eq_getElem?_getD]
  cases hi : l[i]? with
  | none => decide
  | some x => exact of_decide_eq_true (List.all_eq_true.1 h x (List.mem_of_getElem? hi))
theorem g_nc {ops : Array Oper} {Q : Exit → Act → World → Prop} {o : Oper} {a : Act} {w : World} {k : Kp} {l : List Int} {parts : Array (Nat × Operand)} (hw : Region.wanted o (yielded ops a.tmps) = true) (ho : o.op = .build 37 parts) (hr : Rep l k.val) (hb : (Instr.build 37 (parts.map fun (i, x) => (i, a.eval x))).run Tryz.prog w = .ok (.agg (ia l)) w) : Gives Tryz.prog ops Q o (nk k) a w :=
  g_bld hw ho hb ⟨_, rfl, rn_val rfl hr rfl⟩
theorem rep_dd : Rep [30883, 4953, 19914, 30187, 55467, 16705, 2637, 112, 59544, 30585, 16505, 36039, 65139, 11119, 27886, 20995] dd.val := ⟨rfl, ok_list (by decide +kernel), by decide +kernel⟩
theorem rep_bx : Rep [54554, 36645, 11616, 51542, 42930, 38181, 51040, 26924, 56412, 64982, 57905, 49316, 21502, 52590, 14035, 8553] bx.val := ⟨rfl, ok_list (by decide +kernel), by decide +kernel⟩
theorem rep_by : Rep [26200, 26214, 26214, 26214, 26214, 26214, 26214, 26214, 26214, 26214, 26214, 26214, 26214, 26214, 26214, 26214] byy.val := ⟨rfl, ok_list (by decide +kernel), by decide +kernel⟩
set_option maxRecDepth 100000 in
set_option maxHeartbeats 4000000 in
theorem n_dd {w : World}  : Hands Tryz.prog 76 #[] w (nk dd) := by
  suffices HH : ∀ R_ : STy, (∀ W C, RN C dd → R_.p W (.agg C)) → Hands Tryz.prog 76 #[] w R_ from HH _ (fun _ C h => ⟨C, rfl, h⟩)
  intro R_ hR_
  have HR := hide hR_
  clear hR_
  unfold Hands
  go_enter Tryz.func76, Tryz.ntmps76
  go_upto_region 1 with fail
  refine cut_world (fun W => Below w.heap.size w W ∧ (w.heap.size < W.heap.size ∧ W.heap[w.heap.size]? = some (.cells zn 37 (0, 0)))) ⟨(Below.refl _ _).alloc (Nat.le_refl _) _, by simp, heap_alloc_last _ _⟩ ?_
  rintro W1 ⟨BEL, R0⟩
  replace BEL := hide BEL
  have SZ := hide BEL.out.size
  replace R0 := hide R0
  have SW1 := (R0.out.1)
  refine wrl3 (tl := [nk dd]) (pre := [])
    (plan := [Pk.val [] 0, Pk.put 0 0 1 0])
    [] [(w.heap.size, 37, 16)] [(0, 0)] 2 (by kernel_rfl) rfl (by kernel_rfl) ⟨.inr (lull_n _ _ _), trivial⟩
    (snkAt1 R0.out rfl rfl) (snk1 _) trivial
   (Oc3 (fun a w X_ h => g_nc (wq0 rfl) rfl rep_dd (by kernel_rfl))
   (Oc3 (⟨rfl, _, _, _, rfl, rfl, by kernel_rfl, row_n _⟩)
      OkL3.nil)) ?_
  rintro W2 X2 v1 - c0 r0 H0
  refine Fd3 ?_
  simp only [Act.put, List.setIfInBounds_toArray, List.set_cons_zero, List.set_cons_succ]
  have N0 := hide (nk_of H0)
  replace R0 := hide (And.intro (Nat.lt_of_lt_of_le R0.out.1 X2.size) r0)
  clear r0
  replace BEL := hide (X2.on BEL.out SZ.out (one_le (by omega)))
  replace SZ := hide BEL.out.size
  have SW2 := X2.size
  clear X2
  clear H0
  go_wp2
  exact bodyPost_ret_by (results_cell_row rfl _ _ (w.heap.size) 37 _ (0, 0) _ rfl R0.out.2 undN rfl (by rw [N0.out.size]; exact sizeN)) rfl ⟨_, rfl, BEL.out, HR.out _ _ N0.out⟩
set_option maxRecDepth 100000 in
set_option maxHeartbeats 4000000 in
theorem q_zero {w : World}  : Hands Tryz.prog 44 #[] w (qk (0 : Kp) (1 : Kp) (1 : Kp) (0 : Kp)) := by
  suffices HH : ∀ R_ : STy, (∀ W C, RQ C (0 : Kp) (1 : Kp) (1 : Kp) (0 : Kp) → R_.p W (.agg C)) → Hands Tryz.prog 44 #[] w R_ from HH _ (fun _ C h => ⟨C, rfl, h⟩)
  intro R_ hR_
  have HR := hide hR_
  clear hR_
  unfold Hands
  go_enter Tryz.func44, Tryz.ntmps44
  go_upto_region 1 with fail
  refine cut_world (fun W => Below w.heap.size w W ∧ (w.heap.size < W.heap.size ∧ W.heap[w.heap.size]? = some (.cells zq 39 (0, 0)))) ⟨(Below.refl _ _).alloc (Nat.le_refl _) _, by simp, heap_alloc_last _ _⟩ ?_
  rintro W1 ⟨BEL, R0⟩
  replace BEL := hide BEL
  have SZ := hide BEL.out.size
  replace R0 := hide R0
  have SW1 := (R0.out.1)
  refine wrl3 (tl := [nk (0 : Kp), nk (1 : Kp), qk (0 : Kp) (1 : Kp) (1 : Kp) (0 : Kp)]) (pre := [])
    (plan := [Pk.val [] 0, Pk.val [] 1, Pk.val [] 1, Pk.val [] 0, Pk.val [(1, 0), (2, 1), (3, 1), (4, 0)] 2, Pk.put 0 0 5 2])
    [] [(w.heap.size, 39, 64)] [(0, 0)] 6 (by kernel_rfl) rfl (by kernel_rfl) ⟨.inr (lull_n _ _ _), ⟨.inr (lull_n _ _ _), ⟨.inr (lull_q _ _ _ _ _ _), trivial⟩⟩⟩
    (snkAt1 R0.out rfl rfl) (snk1 _) trivial
   (Oc3 (fun a w X_ h => g_nz (wq0 rfl) rfl)
   (Oc3 (fun a w X_ h => g_call1 (wq0 rfl) (by kernel_rfl) rfl (n_one rfl))
   (Oc3 (fun a w X_ h => g_call1 (wq0 rfl) (by kernel_rfl) rfl (n_one rfl))
   (Oc3 (fun a w X_ h => g_nz (wq0 rfl) rfl)
   (Oc3 (fun a w X_ h => g_bq (wq0 rfl) rfl h.1 h.2.1 h.2.2.1 h.2.2.2.1)
   (Oc3 (⟨rfl, _, _, _, rfl, rfl, by kernel_rfl, row_q _ _ _ _⟩)
      OkL3.nil)))))) ?_
  rintro W2 X2 v1 - v2 - v3 - v4 - v5 - c0 r0 H0
  refine Fd3 ?_
  simp only [Act.put, List.setIfInBounds_toArray, List.set_cons_zero, List.set_cons_succ]
  have N0 := hide (qk_of H0)
  replace R0 := hide (And.intro (Nat.lt_of_lt_of_le R0.out.1 X2.size) r0)
  clear r0
  replace BEL := hide (X2.on BEL.out SZ.out (one_le (by omega)))
  replace SZ := hide BEL.out.size
  have SW2 := X2.size
  clear X2
  clear H0
  go_wp2
  exact bodyPost_ret_by (results_cell_row rfl _ _ (w.heap.size) 39 _ (0, 0) _ rfl R0.out.2 und36 rfl (by rw [N0.out.size]; exact sizeQ)) rfl ⟨_, rfl, BEL.out, HR.out _ _ N0.out⟩
set_option maxRecDepth 100000 in
set_option maxHeartbeats 4000000 in
theorem q_base {w : World}  : Hands Tryz.prog 18 #[] w (qk bx byy (1 : Kp) (bx * byy)) := by
  suffices HH : ∀ R_ : STy, (∀ W C, RQ C bx byy (1 : Kp) (bx * byy) → R_.p W (.agg C)) → Hands Tryz.prog 18 #[] w R_ from HH _ (fun _ C h => ⟨C, rfl, h⟩)
  intro R_ hR_
  have HR := hide hR_
  clear hR_
  unfold Hands
  go_enter Tryz.func18, Tryz.ntmps18
  go_upto_region 1 with fail
  refine cut_world (fun W => Below w.heap.size w W ∧ (w.heap.size < W.heap.size ∧ W.heap[w.heap.size]? = some (.cells zq 39 (0, 0)))) ⟨(Below.refl _ _).alloc (Nat.le_refl _) _, by simp, heap_alloc_last _ _⟩ ?_
  rintro W1 ⟨BEL, R0⟩
  replace BEL := hide BEL
  have SZ := hide BEL.out.size
  replace R0 := hide R0
  have SW1 := (R0.out.1)
  refine wrl3 (tl := [nk bx]) (pre := [])
    (plan := [Pk.val [] 0, Pk.alc 37 16, Pk.sto 1 3 0])
    [] [] [] 12 (by kernel_rfl) rfl (by kernel_rfl) ⟨.inr (lull_n _ _ _), trivial⟩
    snkAt0 snk0 trivial
   (Oc3 (fun a w X_ h => g_nc (wq0 rfl) rfl rep_bx (by kernel_rfl))
   (Oc3 (alc_of zn rfl rfl rfl newN)
   (Oc3 (⟨rfl, _, _, _, rfl, rfl, rfl, by kernel_rfl, row_n _⟩)
      OkL3.nil))) ?_
  rintro W2 X2 v3 - g1 c1 ⟨L1, Z1, -⟩ r1 H1
  refine FinL3.fill ?_
  refine Fd3 ?_
  simp only [Act.put, List.setIfInBounds_toArray, List.set_cons_zero, List.set_cons_succ]
  have N1 := hide (nk_of H1)
  have R1 := hide (And.intro Z1 r1)
  clear r1
  replace R0 := hide (X2.row out0 R0.out)
  replace BEL := hide (X2.on BEL.out SZ.out none_le)
  replace SZ := hide BEL.out.size
  have SW2 := X2.size
  clear X2
  clear H1
  go_upto_region 2 with fail
  refine wrl3 (tl := [nk byy]) (pre := [])
    (plan := [Pk.val [] 0, Pk.alc 37 16, Pk.sto 1 4 0])
    [] [] [] 12 (by kernel_rfl) rfl (by kernel_rfl) ⟨.inr (lull_n _ _ _), trivial⟩
    snkAt0 snk0 trivial
   (Oc3 (fun a w X_ h => g_nc (wq0 rfl) rfl rep_by (by kernel_rfl))
   (Oc3 (alc_of zn rfl rfl rfl newN)
   (Oc3 (⟨rfl, _, _, _, rfl, rfl, rfl, by kernel_rfl, row_n _⟩)
      OkL3.nil))) ?_
  rintro W3 X3 v4 - g2 c2 ⟨L2, Z2, -⟩ r2 H2
  refine FinL3.fill ?_
  refine Fd3 ?_
  simp only [Act.put, List.setIfInBounds_toArray, List.set_cons_zero, List.set_cons_succ]
  have N2 := hide (nk_of H2)
  have R2 := hide (And.intro Z2 r2)
  clear r2
  replace R0 := hide (X3.row out0 R0.out)
  replace R1 := hide (X3.row out0 R1.out)
  replace BEL := hide (X3.on BEL.out SZ.out none_le)
  replace SZ := hide BEL.out.size
  have SW3 := X3.size
  clear X3
  clear H2
  go_upto_region 3 with fail
  refine wrt3 (tl := [isv (.pointer (some ⟨g1, 0, none⟩)), nk bx, isv (.pointer (some ⟨g2, 0, none⟩)), nk byy, nk (1 : Kp), nk (bx * byy), qk bx byy (1 : Kp) (bx * byy)]) (pre := [(1, 0), (2, 2)])
    (plan := [Pk.val [(1, 0)] 1, Pk.val [(2, 2)] 3, Pk.val [] 4, Pk.val [(1, 0)] 1, Pk.val [(2, 2)] 3, Pk.val [(8, 1), (9, 3)] 5, Pk.val [(5, 1), (6, 3), (7, 4), (10, 5)] 6, Pk.put 0 0 11 6])
    [] [(w.heap.size, 39, 64)] [(0, 0)] (by kernel_rfl) 12 (by kernel_rfl) rfl (by kernel_rfl) ⟨.inr (lv0 _ _ _), ⟨.inr (lull_n _ _ _), ⟨.inr (lv0 _ _ _), ⟨.inr (lull_n _ _ _), ⟨.inr (lull_n _ _ _), ⟨.inr (lull_n _ _ _), ⟨.inr (lull_q _ _ _ _ _ _), trivial⟩⟩⟩⟩⟩⟩⟩
    (snkAt1 R0.out rfl rfl) (snk1 _) ⟨rfl, ⟨rfl, trivial⟩⟩
   (Oc3 (fun a w X_ h => g_ldn N1.out (wq0 rfl) rfl h.1 (X_.at_ R1.out.1 (out1 (by omega)) R1.out.2))
   (Oc3 (fun a w X_ h => g_ldn N2.out (wq0 rfl) rfl h.1 (X_.at_ R2.out.1 (out1 (by omega)) R2.out.2))
   (Oc3 (fun a w X_ h => g_call1 (wq0 rfl) (by kernel_rfl) rfl (n_one rfl))
   (Oc3 (fun a w X_ h => g_ldn N1.out (wq0 rfl) rfl h.1 (X_.at_ R1.out.1 (out1 (by omega)) R1.out.2))
   (Oc3 (fun a w X_ h => g_ldn N2.out (wq0 rfl) rfl h.1 (X_.at_ R2.out.1 (out1 (by omega)) R2.out.2))
   (Oc3 (fun a w X_ h => g_call2 (wq0 rfl) (by kernel_rfl) rfl (n_mul h.1 h.2.1))
   (Oc3 (fun a w X_ h => g_bq (wq0 rfl) rfl h.1 h.2.1 h.2.2.1 h.2.2.2.1)
   (Oc3 (⟨rfl, _, _, _, rfl, rfl, by kernel_rfl, row_q _ _ _ _⟩)
      OkL3.nil)))))))) ?_
  rintro W4 X4 v5 - v6 - v7 - v8 - v9 - v10 - v11 - c0 r0 H0
  refine Fd3 ?_
  simp only [Act.put, List.setIfInBounds_toArray, List.set_cons_zero, List.set_cons_succ]
  have N0 := hide (qk_of H0)
  replace R0 := hide (And.intro (Nat.lt_of_lt_of_le R0.out.1 X4.size) r0)
  clear r0
  replace R1 := hide (X4.row (out1 (by omega)) R1.out)
  replace R2 := hide (X4.row (out1 (by omega)) R2.out)
  replace BEL := hide (X4.on BEL.out SZ.out (one_le (by omega)))
  replace SZ := hide BEL.out.size
  have SW4 := X4.size
  clear X4
  clear H0
  go_wp2
  exact bodyPost_ret_by (results_cell_row rfl _ _ (w.heap.size) 39 _ (0, 0) _ rfl R0.out.2 und36 rfl (by rw [N0.out.size]; exact sizeQ)) rfl ⟨_, rfl, BEL.out, HR.out _ _ N0.out⟩
set_option maxRecDepth 100000 in
set_option maxHeartbeats 4000000 in
theorem q_plus {x1 y1 z1 t1 x2 y2 z2 t2 : Kp} {C0 C1 : Array Value} {w : World} (hq0 : RQ C0 x1 y1 z1 t1) (hq1 : RQ C1 x2 y2 z2 t2) : Hands Tryz.prog 36 #[.agg C0, .agg C1] w (qk ((((y1 + x1) * (y2 + x2)) - ((y1 - x1) * (y2 - x2))) * ((z1 * z2 + z1 * z2) - (t1 * t2 * (dd + dd)))) ((((y1 + x1) * (y2 + x2)) + ((y1 - x1) * (y2 - x2))) * ((z1 * z2 + z1 * z2) + (t1 * t2 * (dd + dd)))) (((z1 * z2 + z1 * z2) + (t1 * t2 * (dd + dd))) * ((z1 * z2 + z1 * z2) - (t1 * t2 * (dd + dd)))) ((((y1 + x1) * (y2 + x2)) - ((y1 - x1) * (y2 - x2))) * (((y1 + x1) * (y2 + x2)) + ((y1 - x1) * (y2 - x2))))) := by
  suffices HH : ∀ R_ : STy, (∀ W C, RQ C ((((y1 + x1) * (y2 + x2)) - ((y1 - x1) * (y2 - x2))) * ((z1 * z2 + z1 * z2) - (t1 * t2 * (dd + dd)))) ((((y1 + x1) * (y2 + x2)) + ((y1 - x1) * (y2 - x2))) * ((z1 * z2 + z1 * z2) + (t1 * t2 * (dd + dd)))) (((z1 * z2 + z1 * z2) + (t1 * t2 * (dd + dd))) * ((z1 * z2 + z1 * z2) - (t1 * t2 * (dd + dd)))) ((((y1 + x1) * (y2 + x2)) - ((y1 - x1) * (y2 - x2))) * (((y1 + x1) * (y2 + x2)) + ((y1 - x1) * (y2 - x2)))) → R_.p W (.agg C)) → Hands Tryz.prog 36 #[.agg C0, .agg C1] w R_ from HH _ (fun _ C h => ⟨C, rfl, h⟩)
  intro R_ hR_
  have HR := hide hR_
  clear hR_
  have NP0 := hide hq0
  clear hq0
  have NP1 := hide hq1
  clear hq1
  unfold Hands
  go_enter Tryz.func36, Tryz.ntmps36
  go_upto_region 1 with fail
  refine cut_world (fun W => Below w.heap.size w W ∧ (w.heap.size < W.heap.size ∧ W.heap[w.heap.size]? = some (.cells C0 39 (0, 0))) ∧ (w.heap.size + 1 < W.heap.size ∧ W.heap[w.heap.size + 1]? = some (.cells C1 39 (0, 0))) ∧ (w.heap.size + 1 + 1 < W.heap.size ∧ W.heap[w.heap.size + 1 + 1]? = some (.cells zq 39 (0, 0)))) ⟨below3 _ _ _ _, ⟨by simp; omega, heap3_0 _ _ _ _⟩, ⟨by simp, heap_alloc_mid3 _ _ _ _⟩, by simp, heap_alloc_last3 _ _ _ _⟩ ?_
  rintro W1 ⟨BEL, R2, R3, R4⟩
  replace BEL := hide BEL
  have SZ := hide BEL.out.size
  replace R2 := hide R2
  replace R3 := hide R3
  replace R4 := hide R4
  have SW1 := (R4.out.1)
  refine wrt3 (tl := [isv (.pointer (some ⟨w.heap.size, 0, none⟩)), isv (.pointer (some ⟨w.heap.size, 16 * 1, none⟩)), nk y1, isv (.pointer (some ⟨w.heap.size, 16 * 0, none⟩)), nk x1, nk (y1 - x1), isv (.pointer (some ⟨w.heap.size + 1, 0, none⟩)), isv (.pointer (some ⟨w.heap.size + 1, 16 * 1, none⟩)), nk y2, isv (.pointer (some ⟨w.heap.size + 1, 16 * 0, none⟩)), nk x2, nk (y2 - x2), nk ((y1 - x1) * (y2 - x2))]) (pre := [(2, 0), (3, 6)])
    (plan := [Pk.val [(2, 0)] 1, Pk.val [(13, 1)] 2, Pk.val [(2, 0)] 3, Pk.val [(15, 3)] 4, Pk.val [(14, 2), (16, 4)] 5, Pk.val [(3, 6)] 7, Pk.val [(18, 7)] 8, Pk.val [(3, 6)] 9, Pk.val [(20, 9)] 10, Pk.val [(19, 8), (21, 10)] 11, Pk.val [(17, 5), (22, 11)] 12, Pk.alc 37 16, Pk.sto 11 23 12])
    [] [] [] (by kernel_rfl) 77 (by kernel_rfl) rfl (by kernel_rfl) ⟨.inr (lv0 _ _ _), ⟨.inr (lv0 _ _ _), ⟨.inr (lull_n _ _ _), ⟨.inr (lv0 _ _ _), ⟨.inr (lull_n _ _ _), ⟨.inr (lull_n _ _ _), ⟨.inr (lv0 _ _ _), ⟨.inr (lv0 _ _ _), ⟨.inr (lull_n _ _ _), ⟨.inr (lv0 _ _ _), ⟨.inr (lull_n _ _ _), ⟨.inr (lull_n _ _ _), ⟨.inr (lull_n _ _ _), trivial⟩⟩⟩⟩⟩⟩⟩⟩⟩⟩⟩⟩⟩
    snkAt0 snk0 ⟨rfl, ⟨rfl, trivial⟩⟩
   (Oc3 (fun a w X_ h => g_atq 1 (by decide) (wq0 rfl) rfl h.1)
   (Oc3 (fun a w X_ h => g_ldq1 NP0.out (wq0 rfl) rfl h.1 (X_.at_ R2.out.1 out0 R2.out.2))
   (Oc3 (fun a w X_ h => g_atq 0 (by decide) (wq0 rfl) rfl h.1)
   (Oc3 (fun a w X_ h => g_ldq0 NP0.out (wq0 rfl) rfl h.1 (X_.at_ R2.out.1 out0 R2.out.2))
   (Oc3 (fun a w X_ h => g_call2 (wq0 rfl) (by kernel_rfl) rfl (n_sub h.1 h.2.1))
   (Oc3 (fun a w X_ h => g_atq 1 (by decide) (wq0 rfl) rfl h.1)
   (Oc3 (fun a w X_ h => g_ldq1 NP1.out (wq0 rfl) rfl h.1 (X_.at_ R3.out.1 out0 R3.out.2))
   (Oc3 (fun a w X_ h => g_atq 0 (by decide) (wq0 rfl) rfl h.1)
   (Oc3 (fun a w X_ h => g_ldq0 NP1.out (wq0 rfl) rfl h.1 (X_.at_ R3.out.1 out0 R3.out.2))
   (Oc3 (fun a w X_ h => g_call2 (wq0 rfl) (by kernel_rfl) rfl (n_sub h.1 h.2.1))
   (Oc3 (fun a w X_ h => g_call2 (wq0 rfl) (by kernel_rfl) rfl (n_mul h.1 h.2.1))
   (Oc3 (alc_of zn rfl rfl rfl newN)
   (Oc3 (⟨rfl, _, _, _, rfl, rfl, rfl, by kernel_rfl, row_n _⟩)
      OkL3.nil))))))))))))) ?_
  rintro W2 X2 _ rfl v14 - _ rfl v16 - v17 - _ rfl v19 - _ rfl v21 - v22 - v23 - g5 c5 ⟨L5, Z5, -⟩ r5 H5
  refine FinL3.fill ?_
  refine Fd3 ?_
  simp only [Act.put, List.setIfInBounds_toArray, List.set_cons_zero, List.set_cons_succ]
  have N5 := hide (nk_of H5)
  have R5 := hide (And.intro Z5 r5)
  clear r5
  replace R2 := hide (X2.row out0 R2.out)
  replace R3 := hide (X2.row out0 R3.out)
  replace R4 := hide (X2.row out0 R4.out)
  replace BEL := hide (X2.on BEL.out SZ.out none_le)
  replace SZ := hide BEL.out.size
  have SW2 := X2.size
  clear X2
  clear H5
  go_upto_region 2 with fail
  refine wrt3 (tl := [isv (.pointer (some ⟨w.heap.size, 0, none⟩)), isv (.pointer (some ⟨w.heap.size, 16 * 1, none⟩)), nk y1, isv (.pointer (some ⟨w.heap.size, 16 * 0, none⟩)), nk x1, nk (y1 + x1), isv (.pointer (some ⟨w.heap.size + 1, 0, none⟩)), isv (.pointer (some ⟨w.heap.size + 1, 16 * 1, none⟩)), nk y2, isv (.pointer (some ⟨w.heap.size + 1, 16 * 0, none⟩)), nk x2, nk (y2 + x2), nk ((y1 + x1) * (y2 + x2))]) (pre := [(2, 0), (3, 6)])
    (plan := [Pk.val [(2, 0)] 1, Pk.val [(24, 1)] 2, Pk.val [(2, 0)] 3, Pk.val [(26, 3)] 4, Pk.val [(25, 2), (27, 4)] 5, Pk.val [(3, 6)] 7, Pk.val [(29, 7)] 8, Pk.val [(3, 6)] 9, Pk.val [(31, 9)] 10, Pk.val [(30, 8), (32, 10)] 11, Pk.val [(28, 5), (33, 11)] 12, Pk.alc 37 16, Pk.sto 11 34 12])
    [] [] [] (by kernel_rfl) 77 (by kernel_rfl) rfl (by kernel_rfl) ⟨.inr (lv0 _ _ _), ⟨.inr (lv0 _ _ _), ⟨.inr (lull_n _ _ _), ⟨.inr (lv0 _ _ _), ⟨.inr (lull_n _ _ _), ⟨.inr (lull_n _ _ _), ⟨.inr (lv0 _ _ _), ⟨.inr (lv0 _ _ _), ⟨.inr (lull_n _ _ _), ⟨.inr (lv0 _ _ _), ⟨.inr (lull_n _ _ _), ⟨.inr (lull_n _ _ _), ⟨.inr (lull_n _ _ _), trivial⟩⟩⟩⟩⟩⟩⟩⟩⟩⟩⟩⟩⟩
    snkAt0 snk0 ⟨rfl, ⟨rfl, trivial⟩⟩
   (Oc3 (fun a w X_ h => g_atq 1 (by decide) (wq0 rfl) rfl h.1)
   (Oc3 (fun a w X_ h => g_ldq1 NP0.out (wq0 rfl) rfl h.1 (X_.at_ R2.out.1 out0 R2.out.2))
   (Oc3 (fun a w X_ h => g_atq 0 (by decide) (wq0 rfl) rfl h.1)
   (Oc3 (fun a w X_ h => g_ldq0 NP0.out (wq0 rfl) rfl h.1 (X_.at_ R2.out.1 out0 R2.out.2))
   (Oc3 (fun a w X_ h => g_call2 (wq0 rfl) (by kernel_rfl) rfl (n_add h.1 h.2.1))
   (Oc3 (fun a w X_ h => g_atq 1 (by decide) (wq0 rfl) rfl h.1)
   (Oc3 (fun a w X_ h => g_ldq1 NP1.out (wq0 rfl) rfl h.1 (X_.at_ R3.out.1 out0 R3.out.2))
   (Oc3 (fun a w X_ h => g_atq 0 (by decide) (wq0 rfl) rfl h.1)
   (Oc3 (fun a w X_ h => g_ldq0 NP1.out (wq0 rfl) rfl h.1 (X_.at_ R3.out.1 out0 R3.out.2))
   (Oc3 (fun a w X_ h => g_call2 (wq0 rfl) (by kernel_rfl) rfl (n_add h.1 h.2.1))
   (Oc3 (fun a w X_ h => g_call2 (wq0 rfl) (by kernel_rfl) rfl (n_mul h.1 h.2.1))
   (Oc3 (alc_of zn rfl rfl rfl newN)
   (Oc3 (⟨rfl, _, _, _, rfl, rfl, rfl, by kernel_rfl, row_n _⟩)
      OkL3.nil))))))))))))) ?_
  rintro W3 X3 _ rfl v25 - _ rfl v27 - v28 - _ rfl v30 - _ rfl v32 - v33 - v34 - g6 c6 ⟨L6, Z6, -⟩ r6 H6
  refine FinL3.fill ?_
  refine Fd3 ?_
  simp only [Act.put, List.setIfInBounds_toArray, List.set_cons_zero, List.set_cons_succ]
  have N6 := hide (nk_of H6)
  have R6 := hide (And.intro Z6 r6)
  clear r6
  replace R2 := hide (X3.row out0 R2.out)
  replace R3 := hide (X3.row out0 R3.out)
  replace R4 := hide (X3.row out0 R4.out)
  replace R5 := hide (X3.row out0 R5.out)
  replace BEL := hide (X3.on BEL.out SZ.out none_le)
  replace SZ := hide BEL.out.size
  have SW3 := X3.size
  clear X3
  clear H6
  go_upto_region 3 with fail
  refine wrl3 (tl := [isv (.pointer (some ⟨w.heap.size, 0, none⟩)), isv (.pointer (some ⟨w.heap.size, 16 * 3, none⟩)), nk t1, isv (.pointer (some ⟨w.heap.size + 1, 0, none⟩)), isv (.pointer (some ⟨w.heap.size + 1, 16 * 3, none⟩)), nk t2, nk (t1 * t2), nk dd, nk (dd + dd), nk ((t1 * t2) * (dd + dd))]) (pre := [(2, 0), (3, 3)])
    (plan := [Pk.val [(2, 0)] 1, Pk.val [(35, 1)] 2, Pk.val [(3, 3)] 4, Pk.val [(37, 4)] 5, Pk.val [(36, 2), (38, 5)] 6, Pk.val [] 7, Pk.val [] 7, Pk.val [(40, 7), (41, 7)] 8, Pk.val [(39, 6), (42, 8)] 9, Pk.alc 37 16, Pk.sto 9 43 9])
    [] [] [] 77 (by kernel_rfl) rfl (by kernel_rfl) ⟨.inr (lv0 _ _ _), ⟨.inr (lv0 _ _ _), ⟨.inr (lull_n _ _ _), ⟨.inr (lv0 _ _ _), ⟨.inr (lv0 _ _ _), ⟨.inr (lull_n _ _ _), ⟨.inr (lull_n _ _ _), ⟨.inr (lull_n _ _ _), ⟨.inr (lull_n _ _ _), ⟨.inr (lull_n _ _ _), trivial⟩⟩⟩⟩⟩⟩⟩⟩⟩⟩
    snkAt0 snk0 ⟨rfl, ⟨rfl, trivial⟩⟩
   (Oc3 (fun a w X_ h => g_atq 3 (by decide) (wq0 rfl) rfl h.1)
   (Oc3 (fun a w X_ h => g_ldq3 NP0.out (wq0 rfl) rfl h.1 (X_.at_ R2.out.1 out0 R2.out.2))
   (Oc3 (fun a w X_ h => g_atq 3 (by decide) (wq0 rfl) rfl h.1)
   (Oc3 (fun a w X_ h => g_ldq3 NP1.out (wq0 rfl) rfl h.1 (X_.at_ R3.out.1 out0 R3.out.2))
   (Oc3 (fun a w X_ h => g_call2 (wq0 rfl) (by kernel_rfl) rfl (n_mul h.1 h.2.1))
   (Oc3 (fun a w X_ h => g_call0 (wq0 rfl) (by kernel_rfl) rfl (n_dd))
   (Oc3 (fun a w X_ h => g_call0 (wq0 rfl) (by kernel_rfl) rfl (n_dd))
   (Oc3 (fun a w X_ h => g_call2 (wq0 rfl) (by kernel_rfl) rfl (n_add h.1 h.2.1))
   (Oc3 (fun a w X_ h => g_call2 (wq0 rfl) (by kernel_rfl) rfl (n_mul h.1 h.2.1))
   (Oc3 (alc_of zn rfl rfl rfl newN)
   (Oc3 (⟨rfl, _, _, _, rfl, rfl, rfl, by kernel_rfl, row_n _⟩)
      OkL3.nil))))))))))) ?_
  rintro W4 X4 _ rfl v36 - _ rfl v38 - v39 - v40 - v41 - v42 - v43 - g7 c7 ⟨L7, Z7, -⟩ r7 H7
  refine FinL3.fill ?_
  refine Fd3 ?_
  simp only [Act.put, List.setIfInBounds_toArray, List.set_cons_zero, List.set_cons_succ]
  have N7 := hide (nk_of H7)
  have R7 := hide (And.intro Z7 r7)
  clear r7
  replace R2 := hide (X4.row out0 R2.out)
  replace R3 := hide (X4.row out0 R3.out)
  replace R4 := hide (X4.row out0 R4.out)
  replace R5 := hide (X4.row out0 R5.out)
  replace R6 := hide (X4.row out0 R6.out)
  replace BEL := hide (X4.on BEL.out SZ.out none_le)
  replace SZ := hide BEL.out.size
  have SW4 := X4.size
  clear X4
  clear H7
  go_upto_region 4 with fail
  refine wrl3 (tl := [isv (.pointer (some ⟨w.heap.size, 0, none⟩)), isv (.pointer (some ⟨w.heap.size, 16 * 2, none⟩)), nk z1, isv (.pointer (some ⟨w.heap.size + 1, 0, none⟩)), isv (.pointer (some ⟨w.heap.size + 1, 16 * 2, none⟩)), nk z2, nk (z1 * z2)]) (pre := [(2, 0), (3, 3)])
    (plan := [Pk.val [(2, 0)] 1, Pk.val [(44, 1)] 2, Pk.val [(3, 3)] 4, Pk.val [(46, 4)] 5, Pk.val [(45, 2), (47, 5)] 6, Pk.alc 37 16, Pk.sto 5 48 6])
    [] [] [] 77 (by kernel_rfl) rfl (by kernel_rfl) ⟨.inr (lv0 _ _ _), ⟨.inr (lv0 _ _ _), ⟨.inr (lull_n _ _ _), ⟨.inr (lv0 _ _ _), ⟨.inr (lv0 _ _ _), ⟨.inr (lull_n _ _ _), ⟨.inr (lull_n _ _ _), trivial⟩⟩⟩⟩⟩⟩⟩
    snkAt0 snk0 ⟨rfl, ⟨rfl, trivial⟩⟩
   (Oc3 (fun a w X_ h => g_atq 2 (by decide) (wq0 rfl) rfl h.1)
   (Oc3 (fun a w X_ h => g_ldq2 NP0.out (wq0 rfl) rfl h.1 (X_.at_ R2.out.1 out0 R2.out.2))
   (Oc3 (fun a w X_ h => g_atq 2 (by decide) (wq0 rfl) rfl h.1)
   (Oc3 (fun a w X_ h => g_ldq2 NP1.out (wq0 rfl) rfl h.1 (X_.at_ R3.out.1 out0 R3.out.2))
   (Oc3 (fun a w X_ h => g_call2 (wq0 rfl) (by kernel_rfl) rfl (n_mul h.1 h.2.1))
   (Oc3 (alc_of zn rfl rfl rfl newN)
   (Oc3 (⟨rfl, _, _, _, rfl, rfl, rfl, by kernel_rfl, row_n _⟩)
      OkL3.nil))))))) ?_
  rintro W5 X5 _ rfl v45 - _ rfl v47 - v48 - g8 c8 ⟨L8, Z8, -⟩ r8 H8
  refine FinL3.fill ?_
  refine Fd3 ?_
  simp only [Act.put, List.setIfInBounds_toArray, List.set_cons_zero, List.set_cons_succ]
  have N8 := hide (nk_of H8)
  have R8 := hide (And.intro Z8 r8)
  clear r8
  replace R2 := hide (X5.row out0 R2.out)
  replace R3 := hide (X5.row out0 R3.out)
  replace R4 := hide (X5.row out0 R4.out)
  replace R5 := hide (X5.row out0 R5.out)
  replace R6 := hide (X5.row out0 R6.out)
  replace R7 := hide (X5.row out0 R7.out)
  replace BEL := hide (X5.on BEL.out SZ.out none_le)
  replace SZ := hide BEL.out.size
  have SW5 := X5.size
  clear X5
  clear H8
  go_upto_region 5 with fail
  refine wrl3 (tl := [nk (z1 * z2), nk ((z1 * z2) + (z1 * z2))]) (pre := [])
    (plan := [Pk.ld 0 8 0, Pk.ld 0 8 0, Pk.val [(49, 0), (50, 0)] 1, Pk.put 0 8 51 1])
    [] [(g8, 37, 16)] [(0, 8)] 77 (by kernel_rfl) rfl (by kernel_rfl) ⟨.inr (lull_n _ _ _), ⟨.inr (lull_n _ _ _), trivial⟩⟩
    (snkAt1 R8.out (N8.out.size) rfl) (snk1 _) trivial
   (Oc3 (fun a w X_ h hr => g_ldn N8.out (wq0 rfl) rfl h (hr.trans R8.out.2))
   (Oc3 (fun a w X_ h hr => g_ldn N8.out (wq0 rfl) rfl h (hr.trans R8.out.2))
   (Oc3 (fun a w X_ h => g_call2 (wq0 rfl) (by kernel_rfl) rfl (n_add h.1 h.2.1))
   (Oc3 (⟨rfl, _, _, _, rfl, rfl, by kernel_rfl, row_n _⟩)
      OkL3.nil)))) ?_
  rintro W6 X6 v49 - v50 - v51 - c8 r8 H8
  refine Fd3 ?_
  simp only [Act.put, List.setIfInBounds_toArray, List.set_cons_zero, List.set_cons_succ]
  replace N8 := hide (nk_of H8)
  replace R8 := hide (And.intro (Nat.lt_of_lt_of_le R8.out.1 X6.size) r8)
  clear r8
  replace R2 := hide (X6.row (out1 (by omega)) R2.out)
  replace R3 := hide (X6.row (out1 (by omega)) R3.out)
  replace R4 := hide (X6.row (out1 (by omega)) R4.out)
  replace R5 := hide (X6.row (out1 (by omega)) R5.out)
  replace R6 := hide (X6.row (out1 (by omega)) R6.out)
  replace R7 := hide (X6.row (out1 (by omega)) R7.out)
  replace BEL := hide (X6.on BEL.out SZ.out (one_le (by omega)))
  replace SZ := hide BEL.out.size
  have SW6 := X6.size
  clear X6
  clear H8
  go_upto_region 6 with fail
  refine wrt3 (tl := [isv (.pointer (some ⟨g6, 0, none⟩)), nk ((y1 + x1) * (y2 + x2)), isv (.pointer (some ⟨g5, 0, none⟩)), nk ((y1 - x1) * (y2 - x2)), nk (((y1 + x1) * (y2 + x2)) - ((y1 - x1) * (y2 - x2))), isv (.pointer (some ⟨g8, 0, none⟩)), nk ((z1 * z2) + (z1 * z2)), isv (.pointer (some ⟨g7, 0, none⟩)), nk ((t1 * t2) * (dd + dd)), nk (((z1 * z2) + (z1 * z2)) - ((t1 * t2) * (dd + dd))), nk (((z1 * z2) + (z1 * z2)) + ((t1 * t2) * (dd + dd))), nk (((y1 + x1) * (y2 + x2)) + ((y1 - x1) * (y2 - x2)))]) (pre := [(5, 2), (6, 0), (7, 7), (8, 5)])
    (plan := (Pk.val [(6, 0)] 1 :: Pk.val [(5, 2)] 3 :: Pk.val [(52, 1), (53, 3)] 4 :: Pk.val [(8, 5)] 6 :: Pk.val [(7, 7)] 8 :: Pk.val [(55, 6), (56, 8)] 9 :: Pk.val [(8, 5)] 6 :: Pk.val [(7, 7)] 8 :: Pk.val [(58, 6), (59, 8)] 10 :: Pk.val [(6, 0)] 1 :: Pk.val [(5, 2)] 3 :: Pk.val [(61, 1), (62, 3)] 11 :: Pk.alc 37 16 :: Pk.alc 37 16 :: Pk.alc 37 16 :: Pk.alc 37 16 :: Pk.sto 12 54 4 :: Pk.sto 13 57 9 :: Pk.sto 14 60 10 :: Pk.sto 15 63 11 :: []))
    [] [] [] (by kernel_rfl) 77 (by kernel_rfl) rfl (by kernel_rfl) ⟨.inr (lv0 _ _ _), ⟨.inr (lull_n _ _ _), ⟨.inr (lv0 _ _ _), ⟨.inr (lull_n _ _ _), ⟨.inr (lull_n _ _ _), ⟨.inr (lv0 _ _ _), ⟨.inr (lull_n _ _ _), ⟨.inr (lv0 _ _ _), ⟨.inr (lull_n _ _ _), ⟨.inr (lull_n _ _ _), ⟨.inr (lull_n _ _ _), ⟨.inr (lull_n _ _ _), trivial⟩⟩⟩⟩⟩⟩⟩⟩⟩⟩⟩⟩
    snkAt0 snk0 ⟨rfl, ⟨rfl, ⟨rfl, ⟨rfl, trivial⟩⟩⟩⟩
   (Oc3 (fun a w X_ h => g_ldn N6.out (wq0 rfl) rfl h.1 (X_.at_ R6.out.1 out0 R6.out.2))
   (Oc3 (fun a w X_ h => g_ldn N5.out (wq0 rfl) rfl h.1 (X_.at_ R5.out.1 out0 R5.out.2))
   (Oc3 (fun a w X_ h => g_call2 (wq0 rfl) (by kernel_rfl) rfl (n_sub h.1 h.2.1))
   (Oc3 (fun a w X_ h => g_ldn N8.out (wq0 rfl) rfl h.1 (X_.at_ R8.out.1 out0 R8.out.2))
   (Oc3 (fun a w X_ h => g_ldn N7.out (wq0 rfl) rfl h.1 (X_.at_ R7.out.1 out0 R7.out.2))
   (Oc3 (fun a w X_ h => g_call2 (wq0 rfl) (by kernel_rfl) rfl (n_sub h.1 h.2.1))
   (Oc3 (fun a w X_ h => g_ldn N8.out (wq0 rfl) rfl h.1 (X_.at_ R8.out.1 out0 R8.out.2))
   (Oc3 (fun a w X_ h => g_ldn N7.out (wq0 rfl) rfl h.1 (X_.at_ R7.out.1 out0 R7.out.2))
   (Oc3 (fun a w X_ h => g_call2 (wq0 rfl) (by kernel_rfl) rfl (n_add h.1 h.2.1))
   (Oc3 (fun a w X_ h => g_ldn N6.out (wq0 rfl) rfl h.1 (X_.at_ R6.out.1 out0 R6.out.2))
   (Oc3 (fun a w X_ h => g_ldn N5.out (wq0 rfl) rfl h.1 (X_.at_ R5.out.1 out0 R5.out.2))
   (Oc3 (fun a w X_ h => g_call2 (wq0 rfl) (by kernel_rfl) rfl (n_add h.1 h.2.1))
   (Oc3 (alc_of zn rfl rfl rfl newN)
   (Oc3 (alc_of zn rfl rfl rfl newN)
   (Oc3 (alc_of zn rfl rfl rfl newN)
   (Oc3 (alc_of zn rfl rfl rfl newN)
   (Oc3 (⟨rfl, _, _, _, rfl, rfl, rfl, by kernel_rfl, row_n _⟩)
   (Oc3 (⟨rfl, _, _, _, rfl, rfl, rfl, by kernel_rfl, row_n _⟩)
   (Oc3 (⟨rfl, _, _, _, rfl, rfl, rfl, by kernel_rfl, row_n _⟩)
   (Oc3 (⟨rfl, _, _, _, rfl, rfl, rfl, by kernel_rfl, row_n _⟩)
      OkL3.nil)))))))))))))))))))) ?_
  rintro W7 X7 v52 - v53 - v54 - v55 - v56 - v57 - v58 - v59 - v60 - v61 - v62 - v63 - g9 c9 ⟨L9, Z9, -⟩ r9 H9 g10 c10 ⟨L10, Z10, -⟩ r10 H10 g11 c11 ⟨L11, Z11, -⟩ r11 H11 g12 c12 ⟨L12, Z12, -⟩ r12 H12
  refine FinL3.fill ?_
  refine FinL3.fill ?_
  refine FinL3.fill ?_
  refine FinL3.fill ?_
  refine Fd3 ?_
  simp only [Act.put, List.setIfInBounds_toArray, List.set_cons_zero, List.set_cons_succ]
  have N9 := hide (nk_of H9)
  have R9 := hide (And.intro Z9 r9)
  clear r9
  have N10 := hide (nk_of H10)
  have R10 := hide (And.intro Z10 r10)
  clear r10
  have N11 := hide (nk_of H11)
  have R11 := hide (And.intro Z11 r11)
  clear r11
  have N12 := hide (nk_of H12)
  have R12 := hide (And.intro Z12 r12)
  clear r12
  replace R2 := hide (X7.row out0 R2.out)
  replace R3 := hide (X7.row out0 R3.out)
  replace R4 := hide (X7.row out0 R4.out)
  replace R5 := hide (X7.row out0 R5.out)
  replace R6 := hide (X7.row out0 R6.out)
  replace R7 := hide (X7.row out0 R7.out)
  replace R8 := hide (X7.row out0 R8.out)
  replace BEL := hide (X7.on BEL.out SZ.out none_le)
  replace SZ := hide BEL.out.size
  have SW7 := X7.size
  clear X7
  clear H9 H10 H11 H12
  go_upto_region 7 with fail
  refine wrt3 (tl := [isv (.pointer (some ⟨g9, 0, none⟩)), nk (((y1 + x1) * (y2 + x2)) - ((y1 - x1) * (y2 - x2))), isv (.pointer (some ⟨g10, 0, none⟩)), nk (((z1 * z2) + (z1 * z2)) - ((t1 * t2) * (dd + dd))), nk ((((y1 + x1) * (y2 + x2)) - ((y1 - x1) * (y2 - x2))) * (((z1 * z2) + (z1 * z2)) - ((t1 * t2) * (dd + dd)))), isv (.pointer (some ⟨g12, 0, none⟩)), nk (((y1 + x1) * (y2 + x2)) + ((y1 - x1) * (y2 - x2))), isv (.pointer (some ⟨g11, 0, none⟩)), nk (((z1 * z2) + (z1 * z2)) + ((t1 * t2) * (dd + dd))), nk ((((y1 + x1) * (y2 + x2)) + ((y1 - x1) * (y2 - x2))) * (((z1 * z2) + (z1 * z2)) + ((t1 * t2) * (dd + dd)))), nk ((((z1 * z2) + (z1 * z2)) + ((t1 * t2) * (dd + dd))) * (((z1 * z2) + (z1 * z2)) - ((t1 * t2) * (dd + dd)))), nk ((((y1 + x1) * (y2 + x2)) - ((y1 - x1) * (y2 - x2))) * (((y1 + x1) * (y2 + x2)) + ((y1 - x1) * (y2 - x2)))), qk ((((y1 + x1) * (y2 + x2)) - ((y1 - x1) * (y2 - x2))) * (((z1 * z2) + (z1 * z2)) - ((t1 * t2) * (dd + dd)))) ((((y1 + x1) * (y2 + x2)) + ((y1 - x1) * (y2 - x2))) * (((z1 * z2) + (z1 * z2)) + ((t1 * t2) * (dd + dd)))) ((((z1 * z2) + (z1 * z2)) + ((t1 * t2) * (dd + dd))) * (((z1 * z2) + (z1 * z2)) - ((t1 * t2) * (dd + dd)))) ((((y1 + x1) * (y2 + x2)) - ((y1 - x1) * (y2 - x2))) * (((y1 + x1) * (y2 + x2)) + ((y1 - x1) * (y2 - x2))))]) (pre := [(9, 0), (10, 2), (11, 7), (12, 5)])
    (plan := [Pk.val [(9, 0)] 1, Pk.val [(10, 2)] 3, Pk.val [(64, 1), (65, 3)] 4, Pk.val [(12, 5)] 6, Pk.val [(11, 7)] 8, Pk.val [(67, 6), (68, 8)] 9, Pk.val [(11, 7)] 8, Pk.val [(10, 2)] 3, Pk.val [(70, 8), (71, 3)] 10, Pk.val [(9, 0)] 1, Pk.val [(12, 5)] 6, Pk.val [(73, 1), (74, 6)] 11, Pk.val [(66, 4), (69, 9), (72, 10), (75, 11)] 12, Pk.put 0 4 76 12])
    [] [(w.heap.size + 1 + 1, 39, 64)] [(0, 4)] (by kernel_rfl) 77 (by kernel_rfl) rfl (by kernel_rfl) ⟨.inr (lv0 _ _ _), ⟨.inr (lull_n _ _ _), ⟨.inr (lv0 _ _ _), ⟨.inr (lull_n _ _ _), ⟨.inr (lull_n _ _ _), ⟨.inr (lv0 _ _ _), ⟨.inr (lull_n _ _ _), ⟨.inr (lv0 _ _ _), ⟨.inr (lull_n _ _ _), ⟨.inr (lull_n _ _ _), ⟨.inr (lull_n _ _ _), ⟨.inr (lull_n _ _ _), ⟨.inr (lull_q _ _ _ _ _ _), trivial⟩⟩⟩⟩⟩⟩⟩⟩⟩⟩⟩⟩⟩
    (snkAt1 R4.out rfl rfl) (snk1 _) ⟨rfl, ⟨rfl, ⟨rfl, ⟨rfl, trivial⟩⟩⟩⟩
   (Oc3 (fun a w X_ h => g_ldn N9.out (wq0 rfl) rfl h.1 (X_.at_ R9.out.1 (out1 (by omega)) R9.out.2))
   (Oc3 (fun a w X_ h => g_ldn N10.out (wq0 rfl) rfl h.1 (X_.at_ R10.out.1 (out1 (by omega)) R10.out.2))
   (Oc3 (fun a w X_ h => g_call2 (wq0 rfl) (by kernel_rfl) rfl (n_mul h.1 h.2.1))
   (Oc3 (fun a w X_ h => g_ldn N12.out (wq0 rfl) rfl h.1 (X_.at_ R12.out.1 (out1 (by omega)) R12.out.2))
   (Oc3 (fun a w X_ h => g_ldn N11.out (wq0 rfl) rfl h.1 (X_.at_ R11.out.1 (out1 (by omega)) R11.out.2))
   (Oc3 (fun a w X_ h => g_call2 (wq0 rfl) (by kernel_rfl) rfl (n_mul h.1 h.2.1))
   (Oc3 (fun a w X_ h => g_ldn N11.out (wq0 rfl) rfl h.1 (X_.at_ R11.out.1 (out1 (by omega)) R11.out.2))
   (Oc3 (fun a w X_ h => g_ldn N10.out (wq0 rfl) rfl h.1 (X_.at_ R10.out.1 (out1 (by omega)) R10.out.2))
   (Oc3 (fun a w X_ h => g_call2 (wq0 rfl) (by kernel_rfl) rfl (n_mul h.1 h.2.1))
   (Oc3 (fun a w X_ h => g_ldn N9.out (wq0 rfl) rfl h.1 (X_.at_ R9.out.1 (out1 (by omega)) R9.out.2))
   (Oc3 (fun a w X_ h => g_ldn N12.out (wq0 rfl) rfl h.1 (X_.at_ R12.out.1 (out1 (by omega)) R12.out.2))
   (Oc3 (fun a w X_ h => g_call2 (wq0 rfl) (by kernel_rfl) rfl (n_mul h.1 h.2.1))
   (Oc3 (fun a w X_ h => g_bq (wq0 rfl) rfl h.1 h.2.1 h.2.2.1 h.2.2.2.1)
   (Oc3 (⟨rfl, _, _, _, rfl, rfl, by kernel_rfl, row_q _ _ _ _⟩)
      OkL3.nil)))))))))))))) ?_
  rintro W8 X8 v64 - v65 - v66 - v67 - v68 - v69 - v70 - v71 - v72 - v73 - v74 - v75 - v76 - c4 r4 H4
  refine Fd3 ?_
  simp only [Act.put, List.setIfInBounds_toArray, List.set_cons_zero, List.set_cons_succ]
  have N4 := hide (qk_of H4)
  replace R4 := hide (And.intro (Nat.lt_of_lt_of_le R4.out.1 X8.size) r4)
  clear r4
  replace R2 := hide (X8.row (out1 (by omega)) R2.out)
  replace R3 := hide (X8.row (out1 (by omega)) R3.out)
  replace R5 := hide (X8.row (out1 (by omega)) R5.out)
  replace R6 := hide (X8.row (out1 (by omega)) R6.out)
  replace R7 := hide (X8.row (out1 (by omega)) R7.out)
  replace R8 := hide (X8.row (out1 (by omega)) R8.out)
  replace R9 := hide (X8.row (out1 (by omega)) R9.out)
  replace R10 := hide (X8.row (out1 (by omega)) R10.out)
  replace R11 := hide (X8.row (out1 (by omega)) R11.out)
  replace R12 := hide (X8.row (out1 (by omega)) R12.out)
  replace BEL := hide (X8.on BEL.out SZ.out (one_le (by omega)))
  replace SZ := hide BEL.out.size
  have SW8 := X8.size
  clear X8
  clear H4
  go_wp2
  exact bodyPost_ret_by (results_cell_row rfl _ _ (w.heap.size + 1 + 1) 39 _ (0, 0) _ rfl R4.out.2 und36 rfl (by rw [N4.out.size]; exact sizeQ)) rfl ⟨_, rfl, BEL.out, HR.out _ _ N4.out⟩
set_option maxRecDepth 100000 in
set_option maxHeartbeats 4000000 in
theorem q_neg {x1 y1 z1 t1 : Kp} {C0 : Array Value} {w : World} (hq0 : RQ C0 x1 y1 z1 t1) : Hands Tryz.prog 37 #[.agg C0] w (qk (0 - x1) y1 z1 (0 - t1)) := by
  suffices HH : ∀ R_ : STy, (∀ W C, RQ C (0 - x1) y1 z1 (0 - t1) → R_.p W (.agg C)) → Hands Tryz.prog 37 #[.agg C0] w R_ from HH _ (fun _ C h => ⟨C, rfl, h⟩)
  intro R_ hR_
  have HR := hide hR_
  clear hR_
  have NP0 := hide hq0
  clear hq0
  unfold Hands
  go_enter Tryz.func37, Tryz.ntmps37
  go_upto_region 1 with fail
  refine cut_world (fun W => Below w.heap.size w W ∧ (w.heap.size < W.heap.size ∧ W.heap[w.heap.size]? = some (.cells C0 39 (0, 0))) ∧ (w.heap.size + 1 < W.heap.size ∧ W.heap[w.heap.size + 1]? = some (.cells zq 39 (0, 0)))) ⟨below2 _ _ _, ⟨by simp; omega, heap2_0 _ _ _⟩, by simp, heap2_1 _ _ _⟩ ?_
  rintro W1 ⟨BEL, R1, R2⟩
  replace BEL := hide BEL
  have SZ := hide BEL.out.size
  replace R1 := hide R1
  replace R2 := hide R2
  have SW1 := (R2.out.1)
  refine wrt3 (tl := [nk (0 : Kp), isv (.pointer (some ⟨w.heap.size, 0, none⟩)), isv (.pointer (some ⟨w.heap.size, 16 * 0, none⟩)), nk x1, nk ((0 : Kp) - x1), isv (.pointer (some ⟨w.heap.size, 16 * 1, none⟩)), nk y1, isv (.pointer (some ⟨w.heap.size, 16 * 2, none⟩)), nk z1, isv (.pointer (some ⟨w.heap.size, 16 * 3, none⟩)), nk t1, nk ((0 : Kp) - t1), qk ((0 : Kp) - x1) y1 z1 ((0 : Kp) - t1)]) (pre := [(1, 1)])
    (plan := [Pk.val [] 0, Pk.val [(1, 1)] 2, Pk.val [(4, 2)] 3, Pk.val [(3, 0), (5, 3)] 4, Pk.val [(1, 1)] 5, Pk.val [(7, 5)] 6, Pk.val [(1, 1)] 7, Pk.val [(9, 7)] 8, Pk.val [] 0, Pk.val [(1, 1)] 9, Pk.val [(12, 9)] 10, Pk.val [(11, 0), (13, 10)] 11, Pk.val [(6, 4), (8, 6), (10, 8), (14, 11)] 12, Pk.put 0 2 15 12])
    [] [(w.heap.size + 1, 39, 64)] [(0, 2)] (by kernel_rfl) 16 (by kernel_rfl) rfl (by kernel_rfl) ⟨.inr (lull_n _ _ _), ⟨.inr (lv0 _ _ _), ⟨.inr (lv0 _ _ _), ⟨.inr (lull_n _ _ _), ⟨.inr (lull_n _ _ _), ⟨.inr (lv0 _ _ _), ⟨.inr (lull_n _ _ _), ⟨.inr (lv0 _ _ _), ⟨.inr (lull_n _ _ _), ⟨.inr (lv0 _ _ _), ⟨.inr (lull_n _ _ _), ⟨.inr (lull_n _ _ _), ⟨.inr (lull_q _ _ _ _ _ _), trivial⟩⟩⟩⟩⟩⟩⟩⟩⟩⟩⟩⟩⟩
    (snkAt1 R2.out rfl rfl) (snk1 _) ⟨rfl, trivial⟩
   (Oc3 (fun a w X_ h => g_nz (wq0 rfl) rfl)
   (Oc3 (fun a w X_ h => g_atq 0 (by decide) (wq0 rfl) rfl h.1)
   (Oc3 (fun a w X_ h => g_ldq0 NP0.out (wq0 rfl) rfl h.1 (X_.at_ R1.out.1 (out1 (by omega)) R1.out.2))
   (Oc3 (fun a w X_ h => g_call2 (wq0 rfl) (by kernel_rfl) rfl (n_sub h.1 h.2.1))
   (Oc3 (fun a w X_ h => g_atq 1 (by decide) (wq0 rfl) rfl h.1)
   (Oc3 (fun a w X_ h => g_ldq1 NP0.out (wq0 rfl) rfl h.1 (X_.at_ R1.out.1 (out1 (by omega)) R1.out.2))
   (Oc3 (fun a w X_ h => g_atq 2 (by decide) (wq0 rfl) rfl h.1)
   (Oc3 (fun a w X_ h => g_ldq2 NP0.out (wq0 rfl) rfl h.1 (X_.at_ R1.out.1 (out1 (by omega)) R1.out.2))
   (Oc3 (fun a w X_ h => g_nz (wq0 rfl) rfl)
   (Oc3 (fun a w X_ h => g_atq 3 (by decide) (wq0 rfl) rfl h.1)
   (Oc3 (fun a w X_ h => g_ldq3 NP0.out (wq0 rfl) rfl h.1 (X_.at_ R1.out.1 (out1 (by omega)) R1.out.2))
   (Oc3 (fun a w X_ h => g_call2 (wq0 rfl) (by kernel_rfl) rfl (n_sub h.1 h.2.1))
   (Oc3 (fun a w X_ h => g_bq (wq0 rfl) rfl h.1 h.2.1 h.2.2.1 h.2.2.2.1)
   (Oc3 (⟨rfl, _, _, _, rfl, rfl, by kernel_rfl, row_q _ _ _ _⟩)
      OkL3.nil)))))))))))))) ?_
  rintro W2 X2 v3 - _ rfl v5 - v6 - _ rfl v8 - _ rfl v10 - v11 - _ rfl v13 - v14 - v15 - c2 r2 H2
  refine Fd3 ?_
  simp only [Act.put, List.setIfInBounds_toArray, List.set_cons_zero, List.set_cons_succ]
  have N2 := hide (qk_of H2)
  replace R2 := hide (And.intro (Nat.lt_of_lt_of_le R2.out.1 X2.size) r2)
  clear r2
  replace R1 := hide (X2.row (out1 (by omega)) R1.out)
  replace BEL := hide (X2.on BEL.out SZ.out (one_le (by omega)))
  replace SZ := hide BEL.out.size
  have SW2 := X2.size
  clear X2
  clear H2
  go_wp2
  exact bodyPost_ret_by (results_cell_row rfl _ _ (w.heap.size + 1) 39 _ (0, 0) _ rfl R2.out.2 und36 rfl (by rw [N2.out.size]; exact sizeQ)) rfl ⟨_, rfl, BEL.out, HR.out _ _ N2.out⟩
end Go.Proofs.YtobgimpkkjaolaaGreatDoor
