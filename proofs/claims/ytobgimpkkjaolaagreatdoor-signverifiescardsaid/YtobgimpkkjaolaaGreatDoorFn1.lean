/- One by a number, and a point's y, as the program answers them. -/
import Derived.Test.YtobgimpkkjaolaaGreatDoorTyL
namespace Go.Proofs.YtobgimpkkjaolaaGreatDoor
open Go.RowKit
theorem agg_inj {A B : Array Value} (h : Value.agg A = .agg B) : A = B := by injection h
def exw : List Nat := [18446744073709551595, 18446744073709551615, 18446744073709551615, 9223372036854775807]
theorem exw_lim : lim exw := lim4_mk (by decide)
theorem exw_val : val exw = ex := by decide +kernel
set_option maxRecDepth 100000 in
set_option maxHeartbeats 2000000 in
theorem k_inv {x : Kp} {u0 : Value} {w : World} (h0 : u0 = .agg (el x.val)) (LDi : LaidW 2 exw w) : Hands Tryz.prog 95 #[u0] w (isk (kinv x)) := by
  subst h0
  suffices HH : ∀ R_ : STy, (∀ W, R_.p W (.agg (el (kinv x).val))) → Hands Tryz.prog 95 #[.agg (el x.val)] w R_ from HH _ (fun _ => rfl)
  intro R_ hR_
  replace LDi := hide LDi
  obtain ⟨A0, hA0⟩ : ∃ A_, A_ = el x.val := ⟨_, rfl⟩
  rw [← hA0]
  have EA0 := hide hA0
  clear hA0
  have HR := hide hR_
  clear hR_
  unfold Hands
  go_enter Tryz.func95, Tryz.ntmps95
  go_upto_region 1 with fail
  refine cut_world (fun W => Below w.heap.size w W ∧ (w.heap.size < W.heap.size ∧ W.heap[w.heap.size]? = some (.cells A0 47 (0, 0))) ∧ (w.heap.size + 1 < W.heap.size ∧ W.heap[w.heap.size + 1]? = some (.cells zk 47 (0, 0)))) ⟨below2 _ _ _, ⟨by simp; omega, heap2_0 _ _ _⟩, by simp, heap2_1 _ _ _⟩ ?_
  rintro W1 ⟨BEL, R1, R2⟩
  replace BEL := hide BEL
  have SZ := hide BEL.out.size
  replace R1 := hide R1
  replace R2 := hide R2
  have hA0 := EA0.out
  subst hA0
  clear EA0
  have SW1 := (R2.out.1)
  refine wrl3 (tl := [isv (.pointer (some ⟨w.heap.size, 0, none⟩)), isk x, isw exw, isk (kinv x)]) (pre := [(1, 0)])
    (plan := [.val [(1, 0)] 1, .val [] 2, .val [(3, 1), (4, 2)] 3, .put 0 2 5 3])
    [] [(w.heap.size + 1, 47, 4)] [(0, 2)] 6 (by kernel_rfl) rfl (by kernel_rfl) ⟨.inr (lv0 _ _ _), ⟨.inr (lull_k _ _ _), ⟨.inr (lv0 _ _ _), ⟨.inr (lull_k _ _ _), trivial⟩⟩⟩⟩
    (snkAt1 R2.out rfl rfl) (snk1 _) ⟨rfl, trivial⟩
   (Oc3 (fun a w X_ h => g_ldk (wq0 rfl) rfl h.1 (X_.at_ R1.out.1 (out1 (by omega)) R1.out.2))
   (Oc3 (fun a w X_ h => g_glb (wq0 rfl) rfl (LDi.out.step (X_.on BEL.out SZ.out (one_le (by omega)))) rfl)
   (Oc3 (fun a w X_ h => g_call2 (wq0 rfl) (by kernel_rfl) rfl (k_pow h.1 h.2.1 rfl exw_lim exw_val))
   (Oc3 (⟨rfl, _, _, _, rfl, rfl, by kernel_rfl, row_k _⟩)
      OkL3.nil)))) ?_
  rintro W2 X2 _ rfl _ rfl _ rfl c2 r2 H2
  refine Fd3 ?_
  simp only [Act.put, List.setIfInBounds_toArray, List.set_cons_zero, List.set_cons_succ]
  obtain rfl : c2 = el (kinv x).val := agg_inj H2
  replace R2 := hide (And.intro (Nat.lt_of_lt_of_le R2.out.1 X2.size) r2)
  clear r2
  replace R1 := hide (X2.row (out1 (by omega)) R1.out)
  replace BEL := hide (X2.on BEL.out SZ.out (one_le (by omega)))
  replace SZ := hide BEL.out.size
  have SW2 := X2.size
  clear X2
  go_wp2
  exact bodyPost_ret_by (results_cell_row rfl _ _ (w.heap.size + 1) 47 _ (0, 0) _ rfl R2.out.2 Tryz.underlying47 rfl (by kernel_rfl)) rfl ⟨_, rfl, BEL.out, HR.out _⟩
set_option maxRecDepth 100000 in
set_option maxHeartbeats 2000000 in
theorem p_y0 {x y : Kp} {u0 : Value} {w : World} (h0 : u0 = .agg (pe x (y - 1)))  : Hands Tryz.prog 69 #[u0] w (isk (y - 1 + 1)) := by
  subst h0
  suffices HH : ∀ R_ : STy, (∀ W, R_.p W (.agg (el (y - 1 + 1).val))) → Hands Tryz.prog 69 #[.agg (pe x (y - 1))] w R_ from HH _ (fun _ => rfl)
  intro R_ hR_
  obtain ⟨A0, hA0⟩ : ∃ A_, A_ = pe x (y - 1) := ⟨_, rfl⟩
  rw [← hA0]
  have EA0 := hide hA0
  clear hA0
  have HR := hide hR_
  clear hR_
  unfold Hands
  go_enter Tryz.func69, Tryz.ntmps69
  go_upto_region 1 with fail
  refine cut_world (fun W => Below w.heap.size w W ∧ (w.heap.size < W.heap.size ∧ W.heap[w.heap.size]? = some (.cells A0 49 (0, 0))) ∧ (w.heap.size + 1 < W.heap.size ∧ W.heap[w.heap.size + 1]? = some (.cells zk 47 (0, 0)))) ⟨below2 _ _ _, ⟨by simp; omega, heap2_0 _ _ _⟩, by simp, heap2_1 _ _ _⟩ ?_
  rintro W1 ⟨BEL, R1, R2⟩
  replace BEL := hide BEL
  have SZ := hide BEL.out.size
  replace R1 := hide R1
  replace R2 := hide R2
  have hA0 := EA0.out
  subst hA0
  clear EA0
  have SW1 := (R2.out.1)
  refine wrt3 (tl := [isv (.pointer (some ⟨w.heap.size, 0, none⟩)), isv (.pointer (some ⟨w.heap.size, 4, none⟩)), isk (y - 1), isk (1 : Kp), isk ((y - 1) + (1 : Kp))]) (pre := [(1, 0)])
    (plan := [.val [(1, 0)] 1, .val [(3, 1)] 2, .val [] 3, .val [(4, 2), (5, 3)] 4, .put 0 2 6 4])
    [] [(w.heap.size + 1, 47, 4)] [(0, 2)] (by kernel_rfl) 7 (by kernel_rfl) rfl (by kernel_rfl) ⟨.inr (lv0 _ _ _), ⟨.inr (lv0 _ _ _), ⟨.inr (lull_k _ _ _), ⟨.inr (lull_k _ _ _), ⟨.inr (lull_k _ _ _), trivial⟩⟩⟩⟩⟩
    (snkAt1 R2.out rfl rfl) (snk1 _) ⟨rfl, trivial⟩
   (Oc3 (fun a w X_ h => g_fld (wq0 rfl) rfl h.1 atP1)
   (Oc3 (fun a w X_ h => g_ldp1 (wq0 rfl) rfl h.1 (X_.at_ R1.out.1 (out1 (by omega)) R1.out.2))
   (Oc3 (fun a w X_ h => g_call1 (wq0 rfl) (by kernel_rfl) rfl (k_one rfl))
   (Oc3 (fun a w X_ h => g_call2 (wq0 rfl) (by kernel_rfl) rfl (k_add h.1 h.2.1))
   (Oc3 (⟨rfl, _, _, _, rfl, rfl, by kernel_rfl, row_k _⟩)
      OkL3.nil))))) ?_
  rintro W2 X2 _ rfl _ rfl _ rfl _ rfl c2 r2 H2
  refine Fd3 ?_
  simp only [Act.put, List.setIfInBounds_toArray, List.set_cons_zero, List.set_cons_succ]
  obtain rfl : c2 = el ((y - 1) + (1 : Kp)).val := agg_inj H2
  replace R2 := hide (And.intro (Nat.lt_of_lt_of_le R2.out.1 X2.size) r2)
  clear r2
  replace R1 := hide (X2.row (out1 (by omega)) R1.out)
  replace BEL := hide (X2.on BEL.out SZ.out (one_le (by omega)))
  replace SZ := hide BEL.out.size
  have SW2 := X2.size
  clear X2
  go_wp2
  exact bodyPost_ret_by (results_cell_row rfl _ _ (w.heap.size + 1) 47 _ (0, 0) _ rfl R2.out.2 Tryz.underlying47 rfl (by kernel_rfl)) rfl ⟨_, rfl, BEL.out, HR.out _⟩
theorem p_y {x y : Kp} {u0 : Value} {w : World} (h0 : u0 = .agg (pe x (y - 1))) : Hands Tryz.prog 69 #[u0] w (isk y) := by
  have h := p_y0 (w := w) h0
  rwa [show y - 1 + 1 = y by grind] at h
end Go.Proofs.YtobgimpkkjaolaaGreatDoor
