/- The chapter's numbers, as the program's calls answer them. -/
import Derived.Test.YtobgimpkkjaolaaGreatDoorFn1
import Derived.Test.YtobgimpkkjaolaaGreatDoorApp
namespace Go.Proofs.YtobgimpkkjaolaaGreatDoor
open Go.RowKit
def bx : Kp := ⟨15112221349535400772501151409588531511454012693041857206046113283949847762202, by decide⟩
def byy : Kp := ⟨46316835694926478169428394003475163141307993866256225615783033603165251855960, by decide⟩
def ddl : List Nat := [163, 120, 89, 19, 202, 77, 235, 117, 171, 216, 65, 65, 77, 10, 112, 0, 152, 232, 121, 119, 121, 64, 199, 140, 115, 254, 111, 43, 238, 108, 3, 82]
def bxl : List Nat := [26, 213, 37, 143, 96, 45, 86, 201, 178, 167, 37, 149, 96, 199, 44, 105, 92, 220, 214, 253, 49, 226, 164, 192, 254, 83, 110, 205, 211, 54, 105, 33]
def byl : List Nat := [88, 102, 102, 102, 102, 102, 102, 102, 102, 102, 102, 102, 102, 102, 102, 102, 102, 102, 102, 102, 102, 102, 102, 102, 102, 102, 102, 102, 102, 102, 102, 102]
theorem lim_list {l : List Nat} (h : l.all (· < 256) = true) : ∀ i, l.getD i 0 < 256 := fun i => by
  rw [List.getD_eq_getElem?_getD]
  cases hi : l[i]? with
  | none => decide
  | some x => exact of_decide_eq_true (List.all_eq_true.1 h x (List.mem_of_getElem? hi))
theorem cst_from {l : List Nat} {k : Kp} (hl : l.length = 32) (hv : bval l % pp = k.val) (v : Value) (w : World) (h : BsAt w v l) : Calls Tryz.prog 90 #[v] w fun e w' => e = .returned (.agg (el k.val)) ∧ Below w.heap.size w w' := by
  have := from_any v l (by omega) w h
  rwa [List.take_of_length_le (by omega), hv] at this
set_option maxRecDepth 100000 in
set_option maxHeartbeats 2000000 in
theorem k_dd {w : World} : Hands Tryz.prog 88 #[] w (isk dd) := by
  suffices HH : ∀ R_ : STy, (∀ W, R_.p W (.agg (el dd.val))) → Hands Tryz.prog 88 #[] w R_ from HH _ (fun _ => rfl)
  intro R_ hR_
  have HB := marked_at (w := w.alloc (.cells zk 47)) ddl (lim_list (by decide)) (by decide) (0, 0)
  rw [World.size_alloc] at HB
  have HC := cst_from (k := dd) (l := ddl) rfl (by decide +kernel) _ _ HB
  generalize hA : el dd.val = A at *
  have s4 : A.size = 4 := by rw [← hA]; rfl
  have one : A.all (·.oneCell') = true := by rw [← hA]; exact el_one _
  have HR := hide hR_
  clear hA HB hR_
  unfold Hands
  go_enter Tryz.func88, Tryz.ntmps88
  go_wp2_with fail
  refine HC.mono ?_
  rintro e w1 ⟨rfl, b1⟩
  have R0 := Below.heap b1 (g := w.heap.size) (by simp; omega) (heap2_0 _ _ _)
  have BEL := hide (Below.chain (below2 _ _ _) b1)
  have HS := hide (Below.setRow BEL.out w.heap.size A (Nat.le_refl _))
  clear b1 HC
  go_wp2_with (refine wpList_store_row rfl 47 (.tmp 0) (.tmp 2) rfl w.heap.size A rfl rfl 47 zk R0 (by rw [s4]; exact sizeK) (by rw [s4]; rfl) one ?_)
  exact bodyPost_ret_by (results_cell_row rfl _ _ w.heap.size 47 _ (0, 0) _ rfl (setRow_heap _ _ _ _ _ _ R0) Tryz.underlying47 rfl (by rw [s4]; exact sizeK)) rfl ⟨_, rfl, HS.out, HR.out _⟩
set_option maxRecDepth 100000 in
set_option maxHeartbeats 2000000 in
theorem k_bx {w : World} : Hands Tryz.prog 57 #[] w (isk bx) := by
  suffices HH : ∀ R_ : STy, (∀ W, R_.p W (.agg (el bx.val))) → Hands Tryz.prog 57 #[] w R_ from HH _ (fun _ => rfl)
  intro R_ hR_
  have HB := marked_at (w := w.alloc (.cells zk 47)) bxl (lim_list (by decide)) (by decide) (0, 0)
  rw [World.size_alloc] at HB
  have HC := cst_from (k := bx) (l := bxl) rfl (by decide +kernel) _ _ HB
  generalize hA : el bx.val = A at *
  have s4 : A.size = 4 := by rw [← hA]; rfl
  have one : A.all (·.oneCell') = true := by rw [← hA]; exact el_one _
  have HR := hide hR_
  clear hA HB hR_
  unfold Hands
  go_enter Tryz.func57, Tryz.ntmps57
  go_wp2_with fail
  refine HC.mono ?_
  rintro e w1 ⟨rfl, b1⟩
  have R0 := Below.heap b1 (g := w.heap.size) (by simp; omega) (heap2_0 _ _ _)
  have BEL := hide (Below.chain (below2 _ _ _) b1)
  have HS := hide (Below.setRow BEL.out w.heap.size A (Nat.le_refl _))
  clear b1 HC
  go_wp2_with (refine wpList_store_row rfl 47 (.tmp 0) (.tmp 2) rfl w.heap.size A rfl rfl 47 zk R0 (by rw [s4]; exact sizeK) (by rw [s4]; rfl) one ?_)
  exact bodyPost_ret_by (results_cell_row rfl _ _ w.heap.size 47 _ (0, 0) _ rfl (setRow_heap _ _ _ _ _ _ R0) Tryz.underlying47 rfl (by rw [s4]; exact sizeK)) rfl ⟨_, rfl, HS.out, HR.out _⟩
set_option maxRecDepth 100000 in
set_option maxHeartbeats 2000000 in
theorem k_by {w : World} : Hands Tryz.prog 58 #[] w (isk byy) := by
  suffices HH : ∀ R_ : STy, (∀ W, R_.p W (.agg (el byy.val))) → Hands Tryz.prog 58 #[] w R_ from HH _ (fun _ => rfl)
  intro R_ hR_
  have HB := marked_at (w := w.alloc (.cells zk 47)) byl (lim_list (by decide)) (by decide) (0, 0)
  rw [World.size_alloc] at HB
  have HC := cst_from (k := byy) (l := byl) rfl (by decide +kernel) _ _ HB
  generalize hA : el byy.val = A at *
  have s4 : A.size = 4 := by rw [← hA]; rfl
  have one : A.all (·.oneCell') = true := by rw [← hA]; exact el_one _
  have HR := hide hR_
  clear hA HB hR_
  unfold Hands
  go_enter Tryz.func58, Tryz.ntmps58
  go_wp2_with fail
  refine HC.mono ?_
  rintro e w1 ⟨rfl, b1⟩
  have R0 := Below.heap b1 (g := w.heap.size) (by simp; omega) (heap2_0 _ _ _)
  have BEL := hide (Below.chain (below2 _ _ _) b1)
  have HS := hide (Below.setRow BEL.out w.heap.size A (Nat.le_refl _))
  clear b1 HC
  go_wp2_with (refine wpList_store_row rfl 47 (.tmp 0) (.tmp 2) rfl w.heap.size A rfl rfl 47 zk R0 (by rw [s4]; exact sizeK) (by rw [s4]; rfl) one ?_)
  exact bodyPost_ret_by (results_cell_row rfl _ _ w.heap.size 47 _ (0, 0) _ rfl (setRow_heap _ _ _ _ _ _ R0) Tryz.underlying47 rfl (by rw [s4]; exact sizeK)) rfl ⟨_, rfl, HS.out, HR.out _⟩
end Go.Proofs.YtobgimpkkjaolaaGreatDoor
