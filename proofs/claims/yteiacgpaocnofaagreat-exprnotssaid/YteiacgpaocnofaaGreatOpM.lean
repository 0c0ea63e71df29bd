/- Operations of patterns: the program's calls. -/
import Derived.Test.YteiacgpaocnofaaGreatOf
import Derived.Test.YteiacgpaocnofaaGreatRgb
namespace Go.Proofs.YteiacgpaocnofaaGreat
open Go.RowKit
/-- A text that is asked for a pattern: a truth, or an error. -/
theorem find_two (q s : ByteArray) (w : World) : Calls Tryz.prog 178 #[.string q, .string s] w fun e w' => ∃ (c : Bool) (E : Int), e = .returned (.tuple #[.bool c, .int .i64 E]) ∧ (E = 0 ∨ E = 1 ∨ E = 3 ∨ E = 4) ∧ Below w.heap.size w w' := by
  have h := Rg.Find_any q s (w := w)
  refine h.mono ?_
  intro e w1 hF
  cases hm : Rg.mR q s with
  | ok l t =>
    rw [hm] at hF
    obtain ⟨⟨c, rfl, _⟩, b1⟩ := hF
    exact ⟨c, 0, rfl, .inl rfl, b1⟩
  | bad n =>
    rw [hm] at hF
    obtain ⟨⟨rfl, hn⟩, b1⟩ := hF
    exact ⟨false, n, rfl, by omega, b1⟩
set_option maxRecDepth 100000 in
set_option maxHeartbeats 2000000 in
theorem matches_any (ak an : Int) (aS : ByteArray) (aa : Option Addr) (al ac : Nat) (bk bn : Int) (bS : ByteArray) (ba : Option Addr) (bl bc : Nat) (w : World) : Calls Tryz.prog 152 #[.agg (s8 ak an aS aa al ac bk bn bS ba bl bc)] w (OpA GoodR w) := by
  obtain ⟨b0, r0, q0⟩ := two_alloc w (s8 ak an aS aa al ac bk bn bS ba bl bc) 144
  have HC := hide (find_two bS aS ((w.alloc (.cells (s8 ak an aS aa al ac bk bn bS ba bl bc) 144)).alloc (.cells ztC 33)))
  have B0 := hide b0
  have R0 := hide r0
  clear b0 r0 q0
  go_enter Tryz.func152, Tryz.ntmps152
  go_wp2_with fail
  refine HC.out.mono ?_
  rintro e_ w1 ⟨c, E, rfl, hE, b1⟩
  have B1 := hide (Below.chain B0.out b1)
  have R1 := hide (Below.heap b1 (Array.getElem?_eq_some_iff.1 R0.out).1 R0.out)
  clear b1
  by_cases hz : E = 0
  · subst hz
    go_wp2_with fail
    refine (truth_any _ _).mono ?_
    rintro e_ w2 ⟨rfl, b2⟩
    have B2 := hide (Below.chain B1.out b2)
    have R2 := hide (Below.heap b2 (Array.getElem?_eq_some_iff.1 R1.out).1 R1.out)
    clear b2
    go_wp2_with (refine wpList_store_row rfl 33 (.tmp 2) (.tmp 22) rfl (w.heap.size + 1) (tvC (trueT c) none 0) rfl rfl 33 ztC R2.out (by kernel_rfl) rfl (by kernel_rfl) ?_)
    refine bodyPost_ret_by (results_row_tmp rfl _ _ (w.heap.size + 1) 33 _ (0, 0) _ rfl (setRow_heap _ _ _ _ _ _ R2.out) Tryz.underlying33 rfl (by kernel_rfl)) rfl ?_
    exact OpF.toA (R := GoodR) ⟨rfl, Below.setRow B2.out _ _ (Nat.le_succ _)⟩ (trueT_fl c) (good_true c)
  · have hn : (E != 0) = true := by simpa using hz
    have HG := hide (good_zt hz)
    clear hz hE
    go_wp2_with (refine wpList_store_row rfl 33 (.tmp 2) (.tmp 18) rfl (w.heap.size + 1) (tvC zt none 0) rfl rfl 33 ztC R1.out (by kernel_rfl) rfl (by kernel_rfl) ?_)
    refine bodyPost_ret_by (results_row_tmp rfl _ _ (w.heap.size + 1) 33 _ (0, 0) _ rfl (setRow_heap _ _ _ _ _ _ R1.out) Tryz.underlying33 rfl (by kernel_rfl)) rfl ?_
    exact OpF.toA (R := GoodR) ⟨rfl, Below.setRow B1.out _ _ (Nat.le_succ _)⟩ zt_fl HG.out
end Go.Proofs.YteiacgpaocnofaaGreat
