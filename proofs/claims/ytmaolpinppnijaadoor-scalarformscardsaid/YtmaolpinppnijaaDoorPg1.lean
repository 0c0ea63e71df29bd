/- The page's order, and whether bytes are below it: as its calls answer, in any world. -/
import Derived.Test.YtmaolpinppnijaaDoorPgMath
import Derived.Great.BuildSlice
import Derived.BigQuiet
namespace Go.Proofs.YtmaolpinppnijaaDoor
open Go.RowKit
theorem und46 : Tryd.prog.underlying 46 = some (.array 32 2) := by kernel_rfl
theorem und42 : Tryd.prog.underlying 42 = some (.array 33 2) := by kernel_rfl
theorem size46 : (Tryd.prog.info? 46).map (·.size) = some 32 := by kernel_rfl
theorem size42 : (Tryd.prog.info? 42).map (·.size) = some 33 := by kernel_rfl
/-- The order's bytes. -/
def lrow : List Nat := dg 32 ll
theorem lrow_len : lrow.length = 32 := dg_len _ _
theorem lrow_lit : ja lrow = #[.int .i64 237, .int .i64 211, .int .i64 245, .int .i64 92, .int .i64 26, .int .i64 99, .int .i64 18, .int .i64 88, .int .i64 214, .int .i64 156, .int .i64 247, .int .i64 162, .int .i64 222, .int .i64 249, .int .i64 222, .int .i64 20, .int .i64 0, .int .i64 0, .int .i64 0, .int .i64 0, .int .i64 0, .int .i64 0, .int .i64 0, .int .i64 0, .int .i64 0, .int .i64 0, .int .i64 0, .int .i64 0, .int .i64 0, .int .i64 0, .int .i64 0, .int .i64 16] := by kernel_rfl
theorem zero46 (w : World) : (zeroValue 46).run Tryd.prog w = .ok (.agg (ja (zz 32))) w := by kernel_rfl
theorem zero42 (w : World) : (zeroValue 42).run Tryd.prog w = .ok (.agg (ja (zz 33))) w := by kernel_rfl
theorem lr32 : (ja lrow).size = 32 := by rw [ja_size, lrow_len]
theorem zr32 : (ja (zz 32)).size = 32 := by rw [ja_size, zz_len]
set_option maxRecDepth 100000 in
set_option maxHeartbeats 400000 in
theorem order_ref (w : World) : Calls Tryd.prog 26 #[] w fun e w' => e = .returned (.agg (ja lrow)) ∧ Below w.heap.size w w' := by
  have hz := zero46
  go_enter Tryd.func26, Tryd.ntmps26
  go_wp2_with (first | (refine wpList_buildTo rfl 46 _ rfl (some 1) rfl (ja lrow) (by kernel_rfl) ?_) | (refine wpList_store_row rfl 46 (.tmp 0) (.tmp 1) rfl w.heap.size (ja lrow) rfl rfl 46 (ja (zz 32)) (heap_alloc_last _ _) (by rw [lr32]; exact size46) (by rw [lr32]; exact zr32) (ja_one _) ?_))
  refine bodyPost_ret_by (results_cell_row rfl _ _ w.heap.size 46 (ja lrow) (0, 0) (.array 32 2) rfl (setRow_heap _ _ _ _ _ _ (heap_alloc_last _ _)) und46 rfl (by rw [lr32]; exact size46)) rfl ⟨rfl, ?_⟩
  exact Below.setRow ((Below.refl _ _).alloc (Nat.le_refl _) _) _ _ (by omega)
theorem below_dN {B : Nat} {a w : World} (h : Below B a w) (n : Nat) : Below B a (w.drewN n) := ⟨h.os, h.tape, h.output, h.size, h.block⟩
theorem ll_lt : ll < 256 ^ 32 := by decide
set_option maxRecDepth 100000 in
set_option maxHeartbeats 2000000 in
theorem below_ref (y : Nat) (hy : y < 256 ^ 33) (w : World) : Calls Tryd.prog 23 #[.agg (ja (dg 33 y))] w fun e w' => e = .returned (.bool (decide (y < ll))) ∧ Below w.heap.size w w' := by
  have hz := zero46
  have HO := hide order_ref
  have h33 : (ja (dg 33 y)).size = 33 := by rw [ja_size, dg_len]
  obtain ⟨XR, hXR⟩ : ∃ x, ja (dg 33 y) = x := ⟨_, rfl⟩
  obtain ⟨LR, hLR⟩ : ∃ x, ja lrow = x := ⟨_, rfl⟩
  obtain ⟨ZR, hZR⟩ : ∃ x, ja (zz 32) = x := ⟨_, rfl⟩
  have hs1 : XR.size = 33 := by rw [← hXR]; exact h33
  have hs2 : LR.size = 32 := by rw [← hLR]; exact lr32
  have hs3 : ZR.size = 32 := by rw [← hZR]; exact zr32
  have ho : LR.all (·.oneCell') = true := by rw [← hLR]; exact ja_one _
  have hx1 : XR.all (·.oneCell') = true := by rw [← hXR]; exact ja_one _
  have GX : Hid (∀ k, k < 33 → XR[k]? = some (.int .i64 ((byt y k : Nat) : Int))) := fun k hk => by rw [← hXR, ja_get _ _ (by rw [dg_len]; exact hk), dg_get _ _ _ hk]
  have GL : Hid (∀ k, k < 32 → LR[k]? = some (.int .i64 ((byt ll k : Nat) : Int))) := fun k hk => by rw [← hLR, ja_get _ _ (by rw [lrow_len]; exact hk), lrow, dg_get _ _ _ hk]
  rw [hXR]
  rw [hLR] at HO
  rw [hZR] at hz
  clear hXR hLR hZR h33
  go_enter Tryd.func23, Tryd.ntmps23
  go_wp2_with fail
  refine (HO.out _).mono ?_
  rintro e w1 ⟨rfl, b1⟩
  have hr0 : w1.heap[w.heap.size]? = some (.cells XR 42 (0, 0)) := (b1.block _ (by simp)).trans (heap_alloc_last _ _)
  have hlt0 : w.heap.size < w1.heap.size := by have := b1.size; simp at this; omega
  have B1 := hide (Below.chain ((Below.refl w.heap.size w).alloc (Nat.le_refl _) (.cells XR 42)) b1)
  clear b1
  obtain ⟨W2, hW2⟩ : ∃ W, (w1.alloc (.cells ZR 46)).setRow w1.heap.size LR = W := ⟨_, rfl⟩
  have hrx : W2.heap[w.heap.size]? = some (.cells XR 42 (0, 0)) := by rw [← hW2, setRow_other _ _ _ _ (by omega), Below.heap_alloc _ _ _ hlt0]; exact hr0
  have hrl : W2.heap[w1.heap.size]? = some (.cells LR 46 (0, 0)) := by rw [← hW2]; exact setRow_heap _ _ _ _ _ _ (heap_alloc_last _ _)
  have B2 : Hid (Below w.heap.size w W2) := by rw [← hW2]; exact Below.setRow (B1.out.alloc B1.out.size _) _ _ (by have := B1.out.size; omega)
  have c32 : W2.cell? ⟨w.heap.size, 32, none⟩ = some (.int .i64 ((byt y 32 : Nat) : Int)) := by rw [cell_of_row _ _ _ _ _ _ hrx]; exact GX.out 32 (by decide)
  have HRX := hide hrx
  have HRL := hide hrl
  clear hr0 hlt0 B1 hrx hrl
  by_cases h0 : byt y 32 = 0
  · have hyl : y < 256 ^ 32 := by
      have h1 := mod_succ y 32
      rw [h0, Nat.mul_zero, Nat.add_zero, Nat.mod_eq_of_lt hy] at h1
      rw [h1]
      exact Nat.mod_lt _ (pow256 32)
    rw [h0] at c32
    have HY := hide hyl
    clear hyl hy
    go_wp2_with (refine wpList_store_row rfl 46 (.tmp 3) (.tmp 5) rfl w1.heap.size LR rfl rfl 46 ZR (heap_alloc_last _ _) (by rw [hs2]; exact size46) (by rw [hs2]; exact hs3) ho ?_; rw [hW2])
    clear hW2 hz hs1 hs2 hs3 ho hx1 HO h0 c32
    go_loopw [4] (fun i wr => ∃ j : Nat, j ≤ 32 ∧ i = .int .i64 ((j : Int) - 1) ∧ (∀ m, j ≤ m → m < 32 → byt y m = byt ll m) ∧ wr.heap[w.heap.size]? = some (.cells XR 42 (0, 0)) ∧ wr.heap[w1.heap.size]? = some (.cells LR 46 (0, 0)) ∧ Below w.heap.size w wr) (fun i _ => (intOf i + 1).toNat)
    case atStart => exact ⟨32, by omega, rfl, fun m h1 h2 => by omega, HRX.out, HRL.out, B2.out⟩
    case round =>
      obtain ⟨j, hj, rfl, hsame, hrx, hrl, hB⟩ := hrel
      clear HRX HRL B2
      by_cases hj0 : j = 0
      · subst hj0
        have hlt : y < ll ↔ False := by
          rw [lex_eq y ll 32 HY.out ll_lt (fun i hi => hsame i (by omega) hi)]
          simp
        have HB := hide hB
        clear hsame hrx hrl hB
        go_wp2
        go_ret
        exact ⟨by rw [decide_eq_false (fun h => hlt.1 h)]; rfl, HB.out⟩
      · have hc1 := cell_of_row _ _ (j - 1) _ _ _ hrx
        rw [GX.out (j - 1) (by omega)] at hc1
        have hc2 := cell_of_row _ _ (j - 1) _ _ _ hrl
        rw [GL.out (j - 1) (by omega)] at hc2
        have HS := hide hsame
        have HX := hide hrx
        have HLL := hide hrl
        have HB := hide hB
        obtain ⟨q, rfl⟩ : ∃ q, j = q + 1 := ⟨j - 1, by omega⟩
        rw [Nat.add_sub_cancel] at hc1 hc2
        have b0 : (0 : Int) ≤ (q : Int) := by omega
        have b1 : (q : Int) < 32 := by omega
        have hq : (((q + 1 : Nat) : Int) - 1) = (q : Int) := by omega
        rw [hq]
        clear hsame hrx hrl hB hj0 hj hq
        by_cases he : byt y q = byt ll q
        · rw [he] at hc1
          generalize hgl : byt ll q = lq at *
          have HE := hide (And.intro he hgl)
          clear he hgl
          go_wp2_with fail
          go_quiet (fail)
          go_wp2
          refine ⟨⟨q, by omega, by go_num, ?_, HX.out, HLL.out, below_dN HB.out _⟩, by simp [intOf]⟩
          intro m h1 h2
          rcases Nat.eq_or_lt_of_le h1 with e | e
          · subst e; rw [HE.out.1, HE.out.2]
          · exact HS.out m e h2
        · have hlex : Hid (decide (byt y q < byt ll q) = decide (y < ll)) := by
            show _ = _
            rw [decide_eq_decide]
            exact lex_lt y ll 32 q (by omega) HY.out ll_lt (fun i h1 h2 => HS.out i (by omega) h2) he
          have hne : ((byt y q : Int) == (byt ll q : Int)) = false := by rw [beq_eq_false_iff_ne]; omega
          generalize byt ll q = lq at *
          generalize byt y q = yq at *
          clear he HS
          go_wp2_with fail
          go_quiet (fail)
          go_wp2_with fail
          go_quiet (fail)
          go_wp2
          go_ret
          exact ⟨by rw [← hlex.out]; rfl, below_dN (below_dN HB.out _) _⟩
  · have hge : ¬ (y < ll) := by
      intro h
      apply h0
      unfold byt
      rw [Nat.div_eq_of_lt (Nat.lt_trans h ll_lt)]
    have d0 : 0 < byt y 32 := by omega
    have HG := hide hge
    generalize byt y 32 = y32 at *
    clear hge h0 hy
    go_wp2_with (refine wpList_store_row rfl 46 (.tmp 3) (.tmp 5) rfl w1.heap.size LR rfl rfl 46 ZR (heap_alloc_last _ _) (by rw [hs2]; exact size46) (by rw [hs2]; exact hs3) ho ?_; rw [hW2])
    go_ret
    exact ⟨by rw [decide_eq_false HG.out]; rfl, B2.out⟩
end Go.Proofs.YtmaolpinppnijaaDoor
