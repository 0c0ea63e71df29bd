/- Two numbers' bytes as strings, which are the same if the numbers are: the page's own comparison, and the law's, as their calls answer, in any world. -/
import Derived.Test.YtbaionconnhdiaaDoorRefBytes
import Derived.Test.YtbaionconnhdiaaDoorAwake
import Derived.Test.YtbaionconnhdiaaDoorDrawn
namespace Go.Proofs.YtbaionconnhdiaaDoor
open Go.RowKit
/-- The bytes of a number, as numbers. -/
def nms (x : Nat) : List Int := (List.range 32).map fun i => ((byt x i : Nat) : Int)
/-- .. as a string. -/
def sx (x : Nat) : ByteArray := strOfNums (nms x)
theorem nms_get (x i : Nat) (hi : i < 32) : (nms x).getD i 0 = ((byt x i : Nat) : Int) := by
  unfold nms
  rw [List.getD_eq_getElem?_getD, List.getElem?_map, List.getElem?_range hi]
  rfl
theorem digits_same : ∀ (n x y : Nat), (∀ i, i < n → byt x i = byt y i) → x % 256 ^ n = y % 256 ^ n
  | 0, x, y, _ => by rw [Nat.pow_zero, Nat.mod_one, Nat.mod_one]
  | n + 1, x, y, h => by
    have ih := digits_same n x y (fun i hi => h i (by omega))
    have h1 := h n (by omega)
    unfold byt at h1
    rw [Nat.pow_succ, Nat.mod_mul, Nat.mod_mul, ih, h1]
theorem sx_inj {x y : Nat} (hx : x < pp) (hy : y < pp) (h : (sx x).toList = (sx y).toList) : x = y := by
  have h1 : (nms x).map (fun n => UInt8.ofNat n.toNat) = (nms y).map (fun n => UInt8.ofNat n.toNat) := by
    rw [ByteArray.toList_eq, ByteArray.toList_eq] at h
    exact h
  have h2 : ∀ i, i < 32 → byt x i = byt y i := fun i hi => by
    have h3 := congrArg (fun l => l[i]?) h1
    simp only [nms, List.getElem?_map, List.getElem?_range hi, Option.map_some, Option.some.injEq] at h3
    have h4 := congrArg UInt8.toNat h3
    simp only [Int.toNat_natCast, UInt8.toNat_ofNat'] at h4
    have h5 : byt x i < 256 := Nat.mod_lt _ (by decide)
    have h6 : byt y i < 256 := Nat.mod_lt _ (by decide)
    rw [Nat.mod_eq_of_lt h5, Nat.mod_eq_of_lt h6] at h4
    exact h4
  have h7 := digits_same 32 x y h2
  unfold pp at hx hy
  rw [Nat.mod_eq_of_lt (Nat.lt_trans hx (by decide)), Nat.mod_eq_of_lt (Nat.lt_trans hy (by decide))] at h7
  exact h7
theorem sx_dec {x y : Nat} (hx : x < pp) (hy : y < pp) : ((sx x).toList == (sx y).toList) = decide (x = y) := by
  rw [Bool.eq_iff_iff]
  simp only [beq_iff_eq, decide_eq_true_eq]
  exact ⟨sx_inj hx hy, fun h => by rw [h]⟩
theorem run_sx {w : World} {g x cap : Nat} (h : ∀ i, i < 32 → w.cell? ⟨g, i, none⟩ = some (.int .u8 ((byt x i : Nat) : Int))) (w' : World) (hw : w.grownBy w' none) : (convert 22 9 (.slice (some ⟨g, 0, none⟩) 32 cap)).run Tryd.prog w' = .ok (.string (sx x)) w' :=
  run_convert_bytes_arg (P := Tryd.prog) w' 22 5 Tryd.underlying22 Tryd.underlying5 g 0 32 cap (nms x) (by simp [nms]) (fun i hi => by
    rw [Nat.zero_add, nms_get x i hi]
    exact hw.cell (h i hi) (by simp)) 9 Tryd.underlying9
/-- A read of a whole row, which may be taken first. -/
theorem run_load_row {o : Oper} {a : Act} {W w' : World} (ty : TypeId) (x : Operand) (ho : o.op = .load ty x) (g : Nat) (hx : a.eval x = .pointer (some ⟨g, 0, none⟩)) (t : TypeId) (cs : Array Value) (hlt : g < W.heap.size) (hg : W.heap[g]? = some (.cells cs t (0, 0)))
    (hv : ∀ w' : World, w'.heap[g]? = some (.cells cs t (0, 0)) → (loadVar ty ⟨g, 0, none⟩).run Tryd.prog w' = .ok (.agg cs) w') (hw : W.grownBy w' none) : (execOp a.eval o).run Tryd.prog w' = .ok (.value (.agg cs)) w' := by
  have h1 := hv w' ((hw.block g hlt (by simp)).trans hg)
  unfold execOp
  simp only [ho, hx, Instr.loadAt, Instr.sureAddr, Sem.run_bind, Sem.run_pure, Result.andThen_ok, h1]
set_option maxRecDepth 100000 in
set_option maxHeartbeats 2000000 in
theorem rsame_any (l : List Int) (x : Nat) (hl : Rep l x) (m : List Int) (y : Nat) (hm : Rep m y) (w : World) :
    Calls Tryd.prog 22 #[.agg (ia l), .agg (ia m)] w fun e w' => e = .returned (.bool (decide (x = y))) ∧ Below w.heap.size w w' := by
  have hx := hl.lt
  have HC1 : Hid (∀ W : World, Calls Tryd.prog 28 #[.agg (ia l)] W fun e w' => ∃ g cap, e = .returned (.slice (some ⟨g, 0, none⟩) 32 cap) ∧ g < w'.heap.size ∧ (∀ i, i < 32 → w'.cell? ⟨g, i, none⟩ = some (.int .u8 ((byt x i : Nat) : Int))) ∧ Below W.heap.size W w') := fun W => (rbytes_any l x hl W).mono (by
    rintro e w' ⟨g, cap, rfl, hg, _, _, hr, hb⟩
    exact ⟨g, cap, rfl, hg, hr, hb⟩)
  have hA : (Tryd.prog.info? 32).map (·.size) = some (ia l).size := by rw [ia_size, hl.len]; exact sizeN
  have HC2 := hide (rbytes_any m y hm)
  have hM : (Tryd.prog.info? 32).map (·.size) = some (ia m).size := by rw [ia_size, hm.len]; exact sizeN
  have HD := hide (sx_dec hx hm.lt)
  generalize hAA : ia l = A at *
  generalize ia m = M at *
  clear hAA
  go_enter Tryd.func22, Tryd.ntmps22
  go_wp2
  have r0 : ((w.alloc (.cells A 32)).alloc (.cells M 32)).drew.heap[w.heap.size]? = some (.cells A 32 (0, 0)) := heap2_0 _ _ _
  have r1 : ((w.alloc (.cells A 32)).alloc (.cells M 32)).drew.heap[w.heap.size + 1]? = some (.cells M 32 (0, 0)) := heap2_1 _ _ _
  have hsz : ((w.alloc (.cells A 32)).alloc (.cells M 32)).drew.heap.size = w.heap.size + 1 + 1 := by simp [heap_drew]
  have HB : Hid (Below w.heap.size w ((w.alloc (.cells A 32)).alloc (.cells M 32)).drew) := (below2 _ _ _).drew
  refine wp_region_ext (by kernel_rfl) ?_
  generalize ((w.alloc (.cells A 32)).alloc (.cells M 32)).drew = w0 at *
  refine wpE_take (i := 0) (v := .agg A) rfl (by kernel_rfl) (by kernel_rfl) (by kernel_rfl) (fun _ _ _ h => h) rfl (fun w' hw' => run_load_row 32 (.tmp 2) rfl w.heap.size rfl 32 A (by omega) r0 (fun _ h => run_loadVar_row _ _ _ _ _ _ _ h undN rfl hA) hw') ?_
  simp only [List.getElem_toArray, List.getElem_cons_zero, Act.put, List.setIfInBounds_toArray, List.set_cons_zero, List.set_cons_succ]
  refine wpE_take (i := 3) (v := .agg M) rfl (by kernel_rfl) (by kernel_rfl) (by kernel_rfl) (fun _ _ _ h => h) rfl (fun w' hw' => run_load_row 32 (.tmp 3) rfl (w.heap.size + 1) rfl 32 M (by omega) r1 (fun _ h => run_loadVar_row _ _ _ _ _ _ _ h undN rfl hM) hw') ?_
  simp only [List.getElem_toArray, List.getElem_cons_zero, List.getElem_cons_succ, Act.put, List.setIfInBounds_toArray, List.set_cons_zero, List.set_cons_succ]
  refine wpE_call (i := 1) (f := 28) (vals := #[.agg A]) (by kernel_rfl) rfl rfl (by go_simp) (HC1.out w0) ?_
  rintro e w1 ⟨g1, c1, rfl, hg1, hr1, hb1⟩
  refine ⟨_, rfl, hb1, ?_⟩
  simp only [List.getElem_toArray, List.getElem_cons_zero, List.getElem_cons_succ, Act.put, List.setIfInBounds_toArray, List.set_cons_zero, List.set_cons_succ]
  refine wpE_take (i := 2) (v := .string (sx x)) rfl (by kernel_rfl) (by kernel_rfl) (by kernel_rfl) (fun _ _ _ h => h) rfl (fun w' hw' => run_op_convert rfl rfl (run_sx hr1 w' hw')) ?_
  simp only [List.getElem_toArray, List.getElem_cons_zero, List.getElem_cons_succ, Act.put, List.setIfInBounds_toArray, List.set_cons_zero, List.set_cons_succ]
  refine wpE_call (i := 4) (f := 28) (vals := #[.agg M]) (by kernel_rfl) rfl rfl (by go_simp) (HC2.out w1) ?_
  rintro e w2 ⟨g2, c2, rfl, hg2, _, _, hr2, hb2⟩
  refine ⟨_, rfl, hb2, ?_⟩
  simp only [List.getElem_toArray, List.getElem_cons_zero, List.getElem_cons_succ, Act.put, List.setIfInBounds_toArray, List.set_cons_zero, List.set_cons_succ]
  refine wpE_take (i := 5) (v := .string (sx y)) rfl (by kernel_rfl) (by kernel_rfl) (by kernel_rfl) (fun _ _ _ h => h) rfl (fun w' hw' => run_op_convert rfl rfl (run_sx hr2 w' hw')) ?_
  simp only [List.getElem_toArray, List.getElem_cons_zero, List.getElem_cons_succ, Act.put, List.setIfInBounds_toArray, List.set_cons_zero, List.set_cons_succ]
  have HZ := hide (Below.chain (Below.chain HB.out hb1) hb2)
  generalize sx x = X at *
  generalize sx y = Y at *
  clear hr1 hr2 hb1 hb2 r0 r1 hsz HC1 HC2 HB
  refine wpE_take (i := 6) (v := ?va1) rfl (by kernel_rfl) (by kernel_rfl) (by kernel_rfl) (fun _ _ _ h => h) rfl ?ya1 ?ra1
  case ya1 => (intro w' hw'; go_simp; try rfl)
  simp only [List.getElem_toArray, List.getElem_cons_zero, List.getElem_cons_succ, Act.put, List.setIfInBounds_toArray, List.set_cons_zero, List.set_cons_succ]
  refine wpE_take (i := 7) (v := ?va2) rfl (by kernel_rfl) (by kernel_rfl) (by kernel_rfl) (fun _ _ _ h => h) rfl ?ya2 ?ra2
  case ya2 => (intro w' hw'; go_simp; try rfl)
  simp only [List.getElem_toArray, List.getElem_cons_zero, List.getElem_cons_succ, Act.put, List.setIfInBounds_toArray, List.set_cons_zero, List.set_cons_succ]
  refine wpE_done (by kernel_rfl) ?_
  go_wp2
  go_ret
  refine ⟨?_, HZ.out⟩
  rw [← HD.out]
  rfl
set_option maxRecDepth 100000 in
set_option maxHeartbeats 2000000 in
theorem lsame_any (x : Nat) (hx : x < pp) (m : List Int) (y : Nat) (hm : Rep m y) (w : World) :
    Calls Tryd.prog 9 #[.agg (el x), .agg (ia m)] w fun e w' => e = .returned (.bool (decide (x = y))) ∧ Below w.heap.size w w' := by
  have HC1 : Hid (∀ W : World, Calls Tryd.prog 26 #[.agg (el x)] W fun e w' => ∃ g cap, e = .returned (.slice (some ⟨g, 0, none⟩) 32 cap) ∧ g < w'.heap.size ∧ (∀ i, i < 32 → w'.cell? ⟨g, i, none⟩ = some (.int .u8 ((byt x i : Nat) : Int))) ∧ Below W.heap.size W w') := fun W => (bytes_any x hx W).mono (by
    rintro e w' ⟨g, rfl, _, hg, hr, hb⟩
    exact ⟨g, 32, rfl, hg, fun i hi => bys_cell hr i hi, hb⟩)
  have hA : (Tryd.prog.info? 29).map (·.size) = some (el x).size := by rw [show (el x).size = 4 from rfl]; kernel_rfl
  have HC2 := hide (rbytes_any m y hm)
  have hM : (Tryd.prog.info? 32).map (·.size) = some (ia m).size := by rw [ia_size, hm.len]; exact sizeN
  have HD := hide (sx_dec hx hm.lt)
  generalize hAA : el x = A at *
  generalize ia m = M at *
  clear hAA
  go_enter Tryd.func9, Tryd.ntmps9
  go_wp2
  have r0 : ((w.alloc (.cells A 29)).alloc (.cells M 32)).drew.heap[w.heap.size]? = some (.cells A 29 (0, 0)) := heap2_0 _ _ _
  have r1 : ((w.alloc (.cells A 29)).alloc (.cells M 32)).drew.heap[w.heap.size + 1]? = some (.cells M 32 (0, 0)) := heap2_1 _ _ _
  have hsz : ((w.alloc (.cells A 29)).alloc (.cells M 32)).drew.heap.size = w.heap.size + 1 + 1 := by simp [heap_drew]
  have HB : Hid (Below w.heap.size w ((w.alloc (.cells A 29)).alloc (.cells M 32)).drew) := (below2 _ _ _).drew
  refine wp_region_ext (by kernel_rfl) ?_
  generalize ((w.alloc (.cells A 29)).alloc (.cells M 32)).drew = w0 at *
  refine wpE_take (i := 0) (v := .agg A) rfl (by kernel_rfl) (by kernel_rfl) (by kernel_rfl) (fun _ _ _ h => h) rfl (fun w' hw' => run_load_row 29 (.tmp 2) rfl w.heap.size rfl 29 A (by omega) r0 (fun _ h => run_loadVar_row _ _ _ _ _ _ _ h Tryd.underlying29 rfl hA) hw') ?_
  simp only [List.getElem_toArray, List.getElem_cons_zero, Act.put, List.setIfInBounds_toArray, List.set_cons_zero, List.set_cons_succ]
  refine wpE_take (i := 3) (v := .agg M) rfl (by kernel_rfl) (by kernel_rfl) (by kernel_rfl) (fun _ _ _ h => h) rfl (fun w' hw' => run_load_row 32 (.tmp 3) rfl (w.heap.size + 1) rfl 32 M (by omega) r1 (fun _ h => run_loadVar_row _ _ _ _ _ _ _ h undN rfl hM) hw') ?_
  simp only [List.getElem_toArray, List.getElem_cons_zero, List.getElem_cons_succ, Act.put, List.setIfInBounds_toArray, List.set_cons_zero, List.set_cons_succ]
  refine wpE_call (i := 1) (f := 26) (vals := #[.agg A]) (by kernel_rfl) rfl rfl (by go_simp) (HC1.out w0) ?_
  rintro e w1 ⟨g1, c1, rfl, hg1, hr1, hb1⟩
  refine ⟨_, rfl, hb1, ?_⟩
  simp only [List.getElem_toArray, List.getElem_cons_zero, List.getElem_cons_succ, Act.put, List.setIfInBounds_toArray, List.set_cons_zero, List.set_cons_succ]
  refine wpE_take (i := 2) (v := .string (sx x)) rfl (by kernel_rfl) (by kernel_rfl) (by kernel_rfl) (fun _ _ _ h => h) rfl (fun w' hw' => run_op_convert rfl rfl (run_sx hr1 w' hw')) ?_
  simp only [List.getElem_toArray, List.getElem_cons_zero, List.getElem_cons_succ, Act.put, List.setIfInBounds_toArray, List.set_cons_zero, List.set_cons_succ]
  refine wpE_call (i := 4) (f := 28) (vals := #[.agg M]) (by kernel_rfl) rfl rfl (by go_simp) (HC2.out w1) ?_
  rintro e w2 ⟨g2, c2, rfl, hg2, _, _, hr2, hb2⟩
  refine ⟨_, rfl, hb2, ?_⟩
  simp only [List.getElem_toArray, List.getElem_cons_zero, List.getElem_cons_succ, Act.put, List.setIfInBounds_toArray, List.set_cons_zero, List.set_cons_succ]
  refine wpE_take (i := 5) (v := .string (sx y)) rfl (by kernel_rfl) (by kernel_rfl) (by kernel_rfl) (fun _ _ _ h => h) rfl (fun w' hw' => run_op_convert rfl rfl (run_sx hr2 w' hw')) ?_
  simp only [List.getElem_toArray, List.getElem_cons_zero, List.getElem_cons_succ, Act.put, List.setIfInBounds_toArray, List.set_cons_zero, List.set_cons_succ]
  have HZ := hide (Below.chain (Below.chain HB.out hb1) hb2)
  generalize sx x = X at *
  generalize sx y = Y at *
  clear hr1 hr2 hb1 hb2 r0 r1 hsz HC1 HC2 HB
  refine wpE_take (i := 6) (v := ?va1) rfl (by kernel_rfl) (by kernel_rfl) (by kernel_rfl) (fun _ _ _ h => h) rfl ?ya1 ?ra1
  case ya1 => (intro w' hw'; go_simp; try rfl)
  simp only [List.getElem_toArray, List.getElem_cons_zero, List.getElem_cons_succ, Act.put, List.setIfInBounds_toArray, List.set_cons_zero, List.set_cons_succ]
  refine wpE_take (i := 7) (v := ?va2) rfl (by kernel_rfl) (by kernel_rfl) (by kernel_rfl) (fun _ _ _ h => h) rfl ?ya2 ?ra2
  case ya2 => (intro w' hw'; go_simp; try rfl)
  simp only [List.getElem_toArray, List.getElem_cons_zero, List.getElem_cons_succ, Act.put, List.setIfInBounds_toArray, List.set_cons_zero, List.set_cons_succ]
  refine wpE_done (by kernel_rfl) ?_
  go_wp2
  go_ret
  refine ⟨?_, HZ.out⟩
  rw [← HD.out]
  rfl
end Go.Proofs.YtbaionconnhdiaaDoor
