/- The call of two sides, and of which kinds it may be. -/
import Derived.Test.YteiacgpaocnofaaGreatOp5
import Derived.Deep.Cut
namespace Go.Proofs.YteiacgpaocnofaaGreat
open Go.RowKit
theorem three_alloc (w : World) (cs ds : Array Value) (t u : TypeId) :
    Below w.heap.size w (((w.alloc (.cells cs t)).alloc (.cells ds u)).alloc (.cells ztC 33)) ∧ (((w.alloc (.cells cs t)).alloc (.cells ds u)).alloc (.cells ztC 33)).heap[w.heap.size]? = some (.cells cs t (0, 0)) ∧ (((w.alloc (.cells cs t)).alloc (.cells ds u)).alloc (.cells ztC 33)).heap[w.heap.size + 1]? = some (.cells ds u (0, 0)) ∧ (((w.alloc (.cells cs t)).alloc (.cells ds u)).alloc (.cells ztC 33)).heap[w.heap.size + 2]? = some (.cells ztC 33 (0, 0)) := by
  have h1 : ((w.alloc (.cells cs t)).alloc (.cells ds u)).heap[w.heap.size + 1]? = some (.cells ds u (0, 0)) := by
    have h := heap_alloc_last (w.alloc (.cells cs t)) (.cells ds u)
    rwa [show (w.alloc (.cells cs t)).heap.size = w.heap.size + 1 by simp] at h
  have h0 : ((w.alloc (.cells cs t)).alloc (.cells ds u)).heap[w.heap.size]? = some (.cells cs t (0, 0)) := Below.heap (alloc_below _ _) (by simp) (heap_alloc_last w _)
  have h2 := heap_alloc_last ((w.alloc (.cells cs t)).alloc (.cells ds u)) (.cells ztC 33)
  rw [show ((w.alloc (.cells cs t)).alloc (.cells ds u)).heap.size = w.heap.size + 2 by simp] at h2
  exact ⟨Below.chain (Below.chain (alloc_below _ _) (alloc_below _ _)) (alloc_below _ _), Below.heap (alloc_below _ _) (by simp; omega) h0, Below.heap (alloc_below _ _) (by simp) h1, h2⟩
/-- As OpA, of where the term's list lies too. -/
def OpA4 (R : Tm → Option Addr → Nat → Int → Prop) (w : World) (e : Ending) (w' : World) : Prop := ∃ r a c E, e = .returned (.tuple #[tv r a c, .int .i64 E]) ∧ TAt w' r a c ∧ R r a c E ∧ Lo r ∧ Below w.heap.size w w'
theorem OpA.four {R : Tm → Int → Prop} {w w' : World} {e : Ending} (h : OpA R w e w') : OpA4 (fun r _ _ E => R r E) w e w' := h
theorem OpF.four {r : Tm} {E : Int} {w w' : World} {e : Ending} (h : OpF r E w e w') (hf : Fl r) : OpA4 (fun r' a c E' => r' = r ∧ a = none ∧ c = 0 ∧ E' = E) w e w' := ⟨r, none, 0, E, h.1, hf.at w', ⟨rfl, rfl, rfl, rfl⟩, .flat hf, h.2⟩
theorem OpA4.flat {r : Tm} {E : Int} {w w' : World} {e : Ending} (h : OpA4 (fun r' a c E' => r' = r ∧ a = none ∧ c = 0 ∧ E' = E) w e w') : OpF r E w e w' := by
  obtain ⟨r', a, c, E', h1, _, ⟨rfl, rfl, rfl, rfl⟩, _, h5⟩ := h
  exact ⟨h1, h5⟩
/-- What stands while it runs: the two terms, and what is to be told. -/
structure Bx (w : World) (xs ys : Array Value) (W : World) : Prop where
  bel : Below w.heap.size w W
  a : W.heap[w.heap.size]? = some (.cells xs 33 (0, 0))
  b : W.heap[w.heap.size + 1]? = some (.cells ys 33 (0, 0))
  z : W.heap[w.heap.size + 2]? = some (.cells ztC 33 (0, 0))
theorem Bx.ext {w W W' : World} {xs ys : Array Value} (h : Bx w xs ys W) (he : Below W.heap.size W W') : Bx w xs ys W' :=
  ⟨Below.chain h.bel he, Below.heap he (Array.getElem?_eq_some_iff.1 h.a).1 h.a, Below.heap he (Array.getElem?_eq_some_iff.1 h.b).1 h.b, Below.heap he (Array.getElem?_eq_some_iff.1 h.z).1 h.z⟩
theorem Bx.new (w : World) (xs ys : Array Value) : Bx w xs ys (((w.alloc (.cells xs 33)).alloc (.cells ys 33)).alloc (.cells ztC 33)) := by
  obtain ⟨h1, h2, h3, h4⟩ := three_alloc w xs ys 33 33
  exact ⟨h1, h2, h3, h4⟩
set_option maxRecDepth 100000 in
set_option maxHeartbeats 4000000 in
theorem bin_a {code : Int} {a b : Tm} {a1 : Option Addr} {c1 : Nat} {a2 : Option Addr} {c2 : Nat} {w : World} (ha : TAt w a a1 c1) (hb : TAt w b a2 c2) (fa : fixT a = false) : Calls Tryz.prog 106 #[.int .i64 code, tv a a1 c1, tv b a2 c2] w (OpF zt 1 w) := by
  have X0 := hide (Bx.new w (tvC a a1 c1) (tvC b a2 c2))
  have T0 := hide (And.intro (ha.ext X0.out.bel) (hb.ext X0.out.bel))
  have HA := hide (Fixed_any T0.out.1)
  rw [fa] at HA
  clear ha hb fa
  unfold tv tvC at *
  generalize a.k = ak at *
  generalize a.n = an at *
  generalize a.s = aS at *
  generalize a.l.length = al at *
  generalize b.k = bk at *
  generalize b.n = bn at *
  generalize b.s = bS at *
  generalize b.l.length = bl at *
  go_enter Tryz.func106, Tryz.ntmps106
  go_wp2_with fail
  refine HA.out.mono ?_
  rintro e_ w1 ⟨rfl, b1⟩
  have X1 := hide (X0.out.ext b1)
  clear b1 HA T0
  go_wp2_with (refine wpList_store_row rfl 33 (.tmp 6) (.tmp 22) rfl (w.heap.size + 2) ztC rfl rfl 33 ztC X1.out.z (by kernel_rfl) rfl (by kernel_rfl) ?_)
  refine bodyPost_ret_by (results_row_tmp rfl _ _ (w.heap.size + 2) 33 _ (0, 0) _ rfl (setRow_heap _ _ _ _ _ _ X1.out.z) Tryz.underlying33 rfl (by kernel_rfl)) rfl ?_
  exact ⟨rfl, Below.setRow X1.out.bel _ _ (Nat.le_add_right _ _)⟩
set_option maxRecDepth 100000 in
set_option maxHeartbeats 4000000 in
theorem bin_b {code : Int} {a b : Tm} {a1 : Option Addr} {c1 : Nat} {a2 : Option Addr} {c2 : Nat} {w : World} (ha : TAt w a a1 c1) (hb : TAt w b a2 c2) (fa : fixT a = true) (fb : fixT b = false) : Calls Tryz.prog 106 #[.int .i64 code, tv a a1 c1, tv b a2 c2] w (OpF zt 1 w) := by
  have X0 := hide (Bx.new w (tvC a a1 c1) (tvC b a2 c2))
  have T0 := hide (And.intro (ha.ext X0.out.bel) (hb.ext X0.out.bel))
  have HA := hide (Fixed_any T0.out.1)
  rw [fa] at HA
  clear ha hb fa
  unfold tv tvC at *
  go_enter Tryz.func106, Tryz.ntmps106
  go_wp2_with fail
  refine HA.out.mono ?_
  rintro e_ w1 ⟨rfl, b1⟩
  have X1 := hide (X0.out.ext b1)
  have T1 := hide (And.intro (T0.out.1.ext b1) (T0.out.2.ext b1))
  clear b1 HA T0
  obtain ⟨z0, _⟩ := row_reads X1.out.b
  have y0 := z0 0
  have y1 := z0 1
  have y2 := z0 2
  have y3 := z0 3
  simp only [List.getElem?_toArray, List.getElem?_cons_zero, List.getElem?_cons_succ] at y0 y1 y2 y3
  clear z0
  have HB := hide (Fixed_any T1.out.2)
  rw [fb] at HB
  unfold tv at HB
  go_wp2_with fail
  refine HB.out.mono ?_
  rintro e_ w2 ⟨rfl, b2⟩
  have X2 := hide (X1.out.ext b2)
  clear b2 HB X1 T1
  clear y0 y1 y2 y3
  go_wp2_with (refine wpList_store_row rfl 33 (.tmp 6) (.tmp 22) rfl (w.heap.size + 2) ztC rfl rfl 33 ztC X2.out.z (by kernel_rfl) rfl (by kernel_rfl) ?_)
  refine bodyPost_ret_by (results_row_tmp rfl _ _ (w.heap.size + 2) 33 _ (0, 0) _ rfl (setRow_heap _ _ _ _ _ _ X2.out.z) Tryz.underlying33 rfl (by kernel_rfl)) rfl ?_
  exact ⟨rfl, Below.setRow X2.out.bel _ _ (Nat.le_add_right _ _)⟩
set_option maxRecDepth 100000 in
set_option maxHeartbeats 4000000 in
theorem bin_c {code : Int} {a b : Tm} {a1 : Option Addr} {c1 : Nat} {a2 : Option Addr} {c2 : Nat} {w : World} (ha : TAt w a a1 c1) (hb : TAt w b a2 c2) (fa : fixT a = true) (fb : fixT b = true) (hc : ¬ (1 ≤ code ∧ code ≤ 19)) : Calls Tryz.prog 106 #[.int .i64 code, tv a a1 c1, tv b a2 c2] w (OpF zt 1 w) := by
  have X0 := hide (Bx.new w (tvC a a1 c1) (tvC b a2 c2))
  have T0 := hide (And.intro (ha.ext X0.out.bel) (hb.ext X0.out.bel))
  have HA := hide (Fixed_any T0.out.1)
  rw [fa] at HA
  have HI := hide (isBinary_any code)
  rw [decide_eq_false (p := 1 ≤ code ∧ code ≤ 19) hc] at HI
  clear ha hb fa hc
  unfold tv tvC at *
  go_enter Tryz.func106, Tryz.ntmps106
  go_wp2_with fail
  refine HA.out.mono ?_
  rintro e_ w1 ⟨rfl, b1⟩
  have X1 := hide (X0.out.ext b1)
  have T1 := hide (And.intro (T0.out.1.ext b1) (T0.out.2.ext b1))
  clear b1 HA T0
  obtain ⟨z0, _⟩ := row_reads X1.out.b
  have y0 := z0 0
  have y1 := z0 1
  have y2 := z0 2
  have y3 := z0 3
  simp only [List.getElem?_toArray, List.getElem?_cons_zero, List.getElem?_cons_succ] at y0 y1 y2 y3
  clear z0
  have HB := hide (Fixed_any T1.out.2)
  rw [fb] at HB
  unfold tv at HB
  go_wp2_with fail
  refine HB.out.mono ?_
  rintro e_ w2 ⟨rfl, b2⟩
  have X2 := hide (X1.out.ext b2)
  have T2 := hide (And.intro (T1.out.1.ext b2) (T1.out.2.ext b2))
  clear b2 HB X1 T1
  clear y0 y1 y2 y3
  go_wp2_with fail
  refine (HI.out _).mono ?_
  rintro e_ w_ ⟨rfl, hw⟩
  replace hw := hw.symm
  subst hw
  clear T2
  go_wp2_with (refine wpList_store_row rfl 33 (.tmp 6) (.tmp 22) rfl (w.heap.size + 2) ztC rfl rfl 33 ztC X2.out.z (by kernel_rfl) rfl (by kernel_rfl) ?_)
  refine bodyPost_ret_by (results_row_tmp rfl _ _ (w.heap.size + 2) 33 _ (0, 0) _ rfl (setRow_heap _ _ _ _ _ _ X2.out.z) Tryz.underlying33 rfl (by kernel_rfl)) rfl ?_
  exact ⟨rfl, Below.setRow X2.out.bel _ _ (Nat.le_add_right _ _)⟩
set_option maxRecDepth 100000 in
set_option maxHeartbeats 4000000 in
theorem bin_type {code : Int} {a b : Tm} {a1 : Option Addr} {c1 : Nat} {a2 : Option Addr} {c2 : Nat} {w : World} (ha : TAt w a a1 c1) (hb : TAt w b a2 c2) {fm ft : FuncId} {tb : Array Value} (HT0 : Says 121 #[] (.agg tb)) (hix : ∀ w_, (Instr.index 139 (.agg tb) (.int .i64 code)).run Tryz.prog w_ = .ok (.agg #[fv fm, fv ft]) w_) (em : ∀ xs w, (callFunc fm xs).run Tryz.prog w = .ok (.enter fm xs) w) (fa : fixT a = true) (fb : fixT b = true) (hc : 1 ≤ code ∧ code ≤ 19) (hm : Says fm #[kv a.k b.k] (.bool false)) : Calls Tryz.prog 106 #[.int .i64 code, tv a a1 c1, tv b a2 c2] w (OpF zt 7 w) := by
  have X0 := hide (Bx.new w (tvC a a1 c1) (tvC b a2 c2))
  have T0 := hide (And.intro (ha.ext X0.out.bel) (hb.ext X0.out.bel))
  have HA := hide (Fixed_any T0.out.1)
  rw [fa] at HA
  have HI := hide (isBinary_any code)
  rw [decide_eq_true (p := 1 ≤ code ∧ code ≤ 19) hc] at HI
  clear ha hb fa hc
  unfold tv tvC at *
  have HT := hide HT0
  have HM := hide hm
  clear HT0 hm
  go_enter Tryz.func106, Tryz.ntmps106
  go_wp2_with fail
  refine HA.out.mono ?_
  rintro e_ w1 ⟨rfl, b1⟩
  have X1 := hide (X0.out.ext b1)
  have T1 := hide (And.intro (T0.out.1.ext b1) (T0.out.2.ext b1))
  clear b1 HA T0
  obtain ⟨z0, _⟩ := row_reads X1.out.b
  have y0 := z0 0
  have y1 := z0 1
  have y2 := z0 2
  have y3 := z0 3
  simp only [List.getElem?_toArray, List.getElem?_cons_zero, List.getElem?_cons_succ] at y0 y1 y2 y3
  clear z0
  have HB := hide (Fixed_any T1.out.2)
  rw [fb] at HB
  unfold tv at HB
  go_wp2_with fail
  refine HB.out.mono ?_
  rintro e_ w2 ⟨rfl, b2⟩
  have X2 := hide (X1.out.ext b2)
  have T2 := hide (And.intro (T1.out.1.ext b2) (T1.out.2.ext b2))
  clear b2 HB X1 T1
  clear y0 y1 y2 y3
  go_wp2_with fail
  refine (HI.out _).mono ?_
  rintro e_ w_ ⟨rfl, hw⟩
  replace hw := hw.symm
  subst hw
  go_wp2_with fail
  refine (HT.out _).mono ?_
  rintro e_ w3 ⟨rfl, b3⟩
  have X3 := hide (X2.out.ext b3)
  have T3 := hide (And.intro (T2.out.1.ext b3) (T2.out.2.ext b3))
  clear b3 X2 T2 HT
  have b4 := alloc_below w3 (.cells #[.nilFunc, .nilFunc] 138)
  have r4 := heap_alloc_last w3 (.cells #[.nilFunc, .nilFunc] 138)
  go_upto_region 4 with (refine wpList_store_row rfl 138 (.tmp 8) (.tmp 25) rfl w3.heap.size #[fv fm, fv ft] rfl rfl 138 #[.nilFunc, .nilFunc] r4 (by kernel_rfl) rfl (by kernel_rfl) ?_)
  have r5 := setRow_heap _ _ _ #[fv fm, fv ft] _ _ r4
  have b5 := Below.setRow b4 w3.heap.size #[fv fm, fv ft] (Nat.le_refl _)
  have X5 := hide (X3.out.ext b5)
  have T5 := hide (And.intro (T3.out.1.ext b5) (T3.out.2.ext b5))
  have O5 := hide r5
  clear b4 r4 b5 r5
  generalize ((w3.alloc (.cells #[.nilFunc, .nilFunc] 138)).setRow w3.heap.size #[fv fm, fv ft]) = w5 at *
  obtain ⟨z0, _⟩ := row_reads X5.out.a
  have y0 := z0 0
  have y1 := z0 1
  have y2 := z0 2
  have y3 := z0 3
  simp only [List.getElem?_toArray, List.getElem?_cons_zero, List.getElem?_cons_succ] at y0 y1 y2 y3
  clear z0
  obtain ⟨z0, _⟩ := row_reads X5.out.b
  have v0 := z0 0
  have v1 := z0 1
  have v2 := z0 2
  have v3 := z0 3
  simp only [List.getElem?_toArray, List.getElem?_cons_zero, List.getElem?_cons_succ] at v0 v1 v2 v3
  clear z0
  obtain ⟨z0, _⟩ := row_reads O5.out
  have o0 := z0 0
  have o1 := z0 1
  simp only [List.getElem?_toArray, List.getElem?_cons_zero, List.getElem?_cons_succ] at o0 o1
  clear z0
  go_wp2_with fail
  refine (HM.out _).mono ?_
  rintro e_ w6 ⟨rfl, b6⟩
  have X6 := hide (X5.out.ext b6)
  have T6 := hide (And.intro (T5.out.1.ext b6) (T5.out.2.ext b6))
  have O6 := hide (Below.heap b6 (Array.getElem?_eq_some_iff.1 O5.out).1 O5.out)
  clear b6 X5 T5 O5 T3 X3
  clear y0 y1 y2 y3
  clear v0 v1 v2 v3
  clear o0 o1
  go_wp2_with (refine wpList_store_row rfl 33 (.tmp 6) (.tmp 35) rfl (w.heap.size + 2) ztC rfl rfl 33 ztC X6.out.z (by kernel_rfl) rfl (by kernel_rfl) ?_)
  refine bodyPost_ret_by (results_row_tmp rfl _ _ (w.heap.size + 2) 33 _ (0, 0) _ rfl (setRow_heap _ _ _ _ _ _ X6.out.z) Tryz.underlying33 rfl (by kernel_rfl)) rfl ?_
  exact ⟨rfl, Below.setRow X6.out.bel _ _ (Nat.le_add_right _ _)⟩
set_option maxRecDepth 100000 in
set_option maxHeartbeats 4000000 in
theorem bin_go4 {code : Int} {a b : Tm} {a1 : Option Addr} {c1 : Nat} {a2 : Option Addr} {c2 : Nat} {w : World} (ha : TAt w a a1 c1) (hb : TAt w b a2 c2) {fm ft : FuncId} {tb : Array Value} (HT0 : Says 121 #[] (.agg tb)) (hix : ∀ w_, (Instr.index 139 (.agg tb) (.int .i64 code)).run Tryz.prog w_ = .ok (.agg #[fv fm, fv ft]) w_) (em : ∀ xs w, (callFunc fm xs).run Tryz.prog w = .ok (.enter fm xs) w) (et : ∀ xs w, (callFunc ft xs).run Tryz.prog w = .ok (.enter ft xs) w) {R : Tm → Option Addr → Nat → Int → Prop} (fa : fixT a = true) (fb : fixT b = true) (hc : 1 ≤ code ∧ code ≤ 19) (hm : Says fm #[kv a.k b.k] (.bool true)) (ht : ∀ W, Below w.heap.size w W → TAt W a a1 c1 → TAt W b a2 c2 → Calls Tryz.prog ft #[sv a a1 c1 b a2 c2] W (OpA4 R W)) : Calls Tryz.prog 106 #[.int .i64 code, tv a a1 c1, tv b a2 c2] w (OpA4 R w) := by
  have X0 := hide (Bx.new w (tvC a a1 c1) (tvC b a2 c2))
  have T0 := hide (And.intro (ha.ext X0.out.bel) (hb.ext X0.out.bel))
  have HA := hide (Fixed_any T0.out.1)
  rw [fa] at HA
  have HI := hide (isBinary_any code)
  rw [decide_eq_true (p := 1 ≤ code ∧ code ≤ 19) hc] at HI
  clear ha hb fa hc
  unfold tv tvC at *
  have HT := hide HT0
  have HM := hide hm
  have HF := hide ht
  clear HT0 hm ht
  go_enter Tryz.func106, Tryz.ntmps106
  go_wp2_with fail
  refine HA.out.mono ?_
  rintro e_ w1 ⟨rfl, b1⟩
  have X1 := hide (X0.out.ext b1)
  have T1 := hide (And.intro (T0.out.1.ext b1) (T0.out.2.ext b1))
  clear b1 HA T0
  obtain ⟨z0, _⟩ := row_reads X1.out.b
  have y0 := z0 0
  have y1 := z0 1
  have y2 := z0 2
  have y3 := z0 3
  simp only [List.getElem?_toArray, List.getElem?_cons_zero, List.getElem?_cons_succ] at y0 y1 y2 y3
  clear z0
  have HB := hide (Fixed_any T1.out.2)
  rw [fb] at HB
  unfold tv at HB
  go_wp2_with fail
  refine HB.out.mono ?_
  rintro e_ w2 ⟨rfl, b2⟩
  have X2 := hide (X1.out.ext b2)
  have T2 := hide (And.intro (T1.out.1.ext b2) (T1.out.2.ext b2))
  clear b2 HB X1 T1
  clear y0 y1 y2 y3
  go_wp2_with fail
  refine (HI.out _).mono ?_
  rintro e_ w_ ⟨rfl, hw⟩
  replace hw := hw.symm
  subst hw
  go_wp2_with fail
  refine (HT.out _).mono ?_
  rintro e_ w3 ⟨rfl, b3⟩
  have X3 := hide (X2.out.ext b3)
  have T3 := hide (And.intro (T2.out.1.ext b3) (T2.out.2.ext b3))
  clear b3 X2 T2 HT
  have b4 := alloc_below w3 (.cells #[.nilFunc, .nilFunc] 138)
  have r4 := heap_alloc_last w3 (.cells #[.nilFunc, .nilFunc] 138)
  go_upto_region 4 with (refine wpList_store_row rfl 138 (.tmp 8) (.tmp 25) rfl w3.heap.size #[fv fm, fv ft] rfl rfl 138 #[.nilFunc, .nilFunc] r4 (by kernel_rfl) rfl (by kernel_rfl) ?_)
  have r5 := setRow_heap _ _ _ #[fv fm, fv ft] _ _ r4
  have b5 := Below.setRow b4 w3.heap.size #[fv fm, fv ft] (Nat.le_refl _)
  have X5 := hide (X3.out.ext b5)
  have T5 := hide (And.intro (T3.out.1.ext b5) (T3.out.2.ext b5))
  have O5 := hide r5
  clear b4 r4 b5 r5
  generalize ((w3.alloc (.cells #[.nilFunc, .nilFunc] 138)).setRow w3.heap.size #[fv fm, fv ft]) = w5 at *
  obtain ⟨z0, _⟩ := row_reads X5.out.a
  have y0 := z0 0
  have y1 := z0 1
  have y2 := z0 2
  have y3 := z0 3
  simp only [List.getElem?_toArray, List.getElem?_cons_zero, List.getElem?_cons_succ] at y0 y1 y2 y3
  clear z0
  obtain ⟨z0, _⟩ := row_reads X5.out.b
  have v0 := z0 0
  have v1 := z0 1
  have v2 := z0 2
  have v3 := z0 3
  simp only [List.getElem?_toArray, List.getElem?_cons_zero, List.getElem?_cons_succ] at v0 v1 v2 v3
  clear z0
  obtain ⟨z0, _⟩ := row_reads O5.out
  have o0 := z0 0
  have o1 := z0 1
  simp only [List.getElem?_toArray, List.getElem?_cons_zero, List.getElem?_cons_succ] at o0 o1
  clear z0
  go_wp2_with fail
  refine (HM.out _).mono ?_
  rintro e_ w6 ⟨rfl, b6⟩
  have X6 := hide (X5.out.ext b6)
  have T6 := hide (And.intro (T5.out.1.ext b6) (T5.out.2.ext b6))
  have O6 := hide (Below.heap b6 (Array.getElem?_eq_some_iff.1 O5.out).1 O5.out)
  clear b6 X5 T5 O5 T3 X3
  clear y0 y1 y2 y3
  clear v0 v1 v2 v3
  clear o0 o1
  obtain ⟨z0, _⟩ := row_reads X6.out.a
  have y0 := z0 0
  have y1 := z0 1
  have y2 := z0 2
  have y3 := z0 3
  simp only [List.getElem?_toArray, List.getElem?_cons_zero, List.getElem?_cons_succ] at y0 y1 y2 y3
  clear z0
  obtain ⟨z0, _⟩ := row_reads X6.out.b
  have v0 := z0 0
  have v1 := z0 1
  have v2 := z0 2
  have v3 := z0 3
  simp only [List.getElem?_toArray, List.getElem?_cons_zero, List.getElem?_cons_succ] at v0 v1 v2 v3
  clear z0
  obtain ⟨z0, _⟩ := row_reads O6.out
  have o0 := z0 0
  have o1 := z0 1
  simp only [List.getElem?_toArray, List.getElem?_cons_zero, List.getElem?_cons_succ] at o0 o1
  clear z0
  have HD := hide (HF.out w6 X6.out.bel T6.out.1 T6.out.2)
  unfold sv at HD
  go_wp2_with fail
  refine HD.out.mono ?_
  rintro e_ w7 ⟨r, ra, rc, E, rfl, hr, hR, hlo, b7⟩
  have X7 := hide (X6.out.ext b7)
  have HR := hide (And.intro hr (And.intro hR hlo))
  clear b7 hr hR hlo X6 T6 O6 HD HF
  clear y0 y1 y2 y3
  clear v0 v1 v2 v3
  clear o0 o1
  go_wp2_with (refine wpList_store_row rfl 33 (.tmp 6) (.tmp 42) rfl (w.heap.size + 2) (tvC r ra rc) rfl rfl 33 ztC X7.out.z (by kernel_rfl) rfl (by kernel_rfl) ?_)
  refine bodyPost_ret_by (results_row_tmp rfl _ _ (w.heap.size + 2) 33 _ (0, 0) _ rfl (setRow_heap _ _ _ _ _ _ X7.out.z) Tryz.underlying33 rfl (by kernel_rfl)) rfl ?_
  exact ⟨r, ra, rc, E, rfl, HR.out.1.put HR.out.2.2 X7.out.z _, HR.out.2.1, HR.out.2.2, Below.setRow X7.out.bel _ _ (Nat.le_add_right _ _)⟩
theorem bin_go {code : Int} {a b : Tm} {a1 : Option Addr} {c1 : Nat} {a2 : Option Addr} {c2 : Nat} {w : World} (ha : TAt w a a1 c1) (hb : TAt w b a2 c2) {fm ft : FuncId} {tb : Array Value} (HT0 : Says 121 #[] (.agg tb)) (hix : ∀ w_, (Instr.index 139 (.agg tb) (.int .i64 code)).run Tryz.prog w_ = .ok (.agg #[fv fm, fv ft]) w_) (em : ∀ xs w, (callFunc fm xs).run Tryz.prog w = .ok (.enter fm xs) w) (et : ∀ xs w, (callFunc ft xs).run Tryz.prog w = .ok (.enter ft xs) w) {R : Tm → Int → Prop} (fa : fixT a = true) (fb : fixT b = true) (hc : 1 ≤ code ∧ code ≤ 19) (hm : Says fm #[kv a.k b.k] (.bool true)) (ht : ∀ W, Below w.heap.size w W → TAt W a a1 c1 → TAt W b a2 c2 → Calls Tryz.prog ft #[sv a a1 c1 b a2 c2] W (OpA R W)) : Calls Tryz.prog 106 #[.int .i64 code, tv a a1 c1, tv b a2 c2] w (OpA R w) :=
  bin_go4 ha hb HT0 hix em et fa fb hc hm fun W h1 h2 h3 => (ht W h1 h2 h3).mono fun _ _ h => h.four
theorem bin_goF {code : Int} {a b : Tm} {a1 : Option Addr} {c1 : Nat} {a2 : Option Addr} {c2 : Nat} {w : World} (ha : TAt w a a1 c1) (hb : TAt w b a2 c2) {fm ft : FuncId} {tb : Array Value} (HT0 : Says 121 #[] (.agg tb)) (hix : ∀ w_, (Instr.index 139 (.agg tb) (.int .i64 code)).run Tryz.prog w_ = .ok (.agg #[fv fm, fv ft]) w_) (em : ∀ xs w, (callFunc fm xs).run Tryz.prog w = .ok (.enter fm xs) w) (et : ∀ xs w, (callFunc ft xs).run Tryz.prog w = .ok (.enter ft xs) w) {r : Tm} {E : Int} (hf : Fl r) (fa : fixT a = true) (fb : fixT b = true) (hc : 1 ≤ code ∧ code ≤ 19) (hm : Says fm #[kv a.k b.k] (.bool true)) (ht : ∀ W, Below w.heap.size w W → TAt W a a1 c1 → TAt W b a2 c2 → Calls Tryz.prog ft #[sv a a1 c1 b a2 c2] W (OpF r E W)) : Calls Tryz.prog 106 #[.int .i64 code, tv a a1 c1, tv b a2 c2] w (OpF r E w) :=
  (bin_go4 ha hb HT0 hix em et fa fb hc hm fun W h1 h2 h3 => (ht W h1 h2 h3).mono fun _ _ h => h.four hf).mono fun _ _ h => h.flat
end Go.Proofs.YteiacgpaocnofaaGreat
