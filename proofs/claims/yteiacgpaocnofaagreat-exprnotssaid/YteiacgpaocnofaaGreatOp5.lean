/- The tables of operations, and the call of one side. -/
import Derived.Test.YteiacgpaocnofaaGreatOp1
namespace Go.Proofs.YteiacgpaocnofaaGreat
open Go.RowKit
theorem Below.undrew {w w' : World} (h : Below w.drew.heap.size w.drew w') : Below w.heap.size w w' := Below.chain (Below.refl _ _).drew h
theorem setCell_row {w : World} {P i : Nat} {cs : Array Value} {t : TypeId} {fr : Nat × Nat} (h : w.heap[P]? = some (.cells cs t fr)) (v : Value) : (w.setCell ⟨P, i, none⟩ v).heap[P]? = some (.cells (cs.setIfInBounds i v) t fr) := by
  unfold World.setCell
  simp only [Array.getElem?_modify, h, if_true, Option.map_some, Option.isSome_none, Bool.false_eq_true, if_false]
theorem set4_row {w : World} {P : Nat} {t : TypeId} {fr : Nat × Nat} (h : w.heap[P]? = some (.cells ztC t fr)) (a b c d : Value) : ((((w.setCell ⟨P, 0, none⟩ a).setCell ⟨P, 1, none⟩ b).setCell ⟨P, 2, none⟩ c).setCell ⟨P, 3, none⟩ d).heap[P]? = some (.cells #[a, b, c, d] t fr) :=
  setCell_row (setCell_row (setCell_row (setCell_row h a) b) c) d
abbrev fv (f : FuncId) : Value := .func (.func f) #[] #[]
abbrev unC : Array Value := #[.nilFunc, fv 129, fv 130, fv 131]
abbrev biC : Array Value := List.toArray (.nilFunc :: .nilFunc :: fv 132 :: fv 133 :: fv 132 :: fv 134 :: fv 132 :: fv 135 :: fv 132 :: fv 136 :: fv 137 :: fv 138 :: fv 137 :: fv 139 :: fv 140 :: fv 141 :: fv 142 :: fv 143 :: fv 142 :: fv 144 :: fv 142 :: fv 145 :: fv 146 :: fv 147 :: fv 148 :: fv 149 :: fv 148 :: fv 150 :: fv 151 :: fv 152 :: fv 153 :: fv 154 :: fv 153 :: fv 155 :: fv 142 :: fv 156 :: fv 142 :: fv 157 :: fv 142 :: fv 158 :: [])
abbrev un0 : Array Value := #[.nilFunc, .nilFunc, .nilFunc, .nilFunc]
abbrev bi0 : Array Value := List.toArray (.nilFunc :: .nilFunc :: .nilFunc :: .nilFunc :: .nilFunc :: .nilFunc :: .nilFunc :: .nilFunc :: .nilFunc :: .nilFunc :: .nilFunc :: .nilFunc :: .nilFunc :: .nilFunc :: .nilFunc :: .nilFunc :: .nilFunc :: .nilFunc :: .nilFunc :: .nilFunc :: .nilFunc :: .nilFunc :: .nilFunc :: .nilFunc :: .nilFunc :: .nilFunc :: .nilFunc :: .nilFunc :: .nilFunc :: .nilFunc :: .nilFunc :: .nilFunc :: .nilFunc :: .nilFunc :: .nilFunc :: .nilFunc :: .nilFunc :: .nilFunc :: .nilFunc :: .nilFunc :: [])
set_option maxRecDepth 100000 in
set_option maxHeartbeats 4000000 in
theorem unaries_any : Says 119 #[] (.agg unC) := by
  intro w
  go_enter Tryz.func119, Tryz.ntmps119
  go_wp2_with (refine wpList_store_row rfl 131 (.tmp 0) (.tmp 1) rfl w.heap.size unC rfl rfl 131 un0 (heap_alloc_last _ _) (by kernel_rfl) rfl (by kernel_rfl) ?_)
  exact bodyPost_ret_by (results_cell_row rfl _ _ w.heap.size 131 unC (0, 0) (.array 4 130) rfl (setRow_heap _ _ _ _ _ _ (heap_alloc_last _ _)) (by kernel_rfl) rfl (by kernel_rfl)) rfl ⟨rfl, Below.setRow (alloc_below w _) _ _ (Nat.le_refl _)⟩
set_option maxRecDepth 100000 in
set_option maxHeartbeats 4000000 in
theorem binaries_any : Says 121 #[] (.agg biC) := by
  intro w
  go_enter Tryz.func121, Tryz.ntmps121
  go_wp2_with (refine wpList_store_row rfl 139 (.tmp 0) (.tmp 20) rfl w.heap.size biC rfl rfl 139 bi0 (heap_alloc_last _ _) (by kernel_rfl) rfl (by kernel_rfl) ?_)
  exact bodyPost_ret_by (results_cell_row rfl _ _ w.heap.size 139 biC (0, 0) (.array 20 138) rfl (setRow_heap _ _ _ _ _ _ (heap_alloc_last _ _)) (by kernel_rfl) rfl (by kernel_rfl)) rfl ⟨rfl, Below.setRow (alloc_below w _) _ _ (Nat.le_refl _)⟩
set_option maxRecDepth 100000 in
set_option maxHeartbeats 4000000 in
theorem isBinary_any (c : Int) : Tells 120 #[.int .i64 c] (.bool (decide (1 ≤ c ∧ c ≤ 19))) := by
  intro w
  by_cases h1 : 1 ≤ c
  · by_cases h2 : c ≤ 19
    · rw [decide_eq_true (And.intro h1 h2)]
      go_enter Tryz.func120, Tryz.ntmps120
      go_wp2
      go_ret
      exact ⟨rfl, rfl⟩
    · rw [decide_eq_false (p := 1 ≤ c ∧ c ≤ 19) (fun h => h2 h.2)]
      go_enter Tryz.func120, Tryz.ntmps120
      go_wp2
      go_ret
      exact ⟨rfl, rfl⟩
  · rw [decide_eq_false (p := 1 ≤ c ∧ c ≤ 19) (fun h => h1 h.1)]
    go_enter Tryz.func120, Tryz.ntmps120
    go_wp2
    go_ret
    exact ⟨rfl, rfl⟩
set_option maxRecDepth 100000 in
set_option maxHeartbeats 4000000 in
theorem un_unfixed {a : Tm} {a1 : Option Addr} {c1 : Nat} {w : World} (ha : TAt w a a1 c1) (c : Int) (hf : fixT a = false) : Calls Tryz.prog 105 #[.int .i64 c, tv a a1 c1] w (OpF zt 1 w) := by
  obtain ⟨b0, r0, q0⟩ := two_alloc w (tvC a a1 c1) 33
  have B0 := hide b0
  have R0 := hide r0
  have Q0 := hide q0
  have HC := hide (Fixed_any (ha.ext b0))
  rw [hf] at HC
  clear b0 r0 q0 ha hf
  unfold tv tvC at *
  generalize a.k = ak at *
  generalize a.n = an at *
  generalize a.s = aS at *
  generalize a.l.length = al at *
  go_enter Tryz.func105, Tryz.ntmps105
  go_wp2_with fail
  refine HC.out.mono ?_
  rintro e_ w1 ⟨rfl, b1⟩
  have B1 := hide (Below.chain B0.out b1)
  have R1 := hide (Below.heap b1 (Array.getElem?_eq_some_iff.1 R0.out).1 R0.out)
  clear b1
  go_wp2_with (refine wpList_store_row rfl 33 (.tmp 4) (.tmp 17) rfl (w.heap.size + 1) ztC rfl rfl 33 ztC R1.out (by kernel_rfl) rfl (by kernel_rfl) ?_)
  refine bodyPost_ret_by (results_row_tmp rfl _ _ (w.heap.size + 1) 33 _ (0, 0) _ rfl (setRow_heap _ _ _ _ _ _ R1.out) Tryz.underlying33 rfl (by kernel_rfl)) rfl ?_
  exact ⟨rfl, Below.setRow B1.out _ _ (Nat.le_succ _)⟩
set_option maxRecDepth 100000 in
set_option maxHeartbeats 4000000 in
theorem un_low {a : Tm} {a1 : Option Addr} {c1 : Nat} {w : World} (ha : TAt w a a1 c1) (c : Int) (hf : fixT a = true) (hc : c < 1) : Calls Tryz.prog 105 #[.int .i64 c, tv a a1 c1] w (OpF zt 1 w) := by
  obtain ⟨b0, r0, q0⟩ := two_alloc w (tvC a a1 c1) 33
  have B0 := hide b0
  have R0 := hide r0
  have Q0 := hide q0
  have HC := hide (Fixed_any (ha.ext b0))
  rw [hf] at HC
  have hc2 : decide (c < 1) = true := decide_eq_true hc
  clear b0 r0 q0 ha hf hc
  unfold tv tvC at *
  generalize a.k = ak at *
  generalize a.n = an at *
  generalize a.s = aS at *
  generalize a.l.length = al at *
  go_enter Tryz.func105, Tryz.ntmps105
  go_wp2_with fail
  refine HC.out.mono ?_
  rintro e_ w1 ⟨rfl, b1⟩
  have B1 := hide (Below.chain B0.out b1)
  have R1 := hide (Below.heap b1 (Array.getElem?_eq_some_iff.1 R0.out).1 R0.out)
  clear b1
  go_wp2_with (refine wpList_store_row rfl 33 (.tmp 4) (.tmp 17) rfl (w.heap.size + 1) ztC rfl rfl 33 ztC R1.out (by kernel_rfl) rfl (by kernel_rfl) ?_)
  refine bodyPost_ret_by (results_row_tmp rfl _ _ (w.heap.size + 1) 33 _ (0, 0) _ rfl (setRow_heap _ _ _ _ _ _ R1.out) Tryz.underlying33 rfl (by kernel_rfl)) rfl ?_
  exact ⟨rfl, Below.setRow B1.out _ _ (Nat.le_succ _)⟩
set_option maxRecDepth 100000 in
set_option maxHeartbeats 4000000 in
theorem un_high {a : Tm} {a1 : Option Addr} {c1 : Nat} {w : World} (ha : TAt w a a1 c1) (c : Int) (hf : fixT a = true) (hc : 3 < c) : Calls Tryz.prog 105 #[.int .i64 c, tv a a1 c1] w (OpF zt 1 w) := by
  obtain ⟨b0, r0, q0⟩ := two_alloc w (tvC a a1 c1) 33
  have B0 := hide b0
  have R0 := hide r0
  have Q0 := hide q0
  have HC := hide (Fixed_any (ha.ext b0))
  rw [hf] at HC
  have hc1 : decide (c < 1) = false := decide_eq_false (by omega)
  have hc2 : decide (3 < c) = true := decide_eq_true hc
  clear b0 r0 q0 ha hf hc
  unfold tv tvC at *
  generalize a.k = ak at *
  generalize a.n = an at *
  generalize a.s = aS at *
  generalize a.l.length = al at *
  go_enter Tryz.func105, Tryz.ntmps105
  go_wp2_with fail
  refine HC.out.mono ?_
  rintro e_ w1 ⟨rfl, b1⟩
  have B1 := hide (Below.chain B0.out b1)
  have R1 := hide (Below.heap b1 (Array.getElem?_eq_some_iff.1 R0.out).1 R0.out)
  clear b1
  go_wp2_with (refine wpList_store_row rfl 33 (.tmp 4) (.tmp 17) rfl (w.heap.size + 1) ztC rfl rfl 33 ztC R1.out (by kernel_rfl) rfl (by kernel_rfl) ?_)
  refine bodyPost_ret_by (results_row_tmp rfl _ _ (w.heap.size + 1) 33 _ (0, 0) _ rfl (setRow_heap _ _ _ _ _ _ R1.out) Tryz.underlying33 rfl (by kernel_rfl)) rfl ?_
  exact ⟨rfl, Below.setRow B1.out _ _ (Nat.le_succ _)⟩
set_option maxRecDepth 100000 in
set_option maxHeartbeats 4000000 in
theorem un_not {a : Tm} {a1 : Option Addr} {c1 : Nat} {w : World} (ha : TAt w a a1 c1) {r : Tm} {E : Int} (hf : fixT a = true) (hT : ∀ W, Calls Tryz.prog 129 #[tv a a1 c1] W (OpF r E W)) : Calls Tryz.prog 105 #[.int .i64 1, tv a a1 c1] w (OpF r E w) := by
  obtain ⟨b0, r0, q0⟩ := two_alloc w (tvC a a1 c1) 33
  have B0 := hide b0
  have R0 := hide r0
  have Q0 := hide q0
  have HC := hide (Fixed_any (ha.ext b0))
  rw [hf] at HC
  have HT : Hid (∀ W, Calls Tryz.prog 129 #[tv a a1 c1] W fun e w2 => e = .returned (.tuple #[.agg #[.int .i64 r.k, .int .i64 r.n, .string r.s, .slice none r.l.length 0], .int .i64 E]) ∧ Below W.heap.size W w2) := hide hT
  show Calls _ _ _ w fun e w2 => e = .returned (.tuple #[.agg #[.int .i64 r.k, .int .i64 r.n, .string r.s, .slice none r.l.length 0], .int .i64 E]) ∧ Below w.heap.size w w2
  generalize r.k = rk at *
  generalize r.n = rn at *
  generalize r.s = rs at *
  generalize r.l.length = rl at *
  clear b0 r0 q0 ha hf hT
  unfold tv tvC at *
  have hix : ∀ w_, (Instr.index 131 (.agg unC) (.int .i64 1)).run Tryz.prog w_ = .ok (fv 129) w_ := fun w_ => by kernel_rfl
  generalize a.k = ak at *
  generalize a.n = an at *
  generalize a.s = aS at *
  generalize a.l.length = al at *
  go_enter Tryz.func105, Tryz.ntmps105
  go_wp2_with fail
  refine HC.out.mono ?_
  rintro e_ w1 ⟨rfl, b1⟩
  have B1 := hide (Below.chain B0.out b1)
  have R1 := hide (Below.heap b1 (Array.getElem?_eq_some_iff.1 R0.out).1 R0.out)
  have Q1 := hide (Below.heap b1 (Array.getElem?_eq_some_iff.1 Q0.out).1 Q0.out)
  clear b1
  obtain ⟨z0, _⟩ := row_reads Q1.out
  have y0 := z0 0
  have y1 := z0 1
  have y2 := z0 2
  have y3 := z0 3
  simp only [List.getElem?_toArray, List.getElem?_cons_zero, List.getElem?_cons_succ] at y0 y1 y2 y3
  clear z0
  go_wp2_with fail
  go_region_with (first
    | (go_at_call 119
       refine (unaries_any _).mono ?_
       rintro e_ w2 ⟨rfl, b2⟩
       have b2 := Below.undrew b2
       have R2 := hide (Below.heap b2 (Array.getElem?_eq_some_iff.1 R1.out).1 R1.out)
       have r2 := Below.heap b2 (Array.getElem?_eq_some_iff.1 Q1.out).1 Q1.out
       have B2 := hide (Below.chain B1.out b2)
       obtain ⟨z0, _⟩ := row_reads r2
       have v0 := z0 0
       have v1 := z0 1
       have v2 := z0 2
       have v3 := z0 3
       simp only [List.getElem?_toArray, List.getElem?_cons_zero, List.getElem?_cons_succ] at v0 v1 v2 v3
       clear z0 r2 b2)
    | (go_at_call 129
       refine (HT.out _).mono ?_
       rintro e_ w3 ⟨rfl, b3⟩
       have R3 := hide (Below.heap b3 (Array.getElem?_eq_some_iff.1 R2.out).1 R2.out)
       have B3 := hide (Below.chain B2.out b3)
       obtain ⟨z0, f0⟩ := row_reads R3.out
       have u0 := z0 0
       have u1 := z0 1
       have u2 := z0 2
       have u3 := z0 3
       have g0 := f0 0
       have g1 := f0 1
       have g2 := f0 2
       have g3 := f0 3
       simp only [List.getElem?_toArray, List.getElem?_cons_zero, List.getElem?_cons_succ] at u0 u1 u2 u3
       clear b3 z0 f0))
  all_goals (
    go_wp2
    refine bodyPost_ret_by (results_row_tmp rfl _ _ (w.heap.size + 1) 33 _ (0, 0) _ rfl (set4_row R3.out _ _ _ _) Tryz.underlying33 rfl (by kernel_rfl)) rfl ?_
    exact ⟨rfl, (((B3.out.setCell (Nat.le_succ _) _).setCell (Nat.le_succ _) _).setCell (Nat.le_succ _) _).setCell (Nat.le_succ _) _⟩)
set_option maxRecDepth 100000 in
set_option maxHeartbeats 4000000 in
theorem un_negative {a : Tm} {a1 : Option Addr} {c1 : Nat} {w : World} (ha : TAt w a a1 c1) {r : Tm} {E : Int} (hf : fixT a = true) (hT : ∀ W, Calls Tryz.prog 130 #[tv a a1 c1] W (OpF r E W)) : Calls Tryz.prog 105 #[.int .i64 2, tv a a1 c1] w (OpF r E w) := by
  obtain ⟨b0, r0, q0⟩ := two_alloc w (tvC a a1 c1) 33
  have B0 := hide b0
  have R0 := hide r0
  have Q0 := hide q0
  have HC := hide (Fixed_any (ha.ext b0))
  rw [hf] at HC
  have HT : Hid (∀ W, Calls Tryz.prog 130 #[tv a a1 c1] W fun e w2 => e = .returned (.tuple #[.agg #[.int .i64 r.k, .int .i64 r.n, .string r.s, .slice none r.l.length 0], .int .i64 E]) ∧ Below W.heap.size W w2) := hide hT
  show Calls _ _ _ w fun e w2 => e = .returned (.tuple #[.agg #[.int .i64 r.k, .int .i64 r.n, .string r.s, .slice none r.l.length 0], .int .i64 E]) ∧ Below w.heap.size w w2
  generalize r.k = rk at *
  generalize r.n = rn at *
  generalize r.s = rs at *
  generalize r.l.length = rl at *
  clear b0 r0 q0 ha hf hT
  unfold tv tvC at *
  have hix : ∀ w_, (Instr.index 131 (.agg unC) (.int .i64 2)).run Tryz.prog w_ = .ok (fv 130) w_ := fun w_ => by kernel_rfl
  generalize a.k = ak at *
  generalize a.n = an at *
  generalize a.s = aS at *
  generalize a.l.length = al at *
  go_enter Tryz.func105, Tryz.ntmps105
  go_wp2_with fail
  refine HC.out.mono ?_
  rintro e_ w1 ⟨rfl, b1⟩
  have B1 := hide (Below.chain B0.out b1)
  have R1 := hide (Below.heap b1 (Array.getElem?_eq_some_iff.1 R0.out).1 R0.out)
  have Q1 := hide (Below.heap b1 (Array.getElem?_eq_some_iff.1 Q0.out).1 Q0.out)
  clear b1
  obtain ⟨z0, _⟩ := row_reads Q1.out
  have y0 := z0 0
  have y1 := z0 1
  have y2 := z0 2
  have y3 := z0 3
  simp only [List.getElem?_toArray, List.getElem?_cons_zero, List.getElem?_cons_succ] at y0 y1 y2 y3
  clear z0
  go_wp2_with fail
  go_region_with (first
    | (go_at_call 119
       refine (unaries_any _).mono ?_
       rintro e_ w2 ⟨rfl, b2⟩
       have b2 := Below.undrew b2
       have R2 := hide (Below.heap b2 (Array.getElem?_eq_some_iff.1 R1.out).1 R1.out)
       have r2 := Below.heap b2 (Array.getElem?_eq_some_iff.1 Q1.out).1 Q1.out
       have B2 := hide (Below.chain B1.out b2)
       obtain ⟨z0, _⟩ := row_reads r2
       have v0 := z0 0
       have v1 := z0 1
       have v2 := z0 2
       have v3 := z0 3
       simp only [List.getElem?_toArray, List.getElem?_cons_zero, List.getElem?_cons_succ] at v0 v1 v2 v3
       clear z0 r2 b2)
    | (go_at_call 130
       refine (HT.out _).mono ?_
       rintro e_ w3 ⟨rfl, b3⟩
       have R3 := hide (Below.heap b3 (Array.getElem?_eq_some_iff.1 R2.out).1 R2.out)
       have B3 := hide (Below.chain B2.out b3)
       obtain ⟨z0, f0⟩ := row_reads R3.out
       have u0 := z0 0
       have u1 := z0 1
       have u2 := z0 2
       have u3 := z0 3
       have g0 := f0 0
       have g1 := f0 1
       have g2 := f0 2
       have g3 := f0 3
       simp only [List.getElem?_toArray, List.getElem?_cons_zero, List.getElem?_cons_succ] at u0 u1 u2 u3
       clear b3 z0 f0))
  all_goals (
    go_wp2
    refine bodyPost_ret_by (results_row_tmp rfl _ _ (w.heap.size + 1) 33 _ (0, 0) _ rfl (set4_row R3.out _ _ _ _) Tryz.underlying33 rfl (by kernel_rfl)) rfl ?_
    exact ⟨rfl, (((B3.out.setCell (Nat.le_succ _) _).setCell (Nat.le_succ _) _).setCell (Nat.le_succ _) _).setCell (Nat.le_succ _) _⟩)
set_option maxRecDepth 100000 in
set_option maxHeartbeats 4000000 in
theorem un_length {a : Tm} {a1 : Option Addr} {c1 : Nat} {w : World} (ha : TAt w a a1 c1) {r : Tm} {E : Int} (hf : fixT a = true) (hT : ∀ W, Calls Tryz.prog 131 #[tv a a1 c1] W (OpF r E W)) : Calls Tryz.prog 105 #[.int .i64 3, tv a a1 c1] w (OpF r E w) := by
  obtain ⟨b0, r0, q0⟩ := two_alloc w (tvC a a1 c1) 33
  have B0 := hide b0
  have R0 := hide r0
  have Q0 := hide q0
  have HC := hide (Fixed_any (ha.ext b0))
  rw [hf] at HC
  have HT : Hid (∀ W, Calls Tryz.prog 131 #[tv a a1 c1] W fun e w2 => e = .returned (.tuple #[.agg #[.int .i64 r.k, .int .i64 r.n, .string r.s, .slice none r.l.length 0], .int .i64 E]) ∧ Below W.heap.size W w2) := hide hT
  show Calls _ _ _ w fun e w2 => e = .returned (.tuple #[.agg #[.int .i64 r.k, .int .i64 r.n, .string r.s, .slice none r.l.length 0], .int .i64 E]) ∧ Below w.heap.size w w2
  generalize r.k = rk at *
  generalize r.n = rn at *
  generalize r.s = rs at *
  generalize r.l.length = rl at *
  clear b0 r0 q0 ha hf hT
  unfold tv tvC at *
  have hix : ∀ w_, (Instr.index 131 (.agg unC) (.int .i64 3)).run Tryz.prog w_ = .ok (fv 131) w_ := fun w_ => by kernel_rfl
  generalize a.k = ak at *
  generalize a.n = an at *
  generalize a.s = aS at *
  generalize a.l.length = al at *
  go_enter Tryz.func105, Tryz.ntmps105
  go_wp2_with fail
  refine HC.out.mono ?_
  rintro e_ w1 ⟨rfl, b1⟩
  have B1 := hide (Below.chain B0.out b1)
  have R1 := hide (Below.heap b1 (Array.getElem?_eq_some_iff.1 R0.out).1 R0.out)
  have Q1 := hide (Below.heap b1 (Array.getElem?_eq_some_iff.1 Q0.out).1 Q0.out)
  clear b1
  obtain ⟨z0, _⟩ := row_reads Q1.out
  have y0 := z0 0
  have y1 := z0 1
  have y2 := z0 2
  have y3 := z0 3
  simp only [List.getElem?_toArray, List.getElem?_cons_zero, List.getElem?_cons_succ] at y0 y1 y2 y3
  clear z0
  go_wp2_with fail
  go_region_with (first
    | (go_at_call 119
       refine (unaries_any _).mono ?_
       rintro e_ w2 ⟨rfl, b2⟩
       have b2 := Below.undrew b2
       have R2 := hide (Below.heap b2 (Array.getElem?_eq_some_iff.1 R1.out).1 R1.out)
       have r2 := Below.heap b2 (Array.getElem?_eq_some_iff.1 Q1.out).1 Q1.out
       have B2 := hide (Below.chain B1.out b2)
       obtain ⟨z0, _⟩ := row_reads r2
       have v0 := z0 0
       have v1 := z0 1
       have v2 := z0 2
       have v3 := z0 3
       simp only [List.getElem?_toArray, List.getElem?_cons_zero, List.getElem?_cons_succ] at v0 v1 v2 v3
       clear z0 r2 b2)
    | (go_at_call 131
       refine (HT.out _).mono ?_
       rintro e_ w3 ⟨rfl, b3⟩
       have R3 := hide (Below.heap b3 (Array.getElem?_eq_some_iff.1 R2.out).1 R2.out)
       have B3 := hide (Below.chain B2.out b3)
       obtain ⟨z0, f0⟩ := row_reads R3.out
       have u0 := z0 0
       have u1 := z0 1
       have u2 := z0 2
       have u3 := z0 3
       have g0 := f0 0
       have g1 := f0 1
       have g2 := f0 2
       have g3 := f0 3
       simp only [List.getElem?_toArray, List.getElem?_cons_zero, List.getElem?_cons_succ] at u0 u1 u2 u3
       clear b3 z0 f0))
  all_goals (
    go_wp2
    refine bodyPost_ret_by (results_row_tmp rfl _ _ (w.heap.size + 1) 33 _ (0, 0) _ rfl (set4_row R3.out _ _ _ _) Tryz.underlying33 rfl (by kernel_rfl)) rfl ?_
    exact ⟨rfl, (((B3.out.setCell (Nat.le_succ _) _).setCell (Nat.le_succ _) _).setCell (Nat.le_succ _) _).setCell (Nat.le_succ _) _⟩)
end Go.Proofs.YteiacgpaocnofaaGreat
