/- Rows in memory as operations of a region read, point into and make them, while other memory is made and some variables are filled. For any program. -/
import Derived.Test.YteplbagjagimdaaDoorTyped3
import Derived.Deep.MidRow
import Derived.Deep.Cut
import Derived.Laws.ResultCell
namespace Go
open Go.RowKit
section
variable {P : Program} {ops : Array Oper} {Q : Exit → Act → World → Prop} {o : Oper} {T : STy} {a : Act} {w w0 : World} {B : Nat} {S : List Nat}
theorem cut_world {c : Code} {a : Act} {w : World} (F : World → Prop) (hF : F w) (h : ∀ W, F W → c.wp P Q a W) : c.wp P Q a w := h w hF
theorem Lull.at_ {g : Nat} {x : Obj} (hX : Lull B S w0 w) (hlt : g < B) (hS : g ∉ S) (hr : w0.heap[g]? = some x) : w.heap[g]? = some x := (hX.block g hlt hS).trans hr
/-- Part of a row. -/
theorem g_part (hw : Region.wanted o (yielded ops a.tmps) = true) {ty ty' : TypeId} {x : Operand} {g off : Nat} {cs : Array Value} {fr : Nat × Nat} {l : List Value} {d : TypeDesc} (ho : o.op = .load ty x) (hx : a.eval x = .pointer (some ⟨g, off, none⟩)) (hr : w.heap[g]? = some (.cells cs ty' fr))
    (hu : P.underlying ty = some d) (hd : d.isRow = true) (hi : (P.info? ty).map (·.size) = some l.length) (hc : ∀ j v, l[j]? = some v → cs[off + j]? = some v) (ht : T.p w (.agg l.toArray)) : Gives P ops Q o T a w :=
  g_run hw (by
    unfold execOp
    simp only [ho, hx, Instr.loadAt, Instr.sureAddr, Sem.run_bind, Sem.run_pure, Result.andThen_ok, run_loadVar_mid w g off ty l d (fun j v hj => by rw [cell_of_row _ _ _ _ _ _ hr]; exact hc j v hj) hu hd hi]) (Ext.refl w) ht
/-- A row read whole. -/
theorem g_row (hw : Region.wanted o (yielded ops a.tmps) = true) {ty ty' : TypeId} {x : Operand} {g : Nat} {cs : Array Value} {fr : Nat × Nat} {d : TypeDesc} (ho : o.op = .load ty x) (hx : a.eval x = .pointer (some ⟨g, 0, none⟩)) (hr : w.heap[g]? = some (.cells cs ty' fr))
    (hu : P.underlying ty = some d) (hd : d.isRow = true) (hi : (P.info? ty).map (·.size) = some cs.size) (ht : T.p w (.agg cs)) : Gives P ops Q o T a w :=
  g_part hw (off := 0) (l := cs.toList) ho hx hr hu hd (by simpa using hi) (fun j v hj => by simpa using hj) (by simpa using ht)
/-- Cells that lie in a block. -/
theorem g_cells (hw : Region.wanted o (yielded ops a.tmps) = true) {ty : TypeId} {x : Operand} {g off : Nat} {l : List Value} {d : TypeDesc} (ho : o.op = .load ty x) (hx : a.eval x = .pointer (some ⟨g, off, none⟩)) (hr : w.rangeAt g off l)
    (hu : P.underlying ty = some d) (hd : d.isRow = true) (hi : (P.info? ty).map (·.size) = some l.length) (ht : T.p w (.agg l.toArray)) : Gives P ops Q o T a w :=
  g_run hw (by
    unfold execOp
    simp only [ho, hx, Instr.loadAt, Instr.sureAddr, Sem.run_bind, Sem.run_pure, Result.andThen_ok, run_loadVar_mid w g off ty l d hr hu hd hi]) (Ext.refl w) ht
theorem g_fld (hw : Region.wanted o (yielded ops a.tmps) = true) {s : TypeId} {f off : Nat} {x : Operand} {g : Nat} (ho : o.op = .fieldAddr s x f) (hx : a.eval x = .pointer (some ⟨g, 0, none⟩))
    (hf : ∀ (g : Nat) (W : World), (Instr.fieldAt s (.pointer (some ⟨g, 0, none⟩)) f).run P W = .ok (.pointer (some ⟨g, off, none⟩)) W) : Gives P ops Q o (isv (.pointer (some ⟨g, off, none⟩))) a w :=
  g_run hw (by
    unfold execOp
    simp only [ho, hx, Sem.run_bind, Sem.run_pure, Result.andThen_ok, hf]) (Ext.refl w) rfl
theorem g_bld (hw : Region.wanted o (yielded ops a.tmps) = true) {t : TypeId} {parts : Array (Nat × Operand)} {v : Value} (ho : o.op = .build t parts) (hb : (Instr.build t (parts.map fun (i, x) => (i, a.eval x))).run P w = .ok v w) (ht : T.p w v) : Gives P ops Q o T a w :=
  g_run hw (by
    unfold execOp
    simp only [ho, Sem.run_bind, Sem.run_pure, Result.andThen_ok, hb]) (Ext.refl w) ht
theorem g_ext (hw : Region.wanted o (yielded ops a.tmps) = true) {x : Operand} {i : Nat} {vs : Array Value} {v : Value} (ho : o.op = .extract x i) (hx : a.eval x = .tuple vs) (hi : vs[i]? = some v) (ht : T.p w v) : Gives P ops Q o T a w :=
  g_run hw (v := v) (by
    unfold execOp
    simp only [ho, hx, Instr.extract, Sem.run_bind, Sem.run_pure, Result.andThen_ok, hi]) (Ext.refl w) ht
theorem alc_of {ty m : Nat} (Z : Array Value) (hg : o.guard = none) (ho : o.op = .alloc ty) (hZ : Z.size = m) (hr : ∀ W : World, (Instr.alloc ty true (.tuple #[])).run P W = .ok (.pointer (some ⟨W.heap.size, 0, none⟩)) (W.alloc (.cells Z ty))) :
    o.guard = none ∧ ∀ (a : Act) (w : World), ∃ Z : Array Value, Z.size = m ∧ (execOp a.eval o).run P w = .ok (.value (.pointer (some ⟨w.heap.size, 0, none⟩))) (w.alloc (.cells Z ty)) :=
  ⟨hg, fun a w => ⟨Z, hZ, by
    unfold execOp
    simp only [ho, Sem.run_bind, Sem.run_pure, Result.andThen_ok, hr]⟩⟩
theorem results_row_tmp {fn : Func} {p u : Tmp} {ty : TypeId} (h : fn.results = #[.cell p ty, .tmp u]) (tmps : Array Value) (w : World) (g : Nat) (t : TypeId) (cs : Array Value) (fr : Nat × Nat) (d : TypeDesc)
    (hp : tmps.getD p undef = .pointer (some ⟨g, 0, none⟩)) (hg : w.heap[g]? = some (.cells cs t fr))
    (hu : P.underlying ty = some d) (hd : (match d with | .struct _ | .array _ _ => true | _ => false) = true) (hi : (P.info? ty).map (·.size) = some cs.size) :
    (results fn tmps).run P w = .ok (.tuple #[.agg cs, tmps.getD u undef]) w := by
  rw [results_cell_tmp h, hp]
  simp only [asAddr, Sem.run_pure, Result.andThen_ok, run_loadVar_row w g t ty cs fr d hg hu hd hi]
theorem snkAt0 {a0 : Act} {w0 : World} : SnkAt [] [] a0 w0 := ⟨fun _ h => (by cases h), fun _ h => (by cases h)⟩
theorem snkAt1 {a0 : Act} {w0 : World} {g ty m t : Nat} {cs : Array Value} (hr : g < w0.heap.size ∧ w0.heap[g]? = some (.cells cs ty (0, 0))) (hs : cs.size = m) (hsl : a0.tmps.getD t undef = .pointer (some ⟨g, 0, none⟩)) : SnkAt [(g, ty, m)] [(0, t)] a0 w0 :=
  ⟨fun x h => (by
    rcases List.mem_cons.1 h with rfl | h
    · exact ⟨hr.1, cs, hr.2, hs⟩
    · cases h), fun y h => (by
    rcases List.mem_cons.1 h with rfl | h
    · exact ⟨by simp, hsl⟩
    · cases h)⟩
theorem out1 {g s ty m : Nat} (h : g ≠ s) : g ∉ List.map (fun x : Snk => x.1) [((s, ty, m) : Snk)] := by simpa using h
/-- A fact of a row, behind a region. -/
theorem Lull.row {g : Nat} {x : Obj} (hX : Lull w0.heap.size S w0 w) (hS : g ∉ S) (hr : g < w0.heap.size ∧ w0.heap[g]? = some x) : g < w.heap.size ∧ w.heap[g]? = some x :=
  ⟨Nat.lt_of_lt_of_le hr.1 hX.size, (hX.block g hr.1 hS).trans hr.2⟩
theorem Lull.on {C : Nat} {w w0 W : World} (hX : Lull w0.heap.size S w0 W) (hB : Below C w w0) (hC : C ≤ w0.heap.size) (hS : ∀ s ∈ S, C ≤ s) : Below C w W := hB.trans (hX.below hC hS)
theorem out0 {g : Nat} : g ∉ List.map (fun x : Snk => x.1) [] := by simp
theorem none_le {C : Nat} : ∀ s ∈ List.map (fun x : Snk => x.1) [], C ≤ s := fun _ h => by cases h
theorem one_le {C g ty m : Nat} (h : C ≤ g) : ∀ s ∈ List.map (fun x : Snk => x.1) [((g, ty, m) : Snk)], C ≤ s := fun s hs => by
  rcases List.mem_cons.1 hs with rfl | hs
  · exact h
  · cases hs
end
end Go
