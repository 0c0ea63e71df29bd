/- Terms, their fields and rows, as what operations give. -/
import Derived.Test.YteiacgpaocnofaaGreatVc
namespace Go.Proofs.YteiacgpaocnofaaGreat
open Go.RowKit
/-- Where a value lies. -/
def icp (x : Value) : STy := ⟨fun w v => ∃ b o, v = .pointer (some ⟨b, o, none⟩) ∧ b < w.heap.size ∧ w.cell? ⟨b, o, none⟩ = some x,
  fun hx ⟨b, o, h1, h2, h3⟩ => ⟨b, o, h1, Nat.lt_of_lt_of_le h2 (Below.size hx), (Below.cell (p := ⟨b, o, none⟩) hx h2).trans h3⟩⟩
/-- Where a term lies. -/
def itp (t : Tm) (a : Option Addr) (c : Nat) : STy := ⟨fun w v => ∃ b o, v = .pointer (some ⟨b, o, none⟩) ∧ b < w.heap.size ∧ C4 w b o t a c,
  fun hx ⟨b, o, h1, h2, h3⟩ => ⟨b, o, h1, Nat.lt_of_lt_of_le h2 (Below.size hx), h3.ext h2 hx⟩⟩
section
variable {ops : Array Oper} {Q : Exit → Act → World → Prop} {o : Oper} {T : STy} {a : Act} {w : World}
theorem g_ld2 (hw : Region.wanted o (yielded ops a.tmps) = true) {x : Operand} {v : Value} (ho : o.op = .load 2 x) (h : (icp v).p w (a.eval x)) (ht : T.p w v) : Gives Tryz.prog ops Q o T a w := by
  obtain ⟨b, of, e, hb, hc⟩ := h
  refine g_run hw (v := v) ?_ (Ext.refl w) ht
  unfold execOp
  simp only [ho, e]
  go_simp
theorem g_ld3 (hw : Region.wanted o (yielded ops a.tmps) = true) {x : Operand} {v : Value} (ho : o.op = .load 3 x) (h : (icp v).p w (a.eval x)) (ht : T.p w v) : Gives Tryz.prog ops Q o T a w := by
  obtain ⟨b, of, e, hb, hc⟩ := h
  refine g_run hw (v := v) ?_ (Ext.refl w) ht
  unfold execOp
  simp only [ho, e]
  go_simp
theorem g_ld9 (hw : Region.wanted o (yielded ops a.tmps) = true) {x : Operand} {v : Value} (ho : o.op = .load 9 x) (h : (icp v).p w (a.eval x)) (ht : T.p w v) : Gives Tryz.prog ops Q o T a w := by
  obtain ⟨b, of, e, hb, hc⟩ := h
  refine g_run hw (v := v) ?_ (Ext.refl w) ht
  unfold execOp
  simp only [ho, e]
  go_simp
theorem g_ld22 (hw : Region.wanted o (yielded ops a.tmps) = true) {x : Operand} {v : Value} (ho : o.op = .load 26 x) (h : (icp v).p w (a.eval x)) (ht : T.p w v) : Gives Tryz.prog ops Q o T a w := by
  obtain ⟨b, of, e, hb, hc⟩ := h
  refine g_run hw (v := v) ?_ (Ext.refl w) ht
  unfold execOp
  simp only [ho, e]
  go_simp
theorem g_fa0 (hw : Region.wanted o (yielded ops a.tmps) = true) {x : Operand} {t : Tm} {ta : Option Addr} {tc : Nat} (ho : o.op = .fieldAddr 33 x 0) (h : (itp t ta tc).p w (a.eval x)) : Gives Tryz.prog ops Q o (icp (.int .i64 t.k)) a w := by
  obtain ⟨b, of, e, hb, hc⟩ := h
  refine g_run hw (v := .pointer (some ⟨b, of + 0, none⟩)) ?_ (Ext.refl w) ⟨b, of + 0, rfl, hb, hc.1⟩
  unfold execOp
  simp only [ho, e]
  go_simp
theorem g_fa1 (hw : Region.wanted o (yielded ops a.tmps) = true) {x : Operand} {t : Tm} {ta : Option Addr} {tc : Nat} (ho : o.op = .fieldAddr 33 x 1) (h : (itp t ta tc).p w (a.eval x)) : Gives Tryz.prog ops Q o (icp (.int .i64 t.n)) a w := by
  obtain ⟨b, of, e, hb, hc⟩ := h
  refine g_run hw (v := .pointer (some ⟨b, of + 1, none⟩)) ?_ (Ext.refl w) ⟨b, of + 1, rfl, hb, hc.2.1⟩
  unfold execOp
  simp only [ho, e]
  go_simp
theorem g_fa2 (hw : Region.wanted o (yielded ops a.tmps) = true) {x : Operand} {t : Tm} {ta : Option Addr} {tc : Nat} (ho : o.op = .fieldAddr 33 x 2) (h : (itp t ta tc).p w (a.eval x)) : Gives Tryz.prog ops Q o (icp (.string t.s)) a w := by
  obtain ⟨b, of, e, hb, hc⟩ := h
  refine g_run hw (v := .pointer (some ⟨b, of + 2, none⟩)) ?_ (Ext.refl w) ⟨b, of + 2, rfl, hb, hc.2.2.1⟩
  unfold execOp
  simp only [ho, e]
  go_simp
theorem g_fa3 (hw : Region.wanted o (yielded ops a.tmps) = true) {x : Operand} {t : Tm} {ta : Option Addr} {tc : Nat} (ho : o.op = .fieldAddr 33 x 3) (h : (itp t ta tc).p w (a.eval x)) : Gives Tryz.prog ops Q o (icp (.slice ta t.l.length tc)) a w := by
  obtain ⟨b, of, e, hb, hc⟩ := h
  refine g_run hw (v := .pointer (some ⟨b, of + 3, none⟩)) ?_ (Ext.refl w) ⟨b, of + 3, rfl, hb, hc.2.2.2⟩
  unfold execOp
  simp only [ho, e]
  go_simp
theorem g_ixt (hw : Region.wanted o (yielded ops a.tmps) = true) {x y : Operand} {b of n c : Nat} (k : Nat) {t : Tm} {ta : Option Addr} {tc : Nat} (ho : o.op = .indexAddr 26 x y) (hx : a.eval x = .slice (some ⟨b, of, none⟩) n c) (hy : a.eval y = .int .i64 (k : Int)) (hk : k < n) (hb : b < w.heap.size) (h : C4 w b (of + k * 4) t ta tc) : Gives Tryz.prog ops Q o (itp t ta tc) a w := by
  refine g_run hw (v := .pointer (some ⟨b, of + k * 4, none⟩)) ?_ (Ext.refl w) ⟨b, of + k * 4, rfl, hb, h⟩
  unfold execOp
  simp only [ho, hx, hy]
  rw [Sem.run_bind, ix_terms w b of n c k hk]
  rfl
theorem g_ixh (hw : Region.wanted o (yielded ops a.tmps) = true) {x y : Operand} {b of n c : Nat} (k : Nat) {t : Tm} {ta : Option Addr} {tc : Nat} (ho : o.op = .indexAddr 186 x y) (hx : a.eval x = .slice (some ⟨b, of, none⟩) n c) (hy : a.eval y = .int .i64 (k : Int)) (hk : k < n) (hb : b < w.heap.size) (h : C4 w b (of + k * 4) t ta tc) : Gives Tryz.prog ops Q o (itp t ta tc) a w := by
  refine g_run hw (v := .pointer (some ⟨b, of + k * 4, none⟩)) ?_ (Ext.refl w) ⟨b, of + k * 4, rfl, hb, h⟩
  unfold execOp
  simp only [ho, hx, hy]
  rw [Sem.run_bind, ix_hterms w b of n c k hk]
  rfl
theorem g_skipu {P : Program} {g : Nat} {d : Nat} {b : Bool} (hg : o.guard = some (g, b)) (hd : dstOf ops g = some d) (hv : a.tmps.getD d undef = undef) (ht : T.p w undef) : Gives P ops Q o T a w := by
  refine .inr ⟨?_, ht⟩
  have hy : yielded ops a.tmps g = none := by
    unfold yielded
    unfold dstOf at hd
    rw [hd]
    rw [Array.getD_eq_getD_getElem?] at hv
    cases h : a.tmps[d]? with
    | none => simp [h]
    | some v => rw [h] at hv; simp at hv; subst hv; simp [h, undef]
  unfold Region.wanted
  rw [hg]
  simp [hy]
theorem g_ldt (hw : Region.wanted o (yielded ops a.tmps) = true) {x : Operand} {t : Tm} {ta : Option Addr} {tc : Nat} (ho : o.op = .load 33 x) (h : (itp t ta tc).p w (a.eval x)) (ht : T.p w (tv t ta tc)) : Gives Tryz.prog ops Q o T a w := by
  obtain ⟨b, of, e, hb, c0, c1, c2, c3⟩ := h
  refine g_run hw (v := tv t ta tc) ?_ (Ext.refl w) ht
  unfold execOp tv
  simp only [ho, e]
  go_simp
theorem g_lens (hw : Region.wanted o (yielded ops a.tmps) = true) {x : Operand} {ao : Option Addr} {n c : Nat} (ho : o.op = .call { callee := .builtin .len, args := #[x], argTypes := #[26] }) (hx : a.eval x = .slice ao n c) (ht : T.p w (.int .i64 (n : Int))) : Gives Tryz.prog ops Q o T a w :=
  g_run hw (v := .int .i64 (n : Int)) (by
    unfold execOp
    simp only [ho, resolve, invoke, builtin, Sem.run_bind, Sem.run_pure, Result.andThen_ok, List.map_toArray, List.map_cons, List.map_nil, hx]
    go_simp) (Ext.refl w) ht
end
/-- Four cells of a block of its own. -/
theorem C4.of_row {w : World} {g : Nat} {t : Tm} {a : Option Addr} {c : Nat} {ty : TypeId} {fr : Nat × Nat} (h : w.heap[g]? = some (.cells #[.int .i64 t.k, .int .i64 t.n, .string t.s, .slice a t.l.length c] ty fr)) : C4 w g 0 t a c :=
  ⟨cell_of_row _ _ _ _ _ _ h, cell_of_row _ _ _ _ _ _ h, cell_of_row _ _ _ _ _ _ h, cell_of_row _ _ _ _ _ _ h⟩
theorem itp_row {w : World} {g : Nat} {t : Tm} {a : Option Addr} {c : Nat} {ty : TypeId} {fr : Nat × Nat} (h : w.heap[g]? = some (.cells #[.int .i64 t.k, .int .i64 t.n, .string t.s, .slice a t.l.length c] ty fr)) : (itp t a c).p w (.pointer (some ⟨g, 0, none⟩)) :=
  ⟨g, 0, rfl, (Array.getElem?_eq_some_iff.1 h).1, C4.of_row h⟩
end Go.Proofs.YteiacgpaocnofaaGreat
