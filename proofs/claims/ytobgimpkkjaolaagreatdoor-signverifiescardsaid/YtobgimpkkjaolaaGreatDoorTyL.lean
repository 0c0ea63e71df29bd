/- Variables of the program's numbers, points and fractions: read, pointed into, made, put together. -/
import Derived.Test.YtobgimpkkjaolaaGreatDoorTyK
namespace Go.Proofs.YtobgimpkkjaolaaGreatDoor
open Go.RowKit
theorem sizeK : (Tryz.prog.info? 47).map (·.size) = some 4 := by kernel_rfl
theorem sizeP : (Tryz.prog.info? 49).map (·.size) = some 8 := by kernel_rfl
theorem sizeF : (Tryz.prog.info? 87).map (·.size) = some 12 := by kernel_rfl
theorem sizeW : (Tryz.prog.info? 45).map (·.size) = some 4 := by kernel_rfl
def zk : Array Value := #[.int .u64 0, .int .u64 0, .int .u64 0, .int .u64 0]
def zp : Array Value := #[.int .u64 0, .int .u64 0, .int .u64 0, .int .u64 0, .int .u64 0, .int .u64 0, .int .u64 0, .int .u64 0]
def zf : Array Value := #[.int .u64 0, .int .u64 0, .int .u64 0, .int .u64 0, .int .u64 0, .int .u64 0, .int .u64 0, .int .u64 0, .int .u64 0, .int .u64 0, .int .u64 0, .int .u64 0]
theorem newK (W : World) : (Instr.alloc 47 true (.tuple #[])).run Tryz.prog W = .ok (.pointer (some ⟨W.heap.size, 0, none⟩)) (W.alloc (.cells zk 47)) := by kernel_rfl
theorem newP (W : World) : (Instr.alloc 49 true (.tuple #[])).run Tryz.prog W = .ok (.pointer (some ⟨W.heap.size, 0, none⟩)) (W.alloc (.cells zp 49)) := by kernel_rfl
theorem newF (W : World) : (Instr.alloc 87 true (.tuple #[])).run Tryz.prog W = .ok (.pointer (some ⟨W.heap.size, 0, none⟩)) (W.alloc (.cells zf 87)) := by kernel_rfl
theorem atP0 (g : Nat) (W : World) : (Instr.fieldAt 49 (.pointer (some ⟨g, 0, none⟩)) 0).run Tryz.prog W = .ok (.pointer (some ⟨g, 0, none⟩)) W := by kernel_rfl
theorem atP1 (g : Nat) (W : World) : (Instr.fieldAt 49 (.pointer (some ⟨g, 0, none⟩)) 1).run Tryz.prog W = .ok (.pointer (some ⟨g, 4, none⟩)) W := by kernel_rfl
theorem atF0 (g : Nat) (W : World) : (Instr.fieldAt 87 (.pointer (some ⟨g, 0, none⟩)) 0).run Tryz.prog W = .ok (.pointer (some ⟨g, 0, none⟩)) W := by kernel_rfl
theorem atF1 (g : Nat) (W : World) : (Instr.fieldAt 87 (.pointer (some ⟨g, 0, none⟩)) 1).run Tryz.prog W = .ok (.pointer (some ⟨g, 4, none⟩)) W := by kernel_rfl
theorem atF2 (g : Nat) (W : World) : (Instr.fieldAt 87 (.pointer (some ⟨g, 0, none⟩)) 2).run Tryz.prog W = .ok (.pointer (some ⟨g, 8, none⟩)) W := by kernel_rfl
theorem bldP (a0 a1 a2 a3 b0 b1 b2 b3 : Value) (W : World) : (Instr.build 49 #[(0, .agg #[a0, a1, a2, a3]), (1, .agg #[b0, b1, b2, b3])]).run Tryz.prog W = .ok (.agg #[a0, a1, a2, a3, b0, b1, b2, b3]) W := by kernel_rfl
theorem bldF (a0 a1 a2 a3 b0 b1 b2 b3 c0 c1 c2 c3 : Value) (W : World) : (Instr.build 87 #[(0, .agg #[a0, a1, a2, a3]), (1, .agg #[b0, b1, b2, b3]), (2, .agg #[c0, c1, c2, c3])]).run Tryz.prog W = .ok (.agg #[a0, a1, a2, a3, b0, b1, b2, b3, c0, c1, c2, c3]) W := by kernel_rfl
theorem bldK (a0 a1 a2 a3 : Value) (W : World) : (Instr.build 47 #[(0, .agg #[a0, a1, a2, a3])]).run Tryz.prog W = .ok (.agg #[a0, a1, a2, a3]) W := by kernel_rfl
theorem bldK0 (W : World) : (Instr.build 47 #[]).run Tryz.prog W = .ok (.agg zk) W := by kernel_rfl
theorem bldP0 (W : World) : (Instr.build 49 #[]).run Tryz.prog W = .ok (.agg zp) W := by kernel_rfl
theorem zk_el : zk = el (0 : Kp).val := by rw [kval_zero]; rfl
theorem zp_pe : zp = pe 0 (1 - 1) := by
  have h : (1 - 1 : Kp) = 0 := by decide +kernel
  rw [h]; unfold pe; rw [kval_zero]; rfl
section
variable {ops : Array Oper} {Q : Exit → Act → World → Prop} {o : Oper} {T : STy} {a : Act} {w : World} {x : Operand} {g : Nat}
theorem g_ldk {k : Kp} {ty' : TypeId} (hw : Region.wanted o (yielded ops a.tmps) = true) (ho : o.op = .load 47 x) (hx : a.eval x = .pointer (some ⟨g, 0, none⟩)) (hr : w.heap[g]? = some (.cells (el k.val) ty' (0, 0))) : Gives Tryz.prog ops Q o (isk k) a w := g_row hw ho hx hr Tryz.underlying47 rfl sizeK rfl
theorem g_ldp {k m : Kp} (hw : Region.wanted o (yielded ops a.tmps) = true) (ho : o.op = .load 49 x) (hx : a.eval x = .pointer (some ⟨g, 0, none⟩)) (hr : w.heap[g]? = some (.cells (pe k (m - 1)) 49 (0, 0))) : Gives Tryz.prog ops Q o (ipt k m) a w := g_row hw ho hx hr Tryz.underlying49 rfl sizeP rfl
theorem g_ldf {k m n : Kp} (hw : Region.wanted o (yielded ops a.tmps) = true) (ho : o.op = .load 87 x) (hx : a.eval x = .pointer (some ⟨g, 0, none⟩)) (hr : w.heap[g]? = some (.cells (fe k m n) 87 (0, 0))) : Gives Tryz.prog ops Q o (ifr k m n) a w := g_row hw ho hx hr Tryz.underlying87 rfl sizeF rfl
theorem g_ldp0 {k m : Kp} (hw : Region.wanted o (yielded ops a.tmps) = true) (ho : o.op = .load 47 x) (hx : a.eval x = .pointer (some ⟨g, 0, none⟩)) (hr : w.heap[g]? = some (.cells (pe k m) 49 (0, 0))) : Gives Tryz.prog ops Q o (isk k) a w := g_part (l := (el k.val).toList) hw ho hx hr Tryz.underlying47 rfl sizeK (pe0 k m) rfl
theorem g_ldp1 {k m : Kp} (hw : Region.wanted o (yielded ops a.tmps) = true) (ho : o.op = .load 47 x) (hx : a.eval x = .pointer (some ⟨g, 4, none⟩)) (hr : w.heap[g]? = some (.cells (pe k m) 49 (0, 0))) : Gives Tryz.prog ops Q o (isk m) a w := g_part (l := (el m.val).toList) hw ho hx hr Tryz.underlying47 rfl sizeK (pe1 k m) rfl
theorem g_ldf0 {k m n : Kp} (hw : Region.wanted o (yielded ops a.tmps) = true) (ho : o.op = .load 47 x) (hx : a.eval x = .pointer (some ⟨g, 0, none⟩)) (hr : w.heap[g]? = some (.cells (fe k m n) 87 (0, 0))) : Gives Tryz.prog ops Q o (isk k) a w := g_part (l := (el k.val).toList) hw ho hx hr Tryz.underlying47 rfl sizeK (fe0 k m n) rfl
theorem g_ldf1 {k m n : Kp} (hw : Region.wanted o (yielded ops a.tmps) = true) (ho : o.op = .load 47 x) (hx : a.eval x = .pointer (some ⟨g, 4, none⟩)) (hr : w.heap[g]? = some (.cells (fe k m n) 87 (0, 0))) : Gives Tryz.prog ops Q o (isk m) a w := g_part (l := (el m.val).toList) hw ho hx hr Tryz.underlying47 rfl sizeK (fe1 k m n) rfl
theorem g_ldf2 {k m n : Kp} (hw : Region.wanted o (yielded ops a.tmps) = true) (ho : o.op = .load 47 x) (hx : a.eval x = .pointer (some ⟨g, 8, none⟩)) (hr : w.heap[g]? = some (.cells (fe k m n) 87 (0, 0))) : Gives Tryz.prog ops Q o (isk n) a w := g_part (l := (el n.val).toList) hw ho hx hr Tryz.underlying47 rfl sizeK (fe2 k m n) rfl
theorem g_pe {k m : Kp} {p q : Operand} (hw : Region.wanted o (yielded ops a.tmps) = true) (ho : o.op = .build 49 #[(0, p), (1, q)]) (hp : a.eval p = .agg (el k.val)) (hq : a.eval q = .agg (el (m - 1).val)) : Gives Tryz.prog ops Q o (ipt k m) a w := by
  refine g_bld hw ho (v := .agg (pe k (m - 1))) ?_ rfl
  simp only [List.map_toArray, List.map_cons, List.map_nil, hp, hq]
  exact bldP _ _ _ _ _ _ _ _ w
theorem g_fe {k m n : Kp} {p q r : Operand} (hw : Region.wanted o (yielded ops a.tmps) = true) (ho : o.op = .build 87 #[(0, p), (1, q), (2, r)]) (hp : a.eval p = .agg (el k.val)) (hq : a.eval q = .agg (el m.val)) (hr : a.eval r = .agg (el n.val)) : Gives Tryz.prog ops Q o (ifr k m n) a w := by
  refine g_bld hw ho (v := .agg (fe k m n)) ?_ rfl
  simp only [List.map_toArray, List.map_cons, List.map_nil, hp, hq, hr]
  exact bldF _ _ _ _ _ _ _ _ _ _ _ _ w
theorem g_kz (hw : Region.wanted o (yielded ops a.tmps) = true) (ho : o.op = .build 47 #[]) : Gives Tryz.prog ops Q o (isk 0) a w := by
  refine g_bld hw ho (v := .agg zk) ?_ (congrArg Value.agg zk_el)
  simp only [List.map_toArray, List.map_nil]
  exact bldK0 w
theorem g_pz (hw : Region.wanted o (yielded ops a.tmps) = true) (ho : o.op = .build 49 #[]) : Gives Tryz.prog ops Q o (ipt 0 1) a w := by
  refine g_bld hw ho (v := .agg zp) ?_ (congrArg Value.agg zp_pe)
  simp only [List.map_toArray, List.map_nil]
  exact bldP0 w
theorem el_val4 {k : Kp} {l : List Nat} (hl : l.length = 4) (hm : lim l) (hv : val l = k.val) : na l = el k.val := by
  obtain ⟨a, b, c, d, rfl⟩ := four hl
  rw [na4]
  exact el_close (lim4 hm) hv
theorem g_kw {k : Kp} {l : List Nat} {p : Operand} (hw : Region.wanted o (yielded ops a.tmps) = true) (ho : o.op = .build 47 #[(0, p)]) (hp : a.eval p = .agg (na l)) (hl : l.length = 4) (hm : lim l) (hv : val l = k.val) : Gives Tryz.prog ops Q o (isk k) a w := by
  refine g_bld hw ho (v := .agg (el k.val)) ?_ rfl
  rw [el_val4 hl hm hv] at hp
  simp only [List.map_toArray, List.map_cons, List.map_nil, hp]
  exact bldK _ _ _ _ w
structure LaidW (g : Nat) (l : List Nat) (w : World) : Prop where
  cell : ∀ i, i < 4 → w.cell? ⟨g, i, none⟩ = some (.int .u64 ((l.getD i 0 : Nat) : Int))
  lt : g < w.heap.size
theorem LaidW.step {g : Nat} {l : List Nat} {w w' : World} (h : LaidW g l w) (k : Below w.heap.size w w') : LaidW g l w' :=
  ⟨fun i hi => (Below.cell (p := ⟨g, i, none⟩) k h.lt).trans (h.cell i hi), Nat.lt_of_lt_of_le h.lt k.size⟩
theorem LaidW.range {g : Nat} {l : List Nat} {w : World} (h : LaidW g l w) (hl : l.length = 4) : w.rangeAt g 0 (na l).toList := fun j v hj => by
  have h1 : j < (na l).toList.length := (List.getElem?_eq_some_iff.1 hj).1
  have h2 : j < 4 := by simpa [na_size, hl] using h1
  rw [Nat.zero_add, h.cell j h2]
  have h3 := na_get l j (by omega)
  rw [← h3]; simpa using hj
def isw (l : List Nat) : STy := isv (.agg (na l))
theorem g_glb {l : List Nat} {gl : Nat} (hw : Region.wanted o (yielded ops a.tmps) = true) (ho : o.op = .load 45 (.global gl)) (hL : LaidW gl l w) (hl : l.length = 4) : Gives Tryz.prog ops Q o (isw l) a w :=
  g_cells hw ho rfl (hL.range hl) Tryz.underlying45 rfl (by rw [sizeW]; simp [na_size, hl]) (by show Value.agg (na l).toList.toArray = _; rfl)
end
end Go.Proofs.YtobgimpkkjaolaaGreatDoor
