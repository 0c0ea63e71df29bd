/- Rows and terms in memory, and how they stay while other memory is made. -/
import Derived.Test.YteiacgpaocnofaaGreatTmMath
import Derived.Test.YteiacgpaocnofaaGreatRows
import Derived.WalkKit
import Derived.WalkSpells
import Derived.WalkLawsBesides
import Derived.Deep.WholeRow
import Derived.Deep.MidRow
import Derived.Deep.RegionHeld3
import Derived.Laws.Externs
import Derived.Laws.OwnMore
import Derived.ArgAppend
import Derived.Lib.AppendStr
import Derived.Maps.AppendAt
import Derived.Deep.LoopGhost
namespace Go.Proofs.YteiacgpaocnofaaGreat
open Go.RowKit
theorem hide {p : Prop} (h : p) : Hid p := h
theorem Below.heap {B : Nat} {W w1 : World} (h : Below B W w1) {g : Nat} {o : Obj} (hg : g < B) (hr : W.heap[g]? = some o) : w1.heap[g]? = some o := (h.block g hg).trans hr
theorem row_reads {w : World} {g : Nat} {cs : Array Value} {t : TypeId} (h : w.heap[g]? = some (.cells cs t (0, 0))) : (∀ i, w.cell? ⟨g, i, none⟩ = cs[i]?) ∧ (∀ i, w.frozen? ⟨g, i, none⟩ = false) :=
  ⟨fun _ => cell_of_row _ _ _ _ _ _ h, fun _ => frozen_of_row _ _ _ _ _ h⟩
theorem Below.chain {w a b : World} (h : Below w.heap.size w a) (k : Below a.heap.size a b) : Below w.heap.size w b := h.trans (k.mono h.size)
theorem Below.setRow {B : Nat} {a w : World} (h : Below B a w) (g : Nat) (cs : Array Value) (hg : B ≤ g) : Below B a (w.setRow g cs) :=
  h.trans ⟨rfl, rfl, rfl, by simp, fun k hk => setRow_other w g k cs (by omega)⟩
theorem alloc_below (w : World) (o : Obj) : Below w.heap.size w (w.alloc o) := (Below.refl _ _).alloc (Nat.le_refl _) _
theorem grown_alloc (w : World) (X : Option Nat) (o : Obj) : w.grownBy (w.alloc o) X := Ext.gr (alloc_below w o) X
theorem run_op_append {P : Program} {o : Oper} {a : Act} {w w' : World} {v' : Value} {s x : Operand} {ts : Array TypeId} (ho : o.op = .call { callee := .builtin .append, args := #[s, x], argTypes := ts }) (hr : (Builtin.append_ ts o.type #[a.eval s, a.eval x]).run P w = .ok v' w') : (execOp a.eval o).run P w = .ok (.value v') w' := by
  unfold execOp
  simp only [ho, resolve, invoke, builtin, Sem.run_bind, Sem.run_pure, Result.andThen_ok, List.map_toArray, List.map_cons, List.map_nil, hr]
/-- What append wants to know of a type of slices. -/
structure AppTy (t e size bytes : Nat) : Prop where
  und : Tryz.prog.underlying t = some (.slice e)
  info : ∃ i z, Tryz.prog.info? e = some i ∧ i.zero = some z ∧ i.size = size ∧ i.bytes = bytes ∧ z.cells.size = size
  pos : 0 < size
theorem appTy_of {t e size bytes : Nat} (z : Value) (hu : Tryz.prog.underlying t = some (.slice e)) (hi : (Tryz.prog.info? e).map (fun i => (i.zero, i.size, i.bytes)) = some (some z, size, bytes)) (hz : z.cells.size = size) (hp : 0 < size) : AppTy t e size bytes := by
  refine ⟨hu, ?_, hp⟩
  cases he : Tryz.prog.info? e with
  | none => rw [he] at hi; cases hi
  | some i =>
    rw [he] at hi
    simp only [Option.map_some, Option.some.injEq, Prod.mk.injEq] at hi
    exact ⟨i, z, rfl, hi.1, hi.2.1, hi.2.2, hz⟩
theorem appT : AppTy 26 33 4 56 := appTy_of (.agg #[.int .i64 0, .int .i64 0, .string ⟨#[]⟩, .slice none 0 0]) (by kernel_rfl) (by kernel_rfl) (by kernel_rfl) (by decide)
theorem appH : AppTy 186 33 4 56 := appTy_of (.agg #[.int .i64 0, .int .i64 0, .string ⟨#[]⟩, .slice none 0 0]) (by kernel_rfl) (by kernel_rfl) (by kernel_rfl) (by decide)
theorem row_ext {w w' : World} {base e size n : Nat} {v : Value} {xs : List Value} (h : w.ownsRow base e size v n xs) (he : Below w.heap.size w w') : w'.ownsRow base e size v n xs :=
  ⟨h.1, by
    rcases h.2 with h1 | ⟨g, cap, cur, hv, hb, hr, hn⟩
    · exact .inl h1
    · exact .inr ⟨g, cap, cur, hv, hb, (he.block g (Array.getElem?_eq_some_iff.1 hr).1).trans hr, hn⟩⟩
theorem below_of_grown {w w' : World} {X : Option Nat} (h : w.grownBy w' X) (hX : ∀ k, X = some k → w.heap.size ≤ k) : Below w.heap.size w w' :=
  ⟨h.os, h.tape, h.output, h.size, fun k hk => h.block k hk (fun e => by have := hX k e.symm; omega)⟩
/-- A term's value. -/
def tv (t : Tm) (ao : Option Addr) (c : Nat) : Value := .agg #[.int .i64 t.k, .int .i64 t.n, .string t.s, .slice ao t.l.length c]
/-- What four cells hold. -/
def C4 (w : World) (b o : Nat) (t : Tm) (ao : Option Addr) (c : Nat) : Prop :=
  w.cell? ⟨b, o, none⟩ = some (.int .i64 t.k) ∧ w.cell? ⟨b, o + 1, none⟩ = some (.int .i64 t.n) ∧ w.cell? ⟨b, o + 2, none⟩ = some (.string t.s) ∧ w.cell? ⟨b, o + 3, none⟩ = some (.slice ao t.l.length c)
theorem C4.ext {W w : World} {b o : Nat} {t : Tm} {ao : Option Addr} {c : Nat} (h : C4 W b o t ao c) (hb : b < W.heap.size) (he : Below W.heap.size W w) : C4 w b o t ao c :=
  ⟨(Below.cell (p := ⟨b, o, none⟩) he hb).trans h.1, (Below.cell (p := ⟨b, o + 1, none⟩) he hb).trans h.2.1, (Below.cell (p := ⟨b, o + 2, none⟩) he hb).trans h.2.2.1, (Below.cell (p := ⟨b, o + 3, none⟩) he hb).trans h.2.2.2⟩
/-- Numbers and lengths within their kinds. -/
def Fits (t : Tm) (c : Nat) : Prop := (-9223372036854775808 ≤ t.k ∧ t.k ≤ 9223372036854775807) ∧ (-9223372036854775808 ≤ t.n ∧ t.n ≤ 9223372036854775807) ∧ t.s.size ≤ 9223372036854775807 ∧ t.l.length ≤ c ∧ c ≤ 9223372036854775807
/-- A term in memory: its list, and theirs. -/
inductive TAt (w : World) : Tm → Option Addr → Nat → Prop
  | mk (t : Tm) (ao : Option Addr) (c b o : Nat) (A : Nat → Option Addr) (C : Nat → Nat) (hf : Fits t c) (hb : t.l ≠ [] → ao = some ⟨b, o, none⟩ ∧ b < w.heap.size)
      (cells : ∀ i x, t.l[i]? = some x → C4 w b (o + i * 4) x (A i) (C i)) (kids : ∀ i x, t.l[i]? = some x → TAt w x (A i) (C i)) : TAt w t ao c
theorem TAt.ext {W w : World} (he : Below W.heap.size W w) {t : Tm} {ao : Option Addr} {c : Nat} (h : TAt W t ao c) : TAt w t ao c := by
  induction h with
  | mk t ao c b o A C hf hb cells _ ih =>
    refine .mk t ao c b o A C hf (fun hne => ⟨(hb hne).1, Nat.lt_of_lt_of_le (hb hne).2 he.size⟩) (fun i x hx => ?_) ih
    exact (cells i x hx).ext (hb (fun e => by rw [e] at hx; simp at hx)).2 he
/-- A list of terms in memory. -/
def LAt (w : World) (l : List Tm) (ao : Option Addr) (c : Nat) : Prop :=
  l.length ≤ c ∧ c ≤ 9223372036854775807 ∧ ∃ (b o : Nat) (A : Nat → Option Addr) (C : Nat → Nat), (l ≠ [] → ao = some ⟨b, o, none⟩ ∧ b < w.heap.size) ∧ ∀ i x, l[i]? = some x → C4 w b (o + i * 4) x (A i) (C i) ∧ TAt w x (A i) (C i)
theorem LAt.ext {W w : World} {l : List Tm} {ao : Option Addr} {c : Nat} (h : LAt W l ao c) (he : Below W.heap.size W w) : LAt w l ao c := by
  obtain ⟨h1, h2, b, o, A, C, hb, hc⟩ := h
  exact ⟨h1, h2, b, o, A, C, fun hne => ⟨(hb hne).1, Nat.lt_of_lt_of_le (hb hne).2 he.size⟩, fun i x hx => ⟨(hc i x hx).1.ext (hb (fun e => by rw [e] at hx; simp at hx)).2 he, (hc i x hx).2.ext he⟩⟩
theorem TAt.list {w : World} {t : Tm} {ao : Option Addr} {c : Nat} (h : TAt w t ao c) : LAt w t.l ao c := by
  cases h with
  | mk _ _ _ b o A C hf hb cells kids => exact ⟨hf.2.2.2.1, hf.2.2.2.2, b, o, A, C, hb, fun i x hx => ⟨cells i x hx, kids i x hx⟩⟩
theorem TAt.fits {w : World} {t : Tm} {ao : Option Addr} {c : Nat} (h : TAt w t ao c) : Fits t c := by
  cases h with
  | mk _ _ _ b o A C hf hb cells kids => exact hf
theorem LAt.term {w : World} {t : Tm} {ao : Option Addr} {c : Nat} (h : LAt w t.l ao c) (hf : Fits t c) : TAt w t ao c := by
  obtain ⟨_, _, b, o, A, C, hb, hc⟩ := h
  exact .mk t ao c b o A C hf hb (fun i x hx => (hc i x hx).1) (fun i x hx => (hc i x hx).2)
/-- What the cells of a list hold, in every later world. -/
theorem LAt.read {w : World} {l : List Tm} {ao : Option Addr} {c : Nat} (h : LAt w l ao c) (hne : 0 < l.length) :
    ∃ b o, ao = some ⟨b, o, none⟩ ∧ b < w.heap.size ∧ ∀ i x, l[i]? = some x → ∃ a' c', TAt w x a' c' ∧ ∀ W, Below w.heap.size w W → C4 W b (o + i * 4) x a' c' := by
  obtain ⟨_, _, b, o, A, C, hb, hc⟩ := h
  obtain ⟨e, hbb⟩ := hb (fun e => by rw [e] at hne; simp at hne)
  exact ⟨b, o, e, hbb, fun i x hx => ⟨A i, C i, (hc i x hx).2, fun W he => (hc i x hx).1.ext hbb he⟩⟩
theorem LAt.nil (w : World) (ao : Option Addr) (c : Nat) (hc : c ≤ 9223372036854775807) : LAt w [] ao c := ⟨Nat.zero_le _, hc, 0, 0, fun _ => none, fun _ => 0, fun h => absurd rfl h, fun i x h => by simp at h⟩
theorem ix_terms (w : World) (b o n c k : Nat) (hk : k < n) : (Instr.indexAt 26 (.slice (some ⟨b, o, none⟩) n c) (.int .i64 (k : Int))).run Tryz.prog w = .ok (.pointer (some ⟨b, o + k * 4, none⟩)) w := by
  have h1 : decide ((k : Int) < 0) = false := decide_eq_false (by omega)
  have h2 : ¬ ((n : Int) ≤ (k : Int)) := by omega
  go_simp
theorem ix_hterms (w : World) (b o n c k : Nat) (hk : k < n) : (Instr.indexAt 186 (.slice (some ⟨b, o, none⟩) n c) (.int .i64 (k : Int))).run Tryz.prog w = .ok (.pointer (some ⟨b, o + k * 4, none⟩)) w := by
  have h1 : decide ((k : Int) < 0) = false := decide_eq_false (by omega)
  have h2 : ¬ ((n : Int) ≤ (k : Int)) := by omega
  go_simp
end Go.Proofs.YteiacgpaocnofaaGreat
