/- Bytes and rows in memory, and how they stay while other memory is made. -/
import Derived.Test.YtogegmdimfinaaaPbMath
import Derived.Test.YtogegmdimfinaaaMb
import Derived.WalkKit
import Derived.WalkSpells
import Derived.WalkLawsBesides
import Derived.Deep.WholeRow
import Derived.Deep.MidRow
import Derived.Deep.RegionHeld3
import Derived.Laws.Externs
namespace Go.Proofs.Ytogegmdimfinaaa
open Go.RowKit
theorem hide {p : Prop} (h : p) : Hid p := h
theorem getD_set_ne' {l : List Nat} {k m y : Nat} (h : k ≠ m) : (l.set k y).getD m 0 = l.getD m 0 := by
  simp [List.getD_eq_getElem?_getD, List.getElem?_set_ne h]
theorem Below.heap {B : Nat} {W w1 : World} (h : Below B W w1) {g : Nat} {o : Obj} (hg : g < B) (hr : W.heap[g]? = some o) : w1.heap[g]? = some o := (h.block g hg).trans hr
theorem row_reads {w : World} {g : Nat} {cs : Array Value} {t : TypeId} (h : w.heap[g]? = some (.cells cs t (0, 0))) : (∀ i, w.cell? ⟨g, i, none⟩ = cs[i]?) ∧ (∀ i, w.frozen? ⟨g, i, none⟩ = false) :=
  ⟨fun _ => cell_of_row _ _ _ _ _ _ h, fun _ => frozen_of_row _ _ _ _ _ h⟩
theorem Below.chain {w a b : World} (h : Below w.heap.size w a) (k : Below a.heap.size a b) : Below w.heap.size w b := h.trans (k.mono h.size)
theorem Below.setRow {B : Nat} {a w : World} (h : Below B a w) (g : Nat) (cs : Array Value) (hg : B ≤ g) : Below B a (w.setRow g cs) :=
  h.trans ⟨rfl, rfl, rfl, by simp, fun k hk => setRow_other w g k cs (by omega)⟩
/-- Bytes as the model has them. -/
def ba (l : List Nat) : Array Value := (l.map fun (n : Nat) => Value.int .u8 (n : Int)).toArray
theorem ba_get (l : List Nat) (k : Nat) (h : k < l.length) : (ba l)[k]? = some (.int .u8 ((l.getD k 0 : Nat) : Int)) := by
  simp [ba, List.getD_eq_getElem?_getD, h]
/-- A slice of bytes in memory that was there. -/
def BsAt (w : World) (v : Value) (bs : List Nat) : Prop :=
  ∃ (b o c : Nat) (ao : Option Addr), v = .slice ao bs.length c ∧ bs.length ≤ c ∧ c ≤ maxLen ∧ (∀ i, bs.getD i 0 < 256) ∧ (bs ≠ [] → ao = some ⟨b, o, none⟩ ∧ b < w.heap.size ∧ ∀ i, i < bs.length → w.cell? ⟨b, o + i, none⟩ = some (.int .u8 ((bs.getD i 0 : Nat) : Int)))
theorem BsAt.ext {W w : World} {v : Value} {bs : List Nat} (h : BsAt W v bs) (he : Below W.heap.size W w) : BsAt w v bs := by
  obtain ⟨b, o, c, ao, e, hc, hm, hl, hh⟩ := h
  refine ⟨b, o, c, ao, e, hc, hm, hl, fun hne => ?_⟩
  obtain ⟨e1, hb, hr⟩ := hh hne
  exact ⟨e1, Nat.lt_of_lt_of_le hb he.size, fun i hi => (Below.cell (p := ⟨b, o + i, none⟩) he hb).trans (hr i hi)⟩
/-- What a slice of bytes is to a test of its length. -/
theorem BsAt.len {w : World} {v : Value} {bs : List Nat} (h : BsAt w v bs) : ∃ (ao : Option Addr) (c : Nat), v = .slice ao bs.length c ∧ bs.length ≤ c ∧ c ≤ 9223372036854775807 := by
  obtain ⟨b, o, c, ao, e, hc, hm, _⟩ := h
  exact ⟨ao, c, e, hc, by unfold maxLen at hm; omega⟩
end Go.Proofs.Ytogegmdimfinaaa
