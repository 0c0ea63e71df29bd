/- Tables in memory: the sixteen texts, a table's own row and its map; what stays while others are written. -/
import Derived.Test.YtcmalffpahkleaaDoorSyMath
import Derived.Test.YtcmalffpahkleaaDoorRows
import Derived.WalkKit
import Derived.WalkSpells
import Derived.WalkLawsBesides
import Derived.Below
import Derived.Deep.MidRow
import Derived.Deep.Cut
import Derived.Maps.AppendAt
import Derived.Maps.OwnSet
import Derived.Maps.OwnOps
import Derived.Shelf.SlMaps.Clone
import Derived.Laws.OwnMore
namespace Go.Proofs.YtcmalffpahkleaaDoor
open Go.RowKit
/-- A fact put aside. -/
structure Hid (p : Prop) : Prop where
  out : p
theorem hide {p : Prop} (h : p) : Hid p := ⟨h⟩
theorem Below.chain {w a b : World} (h : Below w.heap.size w a) (k : Below a.heap.size a b) : Below w.heap.size w b := h.trans (k.mono h.size)
theorem alloc_below (w : World) (o : Obj) : Below w.heap.size w (w.alloc o) := (Below.refl _ _).alloc (Nat.le_refl _) _
/-- All but some blocks stay as they were. -/
structure Kp (S : List Nat) (w w' : World) : Prop where
  os : w'.os = w.os
  tape : w'.tape = w.tape
  output : w'.output = w.output
  size : w.heap.size ≤ w'.heap.size
  block : ∀ k, k < w.heap.size → k ∉ S → w'.heap[k]? = w.heap[k]?
theorem Kp.refl (S : List Nat) (w : World) : Kp S w w := ⟨rfl, rfl, rfl, Nat.le_refl _, fun _ _ _ => rfl⟩
theorem Kp.trans {S : List Nat} {a b c : World} (h : Kp S a b) (k : Kp S b c) : Kp S a c :=
  ⟨k.os.trans h.os, k.tape.trans h.tape, k.output.trans h.output, Nat.le_trans h.size k.size, fun i hi hn => (k.block i (Nat.lt_of_lt_of_le hi h.size) hn).trans (h.block i hi hn)⟩
/-- Two steps, the second of which writes blocks of the first one's, or new ones. -/
theorem Kp.next {S T : List Nat} {a b c : World} (h : Kp S a b) (k : Kp T b c) (hT : ∀ x ∈ T, x ∈ S ∨ a.heap.size ≤ x) : Kp S a c :=
  ⟨k.os.trans h.os, k.tape.trans h.tape, k.output.trans h.output, Nat.le_trans h.size k.size, fun i hi hn => (k.block i (Nat.lt_of_lt_of_le hi h.size) (fun e => by rcases hT i e with q | q; exact hn q; omega)).trans (h.block i hi hn)⟩
theorem Kp.mono {S T : List Nat} {a b : World} (h : Kp S a b) (hs : ∀ x ∈ S, x ∈ T) : Kp T a b := ⟨h.os, h.tape, h.output, h.size, fun i hi hn => h.block i hi (fun e => hn (hs i e))⟩
theorem Kp.of_below {S : List Nat} {a b : World} (h : Below a.heap.size a b) : Kp S a b := ⟨h.os, h.tape, h.output, h.size, fun k hk _ => h.block k hk⟩
theorem Kp.below {S : List Nat} {B : Nat} {a b : World} (h : Kp S a b) (hB : B ≤ a.heap.size) (hS : ∀ x ∈ S, B ≤ x) : Below B a b := ⟨h.os, h.tape, h.output, h.size, fun k hk => h.block k (by omega) (fun e => by have := hS k e; omega)⟩
theorem Kp.heap {S : List Nat} {a b : World} (h : Kp S a b) {g : Nat} {o : Obj} (hr : a.heap[g]? = some o) (hg : g ∉ S) : b.heap[g]? = some o := (h.block g (Array.getElem?_eq_some_iff.1 hr).1 hg).trans hr
theorem Kp.grown {S : List Nat} {a b : World} {r : Option Nat} (h : a.grownBy b r) (hr : ∀ k, r = some k → k ∈ S ∨ a.heap.size ≤ k) : Kp S a b :=
  ⟨h.os, h.tape, h.output, h.size, fun i hi hn => h.block i hi (fun e => by rcases hr i e.symm with q | q; exact hn q; omega)⟩
theorem Kp.setCell {S : List Nat} {a b : World} (h : Kp S a b) {p : Addr} (hp : p.block ∈ S) (u : Value) : Kp S a (b.setCell p u) :=
  h.trans ⟨rfl, rfl, rfl, by simp [World.setCell], fun k _ hn => Below.heap_setCell _ _ _ _ (fun e => hn (e ▸ hp))⟩
theorem Kp.alloc {S : List Nat} {a b : World} (h : Kp S a b) (o : Obj) : Kp S a (b.alloc o) :=
  h.trans ⟨rfl, rfl, rfl, by simp, fun k hk _ => Below.heap_alloc _ _ _ hk⟩
theorem row_reads {w : World} {g : Nat} {cs : Array Value} {t : TypeId} (h : w.heap[g]? = some (.cells cs t (0, 0))) : (∀ i, w.cell? ⟨g, i, none⟩ = cs[i]?) ∧ (∀ i, w.frozen? ⟨g, i, none⟩ = false) :=
  ⟨fun _ => cell_of_row _ _ _ _ _ _ h, fun _ => frozen_of_row _ _ _ _ _ h⟩
/-- The sixteen texts lie in the program's variable. -/
def KnAt (w : World) : Prop := 0 < w.heap.size ∧ ∀ i x, kno[i]? = some x → w.cell? ⟨0, i, none⟩ = some (.string x)
theorem KnAt.kp {S : List Nat} {w w' : World} (h : KnAt w) (k : Kp S w w') (h0 : 0 ∉ S) : KnAt w' :=
  ⟨Nat.lt_of_lt_of_le h.1 k.size, fun i x hx => by
    have hb := k.block 0 h.1 h0
    have := h.2 i x hx
    simp only [World.cell?] at this ⊢
    rw [hb]
    exact this⟩
theorem KnAt.ext {w w' : World} (h : KnAt w) (k : Below w.heap.size w w') : KnAt w' := h.kp (Kp.of_below (S := []) k) (by simp)
/-- A text as a map's key. -/
def ky (s : ByteArray) : Lit := .string s.data.toList
theorem ky_inj {s t : ByteArray} (h : ky s = ky t) : s = t := by
  unfold ky at h
  injection h with h
  cases s; cases t
  simp at h
  rw [h]
theorem keyed : Maps.Keyed Tryd.prog 9 := Maps.string_keyed Tryd.underlying9
/-- A map that has the numbers of a row's texts. -/
def MpAt (w : World) (mv : Option Nat) (l : List ByteArray) : Prop :=
  (mv = none ∧ l = []) ∨ ∃ mb, ∃ D : DataW Unit, mv = some mb ∧ w.ownsMap Tryd.prog 9 (plainElem Tryd.prog 3) mb l.length D ∧
    ∀ s : ByteArray, Maps.has D (ky s) = (place l s).isSome ∧ ∀ i, place l s = some i → D.atKey (ky s) (.lit (.int .i64 0)) = .lit (.int .i64 (1024 + (i : Int)))
/-- A table: its block, its row, its map; its own texts. -/
structure TbAt (w : World) (g : Nat) (v : Value) (mv : Option Nat) (l : List ByteArray) : Prop where
  own : Own l
  hd : w.heap[g]? = some (.cells #[v, .map mv] 45 (0, 0))
  row : w.ownsRow 0 9 1 v l.length (l.map .string)
  mp : MpAt w mv l
/-- The blocks of a table. -/
def bls (g : Nat) (v : Value) (mv : Option Nat) : List Nat := g :: (v.ownBlock.toList ++ mv.toList)
theorem mem_bls {g : Nat} {v : Value} {mv : Option Nat} {x : Nat} : x ∈ bls g v mv ↔ x = g ∨ v.ownBlock = some x ∨ mv = some x := by
  unfold bls
  simp only [List.mem_cons, List.mem_append, Option.mem_toList]
theorem row_heap {w : World} {base e size n : Nat} {v : Value} {xs : List Value} (h : w.ownsRow base e size v n xs) {k : Nat} (hk : v.ownBlock = some k) : ∃ cs, w.heap[k]? = some (.cells cs e (0, 0)) := by
  rcases h.2 with ⟨rfl, _⟩ | ⟨g, cap, cur, rfl, _, hr, _⟩
  · cases hk
  · simp only [Value.ownBlock, Option.some.injEq] at hk
    subst hk; exact ⟨cur, hr⟩
theorem row_kp {S : List Nat} {w w' : World} {base e size n : Nat} {v : Value} {xs : List Value} (h : w.ownsRow base e size v n xs) (k : Kp S w w') (hn : ∀ x, v.ownBlock = some x → x ∉ S) : w'.ownsRow base e size v n xs :=
  ⟨h.1, by
    rcases h.2 with h1 | ⟨g, cap, cur, rfl, hb, hr, hc⟩
    · exact .inl h1
    · exact .inr ⟨g, cap, cur, rfl, hb, k.heap hr (hn g rfl), hc⟩⟩
theorem map_kp {S : List Nat} {w w' : World} {b n : Nat} {D : DataW Unit} (h : w.ownsMap Tryd.prog 9 (plainElem Tryd.prog 3) b n D) (k : Kp S w w') (hn : b ∉ S) : w'.ownsMap Tryd.prog 9 (plainElem Tryd.prog 3) b n D := by
  obtain ⟨es, clock, hb, h1⟩ := h
  exact ⟨es, clock, k.heap hb hn, h1⟩
theorem MpAt.kp {S : List Nat} {w w' : World} {mv : Option Nat} {l : List ByteArray} (h : MpAt w mv l) (k : Kp S w w') (hn : ∀ x, mv = some x → x ∉ S) : MpAt w' mv l := by
  rcases h with h | ⟨mb, D, rfl, h1, h2⟩
  · exact .inl h
  · exact .inr ⟨mb, D, rfl, map_kp h1 k (hn mb rfl), h2⟩
theorem MpAt.lt {w : World} {mv : Option Nat} {l : List ByteArray} (h : MpAt w mv l) : ∀ x, mv = some x → x < w.heap.size ∧ ∃ es c, w.heap[x]? = some (.map es c) := by
  rcases h with ⟨rfl, _⟩ | ⟨mb, D, rfl, h1, _⟩
  · intro x hx; cases hx
  · intro x hx
    injection hx with hx
    subst hx
    obtain ⟨es, clock, hb, _⟩ := h1
    exact ⟨(Array.getElem?_eq_some_iff.1 hb).1, es, clock, hb⟩
theorem TbAt.kp {S : List Nat} {w w' : World} {g : Nat} {v : Value} {mv : Option Nat} {l : List ByteArray} (h : TbAt w g v mv l) (k : Kp S w w') (hn : ∀ x ∈ bls g v mv, x ∉ S) : TbAt w' g v mv l :=
  ⟨h.own, k.heap h.hd (hn g (mem_bls.2 (.inl rfl))), row_kp h.row k (fun x hx => hn x (mem_bls.2 (.inr (.inl hx)))), h.mp.kp k (fun x hx => hn x (mem_bls.2 (.inr (.inr hx))))⟩
theorem TbAt.ext {w w' : World} {g : Nat} {v : Value} {mv : Option Nat} {l : List ByteArray} (h : TbAt w g v mv l) (k : Below w.heap.size w w') : TbAt w' g v mv l := h.kp (Kp.of_below (S := []) k) (by simp)
theorem TbAt.lt {w : World} {g : Nat} {v : Value} {mv : Option Nat} {l : List ByteArray} (h : TbAt w g v mv l) : ∀ x ∈ bls g v mv, x < w.heap.size := by
  intro x hx
  rcases mem_bls.1 hx with rfl | hx | hx
  · exact (Array.getElem?_eq_some_iff.1 h.hd).1
  · exact (h.row.lt x hx).2
  · exact (h.mp.lt x hx).1
/-- A table's three blocks are three. -/
theorem TbAt.ne {w : World} {g : Nat} {v : Value} {mv : Option Nat} {l : List ByteArray} (h : TbAt w g v mv l) : v.ownBlock ≠ some g ∧ mv ≠ some g ∧ ∀ x, v.ownBlock = some x → mv ≠ some x := by
  refine ⟨fun e => ?_, fun e => ?_, fun x e1 e2 => ?_⟩
  · obtain ⟨cs, hc⟩ := row_heap h.row e
    rw [h.hd] at hc
    injection hc with hc; injection hc with _ hc _; exact absurd hc (by decide)
  · obtain ⟨_, es, c, hc⟩ := h.mp.lt g e
    rw [h.hd] at hc
    injection hc with hc; cases hc
  · obtain ⟨cs, hc⟩ := row_heap h.row e1
    obtain ⟨_, es, c, hd⟩ := h.mp.lt x e2
    rw [hc] at hd
    injection hd with hd; cases hd
/-- A table's row as a slice's value. -/
theorem row_slice {w : World} {l : List ByteArray} {v : Value} (h : w.ownsRow 0 9 1 v l.length (l.map .string)) : ∃ a c, v = .slice a l.length c ∧ l.length ≤ c ∧ c ≤ 9223372036854775807 ∧ ∀ i s, l[i]? = some s → ∃ b, a = some ⟨b, 0, none⟩ ∧ b < w.heap.size ∧ w.cell? ⟨b, i, none⟩ = some (.string s) := by
  have hcells := fun (g : Nat) (hg : v.ownBlock = some g) => h.cells hg
  rcases h.2 with ⟨rfl, h0⟩ | ⟨g, cap, cur, rfl, _, hr, hc, hm, hs, ht⟩
  · refine ⟨none, 0, by rw [h0], by omega, by decide, fun i s hi => ?_⟩
    have := (List.getElem?_eq_some_iff.1 hi).1
    omega
  · refine ⟨some ⟨g, 0, none⟩, cap, rfl, hc, by unfold maxLen at hm; omega, fun i s hi => ⟨g, rfl, (Array.getElem?_eq_some_iff.1 hr).1, ?_⟩⟩
    have := hcells g rfl i (.string s) (by rw [List.getElem?_map, hi]; rfl)
    rw [Addr.add_mid, Nat.zero_add] at this
    exact this
end Go.Proofs.YtcmalffpahkleaaDoor
