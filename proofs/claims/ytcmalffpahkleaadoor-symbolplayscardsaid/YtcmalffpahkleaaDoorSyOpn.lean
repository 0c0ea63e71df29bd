/- Calls and texts, as they come in. -/
import Derived.Test.YtcmalffpahkleaaDoorSy9
import Derived.ProofKit
import Derived.OpenShut
import Derived.Deep.Matrix
import Derived.SizedLaws
namespace Go.Proofs.YtcmalffpahkleaaDoor
set_option maxRecDepth 100000
open Go.RowKit Go.ChangeShapes Go.WideShapes Go.ChangeAt
theorem i64_of {x : Int} (h : (Lit.int .i64 x).wf = true) : -9223372036854775808 ≤ x ∧ x ≤ 9223372036854775807 := by
  simp [Lit.wf, IntKind.min, IntKind.max, IntKind.signed, IntKind.bits] at h
  omega
theorem mid_of {W : World} {x : Addr} {v : Value} (h : W.cell? x = some v) : x = ⟨x.block, x.off, none⟩ := by
  cases x with
  | mk b o s =>
    cases s with
    | none => rfl
    | some q => simp [World.cell?] at h; split at h <;> simp at h
/-- Texts that came in. -/
theorem names_of {H : Type} {enc : TypeId × Value → H} {W : World} {base : Nat} {sp : Nat → Bool} {held : Bool} {fuel : Nat} {v : Value} {x : DataW H × List MemPlace}
    (hf : DataW.trod enc Tryd.prog W base sp held fuel 28 [v] = some x) : ∃ l a c, v = .slice a l.length c ∧ NAt W l a c := by
  rcases DataW.trod_slice Tryd.underlying28 hf with ⟨hcs, _⟩ | ⟨a, len, cap, elems, rest, n, hn, hcs, hx, _, hl, hm, hlen, hel, hrest, _⟩
  · simp only [List.cons.injEq, and_true] at hcs
    subst hcs
    exact ⟨[], none, 0, rfl, ⟨Nat.le_refl _, by decide, 0, 0, fun h => absurd rfl h, fun i s h => by simp at h⟩⟩
  · simp only [List.cons.injEq, and_true] at hcs
    subst hcs; subst hn
    have hc1 : Tryd.prog.cellsOf 9 = 1 := by kernel_rfl
    have hone : ∀ i, i < len → ∃ s : ByteArray, s.size ≤ 9223372036854775807 ∧ W.cell? (a.add i) = some (.string s) := fun i hi => by
      have h1 := hel i (by omega)
      rw [List.getElem?_eq_getElem (by omega), hc1, Nat.mul_one] at h1
      obtain ⟨cs', hcs', ht⟩ := Option.bind_eq_some_iff.1 h1
      obtain ⟨_, hl1, hc⟩ := World.cells?_some hcs'
      obtain ⟨z2, g2, _, w2⟩ := DataW.trod_string Tryd.underlying9 ht
      subst g2
      have h0 := hc 0 (by decide)
      exact ⟨z2, by unfold maxLen at w2; omega, by simpa [Addr.add] using h0⟩
    obtain ⟨P, hP⟩ := Deep.choose_lt hone
    have hll : ((List.range len).map P).length = len := by simp
    have ha2 : 0 < len → a = ⟨a.block, a.off, none⟩ ∧ a.block < W.heap.size := fun hpos => by
      have h0 := (hP 0 hpos).2
      have h1 : a.add 0 = a := by simp [Addr.add]
      rw [h1] at h0
      exact ⟨mid_of h0, World.block_lt_of_cell? W _ h0⟩
    refine ⟨(List.range len).map P, some a, cap, by rw [hll], ⟨by rw [hll]; exact hl, by unfold maxLen at hm; omega, a.block, a.off, fun hne => ?_, fun i s his => ?_⟩⟩
    · have hpos : 0 < len := by
        rcases Nat.eq_zero_or_pos len with h | h
        · subst h; simp at hne
        · exact h
      exact ⟨by rw [← (ha2 hpos).1], (ha2 hpos).2⟩
    · have hi : i < len := by have := (List.getElem?_eq_some_iff.1 his).1; omega
      rw [List.getElem?_map, List.getElem?_range hi] at his
      have hpi : P i = s := by simpa using his
      obtain ⟨g0, g1⟩ := hP i hi
      rw [hpi] at g0 g1
      rw [(ha2 (by omega)).1, Addr.add_mid] at g1
      exact ⟨g1, g0⟩
/-- A call's cells. -/
theorem call_in {H : Type} {enc : TypeId × Value → H} {W : World} {base : Nat} {sp : Nat → Bool} {held : Bool} {fuel : Nat} {cs : List Value} {y : DataW H × List MemPlace} (hf : DataW.trod enc Tryd.prog W base sp held fuel 32 cs = some y) : ∃ x a c, cs = (clC x a c).toList ∧ NAt W x.l a c ∧ ClFit x := by
  obtain ⟨xs, n, hn, _, hl, hxl, hfs⟩ := DataW.trod_struct Tryd.underlying32 hf
  have hc4 : Tryd.prog.cellsOf 32 = 4 := by kernel_rfl
  rw [hc4] at hl
  match cs, hl with
  | [v0, v1, v2, v3], _ =>
    match xs, hxl with
    | [y0, y1, y2, y3], _ =>
      have e3 : Tryd.prog.cellsOf 3 = 1 := by kernel_rfl
      have e9 : Tryd.prog.cellsOf 9 = 1 := by kernel_rfl
      have es : Tryd.prog.cellsOf 28 = 1 := by kernel_rfl
      have f0 : DataW.trod enc Tryd.prog W base sp held n 3 [v0] = some y0 := by simpa [e3] using hfs 0 _ rfl
      have f1 : DataW.trod enc Tryd.prog W base sp held n 3 [v1] = some y1 := by simpa [e3] using hfs 1 _ rfl
      have f2 : DataW.trod enc Tryd.prog W base sp held n 9 [v2] = some y2 := by simpa [e9] using hfs 2 _ rfl
      have f3 : DataW.trod enc Tryd.prog W base sp held n 28 [v3] = some y3 := by simpa [es] using hfs 3 _ rfl
      obtain ⟨z0, g0, _, w0⟩ := DataW.trod_int Tryd.underlying3 f0
      obtain ⟨z1, g1, _, w1⟩ := DataW.trod_int Tryd.underlying3 f1
      obtain ⟨z2, g2, _, w2⟩ := DataW.trod_string Tryd.underlying9 f2
      obtain ⟨l, a, c, g3, hN⟩ := names_of f3
      simp only [List.cons.injEq, and_true] at g0 g1 g2
      subst g0; subst g1; subst g2; subst g3
      exact ⟨⟨z0, z1, z2, l⟩, a, c, rfl, hN, i64_of w1, by unfold maxLen at w2; show z2.size ≤ _; omega⟩
/-- Calls that came in. -/
theorem calls_of {H : Type} {enc : TypeId × Value → H} {W : World} {base : Nat} {sp : Nat → Bool} {held : Bool} {fuel : Nat} {v : Value} {x : DataW H × List MemPlace}
    (hf : DataW.trod enc Tryd.prog W base sp held fuel 22 [v] = some x) : ∃ l a c, v = .slice a l.length c ∧ CLAt W l a c := by
  rcases DataW.trod_slice Tryd.underlying22 hf with ⟨hcs, _⟩ | ⟨a, len, cap, elems, rest, n, hn, hcs, hx, _, hl, hm, hlen, hel, hrest, _⟩
  · simp only [List.cons.injEq, and_true] at hcs
    subst hcs
    exact ⟨[], none, 0, rfl, Nat.le_refl _, by decide, 0, 0, fun _ => none, fun _ => 0, fun h => absurd rfl h, fun i x h => by simp at h⟩
  · simp only [List.cons.injEq, and_true] at hcs
    subst hcs; subst hn
    have hc4 : Tryd.prog.cellsOf 32 = 4 := by kernel_rfl
    have hone : ∀ i, i < len → ∃ q : Cl × Option Addr × Nat, NAt W q.1.l q.2.1 q.2.2 ∧ ClFit q.1 ∧ ∀ j u, (clC q.1 q.2.1 q.2.2)[j]? = some u → W.cell? ((a.add (i * 4)).add j) = some u := fun i hi => by
      have h1 := hel i (by omega)
      rw [List.getElem?_eq_getElem (by omega), hc4] at h1
      obtain ⟨cs', hcs', ht⟩ := Option.bind_eq_some_iff.1 h1
      obtain ⟨_, hl4, hc⟩ := World.cells?_some hcs'
      obtain ⟨t, ta, tc, rfl, hta, hft⟩ := call_in ht
      refine ⟨(t, ta, tc), hta, hft, fun j u hu => ?_⟩
      have hj : j < 4 := (Array.getElem?_eq_some_iff.1 hu).1
      have := hc j hj
      rw [this, ← hu]
      simp
    haveI : Inhabited Cl := ⟨⟨0, 0, ⟨#[]⟩, []⟩⟩
    obtain ⟨P, hP⟩ := Deep.choose_lt hone
    have hll : ((List.range len).map fun i => (P i).1).length = len := by simp
    have ha2 : 0 < len → a = ⟨a.block, a.off, none⟩ ∧ a.block < W.heap.size := fun hpos => by
      have h0 := (hP 0 hpos).2.2 0 _ rfl
      rw [Nat.zero_mul] at h0
      have h1 : (a.add 0).add 0 = a := by simp [Addr.add]
      rw [h1] at h0
      exact ⟨mid_of h0, World.block_lt_of_cell? W _ h0⟩
    refine ⟨(List.range len).map fun i => (P i).1, some a, cap, by rw [hll], by rw [hll]; exact hl, by unfold maxLen at hm; omega, a.block, a.off, fun i => (P i).2.1, fun i => (P i).2.2, fun hne => ?_, fun i t hit => ?_⟩
    · have hpos : 0 < len := by
        rcases Nat.eq_zero_or_pos len with h | h
        · subst h; simp at hne
        · exact h
      exact ⟨by rw [← (ha2 hpos).1], (ha2 hpos).2⟩
    · have hi : i < len := by have := (List.getElem?_eq_some_iff.1 hit).1; omega
      rw [List.getElem?_map, List.getElem?_range hi] at hit
      have hpi : (P i).1 = t := by simpa using hit
      obtain ⟨g0, g1, g2⟩ := hP i hi
      rw [hpi] at g0 g1 g2
      exact ⟨g1, g0, fun j u hu => by
        have := g2 j u hu
        rw [(ha2 (by omega)).1, Addr.add_mid, Addr.add_mid] at this
        exact this⟩
/-- A call that came in. -/
theorem call_of {H : Type} {enc : TypeId × Value → H} {W : World} {base bs : Nat} {sp : Nat → Bool} {held : Bool} {fuel : Nat} {v : Value} {y : DataW H × List MemPlace}
    (hv : Value.okWide Tryd.prog W .any bs 32 v) (hf : DataW.trod enc Tryd.prog W base sp held fuel 32 v.cells.toList = some y) : ∃ x a c, v = .agg (clC x a c) ∧ NAt W x.l a c := by
  obtain ⟨cs, rfl, _⟩ := okWide_struct Tryd.underlying32 hv
  simp only [Value.cells] at hf
  obtain ⟨x, a, c, e, hN, _⟩ := call_in hf
  exact ⟨x, a, c, by rw [← Array.toArray_toList (xs := cs), e], hN⟩
end Go.Proofs.YtcmalffpahkleaaDoor
