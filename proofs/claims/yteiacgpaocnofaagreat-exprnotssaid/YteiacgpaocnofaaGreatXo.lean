/- What comes in: terms, expressions, bindings. -/
import Derived.Test.YteiacgpaocnofaaGreatTb
import Derived.ProofKit
import Derived.OpenShut
import Derived.Deep.Matrix
import Derived.SizedLaws
import Derived.Test.YteiacgpaocnofaaGreatXb
/- Terms, and lists of terms, as they come in. -/
namespace Go.Proofs.YteiacgpaocnofaaGreat
set_option maxRecDepth 100000
open Go.RowKit Go.ChangeShapes Go.WideShapes Go.ChangeAt
theorem i64_of {x : Int} (h : (Lit.int .i64 x).wf = true) : -9223372036854775808 ≤ x ∧ x ≤ 9223372036854775807 := by
  simp [Lit.wf, IntKind.min, IntKind.max, IntKind.signed, IntKind.bits] at h
  omega
theorem mid_of {W : World} {x : Addr} {v : Value} (h : W.cell? x = some v) : x = ⟨x.block, x.off, none⟩ := by
  cases x with
  | mk b o s =>
    cases s with
    | none => rfl
    | some q => simp [World.cell?] at h; split at h <;> simp at h
/-- A term's cells. -/
def TIn (W : World) (cs : List Value) : Prop := ∃ t a c, cs = [.int .i64 t.k, .int .i64 t.n, .string t.s, .slice a t.l.length c] ∧ TAt W t a c
theorem terms_step {H : Type} {enc : TypeId × Value → H} {W : World} {base : Nat} {sp : Nat → Bool} {held : Bool} {fuel : Nat} {v : Value} {x : DataW H × List MemPlace}
    (ih : ∀ m, m < fuel → ∀ cs y, DataW.trod enc Tryz.prog W base sp held m 33 cs = some y → TIn W cs)
    (hf : DataW.trod enc Tryz.prog W base sp held fuel 26 [v] = some x) :
    ∃ l a c, v = .slice a l.length c ∧ LAt W l a c ∧ ((∀ n ∈ x.1.weights Tryz.prog 26, n ≤ reachBytes) → l.length * 56 ≤ reachBytes) := by
  rcases DataW.trod_slice Tryz.underlying26 hf with ⟨hcs, _⟩ | ⟨a, len, cap, elems, rest, n, hn, hcs, hx, _, hl, hm, hlen, hel, hrest, _⟩
  · simp only [List.cons.injEq, and_true] at hcs
    subst hcs
    exact ⟨[], none, 0, rfl, LAt.nil W none 0 (by decide), fun _ => Nat.zero_le _⟩
  · simp only [List.cons.injEq, and_true] at hcs
    subst hcs; subst hn
    have hc4 : Tryz.prog.cellsOf 33 = 4 := by kernel_rfl
    have hb56 : Tryz.prog.bytesOf 33 = 56 := by kernel_rfl
    have hone : ∀ i, i < len → ∃ q : Tm × Option Addr × Nat, TAt W q.1 q.2.1 q.2.2 ∧ W.cell? (a.add (i * 4)) = some (.int .i64 q.1.k) ∧ W.cell? ((a.add (i * 4)).add 1) = some (.int .i64 q.1.n) ∧ W.cell? ((a.add (i * 4)).add 2) = some (.string q.1.s) ∧ W.cell? ((a.add (i * 4)).add 3) = some (.slice q.2.1 q.1.l.length q.2.2) := fun i hi => by
      have h1 := hel i hi
      rw [List.getElem?_eq_getElem (by omega), hc4] at h1
      obtain ⟨cs', hcs', ht⟩ := Option.bind_eq_some_iff.1 h1
      obtain ⟨_, hl4, hc⟩ := World.cells?_some hcs'
      obtain ⟨t, ta, tc, rfl, hta⟩ := ih n (by omega) cs' _ ht
      refine ⟨(t, ta, tc), hta, ?_, ?_, ?_, ?_⟩
      · have h0 := hc 0 (by decide)
        simpa [Addr.add] using h0
      · simpa using hc 1 (by decide)
      · simpa using hc 2 (by decide)
      · simpa using hc 3 (by decide)
    obtain ⟨P, hP⟩ := Deep.choose_lt hone
    have hll : ((List.range len).map fun i => (P i).1).length = len := by simp
    refine ⟨(List.range len).map fun i => (P i).1, some a, cap, by rw [hll], ⟨by rw [hll]; exact hl, by unfold maxLen at hm; omega, a.block, a.off, fun i => (P i).2.1, fun i => (P i).2.2, fun hne => ?_, fun i t hit => ?_⟩, fun hw => ?_⟩
    · have hpos : 0 < len := by
        rcases Nat.eq_zero_or_pos len with h | h
        · subst h; simp at hne
        · exact h
      obtain ⟨_, h0, _⟩ := hP 0 hpos
      rw [Nat.zero_mul] at h0
      have h1 : a.add 0 = a := by simp [Addr.add]
      rw [h1] at h0
      exact ⟨by rw [← mid_of h0], World.block_lt_of_cell? W _ h0⟩
    · have hi : i < len := by have := (List.getElem?_eq_some_iff.1 hit).1; omega
      have ha2 : a = ⟨a.block, a.off, none⟩ := by
        obtain ⟨_, h0, _⟩ := hP 0 (by omega)
        rw [Nat.zero_mul] at h0
        have h1 : a.add 0 = a := by simp [Addr.add]
        rw [h1] at h0
        exact mid_of h0
      rw [List.getElem?_map, List.getElem?_range hi] at hit
      have hpi : (P i).1 = t := by simpa using hit
      obtain ⟨g0, c0, c1, c2, c3⟩ := hP i hi
      rw [hpi] at g0 c0 c1 c2 c3
      rw [ha2, Addr.add_mid] at c0 c1 c2 c3
      exact ⟨⟨c0, by rw [← c1]; rfl, by rw [← c2]; rfl, by rw [← c3]; rfl⟩, g0⟩
    · rw [hll]
      have h3 := hw ((len + rest.length) * 56) (by rw [hx]; simp [DataW.weights, Tryz.underlying26, hb56, hlen])
      have h2 : len * 56 ≤ (len + rest.length) * 56 := Nat.mul_le_mul_right _ (by omega)
      omega
theorem term_in {H : Type} {enc : TypeId × Value → H} {W : World} {base : Nat} {sp : Nat → Bool} {held : Bool} :
    ∀ (fuel : Nat) (cs : List Value) (y : DataW H × List MemPlace), DataW.trod enc Tryz.prog W base sp held fuel 33 cs = some y → TIn W cs := by
  intro fuel
  induction fuel using Nat.strongRecOn with
  | ind fuel ih =>
    intro cs y hf
    obtain ⟨xs, n, hn, _, hl, hxl, hfs⟩ := DataW.trod_struct Tryz.underlying33 hf
    subst hn
    have hc4 : Tryz.prog.cellsOf 33 = 4 := by kernel_rfl
    rw [hc4] at hl
    match cs, hl with
    | [v0, v1, v2, v3], _ =>
      match xs, hxl with
      | [y0, y1, y2, y3], _ =>
        have e3 : Tryz.prog.cellsOf 3 = 1 := by kernel_rfl
        have e2 : Tryz.prog.cellsOf 2 = 1 := by kernel_rfl
        have e9 : Tryz.prog.cellsOf 9 = 1 := by kernel_rfl
        have e22 : Tryz.prog.cellsOf 26 = 1 := by kernel_rfl
        have f0 : DataW.trod enc Tryz.prog W base sp held n 3 [v0] = some y0 := by simpa [e3] using hfs 0 _ rfl
        have f1 : DataW.trod enc Tryz.prog W base sp held n 2 [v1] = some y1 := by simpa [e2] using hfs 1 _ rfl
        have f2 : DataW.trod enc Tryz.prog W base sp held n 9 [v2] = some y2 := by simpa [e9] using hfs 2 _ rfl
        have f3 : DataW.trod enc Tryz.prog W base sp held n 26 [v3] = some y3 := by simpa [e22] using hfs 3 _ rfl
        obtain ⟨z0, g0, _, w0⟩ := DataW.trod_int Tryz.underlying3 f0
        obtain ⟨z1, g1, _, w1⟩ := DataW.trod_int Tryz.underlying2 f1
        obtain ⟨z2, g2, _, w2⟩ := DataW.trod_string Tryz.underlying9 f2
        obtain ⟨l, a, c, g3, hL, _⟩ := terms_step (fun m hm cs y h => ih m (by omega) cs y h) f3
        simp only [List.cons.injEq, and_true] at g0 g1 g2
        subst g0; subst g1; subst g2; subst g3
        exact ⟨.mk z0 z1 z2 l, a, c, rfl, LAt.term (t := .mk z0 z1 z2 l) hL ⟨i64_of w0, i64_of w1, by show z2.size ≤ _; unfold maxLen at w2; omega, hL.1, hL.2.1⟩⟩
/-- A term that came in. -/
theorem term_of {H : Type} {enc : TypeId × Value → H} {W : World} {base bs : Nat} {sp : Nat → Bool} {held : Bool} {fuel : Nat} {v : Value} {y : DataW H × List MemPlace}
    (hv : Value.okWide Tryz.prog W .any bs 33 v) (hf : DataW.trod enc Tryz.prog W base sp held fuel 33 v.cells.toList = some y) : ∃ t a c, v = tv t a c ∧ TAt W t a c := by
  obtain ⟨cs, rfl, _⟩ := okWide_struct Tryz.underlying33 hv
  obtain ⟨t, a, c, e, h⟩ := term_in fuel _ y hf
  refine ⟨t, a, c, ?_, h⟩
  simp only [Value.cells] at e
  unfold tv
  congr 1
  rw [← Array.toArray_toList (xs := cs), e]
/-- A list of terms that came in. -/
theorem terms_of {H : Type} {enc : TypeId × Value → H} {W : World} {base : Nat} {sp : Nat → Bool} {held : Bool} {fuel : Nat} {v : Value} {x : DataW H × List MemPlace}
    (hf : DataW.trod enc Tryz.prog W base sp held fuel 26 [v] = some x) :
    ∃ l a c, v = .slice a l.length c ∧ LAt W l a c ∧ ((∀ n ∈ x.1.weights Tryz.prog 26, n ≤ reachBytes) → l.length * 56 ≤ reachBytes) :=
  terms_step (fun m _ cs y h => term_in m cs y h) hf
end Go.Proofs.YteiacgpaocnofaaGreat
/- Expressions and bindings, as they come in. -/
namespace Go.Proofs.YteiacgpaocnofaaGreat
set_option maxRecDepth 100000
open Go.RowKit Go.ChangeShapes Go.WideShapes Go.ChangeAt
/-- An operation's cells. -/
theorem op_in {H : Type} {enc : TypeId × Value → H} {W : World} {base : Nat} {sp : Nat → Bool} {held : Bool} {fuel : Nat} {cs : List Value} {y : DataW H × List MemPlace} (hf : DataW.trod enc Tryz.prog W base sp held fuel 48 cs = some y) : ∃ x a c, cs = (ovC x a c).toList ∧ TAt W x.t a c ∧ OFit x := by
  obtain ⟨xs, n, hn, _, hl, hxl, hfs⟩ := DataW.trod_struct Tryz.underlying48 hf
  have hc7 : Tryz.prog.cellsOf 48 = 7 := by kernel_rfl
  rw [hc7] at hl
  match cs, hl with
  | [v0, v1, v2, v3, v4, v5, v6], _ =>
    match xs, hxl with
    | [y0, y1, y2, y3], _ =>
      have e3 : Tryz.prog.cellsOf 3 = 1 := by kernel_rfl
      have e4 : Tryz.prog.cellsOf 33 = 4 := by kernel_rfl
      have f0 : DataW.trod enc Tryz.prog W base sp held n 3 [v0] = some y0 := by simpa [e3] using hfs 0 _ rfl
      have f1 : DataW.trod enc Tryz.prog W base sp held n 33 [v1, v2, v3, v4] = some y1 := by simpa [e4] using hfs 1 _ rfl
      have f2 : DataW.trod enc Tryz.prog W base sp held n 3 [v5] = some y2 := by simpa [e3] using hfs 2 _ rfl
      have f3 : DataW.trod enc Tryz.prog W base sp held n 3 [v6] = some y3 := by simpa [e3] using hfs 3 _ rfl
      obtain ⟨z0, g0, _, w0⟩ := DataW.trod_int Tryz.underlying3 f0
      obtain ⟨z2, g2, _, w2⟩ := DataW.trod_int Tryz.underlying3 f2
      obtain ⟨z3, g3, _, w3⟩ := DataW.trod_int Tryz.underlying3 f3
      obtain ⟨t, a, c, e, ht⟩ := term_in n _ _ f1
      simp only [List.cons.injEq, and_true] at g0 g2 g3 e
      obtain ⟨rfl, rfl, rfl, rfl⟩ := e
      subst g0; subst g2; subst g3
      exact ⟨⟨z0, t, z2, z3⟩, a, c, rfl, ht, i64_of w0, i64_of w2, i64_of w3⟩
/-- Operations that came in. -/
theorem ops_of {H : Type} {enc : TypeId × Value → H} {W : World} {base : Nat} {sp : Nat → Bool} {held : Bool} {fuel : Nat} {v : Value} {x : DataW H × List MemPlace}
    (hf : DataW.trod enc Tryz.prog W base sp held fuel 22 [v] = some x) : ∃ l a c, v = .slice a l.length c ∧ OAt W l a c := by
  rcases DataW.trod_slice Tryz.underlying22 hf with ⟨hcs, _⟩ | ⟨a, len, cap, elems, rest, n, hn, hcs, hx, _, hl, hm, hlen, hel, hrest, _⟩
  · simp only [List.cons.injEq, and_true] at hcs
    subst hcs
    exact ⟨[], none, 0, rfl, OAt.nil W none 0 (by decide)⟩
  · simp only [List.cons.injEq, and_true] at hcs
    subst hcs; subst hn
    have hc7 : Tryz.prog.cellsOf 48 = 7 := by kernel_rfl
    have hone : ∀ i, i < len → ∃ q : Ox × Option Addr × Nat, TAt W q.1.t q.2.1 q.2.2 ∧ OFit q.1 ∧ ∀ j u, (ovC q.1 q.2.1 q.2.2)[j]? = some u → W.cell? ((a.add (i * 7)).add j) = some u := fun i hi => by
      have h1 := hel i (by omega)
      rw [List.getElem?_eq_getElem (by omega), hc7] at h1
      obtain ⟨cs', hcs', ht⟩ := Option.bind_eq_some_iff.1 h1
      obtain ⟨_, hl7, hc⟩ := World.cells?_some hcs'
      obtain ⟨t, ta, tc, rfl, hta, hft⟩ := op_in ht
      refine ⟨(t, ta, tc), hta, hft, fun j u hu => ?_⟩
      have hj : j < 7 := (Array.getElem?_eq_some_iff.1 hu).1
      have := hc j hj
      rw [this, ← hu]
      simp
    haveI : Inhabited Ox := ⟨⟨0, default, 0, 0⟩⟩
    obtain ⟨P, hP⟩ := Deep.choose_lt hone
    have hll : ((List.range len).map fun i => (P i).1).length = len := by simp
    have ha2 : 0 < len → a = ⟨a.block, a.off, none⟩ ∧ a.block < W.heap.size := fun hpos => by
      have h0 := (hP 0 hpos).2.2 0 _ rfl
      rw [Nat.zero_mul] at h0
      have h1 : (a.add 0).add 0 = a := by simp [Addr.add]
      rw [h1] at h0
      exact ⟨mid_of h0, World.block_lt_of_cell? W _ h0⟩
    refine ⟨(List.range len).map fun i => (P i).1, some a, cap, by rw [hll], by rw [hll]; exact hl, by unfold maxLen at hm; omega, a.block, a.off, fun i => (P i).2.1, fun i => (P i).2.2, fun hne => ?_, fun i t hit => ?_⟩
    · have hpos : 0 < len := by
        rcases Nat.eq_zero_or_pos len with h | h
        · subst h; simp at hne
        · exact h
      exact ⟨by rw [← (ha2 hpos).1], (ha2 hpos).2⟩
    · have hi : i < len := by have := (List.getElem?_eq_some_iff.1 hit).1; omega
      rw [List.getElem?_map, List.getElem?_range hi] at hit
      have hpi : (P i).1 = t := by simpa using hit
      obtain ⟨g0, g1, g2⟩ := hP i hi
      rw [hpi] at g0 g1 g2
      have hcell : ∀ j u, (ovC t (P i).2.1 (P i).2.2)[j]? = some u → W.cell? ⟨a.block, a.off + i * 7 + j, none⟩ = some u := fun j u hu => by
        have := g2 j u hu
        rw [(ha2 (by omega)).1, Addr.add_mid, Addr.add_mid] at this
        exact this
      exact ⟨⟨hcell 0 _ rfl, hcell 1 _ rfl, hcell 2 _ rfl, hcell 3 _ rfl, hcell 4 _ rfl, hcell 5 _ rfl, hcell 6 _ rfl⟩, g0, g1⟩
/-- An expression that came in. -/
theorem expr_of {H : Type} {enc : TypeId × Value → H} {W : World} {base bs : Nat} {sp : Nat → Bool} {held : Bool} {fuel : Nat} {v : Value} {y : DataW H × List MemPlace}
    (hv : Value.okWide Tryz.prog W .any bs 24 v) (hf : DataW.trod enc Tryz.prog W base sp held fuel 24 v.cells.toList = some y) : ∃ l a c, v = .agg #[.slice a l.length c] ∧ OAt W l a c := by
  obtain ⟨cs, rfl, _⟩ := okWide_struct Tryz.underlying24 hv
  obtain ⟨xs, n, hn, _, hl, hxl, hfs⟩ := DataW.trod_struct Tryz.underlying24 hf
  have hc1 : Tryz.prog.cellsOf 24 = 1 := by kernel_rfl
  have e1 : Tryz.prog.cellsOf 22 = 1 := by kernel_rfl
  rw [hc1] at hl
  simp only [Value.cells] at hl hfs
  obtain ⟨L, hL⟩ : ∃ L, cs.toList = L := ⟨_, rfl⟩
  rw [hL] at hl hfs
  match L, hl with
  | [v0], _ =>
    match xs, hxl with
    | [y0], _ =>
      have f0 : DataW.trod enc Tryz.prog W base sp held n 22 [v0] = some y0 := by simpa [e1] using hfs 0 _ rfl
      obtain ⟨l, a, c, rfl, h⟩ := ops_of f0
      exact ⟨l, a, c, by rw [← Array.toArray_toList (xs := cs), hL], h⟩
/-- Names that came in. -/
theorem names_of {H : Type} {enc : TypeId × Value → H} {W : World} {base : Nat} {sp : Nat → Bool} {held : Bool} {fuel : Nat} {v : Value} {x : DataW H × List MemPlace}
    (hf : DataW.trod enc Tryz.prog W base sp held fuel 25 [v] = some x) : ∃ l a c, v = .slice a l.length c ∧ NAt W l a c ∧ ((∀ n ∈ x.1.weights Tryz.prog 25, n ≤ reachBytes) → l.length * 16 ≤ reachBytes) := by
  rcases DataW.trod_slice Tryz.underlying25 hf with ⟨hcs, _⟩ | ⟨a, len, cap, elems, rest, n, hn, hcs, hx, _, hl, hm, hlen, hel, hrest, _⟩
  · simp only [List.cons.injEq, and_true] at hcs
    subst hcs
    exact ⟨[], none, 0, rfl, ⟨Nat.le_refl _, by decide, 0, 0, fun h => absurd rfl h, fun i s h => by simp at h⟩, fun _ => Nat.zero_le _⟩
  · simp only [List.cons.injEq, and_true] at hcs
    subst hcs; subst hn
    have hc1 : Tryz.prog.cellsOf 9 = 1 := by kernel_rfl
    have hb16 : Tryz.prog.bytesOf 9 = 16 := by kernel_rfl
    have hone : ∀ i, i < len → ∃ s : ByteArray, s.size ≤ 9223372036854775807 ∧ W.cell? (a.add i) = some (.string s) := fun i hi => by
      have h1 := hel i (by omega)
      rw [List.getElem?_eq_getElem (by omega), hc1, Nat.mul_one] at h1
      obtain ⟨cs', hcs', ht⟩ := Option.bind_eq_some_iff.1 h1
      obtain ⟨_, hl1, hc⟩ := World.cells?_some hcs'
      obtain ⟨z2, g2, _, w2⟩ := DataW.trod_string Tryz.underlying9 ht
      subst g2
      have h0 := hc 0 (by decide)
      exact ⟨z2, by unfold maxLen at w2; omega, by simpa [Addr.add] using h0⟩
    obtain ⟨P, hP⟩ := Deep.choose_lt hone
    have hll : ((List.range len).map P).length = len := by simp
    have ha2 : 0 < len → a = ⟨a.block, a.off, none⟩ ∧ a.block < W.heap.size := fun hpos => by
      have h0 := (hP 0 hpos).2
      have h1 : a.add 0 = a := by simp [Addr.add]
      rw [h1] at h0
      exact ⟨mid_of h0, World.block_lt_of_cell? W _ h0⟩
    refine ⟨(List.range len).map P, some a, cap, by rw [hll], ⟨by rw [hll]; exact hl, by unfold maxLen at hm; omega, a.block, a.off, fun hne => ?_, fun i s his => ?_⟩, fun hw => ?_⟩
    · have hpos : 0 < len := by
        rcases Nat.eq_zero_or_pos len with h | h
        · subst h; simp at hne
        · exact h
      exact ⟨by rw [← (ha2 hpos).1], (ha2 hpos).2⟩
    · have hi : i < len := by have := (List.getElem?_eq_some_iff.1 his).1; omega
      rw [List.getElem?_map, List.getElem?_range hi] at his
      have hpi : P i = s := by simpa using his
      obtain ⟨g0, g1⟩ := hP i hi
      rw [hpi] at g0 g1
      rw [(ha2 (by omega)).1, Addr.add_mid] at g1
      exact ⟨g1, g0⟩
    · rw [hll]
      have h3 := hw ((len + rest.length) * 16) (by rw [hx]; simp [DataW.weights, Tryz.underlying25, hb16, hlen])
      have h2 : len * 16 ≤ (len + rest.length) * 16 := Nat.mul_le_mul_right _ (by omega)
      omega
/-- Bindings that came in. -/
theorem bind_of {H : Type} {enc : TypeId × Value → H} {W : World} {base bs : Nat} {sp : Nat → Bool} {held : Bool} {fuel : Nat} {v : Value} {y : DataW H × List MemPlace}
    (hv : Value.okWide Tryz.prog W .any bs 28 v) (hf : DataW.trod enc Tryz.prog W base sp held fuel 28 v.cells.toList = some y) (hw : ∀ n ∈ y.1.weights Tryz.prog 28, n ≤ reachBytes) : ∃ nl na nc tl ta tc, v = bv nl na nc tl ta tc ∧ BAt W nl na nc tl ta tc ∧ nl.length ≤ 4611686018427387904 := by
  obtain ⟨cs, rfl, _⟩ := okWide_struct Tryz.underlying28 hv
  obtain ⟨xs, n, hn, hD, hl, hxl, hfs⟩ := DataW.trod_struct Tryz.underlying28 hf
  have hc2 : Tryz.prog.cellsOf 28 = 2 := by kernel_rfl
  have e1 : Tryz.prog.cellsOf 25 = 1 := by kernel_rfl
  have e2 : Tryz.prog.cellsOf 26 = 1 := by kernel_rfl
  rw [hc2] at hl
  simp only [Value.cells] at hl hfs
  obtain ⟨L, hL⟩ : ∃ L, cs.toList = L := ⟨_, rfl⟩
  rw [hL] at hl hfs
  match L, hl with
  | [v0, v1], _ =>
    match xs, hxl with
    | [y0, y1], _ =>
      have f0 : DataW.trod enc Tryz.prog W base sp held n 25 [v0] = some y0 := by simpa [e1] using hfs 0 _ rfl
      have f1 : DataW.trod enc Tryz.prog W base sp held n 26 [v1] = some y1 := by simpa [e2] using hfs 1 _ rfl
      obtain ⟨nl, na, nc, rfl, hN, hwn⟩ := names_of f0
      obtain ⟨tl, ta, tc, rfl, hT, _⟩ := terms_of f1
      refine ⟨nl, na, nc, tl, ta, tc, by unfold bv; rw [← Array.toArray_toList (xs := cs), hL], ⟨hN, hT⟩, ?_⟩
      have h16 := hwn (fun n hn => hw n (by
        subst hD
        rw [DataW.weights, Tryz.underlying28]
        simp only [List.map_cons, List.map_nil, DataW.weightsEach, List.mem_append]
        exact .inl hn))
      unfold reachBytes at h16
      omega
end Go.Proofs.YteiacgpaocnofaaGreat
