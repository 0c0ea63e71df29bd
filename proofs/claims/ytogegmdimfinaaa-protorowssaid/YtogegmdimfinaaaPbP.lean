/- Fields to put, and numbers, as they come in. -/
import Derived.Test.YtogegmdimfinaaaPbOpen
import Derived.Test.YtogegmdimfinaaaPb11
namespace Go.Proofs.Ytogegmdimfinaaa
open Go.RowKit Go.ChangeShapes Go.WideShapes Go.ChangeAt
/-- A field to put. -/
structure Pu where
  num : Int
  whole : Bool
  n : Nat
  b : List Nat
instance : Inhabited Pu := ⟨⟨0, false, 0, []⟩⟩
/-- What a place of a row of fields to put holds. -/
def PuAt (w : World) (b o : Nat) (p : Pu) : Prop :=
  ∃ bv, w.cell? ⟨b, o, none⟩ = some (.int .i64 p.num) ∧ w.cell? ⟨b, o + 1, none⟩ = some (.bool p.whole) ∧ w.cell? ⟨b, o + 2, none⟩ = some (.int .u64 (p.n : Int)) ∧ w.cell? ⟨b, o + 3, none⟩ = some bv ∧ BsAt w bv p.b ∧
    (-9223372036854775808 ≤ p.num ∧ p.num ≤ 9223372036854775807) ∧ p.n < 18446744073709551616 ∧ p.b.length ≤ 140737488351232
/-- Fields to put, in memory that was there. -/
def PsAt (w : World) (v : Value) (ps : List Pu) : Prop :=
  ∃ (b o c : Nat) (ao : Option Addr), v = .slice ao ps.length c ∧ ps.length ≤ c ∧ ps.length ≤ 140737488351232 ∧ (ps ≠ [] → ao = some ⟨b, o, none⟩ ∧ b < w.heap.size ∧ ∀ i p, ps[i]? = some p → PuAt w b (o + i * 4) p)
theorem PuAt.ext {W w : World} {b o : Nat} {p : Pu} (h : PuAt W b o p) (hb : b < W.heap.size) (he : Below W.heap.size W w) : PuAt w b o p := by
  obtain ⟨bv, c0, c1, c2, c3, c4, c5⟩ := h
  exact ⟨bv, (Below.cell (p := ⟨b, o, none⟩) he hb).trans c0, (Below.cell (p := ⟨b, o + 1, none⟩) he hb).trans c1, (Below.cell (p := ⟨b, o + 2, none⟩) he hb).trans c2, (Below.cell (p := ⟨b, o + 3, none⟩) he hb).trans c3, c4.ext he, c5⟩
theorem PsAt.ext {W w : World} {v : Value} {ps : List Pu} (h : PsAt W v ps) (he : Below W.heap.size W w) : PsAt w v ps := by
  obtain ⟨b, o, c, ao, e, hc, hl, hh⟩ := h
  refine ⟨b, o, c, ao, e, hc, hl, fun hne => ?_⟩
  obtain ⟨e1, hb, hr⟩ := hh hne
  exact ⟨e1, Nat.lt_of_lt_of_le hb he.size, fun i p hp => (hr i p hp).ext hb he⟩
/-- Numbers, in memory that was there. -/
def IsAt (w : World) (v : Value) (zs : List Int) : Prop :=
  ∃ (b o c : Nat) (ao : Option Addr), v = .slice ao zs.length c ∧ zs.length ≤ c ∧ c ≤ 9223372036854775807 ∧ (∀ z ∈ zs, -9223372036854775808 ≤ z ∧ z ≤ 9223372036854775807) ∧ (zs ≠ [] → ao = some ⟨b, o, none⟩ ∧ b < w.heap.size ∧ ∀ i z, zs[i]? = some z → w.cell? ⟨b, o + i, none⟩ = some (.int .i64 z))
theorem IsAt.ext {W w : World} {v : Value} {zs : List Int} (h : IsAt W v zs) (he : Below W.heap.size W w) : IsAt w v zs := by
  obtain ⟨b, o, c, ao, e, hc, hl, hz, hh⟩ := h
  refine ⟨b, o, c, ao, e, hc, hl, hz, fun hne => ?_⟩
  obtain ⟨e1, hb, hr⟩ := hh hne
  exact ⟨e1, Nat.lt_of_lt_of_le hb he.size, fun i z hp => (Below.cell (p := ⟨b, o + i, none⟩) he hb).trans (hr i z hp)⟩
theorem mid_of {W : World} {x : Addr} {v : Value} (h : W.cell? x = some v) : x = ⟨x.block, x.off, none⟩ := by
  cases x with
  | mk b o s =>
    cases s with
    | none => rfl
    | some q => simp [World.cell?] at h; split at h <;> simp at h
theorem weights_all {H : Type} {P : Program} {e : TypeId} {n : Nat} : ∀ {l : List (DataW H)} {d : DataW H}, d ∈ l → n ∈ d.weights P e → n ∈ DataW.weightsAll P e l
  | d' :: r, d, hm, hn => by
    rw [DataW.weightsAll, List.mem_append]
    rcases List.mem_cons.1 hm with h | h
    · subst h; exact .inl hn
    · exact .inr (weights_all h hn)
theorem ints_of {H : Type} {enc : TypeId × Value → H} {W : World} {base : Nat} {sp : Nat → Bool} {held : Bool} {fuel len cap : Nat} {a : Option Addr} {d : DataW H} {p : List MemPlace} (hsp : ∀ b, sp b = true) (hf : DataW.trod enc Try.prog W base sp held fuel 42 (Value.slice a len cap).cells.toList = some (d, p)) :
    ∃ zs : List Int, IsAt W (.slice a len cap) zs := by
  rcases open_ints Try.underlying42 Try.underlying3 (by kernel_rfl) hf with ⟨hcs, _⟩ | ⟨x, l, c, zs, hcs, _, hl, hm, hz, hx, hcell, hwz⟩
  · simp [Value.cells] at hcs
    obtain ⟨rfl, rfl, rfl⟩ := hcs
    exact ⟨[], 0, 0, 0, none, rfl, Nat.le_refl _, by omega, fun _ h => absurd h (by simp), fun h => absurd rfl h⟩
  · simp [Value.cells] at hcs
    obtain ⟨rfl, rfl, rfl⟩ := hcs
    have hzl : zs.length = cap := by simpa [hsp] using hz
    have hlb : (zs.take len).length = len := by simp; omega
    refine ⟨zs.take len, x.block, x.off, cap, some x, by rw [hlb], by omega, by unfold maxLen at hm; omega, fun z hz => i64_of (hwz z (List.mem_of_mem_take hz)), fun hne => ?_⟩
    have hlen : 0 < len := by
      rcases Nat.eq_zero_or_pos len with h | h
      · subst h; simp at hne
      · exact h
    have h0 := hcell 0 (by omega)
    have h1 : x.add 0 = x := by simp [Addr.add]
    rw [h1] at h0
    have hx2 := mid_of h0
    refine ⟨by rw [← hx2], World.block_lt_of_cell? W _ h0, fun i z hiz => ?_⟩
    have hi : i < len := by have := (List.getElem?_eq_some_iff.1 hiz).1; omega
    have hc := hcell i (by omega)
    rw [hx2, Addr.add_mid] at hc
    rw [hc]
    rw [List.getElem?_take, if_pos hi] at hiz
    rw [List.getD_eq_getElem?_getD, hiz]; rfl
theorem bytes_at {H : Type} {enc : TypeId × Value → H} {W : World} {base : Nat} {sp : Nat → Bool} {held : Bool} {fuel : Nat} {v : Value} {x : DataW H × List MemPlace} (hsp : ∀ b, sp b = true) (hf : DataW.trod enc Try.prog W base sp held fuel 30 [v] = some x) (hw : ∀ n ∈ x.1.weights Try.prog 30, n ≤ reachBytes) :
    ∃ bs : List Nat, BsAt W v bs ∧ bs.length ≤ 140737488351232 := by
  rcases open_ints Try.underlying30 Try.underlying5 (by kernel_rfl) hf with ⟨hcs, _⟩ | ⟨y, l, c, zs, hcs, _, hl, hm, hz, hx, hcell, hwz⟩
  · simp at hcs
    subst hcs
    exact ⟨[], nil_bs W, by simp⟩
  · simp at hcs
    subst hcs
    have hzl : zs.length = c := by simpa [hsp] using hz
    obtain ⟨bs, h1, h2⟩ := bsAt_of_row (W := W) (.inr ⟨_, rfl, hl, hm, hzl, hcell, hwz⟩)
    refine ⟨bs, h2, ?_⟩
    have hb5 : Try.prog.bytesOf 5 = 1 := by kernel_rfl
    rw [hx] at hw
    have h3 := hw (c * 1) (by simp [DataW.weights, Try.underlying30, hb5, ChangeShapes.lits]; left; omega)
    unfold reachBytes at h3
    omega
theorem puts_of {H : Type} {enc : TypeId × Value → H} {W : World} {base : Nat} {sp : Nat → Bool} {held : Bool} {fuel len cap : Nat} {a : Option Addr} {d : DataW H} {p : List MemPlace} (hsp : ∀ b, sp b = true) (hf : DataW.trod enc Try.prog W base sp held fuel 22 (Value.slice a len cap).cells.toList = some (d, p)) (hw : ∀ n ∈ d.weights Try.prog 22, n ≤ reachBytes) :
    ∃ ps : List Pu, PsAt W (.slice a len cap) ps := by
  rcases Deep.open_slice Try.underlying22 hf with ⟨hcs, _⟩ | ⟨x, l, c, m, n, D, Pl, hcs, _, hl, hm, hmm, hx, hel⟩
  · simp [Value.cells] at hcs
    obtain ⟨rfl, rfl, rfl⟩ := hcs
    exact ⟨[], 0, 0, 0, none, rfl, Nat.le_refl _, by simp, fun h => absurd rfl h⟩
  · simp [Value.cells] at hcs
    obtain ⟨rfl, rfl, rfl⟩ := hcs
    have hmc : m = cap := by rw [hmm, hsp]; rfl
    subst hmc
    have hc4 : Try.prog.cellsOf 32 = 4 := by kernel_rfl
    have hb48 : Try.prog.bytesOf 32 = 48 := by kernel_rfl
    simp only [Prod.mk.injEq] at hx
    rw [hx.1] at hw
    have hone : ∀ i, i < len → ∃ p : Pu, ∃ v0 v1 v2 v3, W.cell? (x.add (i * 4)) = some v0 ∧ W.cell? ((x.add (i * 4)).add 1) = some v1 ∧ W.cell? ((x.add (i * 4)).add 2) = some v2 ∧ W.cell? ((x.add (i * 4)).add 3) = some v3 ∧ v0 = .int .i64 p.num ∧ v1 = .bool p.whole ∧ v2 = .int .u64 (p.n : Int) ∧ BsAt W v3 p.b ∧
        (-9223372036854775808 ≤ p.num ∧ p.num ≤ 9223372036854775807) ∧ p.n < 18446744073709551616 ∧ p.b.length ≤ 140737488351232 := fun i hi => by
      obtain ⟨cs', hcs', ht⟩ := hel i (by omega)
      rw [hc4] at hcs'
      obtain ⟨_, hl4, hc⟩ := World.cells?_some hcs'
      obtain ⟨xs, n', _, hD, _, hxl, hfs⟩ := DataW.trod_struct Try.underlying32 ht
      match cs', hl4 with
      | [v0, v1, v2, v3], _ =>
        match xs, hxl with
        | [y0, y1, y2, y3], _ =>
          have e3 : Try.prog.cellsOf 3 = 1 := by kernel_rfl
          have e4 : Try.prog.cellsOf 4 = 1 := by kernel_rfl
          have e23 : Try.prog.cellsOf 23 = 1 := by kernel_rfl
          have e30 : Try.prog.cellsOf 30 = 1 := by kernel_rfl
          have f0 : DataW.trod enc Try.prog W base sp held n' 3 [v0] = some y0 := by simpa [e3] using hfs 0 _ rfl
          have f1 : DataW.trod enc Try.prog W base sp held n' 4 [v1] = some y1 := by simpa [e4] using hfs 1 _ rfl
          have f2 : DataW.trod enc Try.prog W base sp held n' 23 [v2] = some y2 := by simpa [e23] using hfs 2 _ rfl
          have f3 : DataW.trod enc Try.prog W base sp held n' 30 [v3] = some y3 := by simpa [e30] using hfs 3 _ rfl
          obtain ⟨z0, g0, _, w0⟩ := DataW.trod_int Try.underlying3 f0
          obtain ⟨z1, g1, _⟩ := DataW.trod_bool Try.underlying4 f1
          obtain ⟨z2, g2, _, w2⟩ := DataW.trod_int Try.underlying23 f2
          have hwb : ∀ n ∈ y3.1.weights Try.prog 30, n ≤ reachBytes := fun n hn => hw n (by
            rw [DataW.weights, Try.underlying22]
            refine List.mem_cons_of_mem _ (List.mem_append_left _ (weights_all (List.mem_map.2 ⟨i, List.mem_range.2 hi, rfl⟩) ?_))
            have hDi : D i = .agg [y0.1, y1.1, y2.1, y3.1] := by
              simp only [Prod.mk.injEq] at hD
              simpa using hD.1
            rw [hDi, DataW.weights, Try.underlying32]
            simp only [List.map_cons, List.map_nil, DataW.weightsEach, List.mem_append]
            exact .inr (.inr (.inr (.inl hn))))
          obtain ⟨bs, hbs, hbl⟩ := bytes_at hsp f3 hwb
          obtain ⟨k2, rfl, hk2⟩ := u64_of w2
          simp only [List.cons.injEq, and_true] at g0 g1 g2
          refine ⟨⟨z0, z1, k2, bs⟩, v0, v1, v2, v3, ?_, ?_, ?_, ?_, g0, g1, g2, hbs, i64_of w0, hk2, hbl⟩
          · have h0 := hc 0 (by decide)
            simpa [Addr.add] using h0
          · simpa using hc 1 (by decide)
          · simpa using hc 2 (by decide)
          · simpa using hc 3 (by decide)
    obtain ⟨P, hP⟩ := Deep.choose_lt hone
    have hb48' : len * 48 ≤ reachBytes := by
      have h3 := hw ((len + (m - len)) * 48) (by simp [DataW.weights, Try.underlying22, hb48])
      have h2 : len * 48 ≤ (len + (m - len)) * 48 := Nat.mul_le_mul_right _ (by omega)
      omega
    unfold reachBytes at hb48'
    have hlm : ((List.range len).map P).length = len := by simp
    refine ⟨(List.range len).map P, x.block, x.off, m, some x, by rw [hlm], by rw [hlm]; exact hl, by rw [hlm]; omega, fun hne => ?_⟩
    have hlen : 0 < len := by
      rcases Nat.eq_zero_or_pos len with h | h
      · subst h; simp at hne
      · exact h
    obtain ⟨_, _, _, _, h0, _⟩ := hP 0 hlen
    rw [Nat.zero_mul] at h0
    have h1 : x.add 0 = x := by simp [Addr.add]
    rw [h1] at h0
    have hx2 := mid_of h0
    refine ⟨by rw [← hx2], World.block_lt_of_cell? W _ h0, fun i p hip => ?_⟩
    have hi : i < len := by have := (List.getElem?_eq_some_iff.1 hip).1; omega
    rw [List.getElem?_map, List.getElem?_range hi] at hip
    have hpi : P i = p := by simpa using hip
    obtain ⟨v0, v1, v2, v3, c0, c1, c2, c3, e0, e1, e2, e3, e4⟩ := hP i hi
    rw [hpi] at e0 e1 e2 e3 e4
    subst e0 e1 e2
    rw [hx2, Addr.add_mid] at c0 c1 c2 c3
    exact ⟨v3, c0, by rw [← c1]; rfl, by rw [← c2]; rfl, by rw [← c3]; rfl, e3, e4⟩
end Go.Proofs.Ytogegmdimfinaaa
