/- Calls that come in; the law's own call few. -/
import Derived.Test.YtcmalffpahkleaaDoorSy7
namespace Go.Proofs.YtcmalffpahkleaaDoor
open Go.RowKit
/-- A call. -/
structure Cl where
  d : Int
  n : Int
  s : ByteArray
  l : List ByteArray
/-- A call's cells. -/
def clC (x : Cl) (a : Option Addr) (c : Nat) : Array Value := #[.int .i64 x.d, .int .i64 x.n, .string x.s, .slice a x.l.length c]
def ClFit (x : Cl) : Prop := (-9223372036854775808 ≤ x.n ∧ x.n ≤ 9223372036854775807) ∧ x.s.size ≤ 9223372036854775807
/-- Calls in memory. -/
def CLAt (w : World) (l : List Cl) (ao : Option Addr) (c : Nat) : Prop :=
  l.length ≤ c ∧ c ≤ 9223372036854775807 ∧ ∃ (b o : Nat) (A : Nat → Option Addr) (C : Nat → Nat), (l ≠ [] → ao = some ⟨b, o, none⟩ ∧ b < w.heap.size) ∧
    ∀ i x, l[i]? = some x → ClFit x ∧ NAt w x.l (A i) (C i) ∧ ∀ j u, (clC x (A i) (C i))[j]? = some u → w.cell? ⟨b, o + i * 4 + j, none⟩ = some u
theorem CLAt.ext {W w : World} {l : List Cl} {ao : Option Addr} {c : Nat} (h : CLAt W l ao c) (he : Below W.heap.size W w) : CLAt w l ao c := by
  obtain ⟨h1, h2, b, o, A, C, hb, hc⟩ := h
  exact ⟨h1, h2, b, o, A, C, fun hne => ⟨(hb hne).1, Nat.lt_of_lt_of_le (hb hne).2 he.size⟩, fun i x hx => ⟨(hc i x hx).1, (hc i x hx).2.1.ext he, fun j u hu => (Below.cell (p := ⟨b, o + i * 4 + j, none⟩) he (hb (fun e => by rw [e] at hx; simp at hx)).2).trans ((hc i x hx).2.2 j u hu)⟩⟩
theorem CLAt.read {w : World} {l : List Cl} {ao : Option Addr} {c : Nat} (h : CLAt w l ao c) {i : Nat} {x : Cl} (hx : l[i]? = some x) : ∃ b o a e, ao = some ⟨b, o, none⟩ ∧ ClFit x ∧ NAt w x.l a e ∧ w.cell? ⟨b, o + i * 4, none⟩ = some (.int .i64 x.d) ∧ w.cell? ⟨b, o + i * 4 + 1, none⟩ = some (.int .i64 x.n) ∧ w.cell? ⟨b, o + i * 4 + 2, none⟩ = some (.string x.s) ∧ w.cell? ⟨b, o + i * 4 + 3, none⟩ = some (.slice a x.l.length e) := by
  obtain ⟨_, _, b, o, A, C, hb, hc⟩ := h
  obtain ⟨e, _⟩ := hb (fun e => by rw [e] at hx; simp at hx)
  obtain ⟨h1, h2, h3⟩ := hc i x hx
  exact ⟨b, o, A i, C i, e, h1, h2, h3 0 _ rfl, h3 1 _ rfl, h3 2 _ rfl, h3 3 _ rfl⟩
theorem ix_calls (w : World) (b o n c k : Nat) (hk : k < n) : (Instr.indexAt 22 (.slice (some ⟨b, o, none⟩) n c) (.int .i64 (k : Int))).run Tryd.prog w = .ok (.pointer (some ⟨b, o + k * 4, none⟩)) w := by
  have h1 : decide ((k : Int) < 0) = false := decide_eq_false (by omega)
  have h2 : ¬ ((n : Int) ≤ (k : Int)) := by omega
  go_simp
/-- A truth is answered, and what was there stays. -/
def FewP (w : World) (e : Ending) (w' : World) : Prop := ∃ b : Bool, e = .returned (.bool b) ∧ Below w.heap.size w w'
/-- The next one of a row. -/
theorem step_of {k c n : Nat} (h : k < n) (h1 : n ≤ c) (h2 : c ≤ 9223372036854775807) : IntKind.i64.wrap ((k : Int) + 1) = (k : Int) + 1 := i64_wrap _ (by omega)
set_option maxRecDepth 100000 in
set_option maxHeartbeats 2000000 in
theorem few_any {w : World} {l : List Cl} {ao : Option Addr} {c : Nat} (h : CLAt w l ao c) : Calls Tryd.prog 7 #[.slice ao l.length c] w (FewP w) := by
  have HL := hide h
  clear h
  go_enter Tryd.func7, Tryd.ntmps7
  go_wp2
  go_loopw [10, 3] (fun i z wr => ∃ (k : Nat) (y : Int), k ≤ l.length ∧ i = .int .i64 (k : Int) ∧ z = .int .i64 y ∧ Below w.heap.size w wr) (fun i _ _ => l.length - (intOf i).toNat)
  case atStart => exact ⟨0, 0, Nat.zero_le _, rfl, rfl, Below.refl _ _⟩
  case round =>
    obtain ⟨k, y, hk, rfl, rfl, hB⟩ := hrel
    by_cases hlt : k < l.length
    · have dl : decide (k < l.length) = true := decide_eq_true hlt
      obtain ⟨x, hx⟩ : ∃ x, l[k]? = some x := ⟨_, List.getElem?_eq_getElem hlt⟩
      obtain ⟨b, o, a, e, rfl, hfit, hN, p0, p1, p2, p3⟩ := (HL.out.ext hB).read hx
      have hix := fun w_ => ix_calls w_ b o l.length c k hlt
      have hk1 := step_of hlt HL.out.1 HL.out.2.1
      have hB2 := hide (Below.chain hB (alloc_below wr (.cells (clC x a e) 32)))
      have hN2 := hide (hN.ext (alloc_below wr (.cells (clC x a e) 32)))
      have hH := hide (And.intro hlt hx)
      unfold clC at hB2 hN2
      clear hB hN hx hlt
      go_wp2
      generalize wr.alloc (.cells #[.int .i64 x.d, .int .i64 x.n, .string x.s, .slice a x.l.length e] 32) = w1 at hB2 hN2 ⊢
      clear p0 p1 p2 p3 hix dl
      go_loopw [23, 3] (fun i z wi => ∃ (m : Nat) (y : Int), m ≤ x.l.length ∧ i = .int .i64 (m : Int) ∧ z = .int .i64 y ∧ wi = w1) (fun i _ _ => x.l.length - (intOf i).toNat)
      case atStart => exact ⟨0, _, Nat.zero_le _, rfl, rfl, rfl⟩
      case round =>
        obtain ⟨m, z, hm, rfl, rfl, rfl⟩ := hrel
        by_cases hml : m < x.l.length
        · have dm : decide (m < x.l.length) = true := decide_eq_true hml
          obtain ⟨b2, o2, rfl, hbb, hrd⟩ := hN2.out.read (by omega)
          obtain ⟨t, ht⟩ : ∃ t, x.l[m]? = some t := ⟨_, List.getElem?_eq_getElem hml⟩
          have hct := (hrd m t ht).2 _ (Below.refl _ _)
          have hix := fun w_ => ix_names w_ b2 o2 x.l.length e m hml
          have hm1 := step_of hml hN2.out.1 hN2.out.2.1
          have HM := hide hml
          clear hml hrd hbb ht
          go_wp2
          exact ⟨⟨m + 1, _, HM.out, by simp, rfl, trivial⟩, by have := HM.out; simp only [intOf]; omega⟩
        · have dm : decide (m < x.l.length) = false := decide_eq_false hml
          clear hml hm
          by_cases h100 : (100 : Int) ≤ (k : Int)
          · have d100 : decide ((100 : Int) ≤ (k : Int)) = true := decide_eq_true h100
            clear h100
            go_wp2
            go_ret
            exact ⟨_, rfl, hB2.out⟩
          · have d100 : decide ((100 : Int) ≤ (k : Int)) = false := decide_eq_false h100
            clear h100
            by_cases h8 : 8000 < z
            · have d8 : decide (8000 < z) = true := decide_eq_true h8
              clear h8
              go_wp2
              go_ret
              exact ⟨_, rfl, hB2.out⟩
            · have d8 : decide (8000 < z) = false := decide_eq_false h8
              clear h8
              go_wp2
              exact ⟨⟨k + 1, _, hH.out.1, by simp, rfl, hB2.out⟩, by have := hH.out.1; simp only [intOf]; omega⟩
    · have dl : decide (k < l.length) = false := decide_eq_false hlt
      have HB := hide hB
      clear hB hlt
      go_wp2
      go_ret
      exact ⟨_, rfl, HB.out⟩
end Go.Proofs.YtcmalffpahkleaaDoor
