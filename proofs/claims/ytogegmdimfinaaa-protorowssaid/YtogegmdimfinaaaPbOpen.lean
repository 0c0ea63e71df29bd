/- What comes in: numbers, bytes, as the row's readings give them. -/
import Derived.Test.YtogegmdimfinaaaOwn2
import Derived.ProofKit
import Derived.OpenShut
import Derived.Deep.Matrix
import Derived.SizedLaws
namespace Go.Proofs.Ytogegmdimfinaaa
open Go.RowKit Go.ChangeShapes Go.WideShapes Go.ChangeAt
theorem u64_of {x : Int} (h : (Lit.int .u64 x).wf = true) : ∃ n : Nat, x = (n : Int) ∧ n < 18446744073709551616 := by
  simp [Lit.wf, IntKind.min, IntKind.max, IntKind.signed, IntKind.bits] at h
  exact ⟨x.toNat, by omega, by omega⟩
theorem i64_of {x : Int} (h : (Lit.int .i64 x).wf = true) : -9223372036854775808 ≤ x ∧ x ≤ 9223372036854775807 := by
  simp [Lit.wf, IntKind.min, IntKind.max, IntKind.signed, IntKind.bits] at h
  omega
theorem bsAt_of_row {W : World} {a : Option Addr} {len cap : Nat} {zs : List Int}
    (h : (a = none ∧ len = 0 ∧ cap = 0 ∧ zs = []) ∨ ∃ x, a = some x ∧ len ≤ cap ∧ cap ≤ maxLen ∧ zs.length = cap ∧ (∀ i, i < zs.length → W.cell? (x.add i) = some (.int .u8 (zs.getD i 0))) ∧ ∀ n ∈ zs, (Lit.int .u8 n).wf = true) :
    ∃ bs : List Nat, bs.length = len ∧ BsAt W (.slice a len cap) bs := by
  rcases h with ⟨rfl, rfl, rfl, rfl⟩ | ⟨x, rfl, hl, hm, hz, hcell, hwf⟩
  · exact ⟨[], rfl, 0, 0, 0, none, rfl, Nat.le_refl _, by unfold maxLen; omega, fun i => by simp, fun h => absurd rfl h⟩
  · have hlb : ((zs.take len).map Int.toNat).length = len := by simp; omega
    have hget : ∀ i, i < len → ((((zs.take len).map Int.toNat).getD i 0 : Nat) : Int) = zs.getD i 0 ∧ ((zs.take len).map Int.toNat).getD i 0 < 256 := by
      intro i hi
      have hiz : i < zs.length := by omega
      have hb := bounds_u8 (hwf zs[i] (by simp))
      simp only [List.getD_eq_getElem?_getD, List.getElem?_map, List.getElem?_take, hi, if_true, List.getElem?_eq_getElem hiz, Option.map_some, Option.getD_some]
      omega
    refine ⟨(zs.take len).map Int.toNat, hlb, x.block, x.off, cap, some x, by rw [hlb], by omega, hm, fun i => ?_, fun hne => ?_⟩
    · by_cases hi : i < len
      · exact (hget i hi).2
      · rw [List.getD_eq_getElem?_getD, List.getElem?_eq_none (by omega)]; decide
    · have hlen : 0 < len := by
        rcases Nat.eq_zero_or_pos len with h | h
        · subst h; simp at hne
        · exact h
      have h0 := hcell 0 (by omega)
      have h1 : x.add 0 = x := by simp [Addr.add]
      rw [h1] at h0
      have hx : x = ⟨x.block, x.off, none⟩ := by
        cases x with
        | mk b o s =>
          cases s with
          | none => rfl
          | some q => simp [World.cell?] at h0; split at h0 <;> simp at h0
      refine ⟨by rw [← hx], World.block_lt_of_cell? W _ h0, fun i hi => ?_⟩
      rw [hlb] at hi
      have hc := hcell i (by omega)
      rw [hx, Addr.add_mid] at hc
      rw [hc, (hget i hi).1]
/-- Bytes that came in. -/
theorem bytes_of {H : Type} {enc : TypeId × Value → H} {W : World} {base : Nat} {sp : Nat → Bool} {held : Bool} {fuel len cap : Nat} {a : Option Addr} {d : DataW H} {p : List MemPlace} (hsp : ∀ b, sp b = true) (hf : DataW.trod enc Try.prog W base sp held fuel 30 (Value.slice a len cap).cells.toList = some (d, p)) :
    ∃ bs : List Nat, bs.length = len ∧ BsAt W (.slice a len cap) bs := by
  rcases open_ints Try.underlying30 Try.underlying5 (by kernel_rfl) hf with ⟨hcs, _⟩ | ⟨x, l, c, zs, hcs, _, hl, hm, hz, hx, hcell, hwz⟩
  · simp [Value.cells] at hcs
    obtain ⟨rfl, rfl, rfl⟩ := hcs
    exact bsAt_of_row (W := W) (.inl ⟨rfl, rfl, rfl, rfl⟩)
  · simp [Value.cells] at hcs
    obtain ⟨rfl, rfl, rfl⟩ := hcs
    exact bsAt_of_row (W := W) (.inr ⟨_, rfl, hl, hm, by simpa [hsp] using hz, hcell, hwz⟩)
end Go.Proofs.Ytogegmdimfinaaa
