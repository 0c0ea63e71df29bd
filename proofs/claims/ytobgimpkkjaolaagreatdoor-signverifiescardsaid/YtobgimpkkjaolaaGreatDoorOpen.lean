/- Bytes that come in: what a slice that fits the row holds. -/
import Derived.Test.YtobgimpkkjaolaaGreatDoorMa
import Derived.ProofKit
import Derived.OpenShut
import Derived.Deep.Matrix
import Derived.SizedLaws
namespace Go.Proofs.YtobgimpkkjaolaaGreatDoor
open Go.RowKit
theorem bsAt_of_row {W : World} {a : Option Addr} {len cap : Nat} {zs : List Int}
    (h : (a = none ∧ len = 0 ∧ cap = 0 ∧ zs = []) ∨ ∃ x, a = some x ∧ len ≤ cap ∧ cap ≤ maxLen ∧ zs.length = cap ∧ (∀ i, i < zs.length → W.cell? (x.add i) = some (.int .u8 (zs.getD i 0))) ∧ ∀ n ∈ zs, (Lit.int .u8 n).wf = true) :
    ∃ bs : List Nat, bs.length = len ∧ BsAt W (.slice a len cap) bs := by
  rcases h with ⟨rfl, rfl, rfl, rfl⟩ | ⟨x, rfl, hl, hm, hz, hcell, hwf⟩
  · exact ⟨[], rfl, 0, 0, 0, none, rfl, Nat.le_refl _, by unfold maxLen; omega, fun i => by simp, fun h => absurd rfl h⟩
  · have hlb : ((zs.take len).map Int.toNat).length = len := by simp; omega
    have hget : ∀ i, i < len → ((((zs.take len).map Int.toNat).getD i 0 : Nat) : Int) = zs.getD i 0 ∧ ((zs.take len).map Int.toNat).getD i 0 < 256 := by
      intro i hi
      have hiz : i < zs.length := by omega
      have hb := bounds_u8 (hwf zs[i] (by simp))
      simp only [List.getD_eq_getElem?_getD, List.getElem?_map, List.getElem?_take, hi, if_true, List.getElem?_eq_getElem hiz, Option.map_some, Option.getD_some]
      omega
    refine ⟨(zs.take len).map Int.toNat, hlb, x.block, x.off, cap, some x, by rw [hlb], by omega, hm, fun i => ?_, fun hne => ?_⟩
    · by_cases hi : i < len
      · exact (hget i hi).2
      · rw [List.getD_eq_getElem?_getD, List.getElem?_eq_none (by omega)]; decide
    · have hlen : 0 < len := by
        rcases Nat.eq_zero_or_pos len with h | h
        · subst h; simp at hne
        · exact h
      have h0 := hcell 0 (by omega)
      have h1 : x.add 0 = x := by simp [Addr.add]
      rw [h1] at h0
      have hx : x = ⟨x.block, x.off, none⟩ := by
        cases x with
        | mk b o s =>
          cases s with
          | none => rfl
          | some q => simp [World.cell?] at h0; split at h0 <;> simp at h0
      refine ⟨by rw [← hx], World.block_lt_of_cell? W _ h0, fun i hi => ?_⟩
      rw [hlb] at hi
      have hc := hcell i (by omega)
      rw [hx, Addr.add_mid] at hc
      rw [hc, (hget i hi).1]
end Go.Proofs.YtobgimpkkjaolaaGreatDoor
