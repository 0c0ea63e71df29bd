/- The key that every program must know: its bytes, reckoned. -/
import Derived.Test.YtobgimpkkjaolaaGreatDoorSg2
namespace Go.Proofs.YtobgimpkkjaolaaGreatDoor
/-- The seed of that key. -/
def sd0 : List Nat := [157, 97, 177, 157, 239, 253, 90, 96, 186, 132, 74, 244, 146, 236, 44, 196, 68, 73, 197, 105, 123, 50, 105, 25, 112, 59, 172, 3, 28, 174, 127, 96]
def nn0 : Nat := 36144925721603087658594284515452164870581325872720374094707712194495455132720
def px0 : Nat := 38815646466658113194383306759739515082307681141926459231621296960732224964046
def py0 : Nat := 11903303657706407974989296177215005343713679411332034699907763981919547054807
theorem scn0 : bval ((scn sd0).take 32) = nn0 := by kernel_rfl
theorem nn0_lt : nn0 < 2 ^ 255 := by decide +kernel
theorem nm0 : (nm 255 nn0).1 % pp = px0 * (nm 255 nn0).2.2 % pp ∧ (nm 255 nn0).2.1 % pp = py0 * (nm 255 nn0).2.2 % pp := by decide +kernel
theorem ofN_of {a b : Nat} (h : a % pp = b % pp) : ofN a = ofN b := Fin.ext h
theorem nf_at {p : Nat × Nat × Nat} {P : Pt} {x y : Nat} (h : Nf p P) (hx : p.1 % pp = x * p.2.2 % pp) (hy : p.2.1 % pp = y * p.2.2 % pp) : P.x = ofN x ∧ P.y = ofN y := by
  obtain ⟨hz, h1, h2⟩ := h
  rw [ofN_of hx, ofN_muls] at h1
  rw [ofN_of hy, ofN_muls] at h2
  generalize ofN p.2.2 = z at *
  generalize ofN x = a at *
  generalize ofN y = b at *
  exact ⟨mul_cancel hz (by grind), mul_cancel hz (by grind)⟩
theorem pub0 : pubOf (scn sd0) = pkb (ofN px0) (ofN py0) := by
  unfold pubOf pkP
  rw [scn0]
  have h := nf_at (nf_nm 255 nn0 nn0_lt) nm0.1 nm0.2
  rw [h.1, h.2]
theorem pb0 : (pubOf (scn sd0)).getD 0 0 = 215 := by rw [pub0]; decide +kernel
theorem pb1 : (pubOf (scn sd0)).getD 1 0 = 90 := by rw [pub0]; decide +kernel
theorem pb31 : (pubOf (scn sd0)).getD 31 0 = 26 := by rw [pub0]; decide +kernel
theorem sd0_len : sd0.length = 32 := rfl
theorem sd0_lim : ∀ i, sd0.getD i 0 < 256 := lim_list (by decide)
end Go.Proofs.YtobgimpkkjaolaaGreatDoor
