/- The law's call same: two rows of texts, alike or not. -/
import Derived.Test.YtcmalffpahkleaaDoorSyQ
namespace Go.Proofs.YtcmalffpahkleaaDoor
open Go.RowKit
set_option maxRecDepth 100000 in
set_option maxHeartbeats 2000000 in
/-- Of two rows of the same texts it says so. -/
theorem same_any {w : World} {l : List ByteArray} {ao bo : Option Addr} {c d : Nat} (hA : NAt w l ao c) (hB : NAt w l bo d) : Calls Tryd.prog 18 #[.slice ao l.length c, .slice bo l.length d] w fun e w' => e = .returned (.bool true) ∧ Below w.heap.size w w' := by
  have HA := hide hA
  have HB := hide hB
  clear hA hB
  go_enter Tryd.func18, Tryd.ntmps18
  go_wp2
  go_loopw [13] (fun i wr => ∃ (k : Nat), k ≤ l.length ∧ i = .int .i64 (k : Int) ∧ Below w.heap.size w wr) (fun i _ => l.length - (intOf i).toNat)
  case atStart => exact ⟨0, Nat.zero_le _, rfl, Below.refl _ _⟩
  case round =>
    obtain ⟨k, hk, rfl, hW⟩ := hrel
    have HW := hide hW
    clear hW
    by_cases hlt : k < l.length
    · have dl : decide (k < l.length) = true := decide_eq_true hlt
      obtain ⟨s, hs⟩ : ∃ s, l[k]? = some s := ⟨_, List.getElem?_eq_getElem hlt⟩
      obtain ⟨b, o, rfl, hbb, hrd⟩ := HA.out.read (by omega)
      obtain ⟨b2, o2, rfl, hbb2, hrd2⟩ := HB.out.read (by omega)
      have hcs := (hrd k s hs).2 _ HW.out
      have hcs2 := (hrd2 k s hs).2 _ HW.out
      have hcsd := (hrd k s hs).2 _ (Below.drew HW.out)
      have hcsd2 := (hrd2 k s hs).2 _ (Below.drew HW.out)
      have hix := fun w_ => ix_names w_ b o l.length c k hlt
      have hix2 := fun w_ => ix_names w_ b2 o2 l.length d k hlt
      have hk1 := step_of hlt HA.out.1 HA.out.2.1
      have HH := hide hlt
      clear hrd hrd2 hbb hbb2 hs hk hlt
      go_wp2_with fail
      go_region
      all_goals
        go_wp2
        exact ⟨⟨k + 1, HH.out, by simp, Below.drew HW.out⟩, by have := HH.out; simp only [intOf]; omega⟩
    · have dl : decide (k < l.length) = false := decide_eq_false hlt
      clear hlt hk
      go_wp2
      go_ret
      exact ⟨rfl, HW.out⟩
end Go.Proofs.YtcmalffpahkleaaDoor
