/- ShaNil, walked: it answers true, whatever the bytes, where the two tables lie as the text lays them. -/
import Derived.Test.YtjkcjlhcfkapkaaDoorAwake
namespace Go.Proofs.YtjkcjlhcfkapkaaDoor
open Go.RowKit
set_option maxRecDepth 100000 in
set_option maxHeartbeats 1000000 in
theorem shaNil_walk (v : Value) (w : World) (ht : Tabs w) : Calls Tryd.prog 5 #[v] w fun e w' => e = .returned (.bool true) ∧ Below w.heap.size w w' := by
  have HT := hide ht
  clear ht
  go_enter Tryd.func5, Tryd.ntmps5
  go_wp2_with fail
  refine (write_nil v w).mono ?_
  rintro e w' ⟨rfl, rfl⟩
  go_wp2_with fail
  refine (sum_nil w').mono ?_
  rintro e w ⟨rfl, rfl⟩
  go_wp2_with fail
  have ht := HT.out
  refine (shaSum_any [] _ w ht ⟨none, 0, rfl, Nat.le_refl _, fun h => absurd rfl h⟩ (by decide)).mono ?_
  rintro e w1 ⟨v1, rfl, hown1, hb1⟩
  obtain ⟨g, cap, hv, _⟩ := owns_shape hown1 (by omega)
  rw [hv]
  have HB := hide hb1
  have ht1 := hide (ht.below hb1 ht.2.2)
  clear hb1 hv hown1 ht
  go_wp2_with fail
  refine (awake_any w1 ht1.out).mono ?_
  rintro e w2 ⟨rfl, hb2⟩
  have HB2 := hide hb2
  clear hb2
  go_wp2
  go_ret
  exact ⟨rfl, HB.out.trans (HB2.out.mono HB.out.size)⟩
end Go.Proofs.YtjkcjlhcfkapkaaDoor
