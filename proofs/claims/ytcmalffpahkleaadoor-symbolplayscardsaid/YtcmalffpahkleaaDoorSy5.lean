/- The program's calls Copy, Own. -/
import Derived.Test.YtcmalffpahkleaaDoorSy4
import Derived.Deep.RegionHeld3
namespace Go.Proofs.YtcmalffpahkleaaDoor
open Go.RowKit
set_option maxRecDepth 100000 in
theorem Copy_nil (w : World) : Calls Tryd.prog 14 #[.pointer none] w fun e w' => e = .returned (.pointer none) ∧ w' = w := by
  go_enter Tryd.func14, Tryd.ntmps14
  go_wp2
  go_ret
  exact ⟨rfl, rfl⟩
set_option maxRecDepth 100000 in
theorem Own_nil (w : World) : Calls Tryd.prog 19 #[.pointer none] w fun e w' => e = .returned (.slice none 0 0) ∧ w' = w := by
  go_enter Tryd.func19, Tryd.ntmps19
  go_wp2
  go_ret
  exact ⟨rfl, rfl⟩
set_option maxRecDepth 100000 in
theorem Own_any {w : World} {g : Nat} {v : Value} {mv : Option Nat} {l : List ByteArray} (hT : TbAt w g v mv l) : Calls Tryd.prog 19 #[.pointer (some ⟨g, 0, none⟩)] w fun e w' => ∃ v', e = .returned v' ∧ w'.ownsRow 0 9 1 v' l.length (l.map .string) ∧ Below w.heap.size w w' ∧ ∀ x, v'.ownBlock = some x → w.heap.size ≤ x := by
  have HC := hide (SClone_any hT.row hT.own.few)
  have hc : w.cell? ⟨g, 0, none⟩ = some v := (row_reads hT.hd).1 0
  obtain ⟨a, c, rfl⟩ := row_val hT.row
  clear hT
  go_enter Tryd.func19, Tryd.ntmps19
  go_wp2_with (go_at_call 22; refine HC.out.mono ?_; rintro e_ w1 ⟨v1, rfl, hv1⟩; obtain ⟨a1, c1, rfl⟩ := row_val hv1.1)
  go_ret
  exact ⟨_, rfl, hv1⟩
theorem copy_end {w w3 : World} {v2 : Value} {mv2 : Option Nat} {l : List ByteArray} (HO : Own l) (B : Below w.heap.size w w3) (h : w3.ownsRow 0 9 1 v2 l.length (l.map .string)) (hn : ∀ x, v2.ownBlock = some x → w.heap.size ≤ x) (k : MpAt w3 mv2 l) (kn : ∀ x, mv2 = some x → w.heap.size ≤ x) :
    ∃ g' v' mv', Ending.returned (.pointer (some ⟨w3.heap.size, 0, none⟩)) = .returned (.pointer (some ⟨g', 0, none⟩)) ∧ TbAt (w3.alloc (.cells #[v2, .map mv2] 45)) g' v' mv' l ∧ Below w.heap.size w (w3.alloc (.cells #[v2, .map mv2] 45)) ∧ ∀ x ∈ bls g' v' mv', w.heap.size ≤ x := by
  have b := alloc_below w3 (.cells #[v2, .map mv2] 45)
  refine ⟨w3.heap.size, v2, mv2, rfl, ⟨HO, heap_alloc_new w3 _, row_kp h (Kp.of_below (S := []) b) (by simp), k.kp (Kp.of_below (S := []) b) (by simp)⟩, Below.chain B b, fun x hx => ?_⟩
  rcases mem_bls.1 hx with rfl | hx | hx
  · exact B.size
  · exact hn x hx
  · exact kn x hx
set_option maxRecDepth 100000 in
set_option maxHeartbeats 1000000 in
theorem Copy_any {w : World} {g : Nat} {v : Value} {mv : Option Nat} {l : List ByteArray} (hT : TbAt w g v mv l) : Calls Tryd.prog 14 #[.pointer (some ⟨g, 0, none⟩)] w fun e w' => ∃ g' v' mv', e = .returned (.pointer (some ⟨g', 0, none⟩)) ∧ TbAt w' g' v' mv' l ∧ Below w.heap.size w w' ∧ ∀ x ∈ bls g' v' mv', w.heap.size ≤ x := by
  have hg : g < w.heap.size := (Array.getElem?_eq_some_iff.1 hT.hd).1
  have hc : w.cell? ⟨g, 0, none⟩ = some v := (row_reads hT.hd).1 0
  have hc1 : w.cell? ⟨g, 1, none⟩ = some (.map mv) := (row_reads hT.hd).1 1
  obtain ⟨a, c, rfl⟩ := row_val hT.row
  have HG : Hid (∀ W, Below w.heap.size w W → W.cell? ⟨g, 0, none⟩ = some (.slice a l.length c) ∧ W.cell? ⟨g, 1, none⟩ = some (.map mv)) := ⟨fun W B => ⟨(Below.cell (p := ⟨g, 0, none⟩) B hg).trans hc, (Below.cell (p := ⟨g, 1, none⟩) B hg).trans hc1⟩⟩
  have HS : Hid (∀ W, Below w.heap.size w W → Calls Tryd.prog 22 #[.slice a l.length c] W fun e w' => ∃ v', e = .returned v' ∧ w'.ownsRow 0 9 1 v' l.length (l.map .string) ∧ Below W.heap.size W w' ∧ ∀ x, v'.ownBlock = some x → W.heap.size ≤ x) := ⟨fun W B => SClone_any (row_kp hT.row (Kp.of_below (S := []) B) (by simp)) hT.own.few⟩
  have HM : Hid (∀ W, Below w.heap.size w W → Calls Tryd.prog 23 #[.map mv] W fun e w' => ∃ mv', e = .returned (.map mv') ∧ MpAt w' mv' l ∧ Below W.heap.size W w' ∧ ∀ x, mv' = some x → W.heap.size ≤ x) := ⟨fun W B => MClone_any (hT.mp.kp (Kp.of_below (S := []) B) (by simp))⟩
  have HO := hide hT.own
  clear hT hg
  go_enter Tryd.func14, Tryd.ntmps14
  go_wp2_with fail
  go_region_with (first
    | (go_at_call 22; with_reducible refine (HS.out _ (by first | exact B5 | exact Below.drew (Below.refl _ _))).mono ?_; rintro e_ w3 ⟨sv, rfl, h1, h2, h3⟩; obtain ⟨a1, c1, rfl⟩ := row_val h1; have B5 : Below w.heap.size w w3 := (by first | exact Below.chain B5 h2 | exact Below.chain (Below.drew (Below.refl _ _)) h2); obtain ⟨z0, z1⟩ := HG.out _ B5)
    | (go_at_call 23; with_reducible refine (HM.out _ (by first | exact B5 | exact Below.drew (Below.refl _ _))).mono ?_; rintro e_ w3 ⟨mv2, rfl, k1, k2, k3⟩; have B5 : Below w.heap.size w w3 := (by first | exact Below.chain B5 k2 | exact Below.chain (Below.drew (Below.refl _ _)) k2); obtain ⟨z0, z1⟩ := HG.out _ B5))
  all_goals
    go_wp2
    go_ret
    first
    | exact copy_end HO.out B5 (row_kp h1 (Kp.of_below (S := []) k2) (by simp)) h3 k1 (fun x hx => Nat.le_trans h2.size (k3 x hx))
    | exact copy_end HO.out B5 h1 (fun x hx => Nat.le_trans k2.size (h3 x hx)) (k1.kp (Kp.of_below (S := []) h2) (by simp)) k3
end Go.Proofs.YtcmalffpahkleaaDoor
