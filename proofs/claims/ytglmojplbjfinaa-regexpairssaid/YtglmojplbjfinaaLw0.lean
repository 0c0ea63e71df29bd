/- The pattern that each program must know: the law's call. -/
import Derived.Test.YtglmojplbjfinaaRx12
namespace Go.Proofs.Ytglmojplbjfinaa
open Go.RowKit
theorem comp_awake : comp (bl ⟨#[97, 42]⟩) = .ok [splitI 1 3, onlyI 97, jumpI (-2), stepI 6] [] := by
  rw [show bl ⟨#[97, 42]⟩ = [97, 42] from rfl]
  rfl
theorem pl_awake : plF 0 [splitI 1 3, onlyI 97, jumpI (-2), stepI 6] = [⟨2, zs, 1, 3⟩, onlyI 97, ⟨3, zs, 0, 0⟩, stepI 6] := by kernel_rfl
/-- A call that answers v: what was there stays. -/
abbrev Says (f : FuncId) (args : Array Value) (v : Value) : Prop := ∀ w : World, Calls Try.prog f args w fun e w' => e = .returned v ∧ Below w.heap.size w w'
set_option maxRecDepth 100000 in
set_option maxHeartbeats 1000000 in
theorem awake_any : Says 7 #[] (.bool true) := by
  intro w
  go_enter Try.func7, Try.ntmps7
  go_wp2_with fail
  have HC := Compile_any ⟨#[97, 42]⟩ (w := w)
  rw [comp_awake] at HC
  refine HC.mono ?_
  rintro e_ w1 ⟨⟨v, rfl, h1⟩, b1⟩
  rw [pl_awake] at h1
  obtain ⟨g, cap, rfl, hc1, hc2, hg, hr⟩ := h1
  have r0 : w1.cell? ⟨g, 0, none⟩ = some (.int .i64 2) := hr 0 _ rfl 0 (by decide)
  have r1 : w1.cell? ⟨g, 6, none⟩ = some (.int .i64 3) := hr 0 _ rfl 6 (by decide)
  have r2 : w1.cell? ⟨g, 14, none⟩ = some (.int .i64 3) := hr 2 _ rfl 0 (by decide)
  have r3 : w1.cell? ⟨g, 21, none⟩ = some (.int .i64 6) := hr 3 _ rfl 0 (by decide)
  have HB := hide b1
  clear hr b1 HC
  rw [show ([⟨2, zs, 1, 3⟩, onlyI 97, ⟨3, zs, 0, 0⟩, stepI 6] : List In).length = 4 from rfl] at *
  go_wp2
  go_ret
  exact ⟨rfl, HB.out⟩

end Go.Proofs.Ytglmojplbjfinaa
