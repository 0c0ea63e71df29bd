/- FieldBytes, whatever the bytes' length. -/
import Derived.Test.YtbaionconnhdiaaByteLaw
namespace Go.Proofs.Ytbaionconnhdiaa
open Go.RowKit
set_option maxHeartbeats 1000000 in
theorem fieldBytes_walk (u : Value) (bs : List Nat) (w : World) (h1 : BsAt w u bs) :
    Calls Try.prog 3 #[u] w fun e w' => e = .returned (.bool true) ∧ Below w.heap.size w w' := by
  by_cases hl1 : bs.length ≤ 100
  · exact fieldBytes_any u bs w h1 hl1
  · obtain ⟨a0, c0, rfl, _, hm0⟩ := h1.len
    have d1 : decide ((100 : Int) < (bs.length : Int)) = true := decide_eq_true (by omega)
    clear h1 hl1
    go_enter Try.func3, Try.ntmps3
    go_wp2_with fail
    refine (awake_any _).mono ?_
    rintro e w1 ⟨rfl, b1⟩
    go_wp2
    go_ret
    exact ⟨rfl, b1⟩
end Go.Proofs.Ytbaionconnhdiaa
