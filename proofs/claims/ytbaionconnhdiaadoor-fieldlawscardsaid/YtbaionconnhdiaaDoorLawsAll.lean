/- FieldLaws, whatever the bytes' lengths. -/
import Derived.Test.YtbaionconnhdiaaDoorLaws
namespace Go.Proofs.YtbaionconnhdiaaDoor
open Go.RowKit
set_option maxHeartbeats 1000000 in
theorem fieldLaws_walk (u v t : Value) (bs cs ds : List Nat) (w : World) (LD : Laid w) (h1 : BsAt w u bs) (h2 : BsAt w v cs) (h3 : BsAt w t ds) :
    Calls Tryd.prog 4 #[u, v, t] w fun e w' => e = .returned (.bool true) ∧ Below w.heap.size w w' := by
  by_cases hl1 : bs.length ≤ 100
  · by_cases hl2 : cs.length ≤ 100
    · by_cases hl3 : ds.length ≤ 100
      · exact fieldLaws_any u v t bs cs ds w LD h1 h2 h3 hl1 hl2 hl3
      · obtain ⟨a0, c0, rfl, _, hm0⟩ := h1.len
        obtain ⟨a1, c1, rfl, _, hm1⟩ := h2.len
        obtain ⟨a2, c2, rfl, _, hm2⟩ := h3.len
        have d1 : decide ((100 : Int) < (bs.length : Int)) = false := decide_eq_false (by omega)
        have d2 : decide ((100 : Int) < (cs.length : Int)) = false := decide_eq_false (by omega)
        have d3 : decide ((100 : Int) < (ds.length : Int)) = true := decide_eq_true (by omega)
        clear h1 h2 h3 hl1 hl2 hl3
        go_enter Tryd.func4, Tryd.ntmps4
        go_wp2_with fail
        refine (awake_any _).mono ?_
        rintro e w1 ⟨rfl, b1⟩
        go_wp2
        go_ret
        exact ⟨rfl, b1⟩
    · obtain ⟨a0, c0, rfl, _, hm0⟩ := h1.len
      obtain ⟨a1, c1, rfl, _, hm1⟩ := h2.len
      obtain ⟨a2, c2, rfl, _, hm2⟩ := h3.len
      have d1 : decide ((100 : Int) < (bs.length : Int)) = false := decide_eq_false (by omega)
      have d2 : decide ((100 : Int) < (cs.length : Int)) = true := decide_eq_true (by omega)
      clear h1 h2 h3 hl1 hl2
      go_enter Tryd.func4, Tryd.ntmps4
      go_wp2_with fail
      refine (awake_any _).mono ?_
      rintro e w1 ⟨rfl, b1⟩
      go_wp2
      go_ret
      exact ⟨rfl, b1⟩
  · obtain ⟨a0, c0, rfl, _, hm0⟩ := h1.len
    obtain ⟨a1, c1, rfl, _, hm1⟩ := h2.len
    obtain ⟨a2, c2, rfl, _, hm2⟩ := h3.len
    have d1 : decide ((100 : Int) < (bs.length : Int)) = true := decide_eq_true (by omega)
    clear h1 h2 h3 hl1
    go_enter Tryd.func4, Tryd.ntmps4
    go_wp2_with fail
    refine (awake_any _).mono ?_
    rintro e w1 ⟨rfl, b1⟩
    go_wp2
    go_ret
    exact ⟨rfl, b1⟩
end Go.Proofs.YtbaionconnhdiaaDoor
