/- FieldForms, whatever the bytes' lengths and the number. -/
import Derived.Test.YtbaionconnhdiaaDoorForms
namespace Go.Proofs.YtbaionconnhdiaaDoor
open Go.RowKit
theorem word_of_wf {x : Int} (h : (Lit.int .u32 x).wf = true) : ∃ n : Nat, x = (n : Int) ∧ n < 4294967296 := by
  simp [Lit.wf, IntKind.min, IntKind.max, IntKind.signed, IntKind.bits] at h
  exact ⟨x.toNat, by omega, by omega⟩
set_option maxHeartbeats 1000000 in
theorem fieldForms_walk (u v : Value) (N : Int) (hN : (Lit.int .u32 N).wf = true) (bs cs : List Nat) (w : World) (LD : Laid w) (h1 : BsAt w u bs) (h2 : BsAt w v cs) :
    Calls Tryd.prog 3 #[u, v, .int .u32 N] w fun e w' => e = .returned (.bool true) ∧ Below w.heap.size w w' := by
  obtain ⟨n, rfl, hn⟩ := word_of_wf hN
  by_cases hl1 : bs.length ≤ 100
  · by_cases hl2 : cs.length ≤ 100
    · exact fieldForms_any u v n hn bs cs w LD h1 h2 hl1 hl2
    · obtain ⟨a0, c0, rfl, _, hm0⟩ := h1.len
      obtain ⟨a1, c1, rfl, _, hm1⟩ := h2.len
      have d1 : decide ((100 : Int) < (bs.length : Int)) = false := decide_eq_false (by omega)
      have d2 : decide ((100 : Int) < (cs.length : Int)) = true := decide_eq_true (by omega)
      clear h1 h2 hl1 hl2
      go_enter Tryd.func3, Tryd.ntmps3
      go_wp2_with fail
      refine (awake_any _).mono ?_
      rintro e w1 ⟨rfl, b1⟩
      go_wp2
      go_ret
      exact ⟨rfl, b1⟩
  · obtain ⟨a0, c0, rfl, _, hm0⟩ := h1.len
    obtain ⟨a1, c1, rfl, _, hm1⟩ := h2.len
    have d1 : decide ((100 : Int) < (bs.length : Int)) = true := decide_eq_true (by omega)
    clear h1 h2 hl1
    go_enter Tryd.func3, Tryd.ntmps3
    go_wp2_with fail
    refine (awake_any _).mono ?_
    rintro e w1 ⟨rfl, b1⟩
    go_wp2
    go_ret
    exact ⟨rfl, b1⟩
end Go.Proofs.YtbaionconnhdiaaDoor
