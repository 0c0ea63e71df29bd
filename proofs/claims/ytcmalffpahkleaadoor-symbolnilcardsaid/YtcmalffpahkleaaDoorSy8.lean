/- The law SymbolNil: a table that there isn't. -/
import Derived.Test.YtcmalffpahkleaaDoorSy7
namespace Go.Proofs.YtcmalffpahkleaaDoor
open Go.RowKit
set_option maxRecDepth 100000 in
set_option maxHeartbeats 1000000 in
theorem SymbolNil_any {w : World} (hk : KnAt w) (d n : Int) (s : ByteArray) (a : Option Addr) (k c : Nat) : Calls Tryd.prog 4 #[.agg #[.int .i64 d, .int .i64 n, .string s, .slice a k c]] w fun e w' => e = .returned (.bool true) ∧ Below w.heap.size w w' := by
  have B := hide (alloc_below w (.cells #[.int .i64 d, .int .i64 n, .string s, .slice a k c] 32))
  have HA := hide (awake_any (hk.ext B.out))
  clear hk
  go_enter Tryd.func4, Tryd.ntmps4
  go_wp2_with (first
    | (go_at_call 16; refine (Number_nil _ _).mono ?_; rintro e_ w1 ⟨rfl, rfl⟩)
    | (go_at_call 10; refine (Text_nil _ _).mono ?_; rintro e_ w1 ⟨rfl, rfl⟩)
    | (go_at_call 19; refine (Own_nil _).mono ?_; rintro e_ w1 ⟨rfl, rfl⟩)
    | (go_at_call 12; refine (Add_nil _ _).mono ?_; rintro e_ w1 ⟨rfl, rfl⟩)
    | (go_at_call 14; refine (Copy_nil _).mono ?_; rintro e_ w1 ⟨rfl, rfl⟩)
    | (go_at_call 8; refine HA.out.mono ?_; rintro e_ w1 ⟨rfl, b1⟩))
  go_ret
  exact ⟨rfl, Below.chain B.out b1⟩
end Go.Proofs.YtcmalffpahkleaaDoor
