/- One by a number, as the program's call answers it, in any world where the exponent lies as the program's text lays it. -/
import Derived.Test.YtbaionconnhdiaaDoorPower2
namespace Go.Proofs.YtbaionconnhdiaaDoor
open Go.RowKit
/-- The exponent as the program's text lays it. -/
def exw : List Nat := [18446744073709551595, 18446744073709551615, 18446744073709551615, 9223372036854775807]
theorem exw_lim : lim exw := lim4_mk (by decide)
theorem exw_val : val exw = ex := by decide +kernel
/-- The exponent lies where the program's variable is. -/
structure Laid (w : World) : Prop where
  cell : ∀ i, i < 4 → w.cell? ⟨0, i, none⟩ = some (.int .u64 ((exw.getD i 0 : Nat) : Int))
  lt : 0 < w.heap.size
theorem Laid.step {w w' : World} (h : Laid w) (k : Below w.heap.size w w') : Laid w' :=
  ⟨fun i hi => (Below.cell (p := ⟨0, i, none⟩) k h.lt).trans (h.cell i hi), Nat.lt_of_lt_of_le h.lt k.size⟩
theorem Laid.drew {w : World} (h : Laid w) : Laid w.drew := ⟨h.cell, h.lt⟩
set_option maxRecDepth 100000 in
set_option maxHeartbeats 1000000 in
theorem inv_any (x : Nat) (hx : x < pp) (w : World) (hL : Laid w) :
    Calls Tryd.prog 17 #[.agg (el x)] w fun e w' => e = .returned (.agg (el (pw x ex))) ∧ Below w.heap.size w w' := by
  have hpow := power_any x hx exw rfl exw_lim
  rw [exw_val] at hpow
  obtain ⟨a, b, c, d, he⟩ : ∃ a b c d : Nat, el x = #[.int .u64 (a : Int), .int .u64 (b : Int), .int .u64 (c : Int), .int .u64 (d : Int)] := ⟨_, _, _, _, rfl⟩
  obtain ⟨r, s, t, u, hr⟩ : ∃ a b c d : Nat, el (pw x ex) = #[.int .u64 (a : Int), .int .u64 (b : Int), .int .u64 (c : Int), .int .u64 (d : Int)] := ⟨_, _, _, _, rfl⟩
  rw [hr] at hpow ⊢
  rw [he] at hpow ⊢
  have HC : Hid (∀ W : World, Calls Tryd.prog 34 #[.agg #[.int .u64 (a : Int), .int .u64 (b : Int), .int .u64 (c : Int), .int .u64 (d : Int)], .agg #[.int .u64 18446744073709551595, .int .u64 18446744073709551615, .int .u64 18446744073709551615, .int .u64 9223372036854775807]] W fun e w' => e = .returned (.agg #[.int .u64 (r : Int), .int .u64 (s : Int), .int .u64 (t : Int), .int .u64 (u : Int)]) ∧ Below W.heap.size W w') := hpow
  have c0 : w.cell? ⟨0, 0, none⟩ = some (.int .u64 18446744073709551595) := hL.cell 0 (by decide)
  have c1 : w.cell? ⟨0, 1, none⟩ = some (.int .u64 18446744073709551615) := hL.cell 1 (by decide)
  have c2 : w.cell? ⟨0, 2, none⟩ = some (.int .u64 18446744073709551615) := hL.cell 2 (by decide)
  have c3 : w.cell? ⟨0, 3, none⟩ = some (.int .u64 9223372036854775807) := hL.cell 3 (by decide)
  have hlt := hL.lt
  clear he hr hx hpow hL
  go_enter Tryd.func17, Tryd.ntmps17
  go_wp2_with fail
  refine (HC.out _).mono ?_
  rintro e w1 ⟨rfl, hb1⟩
  have HB1 := hide ((below2 _ _ _).trans (hb1.mono (by simp; omega)))
  have HO1 := hide (Below.heap hb1 (g := w.heap.size + 1) (by simp) (heap2_1 _ _ _))
  obtain ⟨x2, y2⟩ := row_reads HO1.out
  clear hb1 c0 c1 c2 c3
  go_wp2
  exact bodyPost_ret_by (results_cell_row rfl _ _ (w.heap.size + 1) 29 _ (0, 0) _ rfl (set4_row HO1.out) Tryd.underlying29 rfl (by kernel_rfl)) rfl ⟨rfl, Below.set4 HB1.out (by omega) _ _ _ _⟩
theorem inv_gen {A : Array Value} {x : Nat} {w : World} (hA : A = el x) (hx : x < pp) (hL : Laid w) : Calls Tryd.prog 17 #[.agg A] w fun e w' => e = .returned (.agg (el (pw x ex))) ∧ Below w.heap.size w w' := by
  subst hA; exact inv_any x hx w hL
end Go.Proofs.YtbaionconnhdiaaDoor
