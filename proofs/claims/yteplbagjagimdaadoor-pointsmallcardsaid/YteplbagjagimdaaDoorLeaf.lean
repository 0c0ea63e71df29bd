/- The leaves of the field: sums, differences and products of words, as the program's calls answer them, in any world, for all words. -/
import Derived.Test.YteplbagjagimdaaDoorRows
import Derived.Test.YteplbagjagimdaaDoorDigits
import Derived.WalkKit
import Derived.WalkSpells
import Derived.WalkLawsBesides
import Derived.Laws.Externs
import Derived.Shelf.Spec.BitsCarry
import Derived.Shelf.Bits.Mul64
namespace Go.Proofs.YteplbagjagimdaaDoor
open Go.RowKit
theorem add64_nat (x y c : Nat) (hc : c ≤ 1) (w : World) : (callFunc 85 #[.int .u64 (x : Int), .int .u64 (y : Int), .int .u64 (c : Int)]).run Tryd.prog w =
    .ok (.value (.tuple #[.int .u64 (((x + y + c) % 18446744073709551616 : Nat) : Int), .int .u64 (((x + y + c) / 18446744073709551616 : Nat) : Int)])) w := by
  rw [run_callFunc_extern Tryd.func85 (by kernel_rfl) (by kernel_rfl) (by kernel_rfl) (e := add64Entry) (by kernel_rfl), run_add64 x y c (by omega) (by omega) (by omega) (by omega)]
  simp only [Result.andThen]
  congr 5 <;> omega
theorem sub64_nat (x y b : Nat) (hb : b ≤ 1) (w : World) : (callFunc 82 #[.int .u64 (x : Int), .int .u64 (y : Int), .int .u64 (b : Int)]).run Tryd.prog w =
    .ok (.value (.tuple #[.int .u64 (((x + 18446744073709551616 - y - b) % 18446744073709551616 : Nat) : Int), .int .u64 ((if x < y + b then 1 else 0 : Nat) : Int)])) w := by
  rw [run_callFunc_extern Tryd.func82 (by kernel_rfl) (by kernel_rfl) (by kernel_rfl) (e := sub64Entry) (by kernel_rfl), run_sub64 x y b hb]
  rfl
set_option maxHeartbeats 1000000 in
theorem mul64_any (x y : Nat) (hx : x < 18446744073709551616) (hy : y < 18446744073709551616) (w : World) :
    Calls Tryd.prog 88 #[.int .u64 x, .int .u64 y] w fun e w' => e = .returned (.tuple #[.int .u64 ((x * y / 18446744073709551616 : Nat) : Int), .int .u64 ((x * y % 18446744073709551616 : Nat) : Int)]) ∧ w' = w := by
  obtain ⟨bd, bt, bw, hhi⟩ := Lib.mul64_hi x y hx hy
  have ba := Lib.half_mul_le (a := x / 4294967296) (b := y / 4294967296) (by omega) (by omega)
  have bb := Lib.half_mul_le (a := x / 4294967296) (b := y % 4294967296) (by omega) (by omega)
  have bc := Lib.half_mul_le (a := x % 4294967296) (b := y / 4294967296) (by omega) (by omega)
  have ba' : x / 4294967296 * (y / 4294967296) < 18446744073709551616 := by omega
  have bb' : x / 4294967296 * (y % 4294967296) < 18446744073709551616 := by omega
  have bc' : x % 4294967296 * (y / 4294967296) < 18446744073709551616 := by omega
  have bh1 : x / 4294967296 * (y / 4294967296) + (x / 4294967296 * (y % 4294967296) + x % 4294967296 * (y % 4294967296) / 4294967296) / 4294967296 < 18446744073709551616 := by omega
  have bh : x / 4294967296 * (y / 4294967296) + (x / 4294967296 * (y % 4294967296) + x % 4294967296 * (y % 4294967296) / 4294967296) / 4294967296 + ((x / 4294967296 * (y % 4294967296) + x % 4294967296 * (y % 4294967296) / 4294967296) % 4294967296 + x % 4294967296 * (y / 4294967296)) / 4294967296 < 18446744073709551616 := by omega
  go_enter Tryd.func88, Tryd.ntmps88
  go_wp2
  simp only [Mul64.maskN x hx, Mul64.maskN y hy, Mul64.divN, Mul64.mulN, Mul64.addN, Mul64.wrapN _ bd, Mul64.wrapN _ bb', Mul64.wrapN _ bt, Mul64.maskN _ bt, Mul64.wrapN _ bc', Mul64.wrapN _ bw, Mul64.wrapN _ ba', Mul64.wrapN _ bh1, Mul64.wrapN _ bh, Mul64.wrapM (x * y)]
  rw [hhi]
  go_ret2
  exact ⟨rfl, rfl⟩
theorem u64_wrap (a : Nat) (ha : a < 18446744073709551616) : IntKind.u64.wrap (a : Int) = (a : Int) := by rw [IntKind.wrap_u64]; omega
theorem add64_int (x y c : Int) (hx : 0 ≤ x) (hy : 0 ≤ y) (hc0 : 0 ≤ c) (hc : c ≤ 1) (w : World) : (callFunc 85 #[.int .u64 x, .int .u64 y, .int .u64 c]).run Tryd.prog w =
    .ok (.value (.tuple #[.int .u64 ((x + y + c) % 18446744073709551616), .int .u64 ((x + y + c) / 18446744073709551616)])) w := by
  rw [run_callFunc_extern Tryd.func85 (by kernel_rfl) (by kernel_rfl) (by kernel_rfl) (e := add64Entry) (by kernel_rfl), run_add64 x y c hx hy hc0 hc]
  rfl
theorem add64_zero (x y : Int) (hx : 0 ≤ x) (hy : 0 ≤ y) (w : World) : (callFunc 85 #[.int .u64 x, .int .u64 y, .int .u64 0]).run Tryd.prog w =
    .ok (.value (.tuple #[.int .u64 ((x + y) % 18446744073709551616), .int .u64 ((x + y) / 18446744073709551616)])) w := by
  simpa using add64_int x y 0 hx hy (Int.le_refl 0) (by decide) w
theorem ret2 {v1 v2 u1 u2 : Value} (h1 : v1 = u1) (h2 : v2 = u2) : Ending.returned (.tuple #[v1, v2]) = .returned (.tuple #[u1, u2]) := by rw [h1, h2]
theorem mad_num (p m n : Nat) (h : p + m + n < 340282366920938463463374607431768211456) :
    IntKind.u64.wrap (IntKind.u64.wrap (((p / 18446744073709551616 : Nat) : Int) + (((p % 18446744073709551616 : Nat) : Int) + m) / 18446744073709551616) + ((((p % 18446744073709551616 : Nat) : Int) + m) % 18446744073709551616 + n) / 18446744073709551616) = (((p + m + n) / 18446744073709551616 : Nat) : Int)
    ∧ (((p % 18446744073709551616 : Nat) : Int) + m + n) % 18446744073709551616 = (((p + m + n) % 18446744073709551616 : Nat) : Int) := by
  simp only [IntKind.wrap_u64]; omega
set_option maxHeartbeats 1000000 in
theorem mad_any (x y m n : Nat) (hx : x < 18446744073709551616) (hy : y < 18446744073709551616) (hm : m < 18446744073709551616) (hn : n < 18446744073709551616) (w : World) :
    Calls Tryd.prog 84 #[.int .u64 x, .int .u64 y, .int .u64 m, .int .u64 n] w fun e w' => e = .returned (.tuple #[.int .u64 (((x * y + m + n) / 18446744073709551616 : Nat) : Int), .int .u64 (((x * y + m + n) % 18446744073709551616 : Nat) : Int)]) ∧ w' = w := by
  have hw := word_mul hx hy hm hn
  have HN : Hid _ := mad_num (x * y) m n hw
  clear hw
  go_enter Tryd.func84, Tryd.ntmps84
  go_wp2_with fail
  refine (mul64_any x y hx hy _).mono ?_
  rintro e w' ⟨rfl, rfl⟩
  generalize hp : x * y = p at *
  generalize hq : p / 18446744073709551616 = q at *
  generalize hr : p % 18446744073709551616 = r at *
  have h1 : (0 : Int) ≤ (r : Int) := by omega
  have h2 : (0 : Int) ≤ (m : Int) := by omega
  have h3 : (0 : Int) ≤ (n : Int) := by omega
  have h4 : (0 : Int) ≤ ((r : Int) + m) % 18446744073709551616 := by omega
  have HP : Hid _ := hp
  have HQ : Hid _ := hq
  have HR : Hid _ := hr
  clear hp hq hr
  go_wp2_with (first | simp only [add64_zero _ _ h1 h2] | simp only [add64_zero _ _ h4 h3])
  go_ret2
  obtain ⟨e1, e2⟩ := HN.out
  rw [HP.out]
  exact ⟨ret2 (congrArg (Value.int .u64) e1) (congrArg (Value.int .u64) e2), rfl⟩
theorem mad_zero (x y m : Nat) (hx : x < 18446744073709551616) (hy : y < 18446744073709551616) (hm : m < 18446744073709551616) (w : World) :
    Calls Tryd.prog 84 #[.int .u64 x, .int .u64 y, .int .u64 m, .int .u64 0] w fun e w' => e = .returned (.tuple #[.int .u64 (((x * y + m) / 18446744073709551616 : Nat) : Int), .int .u64 (((x * y + m) % 18446744073709551616 : Nat) : Int)]) ∧ w' = w :=
  mad_any x y m 0 hx hy hm (by decide) w
end Go.Proofs.YteplbagjagimdaaDoor
