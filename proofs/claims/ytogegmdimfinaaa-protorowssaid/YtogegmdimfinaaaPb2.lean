/- Numbers with signs as numbers without, and back, as the program's calls and the page's calls answer them. -/
import Derived.Test.YtogegmdimfinaaaPb1
namespace Go.Proofs.Ytogegmdimfinaaa
open Go.RowKit
/-- A sign behind. -/
def zig (m : Int) : Nat := if m < 0 then (-2 * m - 1).toNat else (2 * m).toNat
def zag (n : Nat) : Int := if n % 2 = 1 then -((n / 2 : Nat) : Int) - 1 else ((n / 2 : Nat) : Int)
theorem zag_zig (m : Int) : zag (zig m) = m := by
  unfold zag zig
  split <;> split <;> omega
theorem zig_zag (n : Nat) : zig (zag n) = n := by
  unfold zag zig
  split <;> split <;> omega
theorem zig_odd (m : Int) : zig m % 2 = if m < 0 then 1 else 0 := by
  unfold zig
  split <;> omega
theorem zig_lt {m : Int} (h1 : -9223372036854775808 ≤ m) (h2 : m ≤ 9223372036854775807) : zig m < 18446744073709551616 := by
  unfold zig
  split <;> omega
theorem zag_in {n : Nat} (h : n < 18446744073709551616) : -9223372036854775808 ≤ zag n ∧ zag n ≤ 9223372036854775807 := by
  unfold zag
  split <;> omega
theorem bits_x (k : IntKind) (hk : k.bits = 64) (a b : Int) : bits .xor k a b = k.wrap ((BitVec.ofInt 64 a ^^^ BitVec.ofInt 64 b).toNat : Int) := by
  cases k <;> first | rfl | exact absurd hk (by decide)
theorem ones_xor (b : Int) : ((BitVec.ofInt 64 (-1) ^^^ BitVec.ofInt 64 b).toNat : Int) = 18446744073709551615 - b % 18446744073709551616 := by
  rw [show BitVec.ofInt 64 (-1) = BitVec.allOnes 64 by decide, BitVec.allOnes_xor, BitVec.toNat_not, BitVec.toNat_ofInt]
  omega
theorem zero_xor (b : Int) : ((BitVec.ofInt 64 b ^^^ BitVec.ofInt 64 0).toNat : Int) = b % 18446744073709551616 := by
  rw [show BitVec.ofInt 64 0 = 0#64 by decide, BitVec.xor_zero, BitVec.toNat_ofInt]
  omega
theorem not64 (m : Int) (h1 : -9223372036854775808 ≤ m) (h2 : m ≤ 9223372036854775807) : bits .xor .i64 (-1) m = -m - 1 := by
  rw [bits_x _ rfl, ones_xor, IntKind.wrap_i64]
  omega
theorem ofInt_ones : BitVec.ofInt 64 18446744073709551615 = BitVec.ofInt 64 (-1) := by decide
theorem or1 (z : Nat) (h : z < 18446744073709551616) (he : z % 2 = 0) : bits .or .u64 (z : Int) 1 = ((z + 1 : Nat) : Int) := by
  have := bits_or_u64_nat z 1 h (by omega)
  have e : z ||| 1 = z + 1 := by
    have h2 := Nat.two_pow_add_eq_or_of_lt (i := 1) (b := 1) (by decide) (z / 2)
    rw [show 2 ^ 1 * (z / 2) = z by omega] at h2
    exact h2.symm
  rw [e] at this
  exact this
theorem and1 (n : Nat) (h : n < 18446744073709551616) : bits .and .u64 (n : Int) 1 = ((n % 2 : Nat) : Int) := by
  have := bits_and_u64_nat n 1 h (by omega)
  rw [show n &&& 1 = n % 2 from Nat.and_two_pow_sub_one_eq_mod n 1] at this
  exact this
set_option maxRecDepth 100000 in
theorem zig_w (m : Int) (w : World) (h1 : -9223372036854775808 ≤ m) (h2 : m ≤ 9223372036854775807) : Calls Try.prog 18 #[.int .i64 m] w fun e w' => e = .returned (.int .u64 (zig m : Nat)) ∧ w' = w := by
  obtain ⟨z, hz⟩ : ∃ z, zig m = z := ⟨_, rfl⟩
  rw [hz]
  unfold zig at hz
  by_cases hlt : m < 0
  · have hd : decide (m < 0) = true := decide_eq_true hlt
    rw [if_pos hlt] at hz
    have e1 := not64 m h1 h2
    have e2 : IntKind.u64.wrap (-m - 1) = -m - 1 := by rw [IntKind.wrap_u64]; omega
    have e3 : IntKind.u64.wrap ((-m - 1) * 2) = ((z - 1 : Nat) : Int) := by rw [IntKind.wrap_u64]; omega
    have e4 := or1 (z - 1) (by omega) (by omega)
    rw [show z - 1 + 1 = z by omega] at e4
    clear hz
    go_enter Try.func18, Try.ntmps18
    go_wp2
    go_ret
    exact ⟨rfl, rfl⟩
  · have hd : decide (m < 0) = false := decide_eq_false hlt
    rw [if_neg hlt] at hz
    have e2 : IntKind.u64.wrap m = m := by rw [IntKind.wrap_u64]; omega
    have e3 : IntKind.u64.wrap (m * 2) = (z : Int) := by rw [IntKind.wrap_u64]; omega
    clear hz
    go_enter Try.func18, Try.ntmps18
    go_wp2
    go_ret
    refine ⟨congrArg (fun x => Ending.returned (.int .u64 x)) ?_, rfl⟩
    first | rfl | exact e3 | (rw [IntKind.wrap_u64] at e3; omega)
set_option maxRecDepth 100000 in
theorem zig_r (m : Int) (w : World) (h1 : -9223372036854775808 ≤ m) (h2 : m ≤ 9223372036854775807) : Calls Try.prog 19 #[.int .i64 m] w fun e w' => e = .returned (.int .u64 (zig m : Nat)) ∧ w' = w := by
  have key : bits BinOp.xor IntKind.u64 (IntKind.u64.wrap (wrap64 (m * 2))) (IntKind.u64.wrap (m / 9223372036854775808)) = (zig m : Int) := by
    have hw : wrap64 (m * 2) % 18446744073709551616 = m * 2 % 18446744073709551616 := by unfold wrap64; omega
    unfold zig
    by_cases hlt : m < 0
    · rw [if_pos hlt, show m / 9223372036854775808 = -1 by omega, show IntKind.u64.wrap (-1) = 18446744073709551615 by decide, bits_x _ rfl, ofInt_ones, BitVec.xor_comm, ones_xor, IntKind.wrap_u64, IntKind.wrap_u64]
      omega
    · rw [if_neg hlt, show m / 9223372036854775808 = 0 by omega, show IntKind.u64.wrap 0 = 0 by decide, bits_x _ rfl, zero_xor, IntKind.wrap_u64, IntKind.wrap_u64]
      omega
  have HK := hide key
  clear key
  go_enter Try.func19, Try.ntmps19
  go_wp2
  go_ret
  exact ⟨congrArg (fun x => Ending.returned (.int .u64 x)) HK.out, rfl⟩
set_option maxRecDepth 100000 in
theorem zag_w (n : Nat) (w : World) (h1 : n < 18446744073709551616) : Calls Try.prog 20 #[.int .u64 (n : Int)] w fun e w' => e = .returned (.int .i64 (zag n)) ∧ w' = w := by
  obtain ⟨z, hz⟩ : ∃ z, zag n = z := ⟨_, rfl⟩
  rw [hz]
  unfold zag at hz
  have e1 := and1 n h1
  have e2 := not64 ((n : Int) / 2) (by omega) (by omega)
  by_cases hodd : n % 2 = 1
  · rw [if_pos hodd] at hz
    rw [hodd] at e1
    clear hodd
    go_enter Try.func20, Try.ntmps20
    go_wp2
    go_ret
    refine ⟨congrArg (fun x => Ending.returned (.int .i64 x)) ?_, rfl⟩
    show _ = z
    omega
  · rw [if_neg hodd] at hz
    rw [show n % 2 = 0 by omega] at e1
    clear hodd
    go_enter Try.func20, Try.ntmps20
    go_wp2
    go_ret
    refine ⟨congrArg (fun x => Ending.returned (.int .i64 x)) ?_, rfl⟩
    show _ = z
    omega
set_option maxRecDepth 100000 in
theorem zag_r (n : Nat) (w : World) (h1 : n < 18446744073709551616) : Calls Try.prog 21 #[.int .u64 (n : Int)] w fun e w' => e = .returned (.int .i64 (zag n)) ∧ w' = w := by
  have key : bits BinOp.xor IntKind.i64 ((n : Int) / 2) (wrap64 (-wrap64 (bits BinOp.and IntKind.u64 (n : Int) 1))) = zag n := by
    rw [and1 n h1]
    unfold zag
    by_cases hodd : n % 2 = 1
    · rw [if_pos hodd, hodd, show wrap64 (-wrap64 ((1 : Nat) : Int)) = -1 by unfold wrap64; omega, bits_x _ rfl, BitVec.xor_comm, ones_xor, IntKind.wrap_i64]
      omega
    · rw [if_neg hodd, show n % 2 = 0 by omega, show wrap64 (-wrap64 ((0 : Nat) : Int)) = 0 by unfold wrap64; omega, bits_x _ rfl, zero_xor, IntKind.wrap_i64]
      omega
  have HK := hide key
  clear key
  go_enter Try.func21, Try.ntmps21
  go_wp2
  go_ret
  exact ⟨congrArg (fun x => Ending.returned (.int .i64 x)) HK.out, rfl⟩
end Go.Proofs.Ytogegmdimfinaaa
