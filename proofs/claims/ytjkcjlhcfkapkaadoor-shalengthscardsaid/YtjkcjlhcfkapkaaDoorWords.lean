/- Words of 64 bits: how the program's integers are words, and what its operations make of them. Plain mathematics, no condition. -/
import Derived.Laws.Bits64b
import Derived.Laws.BitsAllLaws
namespace Go.Proofs.YtjkcjlhcfkapkaaDoor

/-- A word as a number. -/
def wn (x : BitVec 64) : Int := (x.toNat : Int)

theorem w_lt (x : BitVec 64) : x.toNat < 18446744073709551616 := x.isLt
theorem wn_inj {x y : BitVec 64} (h : wn x = wn y) : x = y := BitVec.eq_of_toNat_eq (by unfold wn at h; omega)
theorem wn_nonneg (x : BitVec 64) : 0 ≤ wn x := by unfold wn; omega
theorem wn_lt (x : BitVec 64) : wn x < 18446744073709551616 := by have := w_lt x; unfold wn; omega
theorem w_and (x y : BitVec 64) : bits .and .u64 (wn x) (wn y) = wn (x &&& y) := by
  unfold wn; rw [bits_and_u64_nat _ _ (w_lt x) (w_lt y), BitVec.toNat_and]
theorem w_or (x y : BitVec 64) : bits .or .u64 (wn x) (wn y) = wn (x ||| y) := by
  unfold wn; rw [bits_or_u64_nat _ _ (w_lt x) (w_lt y), BitVec.toNat_or]
theorem w_xor (x y : BitVec 64) : bits .xor .u64 (wn x) (wn y) = wn (x ^^^ y) := by
  unfold wn; rw [bits_xor_u64_nat _ _ (w_lt x) (w_lt y), BitVec.toNat_xor]
theorem w_not (x : BitVec 64) : bits .xor .u64 IntKind.u64.max (wn x) = wn (~~~ x) := by
  have h : IntKind.u64.max = wn (BitVec.allOnes 64) := by decide
  rw [h, w_xor, BitVec.allOnes_xor]
theorem w_add (x y : BitVec 64) : IntKind.u64.wrap (wn x + wn y) = wn (x + y) := by
  unfold wn; rw [IntKind.wrap_u64, BitVec.toNat_add]; omega
theorem w_shl (x : BitVec 64) (n : Nat) : IntKind.u64.wrap (wn x * 2 ^ n) = wn (x <<< n) := by
  unfold wn; rw [IntKind.wrap_u64, BitVec.toNat_shiftLeft, Nat.shiftLeft_eq, Int.natCast_emod, Int.natCast_mul, Int.natCast_pow]; rfl
theorem w_shr (x : BitVec 64) (n : Nat) : wn x / 2 ^ n = wn (x >>> n) := by
  unfold wn; rw [BitVec.toNat_ushiftRight, Nat.shiftRight_eq_div_pow, Int.natCast_ediv, Int.natCast_pow]; rfl
theorem w_shr' (x : BitVec 64) (n : Nat) : (wn x).fdiv (2 ^ n) = wn (x >>> n) := by
  rw [Int.fdiv_eq_ediv_of_nonneg _ (Int.le_of_lt (Int.pow_pos (by decide))), w_shr]

/-- Turned to the right. -/
def rotr (x : BitVec 64) (n : Nat) : BitVec 64 := x >>> n ||| x <<< (64 - n)
def sg0 (x : BitVec 64) : BitVec 64 := rotr x 1 ^^^ rotr x 8 ^^^ x >>> 7
def sg1 (x : BitVec 64) : BitVec 64 := rotr x 19 ^^^ rotr x 61 ^^^ x >>> 6
def bg0 (x : BitVec 64) : BitVec 64 := rotr x 28 ^^^ rotr x 34 ^^^ rotr x 39
def bg1 (x : BitVec 64) : BitVec 64 := rotr x 14 ^^^ rotr x 18 ^^^ rotr x 41
def chw (x y z : BitVec 64) : BitVec 64 := x &&& y ^^^ ~~~ x &&& z
def majw (x y z : BitVec 64) : BitVec 64 := x &&& y ^^^ x &&& z ^^^ y &&& z
theorem ch_or (x y z : BitVec 64) : (x &&& y) ||| (~~~ x &&& z) = chw x y z := by
  unfold chw; ext i hi; simp; cases x[i] <;> simp
theorem maj_or (x y z : BitVec 64) : (x &&& y) ||| (x &&& z) ||| (y &&& z) = majw x y z := by
  unfold majw; ext i hi; simp; cases x[i] <;> cases y[i] <;> simp
theorem rotr_or (x : BitVec 64) (n : Nat) : x <<< (64 - n) ||| x >>> n = rotr x n := by
  unfold rotr; exact BitVec.or_comm _ _
end Go.Proofs.YtjkcjlhcfkapkaaDoor
