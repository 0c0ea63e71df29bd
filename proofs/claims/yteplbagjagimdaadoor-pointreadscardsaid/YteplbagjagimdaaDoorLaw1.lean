/- Whole numbers as operations of this layer's laws give them. -/
import Derived.Test.YteplbagjagimdaaDoorLaw0
namespace Go.Proofs.YteplbagjagimdaaDoor
open Go.RowKit
theorem and_mask (k m : Nat) (hk : k < 60) (hm : m = 2 ^ k - 1) (a : Int) : bits .and .i64 a (m : Int) = a % (2 ^ k : Nat) := by
  have hp : 2 ^ k < 2 ^ 60 := Nat.pow_lt_pow_right (by decide) hk
  have h0 : 0 < 2 ^ k := Nat.pow_pos (by decide)
  have hb : (BitVec.ofInt 64 ((m : Nat) : Int)).toNat = 2 ^ k - 1 := by
    rw [BitVec.toNat_ofInt, hm]
    omega
  have h1 : ((BitVec.ofInt 64 a &&& BitVec.ofInt 64 ((m : Nat) : Int)).toNat : Int) = a % (2 ^ k : Nat) := by
    rw [BitVec.toNat_and, hb, Nat.and_two_pow_sub_one_eq_mod, BitVec.toNat_ofInt]
    have hd : (2 ^ k : Nat) ∣ 2 ^ 64 := Nat.pow_dvd_pow 2 (by omega)
    have hc : ((a % ((2 ^ 64 : Nat) : Int)).toNat : Int) = a % ((2 ^ 64 : Nat) : Int) := Int.toNat_of_nonneg (Int.emod_nonneg _ (by decide))
    rw [Int.natCast_emod, hc, Int.emod_emod_of_dvd a (by exact_mod_cast hd)]
  show IntKind.wrap .i64 _ = _
  show IntKind.wrap .i64 ((BitVec.ofInt 64 a &&& BitVec.ofInt 64 ((m : Nat) : Int)).toNat : Int) = _
  rw [h1]
  have l0 : 0 ≤ a % (2 ^ k : Nat) := Int.emod_nonneg _ (by omega)
  have l1 : a % (2 ^ k : Nat) < (2 ^ k : Nat) := Int.emod_lt_of_pos _ (by omega)
  generalize a % (2 ^ k : Nat) = r at *
  generalize 2 ^ k = q at *
  unfold IntKind.wrap
  simp [IntKind.bits, IntKind.signed]
  omega
theorem and_65535 (a : Int) : bits .and .i64 a 65535 = a % 65536 := and_mask 16 65535 (by decide) rfl a
theorem and_255 (a : Int) : bits .and .i64 a 255 = a % 256 := and_mask 8 255 (by decide) rfl a
section
variable {ops : Array Oper} {Q : Exit → Act → World → Prop} {o : Oper} {a : Act} {w : World} {x y : Operand}
theorem g_addn {m n : Nat} (hw : Region.wanted o (yielded ops a.tmps) = true) (ho : o.op = .binOp .add 3 x y 3) (hx : a.eval x = .int .i64 (m : Int)) (hy : a.eval y = .int .i64 (n : Int)) (h : m + n < 1000000000) : Gives Tryd.prog ops Q o (isv (.int .i64 ((m + n : Nat) : Int))) a w := by
  refine g_bin hw ho (v := .int .i64 ((m + n : Nat) : Int)) ?_ rfl
  rw [hx, hy, Int.natCast_add]
  have h1 : (m : Int) + (n : Int) < 1000000000 := by omega
  have h2 : (0 : Int) ≤ (m : Int) + (n : Int) := by omega
  go_simp
  unfold IntKind.wrap
  simp [IntKind.bits, IntKind.signed]
  omega
theorem g_cv8 {n : Nat} (hw : Region.wanted o (yielded ops a.tmps) = true) (ho : o.op = .convert 3 5 x) (hx : a.eval x = .int .i64 (n : Int)) : Gives Tryd.prog ops Q o (isv (.int .u8 ((n % 256 : Nat) : Int))) a w := by
  refine g_conv hw ho (u := .int .u8 ((n % 256 : Nat) : Int)) ?_ rfl
  rw [hx, Int.natCast_emod]
  go_simp
  unfold IntKind.wrap
  simp [IntKind.bits, IntKind.signed]
theorem g_shr8 {n : Nat} (hw : Region.wanted o (yielded ops a.tmps) = true) (ho : o.op = .binOp .shr 3 x (.const (.int .u64 8)) 53) (hx : a.eval x = .int .i64 (n : Int)) : Gives Tryd.prog ops Q o (isv (.int .i64 ((n / 256 : Nat) : Int))) a w := by
  refine g_bin hw ho (v := .int .i64 ((n / 256 : Nat) : Int)) ?_ rfl
  rw [hx, Int.natCast_ediv]
  show (do eqGuard BinOp.shr 3 x (.const (.int .u64 8)) (Value.int .i64 (n : Int)) (.int .u64 8); binOp BinOp.shr 3 (Value.int .i64 (n : Int)) (.int .u64 8) : Sem Value).run Tryd.prog w = _
  go_simp
theorem g_shr16 {n : Nat} (hw : Region.wanted o (yielded ops a.tmps) = true) (ho : o.op = .binOp .shr 3 x (.const (.int .u64 16)) 53) (hx : a.eval x = .int .i64 (n : Int)) : Gives Tryd.prog ops Q o (isv (.int .i64 ((n / 65536 : Nat) : Int))) a w := by
  refine g_bin hw ho (v := .int .i64 ((n / 65536 : Nat) : Int)) ?_ rfl
  rw [hx, Int.natCast_ediv]
  show (do eqGuard BinOp.shr 3 x (.const (.int .u64 16)) (Value.int .i64 (n : Int)) (.int .u64 16); binOp BinOp.shr 3 (Value.int .i64 (n : Int)) (.int .u64 16) : Sem Value).run Tryd.prog w = _
  go_simp
theorem g_and16 {n : Int} (hw : Region.wanted o (yielded ops a.tmps) = true) (ho : o.op = .binOp .and 3 x (.const (.int .i64 65535)) 3) (hx : a.eval x = .int .i64 n) {m : Nat} (hm : n % 65536 = (m : Int)) : Gives Tryd.prog ops Q o (isv (.int .i64 (m : Int))) a w := by
  have e := and_65535 n
  rw [hm] at e
  refine g_bin hw ho (v := .int .i64 (m : Int)) ?_ rfl
  rw [hx]
  show (do eqGuard BinOp.and 3 x (.const (.int .i64 65535)) (Value.int .i64 n) (.int .i64 65535); binOp BinOp.and 3 (Value.int .i64 n) (.int .i64 65535) : Sem Value).run Tryd.prog w = _
  go_simp
theorem g_eqn0 {m : Nat} {d : Bool} (hw : Region.wanted o (yielded ops a.tmps) = true) (ho : o.op = .binOp .eql 3 x (.const (.int .i64 0)) 3) (hx : a.eval x = .int .i64 (m : Int)) (hd : d = true ↔ m = 0) : Gives Tryd.prog ops Q o (isv (.bool d)) a w := by
  have e : ((m : Int) == 0) = d := by
    rw [Bool.eq_iff_iff, hd, beq_iff_eq]; omega
  refine g_bin hw ho (v := .bool d) ?_ rfl
  rw [hx]
  show (do eqGuard BinOp.eql 3 x (.const (.int .i64 0)) (Value.int .i64 (m : Int)) (.int .i64 0); binOp BinOp.eql 3 (Value.int .i64 (m : Int)) (.int .i64 0) : Sem Value).run Tryd.prog w = _
  go_simp
end
/-- The order's bytes. -/
def l16 : List Nat := [237, 211, 245, 92, 26, 99, 18, 88, 214, 156, 247, 162, 222, 249, 222, 20]
def lbs : List Nat := (l16 ++ zz 16).set 31 16
theorem lbs_len : lbs.length = 32 := by decide
theorem lbs_val : bval (lbs.take 32) = lq := by decide +kernel
theorem l16_lim : ∀ i, l16.getD i 0 < 256 := lim_list (by decide)
theorem ba_l16 : ba l16 = #[.int .u8 237, .int .u8 211, .int .u8 245, .int .u8 92, .int .u8 26, .int .u8 99, .int .u8 18, .int .u8 88, .int .u8 214, .int .u8 156, .int .u8 247, .int .u8 162, .int .u8 222, .int .u8 249, .int .u8 222, .int .u8 20] := by rfl
theorem keep_block {w : World} {g g' j : Nat} {u : Value} (h : g ≠ g') : (w.setCell ⟨g', j, none⟩ u).heap[g]? = w.heap[g]? := heap_setCell_other _ _ _ _ (by simpa using h)
end Go.Proofs.YteplbagjagimdaaDoor
