/- What the laws of this layer share: small numbers' bytes, the points that every program must know. -/
import Derived.Test.YtobgimpkkjaolaaGreatDoorOrd
namespace Go.Proofs.YtobgimpkkjaolaaGreatDoor
open Go.RowKit
/-- A number's two low bytes. -/
def smb (n : Int) : List Nat := [(n % 256).toNat, (n / 256 % 256).toNat]
theorem smb_lim (n : Int) : ∀ i, (smb n).getD i 0 < 256 := lim_list (by
  unfold smb
  have h1 : (n % 256).toNat < 256 := by omega
  have h2 : (n / 256 % 256).toNat < 256 := by omega
  simp [h1, h2])
theorem smb_val (n : Int) : bval ((smb n).take 32) = (n % 65536).toNat := by
  show (n % 256).toNat + 256 * ((n / 256 % 256).toNat + 256 * 0) = _
  omega
theorem lull_P (B : Nat) (S : List Nat) (P : Pt) : LullT B S (isP P) := lull_isv _ _ _
theorem row_P (P : Pt) : RowT 8 (isP P) := row_p _ _
theorem iff_t {p : Prop} (h : p) : true = true ↔ p := ⟨fun _ => h, fun _ => rfl⟩
theorem iff_f {p : Prop} (h : ¬ p) : false = true ↔ p := ⟨fun h => (by cases h), fun h2 => absurd h2 h⟩
theorem g_equ8 {ops : Array Oper} {Q : Exit → Act → World → Prop} {o : Oper} {a : Act} {w : World} (hw : Region.wanted o (yielded ops a.tmps) = true) {x : Operand} {v c : Nat} (ho : o.op = .binOp .eql 5 x (.const (.int .u8 (c : Int))) 5) (hx : a.eval x = .int .u8 (v : Int)) (h : v = c) : Gives Tryz.prog ops Q o (isv (.bool true)) a w := by
  subst h
  refine g_bin hw ho (v := .bool true) ?_ rfl
  rw [hx]
  show (do eqGuard BinOp.eql 5 x (.const (.int .u8 (v : Int))) (Value.int .u8 (v : Int)) (.int .u8 (v : Int)); binOp BinOp.eql 5 (Value.int .u8 (v : Int)) (.int .u8 (v : Int)) : Sem Value).run Tryz.prog w = _
  go_simp
theorem aw0 : (pkb bx byy).getD 0 0 = 88 := by decide +kernel
theorem aw1 : (pkb bx byy).getD 1 0 = 102 := by decide +kernel
theorem aw31 : (pkb bx byy).getD 31 0 = 102 := by decide +kernel
theorem az0 : (pkb 0 1).getD 0 0 = 1 := by decide +kernel
end Go.Proofs.YtobgimpkkjaolaaGreatDoor
