/- Numbers held against each other, put together and taken away within a region. For any program. -/
import Derived.Test.YteicdlomjhjiiaaDoorMb
import Derived.Test.YteicdlomjhjiiaaDoorRows
import Derived.WalkKit
import Derived.WalkSpells
namespace Go
open Go.RowKit
/-- What a comparison of two numbers tells. -/
def icmp (b : BinOp) (m n : Int) : Bool :=
  match b with
  | .lss => decide (m < n)
  | .leq => decide (m ≤ n)
  | .gtr => decide (n < m)
  | .geq => decide (n ≤ m)
  | .eql => decide (m = n)
  | .neq => !decide (m = n)
  | _ => false
def isCmp (b : BinOp) : Bool := match b with | .lss | .leq | .gtr | .geq | .eql | .neq => true | _ => false
theorem neq_t {m n : Int} (h : ¬ m = n) : icmp .neq m n = true := by simp [icmp, h]
theorem neq_f {m n : Int} (h : m = n) : icmp .neq m n = false := by simp [icmp, h]
section
variable {P : Program} {ops : Array Oper} {Q : Exit → Act → World → Prop} {o : Oper} {T : STy} {a : Act} {w : World}
theorem run_icmp (b : BinOp) (hb : isCmp b = true) (t : TypeId) (x y : Operand) (k : IntKind) (m n : Int) (w : World) : (do eqGuard b t x y (.int k m) (.int k n); binOp b t (.int k m) (.int k n) : Sem Value).run P w = .ok (.bool (icmp b m n)) w := by
  cases b <;> first | (cases hb; done) | skip
  all_goals
    simp [eqGuard, binOp, Op.intCmp, icmp]
    try rfl
theorem g_cI (hw : Region.wanted o (yielded ops a.tmps) = true) {b : BinOp} {t u : TypeId} {x y : Operand} {k : IntKind} {m n : Int} {r : Bool} (ho : o.op = .binOp b t x y u) (hb : isCmp b = true) (hx : a.eval x = .int k m) (hy : a.eval y = .int k n) (hr : icmp b m n = r) : Gives P ops Q o (isv (.bool r)) a w :=
  g_bin hw ho (v := .bool r) (by rw [hx, hy, ← hr]; exact run_icmp b hb t x y k m n w) rfl
theorem g_addI (hw : Region.wanted o (yielded ops a.tmps) = true) {t u : TypeId} {x y : Operand} {m n r : Int} (ho : o.op = .binOp .add t x y u) (hx : a.eval x = .int .i64 m) (hy : a.eval y = .int .i64 n) (e : m + n = r) (h : -9223372036854775808 ≤ r ∧ r ≤ 9223372036854775807) : Gives P ops Q o (isv (.int .i64 r)) a w :=
  g_bin hw ho (v := .int .i64 r) (by
    rw [hx, hy]
    simp [eqGuard, binOp, Op.intArith, e]
    rw [IntKind.wrap_i64]; omega) rfl
theorem g_subI (hw : Region.wanted o (yielded ops a.tmps) = true) {t u : TypeId} {x y : Operand} {m n r : Int} (ho : o.op = .binOp .sub t x y u) (hx : a.eval x = .int .i64 m) (hy : a.eval y = .int .i64 n) (e : m - n = r) (h : -9223372036854775808 ≤ r ∧ r ≤ 9223372036854775807) : Gives P ops Q o (isv (.int .i64 r)) a w :=
  g_bin hw ho (v := .int .i64 r) (by
    rw [hx, hy]
    simp [eqGuard, binOp, Op.intArith, e]
    rw [IntKind.wrap_i64]; omega) rfl
end
end Go
namespace Go.Proofs.YteicdlomjhjiiaaDoor
open Go.RowKit
section
variable {ops : Array Oper} {Q : Exit → Act → World → Prop} {o : Oper} {T : STy} {a : Act} {w : World}
theorem beq_b (d : Bool) : Value.bool (d == d) = .bool true := by simp
theorem bne_b (d : Bool) : Value.bool (d != d) = .bool false := by simp
theorem g_eqb (hw : Region.wanted o (yielded ops a.tmps) = true) {u : TypeId} {x y : Operand} {s r : Bool} (ho : o.op = .binOp .eql 4 x y u) (hx : a.eval x = .bool s) (hy : a.eval y = .bool r) (ht : T.p w (.bool (s == r))) : Gives Tryd.prog ops Q o T a w :=
  g_bin hw ho (v := .bool (s == r)) (by rw [hx, hy]; go_simp) ht
theorem g_neb (hw : Region.wanted o (yielded ops a.tmps) = true) {u : TypeId} {x y : Operand} {s r : Bool} (ho : o.op = .binOp .neq 4 x y u) (hx : a.eval x = .bool s) (hy : a.eval y = .bool r) (ht : T.p w (.bool (s != r))) : Gives Tryd.prog ops Q o T a w :=
  g_bin hw ho (v := .bool (s != r)) (by rw [hx, hy]; go_simp; cases s <;> cases r <;> rfl) ht
theorem g_negI (hw : Region.wanted o (yielded ops a.tmps) = true) {x : Operand} {m r : Int} (ho : o.op = .unOp .neg 3 x) (hx : a.eval x = .int .i64 m) (e : -m = r) (h : -9223372036854775808 ≤ r ∧ r ≤ 9223372036854775807) : Gives Tryd.prog ops Q o (isv (.int .i64 r)) a w :=
  g_run hw (v := .int .i64 r) (by
    unfold execOp
    simp only [ho, hx]
    go_simp
    rw [IntKind.wrap_i64]; omega) (Ext.refl w) rfl
end
end Go.Proofs.YteicdlomjhjiiaaDoor
