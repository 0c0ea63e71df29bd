/- Bytes as what operations give: slices that hold a list of bytes, strings of them, their comparison. -/
import Derived.Test.YtogegmdimfinaaaMb
import Derived.Test.YtogegmdimfinaaaAtRows
namespace Go.Proofs.Ytogegmdimfinaaa
open Go.RowKit
theorem BsAt.lim {w : World} {v : Value} {l : List Nat} (h : BsAt w v l) : ∀ i, l.getD i 0 < 256 := by
  obtain ⟨b, o, c, ao, e, hc, hm, hl, hh⟩ := h
  exact hl
/-- A slice that holds these bytes. -/
def isb (l : List Nat) : STy := ⟨fun w v => BsAt w v l, fun hx h => h.ext hx⟩
/-- They as a string. -/
def sob (l : List Nat) : ByteArray := strOfNums (l.map fun (n : Nat) => (n : Int))
theorem run_sob {w : World} {v : Value} {l : List Nat} (h : BsAt w v l) : (convert 30 9 v).run Try.prog w = .ok (.string (sob l)) w := by
  obtain ⟨b, o, c, ao, rfl, hc, hm, hl, hh⟩ := h
  cases l with
  | nil =>
    cases ao with
    | none => kernel_rfl
    | some p => kernel_rfl
  | cons x t =>
    obtain ⟨rfl, _, hr⟩ := hh (by simp)
    refine run_convert_bytes_arg (P := Try.prog) w 30 5 Try.underlying30 Try.underlying5 b o _ c _ (by simp) (fun i hi => ?_) 9 Try.underlying9
    rw [hr i hi]
    simp only [List.getD_eq_getElem?_getD, List.getElem?_map, List.getElem?_eq_getElem hi]
    rfl
theorem sob_inj {l m : List Nat} (hl : ∀ i, l.getD i 0 < 256) (hm : ∀ i, m.getD i 0 < 256) (h : (sob l).toList = (sob m).toList) : l = m := by
  have h1 : (l.map fun (n : Nat) => (n : Int)).map (fun n => UInt8.ofNat n.toNat) = (m.map fun (n : Nat) => (n : Int)).map (fun n => UInt8.ofNat n.toNat) := by
    rw [ByteArray.toList_eq, ByteArray.toList_eq] at h
    exact h
  have hlen : l.length = m.length := by simpa using congrArg List.length h1
  refine List.ext_getElem hlen fun i hi hi' => ?_
  have h3 := congrArg (fun l => l[i]?) h1
  simp only [List.getElem?_map, List.getElem?_eq_getElem hi, List.getElem?_eq_getElem hi', Option.map_some, Option.some.injEq] at h3
  have h4 := congrArg UInt8.toNat h3
  have h5 := hl i
  have h6 := hm i
  simp only [List.getD_eq_getElem?_getD, List.getElem?_eq_getElem hi, List.getElem?_eq_getElem hi', Option.getD_some] at h5 h6
  simp only [Int.toNat_natCast, UInt8.toNat_ofNat'] at h4
  rw [Nat.mod_eq_of_lt h5, Nat.mod_eq_of_lt h6] at h4
  exact h4
theorem sob_eq {l m : List Nat} (hl : ∀ i, l.getD i 0 < 256) (hm : ∀ i, m.getD i 0 < 256) : ((sob l).toList == (sob m).toList) = decide (l = m) := by
  rw [Bool.eq_iff_iff]
  simp only [beq_iff_eq, decide_eq_true_eq]
  exact ⟨sob_inj hl hm, fun h => by rw [h]⟩
theorem sob_t {l m : List Nat} (h : l = m) : Value.bool ((sob l).toList == (sob m).toList) = .bool true := by rw [h, beq_self_eq_true]
theorem sob_nt {l m : List Nat} (h : l = m) : Value.bool (!((sob l).toList == (sob m).toList)) = .bool false := by rw [h, beq_self_eq_true]; rfl
section
variable {ops : Array Oper} {Q : Exit → Act → World → Prop} {o : Oper} {T : STy} {a : Act} {w : World}
/-- A string of bytes. -/
theorem g_str (hw : Region.wanted o (yielded ops a.tmps) = true) {x : Operand} {l : List Nat} (ho : o.op = .convert 30 9 x) (h : BsAt w (a.eval x) l) (ht : T.p w (.string (sob l))) : Gives Try.prog ops Q o T a w := g_conv hw ho (run_sob h) ht
theorem g_eqb (hw : Region.wanted o (yielded ops a.tmps) = true) {u : TypeId} {x y : Operand} {s r : Bool} (ho : o.op = .binOp .eql 4 x y u) (hx : a.eval x = .bool s) (hy : a.eval y = .bool r) (ht : T.p w (.bool (s == r))) : Gives Try.prog ops Q o T a w :=
  g_bin hw ho (v := .bool (s == r)) (by rw [hx, hy]; go_simp) ht
theorem g_neb (hw : Region.wanted o (yielded ops a.tmps) = true) {u : TypeId} {x y : Operand} {s r : Bool} (ho : o.op = .binOp .neq 4 x y u) (hx : a.eval x = .bool s) (hy : a.eval y = .bool r) (ht : T.p w (.bool (s != r))) : Gives Try.prog ops Q o T a w :=
  g_bin hw ho (v := .bool (s != r)) (by rw [hx, hy]; go_simp; cases s <;> cases r <;> rfl) ht
theorem g_lenb (hw : Region.wanted o (yielded ops a.tmps) = true) {x : Operand} {l : List Nat} {v : Int} (ho : o.op = .call { callee := .builtin .len, args := #[x], argTypes := #[30] }) (h : BsAt w (a.eval x) l) (hv : (l.length : Int) = v) (ht : T.p w (.int .i64 v)) : Gives Try.prog ops Q o T a w := by
  obtain ⟨ao, c, e, h1, h2⟩ := h.len
  subst hv
  refine g_run hw (v := .int .i64 (l.length : Int)) ?_ (Ext.refl w) ht
  unfold execOp
  simp only [ho]
  unfold resolve invoke
  simp only [List.map_toArray, List.map_cons, List.map_nil, e, Sem.run_bind, Sem.run_pure, Result.andThen_ok]
  go_simp
end
end Go.Proofs.Ytogegmdimfinaaa
