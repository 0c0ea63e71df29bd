/- Eight zeros behind bytes of the call's own ('append(b, make(8))' as one operation). -/
import Derived.Test.YtjkcjlhcfkapkaaDoorRefA
import Derived.Lib.AppendStr
namespace Go.Proofs.YtjkcjlhcfkapkaaDoor
open Go.RowKit
def zs8 : ByteArray := ⟨#[0, 0, 0, 0, 0, 0, 0, 0]⟩
theorem zs8_size : zs8.size = 8 := rfl
def zc8 : List Value := List.replicate 8 (.int .u8 0)
theorem zc8_zero : Builtin.zeroCells (Value.int .u8 0).cells 8 = zc8.toArray := by kernel_rfl
theorem zc8_first (w : World) : (Builtin.firstCells 1 8 (.string zs8)).run Tryd.prog w = .ok zc8.toArray w := by
  have h := Lib.run_firstCells_string (P := Tryd.prog) w 1 zs8
  rw [show Lib.strCells zs8 = zc8 from rfl] at h
  exact h
theorem zc8_str : Lib.strCells zs8 = zc8 := by rfl
theorem run_zeros (ty : TypeId) (b : Option Addr) (n cap : Nat) (w : World) (hn : n ≤ 1000000000000) :
    (Builtin.append_ #[22, 3] ty #[.slice b n cap, .int .i64 8]).run Tryd.prog w = (Builtin.append_ #[22, 9] ty #[.slice b n cap, .string zs8]).run Tryd.prog w := by
  obtain ⟨i0, hi, hz0, hz1, hz2⟩ := info_parts info5
  have h8 : IntKind.i64.wrap 8 = 8 := by rfl
  by_cases hroom : n + 8 ≤ cap
  · simp [Builtin.append_, run_underlying und22, run_underlying Tryd.underlying3, run_underlying Tryd.underlying9, sizeOf, typeInfo, hi, hz0, hz1, hz2, zeroValue, Builtin.lenOf, zs8_size, hroom, zc8_zero, zc8_first, asInt, asIntOf, h8]
  · have h48 : ¬ (281474976710656 < Builtin.nextslicecap (n + 8) cap) := by
      have := nextslicecap_le (need := n + 8) (old := cap) (by omega)
      omega
    simp [Builtin.append_, run_underlying und22, run_underlying Tryd.underlying3, run_underlying Tryd.underlying9, sizeOf, typeInfo, hi, hz0, hz1, hz2, zeroValue, Builtin.lenOf, zs8_size, hroom, zc8_zero, zc8_first, asInt, asIntOf, h8, h48]
    intro hbad
    exact absurd hbad (by omega)
theorem wpList_append_zeros {ops : Array Oper} {rest : List Oper} {o : Oper} {a : Act} {w : World} {Q : Exit → Act → World → Prop} (hgd : o.guard = none) (s : Operand) (ho : o.op = .call { callee := .builtin .append, args := #[s, .const (.int .i64 8)], argTypes := #[22, 3] })
    (base : Nat) (v : Value) (n : Nat) (os : List UInt8) (hs : a.eval s = v) (hown : w.ownsRow base 5 1 v n (os.map bc)) (hn : n ≤ 1000000000000) (hbase : base ≤ w.heap.size)
    (h : ∀ v' w', w'.ownsRow base 5 1 v' (n + 8) ((os ++ List.replicate 8 0).map bc) → w.grownBy w' v.ownBlock → wpList Tryd.prog ops Q rest (a.put o.dst v') w') : wpList Tryd.prog ops Q (o :: rest) a w := by
  refine wpList_plain hgd fun K hK => ?_
  obtain ⟨i0, hi, hz0, hz1, hz2⟩ := info_parts info5
  obtain ⟨v', w', hr, h2, h3, h4⟩ := Lib.run_append_own_string (P := Tryd.prog) w base 22 9 o.type 5 i0 und22 Tryd.underlying9 hi hz0 hz1 hz2 v n (os.map bc) hown zs8 (by rw [zs8_size]; unfold maxLen; omega) (by rw [zs8_size]; omega) hbase
  have hv : ∃ b cap, v = .slice b n cap := by
    obtain ⟨_, ⟨rfl, rfl⟩ | ⟨g, c, cur, rfl, _⟩⟩ := hown
    · exact ⟨_, _, rfl⟩
    · exact ⟨_, _, rfl⟩
  have hrun : (Builtin.append_ #[22, 3] o.type #[v, .int .i64 8]).run Tryd.prog w = .ok v' w' := by
    obtain ⟨b, cap, rfl⟩ := hv
    rw [run_zeros _ _ _ _ _ hn]; exact hr
  have he : a.eval (.const (.int .i64 8)) = .int .i64 8 := rfl
  have hfin := hK _ _ (h v' w' (by rw [List.map_append]; exact h2) h3)
  unfold Oper.wp
  simp [execOp, ho, resolve, invoke, builtin, hs, he, hrun, Result.andThen]
  exact hfin
end Go.Proofs.YtjkcjlhcfkapkaaDoor
