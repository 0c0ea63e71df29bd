/- Means for the walks: facts put aside, memory that stays, bytes of a text. -/
import Derived.Test.YteicdlomjhjiiaaDoorMb
import Derived.Test.YteicdlomjhjiiaaDoorTyI
import Derived.Test.YteicdlomjhjiiaaDoorDtMath
import Derived.WalkKit
import Derived.WalkSpells
import Derived.WalkLawsBesides
import Derived.Deep.RegionHeld3
import Derived.Deep.Cut
namespace Go.Proofs.YteicdlomjhjiiaaDoor
open Go.RowKit
theorem hide {p : Prop} (h : p) : Hid p := h
theorem Below.chain {w a b : World} (h : Below w.heap.size w a) (k : Below a.heap.size a b) : Below w.heap.size w b := h.trans (k.mono h.size)
/-- A byte of a text. -/
def bt (s : ByteArray) (i : Nat) : Nat := (s.data[i]?.getD 0).toNat
theorem bt_lt (s : ByteArray) (i : Nat) : bt s i < 256 := (s.data[i]?.getD 0).toNat_lt
theorem str_ix (s : ByteArray) (k : Nat) (hk : k < s.size) (w : World) : (Instr.index 9 (.string s) (.int .i64 (k : Int))).run Tryd.prog w = .ok (.int .u8 (bt s k : Int)) w := by
  rw [run_index_string w 9 s .i64 (k : Int) (by kernel_rfl), dif_pos ⟨by omega, by omega⟩]
  have h2 : k < s.data.size := hk
  have h3 : (s.data[k]?.getD 0) = s.data[k] := by rw [Array.getElem?_eq_getElem h2]; rfl
  unfold bt
  rw [h3]
  simp [ByteArray.getElem_eq_getElem_data]
/-- A call that answers v and leaves memory as it was. -/
abbrev Tells (f : FuncId) (args : Array Value) (v : Value) : Prop := ∀ w : World, Calls Tryd.prog f args w fun e w' => e = .returned v ∧ w' = w
theorem Tells.of {f : FuncId} {args args' : Array Value} {v v' : Value} (h : Tells f args v) (ea : args' = args) (ev : v = v') : Tells f args' v' := by
  subst ea; subst ev; exact h
theorem Tells.hands {f : FuncId} {args : Array Value} {v : Value} (h : Tells f args v) (w : World) : Hands Tryd.prog f args w (isv v) :=
  (h w).mono fun e w' ⟨he, hw⟩ => ⟨_, he, by subst hw; exact Below.refl _ _, rfl⟩
/-- An element of an array that is a value. -/
theorem run_index_arr {P : Program} {t e : TypeId} {len : Nat} {d : TypeDesc} (hu : P.underlying t = some (.array len e)) (he : P.underlying e = some d) (hd : d.isRow = false) (hs : (P.info? e).map (·.size) = some 1)
    (cs : Array Value) (i : Nat) (hi : i < len) (v : Value) (hv : cs[i]? = some v) (w : World) : (Instr.index t (.agg cs) (.int .i64 (i : Int))).run P w = .ok v w := by
  cases hq : P.info? e with
  | none => simp [hq] at hs
  | some ie =>
    have h1 : ie.size = 1 := by simpa [hq] using hs
    have hagg : (isAgg e).run P w = .ok false w := by
      unfold isAgg
      rw [Sem.run_bind, run_underlying he w]
      cases d <;> simp_all
    have h2 : ¬ len ≤ i := by omega
    simp [Instr.index, asIntOf, run_underlying hu, part, hagg, sizeOf, typeInfo, hq, h1, hv, h2]
/-- How many days the months have, February without its leap day. -/
abbrev mtab : Array Value := #[.int .i64 0, .int .i64 31, .int .i64 28, .int .i64 31, .int .i64 30, .int .i64 31, .int .i64 30, .int .i64 31, .int .i64 31, .int .i64 30, .int .i64 31, .int .i64 30, .int .i64 31]
theorem size3 : (Tryd.prog.info? 3).map (·.size) = some 1 := by kernel_rfl
theorem mtab_ix (i : Nat) (hi : i < 13) (v : Value) (hv : mtab[i]? = some v) (z : Int) (hz : z = (i : Int)) (w : World) : (Instr.index 45 (.agg mtab) (.int .i64 z)).run Tryd.prog w = .ok v w := by
  subst hz
  exact run_index_arr (by kernel_rfl) Tryd.underlying3 rfl size3 mtab i hi v hv w
end Go.Proofs.YteicdlomjhjiiaaDoor
