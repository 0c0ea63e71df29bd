/- The methods of a heap, found by name. -/
import Derived.Test.YteiacgpaocnofaaGreatHm
namespace Go.Proofs.YteiacgpaocnofaaGreat
open Go.RowKit
/-- What a type's table of methods has. -/
def mrow (P : Program) (t : TypeId) (name : String) : Option (Option (Array FieldStep × Option (FuncId × Bool))) := (P.info? t).map fun i => (i.methods.find? fun m => m.name == name).map fun m => (m.path, m.func)
theorem mrow_at {t : TypeId} {name : String} {p : Array FieldStep} {f : Option (FuncId × Bool)} (h : mrow Tryz.prog t name = some (some (p, f))) : ∃ i m, Tryz.prog.info? t = some i ∧ (i.methods.find? fun m => m.name == name) = some m ∧ m.path = p ∧ m.func = f := by
  unfold mrow at h
  cases he : Tryz.prog.info? t with
  | none => rw [he] at h; cases h
  | some i =>
    rw [he] at h
    simp only [Option.map_some, Option.some.injEq] at h
    cases hf : i.methods.find? (fun m => m.name == name) with
    | none => rw [hf] at h; cases h
    | some m =>
      rw [hf] at h
      simp only [Option.map_some, Option.some.injEq, Prod.mk.injEq] at h
      exact ⟨i, m, rfl, hf, h.1, h.2⟩
theorem und54 : Tryz.prog.underlying 185 = some (.pointer 186) := by kernel_rfl
theorem wrap_chk (a : Addr) (s n : ByteArray) (w : World) : (Builtin.ssaWrapNilChk_ #[185] 185 #[.pointer (some a), .string s, .string n]).run Tryz.prog w = .ok (.pointer (some a)) w := by
  unfold Builtin.ssaWrapNilChk_
  rfl
theorem meth_val {w : World} {P n c : Nat} {a : Option Addr} {name : String} {f : FuncId} (hm : mrow Tryz.prog 185 name = some (some (#[], some (f, false)))) (h : w.cell? ⟨P, 0, none⟩ = some (.slice a n c)) :
    (method 337 185 (.pointer (some ⟨P, 0, none⟩)) name).run Tryz.prog w = .ok (f, .slice a n c) w := by
  obtain ⟨i, m, hi, hf, hp, hfn⟩ := mrow_at hm
  rw [show (337 : Nat) = 336 + 1 from rfl]
  unfold method
  simp [typeInfo, hi, hf, hp, hfn, follow, receiverAt, run_underlying und54, Place.get, strVal, wrap_chk, asAddr]
  go_simp
theorem meth_ptr {w : World} {P : Nat} {name : String} {f : FuncId} (hm : mrow Tryz.prog 185 name = some (some (#[], some (f, true)))) :
    (method 337 185 (.pointer (some ⟨P, 0, none⟩)) name).run Tryz.prog w = .ok (f, .pointer (some ⟨P, 0, none⟩)) w := by
  obtain ⟨i, m, hi, hf, hp, hfn⟩ := mrow_at hm
  rw [show (337 : Nat) = 336 + 1 from rfl]
  unfold method
  simp [typeInfo, hi, hf, hp, hfn, follow, receiverAt, run_underlying und54, Place.get]
theorem mLen : mrow Tryz.prog 185 "Len" = some (some (#[], some (200, false))) := by kernel_rfl
theorem mLess : mrow Tryz.prog 185 "Less" = some (some (#[], some (259, false))) := by kernel_rfl
theorem mSwap : mrow Tryz.prog 185 "Swap" = some (some (#[], some (262, false))) := by kernel_rfl
theorem mPush : mrow Tryz.prog 185 "Push" = some (some (#[], some (261, true))) := by kernel_rfl
theorem mPop : mrow Tryz.prog 185 "Pop" = some (some (#[], some (260, true))) := by kernel_rfl
end Go.Proofs.YteiacgpaocnofaaGreat
