/- What the rows of this seat list: the exponent, word by word. -/
import Derived.Test.YtbaionconnhdiaaDoorInv
import Derived.Test.YtbaionconnhdiaaDoorOpen
import Derived.Lib.LaidTab
import Derived.Stop.LaidErr
import Derived.LaidSub
namespace Go.Proofs.YtbaionconnhdiaaDoor
open Go.RowKit
def nm0 : String := ((Rows.fieldInversesRow.laid.map Prod.fst)[0]?).getD default
theorem laid_eq : Rows.fieldInversesRow.laid = [(nm0, Lib.tabData .u64 (exw.map fun (n : Nat) => (n : Int)))] := by kernel_rfl
theorem laid_eq2 : Rows.fieldLawsRow.laid = Rows.fieldInversesRow.laid := rfl
theorem laid_eq3 : Rows.fieldFormsRow.laid = Rows.fieldInversesRow.laid := rfl
theorem gTab0 : Tryd.prog.globalNamed nm0 = some 0 := by kernel_rfl
theorem gType0 : (Tryd.prog.globals[0]?).map (·.type) = some 27 := by kernel_rfl
theorem cellsU : Tryd.prog.cellsOf 25 = 1 := by kernel_rfl
theorem cellsW : Tryd.prog.cellsOf 27 = 4 := by kernel_rfl
theorem laid_of {W : World} (h : laidMetH Tryd.prog Rows.fieldInversesRow.laid W) : Laid W := by
  have h1 : laidMet Tryd.prog [(nm0, Lib.tabData .u64 (exw.map fun (n : Nat) => (n : Int)))] W := by
    rw [laid_eq] at h; exact h
  have t0 := Lib.tabIs_of_head gTab0 gType0 und26 Tryd.underlying25 cellsU cellsW h1
  have c0 : ∀ i, i < 4 → W.cell? ⟨0, i, none⟩ = some (.int .u64 ((exw.getD i 0 : Nat) : Int)) := fun i hi => by
    have hl : i < exw.length := hi
    rw [t0.cell gTab0 i (by rw [List.length_map]; exact hl), List.getD_eq_getElem?_getD, List.getD_eq_getElem?_getD, List.getElem?_map, List.getElem?_eq_getElem hl]; rfl
  exact ⟨c0, World.block_lt_of_cell? W _ (c0 0 (by decide))⟩
end Go.Proofs.YtbaionconnhdiaaDoor
