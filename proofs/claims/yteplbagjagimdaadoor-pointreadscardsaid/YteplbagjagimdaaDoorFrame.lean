/- What the rows of this seat list: exponents, a root of -1, the order, word by word. -/
import Derived.Test.YteplbagjagimdaaDoorFn9
import Derived.Test.YteplbagjagimdaaDoorOpen
import Derived.Lib.LaidTab
import Derived.Stop.LaidErr
import Derived.LaidSub
namespace Go.Proofs.YteplbagjagimdaaDoor
open Go.RowKit
def nmI : String := ((Rows.pointGroupRow.laid.map Prod.fst)[0]?).getD default
def nmE : String := ((Rows.pointReadsRow.laid.map Prod.fst)[0]?).getD default
def nmM : String := ((Rows.pointReadsRow.laid.map Prod.fst)[1]?).getD default
def nmO : String := ((Rows.pointScalarsRow.laid.map Prod.fst)[1]?).getD default
/-- The order's words. -/
def orw : List Nat := [6346243789798364141, 1503914060200516822, 0, 1152921504606846976]
theorem cellsU : Tryd.prog.cellsOf 24 = 1 := by kernel_rfl
theorem cellsW : Tryd.prog.cellsOf 26 = 4 := by kernel_rfl
theorem laidW_of {t : TypeId} {g : Nat} {nm : String} {zl : List Nat} {l : List (String × DataW Unit)} {W : World} (hl : zl.length = 4) (hu : Tryd.prog.underlying t = some (.array 4 24)) (hc : Tryd.prog.cellsOf t = 4) (hg : Tryd.prog.globalNamed nm = some g) (hty : (Tryd.prog.globals[g]?).map (·.type) = some t)
    (he : l.filter (fun x => x.1 == nm) = [(nm, Lib.tabData .u64 (zl.map fun (n : Nat) => (n : Int)))]) (h : laidMet Tryd.prog l W) : LaidW g zl W := by
  have h1 := laidMet.filter (fun x => x.1 == nm) h
  rw [he] at h1
  have t0 := Lib.tabIs_of_head hg hty hu Tryd.underlying24 cellsU hc h1
  have c0 : ∀ i, i < 4 → W.cell? ⟨g, i, none⟩ = some (.int .u64 ((zl.getD i 0 : Nat) : Int)) := fun i hi => by
    have hl' : i < zl.length := by omega
    rw [t0.cell hg i (by rw [List.length_map]; exact hl'), List.getD_eq_getElem?_getD, List.getD_eq_getElem?_getD, List.getElem?_map, List.getElem?_eq_getElem hl']; rfl
  exact ⟨c0, World.block_lt_of_cell? W _ (c0 0 (by decide))⟩
theorem gI : Tryd.prog.globalNamed nmI = some 1 := by kernel_rfl
theorem gE : Tryd.prog.globalNamed nmE = some 3 := by kernel_rfl
theorem gM : Tryd.prog.globalNamed nmM = some 0 := by kernel_rfl
theorem gO : Tryd.prog.globalNamed nmO = some 2 := by kernel_rfl
theorem tyI : (Tryd.prog.globals[1]?).map (·.type) = some 26 := by kernel_rfl
theorem tyE : (Tryd.prog.globals[3]?).map (·.type) = some 26 := by kernel_rfl
theorem tyM : (Tryd.prog.globals[0]?).map (·.type) = some 26 := by kernel_rfl
theorem tyO : (Tryd.prog.globals[2]?).map (·.type) = some 80 := by kernel_rfl
end Go.Proofs.YteplbagjagimdaaDoor
