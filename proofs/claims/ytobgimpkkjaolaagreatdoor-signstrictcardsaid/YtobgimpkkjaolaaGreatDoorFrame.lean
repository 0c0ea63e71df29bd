/- What the rows of this seat list: exponents, a root of -1, the order, the hash's tables, word by word. -/
import Derived.Test.YtobgimpkkjaolaaGreatDoorMg
import Derived.Test.YtobgimpkkjaolaaGreatDoorOpen
import Derived.Lib.LaidTab
import Derived.Stop.LaidErr
import Derived.LaidSub
namespace Go.Proofs.YtobgimpkkjaolaaGreatDoor
open Go.RowKit
def nmI : String := ((Rows.signVerifiesRow.laid.map Prod.fst)[0]?).getD default
def nmE : String := ((Rows.signVerifiesRow.laid.map Prod.fst)[1]?).getD default
def nmM : String := ((Rows.signVerifiesRow.laid.map Prod.fst)[2]?).getD default
def nmO : String := ((Rows.signVerifiesRow.laid.map Prod.fst)[5]?).getD default
def nmH : String := ((Rows.signVerifiesRow.laid.map Prod.fst)[3]?).getD default
def nmK : String := ((Rows.signVerifiesRow.laid.map Prod.fst)[4]?).getD default
def orw : List Nat := [6346243789798364141, 1503914060200516822, 0, 1152921504606846976]
theorem cellsU : Tryz.prog.cellsOf 27 = 1 := by kernel_rfl
theorem laidW_of {t : TypeId} {g : Nat} {nm : String} {zl : List Nat} {l : List (String × DataW Unit)} {W : World} (hl : zl.length = 4) (hu : Tryz.prog.underlying t = some (.array 4 27)) (hc : Tryz.prog.cellsOf t = 4) (hg : Tryz.prog.globalNamed nm = some g) (hty : (Tryz.prog.globals[g]?).map (·.type) = some t)
    (he : l.filter (fun x => x.1 == nm) = [(nm, Lib.tabData .u64 (zl.map fun (n : Nat) => (n : Int)))]) (h : laidMet Tryz.prog l W) : LaidW g zl W := by
  have h1 := laidMet.filter (fun x => x.1 == nm) h
  rw [he] at h1
  have t0 := Lib.tabIs_of_head hg hty hu Tryz.underlying27 cellsU hc h1
  have c0 : ∀ i, i < 4 → W.cell? ⟨g, i, none⟩ = some (.int .u64 ((zl.getD i 0 : Nat) : Int)) := fun i hi => by
    have hl' : i < zl.length := by omega
    rw [t0.cell hg i (by rw [List.length_map]; exact hl'), List.getD_eq_getElem?_getD, List.getD_eq_getElem?_getD, List.getElem?_map, List.getElem?_eq_getElem hl']; rfl
  exact ⟨c0, World.block_lt_of_cell? W _ (c0 0 (by decide))⟩
theorem tab_of {t : TypeId} {g n : Nat} {nm : String} {zl : List (BitVec 64)} {l : List (String × DataW Unit)} {W : World} (h0 : 0 < zl.length) (hu : Tryz.prog.underlying t = some (.array n 27)) (hc : Tryz.prog.cellsOf t = n) (hg : Tryz.prog.globalNamed nm = some g) (hty : (Tryz.prog.globals[g]?).map (·.type) = some t)
    (he : l.filter (fun x => x.1 == nm) = [(nm, Lib.tabData .u64 (zl.map Sh.wn))]) (h : laidMet Tryz.prog l W) : W.rangeAt g 0 (zl.map Sh.wc) ∧ g < W.heap.size := by
  have h1 := laidMet.filter (fun x => x.1 == nm) h
  rw [he] at h1
  have t0 := Lib.tabIs_of_head hg hty hu Tryz.underlying27 cellsU hc h1
  have c0 : ∀ i, i < zl.length → W.cell? ⟨g, i, none⟩ = some (Sh.wc (zl.getD i 0)) := fun i hi => by
    rw [t0.cell hg i (by rw [List.length_map]; exact hi), Sh.wc, List.getD_eq_getElem?_getD, List.getD_eq_getElem?_getD, List.getElem?_map, List.getElem?_eq_getElem hi]; rfl
  refine ⟨fun j v hv => ?_, World.block_lt_of_cell? W _ (c0 0 h0)⟩
  have hj : j < zl.length := by simpa using (List.getElem?_eq_some_iff.1 hv).1
  rw [Nat.zero_add, c0 j hj, ← hv, List.getElem?_map, List.getD_eq_getElem?_getD, List.getElem?_eq_getElem hj]; rfl
theorem gI : Tryz.prog.globalNamed nmI = some 2 := by kernel_rfl
theorem gE : Tryz.prog.globalNamed nmE = some 3 := by kernel_rfl
theorem gM : Tryz.prog.globalNamed nmM = some 1 := by kernel_rfl
theorem gO : Tryz.prog.globalNamed nmO = some 0 := by kernel_rfl
theorem gH : Tryz.prog.globalNamed nmH = some 4 := by kernel_rfl
theorem gK : Tryz.prog.globalNamed nmK = some 5 := by kernel_rfl
theorem tyI : (Tryz.prog.globals[2]?).map (·.type) = some 45 := by kernel_rfl
theorem tyE : (Tryz.prog.globals[3]?).map (·.type) = some 45 := by kernel_rfl
theorem tyM : (Tryz.prog.globals[1]?).map (·.type) = some 45 := by kernel_rfl
theorem tyO : (Tryz.prog.globals[0]?).map (·.type) = some 78 := by kernel_rfl
theorem tyH : (Tryz.prog.globals[4]?).map (·.type) = some 66 := by kernel_rfl
theorem tyK : (Tryz.prog.globals[5]?).map (·.type) = some 67 := by kernel_rfl
theorem laid_of {W : World} (h : LaidW 0 orw W) : Sc.Laid W := ⟨fun i hi => h.cell i hi, h.lt⟩
theorem tabs_of {W : World} (h1 : W.rangeAt 4 0 (Sh.h0w.map Sh.wc) ∧ 4 < W.heap.size) (h2 : W.rangeAt 5 0 (Sh.kw.map Sh.wc) ∧ 5 < W.heap.size) : Sh.Tabs W := ⟨h1.1, h2.1, by omega⟩
end Go.Proofs.YtobgimpkkjaolaaGreatDoor
