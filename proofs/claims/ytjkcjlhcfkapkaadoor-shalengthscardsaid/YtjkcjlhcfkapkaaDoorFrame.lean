/- What the rows of this seat list: the two tables of the page, cell by cell. -/
import Derived.Test.YtjkcjlhcfkapkaaDoorFold
import Derived.Lib.LaidTab
import Derived.Stop.LaidErr
import Derived.LaidSub
namespace Go.Proofs.YtjkcjlhcfkapkaaDoor
def nm0 : String := ((Rows.shaNilRow.laid.map Prod.fst)[0]?).getD default
def nm1 : String := ((Rows.shaNilRow.laid.map Prod.fst)[1]?).getD default
theorem laid_eq : Rows.shaNilRow.laid = [(nm0, Lib.tabData .u64 (h0w.map wn)), (nm1, Lib.tabData .u64 (kw.map wn))] := by kernel_rfl
theorem gTab0 : Tryd.prog.globalNamed nm0 = some 0 := by kernel_rfl
theorem gTab1 : Tryd.prog.globalNamed nm1 = some 1 := by kernel_rfl
theorem gType0 : (Tryd.prog.globals[0]?).map (·.type) = some 35 := by kernel_rfl
theorem gType1 : (Tryd.prog.globals[1]?).map (·.type) = some 36 := by kernel_rfl
theorem cells30 : Tryd.prog.cellsOf 30 = 1 := by kernel_rfl
theorem cells35 : Tryd.prog.cellsOf 35 = 8 := by kernel_rfl
theorem cells36 : Tryd.prog.cellsOf 36 = 80 := by kernel_rfl
theorem tabs_of_laid {W : World} (h : laidMetH Tryd.prog Rows.shaNilRow.laid W) : Tabs W := by
  have h1 : laidMet Tryd.prog [(nm0, Lib.tabData .u64 (h0w.map wn)), (nm1, Lib.tabData .u64 (kw.map wn))] W := by
    rw [laid_eq] at h; exact h
  have t0 := Lib.tabIs_of_head gTab0 gType0 und35 Tryd.underlying30 cells30 cells35 h1
  have t1 := Lib.tabIs_of_head gTab1 gType1 und36 Tryd.underlying30 cells30 cells36 h1.tail
  have c0 : ∀ i, i < 8 → W.cell? ⟨0, i, none⟩ = some (wc (h0w.getD i 0)) := fun i hi => by
    have hl : i < h0w.length := hi
    rw [t0.cell gTab0 i (by rw [List.length_map]; exact hl), wc, List.getD_eq_getElem?_getD, List.getD_eq_getElem?_getD, List.getElem?_map, List.getElem?_eq_getElem hl]; rfl
  have c1 : ∀ i, i < 80 → W.cell? ⟨1, i, none⟩ = some (wc (kw.getD i 0)) := fun i hi => by
    have hl : i < kw.length := hi
    rw [t1.cell gTab1 i (by rw [List.length_map]; exact hl), wc, List.getD_eq_getElem?_getD, List.getD_eq_getElem?_getD, List.getElem?_map, List.getElem?_eq_getElem hl]; rfl
  refine ⟨?_, ?_, ?_⟩
  · intro j v hv
    have hj : j < h0w.length := by simpa using (List.getElem?_eq_some_iff.1 hv).1
    rw [Nat.zero_add, c0 j hj, ← hv, List.getElem?_map, List.getD_eq_getElem?_getD, List.getElem?_eq_getElem hj]; rfl
  · intro j v hv
    have hj : j < kw.length := by simpa using (List.getElem?_eq_some_iff.1 hv).1
    rw [Nat.zero_add, c1 j hj, ← hv, List.getElem?_map, List.getD_eq_getElem?_getD, List.getElem?_eq_getElem hj]; rfl
  · have := World.block_lt_of_cell? W _ (c1 0 (by decide)); exact this
end Go.Proofs.YtjkcjlhcfkapkaaDoor
