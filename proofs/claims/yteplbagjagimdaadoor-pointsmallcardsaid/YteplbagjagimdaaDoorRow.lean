/- Rows of words in memory: what lies in a block, how it is read and written; sums of rows, as the program's call answers them. -/
import Derived.Test.YteplbagjagimdaaDoorLeaf
import Derived.Deep.WholeRow
import Derived.Deep.MidRow
import Derived.Deep.RegionHeld3
namespace Go.Proofs.YteplbagjagimdaaDoor
open Go.RowKit
theorem hide {p : Prop} (h : p) : Hid p := h
/-- A row of words as the model has it. -/
def na (l : List Nat) : Array Value := (l.map fun (n : Nat) => Value.int .u64 (n : Int)).toArray
theorem na_size (l : List Nat) : (na l).size = l.length := by simp [na]
theorem na_get (l : List Nat) (k : Nat) (h : k < l.length) : (na l)[k]? = some (.int .u64 ((l.getD k 0 : Nat) : Int)) := by
  simp [na, List.getD_eq_getElem?_getD, h]
theorem na_set (l : List Nat) (k n : Nat) : (na l).setIfInBounds k (.int .u64 (n : Int)) = na (l.set k n) := by
  simp [na, List.map_set]
theorem na4 (a b c d : Nat) : na [a, b, c, d] = #[.int .u64 (a : Int), .int .u64 (b : Int), .int .u64 (c : Int), .int .u64 (d : Int)] := rfl
theorem keep_set {w : World} {g g' n m : Nat} {v x : Value} (hm : g ≠ g' ∨ m ≠ n) (h : w.cell? ⟨g, m, none⟩ = some x) : (w.setCell ⟨g', n, none⟩ v).drew.cell? ⟨g, m, none⟩ = some x := by
  show (w.setCell ⟨g', n, none⟩ v).cell? ⟨g, m, none⟩ = some x
  rw [World.cell?_setCell_other _ _ _ _ (fun e => by injection e with e1 e2; rcases hm with hm | hm; exact hm e1.symm; exact hm e2.symm)]; exact h
theorem heap_alloc_last3 (w : World) (a b c : Obj) : (((w.alloc a).alloc b).alloc c).heap[w.heap.size + 1 + 1]? = some c := by
  have h := heap_alloc_last ((w.alloc a).alloc b) c
  simpa using h
theorem heap_alloc_mid3 (w : World) (a b c : Obj) : (((w.alloc a).alloc b).alloc c).heap[w.heap.size + 1]? = some b := by
  rw [Below.heap_alloc _ _ _ (by simp)]
  have h := heap_alloc_last (w.alloc a) b
  simpa using h
theorem Below.setRow {B : Nat} {a w : World} (h : Below B a w) (g : Nat) (cs : Array Value) (hg : B ≤ g) : Below B a (w.setRow g cs) :=
  h.trans ⟨rfl, rfl, rfl, by simp, fun k hk => setRow_other w g k cs (by omega)⟩
theorem below3 (w : World) (a b c : Obj) : Below w.heap.size w (((w.alloc a).alloc b).alloc c) :=
  (((Below.refl _ _).alloc (Nat.le_refl _) _).alloc (by simp) _).alloc (by simp; omega) _
theorem und26 : Tryd.prog.underlying 26 = some (.array 4 24) := by kernel_rfl
theorem sum3_div (x y c : Nat) : (((x + y + c) / 18446744073709551616 : Nat) : Int) = ((x : Int) + y + c) / 18446744073709551616 := by omega
theorem sum3_mod (x y c : Nat) : ((x : Int) + y + c) % 18446744073709551616 = (((x + y + c) % 18446744073709551616 : Nat) : Int) := by omega
set_option maxHeartbeats 1000000 in
theorem add_list (la lb : List Nat) (ha : la.length = 4) (hb : lb.length = 4) (la' : lim la) (lb' : lim lb) (w : World) :
    Calls Tryd.prog 80 #[.agg (na la), .agg (na lb)] w fun e w' => ∃ (l : List Nat) (c : Nat), e = .returned (.tuple #[.agg (na l), .int .u64 (c : Int)]) ∧ l.length = 4 ∧ lim l ∧ val l + c * 18446744073709551616 ^ 4 = val la + val lb ∧ Below w.heap.size w w' := by
  go_enter Tryd.func80, Tryd.ntmps80
  go_wp2
  go_loopw [6, 8] (fun c i wr => ∃ (k : Nat) (l : List Nat) (cn : Nat), k ≤ 4 ∧ i = .int .i64 k ∧ c = .int .u64 (cn : Int) ∧ cn ≤ 1 ∧ l.length = 4 ∧ lim l ∧ val l + cn * 18446744073709551616 ^ k = val la + val (lb.take k) ∧ wr.heap[w.heap.size]? = some (.cells (na l) 26 (0,0)) ∧ wr.heap[w.heap.size + 1]? = some (.cells (na lb) 26 (0,0)) ∧ wr.heap[w.heap.size + 1 + 1]? = some (.cells #[.int .u64 0, .int .u64 0, .int .u64 0, .int .u64 0] 26 (0,0)) ∧ wr.heap.size = w.heap.size + 1 + 1 + 1 ∧ Below w.heap.size w wr) (fun _ i _ => 4 - (intOf i).toNat)
  case atStart =>
    refine ⟨0, la, 0, by omega, rfl, rfl, by omega, ha, la', by simp [val], ?_, heap_alloc_mid3 _ _ _ _, heap_alloc_last3 _ _ _ _, by simp, below3 _ _ _ _⟩
    rw [Below.heap_alloc _ _ _ (by simp; omega), Below.heap_alloc _ _ _ (by simp), heap_alloc_last]
  case round =>
    obtain ⟨k, l, cn, hk, rfl, rfl, hcn, hl, hlim, hval, hrow, hrb, hr0, hsz, hbel⟩ := hrel
    by_cases hlt : k < 4
    · have hcell : wr.cell? ⟨w.heap.size, k, none⟩ = some (.int .u64 ((l.getD k 0 : Nat) : Int)) := by
        rw [cell_of_row _ _ _ _ _ _ hrow, na_get _ _ (by omega)]
      have hcellb : wr.cell? ⟨w.heap.size + 1, k, none⟩ = some (.int .u64 ((lb.getD k 0 : Nat) : Int)) := by
        rw [cell_of_row _ _ _ _ _ _ hrb, na_get _ _ (by omega)]
      have hfro : wr.frozen? ⟨w.heap.size, k, none⟩ = false := frozen_of_row _ _ _ _ _ hrow
      have hx := hlim k
      have hy := lb' k
      have HR := hide hrow
      have HB := hide hrb
      have H0 := hide hr0
      have HV := hide hval
      have HT := hide (val_take lb k (by omega))
      have HL := hide hlim
      have HLB := hide lb'
      have HN := hide hl
      clear hrow hrb hr0 hval hlim lb' hl
      generalize hgx : l.getD k 0 = x at *
      generalize hgy : lb.getD k 0 = y at *
      have HX := hide hgx
      have HY := hide hgy
      clear hgx hgy
      have ha1 := add64_nat x y cn hcn
      have b0 : (0 : Int) ≤ (k : Int) := by omega
      have b1 : (k : Int) < 4 := by omega
      go_wp2
      go_region
      go_wp2
      go_roundw
      case rel =>
        refine ⟨k + 1, l.set k ((x + y + cn) % 18446744073709551616), (x + y + cn) / 18446744073709551616, by omega, by go_num, by rw [sum3_div], by omega, by rw [List.length_set, HN.out], lim_set HL.out _ _ (by omega), ?_, ?_, ?_, ?_, ?_, ?_⟩
        · rw [HT.out, ← Nat.add_assoc]
          exact add_step (by rw [HN.out]; omega) rfl HX.out HV.out
        · rw [heap_drew, heap_setCell_same _ _ _ _ _ _ HR.out, sum3_mod, na_set]
        · rw [heap_drew, heap_setCell_other _ _ _ _ (by simp)]; exact HB.out
        · rw [heap_drew, heap_setCell_other _ _ _ _ (by simp; omega)]; exact H0.out
        · simpa [heap_drew] using hsz
        · exact (hbel.setCell (by simp) _).drew
      case measure => simp [intOf]; omega
    · obtain ⟨x0, x1, x2, x3, rfl⟩ := four hl
      have hk4 : k = 4 := by omega
      rw [hk4, List.take_of_length_le (by omega)] at hval
      rw [na4] at hrow
      have HV := hide hval
      have HL := hide hlim
      have c0 : wr.cell? ⟨w.heap.size, 0, none⟩ = some (.int .u64 (x0 : Int)) := by rw [cell_of_row _ _ _ _ _ _ hrow]; rfl
      have c1 : wr.cell? ⟨w.heap.size, 1, none⟩ = some (.int .u64 (x1 : Int)) := by rw [cell_of_row _ _ _ _ _ _ hrow]; rfl
      have c2 : wr.cell? ⟨w.heap.size, 2, none⟩ = some (.int .u64 (x2 : Int)) := by rw [cell_of_row _ _ _ _ _ _ hrow]; rfl
      have c3 : wr.cell? ⟨w.heap.size, 3, none⟩ = some (.int .u64 (x3 : Int)) := by rw [cell_of_row _ _ _ _ _ _ hrow]; rfl
      have d0 : wr.cell? ⟨w.heap.size + 1 + 1, 0, none⟩ = some (.int .u64 0) := by rw [cell_of_row _ _ _ _ _ _ hr0]; rfl
      have d1 : wr.cell? ⟨w.heap.size + 1 + 1, 1, none⟩ = some (.int .u64 0) := by rw [cell_of_row _ _ _ _ _ _ hr0]; rfl
      have d2 : wr.cell? ⟨w.heap.size + 1 + 1, 2, none⟩ = some (.int .u64 0) := by rw [cell_of_row _ _ _ _ _ _ hr0]; rfl
      have d3 : wr.cell? ⟨w.heap.size + 1 + 1, 3, none⟩ = some (.int .u64 0) := by rw [cell_of_row _ _ _ _ _ _ hr0]; rfl
      have hfro : ∀ i, wr.frozen? ⟨w.heap.size + 1 + 1, i, none⟩ = false := fun i => frozen_of_row _ _ _ _ _ hr0
      clear hval hlim
      go_wp2
      refine bodyPost_ret (v := .tuple #[.agg (na [x0, x1, x2, x3]), .int .u64 (cn : Int)]) (by simp [results, Tryd.results80, go_sem, na4, d0, d1, d2, d3]) rfl ⟨[x0, x1, x2, x3], cn, rfl, rfl, HL.out, HV.out, ?_⟩
      exact (((hbel.setCell (by simp; omega) _).setCell (by simp; omega) _).setCell (by simp; omega) _).setCell (by simp; omega) _
end Go.Proofs.YteplbagjagimdaaDoor
