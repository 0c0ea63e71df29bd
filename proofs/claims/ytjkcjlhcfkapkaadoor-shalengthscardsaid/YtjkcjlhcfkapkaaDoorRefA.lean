/- The page's own SHA-512, what its loops share: the way to a loop in the text; worlds that part in one row only; the table of constants. -/
import Derived.Test.YtjkcjlhcfkapkaaDoorHash
import Derived.Great.BuildSlice
namespace Go.Proofs.YtjkcjlhcfkapkaaDoor
open Go.RowKit
/-- The statement at the end of a way into a text. -/
def nav : List Nat → Code → Code
  | [], c => c
  | 0 :: p, .seq a _ => nav p a
  | _ :: p, .seq _ b => nav p b
  | 0 :: p, .cond _ a _ => nav p a
  | _ :: p, .cond _ _ b => nav p b
  | _ :: p, .block _ c => nav p c
  | _ :: p, .loop c => nav p c
  | _ :: p, .scope c => nav p c
  | _ :: _, c => c
/-- Only the row p may have changed. -/
structure Only (p : Nat) (w w' : World) : Prop where
  below : ∀ B, B ≤ p → Below B w w'
  size : w'.heap.size = w.heap.size
  other : ∀ i, i ≠ p → w'.heap[i]? = w.heap[i]?
theorem Only.refl (p : Nat) (w : World) : Only p w w := ⟨fun _ _ => Below.refl _ _, rfl, fun _ _ => rfl⟩
theorem Only.trans {p : Nat} {a b c : World} (h : Only p a b) (k : Only p b c) : Only p a c :=
  ⟨fun B hB => (h.below B hB).trans (k.below B hB), k.size.trans h.size, fun i hi => (k.other i hi).trans (h.other i hi)⟩
theorem Only.setCell {p : Nat} {a w : World} (h : Only p a w) (i : Nat) (v : Value) : Only p a (w.setCell ⟨p, i, none⟩ v) :=
  ⟨fun B hB => (h.below B hB).setCell hB _, by rw [← h.size]; simp [World.setCell], fun k hk => (heap_setCell_other _ _ _ _ hk).trans (h.other k hk)⟩
theorem Only.setRow {p : Nat} {a w : World} (h : Only p a w) (cs : Array Value) : Only p a (w.setRow p cs) :=
  ⟨fun B hB => Below.setRow (h.below B hB) _ _ hB, by rw [← h.size]; simp, fun k hk => (setRow_other w p k cs (by omega)).trans (h.other k hk)⟩
theorem Only.drew {p : Nat} {a w : World} (h : Only p a w) : Only p a w.drew := ⟨fun B hB => (h.below B hB).drew, h.size, h.other⟩
theorem Only.drewN {p : Nat} {a w : World} (h : Only p a w) (n : Nat) : Only p a (w.drewN n) := ⟨fun B hB => below_drewN (h.below B hB) n, h.size, h.other⟩
theorem Only.row {p i : Nat} {a w : World} {o : Option Obj} (h : Only p a w) (hi : i ≠ p) (hr : a.heap[i]? = o) : w.heap[i]? = o := (h.other i hi).trans hr
theorem Only.range {p i o : Nat} {a w : World} {l : List Value} (h : Only p a w) (hi : i ≠ p) (hr : a.rangeAt i o l) : w.rangeAt i o l := fun j v hv => by
  rw [← hr j v hv]; simp only [World.cell?]; rw [h.other i hi]
theorem row_cell {w : World} {g j t : Nat} {l : List (BitVec 64)} (h : w.heap[g]? = some (.cells (wa l) t (0, 0))) (hj : j < l.length) : w.cell? ⟨g, j, none⟩ = some (.int .u64 (wn (l.getD j 0))) := by
  rw [cell_of_row _ _ _ _ _ _ h, wa_get _ _ hj]
theorem rotr_int (x : BitVec 64) (m : Int) (h1 : 1 ≤ m) (h2 : m ≤ 63) (w : World) :
    Calls Tryd.prog 15 #[.int .u64 (wn x), .int .u64 m] w fun e w' => e = .returned (.int .u64 (wn (rotr x m.toNat))) ∧ w' = w := by
  obtain ⟨n, rfl⟩ := Int.eq_ofNat_of_zero_le (show 0 ≤ m by omega)
  exact ref_rotr x n (by omega) (by omega) w
theorem below1 (w : World) (a : Obj) : Below w.heap.size w (w.alloc a) := (Below.refl _ _).alloc (Nat.le_refl _) _
theorem kw80 : (wa kw).size = 80 := by rw [wa_size]; rfl
set_option maxRecDepth 100000 in
set_option maxHeartbeats 400000 in
theorem consts_any (w : World) : Calls Tryd.prog 14 #[] w fun e w' => e = .returned (.agg (wa kw)) ∧ Below w.heap.size w w' := by
  have hz := zero36
  go_enter Tryd.func14, Tryd.ntmps14
  go_wp2_with (first | (refine wpList_buildTo rfl 36 _ rfl (some 1) rfl (wa kw) (by kernel_rfl) ?_) | (refine wpList_store_row rfl 36 (.tmp 0) (.tmp 1) rfl w.heap.size (wa kw) rfl rfl 36 (wa z80) (heap_alloc_last _ _) (by rw [kw80]; exact size36) (by rw [kw80]; rfl) (wa_one _) ?_))
  refine bodyPost_ret_by (results_cell_row rfl _ _ w.heap.size 36 (wa kw) (0, 0) (.array 80 30) rfl (setRow_heap _ _ _ _ _ _ (heap_alloc_last _ _)) und36 rfl (by rw [kw80]; exact size36)) rfl ⟨rfl, ?_⟩
  exact Below.setRow (below1 _ _) _ _ (by omega)
end Go.Proofs.YtjkcjlhcfkapkaaDoor
