/- Rows in memory that stay while other memory is made. -/
import Derived.Test.YteplbagjagimdaaDoorGen
import Derived.Test.YteplbagjagimdaaDoorDrawn
namespace Go.Proofs.YteplbagjagimdaaDoor
open Go.RowKit
theorem el_lits (x : Nat) : ∃ a b c d : Nat, el x = #[.int .u64 (a : Int), .int .u64 (b : Int), .int .u64 (c : Int), .int .u64 (d : Int)] := ⟨_, _, _, _, rfl⟩
/-- Rows in memory, and all that was there before. -/
structure At (w W : World) (rows : List (Nat × Array Value × TypeId)) : Prop where
  rows : ∀ p A T, (p, A, T) ∈ rows → W.heap[p]? = some (.cells A T (0, 0)) ∧ p < W.heap.size
  below : Below w.heap.size w W
theorem At.nil {w W : World} (h : Below w.heap.size w W) : At w W [] := ⟨fun _ _ _ hm => absurd hm (by simp), h⟩
theorem At.step {w W W' : World} {rows : List (Nat × Array Value × TypeId)} (h : At w W rows) (k : Below W.heap.size W W') : At w W' rows :=
  ⟨fun p A T hm => ⟨Below.heap k (h.rows p A T hm).2 (h.rows p A T hm).1, Nat.lt_of_lt_of_le (h.rows p A T hm).2 k.size⟩, Below.chain h.below k⟩
theorem At.drew {w W : World} {rows : List (Nat × Array Value × TypeId)} (h : At w W rows) : At w W.drew rows := ⟨h.rows, h.below.drew⟩
theorem At.alloc {w W : World} {rows : List (Nat × Array Value × TypeId)} (h : At w W rows) (A : Array Value) (T : TypeId) : At w (W.alloc (.cells A T)) ((W.heap.size, A, T) :: rows) := by
  refine ⟨fun p B U hm => ?_, h.below.alloc h.below.size _⟩
  rcases List.mem_cons.1 hm with e | e
  · cases e
    exact ⟨heap_alloc_last _ _, by simp⟩
  · have hr := h.rows p B U e
    exact ⟨(Below.heap_alloc _ _ _ hr.2).trans hr.1, by simp; omega⟩
theorem At.more {w W : World} {rows : List (Nat × Array Value × TypeId)} (h : At w W rows) {g : Nat} {A : Array Value} {T : TypeId} (hg : g < W.heap.size) (hr : W.heap[g]? = some (.cells A T (0, 0))) : At w W ((g, A, T) :: rows) := by
  refine ⟨fun p B U hm => ?_, h.below⟩
  rcases List.mem_cons.1 hm with e | e
  · cases e
    exact ⟨hr, hg⟩
  · exact h.rows p B U e
theorem At.rd {w W : World} {rows : List (Nat × Array Value × TypeId)} (h : At w W rows) {p : Nat} {A : Array Value} {T : TypeId} (hm : (p, A, T) ∈ rows) (i : Nat) : W.cell? ⟨p, i, none⟩ = A[i]? := (row_reads (h.rows p A T hm).1).1 i
theorem At.grd {w W : World} {rows : List (Nat × Array Value × TypeId)} (h : At w W rows) {p : Nat} {A : Array Value} {T : TypeId} (hm : (p, A, T) ∈ rows) : ∀ w' : World, W.grownBy w' none → ∀ i, w'.cell? ⟨p, i, none⟩ = A[i]? :=
  fun _ hg i => (h.step (Ext.of hg)).rd hm i
/-- What a slice of bytes is to a test of its length. -/
theorem BsAt.len {w : World} {v : Value} {bs : List Nat} (h : BsAt w v bs) : ∃ (ao : Option Addr) (c : Nat), v = .slice ao bs.length c ∧ bs.length ≤ c ∧ c ≤ 9223372036854775807 := by
  obtain ⟨b, o, c, ao, e, hc, hm, _⟩ := h
  exact ⟨ao, c, e, hc, by unfold maxLen at hm; omega⟩
end Go.Proofs.YteplbagjagimdaaDoor
