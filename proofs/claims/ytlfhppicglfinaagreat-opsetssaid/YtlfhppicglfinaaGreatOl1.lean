/- Variables of a law that hold terms: they stay while calls make memory. -/
import Derived.Test.YtlfhppicglfinaaGreatOl0
namespace Go.Proofs.YtlfhppicglfinaaGreat
open Go.RowKit
/-- Variables, each in its block; what was there before the law stays. -/
structure KR (w0 : World) (rows : List (Nat × Array Value)) (W : World) : Prop where
  bel : Below w0.heap.size w0 W
  row : ∀ p ∈ rows, W.heap[p.1]? = some (.cells p.2 24 (0, 0))
theorem KR.nil (w : World) : KR w [] w := ⟨Below.refl _ _, fun p hp => by simp at hp⟩
theorem KR.ext {w0 W w : World} {rows : List (Nat × Array Value)} (h : KR w0 rows W) (he : Below W.heap.size W w) : KR w0 rows w :=
  ⟨Below.chain h.bel he, fun p hp => Below.heap he (Array.getElem?_eq_some_iff.1 (h.row p hp)).1 (h.row p hp)⟩
theorem KR.add {w0 W : World} {rows : List (Nat × Array Value)} (h : KR w0 rows W) (p : Nat) (cs : Array Value) (hp : p = W.heap.size) : KR w0 ((p, cs) :: rows) (W.alloc (.cells cs 24)) :=
  ⟨Below.chain h.bel (alloc_below _ _), fun q hq => by
    rcases List.mem_cons.1 hq with rfl | hq
    · rw [hp]; exact heap_alloc_last _ _
    · exact Below.heap (alloc_below _ _) (Array.getElem?_eq_some_iff.1 (h.row q hq)).1 (h.row q hq)⟩
theorem KR.cell {w0 W : World} {rows : List (Nat × Array Value)} (h : KR w0 rows W) {p : Nat} {cs : Array Value} (hp : (p, cs) ∈ rows) {i : Nat} {v : Value} (hv : cs[i]? = some v) : W.cell? ⟨p, i, none⟩ = some v := by
  rw [cell_of_row _ _ _ _ _ _ (h.row _ hp)]; exact hv
abbrev zvC : Array Value := #[.int .i64 0, .int .i64 0, .string ⟨#[]⟩, .slice none 0 0]
abbrev nvC (z : Int) : Array Value := #[.int .i64 2, .int .i64 z, .string ⟨#[]⟩, .slice none 0 0]
abbrev tvB (b : Bool) : Array Value := #[.int .i64 6, .int .i64 (if b then 1 else 0), .string ⟨#[]⟩, .slice none 0 0]
abbrev tvS (s : ByteArray) : Array Value := #[.int .i64 3, .int .i64 0, .string s, .slice none 0 0]
end Go.Proofs.YtlfhppicglfinaaGreat
