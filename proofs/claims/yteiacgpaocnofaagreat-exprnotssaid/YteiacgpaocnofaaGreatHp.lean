/- A heap of terms in memory: its row; two of its terms put in each other's places. -/
import Derived.Test.YteiacgpaocnofaaGreatRm
import Derived.Shelf.RegionOpenPlain
namespace Go.Proofs.YteiacgpaocnofaaGreat
open Go.RowKit
/-- The cells of a term without a list. -/
def tc (t : Tm) : List Value := [.int .i64 t.k, .int .i64 t.n, .string t.s, .slice none 0 0]
def tcs (xs : List Tm) : List Value := (xs.map tc).flatten
theorem tcs_cons (t : Tm) (xs : List Tm) : tcs (t :: xs) = .int .i64 t.k :: .int .i64 t.n :: .string t.s :: .slice none 0 0 :: tcs xs := rfl
theorem tcs_app (xs ys : List Tm) : tcs (xs ++ ys) = tcs xs ++ tcs ys := by simp [tcs]
theorem tcs_len : ∀ xs : List Tm, (tcs xs).length = xs.length * 4
  | [] => rfl
  | t :: xs => by rw [tcs_cons]; simp [tcs_len xs]; omega
theorem tcs_get : ∀ {xs : List Tm} {i : Nat} {x : Tm}, xs[i]? = some x → (tcs xs)[i * 4]? = some (.int .i64 x.k) ∧ (tcs xs)[i * 4 + 1]? = some (.int .i64 x.n) ∧ (tcs xs)[i * 4 + 2]? = some (.string x.s) ∧ (tcs xs)[i * 4 + 3]? = some (.slice none 0 0)
  | [], i, x, h => by simp at h
  | t :: xs, 0, x, h => by simp at h; subst h; exact ⟨rfl, rfl, rfl, rfl⟩
  | t :: xs, i + 1, x, h => by
    have ih := tcs_get (xs := xs) (i := i) (x := x) (by simpa using h)
    rw [tcs_cons, show (i + 1) * 4 = i * 4 + 4 by omega]
    exact ih
theorem tcs_set : ∀ (xs : List Tm) (i : Nat) (x : Tm), tcs (xs.set i x) = ((((tcs xs).set (i * 4) (.int .i64 x.k)).set (i * 4 + 1) (.int .i64 x.n)).set (i * 4 + 2) (.string x.s)).set (i * 4 + 3) (.slice none 0 0)
  | [], i, x => by simp [tcs]
  | t :: xs, 0, x => by simp [tcs_cons]
  | t :: xs, i + 1, x => by
    have ih := tcs_set xs i x
    rw [List.set_cons_succ, tcs_cons, tcs_cons, ih, show (i + 1) * 4 = i * 4 + 4 by omega]
    rfl
theorem tcs_take : ∀ (xs : List Tm) (n : Nat), tcs (xs.take n) = (tcs xs).take (n * 4)
  | [], n => by simp [tcs]
  | t :: xs, 0 => by simp [tcs]
  | t :: xs, n + 1 => by
    rw [List.take_succ_cons, tcs_cons, tcs_cons, tcs_take xs n, show (n + 1) * 4 = n * 4 + 4 by omega]
    rfl
/-- A row of such terms. -/
abbrev HR (w : World) (B g n cap : Nat) (ys : List Tm) : Prop := w.ownsRow B 33 4 (.slice (some ⟨g, 0, none⟩) n cap) n (tcs ys)
theorem HR.cells {w : World} {B g n cap : Nat} {ys : List Tm} (h : HR w B g n cap ys) {i : Nat} {x : Tm} (hx : ys[i]? = some x) : (w.cell? ⟨g, i * 4, none⟩ = some (.int .i64 x.k) ∧ w.cell? ⟨g, i * 4 + 1, none⟩ = some (.int .i64 x.n) ∧ w.cell? ⟨g, i * 4 + 2, none⟩ = some (.string x.s) ∧ w.cell? ⟨g, i * 4 + 3, none⟩ = some (.slice none 0 0)) := by
  have hl := (List.getElem?_eq_some_iff.1 hx).1
  have hn : ys.length = n := by have h1 := h.1; rw [tcs_len] at h1; omega
  have hg := tcs_get hx
  exact ⟨(h.cellAt (i * 4) (by omega)).trans hg.1, (h.cellAt (i * 4 + 1) (by omega)).trans hg.2.1, (h.cellAt (i * 4 + 2) (by omega)).trans hg.2.2.1, (h.cellAt (i * 4 + 3) (by omega)).trans hg.2.2.2⟩
/-- A world with a term put in a place of the row. -/
abbrev putT (w : World) (g i : Nat) (x : Tm) : World := (((w.setCell ⟨g, i * 4, none⟩ (.int .i64 x.k)).setCell ⟨g, i * 4 + 1, none⟩ (.int .i64 x.n)).setCell ⟨g, i * 4 + 2, none⟩ (.string x.s)).setCell ⟨g, i * 4 + 3, none⟩ (.slice none 0 0)
theorem put_row {w : World} {B g n cap : Nat} {ys : List Tm} (h : HR w B g n cap ys) (i : Nat) (x : Tm) : HR (putT w g i x) B g n cap (ys.set i x) := by
  unfold HR
  rw [tcs_set]
  exact (((((h.stored (i * 4) (.int .i64 x.k)).1.stored (i * 4 + 1) (.int .i64 x.n)).1.stored (i * 4 + 2) (.string x.s)).1).stored (i * 4 + 3) (.slice none 0 0)).1
theorem grown_cell {a w : World} {g : Nat} (h : a.grownBy w (some g)) (i : Nat) (x : Value) : a.grownBy (w.setCell ⟨g, i, none⟩ x) (some g) := by
  refine gr_trans h ⟨rfl, rfl, rfl, by simp, fun k _ hne => ?_⟩ (fun k hk => .inl hk)
  exact Below.heap_setCell _ ⟨g, i, none⟩ x k (fun e => hne (by rw [e]))
theorem grown_put {a w : World} {g : Nat} (h : a.grownBy w (some g)) (i : Nat) (x : Tm) : a.grownBy (putT w g i x) (some g) :=
  grown_cell (grown_cell (grown_cell (grown_cell h _ _) _ _) _ _) _ _
theorem gr_drew {a w : World} {X : Option Nat} (h : a.grownBy w X) : a.grownBy w.drew X := ⟨h.os, h.tape, h.output, h.size, h.block⟩
theorem drew_row {w : World} {B g n cap : Nat} {ys : List Tm} (h : HR w B g n cap ys) : HR w.drew B g n cap ys := World.ownsRow.drew h
set_option maxRecDepth 100000 in
set_option maxHeartbeats 4000000 in
theorem Swap_any {B g n cap i j : Nat} {ys : List Tm} {x y : Tm} {w : World} (h : HR w B g n cap ys) (hi : i < n) (hj : j < n) (hx : ys[i]? = some x) (hy : ys[j]? = some y) :
    Calls Tryz.prog 262 #[.slice (some ⟨g, 0, none⟩) n cap, .int .i64 (i : Int), .int .i64 (j : Int)] w fun e w' => e = .returned (.tuple #[]) ∧ HR w' B g n cap ((ys.set i y).set j x) ∧ w.grownBy w' (some g) := by
  obtain ⟨a0, a1, a2, a3⟩ := h.cells hx
  obtain ⟨b0, b1, b2, b3⟩ := h.cells hy
  have f := h.frozenAt
  have fa0 := f (i * 4)
  have fa1 := f (i * 4 + 1)
  have fa2 := f (i * 4 + 2)
  have fa3 := f (i * 4 + 3)
  have fb0 := f (j * 4)
  have fb1 := f (j * 4 + 1)
  have fb2 := f (j * 4 + 2)
  have fb3 := f (j * 4 + 3)
  have i1 := fun w_ => ix_hterms w_ g 0 n cap i hi
  have i2 := fun w_ => ix_hterms w_ g 0 n cap j hj
  simp only [Nat.zero_add] at i1 i2
  have H0 := hide h
  clear h f
  have mixed : Tryz.prog.follows .mixedOrders = true := by kernel_rfl
  by_cases hij : i = j
  · subst hij
    obtain rfl : y = x := by rw [hx] at hy; injection hy with hy; exact hy.symm
    clear hx hy
    go_enter Tryz.func262, Tryz.ntmps262
    go_wp2_with fail
    go_region_o
    all_goals
      go_end0
      exact ⟨rfl, drew_row (put_row (put_row H0.out i y) i y), gr_drew (grown_put (grown_put (grown_refl _ _) i y) i y)⟩
  · have hji : ¬ j = i := fun e => hij e.symm
    clear hx hy
    go_enter Tryz.func262, Tryz.ntmps262
    go_wp2_with fail
    go_region_o
    all_goals
      go_end0
      exact ⟨rfl, drew_row (put_row (put_row H0.out i y) j x), gr_drew (grown_put (grown_put (grown_refl _ _) i y) j x)⟩
end Go.Proofs.YteiacgpaocnofaaGreat
