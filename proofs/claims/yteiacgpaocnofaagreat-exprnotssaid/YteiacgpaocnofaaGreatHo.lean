/- The last term taken off a heap's row. -/
import Derived.Test.YteiacgpaocnofaaGreatHq
namespace Go.Proofs.YteiacgpaocnofaaGreat
open Go.RowKit
theorem HR.cut {w : World} {B g n cap : Nat} {ys : List Tm} (h : HR w B g (n + 1) cap ys) : HR w B g n cap (ys.take n) := by
  have hl : ys.length = n + 1 := by have h1 := h.1; rw [tcs_len] at h1; omega
  refine ⟨by rw [tcs_len, List.length_take, hl, Nat.min_eq_left (by omega)], ?_⟩
  rcases h.2 with ⟨e1, _⟩ | ⟨b, c', cur, e1, hb, hr, hn, hm, hs, ht⟩
  · cases e1
  · injection e1 with e1 e2 e3
    injection e1 with e1
    injection e1 with e4 _ _
    subst e3 e4
    refine .inr ⟨g, cap, cur, rfl, hb, hr, by omega, hm, hs, ?_⟩
    have h3 := congrArg (List.take (n * 4)) ht
    rw [List.take_take, Nat.min_eq_left (by omega)] at h3
    rw [h3, tcs_take]
/-- Only two blocks of what was there have changed. -/
structure Mod2 (w w' : World) (P g : Nat) : Prop where
  os : w'.os = w.os
  tape : w'.tape = w.tape
  output : w'.output = w.output
  size : w.heap.size ≤ w'.heap.size
  block : ∀ k, k < w.heap.size → k ≠ P → k ≠ g → w'.heap[k]? = w.heap[k]?
theorem Mod2.trans {a b c : World} {P g : Nat} (h : Mod2 a b P g) (k : Mod2 b c P g) : Mod2 a c P g :=
  ⟨k.os.trans h.os, k.tape.trans h.tape, k.output.trans h.output, Nat.le_trans h.size k.size, fun i hi h1 h2 => (k.block i (Nat.lt_of_lt_of_le hi h.size) h1 h2).trans (h.block i hi h1 h2)⟩
theorem Mod2.of {w w' : World} {P g k : Nat} (h : w.grownBy w' (some k)) (hk : k = P ∨ k = g) : Mod2 w w' P g :=
  ⟨h.os, h.tape, h.output, h.size, fun i hi h1 h2 => h.block i hi (fun e => by injection e with e; rcases hk with rfl | rfl; exact h1 e; exact h2 e)⟩
theorem Mod2.below {w w' : World} {B P g : Nat} (h : Mod2 w w' P g) (hP : B ≤ P) (hg : B ≤ g) (hB : B ≤ w.heap.size) : Below B w w' :=
  ⟨h.os, h.tape, h.output, h.size, fun k hk => h.block k (by omega) (by omega) (by omega)⟩
set_option maxRecDepth 100000 in
set_option maxHeartbeats 1000000 in
theorem PPop_any {B P g n cap : Nat} {ys : List Tm} {x : Tm} {w : World} (h : HP w B P g (n + 1) cap ys) (hn : n ≤ 100) (hx : ys[n]? = some x) (fx : Fl x) :
    Calls Tryz.prog 260 #[.pointer (some ⟨P, 0, none⟩)] w fun e w' => e = .returned (.iface 33 (tv x none 0)) ∧ HP w' B P g n cap (ys.take n) ∧ w.grownBy w' (some P) := by
  have hPlt := (Array.getElem?_eq_some_iff.1 h.1).1
  have b1 := alloc_below w (.cells #[.int .i64 x.k, .int .i64 x.n, .string x.s, .slice none 0 0] 33)
  have r1 := Below.heap b1 hPlt h.1
  obtain ⟨c1, f1⟩ := row_reads r1
  have c10 := c1 0
  have f10 := f1 0
  obtain ⟨c0, f0⟩ := row_reads h.1
  have c00 := c0 0
  simp only [List.getElem?_toArray, List.getElem?_cons_zero] at c00 c10
  obtain ⟨z0, z1, z2, z3⟩ := h.2.1.cells hx
  have hix := fun w_ => ix_hterms w_ g 0 (n + 1) cap n (by omega)
  simp only [Nat.zero_add] at hix
  have hs : ((n + 1 : Nat) : Int) - 1 = (n : Int) := by omega
  have hb1 : ((n + 1 : Nat) : Int) ≤ 1000 := by omega
  have hb2 : 0 ≤ ((n + 1 : Nat) : Int) := by omega
  have hb3 : (n : Int) ≤ 1000 := by omega
  have hb4 : 0 ≤ (n : Int) := by omega
  have hcap : n + 1 ≤ cap := by
    rcases h.2.1.2 with ⟨e, _⟩ | ⟨g', c', cur, e, _, _, hn, _⟩
    · cases e
    · injection e with _ _ e; omega
  have hcap2 : ¬ ((cap : Int) < (n : Int)) := by omega
  have hPs : ¬ P = w.heap.size := by omega
  have hsP : ¬ w.heap.size = P := by omega
  have q1 := set_one (v := .slice (some ⟨g, 0, none⟩) n cap) h.1
  have q2 := (h.2.1.cut).beside h.2.2.2 (.slice (some ⟨g, 0, none⟩) n cap)
  have b2 := alloc_below (w.setCell ⟨P, 0, none⟩ (.slice (some ⟨g, 0, none⟩) n cap)) (.cells #[.int .i64 x.k, .int .i64 x.n, .string x.s, .slice none 0 0] 33)
  have HX := hide (show HP ((w.setCell ⟨P, 0, none⟩ (.slice (some ⟨g, 0, none⟩) n cap)).alloc (.cells #[.int .i64 x.k, .int .i64 x.n, .string x.s, .slice none 0 0] 33)) B P g n cap (ys.take n) ∧ w.grownBy ((w.setCell ⟨P, 0, none⟩ (.slice (some ⟨g, 0, none⟩) n cap)).alloc (.cells #[.int .i64 x.k, .int .i64 x.n, .string x.s, .slice none 0 0] 33)) (some P) from
    ⟨⟨Below.heap b2 (Array.getElem?_eq_some_iff.1 q1).1 q1, q2.ext b2, h.2.2.1, h.2.2.2⟩, gr_trans (grown_cell (grown_refl w (some P)) 0 _) (grown_alloc _ (some P) _) (fun k hk => .inl hk)⟩)
  clear q1 q2 b2
  have hxl := fx.len
  unfold tv
  rw [hxl]
  clear h c0 f0 c1 f1 r1 b1 hx fx hxl
  go_enter Tryz.func260, Tryz.ntmps260
  go_wp2
  go_ret
  exact ⟨rfl, HX.out.1, HX.out.2⟩
end Go.Proofs.YteiacgpaocnofaaGreat
