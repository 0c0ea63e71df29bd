/- A term pushed onto a heap's row: the walk. -/
import Derived.Test.YteiacgpaocnofaaGreatHq
namespace Go.Proofs.YteiacgpaocnofaaGreat
open Go.RowKit
set_option maxRecDepth 100000 in
set_option maxHeartbeats 2000000 in
theorem PPush_any {B P : Nat} {v : Value} {ys : List Tm} {x : Tm} {w : World} (h : HQ w B P v ys) (hx : Fl x) (hn : ys.length ≤ 50) (hB : B ≤ w.heap.size) :
    Calls Tryz.prog 261 #[.pointer (some ⟨P, 0, none⟩), .iface 33 (tv x none 0)] w fun e w' => e = .returned (.tuple #[]) ∧ ∃ g cap, HP w' B P g (ys.length + 1) cap (ys ++ [x]) ∧ Below B w w' := by
  obtain ⟨c0, f0⟩ := row_reads h.1
  have c00 := c0 0
  have f00 := f0 0
  simp only [List.getElem?_toArray, List.getElem?_cons_zero] at c00
  have hxl := hx.len
  unfold tv
  rw [hxl]
  have HW := hide (And.intro h (And.intro hx (And.intro hn hB)))
  obtain ⟨va, vn, vc, hv⟩ : ∃ va vn vc, v = .slice va vn vc := by
    rcases h.2.1.2 with ⟨rfl, _⟩ | ⟨g', cap, cur, rfl, _⟩
    · exact ⟨_, _, _, rfl⟩
    · exact ⟨_, _, _, rfl⟩
  have hvn : vn = ys.length := by
    subst hv
    rcases h.2.1.2 with ⟨e, e2⟩ | ⟨g', cap, cur, e, _⟩
    · injection e with _ e _; omega
    · injection e
  subst hvn
  subst hv
  have hta := ta_term (.agg #[.int .i64 x.k, .int .i64 x.n, .string x.s, .slice none 0 0])
  have cW := (Below.cell (p := ⟨P, 0, none⟩) (alloc_below w (.cells #[.int .i64 0, .int .i64 0, .string ⟨#[]⟩, .slice none 0 0] 33)) (Array.getElem?_eq_some_iff.1 HW.out.1.1).1).trans c00
  have mixed : Tryz.prog.follows .mixedOrders = true := by kernel_rfl
  clear h hx c0 f0 hxl
  go_enter Tryz.func261, Tryz.ntmps261
  go_wp2_with fail
  go_region_law (refine step_append_r appH rfl (.tmp 6) (.tmp 10) rfl (base := B) (n := ys.length) (v := .slice va ys.length vc) (xs := tcs ys) (row_ext HW.out.1.2.1 (Below.drew (alloc_below w _))) (by first | (simp [Act.eval]; done) | (simp [Act.eval, Act.put]; done)) (ad := ⟨w.heap.size, 0, none⟩) (m := 1) (c := 1) (news := tc zt) (by first | (simp [Act.eval]; done) | (simp [Act.eval, Act.put]; done)) rfl (zt_news (heap_alloc_last w _)) zt_one (by have := HW.out.2.2.1; unfold maxLen; omega) (by have := HW.out.2.2.1; omega) (by have := HW.out.2.2.2; simp; omega) ?_; intro v' w' hr hg hat; obtain ⟨g', cap', hv', hcap, hcm⟩ := row_form hr; subst hv'; have FX := push_facts HW.out.1 HW.out.2.2.2 (Below.drew (alloc_below w _)) hr hg hat; clear hr hg hat; obtain ⟨z0, z1, z2, z3⟩ := FX.1.cells (i := ys.length) (x := zt) (by simp); have fr := FX.1.frozenAt; have fr0 := fr (ys.length * 4); have fr1 := fr (ys.length * 4 + 1); have fr2 := fr (ys.length * 4 + 2); have fr3 := fr (ys.length * 4 + 3); have hix := fun w_ => ix_hterms w_ g' 0 (ys.length + 1) cap' ys.length (by omega); simp only [Nat.zero_add] at hix; have cP := (row_reads FX.2.2.1).1 0; have fP := (row_reads FX.2.2.1).2 0; simp only [List.getElem?_toArray, List.getElem?_cons_zero] at cP; have hPg : ¬ P = g' := FX.2.1; have hgP : ¬ g' = P := fun e => FX.2.1 e.symm; have HFX := hide FX; clear FX fr)
  all_goals
    go_end0
    have hd := push_done x HW.out.1.2.2 HFX.out
    have hd2 := push_done2 x HW.out.1.2.2 HFX.out
    refine ⟨rfl, g', cap', ?_⟩
    first | with_reducible exact hd | with_reducible exact hd2
end Go.Proofs.YteiacgpaocnofaaGreat
