/- A term pushed onto a heap's row. -/
import Derived.Test.YteiacgpaocnofaaGreatHd
import Derived.Deep.RegionLaw
namespace Go.Proofs.YteiacgpaocnofaaGreat
open Go.RowKit
theorem step_append_r {t e size bytes : Nat} (hA : AppTy t e size bytes) {ops : Array Oper} {o : Oper} {a : Act} {w : World} {K : Act → World → Prop} {Q : Exit → Act → World → Prop} {E : Prop}
    (hg : o.guard = none) (s x : Operand) (hop : o.op = Op.call { callee := Callee.builtin Builtin.append, args := #[s, x], argTypes := #[t, t] })
    {base n : Nat} {v : Value} {xs : List Value} (h : w.ownsRow base e size v n xs) (hs : a.eval s = v) {ad : Addr} {m c : Nat} {news : List Value} (hx : a.eval x = .slice (some ad) m c) (hl : news.length = m * size) (hnews : ∀ j u, news[j]? = some u → w.cell? (ad.add j) = some u) (h1 : ∀ u ∈ news, u.oneCell' = true)
    (h63 : n + m ≤ maxLen) (hby : (n + m) * bytes ≤ 140737488355328) (hb : base ≤ w.heap.size)
    (hK : ∀ v' w', w'.ownsRow base e size v' (n + m) (xs ++ news) → w.grownBy w' v.ownBlock → (v'.ownBlock = v.ownBlock ∨ v'.ownBlock = some w.heap.size) → K (a.put o.dst v') w') :
    if Region.wanted o (yielded ops a.tmps) = true then Oper.wp Tryz.prog o a w K Q else E := by
  have hw : Region.wanted o (yielded ops a.tmps) = true := by simp [Region.wanted, hg]
  rw [if_pos hw]
  obtain ⟨i, z, hi, hz, hsz, hbt, hzs⟩ := hA.info
  obtain ⟨v', w', hr, h2, h3, _, h4⟩ := run_append_own_at (P := Tryz.prog) w base t o.type e i z size bytes hA.und hi hz hsz hbt hzs hA.pos v n xs h ad m c news hl hnews h1 h63 hby hb
  exact Oper.wp_value (run_op_append hop (by rw [hs, hx]; exact hr)) (hK v' w' h2 h3 h4)
/-- A heap's pointer and row, be it empty. -/
def HQ (w : World) (B P : Nat) (v : Value) (ys : List Tm) : Prop := w.heap[P]? = some (.cells #[v] 186 (0, 0)) ∧ w.ownsRow B 33 4 v ys.length (tcs ys) ∧ B ≤ P
theorem HQ.nb {w : World} {B P : Nat} {v : Value} {ys : List Tm} (h : HQ w B P v ys) : ∀ g, v.ownBlock = some g → P ≠ g := fun g hg e => by
  subst e
  rcases h.2.1.2 with ⟨rfl, _⟩ | ⟨g', cap, cur, rfl, _, hr, _⟩
  · cases hg
  · injection hg with hg
    subst hg
    have h1 := h.1
    rw [hr] at h1
    injection h1 with h1
    injection h1 with _ h1 _
    exact absurd h1 (by decide)
theorem ta_term (v : Value) (w : World) : (Instr.typeAssert (.iface 33 v) 20 33 false).run Tryz.prog w = .ok v w := by
  unfold Instr.typeAssert
  simp [run_underlying Tryz.underlying33]
def zt : Tm := .mk 0 0 ⟨#[]⟩ []
theorem row_form {w : World} {B n : Nat} {v : Value} {xs : List Value} (h : w.ownsRow B 33 4 v (n + 1) xs) : ∃ g cap, v = .slice (some ⟨g, 0, none⟩) (n + 1) cap ∧ n + 1 ≤ cap ∧ cap ≤ 9223372036854775807 := by
  rcases h.2 with ⟨_, e⟩ | ⟨g, cap, cur, rfl, _, _, hn, hm, _⟩
  · omega
  · exact ⟨g, cap, rfl, hn, by unfold maxLen at hm; omega⟩
theorem zt_news {W : World} {g : Nat} (h : W.heap[g]? = some (.cells #[.int .i64 0, .int .i64 0, .string ⟨#[]⟩, .slice none 0 0] 33 (0, 0))) : ∀ j u, (tc zt)[j]? = some u → W.cell? (Addr.add ⟨g, 0, none⟩ j) = some u := fun j u hu => by
  rw [Addr.add_mid, Nat.zero_add, cell_of_row _ _ _ _ _ _ h]
  simpa [tc, zt, Tm.k, Tm.n, Tm.s] using hu
theorem zt_one : ∀ u ∈ tc zt, u.oneCell' = true := fun u hu => by
  simp [tc] at hu
  rcases hu with rfl | rfl | rfl | rfl <;> rfl
/-- What is there behind the growth. -/
theorem push_facts {w W w' : World} {B P g cap vc : Nat} {va : Option Addr} {ys : List Tm} (h : HQ w B P (.slice va ys.length vc) ys) (hB : B ≤ w.heap.size) (hW : Below w.heap.size w W)
    (hr : w'.ownsRow B 33 4 (.slice (some ⟨g, 0, none⟩) (ys.length + 1) cap) (ys.length + 1) (tcs ys ++ tc zt)) (hg : W.grownBy w' (Value.slice va ys.length vc).ownBlock) (hat : (Value.slice (some ⟨g, 0, none⟩) (ys.length + 1) cap).ownBlock = (Value.slice va ys.length vc).ownBlock ∨ (Value.slice (some ⟨g, 0, none⟩) (ys.length + 1) cap).ownBlock = some W.heap.size) :
    HR w' B g (ys.length + 1) cap (ys ++ [zt]) ∧ P ≠ g ∧ w'.heap[P]? = some (.cells #[.slice va ys.length vc] 186 (0, 0)) ∧ Below B w w' := by
  have hP := (Array.getElem?_eq_some_iff.1 h.1).1
  have hne : ∀ k, (Value.slice va ys.length vc).ownBlock = some k → P ≠ k := h.nb
  refine ⟨by unfold HR; rw [tcs_app]; exact hr, ?_, ?_, ?_⟩
  · rcases hat with e | e
    · exact hne g e.symm
    · have e2 : some g = some W.heap.size := e
      injection e2 with e2
      have := hW.size
      omega
  · refine (hg.block P (Nat.lt_of_lt_of_le hP hW.size) (fun e => ?_)).trans (Below.heap hW hP h.1)
    exact hne P e.symm rfl
  · refine ⟨hg.os.trans hW.os, hg.tape.trans hW.tape, hg.output.trans hW.output, Nat.le_trans hW.size hg.size, fun k hk => ?_⟩
    refine (hg.block k (by have := hW.size; omega) (fun e => ?_)).trans (hW.block k (by omega))
    have := (h.2.1.lt k e.symm).1
    omega
theorem HR.beside {w : World} {B g n cap P : Nat} {ys : List Tm} (h : HR w B g n cap ys) (hne : P ≠ g) (v : Value) : HR (w.setCell ⟨P, 0, none⟩ v) B g n cap ys :=
  ⟨h.1, by
    rcases h.2 with h1 | ⟨g', cap', cur, e, hb, hr, hn⟩
    · exact .inl h1
    · have eg : g = g' := by
        injection e with e1 e2 e3
        injection e1 with e1
        injection e1
      exact .inr ⟨g', cap', cur, e, hb, (Below.heap_setCell _ ⟨P, 0, none⟩ v g' (fun e => hne (eg.trans e).symm)).trans hr, hn⟩⟩
theorem set_one {w : World} {P : Nat} {u v : Value} {t : TypeId} (h : w.heap[P]? = some (.cells #[u] t (0, 0))) : (w.setCell ⟨P, 0, none⟩ v).heap[P]? = some (.cells #[v] t (0, 0)) := by
  unfold World.setCell
  simp [Array.getElem?_modify, h]
theorem below_put {B g n : Nat} {a w : World} (h : Below B a w) (hg : B ≤ g) (x : Tm) : Below B a (putT w g n x) :=
  Below.setCell (p := ⟨g, n * 4 + 3, none⟩) (Below.setCell (p := ⟨g, n * 4 + 2, none⟩) (Below.setCell (p := ⟨g, n * 4 + 1, none⟩) (Below.setCell (p := ⟨g, n * 4, none⟩) h hg _) hg _) hg _) hg _
theorem push_done {w w' : World} {B P g cap vc : Nat} {va : Option Addr} {ys : List Tm} (x : Tm) (hBP : B ≤ P) (h : HR w' B g (ys.length + 1) cap (ys ++ [zt]) ∧ P ≠ g ∧ w'.heap[P]? = some (.cells #[.slice va ys.length vc] 186 (0, 0)) ∧ Below B w w') :
    HP ((putT w' g ys.length x).setCell ⟨P, 0, none⟩ (.slice (some ⟨g, 0, none⟩) (ys.length + 1) cap)) B P g (ys.length + 1) cap (ys ++ [x]) ∧ Below B w ((putT w' g ys.length x).setCell ⟨P, 0, none⟩ (.slice (some ⟨g, 0, none⟩) (ys.length + 1) cap)) := by
  obtain ⟨h1, h2, h3, h4⟩ := h
  have hg := h1.lt
  have hrow := put_row h1 ys.length x
  rw [show (ys ++ [zt]).set ys.length x = ys ++ [x] by simp] at hrow
  have hPr : (putT w' g ys.length x).heap[P]? = some (.cells #[.slice va ys.length vc] 186 (0, 0)) := ((grown_put (grown_refl w' (some g)) ys.length x).block P (Array.getElem?_eq_some_iff.1 h3).1 (fun e => h2 (by injection e))).trans h3
  have q1 := set_one (v := .slice (some ⟨g, 0, none⟩) (ys.length + 1) cap) hPr
  have q2 := hrow.beside h2 (.slice (some ⟨g, 0, none⟩) (ys.length + 1) cap)
  have q3 := Below.setCell (p := ⟨P, 0, none⟩) (below_put (n := ys.length) h4 hg.2 x) hBP (.slice (some ⟨g, 0, none⟩) (ys.length + 1) cap)
  exact ⟨⟨q1, q2, hBP, h2⟩, q3⟩
theorem push_done2 {w w' : World} {B P g cap vc : Nat} {va : Option Addr} {ys : List Tm} (x : Tm) (hBP : B ≤ P) (h : HR w' B g (ys.length + 1) cap (ys ++ [zt]) ∧ P ≠ g ∧ w'.heap[P]? = some (.cells #[.slice va ys.length vc] 186 (0, 0)) ∧ Below B w w') :
    HP (putT (w'.setCell ⟨P, 0, none⟩ (.slice (some ⟨g, 0, none⟩) (ys.length + 1) cap)) g ys.length x) B P g (ys.length + 1) cap (ys ++ [x]) ∧ Below B w (putT (w'.setCell ⟨P, 0, none⟩ (.slice (some ⟨g, 0, none⟩) (ys.length + 1) cap)) g ys.length x) := by
  obtain ⟨h1, h2, h3, h4⟩ := h
  have hg := h1.lt
  have q1 := set_one (v := .slice (some ⟨g, 0, none⟩) (ys.length + 1) cap) h3
  have q2 := h1.beside h2 (.slice (some ⟨g, 0, none⟩) (ys.length + 1) cap)
  have q3 := Below.setCell (p := ⟨P, 0, none⟩) h4 hBP (.slice (some ⟨g, 0, none⟩) (ys.length + 1) cap)
  have hrow := put_row q2 ys.length x
  rw [show (ys ++ [zt]).set ys.length x = ys ++ [x] by simp] at hrow
  have hPr := ((grown_put (grown_refl _ (some g)) ys.length x).block P (Array.getElem?_eq_some_iff.1 q1).1 (fun e => h2 (by injection e))).trans q1
  exact ⟨⟨hPr, hrow, hBP, h2⟩, below_put (n := ys.length) q3 hg.2 x⟩
end Go.Proofs.YteiacgpaocnofaaGreat
