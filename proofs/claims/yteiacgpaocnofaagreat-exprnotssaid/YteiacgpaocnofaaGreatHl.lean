/- One term of a heap ahead of another one. -/
import Derived.Test.YteiacgpaocnofaaGreatHp
namespace Go.Proofs.YteiacgpaocnofaaGreat
open Go.RowKit
/-- A term without a list, within its kinds. -/
def Fl (t : Tm) : Prop := t.l = [] ∧ Fits t 0
theorem Fl.at {t : Tm} (h : Fl t) (w : World) : TAt w t none 0 := LAt.term (by rw [h.1]; exact LAt.nil w none 0 (by decide)) h.2
theorem Fl.len {t : Tm} (h : Fl t) : t.l.length = 0 := by rw [h.1]; rfl
theorem HR.c4 {w : World} {B g n cap : Nat} {ys : List Tm} (h : HR w B g n cap ys) {i : Nat} {x : Tm} (hx : ys[i]? = some x) (hf : Fl x) : C4 w g (i * 4) x none 0 := by
  obtain ⟨h0, h1, h2, h3⟩ := h.cells hx
  exact ⟨h0, h1, h2, by rw [hf.len]; exact h3⟩
theorem HR.lt {w : World} {B g n cap : Nat} {ys : List Tm} (h : HR w B g n cap ys) : g < w.heap.size ∧ B ≤ g := by
  rcases h.2 with ⟨e, _⟩ | ⟨g', cap', cur, e, hb, hr, _⟩
  · cases e
  · injection e with e1 e2 e3
    injection e1 with e1
    injection e1 with e1 _ _
    subst e1
    exact ⟨(Array.getElem?_eq_some_iff.1 hr).1, hb⟩
theorem HR.ext {w w' : World} {B g n cap : Nat} {ys : List Tm} (h : HR w B g n cap ys) (he : Below w.heap.size w w') : HR w' B g n cap ys := row_ext h he
set_option maxRecDepth 100000 in
theorem Less_any {B g n cap i j : Nat} {ys : List Tm} {x y : Tm} {w : World} (h : HR w B g n cap ys) (hi : i < n) (hj : j < n) (hx : ys[i]? = some x) (hy : ys[j]? = some y) (fx : Fl x) (fy : Fl y) :
    Calls Tryz.prog 259 #[.slice (some ⟨g, 0, none⟩) n cap, .int .i64 (i : Int), .int .i64 (j : Int)] w fun e w' => e = .returned (.bool (decide (cp x y < 0))) ∧ Below w.heap.size w w' := by
  have HX := hide (And.intro h.lt.1 (And.intro (h.c4 hx fx) (And.intro (h.c4 hy fy) (And.intro (fx.at w) (fy.at w)))))
  have hls : ∀ w_ : World, (do eqGuard .lss 3 (.tmp 15) (.const (.int .i64 0)) (.int .i64 (cp x y)) (.int .i64 0); binOp .lss 3 (.int .i64 (cp x y)) (.int .i64 0) : Sem Value).run Tryz.prog w_ = .ok (.bool (decide (cp x y < 0))) w_ := fun w_ => by
    generalize cp x y = CC at *
    go_simp
  clear h hx hy fx fy
  go_enter Tryz.func259, Tryz.ntmps259
  go_wp2_with fail
  refine wp_region_typed (tys := fun ix_ => List.getD [isv (.slice (some ⟨g, 0, none⟩) n cap), isv (.int .i64 (i : Int)), itp x none 0, isv (tv x none 0), isv (.int .i64 (j : Int)), itp y none 0, isv (tv y none 0), isv (.int .i64 (cp x y)), isv (.bool ((decide (cp x y < 0))))] ix_ anyv) (pre := [(0, 0), (1, 1), (2, 4)])
    (plan := [([(0, 0)], 0), ([(1, 1)], 1), ([(7, 0), (8, 1)], 2), ([(9, 2)], 3), ([(0, 0)], 0), ([(2, 4)], 4), ([(11, 0), (12, 4)], 5), ([(13, 5)], 6), ([(10, 3), (14, 6)], 7), ([(15, 7)], 8), ([(16, 8)], 8)])
    (by kernel_rfl) 17 (by kernel_rfl) rfl ⟨rfl, ⟨rfl, ⟨rfl, trivial⟩⟩⟩
      (OkL.cons (fun a w X_ h => g_move (wanted_none rfl) (.inl rfl) h.1)
      (OkL.cons (fun a w X_ h => g_move (wanted_none rfl) (.inl rfl) h.1)
      (OkL.cons (fun a w X_ h => g_ixh (wanted_none rfl) i rfl h.1 h.2.1 hi ((Nat.lt_of_lt_of_le HX.out.1 (Below.size X_))) ((by rw [Nat.zero_add]; exact HX.out.2.1.ext HX.out.1 X_)))
      (OkL.cons (fun a w X_ h => g_ldt (wanted_none rfl) rfl h.1 rfl)
      (OkL.cons (fun a w X_ h => g_move (wanted_none rfl) (.inl rfl) h.1)
      (OkL.cons (fun a w X_ h => g_move (wanted_none rfl) (.inl rfl) h.1)
      (OkL.cons (fun a w X_ h => g_ixh (wanted_none rfl) j rfl h.1 h.2.1 hj ((Nat.lt_of_lt_of_le HX.out.1 (Below.size X_))) ((by rw [Nat.zero_add]; exact HX.out.2.2.1.ext HX.out.1 X_)))
      (OkL.cons (fun a w X_ h => g_ldt (wanted_none rfl) rfl h.1 rfl)
      (OkL.cons (fun a w X_ h => g_call2 (wanted_none rfl) (by kernel_rfl) rfl (h_cmp h.1 h.2.1 (HX.out.2.2.2.1.ext X_) (HX.out.2.2.2.2.ext X_)))
      (OkL.cons (fun a w X_ h => g_bin (wanted_none rfl) rfl (v := .bool ((decide (cp x y < 0)))) (by rw [show a.eval (.tmp 15) = .int .i64 (cp x y) from h.1]; exact hls _) rfl)
      (OkL.cons (fun a w X_ h => g_move (wanted_none rfl) (.inr rfl) h.1)
      OkL.nil))))))))))) ?_
  rintro w2 X2 _ rfl _ rfl v9 - _ rfl _ rfl _ rfl v13 - _ rfl _ rfl _ rfl _ rfl
  refine FinL.done ?_
  simp only [Act.put, List.setIfInBounds_toArray, List.set_cons_zero, List.set_cons_succ]
  have HY := hide X2
  clear X2 hls HX
  go_wp2
  go_ret
  exact ⟨rfl, HY.out⟩
/-- A heap in memory: a pointer to its row. -/
def HP (w : World) (B P g n cap : Nat) (ys : List Tm) : Prop := w.heap[P]? = some (.cells #[.slice (some ⟨g, 0, none⟩) n cap] 186 (0, 0)) ∧ HR w B g n cap ys ∧ B ≤ P ∧ P ≠ g
theorem HP.ext {w w' : World} {B P g n cap : Nat} {ys : List Tm} (h : HP w B P g n cap ys) (he : Below w.heap.size w w') : HP w' B P g n cap ys :=
  ⟨Below.heap he (Array.getElem?_eq_some_iff.1 h.1).1 h.1, h.2.1.ext he, h.2.2⟩
theorem HP.put {w w' : World} {B P g n cap : Nat} {ys zs : List Tm} (h : HP w B P g n cap ys) (hr : HR w' B g n cap zs) (hg : w.grownBy w' (some g)) : HP w' B P g n cap zs :=
  ⟨(hg.block P (Array.getElem?_eq_some_iff.1 h.1).1 (fun e => h.2.2.2 (by injection e))).trans h.1, hr, h.2.2⟩
theorem HP.len {w : World} {B P g n cap : Nat} {ys : List Tm} (h : HP w B P g n cap ys) : ys.length = n := by have h1 := h.2.1.1; rw [tcs_len] at h1; omega
/-- Two terms have changed their places. -/
def swp (ys : List Tm) (i j : Nat) : List Tm := (ys.set i (ys.getD j default)).set j (ys.getD i default)
theorem swp_len (ys : List Tm) (i j : Nat) : (swp ys i j).length = ys.length := by simp [swp]
theorem swp_get {ys : List Tm} {i j : Nat} (hi : i < ys.length) (hj : j < ys.length) (k : Nat) : (swp ys i j).getD k default = if k = j then ys.getD i default else if k = i then ys.getD j default else ys.getD k default := by
  unfold swp
  simp only [List.getD_eq_getElem?_getD, List.getElem?_set, List.length_set]
  by_cases h1 : j = k
  · subst h1; simp [hj]
  · have h1' : ¬ k = j := fun e => h1 e.symm
    by_cases h2 : i = k
    · subst h2; simp [hi, h1, h1']
    · have h2' : ¬ k = i := fun e => h2 e.symm
      simp [h1, h1', h2, h2']
theorem mem_getD {ys : List Tm} {t : Tm} : t ∈ ys ↔ ∃ k, k < ys.length ∧ ys.getD k default = t := by
  constructor
  · intro h
    obtain ⟨k, hk⟩ := List.getElem?_of_mem h
    exact ⟨k, (List.getElem?_eq_some_iff.1 hk).1, getD_at hk⟩
  · rintro ⟨k, hk, rfl⟩
    rw [List.getD_eq_getElem?_getD, List.getElem?_eq_getElem hk]
    exact List.getElem_mem hk
theorem swp_mem {ys : List Tm} {i j : Nat} (hi : i < ys.length) (hj : j < ys.length) (t : Tm) : t ∈ swp ys i j ↔ t ∈ ys := by
  rw [mem_getD, mem_getD, swp_len]
  constructor
  · rintro ⟨k, hk, rfl⟩
    rw [swp_get hi hj]
    split
    · exact ⟨i, hi, rfl⟩
    · split
      · exact ⟨j, hj, rfl⟩
      · exact ⟨k, hk, rfl⟩
  · rintro ⟨k, hk, rfl⟩
    by_cases h1 : k = i
    · exact ⟨j, hj, by rw [swp_get hi hj, if_pos rfl, h1]⟩
    · by_cases h2 : k = j
      · refine ⟨i, hi, ?_⟩
        rw [swp_get hi hj, h2]
        by_cases e : i = j
        · rw [if_pos e, e]
        · rw [if_neg e, if_pos rfl]
      · exact ⟨k, hk, by rw [swp_get hi hj, if_neg h2, if_neg h1]⟩
theorem at_getD {ys : List Tm} {k : Nat} (h : k < ys.length) : ys[k]? = some (ys.getD k default) := by
  rw [List.getD_eq_getElem?_getD, List.getElem?_eq_getElem h]; rfl
end Go.Proofs.YteiacgpaocnofaaGreat
