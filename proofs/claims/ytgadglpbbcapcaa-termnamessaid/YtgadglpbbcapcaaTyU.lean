/- Rows of terms within a region: what is the region's own, and what was there before it. -/
import Derived.Test.YtgadglpbbcapcaaTyT
namespace Go.Proofs.Ytgadglpbbcapcaa
open Go.RowKit
/-- What cells say of terms. -/
def TcAt (w : World) (xs : List Value) (zs : List Tm) : Prop :=
  xs.length = zs.length * 4 ∧ ∀ i t, zs[i]? = some t → ∃ a c, xs[i * 4]? = some (.int .i64 t.k) ∧ xs[i * 4 + 1]? = some (.int .i64 t.n) ∧ xs[i * 4 + 2]? = some (.string t.s) ∧ xs[i * 4 + 3]? = some (.slice a t.l.length c) ∧ TAt w t a c
theorem TcAt.ext {W w : World} {xs : List Value} {zs : List Tm} (h : TcAt W xs zs) (he : Below W.heap.size W w) : TcAt w xs zs :=
  ⟨h.1, fun i t ht => by obtain ⟨a, c, h0, h1, h2, h3, h4⟩ := h.2 i t ht; exact ⟨a, c, h0, h1, h2, h3, h4.ext he⟩⟩
theorem TcAt.nil (w : World) : TcAt w [] [] := ⟨rfl, fun i t ht => by simp at ht⟩
theorem TcAt.one {w : World} {t : Tm} {a : Option Addr} {c : Nat} (h : TAt w t a c) : TcAt w [.int .i64 t.k, .int .i64 t.n, .string t.s, .slice a t.l.length c] [t] :=
  ⟨rfl, fun i u hu => by
    have hi : i = 0 := by have := (List.getElem?_eq_some_iff.1 hu).1; simp at this; exact this
    subst hi
    obtain rfl : t = u := by simpa using hu
    exact ⟨a, c, rfl, rfl, rfl, rfl, h⟩⟩
theorem TcAt.append {w : World} {xs ys : List Value} {zs vs : List Tm} (h : TcAt w xs zs) (k : TcAt w ys vs) : TcAt w (xs ++ ys) (zs ++ vs) := by
  refine ⟨by rw [List.length_append, List.length_append, h.1, k.1, Nat.add_mul], fun i t ht => ?_⟩
  rcases Nat.lt_or_ge i zs.length with hi | hi
  · rw [List.getElem?_append_left hi] at ht
    obtain ⟨a, c, h0, h1, h2, h3, h4⟩ := h.2 i t ht
    have hx := h.1
    refine ⟨a, c, ?_, ?_, ?_, ?_, h4⟩ <;> rw [List.getElem?_append_left (by omega)] <;> assumption
  · rw [List.getElem?_append_right hi] at ht
    obtain ⟨a, c, h0, h1, h2, h3, h4⟩ := k.2 _ t ht
    have hx := h.1
    refine ⟨a, c, ?_, ?_, ?_, ?_, h4⟩ <;> rw [List.getElem?_append_right (by omega)]
    · rw [show i * 4 - xs.length = (i - zs.length) * 4 by omega]; exact h0
    · rw [show i * 4 + 1 - xs.length = (i - zs.length) * 4 + 1 by omega]; exact h1
    · rw [show i * 4 + 2 - xs.length = (i - zs.length) * 4 + 2 by omega]; exact h2
    · rw [show i * 4 + 3 - xs.length = (i - zs.length) * 4 + 3 by omega]; exact h3
theorem TcAt.take {w : World} {xs : List Value} {zs : List Tm} (h : TcAt w xs zs) (k : Nat) : TcAt w (xs.take (k * 4)) (zs.take k) := by
  refine ⟨by rw [List.length_take, List.length_take, h.1]; omega, fun i t ht => ?_⟩
  rw [List.getElem?_take] at ht
  split at ht
  · obtain ⟨a, c, h0, h1, h2, h3, h4⟩ := h.2 i t ht
    refine ⟨a, c, ?_, ?_, ?_, ?_, h4⟩ <;> rw [List.getElem?_take, if_pos (by omega)] <;> assumption
  · cases ht
theorem TcAt.drop {w : World} {xs : List Value} {zs : List Tm} (h : TcAt w xs zs) (k : Nat) : TcAt w (xs.drop (k * 4)) (zs.drop k) := by
  refine ⟨by rw [List.length_drop, List.length_drop, h.1]; omega, fun i t ht => ?_⟩
  rw [List.getElem?_drop] at ht
  obtain ⟨a, c, h0, h1, h2, h3, h4⟩ := h.2 _ t ht
  refine ⟨a, c, ?_, ?_, ?_, ?_, h4⟩ <;> rw [List.getElem?_drop]
  · rw [show k * 4 + i * 4 = (k + i) * 4 by omega]; exact h0
  · rw [show k * 4 + (i * 4 + 1) = (k + i) * 4 + 1 by omega]; exact h1
  · rw [show k * 4 + (i * 4 + 2) = (k + i) * 4 + 2 by omega]; exact h2
  · rw [show k * 4 + (i * 4 + 3) = (k + i) * 4 + 3 by omega]; exact h3
/-- A list's cells. -/
def tcg (A : Nat → Option Addr) (C : Nat → Nat) : Nat → List Tm → List Value
  | _, [] => []
  | i, t :: r => .int .i64 t.k :: .int .i64 t.n :: .string t.s :: .slice (A i) t.l.length (C i) :: tcg A C (i + 1) r
theorem tcg_len (A : Nat → Option Addr) (C : Nat → Nat) : ∀ (l : List Tm) (i : Nat), (tcg A C i l).length = l.length * 4
  | [], _ => rfl
  | t :: r, i => by rw [tcg]; simp only [List.length_cons, tcg_len A C r (i + 1)]; omega
theorem tcg_one (A : Nat → Option Addr) (C : Nat → Nat) : ∀ (l : List Tm) (i : Nat), ∀ u ∈ tcg A C i l, u.oneCell' = true
  | [], _, u, hu => by simp [tcg] at hu
  | t :: r, i, u, hu => by
    rw [tcg] at hu
    simp only [List.mem_cons] at hu
    rcases hu with rfl | rfl | rfl | rfl | hu
    · rfl
    · rfl
    · rfl
    · rfl
    · exact tcg_one A C r (i + 1) u hu
theorem tcg_get (A : Nat → Option Addr) (C : Nat → Nat) : ∀ (l : List Tm) (i j : Nat) (t : Tm), l[j]? = some t → (tcg A C i l)[j * 4]? = some (.int .i64 t.k) ∧ (tcg A C i l)[j * 4 + 1]? = some (.int .i64 t.n) ∧ (tcg A C i l)[j * 4 + 2]? = some (.string t.s) ∧ (tcg A C i l)[j * 4 + 3]? = some (.slice (A (i + j)) t.l.length (C (i + j)))
  | [], _, _, _, h => by simp at h
  | x :: r, i, 0, t, h => by
    obtain rfl : x = t := by simpa using h
    exact ⟨rfl, rfl, rfl, rfl⟩
  | x :: r, i, j + 1, t, h => by
    have h' : r[j]? = some t := by simpa using h
    obtain ⟨h0, h1, h2, h3⟩ := tcg_get A C r (i + 1) j t h'
    rw [tcg, show (j + 1) * 4 = j * 4 + 1 + 1 + 1 + 1 by omega]
    refine ⟨by simpa using h0, ?_, ?_, ?_⟩
    · rw [show j * 4 + 1 + 1 + 1 + 1 + 1 = (j * 4 + 1) + 1 + 1 + 1 + 1 by omega]; simpa using h1
    · rw [show j * 4 + 1 + 1 + 1 + 1 + 2 = (j * 4 + 2) + 1 + 1 + 1 + 1 by omega]; simpa using h2
    · rw [show j * 4 + 1 + 1 + 1 + 1 + 3 = (j * 4 + 3) + 1 + 1 + 1 + 1 by omega, show i + (j + 1) = i + 1 + j by omega]; simpa using h3
/-- A slice that holds terms, by its cells. -/
def TsAt (w : World) (v : Value) (zs : List Tm) : Prop := ∃ xs, CsAt w 4 zs.length v xs ∧ TcAt w xs zs
theorem LAt.ts {w : World} {l : List Tm} {a : Option Addr} {c : Nat} (h : LAt w l a c) : TsAt w (.slice a l.length c) l := by
  obtain ⟨h1, h2, b, o, A, C, hb, hc⟩ := h
  refine ⟨tcg A C 0 l, ⟨tcg_len A C l 0, b, o, c, a, rfl, h1, h2, fun h0 => ?_, tcg_one A C l 0⟩, tcg_len A C l 0, fun i t ht => ?_⟩
  · obtain ⟨e, hbb⟩ := hb (fun e => by subst e; simp at h0)
    refine ⟨e, hbb, fun j u hu => ?_⟩
    have hj : j < l.length * 4 := by have := (List.getElem?_eq_some_iff.1 hu).1; rw [tcg_len] at this; exact this
    obtain ⟨t, ht⟩ : ∃ t, l[j / 4]? = some t := ⟨_, List.getElem?_eq_getElem (by omega)⟩
    obtain ⟨⟨c0, c1, c2, c3⟩, _⟩ := hc _ t ht
    obtain ⟨g0, g1, g2, g3⟩ := tcg_get A C l 0 _ t ht
    have h4 : j % 4 = 0 ∨ j % 4 = 1 ∨ j % 4 = 2 ∨ j % 4 = 3 := by omega
    rw [Nat.zero_add] at g3
    rcases h4 with h4 | h4 | h4 | h4
    · rw [show j = j / 4 * 4 by omega, g0] at hu
      cases hu
      rw [show o + j = o + j / 4 * 4 by omega]; exact c0
    · rw [show j = j / 4 * 4 + 1 by omega, g1] at hu
      cases hu
      rw [show o + j = o + j / 4 * 4 + 1 by omega]; exact c1
    · rw [show j = j / 4 * 4 + 2 by omega, g2] at hu
      cases hu
      rw [show o + j = o + j / 4 * 4 + 2 by omega]; exact c2
    · rw [show j = j / 4 * 4 + 3 by omega, g3] at hu
      cases hu
      rw [show o + j = o + j / 4 * 4 + 3 by omega]; exact c3
  · obtain ⟨_, ht2⟩ := hc i t ht
    obtain ⟨g0, g1, g2, g3⟩ := tcg_get A C l 0 i t ht
    rw [Nat.zero_add] at g3
    exact ⟨A i, C i, g0, g1, g2, g3, ht2⟩
theorem TsAt.lat {w : World} {v : Value} {zs : List Tm} (h : TsAt w v zs) : ∃ a c, v = .slice a zs.length c ∧ LAt w zs a c := by
  obtain ⟨xs, ⟨hl, b, o, c, a, rfl, hn, hm, hh, _⟩, h2⟩ := h
  have hch : ∀ i, i < zs.length → ∃ q : Option Addr × Nat, ∀ t, zs[i]? = some t → xs[i * 4]? = some (.int .i64 t.k) ∧ xs[i * 4 + 1]? = some (.int .i64 t.n) ∧ xs[i * 4 + 2]? = some (.string t.s) ∧ xs[i * 4 + 3]? = some (.slice q.1 t.l.length q.2) ∧ TAt w t q.1 q.2 := fun i hi => by
    obtain ⟨a, c, h⟩ := h2.2 i _ (List.getElem?_eq_getElem hi)
    refine ⟨(a, c), fun t ht => ?_⟩
    rw [List.getElem?_eq_getElem hi] at ht
    cases ht
    exact h
  have hch2 : ∀ i, ∃ q : Option Addr × Nat, ∀ t, zs[i]? = some t → xs[i * 4]? = some (.int .i64 t.k) ∧ xs[i * 4 + 1]? = some (.int .i64 t.n) ∧ xs[i * 4 + 2]? = some (.string t.s) ∧ xs[i * 4 + 3]? = some (.slice q.1 t.l.length q.2) ∧ TAt w t q.1 q.2 := fun i => by
    rcases Nat.lt_or_ge i zs.length with hi | hi
    · exact hch i hi
    · exact ⟨(none, 0), fun t ht => by rw [List.getElem?_eq_none hi] at ht; cases ht⟩
  obtain ⟨Q, hQ⟩ := Classical.axiomOfChoice hch2
  refine ⟨a, c, rfl, hn, hm, b, o, fun i => (Q i).1, fun i => (Q i).2, fun hne => ?_, fun i t ht => ?_⟩
  · obtain ⟨e, hb, _⟩ := hh (List.length_pos_iff.2 hne)
    exact ⟨e, hb⟩
  · obtain ⟨_, _, hcell⟩ := hh (by have := (List.getElem?_eq_some_iff.1 ht).1; omega)
    obtain ⟨g0, g1, g2, g3, g4⟩ := hQ i t ht
    exact ⟨⟨hcell _ _ g0, hcell _ _ g1, hcell _ _ g2, hcell _ _ g3⟩, g4⟩
/-- Terms that were there before the region. -/
def oldT (w0 : World) (zs : List Tm) : STy := ⟨fun w v => TsAt w0 v zs ∧ Below w0.heap.size w0 w, fun hx h => ⟨h.1, Below.trans h.2 (Below.mono hx (Below.size h.2))⟩⟩
theorem TsAt.ext {W w : World} {v : Value} {zs : List Tm} (h : TsAt W v zs) (he : Below W.heap.size W w) : TsAt w v zs := by
  obtain ⟨xs, h1, h2⟩ := h
  exact ⟨xs, h1.ext he, h2.ext he⟩
/-- Terms in a block of the region's own; their own lists were there before it. -/
structure OwT (w0 w : World) (v : Value) (zs : List Tm) : Prop where
  row : ∃ xs, w.ownsRow w0.heap.size 24 4 v zs.length xs ∧ (∀ u ∈ xs, u.oneCell' = true) ∧ TcAt w0 xs zs
  bel : Below w0.heap.size w0 w
def ownT (w0 : World) (zs : List Tm) : STy := ⟨fun w v => OwT w0 w v zs, fun hx h => ⟨by obtain ⟨xs, h1, h2, h3⟩ := h.row; exact ⟨xs, row_ext h1 hx, h2, h3⟩, Below.trans h.bel (Below.mono hx (Below.size h.bel))⟩⟩
theorem OwT.ts {w0 w : World} {v : Value} {zs : List Tm} (h : OwT w0 w v zs) : ∃ xs, CsAt w 4 zs.length v xs ∧ TcAt w0 xs zs := by
  obtain ⟨xs, h1, h2, h3⟩ := h.row
  exact ⟨xs, row_cs h1 h2, h3⟩
theorem OwT.at {w0 w : World} {v : Value} {zs : List Tm} (h : OwT w0 w v zs) : TsAt w v zs := by
  obtain ⟨xs, h1, h2⟩ := h.ts
  exact ⟨xs, h1, h2.ext h.bel⟩
theorem oldT_cs {w0 w : World} {v : Value} {zs : List Tm} (h : (oldT w0 zs).p w v) : ∃ xs, CsAt w 4 zs.length v xs ∧ TcAt w0 xs zs := by
  obtain ⟨⟨xs, h1, h2⟩, hb⟩ := h
  exact ⟨xs, h1.ext hb, h2⟩
theorem oldT_mk {w0 w : World} {v : Value} {zs : List Tm} (h : TsAt w0 v zs) (hx : Ext w0 w) : (oldT w0 zs).p w v := ⟨h, hx⟩
theorem oldT_old (w0 : World) (l : List Tm) : ∀ w w' v, Below w0.heap.size w w' → (oldT w0 l).p w v → (oldT w0 l).p w' v := fun _ _ _ hb h => ⟨h.1, Below.trans h.2 hb⟩
theorem isv_old (B : Nat) (x : Value) : ∀ w w' v, Below B w w' → (isv x).p w v → (isv x).p w' v := fun _ _ _ _ h => h
theorem ownT_nil {w0 w : World} (hx : Ext w0 w) : (ownT w0 []).p w (.slice none 0 0) := ⟨⟨[], World.ownsRow_nil _ _ _ _, by simp, TcAt.nil w0⟩, hx⟩
section
variable {ops : Array Oper} {Q : Exit → Act → World → Prop} {o : Oper} {T : STy} {a : Act} {w w0 : World}
theorem g_oT0 (hw : Region.wanted o (yielded ops a.tmps) = true) (ho : o.op = .buildSlice 22 0 #[]) (hx : Ext w0 w) : Gives Try.prog ops Q o (ownT w0 []) a w := by
  refine g_run hw (v := .slice (some ⟨w.heap.size, 0, none⟩) 0 0) (w' := w.alloc (.cells #[] 24)) ?_ ((Below.refl _ _).alloc (Nat.le_refl _) _) ⟨⟨[], World.ownsRow_lit (base := w0.heap.size) w #[] 0 (Below.size hx) (by decide) rfl, by simp, TcAt.nil w0⟩, Below.trans hx (Below.mono (alloc_below w _) (Below.size hx))⟩
  unfold execOp
  rw [ho]
  kernel_rfl
theorem g_oT1 (hw : Region.wanted o (yielded ops a.tmps) = true) {x : Operand} {t : Tm} {ta : Option Addr} {tc : Nat} (ho : o.op = .buildSlice 22 1 #[(0, x)]) (hv : a.eval x = tv t ta tc) (ht : TAt w0 t ta tc) (hx : Ext w0 w) : Gives Try.prog ops Q o (ownT w0 [t]) a w := by
  refine g_run hw (v := .slice (some ⟨w.heap.size, 0, none⟩) 1 1) (w' := w.alloc (.cells #[.int .i64 t.k, .int .i64 t.n, .string t.s, .slice ta t.l.length tc] 24)) ?_ ((Below.refl _ _).alloc (Nat.le_refl _) _)
    ⟨⟨_, World.ownsRow_lit (base := w0.heap.size) w #[.int .i64 t.k, .int .i64 t.n, .string t.s, .slice ta t.l.length tc] 1 (Below.size hx) (by decide) rfl, fun u hu => ?_, TcAt.one ht⟩, Below.trans hx (Below.mono (alloc_below w _) (Below.size hx))⟩
  · unfold execOp
    unfold tv at hv
    generalize t.k = k at *
    generalize t.n = n at *
    generalize t.s = s at *
    generalize t.l.length = l at *
    generalize a.eval = ev at *
    simp only [ho]
    go_simp
  · simp at hu
    rcases hu with rfl | rfl | rfl | rfl <;> rfl
theorem g_slTf (hw : Region.wanted o (yielded ops a.tmps) = true) {x y : Operand} {zs : List Tm} (k : Nat) (ho : o.op = .slice 22 x (some y) none none) (h : (oldT w0 zs).p w (a.eval x)) (hy : a.eval y = .int .i64 (k : Int)) (hk : k ≤ zs.length) : Gives Try.prog ops Q o (oldT w0 (zs.drop k)) a w := by
  obtain ⟨⟨xs, h1, h2⟩, hb⟩ := h
  obtain ⟨v', hr, h3⟩ := cs_from h1 k hk
  refine g_run hw (v := v') ?_ (Ext.refl w) ⟨⟨_, by rw [List.length_drop]; exact h3, h2.drop k⟩, hb⟩
  unfold execOp
  simp only [ho, Option.map_some, Option.map_none, hy]
  rw [Sem.run_bind, hr]
  rfl
theorem g_slTu (hw : Region.wanted o (yielded ops a.tmps) = true) {x y : Operand} {zs : List Tm} (k : Nat) (ho : o.op = .slice 22 x none (some y) none) (h : (oldT w0 zs).p w (a.eval x)) (hy : a.eval y = .int .i64 (k : Int)) (hk : k ≤ zs.length) : Gives Try.prog ops Q o (oldT w0 (zs.take k)) a w := by
  obtain ⟨⟨xs, h1, h2⟩, hb⟩ := h
  obtain ⟨v', hr, h3⟩ := cs_upto h1 k hk
  refine g_run hw (v := v') ?_ (Ext.refl w) ⟨⟨_, by rw [List.length_take, Nat.min_eq_left hk]; exact h3, h2.take k⟩, hb⟩
  unfold execOp
  simp only [ho, Option.map_some, Option.map_none, hy]
  rw [Sem.run_bind, hr]
  rfl
theorem g_apT (hw : Region.wanted o (yielded ops a.tmps) = true) {s x : Operand} {zs ys : List Tm} (ho : o.op = .call { callee := .builtin .append, args := #[s, x], argTypes := #[22, 22] }) (hx : Ext w0 w) (h : (ownT w0 zs).p w (a.eval s)) (hs : ∃ xs, CsAt w 4 ys.length (a.eval x) xs ∧ TcAt w0 xs ys) (hn : (zs.length + ys.length) * 56 ≤ 140737488351232) : GivesW Try.prog ops Q w0.heap.size o (ownT w0 (zs ++ ys)) a w := by
  obtain ⟨xs, r1, r2, r3⟩ := h.row
  obtain ⟨vs, s1, s2⟩ := hs
  obtain ⟨v', w', hr, h1, h2⟩ := cs_append appT o.type r1 s1 (by omega) (by omega) (Below.size hx)
  have hb : Below w0.heap.size w w' := (Below.refl w0.heap.size w).grown h2 (Below.size hx) (fun k hk => (r1.lt k hk).1)
  refine ⟨hw, Oper.wp_value (run_op_append ho hr) ⟨v', rfl, hb, ⟨⟨_, by rw [List.length_append]; exact h1, fun u hu => ?_, r3.append s2⟩, Below.trans h.bel hb⟩⟩⟩
  rcases List.mem_append.1 hu with h | h
  · exact r2 u h
  · exact s1.2.choose_spec.choose_spec.choose_spec.choose_spec.2.2.2.2 u h
/-- Onto nothing of its own it is new memory. -/
theorem g_apN (hw : Region.wanted o (yielded ops a.tmps) = true) {x : Operand} {ys : List Tm} (ho : o.op = .call { callee := .builtin .append, args := #[.const (.slice none 0 0), x], argTypes := #[22, 22] }) (hx : Ext w0 w) (hs : ∃ xs, CsAt w 4 ys.length (a.eval x) xs ∧ TcAt w0 xs ys) (hn : ys.length * 56 ≤ 140737488351232) : Gives Try.prog ops Q o (ownT w0 ys) a w := by
  obtain ⟨vs, s1, s2⟩ := hs
  obtain ⟨v', w', hr, h1, h2⟩ := cs_append (base := w0.heap.size) appT o.type (World.ownsRow_nil w _ _ _) s1 (by omega) (by omega) (Below.size hx)
  have hb : Below w.heap.size w w' := below_of_grown h2 (fun k hk => by cases hk)
  rw [Nat.zero_add, List.nil_append] at h1
  exact g_run hw (run_op_append ho hr) hb ⟨⟨_, h1, s1.2.choose_spec.choose_spec.choose_spec.choose_spec.2.2.2.2, s2⟩, Below.trans hx (Below.mono hb (Below.size hx))⟩
theorem g_fap (hw : Region.wanted o (yielded ops a.tmps) = true) {x : Operand} {b of : Nat} (ho : o.op = .fieldAddr 24 x 3) (h : a.eval x = .pointer (some ⟨b, of, none⟩)) : Gives Try.prog ops Q o (isv (.pointer (some ⟨b, of + 3, none⟩))) a w := by
  refine g_run hw (v := .pointer (some ⟨b, of + 3, none⟩)) ?_ (Ext.refl w) rfl
  unfold execOp
  simp only [ho, h]
  go_simp
theorem g_ldl (hw : Region.wanted o (yielded ops a.tmps) = true) {x : Operand} {b of : Nat} {v : Value} (ho : o.op = .load 22 x) (h : a.eval x = .pointer (some ⟨b, of, none⟩)) (hc : w.cell? ⟨b, of, none⟩ = some v) (ht : T.p w v) : Gives Try.prog ops Q o T a w := by
  refine g_run hw (v := v) ?_ (Ext.refl w) ht
  unfold execOp
  simp only [ho, h]
  go_simp
theorem g_ldv (hw : Region.wanted o (yielded ops a.tmps) = true) {x : Operand} {b of : Nat} {t : Tm} {ta : Option Addr} {tc : Nat} (ho : o.op = .load 24 x) (h : a.eval x = .pointer (some ⟨b, of, none⟩)) (hb : b < w.heap.size) (hc : C4 w b of t ta tc) (ht : T.p w (tv t ta tc)) : Gives Try.prog ops Q o T a w :=
  g_ldt hw ho ⟨b, of, h, hb, hc⟩ ht
end
end Go.Proofs.Ytgadglpbbcapcaa
