/- Terms in order, each once: off a heap. -/
import Derived.Test.YteiacgpaocnofaaGreatHh
namespace Go.Proofs.YteiacgpaocnofaaGreat
open Go.RowKit
theorem wpList_append_r {t e size bytes : Nat} (hA : AppTy t e size bytes) {ops : Array Oper} {rest : List Oper} {o : Oper} {a : Act} {w : World} {Q : Exit → Act → World → Prop} (hgd : o.guard = none) (s x : Operand) (ho : o.op = .call { callee := .builtin .append, args := #[s, x], argTypes := #[t, t] })
    {base n : Nat} {xs : List Value} (h : w.ownsRow base e size (a.eval s) n xs) {ad : Addr} {m c : Nat} {news : List Value} (hx : a.eval x = .slice (some ad) m c) (hl : news.length = m * size) (hnews : ∀ j u, news[j]? = some u → w.cell? (ad.add j) = some u) (h1 : ∀ u ∈ news, u.oneCell' = true)
    (h63 : n + m ≤ maxLen) (hby : (n + m) * bytes ≤ 140737488355328) (hb : base ≤ w.heap.size)
    (hk : ∀ v' w', w'.ownsRow base e size v' (n + m) (xs ++ news) → w.grownBy w' (a.eval s).ownBlock → wpList Tryz.prog ops Q rest (a.put o.dst v') w') : wpList Tryz.prog ops Q (o :: rest) a w := by
  refine wpList_plain hgd fun K hK => ?_
  obtain ⟨i, z, hi, hz, hs, hbt, hzs⟩ := hA.info
  obtain ⟨v', w', hr, h2, h3, _⟩ := run_append_own (P := Tryz.prog) w base t o.type e i z size bytes hA.und hi hz hs hbt hzs hA.pos _ n xs h ad m c news hl hnews h1 h63 hby hb
  exact Oper.wp_value (run_op_append ho (by rw [hx]; exact hr)) (hK _ _ (hk v' w' h2 h3))
theorem tc_news {W : World} {g : Nat} {x : Tm} (h : W.heap[g]? = some (.cells #[.int .i64 x.k, .int .i64 x.n, .string x.s, .slice none 0 0] 33 (0, 0))) : ∀ j u, (tc x)[j]? = some u → W.cell? (Addr.add ⟨g, 0, none⟩ j) = some u := fun j u hu => by
  rw [Addr.add_mid, Nat.zero_add, cell_of_row _ _ _ _ _ _ h]
  simpa [tc] using hu
theorem tc_one (x : Tm) : ∀ u ∈ tc x, u.oneCell' = true := fun u hu => by
  simp [tc] at hu
  rcases hu with rfl | rfl | rfl | rfl <;> rfl
theorem h_sameB {a b : Tm} {a1 : Option Addr} {c1 : Nat} {a2 : Option Addr} {c2 : Nat} {w : World} {u v : Value} {M : Bool} (eu : u = tv a a1 c1) (ev : v = tv b a2 c2) (ha : TAt w a a1 c1) (hb : TAt w b a2 c2) (hM : (cp a b == 0) = M) : Hands Tryz.prog 171 #[u, v] w (isv (.bool M)) := by
  subst hM
  exact h_same eu ev ha hb
def Rise (zs : List Tm) : Prop := ∀ j, j + 1 < zs.length → cp (gt zs j) (gt zs (j + 1)) < 0
/-- The set of these. -/
def IsSet (l zs : List Tm) : Prop := Rise zs ∧ (∀ t, t ∈ zs ↔ t ∈ l) ∧ zs.length ≤ l.length
/-- How far it is: what is still on the heap, what came off it. -/
structure Srt (l : List Tm) (w : World) (B P g cap S0 m : Nat) (ys zs : List Tm) (s : Value) (wr : World) : Prop where
  heap : HP wr B P g m cap ys
  row : wr.ownsRow S0 33 4 s zs.length (tcs zs)
  ok : HeapOk ys m
  fl : (∀ y ∈ ys, Fl y) ∧ ∀ z ∈ zs, Fl z
  rise : Rise zs ∧ (∀ z ∈ zs, ∀ y ∈ ys, cp z y ≤ 0) ∧ ∀ t, t ∈ l ↔ t ∈ zs ∨ t ∈ ys
  few : zs.length + m ≤ l.length ∧ l.length ≤ 16
  below : Below B w wr
  later : S0 ≤ wr.heap.size ∧ P < S0 ∧ g < S0 ∧ B ≤ S0
/-- One is off the heap, and not yet in the row. -/
structure Mid (l : List Tm) (w : World) (B P g cap S0 m : Nat) (ys zs : List Tm) (x : Tm) (s : Value) (wr : World) : Prop where
  heap : HP wr B P g m cap ys
  row : wr.ownsRow S0 33 4 s zs.length (tcs zs)
  ok : HeapOk ys m
  fl : (∀ y ∈ ys, Fl y) ∧ (∀ z ∈ zs, Fl z) ∧ Fl x
  rise : Rise zs ∧ (∀ z ∈ zs, cp z x ≤ 0 ∧ ∀ y ∈ ys, cp z y ≤ 0) ∧ (∀ y ∈ ys, cp x y ≤ 0) ∧ ∀ t, t ∈ l ↔ t ∈ zs ∨ t = x ∨ t ∈ ys
  few : zs.length + m + 1 ≤ l.length ∧ l.length ≤ 16
  below : Below B w wr
  later : S0 ≤ wr.heap.size ∧ P < S0 ∧ g < S0 ∧ B ≤ S0
theorem Mid.ext {l : List Tm} {w wr w' : World} {B P g cap S0 m : Nat} {ys zs : List Tm} {x : Tm} {s : Value} (h : Mid l w B P g cap S0 m ys zs x s wr) (he : Below wr.heap.size wr w') : Mid l w B P g cap S0 m ys zs x s w' :=
  ⟨h.heap.ext he, row_ext h.row he, h.ok, h.fl, h.rise, h.few, Below.trans h.below (Below.mono he (by have := h.later; omega)), by have := he.size; have := h.later; omega⟩
theorem row_mod {w w' : World} {B P g n : Nat} {s : Value} {xs : List Value} (h : w.ownsRow B 33 4 s n xs) (hm : Mod2 w w' P g) (hP : P < B) (hg : g < B) : w'.ownsRow B 33 4 s n xs :=
  ⟨h.1, by
    rcases h.2 with h1 | ⟨k, cap, cur, hv, hb, hr, hn⟩
    · exact .inl h1
    · exact .inr ⟨k, cap, cur, hv, hb, (hm.block k (Array.getElem?_eq_some_iff.1 hr).1 (by omega) (by omega)).trans hr, hn⟩⟩
theorem Srt.pop {l : List Tm} {w wr w' : World} {B P g cap S0 m : Nat} {ys ys' zs : List Tm} {s : Value} (h : Srt l w B P g cap S0 (m + 1) ys zs s wr) (h1 : HP w' B P g m cap ys') (h2 : HeapOk ys' m) (h3 : ∀ t, t ∈ ys ↔ t = gt ys 0 ∨ t ∈ ys') (h4 : Mod2 wr w' P g) : Mid l w B P g cap S0 m ys' zs (gt ys 0) s w' := by
  have hin : gt ys 0 ∈ ys := (h3 _).2 (.inl rfl)
  have htop : ∀ y ∈ ys', cp (gt ys 0) y ≤ 0 := fun y hy => by
    obtain ⟨k, hk, rfl⟩ := mem_getD.1 ((h3 y).2 (.inr hy))
    exact heap_top h.ok k (by have := h.heap.len; omega)
  refine ⟨h1, row_mod h.row h4 h.later.2.1 h.later.2.2.1, h2, ⟨fun y hy => h.fl.1 y ((h3 y).2 (.inr hy)), h.fl.2, h.fl.1 _ hin⟩, ⟨h.rise.1, fun z hz => ⟨h.rise.2.1 z hz _ hin, fun y hy => h.rise.2.1 z hz y ((h3 y).2 (.inr hy))⟩, htop, fun t => by rw [h.rise.2.2 t, h3 t]⟩, by have := h.few; omega, Below.trans h.below (h4.below h.heap.2.2.1 h.heap.2.1.lt.2 (by have := h.later; omega)), by have := h4.size; have := h.later; omega⟩
theorem flat_eq {a b : Tm} (ha : a.l = []) (hb : b.l = []) (h : cp a b = 0) : a = b := by
  have h1 := cmpT_zero h
  cases a; cases b
  simp only [Tm.k, Tm.n, Tm.s, Tm.l] at *
  obtain ⟨rfl, rfl, rfl⟩ := h1
  subst ha; subst hb; rfl
theorem Mid.skip {l : List Tm} {w wr : World} {B P g cap S0 m : Nat} {ys zs : List Tm} {x z : Tm} {s : Value} (h : Mid l w B P g cap S0 m ys zs x s wr) (hz : z ∈ zs) (hc : cp z x = 0) : Srt l w B P g cap S0 m ys zs s wr := by
  have e : z = x := flat_eq (h.fl.2.1 z hz).1 h.fl.2.2.1 hc
  subst e
  refine ⟨h.heap, h.row, h.ok, ⟨h.fl.1, h.fl.2.1⟩, ⟨h.rise.1, fun a ha y hy => (h.rise.2.1 a ha).2 y hy, fun t => ?_⟩, by have := h.few; omega, h.below, h.later⟩
  rw [h.rise.2.2.2 t]
  constructor
  · rintro (h1 | rfl | h1)
    · exact .inl h1
    · exact .inl hz
    · exact .inr h1
  · rintro (h1 | h1)
    · exact .inl h1
    · exact .inr (.inr h1)
theorem HP.beside {w w' : World} {B P g n cap : Nat} {ys : List Tm} (h : HP w B P g n cap ys) {X : Option Nat} (hg : w.grownBy w' X) (hX : ∀ k, X = some k → k ≠ P ∧ k ≠ g) : HP w' B P g n cap ys := by
  refine ⟨(hg.block P (Array.getElem?_eq_some_iff.1 h.1).1 (fun e => (hX P e.symm).1 rfl)).trans h.1, ⟨h.2.1.1, ?_⟩, h.2.2⟩
  rcases h.2.1.2 with h1 | ⟨k, c, cur, hv, hb, hr, hn⟩
  · exact .inl h1
  · have hk : g = k := by
      injection hv with e1 e2 e3
      injection e1 with e1
      injection e1
    exact .inr ⟨k, c, cur, hv, hb, (hg.block k (Array.getElem?_eq_some_iff.1 hr).1 (fun e => (hX k e.symm).2 hk.symm)).trans hr, hn⟩
theorem Mid.push {l : List Tm} {w wr w' : World} {B P g cap S0 m : Nat} {ys zs : List Tm} {x : Tm} {s v : Value} (h : Mid l w B P g cap S0 m ys zs x s wr) (hr : w'.ownsRow S0 33 4 v (zs.length + 1) (tcs zs ++ tc x)) (hg : wr.grownBy w' s.ownBlock) (hnew : ∀ z, z ∈ zs → cp z x < 0) : Srt l w B P g cap S0 m ys (zs ++ [x]) v w' := by
  have hX : ∀ k, s.ownBlock = some k → S0 ≤ k := fun k hk => (h.row.lt k hk).1
  have hl := h.later
  refine ⟨h.heap.beside hg (fun k hk => by have := hX k hk; omega), ?_, h.ok, ⟨h.fl.1, fun z hz => ?_⟩, ⟨?_, fun z hz y hy => ?_, fun t => ?_⟩, by have := h.few; simp; omega, ?_, by have := hg.size; omega⟩
  · rw [List.length_append, tcs_app]
    have e : tcs [x] = tc x := by simp [tcs]
    rw [e]
    exact hr
  · rcases List.mem_append.1 hz with h1 | h1
    · exact h.fl.2.1 z h1
    · simp at h1; subst h1; exact h.fl.2.2
  · intro j hj
    rw [List.length_append] at hj
    have hj2 : j + 1 < zs.length + 1 := hj
    have G : ∀ k, k < zs.length → gt (zs ++ [x]) k = gt zs k := fun k hk => by
      show (zs ++ [x]).getD k default = _
      rw [List.getD_eq_getElem?_getD, List.getElem?_append_left hk]; rfl
    have GL : gt (zs ++ [x]) zs.length = x := by
      show (zs ++ [x]).getD zs.length default = x
      rw [List.getD_eq_getElem?_getD, List.getElem?_append_right (Nat.le_refl _)]; simp
    rw [G j (by omega)]
    by_cases e : j + 1 = zs.length
    · rw [e, GL]
      exact hnew _ (List.mem_of_getElem? (at_getD (by omega)))
    · rw [G (j + 1) (by omega)]
      exact h.rise.1 j (by omega)
  · rcases List.mem_append.1 hz with h1 | h1
    · exact (h.rise.2.1 z h1).2 y hy
    · simp at h1; subst h1; exact h.rise.2.2.1 y hy
  · rw [h.rise.2.2.2 t, List.mem_append]
    simp only [List.mem_singleton]
    constructor
    · rintro (h1 | h1 | h1)
      · exact .inl (.inl h1)
      · exact .inl (.inr h1)
      · exact .inr h1
    · rintro ((h1 | h1) | h1)
      · exact .inl h1
      · exact .inr (.inl h1)
      · exact .inr (.inr h1)
  · exact Below.trans h.below ⟨hg.os, hg.tape, hg.output, hg.size, fun k hk => hg.block k (by omega) (fun e => by have := hX k e.symm; omega)⟩
/-- The last one tells of all. -/
theorem last_lt {zs : List Tm} (hr : Rise zs) {q : Nat} (hq : zs.length = q + 1) {x : Tm} (hx : cp (gt zs q) x < 0) : ∀ z, z ∈ zs → cp z x < 0 := fun z hz => by
  obtain ⟨k, hk, rfl⟩ := mem_getD.1 hz
  have up : ∀ d, k + d < zs.length → cp (gt zs k) (gt zs (k + d)) ≤ 0 := fun d => by
    induction d with
    | zero => intro _; have := cp_refl (gt zs k); show cp (gt zs k) (gt zs k) ≤ 0; omega
    | succ d ih => intro hd; exact cp_le (ih (by omega)) (by have := hr (k + d) (by omega); show cp (gt zs (k + d)) (gt zs (k + d + 1)) ≤ 0; omega)
  have h1 := up (q - k) (by omega)
  rw [show k + (q - k) = q by omega] at h1
  exact (cp_ord.trans _ _ _ h1 (by omega)).2.2 hx
/-- A row as a list of terms. -/
theorem row_lat {w : World} {B : Nat} {v : Value} {zs : List Tm} (h : w.ownsRow B 33 4 v zs.length (tcs zs)) (hf : ∀ z ∈ zs, Fl z) : ∃ a c, v = .slice a zs.length c ∧ LAt w zs a c := by
  rcases h.2 with ⟨e, h0⟩ | ⟨g, cap, cur, e, hb, hr, hn, hm, hs, ht⟩
  · have : zs = [] := List.eq_nil_of_length_eq_zero h0
    subst this
    exact ⟨none, 0, e, LAt.nil w none 0 (by decide)⟩
  · subst e
    refine ⟨some ⟨g, 0, none⟩, cap, rfl, hn, by unfold maxLen at hm; omega, g, 0, fun _ => none, fun _ => 0, fun _ => ⟨rfl, (Array.getElem?_eq_some_iff.1 hr).1⟩, fun i x hx => ?_⟩
    have hfx := hf x (List.mem_of_getElem? hx)
    exact ⟨by rw [Nat.zero_add]; exact HR.c4 (B := B) (n := zs.length) (cap := cap) h hx hfx, hfx.at w⟩
end Go.Proofs.YteiacgpaocnofaaGreat
