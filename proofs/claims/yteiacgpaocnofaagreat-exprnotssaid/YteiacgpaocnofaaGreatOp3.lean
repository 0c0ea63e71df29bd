/- Terms of one set that are in another, or not: the program's calls. -/
import Derived.Test.YteiacgpaocnofaaGreatOp1
import Derived.Test.YteiacgpaocnofaaGreatTz
namespace Go.Proofs.YteiacgpaocnofaaGreat
open Go.RowKit
/-- Those that are in b, or those that are not. -/
def sel (b : Tm) (i : Bool) (l : List Tm) : List Tm := l.filter fun t => hasT b t == i
theorem sel_next {b : Tm} {i : Bool} {l : List Tm} {k : Nat} {x : Tm} (hx : l[k]? = some x) : sel b i (l.take (k + 1)) = sel b i (l.take k) ++ (if (hasT b x == i) = true then [x] else []) := by
  unfold sel
  rw [List.take_add_one, hx, List.filter_append]
  show _ ++ List.filter (fun t => hasT b t == i) [x] = _
  cases h : (hasT b x == i) <;> simp [h]
theorem sel_len (b : Tm) (i : Bool) (l : List Tm) : (sel b i l).length ≤ l.length := List.length_filter_le _ _
theorem sel_take_len {b : Tm} {i : Bool} {l : List Tm} {k : Nat} (h : l.length ≤ 16) : (sel b i (l.take k)).length ≤ 16 := Nat.le_trans (sel_len _ _ _) (Nat.le_trans (by rw [List.length_take]; omega) h)
theorem below_grow {B : Nat} {w a b : World} {X : Option Nat} (h : Below B w a) (hg : a.grownBy b X) (hX : ∀ k, X = some k → B ≤ k) (hB : B ≤ a.heap.size) : Below B w b :=
  h.trans ⟨hg.os, hg.tape, hg.output, hg.size, fun k hk => hg.block k (by omega) (fun e => by have := hX k e.symm; omega)⟩
theorem ob_le {w : World} {B n : Nat} {v : Value} {xs : List Value} (h : w.ownsRow B 33 4 v n xs) : ∀ k, v.ownBlock = some k → B ≤ k := fun k hk => (h.lt k hk).1
theorem tc4_news {W : World} {g : Nat} {x : Tm} {xa : Option Addr} {xc : Nat} (h : W.heap[g]? = some (.cells (tvC x xa xc) 33 (0, 0))) : ∀ j u, ([.int .i64 x.k, .int .i64 x.n, .string x.s, .slice xa x.l.length xc] : List Value)[j]? = some u → W.cell? (Addr.add ⟨g, 0, none⟩ j) = some u := fun j u hu => by
  rw [Addr.add_mid, Nat.zero_add, cell_of_row _ _ _ _ _ _ h]
  simpa using hu
theorem tc4_one (x : Tm) (xa : Option Addr) (xc : Nat) : ∀ u ∈ ([.int .i64 x.k, .int .i64 x.n, .string x.s, .slice xa x.l.length xc] : List Value), u.oneCell' = true := fun u hu => by
  simp at hu
  rcases hu with rfl | rfl | rfl | rfl <;> rfl
/-- How far it is. -/
def Sel (b : Tm) (a2 : Option Addr) (c2 : Nat) (i : Bool) (l : List Tm) (w : World) (k : Nat) (s : Value) (wr : World) : Prop :=
  (∃ xs, wr.ownsRow (w.heap.size + 2) 33 4 s (sel b i (l.take k)).length xs ∧ (∀ u ∈ xs, u.oneCell' = true) ∧ TcAt w xs (sel b i (l.take k))) ∧ Below w.heap.size w wr ∧ wr.heap[w.heap.size + 1]? = some (.cells (tvC b a2 c2) 33 (0, 0)) ∧ w.heap.size + 2 ≤ wr.heap.size
theorem Sel.ext {b : Tm} {a2 : Option Addr} {c2 : Nat} {i : Bool} {l : List Tm} {w wr w' : World} {k : Nat} {s : Value} (h : Sel b a2 c2 i l w k s wr) (he : Below wr.heap.size wr w') : Sel b a2 c2 i l w k s w' := by
  obtain ⟨⟨xs, h1, h2, h3⟩, h4, h5, h6⟩ := h
  exact ⟨⟨xs, row_ext h1 he, h2, h3⟩, Below.chain h4 he, Below.heap he (Array.getElem?_eq_some_iff.1 h5).1 h5, Nat.le_trans h6 he.size⟩
theorem Sel.skip {b : Tm} {a2 : Option Addr} {c2 : Nat} {i : Bool} {l : List Tm} {w wr : World} {k : Nat} {s : Value} {x : Tm} (h : Sel b a2 c2 i l w k s wr) (hx : l[k]? = some x) (hc : (hasT b x == i) = false) : Sel b a2 c2 i l w (k + 1) s wr := by
  have e : sel b i (l.take (k + 1)) = sel b i (l.take k) := by rw [sel_next hx, hc]; simp
  unfold Sel
  rw [e]
  exact h
theorem Sel.put {b : Tm} {a2 : Option Addr} {c2 : Nat} {i : Bool} {l : List Tm} {w wr w' : World} {k : Nat} {s v : Value} {x : Tm} {xa : Option Addr} {xc : Nat} {xs : List Value} (h : Sel b a2 c2 i l w k s wr) (hx : l[k]? = some x) (hc : (hasT b x == i) = true) (ht : TAt w x xa xc)
    (h1 : wr.ownsRow (w.heap.size + 2) 33 4 s (sel b i (l.take k)).length xs) (h2 : ∀ u ∈ xs, u.oneCell' = true) (h3 : TcAt w xs (sel b i (l.take k)))
    (ho : w'.ownsRow (w.heap.size + 2) 33 4 v ((sel b i (l.take k)).length + 1) (xs ++ [.int .i64 x.k, .int .i64 x.n, .string x.s, .slice xa x.l.length xc])) (hg : wr.grownBy w' s.ownBlock) : Sel b a2 c2 i l w (k + 1) v w' := by
  have e : sel b i (l.take (k + 1)) = sel b i (l.take k) ++ [x] := by rw [sel_next hx, hc]; simp
  have hX := ob_le h1
  obtain ⟨_, h4, h5, h6⟩ := h
  refine ⟨⟨_, by rw [e, List.length_append]; exact ho, fun u hu => ?_, by rw [e]; exact h3.append (.one ht)⟩, below_grow h4 hg (fun k hk => by have := hX k hk; omega) (by omega), ?_, Nat.le_trans h6 hg.size⟩
  · rcases List.mem_append.1 hu with hu | hu
    · exact h2 u hu
    · exact tc4_one x xa xc u hu
  · exact (hg.block _ (by omega) (fun e => by have := hX _ e.symm; omega)).trans h5
theorem selBox (w : World) (a b : Tm) (a1 : Option Addr) (c1 : Nat) (a2 : Option Addr) (c2 : Nat) (i : Bool) :
    Sel b a2 c2 i a.l w 0 (.slice none 0 0) ((w.alloc (.cells (tvC a a1 c1) 33)).alloc (.cells (tvC b a2 c2) 33)) := by
  refine ⟨⟨[], World.ownsRow_nil _ _ _ _, fun u h => by simp at h, TcAt.nil w⟩, Below.chain (alloc_below _ _) (alloc_below _ _), ?_, by simp⟩
  have := heap_alloc_last (w.alloc (.cells (tvC a a1 c1) 33)) (.cells (tvC b a2 c2) 33)
  rwa [show (w.alloc (.cells (tvC a a1 c1) 33)).heap.size = w.heap.size + 1 by simp] at this
/-- A row of terms of the call's own. -/
def OwL (B : Nat) (w : World) (v : Value) (zs : List Tm) : Prop := ∃ xs, w.ownsRow B 33 4 v zs.length xs ∧ (∀ u ∈ xs, u.oneCell' = true) ∧ TcAt w xs zs
theorem OwL.low {B C : Nat} {w : World} {v : Value} {zs : List Tm} (h : OwL B w v zs) (hC : C ≤ B) : OwL C w v zs := by
  obtain ⟨xs, h1, h2, h3⟩ := h
  exact ⟨xs, row_base h1 hC, h2, h3⟩
theorem OwL.ext {B : Nat} {W w : World} {v : Value} {zs : List Tm} (h : OwL B W v zs) (he : Below W.heap.size W w) : OwL B w v zs := by
  obtain ⟨xs, h1, h2, h3⟩ := h
  exact ⟨xs, row_ext h1 he, h2, h3.ext he⟩
theorem OwL.ts {B : Nat} {w : World} {v : Value} {zs : List Tm} (h : OwL B w v zs) : TsAt w v zs := by
  obtain ⟨xs, h1, h2, h3⟩ := h
  exact ⟨xs, row_cs h1 h2, h3⟩
def RowA (l : List Tm) (w : World) (e : Ending) (w' : World) : Prop := ∃ v, e = .returned v ∧ OwL w.heap.size w' v l ∧ Below w.heap.size w w'
set_option maxRecDepth 100000 in
set_option maxHeartbeats 4000000 in
theorem those_any {a b : Tm} {a1 : Option Addr} {c1 : Nat} {a2 : Option Addr} {c2 : Nat} {w : World} (ha : TAt w a a1 c1) (hb : TAt w b a2 c2) (hn : a.l.length ≤ 16) (i : Bool) : Calls Tryz.prog 184 #[tv a a1 c1, tv b a2 c2, .bool i] w (RowA (sel b i a.l) w) := by
  have HS0 := hide (selBox w a b a1 c1 a2 c2 i)
  have HL := hide (And.intro ha.list (And.intro hb hn))
  have hm1 : (a.l.length : Int) ≤ 16 := by omega
  unfold tv
  clear ha hb hn
  go_enter Tryz.func184, Tryz.ntmps184
  go_wp2
  go_loopw [13, 7] (fun j s wr => ∃ k : Nat, k ≤ a.l.length ∧ j = .int .i64 (k : Int) ∧ Sel b a2 c2 i a.l w k s wr) (fun j _ _ => a.l.length - (intOf j).toNat)
  case atStart => exact ⟨0, Nat.zero_le _, rfl, HS0.out⟩
  case round =>
    obtain ⟨k, hk, rfl, hS⟩ := hrel
    by_cases hlt : k < a.l.length
    · obtain ⟨x, hx⟩ : ∃ x, a.l[k]? = some x := ⟨_, List.getElem?_eq_getElem hlt⟩
      obtain ⟨g, o, hao, hbb, hcs⟩ := HL.out.1.read (by omega)
      subst hao
      obtain ⟨xa, xc, hxt, hc4⟩ := hcs k x hx
      obtain ⟨p0, p1, p2, p3⟩ := hc4 wr hS.2.1
      have hix := fun w_ => ix_terms w_ g o a.l.length c1 k hlt
      have bA := alloc_below wr (.cells (tvC x xa xc) 33)
      have rx := heap_alloc_last wr (.cells (tvC x xa xc) 33)
      have rb := Below.heap bA (Array.getElem?_eq_some_iff.1 hS.2.2.1).1 hS.2.2.1
      obtain ⟨y0, _⟩ := row_reads rb
      have q0 := y0 0
      have q1 := y0 1
      have q2 := y0 2
      have q3 := y0 3
      simp only [List.getElem?_toArray, List.getElem?_cons_zero, List.getElem?_cons_succ] at q0 q1 q2 q3
      have bb := Below.chain hS.2.1 bA
      have HC := hide (Has_any (HL.out.2.1.ext bb) (hxt.ext bb))
      unfold tv at HC
      have HX := hide (And.intro (hS.ext bA) (And.intro hx (And.intro hxt rx)))
      clear hS hcs hc4 hxt hx bA rx rb y0 bb
      cases hc : (hasT b x == i) with
      | true =>
        have HT := hide hc
        go_wp2_with fail
        refine HC.out.mono ?_
        rintro e w2 ⟨rfl, b2⟩
        have r2 := Below.heap b2 (Array.getElem?_eq_some_iff.1 HX.out.2.2.2).1 HX.out.2.2.2
        obtain ⟨z0, _⟩ := row_reads r2
        have A0 := z0 0
        have A1 := z0 1
        have A2 := z0 2
        have A3 := z0 3
        simp only [List.getElem?_toArray, List.getElem?_cons_zero, List.getElem?_cons_succ] at A0 A1 A2 A3
        have HY0 := (HX.out.1.ext b2).ext (alloc_below w2 (.cells (tvC x xa xc) 33))
        obtain ⟨xs, o1, o2, o3⟩ := HY0.1
        have HY := hide (And.intro HY0 (And.intro o1 (And.intro o2 o3)))
        have hfew : (sel b i (a.l.take k)).length ≤ 16 := sel_take_len HL.out.2.2
        clear b2 z0 r2 HC o2 o3 HY0 q0 q1 q2 q3 p0 p1 p2 p3
        go_wp2_with (at_builtin; refine wpList_append_r appT rfl (.tmp 22) (.tmp 24) rfl (base := w.heap.size + 2) (n := (sel b i (a.l.take k)).length) (xs := xs) o1 (ad := ⟨_, 0, none⟩) (m := 1) (c := 1) (news := [.int .i64 x.k, .int .i64 x.n, .string x.s, .slice xa x.l.length xc]) rfl rfl (tc4_news (heap_alloc_last _ _)) (tc4_one x xa xc) (by unfold maxLen; omega) (by omega) (HY.out.1.2.2.2) ?_)
        intro v5 w5 o5 g5
        have HN := hide (HY.out.1.put HX.out.2.1 HT.out HX.out.2.2.1 HY.out.2.1 HY.out.2.2.1 HY.out.2.2.2 o5 g5)
        clear HY o5 g5 o1
        go_wp2
        go_roundw
        case rel => exact ⟨k + 1, by omega, by go_num, HN.out⟩
        case measure => simp [intOf]; omega
      | false =>
        have HT := hide hc
        go_wp2_with fail
        refine HC.out.mono ?_
        rintro e w2 ⟨rfl, b2⟩
        have HN := hide ((HX.out.1.ext b2).skip HX.out.2.1 HT.out)
        clear b2 HC
        go_wp2
        go_roundw
        case rel => exact ⟨k + 1, by omega, by go_num, HN.out⟩
        case measure => simp [intOf]; omega
    · obtain rfl : k = a.l.length := by omega
      have HN := hide hS
      clear hS
      go_wp2
      go_ret
      obtain ⟨⟨xs, o1, o2, o3⟩, o4, _⟩ := HN.out
      rw [List.take_length] at o1 o3
      exact ⟨_, rfl, ⟨xs, row_base o1 (Nat.le_add_right _ _), o2, o3.ext o4⟩, o4⟩
theorem box2 (w : World) (cs ds : Array Value) (t u : TypeId) : Below w.heap.size w ((w.alloc (.cells cs t)).alloc (.cells ds u)) ∧ ((w.alloc (.cells cs t)).alloc (.cells ds u)).heap[w.heap.size + 1]? = some (.cells ds u (0, 0)) ∧ ((w.alloc (.cells cs t)).alloc (.cells ds u)).heap[w.heap.size]? = some (.cells cs t (0, 0)) := by
  refine ⟨Below.chain (alloc_below _ _) (alloc_below _ _), ?_, Below.heap (alloc_below _ _) (by simp) (heap_alloc_last w _)⟩
  have h := heap_alloc_last (w.alloc (.cells cs t)) (.cells ds u)
  rwa [show (w.alloc (.cells cs t)).heap.size = w.heap.size + 1 by simp] at h
set_option maxRecDepth 100000 in
set_option maxHeartbeats 2000000 in
theorem within_any {a b : Tm} {a1 : Option Addr} {c1 : Nat} {a2 : Option Addr} {c2 : Nat} {w : World} (ha : TAt w a a1 c1) (hb : TAt w b a2 c2) (hn : a.l.length ≤ 16) : Calls Tryz.prog 180 #[tv a a1 c1, tv b a2 c2] w (RowA (sel b true a.l) w) := by
  have b0 := (box2 w (tvC a a1 c1) (tvC b a2 c2) 33 33).1
  have HC := hide (those_any (ha.ext b0) (hb.ext b0) hn true)
  have B0 := hide b0
  clear b0 ha hb hn
  generalize sel b true a.l = L at *
  unfold tv tvC at *
  generalize a.k = ak at *
  generalize a.n = an at *
  generalize a.s = aS at *
  generalize a.l.length = al at *
  generalize b.k = bk at *
  generalize b.n = bn at *
  generalize b.s = bS at *
  generalize b.l.length = bl at *
  go_enter Tryz.func180, Tryz.ntmps180
  go_wp2_with fail
  refine HC.out.mono ?_
  rintro e_ w1 ⟨v, rfl, o1, b1⟩
  have HX := hide (And.intro (o1.low B0.out.size) (Below.chain B0.out b1))
  clear o1 b1 HC
  go_wp2
  go_ret
  exact ⟨_, rfl, HX.out.1, HX.out.2⟩
set_option maxRecDepth 100000 in
set_option maxHeartbeats 2000000 in
theorem without_any {a b : Tm} {a1 : Option Addr} {c1 : Nat} {a2 : Option Addr} {c2 : Nat} {w : World} (ha : TAt w a a1 c1) (hb : TAt w b a2 c2) (hn : a.l.length ≤ 16) : Calls Tryz.prog 176 #[tv a a1 c1, tv b a2 c2] w (RowA (sel b false a.l) w) := by
  have b0 := (box2 w (tvC a a1 c1) (tvC b a2 c2) 33 33).1
  have HC := hide (those_any (ha.ext b0) (hb.ext b0) hn false)
  have B0 := hide b0
  clear b0 ha hb hn
  generalize sel b false a.l = L at *
  unfold tv tvC at *
  generalize a.k = ak at *
  generalize a.n = an at *
  generalize a.s = aS at *
  generalize a.l.length = al at *
  generalize b.k = bk at *
  generalize b.n = bn at *
  generalize b.s = bS at *
  generalize b.l.length = bl at *
  go_enter Tryz.func176, Tryz.ntmps176
  go_wp2_with fail
  refine HC.out.mono ?_
  rintro e_ w1 ⟨v, rfl, o1, b1⟩
  have HX := hide (And.intro (o1.low B0.out.size) (Below.chain B0.out b1))
  clear o1 b1 HC
  go_wp2
  go_ret
  exact ⟨_, rfl, HX.out.1, HX.out.2⟩
set_option maxRecDepth 100000 in
set_option maxHeartbeats 2000000 in
theorem like_nil1 {a b : Tm} {a1 : Option Addr} {c1 : Nat} {a2 : Option Addr} {c2 : Nat} {w : World} (h : a.l.length = 0) : Calls Tryz.prog 181 #[tv a a1 c1, tv b a2 c2] w fun e w' => e = .returned (.bool true) ∧ Below w.heap.size w w' := by
  have HB : Hid (∀ j, Below w.heap.size w (((w.alloc (.cells (tvC a a1 c1) 33)).alloc (.cells (tvC b a2 c2) 33)).drewN j)) := fun j => below_drewN (box2 w (tvC a a1 c1) (tvC b a2 c2) 33 33).1 j
  have e0 : ((a.l.length : Int) == 0) = true := by rw [h]; rfl
  clear h
  unfold tv tvC at *
  generalize a.k = ak at *
  generalize a.n = an at *
  generalize a.s = aS at *
  generalize a.l.length = al at *
  generalize b.k = bk at *
  generalize b.n = bn at *
  generalize b.s = bS at *
  generalize b.l.length = bl at *
  go_enter Tryz.func181, Tryz.ntmps181
  go_wp2_with fail
  go_quiet (fail)
  go_wp2
  go_ret
  exact ⟨rfl, HB.out _⟩
set_option maxRecDepth 100000 in
set_option maxHeartbeats 2000000 in
theorem like_nil2 {a b : Tm} {a1 : Option Addr} {c1 : Nat} {a2 : Option Addr} {c2 : Nat} {w : World} (h0 : a.l.length ≠ 0) (h : b.l.length = 0) : Calls Tryz.prog 181 #[tv a a1 c1, tv b a2 c2] w fun e w' => e = .returned (.bool true) ∧ Below w.heap.size w w' := by
  have HB : Hid (∀ j, Below w.heap.size w (((w.alloc (.cells (tvC a a1 c1) 33)).alloc (.cells (tvC b a2 c2) 33)).drewN j)) := fun j => below_drewN (box2 w (tvC a a1 c1) (tvC b a2 c2) 33 33).1 j
  have e0 : ((a.l.length : Int) == 0) = false := by simp; intro e; rw [e] at h0; exact absurd rfl h0
  have e1 : ((b.l.length : Int) == 0) = true := by rw [h]; rfl
  clear h h0
  unfold tv tvC at *
  generalize a.k = ak at *
  generalize a.n = an at *
  generalize a.s = aS at *
  generalize a.l.length = al at *
  generalize b.k = bk at *
  generalize b.n = bn at *
  generalize b.s = bS at *
  generalize b.l.length = bl at *
  go_enter Tryz.func181, Tryz.ntmps181
  go_wp2_with fail
  go_quiet (fail)
  go_wp2
  go_ret
  exact ⟨rfl, HB.out _⟩
set_option maxRecDepth 100000 in
set_option maxHeartbeats 2000000 in
theorem like_heads {a b x y : Tm} {a1 : Option Addr} {c1 : Nat} {a2 : Option Addr} {c2 : Nat} {w : World} (ha : TAt w a a1 c1) (hb : TAt w b a2 c2) (hx : a.l[0]? = some x) (hy : b.l[0]? = some y) : Calls Tryz.prog 181 #[tv a a1 c1, tv b a2 c2] w fun e w' => e = .returned (.bool (x.k == y.k)) ∧ Below w.heap.size w w' := by
  have HB : Hid (∀ j, Below w.heap.size w (((w.alloc (.cells (tvC a a1 c1) 33)).alloc (.cells (tvC b a2 c2) 33)).drewN j)) := fun j => below_drewN (box2 w (tvC a a1 c1) (tvC b a2 c2) 33 33).1 j
  have e0 : ((a.l.length : Int) == 0) = false := by have := (List.getElem?_eq_some_iff.1 hx).1; simp; intro e; rw [e] at this; simp at this
  have e1 : ((b.l.length : Int) == 0) = false := by have := (List.getElem?_eq_some_iff.1 hy).1; simp; intro e; rw [e] at this; simp at this
  have hl1 : 0 < a.l.length := (List.getElem?_eq_some_iff.1 hx).1
  have hl2 : 0 < b.l.length := (List.getElem?_eq_some_iff.1 hy).1
  have b0 := (box2 w (tvC a a1 c1) (tvC b a2 c2) 33 33).1
  obtain ⟨g, o, hao, _, hcs⟩ := ha.list.read hl1
  obtain ⟨g2, o2, hao2, _, hcs2⟩ := hb.list.read hl2
  subst hao
  subst hao2
  obtain ⟨xa, xc, _, hc4⟩ := hcs 0 x hx
  obtain ⟨ya, yc, _, hd4⟩ := hcs2 0 y hy
  obtain ⟨p0, _⟩ := hc4 _ b0
  obtain ⟨r0, _⟩ := hd4 _ b0
  rw [Nat.zero_mul, Nat.add_zero] at p0 r0
  have hix := fun w_ => ix_terms w_ g o a.l.length c1 0 hl1
  have hiy := fun w_ => ix_terms w_ g2 o2 b.l.length c2 0 hl2
  rw [Nat.zero_mul, Nat.add_zero] at hix hiy
  simp only [Int.natCast_zero] at hix hiy
  clear ha hb hx hy hcs hcs2 hc4 hd4 b0 hl1 hl2
  unfold tv tvC at *
  generalize a.k = ak at *
  generalize a.n = an at *
  generalize a.s = aS at *
  generalize a.l.length = al at *
  generalize b.k = bk at *
  generalize b.n = bn at *
  generalize b.s = bS at *
  generalize b.l.length = bl at *
  generalize x.k = xk at *
  generalize y.k = yk at *
  go_enter Tryz.func181, Tryz.ntmps181
  go_wp2_with fail
  go_quiet (fail)
  go_wp2
  go_ret
  exact ⟨rfl, HB.out _⟩
end Go.Proofs.YteiacgpaocnofaaGreat
