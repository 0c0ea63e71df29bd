/- A copy of bytes; the reader's ways: a number behind a tag, bytes behind a tag. -/
import Derived.Test.YtogegmdimfinaaaPb3
import Derived.Laws.ResultCell
namespace Go.Proofs.Ytogegmdimfinaaa
open Go.RowKit
theorem results_row_tmp {P : Program} {fn : Func} {p u : Tmp} {ty : TypeId} (h : fn.results = #[.cell p ty, .tmp u]) (tmps : Array Value) (w : World) (g : Nat) (t : TypeId) (cs : Array Value) (fr : Nat × Nat) (d : TypeDesc)
    (hp : tmps.getD p undef = .pointer (some ⟨g, 0, none⟩)) (hg : w.heap[g]? = some (.cells cs t fr))
    (hu : P.underlying ty = some d) (hd : (match d with | .struct _ | .array _ _ => true | _ => false) = true) (hi : (P.info? ty).map (·.size) = some cs.size) :
    (results fn tmps).run P w = .ok (.tuple #[.agg cs, tmps.getD u undef]) w := by
  rw [results_cell_tmp h, hp]
  simp only [asAddr, Sem.run_pure, Result.andThen_ok, run_loadVar_row w g t ty cs fr d hg hu hd hi]
set_option maxRecDepth 100000 in
set_option maxHeartbeats 1000000 in
theorem clone_b {v : Value} {l : List Nat} {w : World} (h : BsAt w v l) (hl : l.length ≤ 100000000) : Calls Try.prog 36 #[v] w fun e w' => ∃ u, e = .returned u ∧ Own w' w.heap.size u l ∧ Below w.heap.size w w' := by
  have H := hide h
  have HL := hide hl
  obtain ⟨b, o, c, ao, rfl, hc, hm, _, hh⟩ := h
  cases ao with
  | none =>
    have hl0 : l = [] := by
      cases l with
      | nil => rfl
      | cons x t => obtain ⟨e, _⟩ := hh (by simp); cases e
    subst hl0
    have hq : ∀ W : World, (binOp BinOp.eql 30 (Value.slice none 0 c) (Value.slice none 0 0)).run Try.prog W = .ok (.bool true) W := fun W => by kernel_rfl
    clear hh hl hc hm
    go_enter Try.func36, Try.ntmps36
    go_wp2
    go_ret
    exact ⟨_, rfl, own_nil _ _ (Nat.le_refl _), Below.refl _ _⟩
  | some ad =>
    have hq : ∀ W : World, (binOp BinOp.eql 30 (Value.slice (some ad) l.length c) (Value.slice none 0 0)).run Try.prog W = .ok (.bool false) W := fun W => by kernel_rfl
    clear hh hl hc hm
    go_enter Try.func36, Try.ntmps36
    have B1 := hide (alloc_below w (.cells #[] 5))
    go_wp2_with (at_builtin; refine wpList_append_b rfl (.tmp 5) (.tmp 6) rfl (base := w.heap.size) (l := []) (m := l) own_none0 (H.out.ext B1.out) (by have := HL.out; simp; omega) (by simp) ?_)
    intro v1 w1 o1 g1
    have B2 := hide (below_gr B1.out own_none0 (Nat.le_refl _) g1)
    have O1 := hide o1
    clear g1 B1 o1
    go_wp2
    go_ret
    exact ⟨_, rfl, O1.out, B2.out⟩
/-- A field as the program has it. -/
def fv (f : Fld) (bv : Value) : Value := .agg #[.int .i64 (f.num : Int), .bool f.whole, .int .u64 (f.n : Int), bv]
/-- A reader that has these bytes yet to read: they lie in memory that was there ahead of it. -/
def RAt (W w : World) (g : Nat) (l : List Nat) : Prop := ∃ v, BsAt W v l ∧ W.heap.size ≤ g ∧ W.grownBy w (some g) ∧ w.heap[g]? = some (.cells #[v] 69 (0, 0))
theorem grown_trans {a b c : World} {X : Option Nat} (h : a.grownBy b X) (k : b.grownBy c X) : a.grownBy c X := gr_trans h k (fun _ e => .inl e)
theorem grown_alloc (w : World) (X : Option Nat) (o : Obj) : w.grownBy (w.alloc o) X := Ext.gr (alloc_below w o) X
theorem sizeF : (Try.prog.info? 54).map (·.size) = some 4 := by kernel_rfl
theorem sizeR : (Try.prog.info? 53).map (·.size) = some 4 := by kernel_rfl
theorem sizeP : (Try.prog.info? 32).map (·.size) = some 4 := by kernel_rfl
/-- Four cells of a field, stored over what a variable holds. -/
theorem wpList_store_f {ops : Array Oper} {rest : List Oper} {o : Oper} {a : Act} {w : World} {Q : Exit → Act → World → Prop} (hgd : o.guard = none) (T : TypeId) (hT : (Try.prog.info? T).map (·.size) = some 4) (x y : Operand) (ho : o.op = .store T x y)
    (g : Nat) (hx : a.eval x = .pointer (some ⟨g, 0, none⟩)) {i n : Int} {b : Bool} {so : Option Addr} {sl sc : Nat} (hy : a.eval y = .agg #[.int .i64 i, .bool b, .int .u64 n, .slice so sl sc])
    {old : Array Value} (hold : old.size = 4) (hg : w.heap[g]? = some (.cells old T (0, 0)))
    (h : wpList Try.prog ops Q rest (a.put o.dst undef) (w.setRow g #[.int .i64 i, .bool b, .int .u64 n, .slice so sl sc])) : wpList Try.prog ops Q (o :: rest) a w :=
  wpList_store_row hgd T x y ho g _ hx hy T old hg (by rw [hT]; rfl) (by rw [hold]; rfl) (by simp [Value.oneCell']) h
/-- A field with nothing in it. -/
def fz : Value := .agg #[.int .i64 0, .bool false, .int .u64 0, .slice none 0 0]
/-- One level down: the world in which a number is read behind a new variable. -/
theorem RAt.alloc {W w : World} {g : Nat} {l : List Nat} (h : RAt W w g l) (o : Obj) : RAt W (w.alloc o) g l := by
  obtain ⟨v, hb, hW, hgw, hr⟩ := h
  exact ⟨v, hb, hW, grown_trans hgw (grown_alloc _ _ _), (Below.heap_alloc _ _ _ (Array.getElem?_eq_some_iff.1 hr).1).trans hr⟩
theorem RAt.lt {W w : World} {g : Nat} {l : List Nat} (h : RAt W w g l) : g < w.heap.size := by
  obtain ⟨v, hb, hW, hgw, hr⟩ := h
  exact (Array.getElem?_eq_some_iff.1 hr).1
theorem grown_set (w : World) (g : Nat) (v : Value) : w.grownBy (w.setCell ⟨g, 0, none⟩ v) (some g) :=
  ⟨rfl, rfl, rfl, by simp, fun k _ hne => Below.heap_setCell w ⟨g, 0, none⟩ v k (fun e => hne (by rw [e]))⟩
theorem heap_set0 {w : World} {g : Nat} {v u : Value} {t : TypeId} (hr : w.heap[g]? = some (.cells #[v] t (0, 0))) : (w.setCell ⟨g, 0, none⟩ u).heap[g]? = some (.cells #[u] t (0, 0)) := by
  rw [heap_setCell_same _ _ _ _ _ _ hr]
  rfl
/-- The number that is read next, and what the reader has behind it. -/
theorem varint_at {g : Nat} {l : List Nat} {W w : World} (h : RAt W w g l) (Q : Ending → World → Prop)
    (hbad : ∀ e', rv 0 0 l = .bad e' → Q (.returned (.tuple #[.int .u64 0, .int .i64 (e' : Int)])) w)
    (hok : ∀ n k w', rv 0 0 l = .ok n k → RAt W w' g (l.drop k) → w.grownBy w' (some g) → Below w.heap.size w' w' → (∀ b, b ≠ g → w'.heap[b]? = w.heap[b]?) → w'.heap.size = w.heap.size → Q (.returned (.tuple #[.int .u64 (n : Int), .int .i64 0])) w') :
    Calls Try.prog 32 #[.pointer (some ⟨g, 0, none⟩)] w Q := by
  obtain ⟨v, hb, hW, hgw, hr⟩ := h
  refine varint_rd hb hW hgw hr Q hbad fun n k v' e1 e2 => ?_
  exact hok n k _ e1 ⟨v', e2, hW, grown_trans hgw (grown_set _ _ _), heap_set0 hr⟩ (grown_set _ _ _) (Below.refl _ _) (fun b hb => Below.heap_setCell w ⟨g, 0, none⟩ v' b hb) (by simp)
theorem grown_row {a w : World} {X : Option Nat} (h : a.grownBy w X) {c : Nat} (hc : a.heap.size ≤ c) (A : Array Value) : a.grownBy (w.setRow c A) X :=
  ⟨h.os, h.tape, h.output, by rw [show (w.setRow c A).heap.size = w.heap.size by simp]; exact h.size, fun k hk hne => (setRow_other w c k A (by omega)).trans (h.block k hk hne)⟩
theorem RAt.setRow {W w : World} {g : Nat} {l : List Nat} (h : RAt W w g l) {c : Nat} (hc : g < c) (A : Array Value) : RAt W (w.setRow c A) g l := by
  obtain ⟨v, hb, hW, hgw, hr⟩ := h
  exact ⟨v, hb, hW, grown_row hgw (by omega) A, (setRow_other w c g A (by omega)).trans hr⟩
theorem RAt.below {W w w' : World} {g : Nat} {l : List Nat} (h : RAt W w g l) (hb : Below w.heap.size w w') : RAt W w' g l := by
  obtain ⟨v, hv, hW, hgw, hr⟩ := h
  exact ⟨v, hv, hW, grown_trans hgw (Ext.gr hb _), Below.heap hb (Array.getElem?_eq_some_iff.1 hr).1 hr⟩
theorem Own.keep {w w' : World} {base : Nat} {v : Value} {l : List Nat} (h : Own w base v l) (hk : ∀ b, base ≤ b → w'.heap[b]? = w.heap[b]?) : Own w' base v l :=
  ⟨⟨h.row.1, by
    rcases h.row.2 with h1 | ⟨g, cap, cur, hv, hb, hr, hn⟩
    · exact .inl h1
    · exact .inr ⟨g, cap, cur, hv, hb, (hk g hb).trans hr, hn⟩⟩, h.lim⟩
theorem BsAt.gr {W w : World} {v : Value} {l : List Nat} {g : Nat} (h : BsAt W v l) (hg : W.heap.size ≤ g) (hw : W.grownBy w (some g)) : BsAt w v l := by
  obtain ⟨b, o, c, ao, e, hc, hm, hl, hh⟩ := h
  refine ⟨b, o, c, ao, e, hc, hm, hl, fun hne => ?_⟩
  obtain ⟨e1, hb, hr⟩ := hh hne
  exact ⟨e1, Nat.lt_of_lt_of_le hb hw.size, fun i hi => hw.cell (hr i hi) (by simp; omega)⟩
theorem fld2_bad {num wire : Nat} {l : List Nat} {e : Nat} (h : rv 0 0 l = .bad e) : fld2 num wire l = .bad e := by unfold fld2; rw [h]
theorem fld2_num {num : Nat} {l : List Nat} {n k : Nat} (h : rv 0 0 l = .ok n k) : fld2 num 0 l = .ok ⟨num, false, n, []⟩ (l.drop k) := by unfold fld2; rw [h]; rfl
theorem fld2_short {num : Nat} {l : List Nat} {n k : Nat} (h : rv 0 0 l = .ok n k) (hn : (l.drop k).length < n) : fld2 num 2 l = .bad 2 := by
  unfold fld2; rw [h]; simp only []; rw [if_neg (by decide), if_pos hn]
theorem fld2_whole {num : Nat} {l : List Nat} {n k : Nat} (h : rv 0 0 l = .ok n k) (hn : ¬ (l.drop k).length < n) : fld2 num 2 l = .ok ⟨num, true, 0, (l.drop k).take n⟩ ((l.drop k).drop n) := by
  unfold fld2; rw [h]; simp only []; rw [if_neg (by decide), if_neg hn]
set_option maxRecDepth 100000 in
set_option maxHeartbeats 2000000 in
theorem number_any {g num : Nat} {l : List Nat} {W w : World} (h : RAt W w g l) (Q : Ending → World → Prop)
    (hbad : ∀ e w', fld2 num 0 l = .bad e → w.grownBy w' (some g) → Q (.returned (.tuple #[fz, .int .i64 (e : Int)])) w')
    (hok : ∀ f t bv w', fld2 num 0 l = .ok f t → Own w' w.heap.size bv f.b → RAt W w' g t → w.grownBy w' (some g) → Q (.returned (.tuple #[fv f bv, .int .i64 0])) w') :
    Calls Try.prog 34 #[.pointer (some ⟨g, 0, none⟩), .int .i64 (num : Int)] w Q := by
  have hg := h.lt
  have HB := hide (And.intro hbad hok)
  have H0 := hide h
  clear hbad hok h
  go_enter Try.func34, Try.ntmps34
  go_wp2_with fail
  refine varint_at (H0.out.alloc _) _ (fun e' he => ?_) (fun n k w' he hA hgr _ hkeep hsz => ?_)
  · have HQ := hide (HB.out.1 e' (w.alloc (.cells #[.int .i64 0, .bool false, .int .u64 0, .slice none 0 0] 54)) (by unfold fld2; rw [he]) (grown_alloc _ _ _))
    have hne : ((e' : Int) != 0) = true := by rcases rv_bad _ _ _ _ he with rfl | rfl <;> rfl
    clear he
    go_wp2
    refine bodyPost_ret_by (results_row_tmp rfl _ _ w.heap.size 54 _ (0, 0) _ rfl (heap_alloc_last _ _) Try.underlying54 rfl (by kernel_rfl)) rfl ?_
    exact HQ.out
  · have R := hide ((hkeep w.heap.size (by omega)).trans (heap_alloc_last _ _))
    have HA := hide (And.intro he (And.intro hA (And.intro (grown_trans (grown_alloc w (some g) _) hgr) hsz)))
    clear he hA hgr hkeep hsz
    go_wp2_with (refine wpList_store_f rfl 54 sizeF (.tmp 4) (.tmp 19) rfl w.heap.size rfl rfl rfl R.out ?_)
    go_wp2
    refine bodyPost_ret_by (results_row_tmp rfl _ _ w.heap.size 54 _ (0, 0) _ rfl (setRow_heap _ _ _ _ _ _ R.out) Try.underlying54 rfl (by kernel_rfl)) rfl ?_
    obtain ⟨he, hA, hgr, hsz⟩ := HA.out
    have hs2 := hgr.size
    exact HB.out.2 _ _ (.slice none 0 0) _ (fld2_num he) (own_nil _ _ (by simp; omega)) (hA.setRow hg _) (grown_row hgr (Nat.le_refl _) _)
set_option maxRecDepth 100000 in
set_option maxHeartbeats 2000000 in
theorem whole_any {g num : Nat} {l : List Nat} {W w : World} (h : RAt W w g l) (hl : l.length ≤ 100000000) (Q : Ending → World → Prop)
    (hbad : ∀ e w', fld2 num 2 l = .bad e → w.grownBy w' (some g) → Q (.returned (.tuple #[fz, .int .i64 (e : Int)])) w')
    (hok : ∀ f t bv w', fld2 num 2 l = .ok f t → Own w' w.heap.size bv f.b → RAt W w' g t → w.grownBy w' (some g) → Q (.returned (.tuple #[fv f bv, .int .i64 0])) w') :
    Calls Try.prog 35 #[.pointer (some ⟨g, 0, none⟩), .int .i64 (num : Int)] w Q := by
  have hg := h.lt
  have HB := hide (And.intro hbad (And.intro hok hl))
  have H0 := hide h
  clear hbad hok h hl
  go_enter Try.func35, Try.ntmps35
  go_wp2_with fail
  refine varint_at (H0.out.alloc _) _ (fun e' he => ?_) (fun n k w' he hA hgr _ hkeep hsz => ?_)
  · have HQ := hide (HB.out.1 e' (w.alloc (.cells #[.int .i64 0, .bool false, .int .u64 0, .slice none 0 0] 54)) (fld2_bad he) (grown_alloc _ _ _))
    have hne : ((e' : Int) != 0) = true := by rcases rv_bad _ _ _ _ he with rfl | rfl <;> rfl
    clear he
    go_wp2
    refine bodyPost_ret_by (results_row_tmp rfl _ _ w.heap.size 54 _ (0, 0) _ rfl (heap_alloc_last _ _) Try.underlying54 rfl (by kernel_rfl)) rfl ?_
    exact HQ.out
  · have R := hide ((hkeep w.heap.size (by omega)).trans (heap_alloc_last _ _))
    have hgr' := grown_trans (grown_alloc w (some g) _) hgr
    have hsz' : w.heap.size < w'.heap.size := by rw [hsz]; simp
    obtain ⟨v, hb, hW, hgw, hr⟩ := hA
    obtain ⟨x0, y0⟩ := row_reads hr
    have hcl := x0 0
    have hfr := y0 0
    simp only [List.getElem?_toArray, List.getElem?_cons_zero] at hcl
    have hlen : (l.drop k).length ≤ 100000000 := by have := HB.out.2.2; simp; omega
    have HA := hide (And.intro he (And.intro hb (And.intro hW (And.intro hgw (And.intro hr (And.intro hgr' (And.intro hsz' hlen)))))))
    have elen : IntKind.u64.wrap (((l.drop k).length : Nat) : Int) = (((l.drop k).length : Nat) : Int) := by rw [IntKind.wrap_u64]; omega
    clear he hgr hkeep hsz hgr' hW hgw hr x0 y0 hsz'
    obtain ⟨va, vc, rfl, _, _⟩ := hb.len
    clear hb
    generalize hrq : l.drop k = r at *
    by_cases hn : r.length < n
    · have hd : decide ((r.length : Int) < (n : Int)) = true := decide_eq_true (by omega)
      have HQ := hide (HB.out.1 2 (w'.setRow w.heap.size #[.int .i64 0, .bool false, .int .u64 0, .slice none 0 0]) (fld2_short HA.out.1 (by rw [hrq]; exact hn)) (grown_row HA.out.2.2.2.2.2.1 (Nat.le_refl _) _))
      clear hrq hlen
      go_wp2_with (refine wpList_store_f rfl 54 sizeF (.tmp 4) (.tmp 26) rfl w.heap.size rfl rfl rfl R.out ?_)
      go_wp2
      refine bodyPost_ret_by (results_row_tmp rfl _ _ w.heap.size 54 _ (0, 0) _ rfl (setRow_heap _ _ _ _ _ _ R.out) Try.underlying54 rfl (by kernel_rfl)) rfl ?_
      exact HQ.out
    · have hd : decide ((r.length : Int) < (n : Int)) = false := decide_eq_false (by omega)
      obtain ⟨vt, _, st, bt⟩ := slice_upto HA.out.2.1 n (by omega)
      obtain ⟨vd, _, sd, bd⟩ := slice_from HA.out.2.1 n (by omega)
      have HT := hide (And.intro bt (And.intro bd hrq))
      clear bt bd hrq hlen
      go_wp2_with fail
      obtain ⟨he, hb, hW, hgw, hr, hgr, hsz, hlen⟩ := HA.out
      refine (clone_b (HT.out.1.gr hW hgw) (by rw [List.length_take]; omega)).mono ?_
      rintro e w2 ⟨u, rfl, o2, b2⟩
      have hgl : g < w'.heap.size := by omega
      have hcl2 : w2.cell? ⟨g, 0, none⟩ = some (Value.slice va r.length vc) := (b2.cell (p := ⟨g, 0, none⟩) hgl).trans hcl
      have hfr2 : w2.frozen? ⟨g, 0, none⟩ = false := (b2.frozen (p := ⟨g, 0, none⟩) hgl).trans hfr
      have hr2 := Below.heap b2 hgl hr
      have R2 := hide ((Below.heap_setCell w2 ⟨g, 0, none⟩ vd w.heap.size (by show w.heap.size ≠ g; omega)).trans (Below.heap b2 hsz R.out))
      have hA2 : RAt W (w2.setCell ⟨g, 0, none⟩ vd) g (r.drop n) := ⟨vd, HT.out.2.1, hW, grown_trans (grown_trans hgw (Ext.gr b2 _)) (grown_set _ _ _), heap_set0 hr2⟩
      have hG2 : w.grownBy (w2.setCell ⟨g, 0, none⟩ vd) (some g) := grown_trans (grown_trans hgr (Ext.gr b2 _)) (grown_set _ _ _)
      have hO2 : Own (w2.setCell ⟨g, 0, none⟩ vd) w'.heap.size u (r.take n) := o2.keep fun b hb => Below.heap_setCell w2 ⟨g, 0, none⟩ vd b (by show b ≠ g; omega)
      have hF := HT.out.2.2
      have HZ := hide (And.intro he (And.intro hA2 (And.intro hG2 (And.intro hO2 (And.intro hF hsz)))))
      obtain ⟨ua, uc, hu, _, _⟩ := o2.at.len
      obtain ⟨da, dc, hvd, _, _⟩ := HT.out.2.1.len
      rw [show (r.take n).length = n by rw [List.length_take]; omega] at hu
      rw [List.length_drop] at hvd
      subst hu hvd
      clear he hb hW hgw hr hgr hsz hlen b2 o2 hr2 hA2 hG2 hO2 hF hcl hfr HA HT
      go_wp2_with (refine wpList_store_f rfl 54 sizeF (.tmp 4) (.tmp 45) rfl w.heap.size rfl rfl rfl R2.out ?_)
      go_wp2
      refine bodyPost_ret_by (results_row_tmp rfl _ _ w.heap.size 54 _ (0, 0) _ rfl (setRow_heap _ _ _ _ _ _ R2.out) Try.underlying54 rfl (by kernel_rfl)) rfl ?_
      obtain ⟨he, hA2, hG2, hO2, hF, hsz⟩ := HZ.out
      have hfin := HB.out.2.1 ⟨num, true, 0, r.take n⟩ (r.drop n) (.slice ua n uc) ((w2.setCell ⟨g, 0, none⟩ (.slice da (r.length - n) dc)).setRow w.heap.size #[.int .i64 (num : Int), .bool true, .int .u64 0, .slice ua n uc])
        (by have h1 := fld2_whole (num := num) he (by rw [hF]; exact hn); rw [hF] at h1; exact h1) ((hO2.keep fun b hb => setRow_other _ _ _ _ (by omega)).low (Nat.le_of_lt hsz)) (hA2.setRow hg _) (grown_row hG2 (Nat.le_refl _) _)
      exact hfin
end Go.Proofs.Ytogegmdimfinaaa
