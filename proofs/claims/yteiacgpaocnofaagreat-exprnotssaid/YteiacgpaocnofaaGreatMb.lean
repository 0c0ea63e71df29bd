/- Regions of operations: what each gives, in whatever order they come; rows in memory. For any program. -/
import Derived.Deep.RegionHeld3
import Derived.StillTail
import Derived.Laws.CopyRow
import Derived.Laws.Tables
import Derived.Below
/- A region that draws its order, whose last operation waits for all others: what is shown of the others with that one left out, and of that one behind them, is shown of the whole. For any program. -/
namespace Go
section
variable {P : Program} {ops : Array Oper} {Q : Exit → Act → World → Prop} {md : Region.Mode}
/-- An operation that does nothing, in its place. -/
def Oper.idle (o : Oper) : Oper := { o with dst := none, op := .move (.const (.bool false)), guard := none }
theorem idle_after (o : Oper) : o.idle.after = o.after := rfl

theorem get_idle {z : Nat} {oz : Oper} (hz : ops[z]? = some oz) (i : Nat) : (ops.setIfInBounds z oz.idle)[i]? = if i = z then some oz.idle else ops[i]? := by
  have hlt : z < ops.size := (Array.getElem?_eq_some_iff.1 hz).1
  by_cases h : i = z
  · subst h; simp [hlt]
  · rw [if_neg h, Array.getElem?_setIfInBounds_ne (fun e => h e.symm)]

theorem ready_idle {z : Nat} {oz : Oper} (hz : ops[z]? = some oz) (listed : Array Bool) : Region.ready md (ops.setIfInBounds z oz.idle) listed = Region.ready md ops listed := by
  unfold Region.ready
  rw [Array.size_setIfInBounds]
  congr 1
  funext i
  rw [get_idle hz i]
  by_cases h : i = z
  · subst h; simp [hz, Oper.idle]
  · rw [if_neg h]

theorem yielded_idle {z : Nat} {oz : Oper} (hz : ops[z]? = some oz) (hd : oz.dst = none) (tmps : Array Value) : yielded (ops.setIfInBounds z oz.idle) tmps = yielded ops tmps := by
  funext j
  unfold yielded
  rw [get_idle hz j]
  by_cases h : j = z
  · subst h; simp [hz, Oper.idle, hd]
  · rw [if_neg h]

theorem letsOut_then {K : Act → World → Prop} (h : LetsOut (Exit.then K Q)) : LetsOut Q := h

theorem Oper.wp_then {o : Oper} {a : Act} {w : World} {K N : Act → World → Prop} (h : o.wp P a w K (Exit.then N Q)) : o.wp P a w K Q := by
  unfold Oper.wp at *
  generalize (execOp a.eval o).run P w = r at *
  cases r with
  | ok n w' =>
    cases n <;> simp only [Oper.upon] at h ⊢ <;> first | exact h | skip
  | halt x w' => cases x <;> simp only [Oper.upon] at h ⊢ <;> exact h

theorem wpOp_idle {z : Nat} {oz : Oper} (hz : ops[z]? = some oz) (hd : oz.dst = none) {N K : Act → World → Prop} {i : Nat} (hi : i ≠ z) {a : Act} {w : World}
    (h : wpOp P (ops.setIfInBounds z oz.idle) (Exit.then N Q) i K a w) : wpOp P ops Q i K a w := by
  unfold wpOp at *
  rw [get_idle hz i, if_neg hi, yielded_idle hz hd] at h
  split
  · rename_i h0; rw [h0] at h; exact h
  · rename_i o h0
    rw [h0] at h
    simp only [] at h
    split
    · rename_i hw
      rw [if_pos hw] at h
      exact h.imp Oper.wp_then (fun x => ⟨x.1, letsOut_then x.2⟩)
    · rename_i hw
      rw [if_neg hw] at h
      exact h

/-- Nobody waits for one behind it. -/
def Region.topB (md : Region.Mode) (ops : Array Oper) : Bool :=
  (List.range ops.size).all fun i => ((ops[i]?).map (fun o => o.after.all fun e => !Region.binds md e || decide (e.on < i))).getD true

theorem topB_spec (h : Region.topB md ops = true) {i : Nat} {o : Oper} (ho : ops[i]? = some o) : ∀ e ∈ o.after, Region.binds md e = true → e.on < i := by
  intro e he hb
  have hlt : i < ops.size := (Array.getElem?_eq_some_iff.1 ho).1
  have h1 := List.all_eq_true.1 h i (List.mem_range.2 hlt)
  rw [ho] at h1
  simp only [Option.map_some, Option.getD_some, Array.all_eq_true_iff_forall_mem] at h1
  have h2 := h1 e he
  simpa [hb] using h2

theorem ready_some (ht : Region.topB md ops = true) (listed : Array Bool) (hs : listed.size = ops.size) : ∀ n, listed.getD n true = false → Region.ready md ops listed ≠ [] := by
  intro n
  induction n using Nat.strongRecOn with
  | _ n ih =>
    intro hn h0
    have hlt : n < listed.size := by
      rcases Nat.lt_or_ge n listed.size with h | h
      · exact h
      · simp [Array.getElem?_eq_none h] at hn
    obtain ⟨o, ho⟩ : ∃ o, ops[n]? = some o := ⟨ops[n], Array.getElem?_eq_getElem (by omega)⟩
    by_cases hall : ∀ e ∈ o.after, Region.binds md e = true → listed.getD e.on false = true
    · have : n ∈ Region.ready md ops listed := mem_ready.2 ⟨hn, o, ho, hall⟩
      rw [h0] at this; cases this
    · have ⟨e, h1⟩ := Classical.not_forall.1 hall
      have ⟨he, h2⟩ := Classical.not_forall.1 h1
      have ⟨hb, h3⟩ := Classical.not_forall.1 h2
      have hlt2 := topB_spec ht ho e he hb
      exact ih e.on hlt2 (getD_in (by omega) (by simpa using h3)) h0

theorem sink_listed {z : Nat} (hzs : z + 1 = ops.size) (h1 : Region.sinkB md ops z = true) (h2 : Region.chainB md ops z = true) {listed : Array Bool} (inv : HeadInv md ops z listed) (hr : z ∈ Region.ready md ops listed) (i : Nat) (hi : i < z) : listed.getD i false = true := by
  cases hl : listed.getD i false with
  | true => rfl
  | false => exact absurd hr (tail_waits h1 h2 (by omega) inv (z - i) i rfl hi (getD_in (by rw [inv.size]; omega) hl) z (Nat.le_refl _))

theorem ready_done {z : Nat} (hzs : z + 1 = ops.size) (h1 : Region.sinkB md ops z = true) (h2 : Region.chainB md ops z = true) {listed : Array Bool} (inv : HeadInv md ops z listed) (hr : z ∈ Region.ready md ops listed) : Region.ready md ops (listed.setIfInBounds z true) = [] := by
  rw [List.eq_nil_iff_forall_not_mem]
  intro i hi
  obtain ⟨h3, o, ho, _⟩ := mem_ready.1 hi
  have hlt : i < ops.size := (Array.getElem?_eq_some_iff.1 ho).1
  by_cases h : i = z
  · subst h
    rw [Array.getD_eq_getD_getElem?] at h3
    simp [inv.size, hlt] at h3
  · have h4 := sink_listed hzs h1 h2 inv hr i (by omega)
    rw [getD_set_ne true (fun e => h e.symm)] at h3
    have := getD_both h3
    rw [h4] at this; cases this

theorem wpAny_done' {listed : Array Bool} (hr : Region.ready md ops listed = []) {a : Act} {w : World} : ∀ fuel, wpAny P md ops Q fuel listed a w → Q .normal a w
  | 0, h => h.2
  | _ + 1, h => h.1 hr

theorem idle_wp {o : Oper} {a : Act} {w : World} {K : Act → World → Prop} (h : o.idle.wp P a w K Q) : K a w := by
  unfold Oper.wp execOp at h
  simpa [Oper.idle, Oper.upon, Act.put] using h

theorem idle_asks {o : Oper} {a : Act} {w : World} (h : o.idle.asks P a w) : False := by
  have h1 : noRoomEvent ∈ (#[] : Array Event) := h.1
  simp at h1

theorem count_set_true : ∀ (l : List Bool) (i : Nat), l[i]? = some false → (l.set i true).count false + 1 = l.count false
  | [], i, h => by simp at h
  | b :: r, 0, h => by simp at h; subst h; simp
  | b :: r, i + 1, h => by
    have := count_set_true r i (by simpa using h)
    simp only [List.set_cons_succ, List.count_cons]
    omega

theorem wpAny_sink {z : Nat} {oz : Oper} (hz : ops[z]? = some oz) (hd : oz.dst = none) (hg : oz.guard = none) (hzs : z + 1 = ops.size) (h1 : Region.sinkB md ops z = true) (hc2 : Region.chainB md ops z = true) (ht : Region.topB md ops = true) :
    ∀ (fuel : Nat) (listed : Array Bool) (a : Act) (w : World), HeadInv md ops z listed → listed.toList.count false ≤ fuel →
      wpAny P md (ops.setIfInBounds z oz.idle) (Exit.then (fun a w => oz.wp P a w (Q .normal) Q) Q) fuel listed a w → wpAny P md ops Q fuel listed a w := by
  intro fuel
  induction fuel with
  | zero =>
    intro listed a w inv hc h
    have hs := inv.size
    have hzl := inv.tail z (Nat.le_refl _) (by omega)
    exact absurd (by rw [← ready_idle hz]; exact h.1) (ready_some ht listed hs z hzl)
  | succ fuel ih =>
    intro listed a w inv hc h
    have hs := inv.size
    have hzl := inv.tail z (Nat.le_refl _) (by omega)
    refine ⟨fun h0 => absurd h0 (ready_some ht listed hs z hzl), fun i hi => ?_⟩
    have h2 := h.2 i (by rw [ready_idle hz]; exact hi)
    by_cases hiz : i = z
    · subst hiz
      have hdone := ready_done hzs h1 hc2 inv hi
      unfold wpOp at h2 ⊢
      rw [get_idle hz, if_pos rfl] at h2
      rw [hz]
      have hw1 : Region.wanted oz.idle (yielded (ops.setIfInBounds i oz.idle) a.tmps) = true := rfl
      have hw2 : Region.wanted oz (yielded ops a.tmps) = true := by simp [Region.wanted, hg]
      simp only [hw1, if_true] at h2
      simp only [hw2, if_true]
      rcases h2 with h2 | h2
      · have h3 := idle_wp (o := oz) h2
        have h4 := wpAny_done' (by rw [ready_idle hz]; exact hdone) fuel h3
        refine .inl (Oper.wp_mono (fun a' w' hq => ?_) h4)
        exact wpAny_done hdone hq fuel
      · exact (idle_asks (o := oz) h2.1).elim
    · refine wpOp_mono (fun a' w' h3 => ih _ a' w' ?_ ?_ h3) (wpOp_idle hz hd hiz h2)
      · have hil : i < ops.size := by
          obtain ⟨_, o, ho, _⟩ := mem_ready.1 hi
          exact (Array.getElem?_eq_some_iff.1 ho).1
        exact inv.set hi (by omega)
      · have hun := (mem_ready.1 hi).1
        have hil : i < listed.size := by
          rcases Nat.lt_or_ge i listed.size with h | h
          · exact h
          · simp [Array.getElem?_eq_none h] at hun
        have hif : listed[i] = false := by simpa [hil] using hun
        rw [Array.toList_setIfInBounds]
        have := count_set_true listed.toList i (by rw [Array.getElem?_toList, Array.getElem?_eq_getElem hil, hif])
        omega
/-- THE BEGINNING: the region's last operation left out; S must hold of the world behind the draw. -/
theorem wp_region_sink {id : Nat} {a : Act} {w : World} {S : World → Prop} (z : Nat) {oz : Oper} (hm : P.follows .mixedOrders = true) (hz : ops[z]? = some oz) (hd : oz.dst = none) (hg : oz.guard = none)
    (hzs : z + 1 = ops.size) (h1 : Region.sinkB .any ops z = true) (h2 : Region.chainB .any ops z = true) (ht : Region.topB .any ops = true) (hS : S w.drew)
    (h : S w.drew → wpAnyH P .any (ops.setIfInBounds z oz.idle) (Exit.then (fun a w => oz.wp P a w (Q .normal) Q) Q) S ops.size (Array.replicate ops.size false) a w.drew) : (Code.region id ops true).wp P Q a w := by
  refine wp_region_any hm (wpAny_sink hz hd hg hzs h1 h2 ht _ _ _ _ ⟨by simp, ?_, ?_⟩ (by simp) (wpAny_of_held _ _ _ _ (h hS)))
  · intro j oj _ hl
    rw [getD_replicate_false] at hl
    cases hl
  · intro t _ ht
    simp [ht]
/-- One that is met by itself: what it comes to, and that S holds behind it. -/
theorem wpAnyH_one {i : Nat} {o : Oper} {S : World → Prop} {fuel : Nat} {listed : Array Bool} {a : Act} {w : World} (hr : Region.ready md ops listed = [i]) (hi : ops[i]? = some o) (hg : o.guard = none)
    (h : o.wp P a w (fun a' w' => S w' ∧ wpAnyH P md ops Q S fuel (listed.setIfInBounds i true) a' w') Q) : wpAnyH P md ops Q S (fuel + 1) listed a w := by
  refine wpAnyH_all hr (by simp) ?_
  intro j hj
  simp only [List.mem_singleton] at hj
  subst hj
  unfold wpOp
  rw [hi]
  simp only [Region.wanted, hg, if_true]
  exact .inl h
theorem Oper.wp_enter {o : Oper} {a : Act} {w : World} {K : Act → World → Prop} {f : FuncId} {vals : Array Value} {R : Ending → World → Prop} (hop : (execOp a.eval o).run P w = .ok (.enter f vals) w) (hc : Calls P f vals w R)
    (h : ∀ e w', R e w' → ∃ v, e = .returned v ∧ K (a.put o.dst v) w') : o.wp P a w K Q := by
  unfold Oper.wp
  rw [hop, Oper.upon_enter]
  refine hc.mono ?_
  intro e w' hr
  obtain ⟨v, rfl, hk⟩ := h e w' hr
  exact hk
/-- A call that is met by itself, by its contract. -/
theorem wpAnyH_enter {i : Nat} {o : Oper} {S : World → Prop} {fuel : Nat} {listed : Array Bool} {a : Act} {w : World} {f : FuncId} {vals : Array Value} {R : Ending → World → Prop} (hr : Region.ready md ops listed = [i]) (hi : ops[i]? = some o) (hg : o.guard = none)
    (hop : (execOp a.eval o).run P w = .ok (.enter f vals) w) (hc : Calls P f vals w R)
    (h : ∀ e w', R e w' → ∃ v, e = .returned v ∧ S w' ∧ wpAnyH P md ops Q S fuel (listed.setIfInBounds i true) (a.put o.dst v) w') : wpAnyH P md ops Q S (fuel + 1) listed a w :=
  wpAnyH_one hr hi hg (Oper.wp_enter hop hc h)
/-- A row, a segment of it written over. -/
def segSet (cur : Array Value) (o : Nat) (vs : List Value) : Array Value := (cur.toList.take o ++ vs ++ cur.toList.drop (o + vs.length)).toArray
theorem run_storeVar_seg (w : World) (g o : Nat) (t ty : TypeId) (cur cells : Array Value) (hg : w.heap[g]? = some (.cells cur t (0, 0))) (hi : (P.info? ty).map (·.size) = some cells.size)
    (ho : o + cells.size ≤ cur.size) (h1 : cells.all (·.oneCell') = true) :
    (storeVar ty ⟨g, o, none⟩ (.agg cells)).run P w = .ok () (w.setRow g (segSet cur o cells.toList)) := by
  have := run_storeCells_at P g o t cells.toList 0 cur w hg (by simpa using ho) (fun v hv => (Array.all_eq_true_iff_forall_mem.1 h1) v (by simpa using hv))
  cases hq : P.info? ty with
  | none => simp [hq] at hi
  | some i =>
    have hs : cells.size = i.size := by simp [hq] at hi; omega
    simp [storeVar, sizeOf, typeInfo, hq, Value.cells, hs, this, segSet]
theorem wp_store_seg {op : Oper} {a : Act} {w : World} {K : Act → World → Prop} (ty : TypeId) (x y : Operand) (hop : op.op = .store ty x y)
    (g o : Nat) (cells : Array Value) (hx : a.eval x = .pointer (some ⟨g, o, none⟩)) (hy : a.eval y = .agg cells)
    (t : TypeId) (cur : Array Value) (hg : w.heap[g]? = some (.cells cur t (0, 0))) (hi : (P.info? ty).map (·.size) = some cells.size)
    (ho : o + cells.size ≤ cur.size) (h1 : cells.all (·.oneCell') = true)
    (h : K (a.put op.dst undef) (w.setRow g (segSet cur o cells.toList))) : op.wp P a w K Q := by
  unfold Oper.wp execOp
  simp only [hop, hx, hy, Instr.storeAt, Instr.sureAddr, Sem.run_bind, Sem.run_pure, Result.andThen_ok, run_storeVar_seg w g o t ty cur cells hg hi ho h1]
  exact h
theorem wpList_store_seg {rest : List Oper} {op : Oper} {a : Act} {w : World} (hgd : op.guard = none) (ty : TypeId) (x y : Operand) (hop : op.op = .store ty x y)
    (g o : Nat) (cells : Array Value) (hx : a.eval x = .pointer (some ⟨g, o, none⟩)) (hy : a.eval y = .agg cells)
    (t : TypeId) (cur : Array Value) (hg : w.heap[g]? = some (.cells cur t (0, 0))) (hi : (P.info? ty).map (·.size) = some cells.size)
    (ho : o + cells.size ≤ cur.size) (h1 : cells.all (·.oneCell') = true)
    (h : wpList P ops Q rest (a.put op.dst undef) (w.setRow g (segSet cur o cells.toList))) : wpList P ops Q (op :: rest) a w :=
  wpList_plain hgd fun _ hK => wp_store_seg ty x y hop g o cells hx hy t cur hg hi ho h1 (hK _ _ h)
end
end Go
/- A region that draws its order and holds reads, calls and allocations that only make memory: each read may be taken first, each call is met by its contract, and from there on the world that it left is what all later reads see. For any program. -/
namespace Go
open Go.RowKit
section
variable {P : Program} {ops : Array Oper} {Q : Exit → Act → World → Prop} {md : Region.Mode}
/-- All that was there is there still. -/
def Ext (w w' : World) : Prop := Below w.heap.size w w'
theorem Ext.refl (w : World) : Ext w w := Below.refl _ _
theorem Ext.trans {a b c : World} (h : Ext a b) (k : Ext b c) : Ext a c := Below.trans h (Below.mono k h.size)
theorem Ext.below {w w' : World} (h : Ext w w') : Below w.heap.size w w' := h
theorem wpAnyH_mono {S S' : World → Prop} (hs : ∀ w, S' w → S w) : ∀ (fuel : Nat) (listed : Array Bool) (a : Act) (w : World), wpAnyH P md ops Q S' fuel listed a w → wpAnyH P md ops Q S fuel listed a w
  | 0, _, _, _, h => h
  | fuel + 1, _, _, _, h => ⟨h.1, fun i hi => wpOp_mono (fun a' w' h' => ⟨hs _ h'.1, wpAnyH_mono hs fuel _ a' w' h'.2⟩) (h.2 i hi)⟩
theorem grown_refl (w : World) (X : Option Nat) : w.grownBy w X := ⟨rfl, rfl, rfl, Nat.le_refl _, fun _ _ _ => rfl⟩
theorem Ext.gr {w w' : World} (h : Ext w w') (X : Option Nat) : w.grownBy w' X := ⟨h.os, h.tape, h.output, h.size, fun k hk _ => h.block k hk⟩
theorem Ext.of {w w' : World} (h : w.grownBy w' none) : Ext w w' := ⟨h.os, h.tape, h.output, h.size, fun k hk => h.block k hk (by simp)⟩
theorem gr_trans {a b c : World} {X X' : Option Nat} (h : a.grownBy b X) (k : b.grownBy c X') (hX : ∀ g, X' = some g → X = some g ∨ a.heap.size ≤ g) : a.grownBy c X :=
  ⟨k.os.trans h.os, k.tape.trans h.tape, k.output.trans h.output, Nat.le_trans h.size k.size, fun i hi hne => (k.block i (Nat.lt_of_lt_of_le hi h.size) (fun e => by
    rcases hX i e.symm with h1 | h1
    · exact hne h1.symm
    · omega)).trans (h.block i hi hne)⟩
/-- From the world at hand on; block X alone of what there is may yet be written. -/
def wpE (P : Program) (md : Region.Mode) (ops : Array Oper) (Q : Exit → Act → World → Prop) (X : Option Nat) (fuel : Nat) (listed : Array Bool) (a : Act) (w : World) : Prop := wpAnyH P md ops Q (fun w' => w.grownBy w' X) fuel listed a w
theorem wp_region_ext {id : Nat} {a : Act} {w : World} (hm : P.follows .mixedOrders = true) (h : wpE P .any ops Q none ops.size (Array.replicate ops.size false) a w.drew) : (Code.region id ops true).wp P Q a w :=
  wp_region_any hm (wpAny_of_held _ _ _ _ h)
/-- What reads may be taken first. -/
theorem wpE_take {X : Option Nat} {i : Nat} {oi : Oper} {v : Value} {fuel : Nat} {listed : Array Bool} {a : Act} {w : World} (hi : ops[i]? = some oi) (hs : Region.noSelect ops = true) (hf : Region.free md ops listed i = true) (hr : (Region.ready md ops listed).contains i = true)
    (hQ : ∀ c a w, Q (.panic c) (a.put oi.dst v) w → Q (.panic c) a w) (hw : Region.wanted oi (yielded ops a.tmps) = true) (hy : ∀ w', w.grownBy w' X → (execOp a.eval oi).run P w' = .ok (.value v) w')
    (h : wpE P md ops Q X fuel (listed.setIfInBounds i true) (a.put oi.dst v) w) : wpE P md ops Q X (fuel + 1) listed a w :=
  wpAnyH_take hi hs hf hr hQ (.inl ⟨hw, hy⟩) (grown_refl w X) h
/-- What its guard leaves out. -/
theorem wpE_skip {X : Option Nat} {i : Nat} {oi : Oper} {fuel : Nat} {listed : Array Bool} {a : Act} {w : World} (hi : ops[i]? = some oi) (hs : Region.noSelect ops = true) (hf : Region.free md ops listed i = true) (hr : (Region.ready md ops listed).contains i = true)
    (hQ : ∀ c a w, Q (.panic c) (a.put oi.dst undef) w → Q (.panic c) a w) (hw : Region.wanted oi (yielded ops a.tmps) = false)
    (h : wpE P md ops Q X fuel (listed.setIfInBounds i true) (a.put oi.dst undef) w) : wpE P md ops Q X (fuel + 1) listed a w :=
  wpAnyH_take hi hs hf hr hQ (.inr ⟨hw, rfl⟩) (grown_refl w X) h
/-- One operation, whichever it is, at the world at hand. -/
theorem wpOp_of {i : Nat} {o : Oper} {K : Act → World → Prop} {a : Act} {w : World} (hi : ops[i]? = some o) (hw : Region.wanted o (yielded ops a.tmps) = true) (h : o.wp P a w K Q) : wpOp P ops Q i K a w := by
  unfold wpOp
  rw [hi]
  simp only [hw, if_true]
  exact .inl h
theorem wpE_all {X : Option Nat} {rs : List Nat} {fuel : Nat} {listed : Array Bool} {a : Act} {w : World} (hr : Region.ready md ops listed = rs) (hne : rs ≠ [])
    (h : ∀ i ∈ rs, wpOp P ops Q i (fun a' w' => ∃ X', w.grownBy w' X ∧ (∀ g, X' = some g → X = some g ∨ w.heap.size ≤ g) ∧ wpE P md ops Q X' fuel (listed.setIfInBounds i true) a' w') a w) : wpE P md ops Q X (fuel + 1) listed a w :=
  wpAnyH_all hr hne fun i hi => wpOp_mono (fun _ _ ⟨_, h1, h2, h3⟩ => ⟨h1, wpAnyH_mono (fun _ h'' => gr_trans h1 h'' h2) _ _ _ _ h3⟩) (h i hi)
/-- The one that may come up. -/
theorem wpE_one {X : Option Nat} {i : Nat} {o : Oper} {fuel : Nat} {listed : Array Bool} {a : Act} {w : World} (hr : Region.ready md ops listed = [i]) (hi : ops[i]? = some o) (hw : Region.wanted o (yielded ops a.tmps) = true)
    (h : o.wp P a w (fun a' w' => ∃ X', w.grownBy w' X ∧ (∀ g, X' = some g → X = some g ∨ w.heap.size ≤ g) ∧ wpE P md ops Q X' fuel (listed.setIfInBounds i true) a' w') Q) : wpE P md ops Q X (fuel + 1) listed a w :=
  wpE_all hr (by simp) fun j hj => by
    simp only [List.mem_singleton] at hj
    subst hj
    exact wpOp_of hi hw h
/-- A call that only makes memory, by its contract. -/
theorem wpE_call {X : Option Nat} {i : Nat} {o : Oper} {fuel : Nat} {listed : Array Bool} {a : Act} {w : World} {f : FuncId} {vals : Array Value} {R : Ending → World → Prop} (hr : Region.ready md ops listed = [i]) (hi : ops[i]? = some o) (hw : Region.wanted o (yielded ops a.tmps) = true)
    (hop : (execOp a.eval o).run P w = .ok (.enter f vals) w) (hc : Calls P f vals w R)
    (h : ∀ e w', R e w' → ∃ v, e = .returned v ∧ Ext w w' ∧ wpE P md ops Q X fuel (listed.setIfInBounds i true) (a.put o.dst v) w') : wpE P md ops Q X (fuel + 1) listed a w :=
  wpE_one hr hi hw (Oper.wp_enter hop hc fun e w' hR => by
    obtain ⟨v, h1, h2, h3⟩ := h e w' hR
    exact ⟨v, h1, X, h2.gr X, fun g hg => .inl hg, h3⟩)
theorem wpE_done {X : Option Nat} {fuel : Nat} {listed : Array Bool} {a : Act} {w : World} (hr : Region.ready md ops listed = []) (h : Q .normal a w) : wpE P md ops Q X fuel listed a w := wpAnyH_done hr h fuel
theorem Oper.wp_value {o : Oper} {a : Act} {w w' : World} {K : Act → World → Prop} {v : Value} (hrun : (execOp a.eval o).run P w = .ok (.value v) w') (h : K (a.put o.dst v) w') : o.wp P a w K Q := by
  unfold Oper.wp
  rw [hrun]
  exact h
theorem run_op_convert {o : Oper} {a : Act} {w : World} {s d : TypeId} {x : Operand} {v u : Value} (ho : o.op = .convert s d x) (hx : a.eval x = v) (h : (convert s d v).run P w = .ok u w) : (execOp a.eval o).run P w = .ok (.value u) w := by
  unfold execOp
  simp only [ho, hx, Sem.run_bind, h, Result.andThen_ok, Sem.run_pure]
end
end Go
/- A region whose operations only read and make memory: what each of them gives, told by what it reads, holds behind all of them, in whatever order they come. For any program. -/
namespace Go
open Go.RowKit
/-- What a value is, in a world; it stays so while memory is only made. -/
structure STy where
  p : World → Value → Prop
  up : ∀ {w w' : World} {v : Value}, Ext w w' → p w v → p w' v
def isv (x : Value) : STy := ⟨fun _ v => v = x, fun _ h => h⟩
def anyv : STy := ⟨fun _ _ => True, fun _ h => h⟩
def Reads (tys : Nat → STy) (w : World) (a : Act) : List (Nat × Nat) → Prop
  | [] => True
  | x :: r => (tys x.2).p w (a.tmps.getD x.1 undef) ∧ Reads tys w a r
theorem Reads.of_mem {tys : Nat → STy} {w : World} {a : Act} : ∀ {l : List (Nat × Nat)}, (∀ x ∈ l, (tys x.2).p w (a.tmps.getD x.1 undef)) → Reads tys w a l
  | [], _ => trivial
  | _ :: _, h => ⟨h _ (List.mem_cons_self ..), Reads.of_mem fun x hx => h x (List.mem_cons_of_mem _ hx)⟩
theorem Reads.mem {tys : Nat → STy} {w : World} {a : Act} : ∀ {l : List (Nat × Nat)}, Reads tys w a l → ∀ x ∈ l, (tys x.2).p w (a.tmps.getD x.1 undef)
  | _ :: _, h, x, hx => by
    rcases List.mem_cons.1 hx with rfl | hx
    · exact h.1
    · exact Reads.mem h.2 x hx
section
variable {P : Program} {ops : Array Oper} {Q : Exit → Act → World → Prop} {md : Region.Mode}
/-- What an operation gives: its value, or nothing where its guard leaves it out. -/
def Gives (P : Program) (ops : Array Oper) (Q : Exit → Act → World → Prop) (o : Oper) (T : STy) (a : Act) (w : World) : Prop :=
  (Region.wanted o (yielded ops a.tmps) = true ∧ o.wp P a w (fun a' w' => ∃ v, a' = a.put o.dst v ∧ Ext w w' ∧ T.p w' v) Q) ∨ (Region.wanted o (yielded ops a.tmps) = false ∧ T.p w undef)
theorem Gives.op {i : Nat} {o : Oper} {T : STy} {a : Act} {w : World} (hi : ops[i]? = some o) (h : Gives P ops Q o T a w) : wpOp P ops Q i (fun a' w' => ∃ v, a' = a.put o.dst v ∧ Ext w w' ∧ T.p w' v) a w := by
  unfold wpOp
  rw [hi]
  rcases h with ⟨h1, h2⟩ | ⟨h1, h2⟩
  · simp only [h1, if_true]; exact .inl h2
  · simp only [h1]; exact ⟨_, rfl, Ext.refl w, h2⟩
def dep (md : Region.Mode) (ops : Array Oper) (i j : Nat) : Bool := ((ops[i]?).map fun o => o.after.any fun e => Region.binds md e && e.on == j).getD false
def dstOf (ops : Array Oper) (j : Nat) : Option Tmp := (ops[j]?).bind (·.dst)
def outOf (plan : List (List (Nat × Nat) × Nat)) (j : Nat) : Option Nat := (plan[j]?).map (·.2)
/-- The plan fits the region's own order. -/
def planOk (md : Region.Mode) (ops : Array Oper) (n : Nat) (pre : List (Nat × Nat)) (plan : List (List (Nat × Nat) × Nat)) : Bool :=
  plan.length == ops.size && (List.range ops.size).all fun i => match ops[i]?, plan[i]? with
    | some o, some p =>
      (match o.dst with | some d => decide (d < n) && (List.range i).all (fun j => dstOf ops j != some d) | none => false) &&
      o.after.all (fun e => !Region.binds md e || decide (e.on < i)) &&
      p.1.all (fun x => (List.range ops.size).any (fun j => dstOf ops j == some x.1 && dep md ops i j && outOf plan j == some x.2) ||
        (pre.contains x && (List.range ops.size).all (fun j => dstOf ops j != some x.1 || dep md ops j i || j == i)))
    | _, _ => false
structure PInv (md : Region.Mode) (ops : Array Oper) (n : Nat) (plan : List (List (Nat × Nat) × Nat)) (tys : Nat → STy) (a0 : Act) (w0 : World) (L : Nat → Prop) (a : Act) (w : World) : Prop where
  ext : Ext w0 w
  size : a.tmps.size = n
  defers : a.defers = a0.defers
  done : ∀ j d c, L j → dstOf ops j = some d → outOf plan j = some c → (tys c).p w (a.tmps.getD d undef)
  old : ∀ s, (∀ j, L j → dstOf ops j ≠ some s) → a.tmps.getD s undef = a0.tmps.getD s undef
  closed : ∀ j i, L j → dep md ops j i = true → L i
theorem getD_put (a : Act) (d : Tmp) (v : Value) (s : Nat) : (a.put (some d) v).tmps.getD s undef = if s = d ∧ d < a.tmps.size then v else a.tmps.getD s undef := by
  show (a.tmps.setIfInBounds d v).getD s undef = _
  rw [Array.getD_eq_getD_getElem?, Array.getElem?_setIfInBounds, Array.getD_eq_getD_getElem?]
  by_cases h : d = s
  · subst h
    by_cases h2 : d < a.tmps.size
    · simp [h2]
    · simp [h2]
  · rw [if_neg h, if_neg (fun e => h e.1.symm)]
theorem PInv.step {n : Nat} {pre : List (Nat × Nat)} {plan : List (List (Nat × Nat) × Nat)} {tys : Nat → STy} {a0 : Act} {w0 : World} {L : Nat → Prop} {a : Act} {w : World}
    (hp : planOk md ops n pre plan = true) (hpre : Reads tys w0 a0 pre)
    (hok : ∀ (i : Nat) (o : Oper) (p : List (Nat × Nat) × Nat), ops[i]? = some o → plan[i]? = some p → ∀ a w, Ext w0 w → Reads tys w a p.1 → Gives P ops Q o (tys p.2) a w)
    (h : PInv md ops n plan tys a0 w0 L a w) {i : Nat} (hi : i < ops.size) (hn : ¬ L i) (hd : ∀ j, dep md ops i j = true → L j) :
    wpOp P ops Q i (fun a' w' => PInv md ops n plan tys a0 w0 (fun j => L j ∨ j = i) a' w') a w := by
  unfold planOk at hp
  simp only [Bool.and_eq_true, beq_iff_eq, List.all_eq_true, List.mem_range] at hp
  obtain ⟨hlen, hp⟩ := hp
  have hpi := hp i hi
  obtain ⟨o, ho⟩ : ∃ o, ops[i]? = some o := ⟨_, Array.getElem?_eq_getElem hi⟩
  obtain ⟨p, hpl⟩ : ∃ p, plan[i]? = some p := ⟨_, List.getElem?_eq_getElem (by omega)⟩
  simp only [ho, hpl] at hpi
  obtain ⟨⟨hdst, _⟩, hrs⟩ := (by simpa only [Bool.and_eq_true] using hpi : (_ ∧ _) ∧ _)
  obtain ⟨d, hod, hdn, hdd⟩ : ∃ d, o.dst = some d ∧ d < n ∧ ∀ j, j < i → dstOf ops j ≠ some d := by
    cases hod : o.dst with
    | none => rw [hod] at hdst; cases hdst
    | some d =>
      rw [hod] at hdst
      simp only [Bool.and_eq_true, decide_eq_true_eq, List.all_eq_true, List.mem_range, bne_iff_ne] at hdst
      exact ⟨d, rfl, hdst.1, hdst.2⟩
  have hdi : dstOf ops i = some d := by unfold dstOf; rw [ho]; exact hod
  have hne : ∀ j, j ≠ i → dstOf ops j ≠ some d := by
    intro j hji hj
    have hjs : j < ops.size := by
      rcases Nat.lt_or_ge j ops.size with h | h
      · exact h
      · unfold dstOf at hj; rw [Array.getElem?_eq_none h] at hj; cases hj
    rcases Nat.lt_or_ge j i with h | h
    · exact hdd j h hj
    · have hij : i < j := by omega
      obtain ⟨oj, hoj⟩ : ∃ o, ops[j]? = some o := ⟨_, Array.getElem?_eq_getElem hjs⟩
      obtain ⟨pj, hpj⟩ : ∃ p, plan[j]? = some p := ⟨_, List.getElem?_eq_getElem (by omega)⟩
      have hh := hp j hjs
      simp only [hoj, hpj] at hh
      obtain ⟨⟨hdj, _⟩, _⟩ := (by simpa only [Bool.and_eq_true] using hh : (_ ∧ _) ∧ _)
      have : oj.dst = some d := by unfold dstOf at hj; rw [hoj] at hj; exact hj
      rw [this] at hdj
      simp only [Bool.and_eq_true, decide_eq_true_eq, List.all_eq_true, List.mem_range, bne_iff_ne] at hdj
      exact hdj.2 i hij hdi
  have hR : Reads tys w a p.1 := by
    refine Reads.of_mem fun x hx => ?_
    have h1 := List.all_eq_true.1 hrs x hx
    rcases (Bool.or_eq_true _ _).mp h1 with h2 | h2
    · obtain ⟨j, _, hj⟩ := List.any_eq_true.1 h2
      simp only [Bool.and_eq_true, beq_iff_eq] at hj
      exact h.done j _ _ (hd j hj.1.2) hj.1.1 hj.2
    · simp only [Bool.and_eq_true, List.all_eq_true, List.mem_range, Bool.or_eq_true, bne_iff_ne, beq_iff_eq] at h2
      rw [h.old x.1 (fun j hL hj => by
        have hjs : j < ops.size := by
          rcases Nat.lt_or_ge j ops.size with h | h
          · exact h
          · unfold dstOf at hj; rw [Array.getElem?_eq_none h] at hj; cases hj
        rcases h2.2 j hjs with (h3 | h3) | h3
        · exact h3 hj
        · exact hn (h.closed j i hL h3)
        · exact hn (h3 ▸ hL))]
      exact (tys x.2).up h.ext (hpre.mem x (by simpa using h2.1))
  refine wpOp_mono ?_ ((hok i o p ho hpl a w h.ext hR).op ho)
  rintro a' w' ⟨v, rfl, hx, hT⟩
  rw [hod]
  refine ⟨h.ext.trans hx, ?_, ?_, ?_, ?_, ?_⟩
  · show (a.tmps.setIfInBounds d v).size = n
    rw [Array.size_setIfInBounds]; exact h.size
  · exact h.defers
  · intro j e c hj hje hjc
    rw [getD_put]
    by_cases hji : j = i
    · subst hji
      rw [hdi] at hje
      cases hje
      rw [if_pos ⟨rfl, by rw [h.size]; exact hdn⟩]
      unfold outOf at hjc
      rw [hpl] at hjc
      cases hjc
      exact hT
    · rw [if_neg (fun hh => hne j hji (by rw [hje, hh.1]))]
      exact (tys c).up hx (h.done j e c (hj.resolve_right hji) hje hjc)
  · intro s hs
    rw [getD_put, if_neg (fun hh => hs i (.inr rfl) (by rw [hdi, hh.1]))]
    exact h.old s (fun j hj => hs j (.inl hj))
  · intro j k hj hjk
    rcases hj with hj | rfl
    · exact .inl (h.closed j k hj hjk)
    · exact .inl (hd k hjk)
/-- What is to be shown of each operation. -/
def OkL (P : Program) (ops : Array Oper) (Q : Exit → Act → World → Prop) (tys : Nat → STy) (w0 : World) : List Oper → List (List (Nat × Nat) × Nat) → Prop
  | [], _ => True
  | o :: os, p :: pl => (∀ a w, Ext w0 w → Reads tys w a p.1 → Gives P ops Q o (tys p.2) a w) ∧ OkL P ops Q tys w0 os pl
  | _ :: _, [] => False
theorem OkL.nil {tys : Nat → STy} {w0 : World} {pl : List (List (Nat × Nat) × Nat)} : OkL P ops Q tys w0 [] pl := trivial
theorem OkL.cons {tys : Nat → STy} {w0 : World} {o : Oper} {os : List Oper} {p : List (Nat × Nat) × Nat} {pl : List (List (Nat × Nat) × Nat)} (h : ∀ a w, Ext w0 w → Reads tys w a p.1 → Gives P ops Q o (tys p.2) a w) (t : OkL P ops Q tys w0 os pl) : OkL P ops Q tys w0 (o :: os) (p :: pl) := ⟨h, t⟩
theorem OkL.get {tys : Nat → STy} {w0 : World} : ∀ {os : List Oper} {pl : List (List (Nat × Nat) × Nat)}, OkL P ops Q tys w0 os pl → ∀ (i : Nat) (o : Oper) (p : List (Nat × Nat) × Nat), os[i]? = some o → pl[i]? = some p → ∀ a w, Ext w0 w → Reads tys w a p.1 → Gives P ops Q o (tys p.2) a w
  | [], _, _, i, o, p, ho, _ => by simp at ho
  | _ :: _, [], h, _, _, _, _, _ => h.elim
  | _ :: _, _ :: _, h, 0, o, p, ho, hp => by cases ho; cases hp; exact h.1
  | _ :: _, _ :: _, h, i + 1, o, p, ho, hp => OkL.get h.2 i o p ho hp
/-- What is to be shown behind them all. -/
def FinL (tys : Nat → STy) (Q : Exit → Act → World → Prop) (w : World) : List Oper → List (List (Nat × Nat) × Nat) → Act → Prop
  | [], _, a => Q .normal a w
  | o :: os, p :: pl, a => ∀ v, (tys p.2).p w v → FinL tys Q w os pl (a.put o.dst v)
  | _ :: _, [], _ => True
theorem FinL.done {tys : Nat → STy} {w : World} {pl : List (List (Nat × Nat) × Nat)} {a : Act} (h : Q .normal a w) : FinL tys Q w [] pl a := h
def fillL (b : Act) : List Oper → Act → Act
  | [], a => a
  | o :: os, a => fillL b os (a.put o.dst ((o.dst.map fun d => b.tmps.getD d undef).getD undef))
theorem fin_fill {tys : Nat → STy} {w : World} {b : Act} : ∀ {os : List Oper} {pl : List (List (Nat × Nat) × Nat)} {a : Act}, os.length = pl.length → (∀ (i : Nat) (o : Oper) (p : List (Nat × Nat) × Nat), os[i]? = some o → pl[i]? = some p → (tys p.2).p w ((o.dst.map fun d => b.tmps.getD d undef).getD undef)) → FinL tys Q w os pl a → Q .normal (fillL b os a) w
  | [], _, _, _, _, h => h
  | _ :: _, [], _, hl, _, _ => by simp at hl
  | o :: os, p :: pl, a, hl, ht, h => fin_fill (os := os) (pl := pl) (by simpa using hl) (fun i o p ho hp => ht (i + 1) o p ho hp) (h _ (ht 0 o p rfl rfl))
theorem fill_size (b : Act) : ∀ (os : List Oper) (a : Act), (fillL b os a).tmps.size = a.tmps.size ∧ (fillL b os a).defers = a.defers
  | [], _ => ⟨rfl, rfl⟩
  | o :: os, a => by
    have h := fill_size b os (a.put o.dst ((o.dst.map fun d => b.tmps.getD d undef).getD undef))
    unfold fillL
    cases hd : o.dst with
    | none => rw [hd] at h; exact h
    | some d => rw [hd] at h; exact ⟨h.1.trans (Array.size_setIfInBounds ..), h.2⟩
theorem fill_get (b : Act) (s : Nat) : ∀ (os : List Oper) (a : Act), s < a.tmps.size → ((∃ o ∈ os, o.dst = some s) → (fillL b os a).tmps.getD s undef = b.tmps.getD s undef) ∧ ((∀ o ∈ os, o.dst ≠ some s) → (fillL b os a).tmps.getD s undef = a.tmps.getD s undef)
  | [], a, _ => ⟨fun ⟨_, h, _⟩ => by simp at h, fun _ => rfl⟩
  | o :: os, a, hs => by
    unfold fillL
    have ih := fill_get b s os (a.put o.dst ((o.dst.map fun d => b.tmps.getD d undef).getD undef)) (by
      cases o.dst with
      | none => exact hs
      | some d => show s < (a.tmps.setIfInBounds d _).size; rw [Array.size_setIfInBounds]; exact hs)
    refine ⟨fun ⟨o', ho', hd⟩ => ?_, fun hn => ?_⟩
    · by_cases hex : ∃ o'' ∈ os, o''.dst = some s
      · exact ih.1 hex
      · rcases List.mem_cons.1 ho' with e | e
        · subst e
          rw [ih.2 (fun o2 h2 e2 => hex ⟨o2, h2, e2⟩), hd, getD_put, if_pos ⟨rfl, hs⟩]; rfl
        · exact absurd ⟨o', e, hd⟩ hex
    · rw [ih.2 (fun o2 h2 => hn o2 (List.mem_cons_of_mem _ h2))]
      have h0 := hn o (List.mem_cons_self ..)
      cases hd : o.dst with
      | none => rfl
      | some d =>
        rw [getD_put, if_neg]
        rintro ⟨rfl, _⟩
        exact h0 hd
theorem PInv.fin {os : List Oper} {n : Nat} {pre : List (Nat × Nat)} {plan : List (List (Nat × Nat) × Nat)} {tys : Nat → STy} {a0 : Act} {w0 : World} {L : Nat → Prop} {a : Act} {w : World}
    (hp : planOk md os.toArray n pre plan = true) (hn : a0.tmps.size = n) (h : PInv md os.toArray n plan tys a0 w0 L a w) (hall : ∀ j, j < os.length → L j) (hf : FinL tys Q w os plan a0) : Q .normal a w := by
  unfold planOk at hp
  simp only [Bool.and_eq_true, beq_iff_eq, List.all_eq_true, List.mem_range] at hp
  obtain ⟨hlen, hp⟩ := hp
  have hl : os.length = plan.length := by rw [hlen]; simp
  have hq := fin_fill (b := a) hl (fun i o p ho hpl => by
    have hi : i < os.length := (List.getElem?_eq_some_iff.1 ho).1
    have hpi := hp i (by simpa using hi)
    have ho' : os.toArray[i]? = some o := by simpa using ho
    simp only [ho', hpl] at hpi
    obtain ⟨⟨hdst, _⟩, _⟩ := (by simpa only [Bool.and_eq_true] using hpi : (_ ∧ _) ∧ _)
    cases hod : o.dst with
    | none => rw [hod] at hdst; cases hdst
    | some d => exact h.done i d p.2 (hall i hi) (by unfold dstOf; rw [ho']; exact hod) (by unfold outOf; rw [hpl]; rfl)) hf
  have he : fillL a os a0 = a := by
    obtain ⟨h1, h2⟩ := fill_size a os a0
    have h3 : (fillL a os a0).tmps = a.tmps := by
      refine Array.ext (by rw [h1, hn, h.size]) fun s hs1 hs2 => ?_
      have hs : s < a0.tmps.size := by rw [hn, ← h.size]; exact hs2
      have key : (fillL a os a0).tmps.getD s undef = a.tmps.getD s undef := by
        obtain ⟨g1, g2⟩ := fill_get a s os a0 hs
        by_cases hex : ∃ o ∈ os, o.dst = some s
        · exact g1 hex
        · rw [g2 (fun o ho hd => hex ⟨o, ho, hd⟩), h.old s]
          intro j _ hj
          unfold dstOf at hj
          cases ho : os.toArray[j]? with
          | none => rw [ho] at hj; cases hj
          | some o =>
            rw [ho] at hj
            exact hex ⟨o, by simpa using Array.mem_of_getElem? ho, hj⟩
      simpa [Array.getD_eq_getD_getElem?, hs1, hs2] using key
    cases a with
    | mk t d =>
      cases hfa : fillL ⟨t, d⟩ os a0 with
      | mk t' d' =>
        rw [hfa] at h2 h3
        have h4 := h.defers
        simp only at h2 h3 h4
        subst h3
        rw [h2, h4]
  rwa [he] at hq
theorem PInv.mono {n : Nat} {plan : List (List (Nat × Nat) × Nat)} {tys : Nat → STy} {a0 : Act} {w0 : World} {L L' : Nat → Prop} {a : Act} {w : World} (hL : ∀ j, L j ↔ L' j) (h : PInv md ops n plan tys a0 w0 L a w) : PInv md ops n plan tys a0 w0 L' a w := by
  have : L = L' := funext fun j => propext (hL j)
  subst this; exact h
def unl (listed : Array Bool) : Nat → Nat
  | 0 => 0
  | k + 1 => unl listed k + if listed.getD k true = true then 0 else 1
theorem listed_set (listed : Array Bool) (i j : Nat) (b : Bool) (hi : i < listed.size) : (listed.setIfInBounds i true).getD j b = if j = i then true else listed.getD j b := by
  rw [Array.getD_eq_getD_getElem?, Array.getElem?_setIfInBounds, Array.getD_eq_getD_getElem?]
  by_cases h : i = j
  · subst h; simp [hi]
  · rw [if_neg h, if_neg (fun e => h e.symm)]
theorem unl_set (listed : Array Bool) (i : Nat) (hi : i < listed.size) (hf : listed.getD i true = false) : ∀ k, unl (listed.setIfInBounds i true) k + (if i < k then 1 else 0) = unl listed k
  | 0 => by simp [unl]
  | k + 1 => by
    have ih := unl_set listed i hi hf k
    unfold unl
    rw [listed_set _ _ _ _ hi]
    by_cases h : k = i
    · subst h
      rw [if_neg (by omega)] at ih
      simp only [if_true, hf, if_pos (Nat.lt_succ_self k), Bool.false_eq_true, if_false]
      omega
    · rw [if_neg h]
      generalize (if listed.getD k true = true then 0 else 1) = z
      by_cases h2 : i < k
      · rw [if_pos h2] at ih; rw [if_pos (by omega)]; omega
      · rw [if_neg h2] at ih; rw [if_neg (by omega)]; omega
theorem unl_zero (listed : Array Bool) : ∀ k, unl listed k = 0 → ∀ j, j < k → listed.getD j true = true
  | 0, _, j, hj => by omega
  | k + 1, h, j, hj => by
    unfold unl at h
    by_cases hk : listed.getD k true = true
    · by_cases e : j = k
      · subst e; exact hk
      · exact unl_zero listed k (by omega) j (by omega)
    · rw [if_neg hk] at h; omega
theorem unl_all (n : Nat) : ∀ k, k ≤ n → unl (Array.replicate n false) k = k
  | 0, _ => rfl
  | k + 1, h => by
    unfold unl
    rw [unl_all n k (by omega)]
    simp [show k < n by omega]
theorem getD_tf {listed : Array Bool} {j : Nat} (hj : j < listed.size) (b c : Bool) : listed.getD j b = listed.getD j c := by simp [Array.getD_eq_getD_getElem?, hj]
theorem any_of_plan {os : List Oper} {n : Nat} {pre : List (Nat × Nat)} {plan : List (List (Nat × Nat) × Nat)} {tys : Nat → STy} {a0 : Act} {w0 : World}
    (hp : planOk md os.toArray n pre plan = true) (hn : a0.tmps.size = n) (hpre : Reads tys w0 a0 pre) (hok : OkL P os.toArray Q tys w0 os plan) (hfin : ∀ w, Ext w0 w → FinL tys Q w os plan a0) :
    ∀ (fuel : Nat) (listed : Array Bool) (a : Act) (w : World), listed.size = os.length → unl listed os.length = fuel → PInv md os.toArray n plan tys a0 w0 (fun j => listed.getD j false = true) a w → wpAny P md os.toArray Q fuel listed a w := by
  have hok' : ∀ (i : Nat) (o : Oper) (p : List (Nat × Nat) × Nat), os.toArray[i]? = some o → plan[i]? = some p → ∀ a w, Ext w0 w → Reads tys w a p.1 → Gives P os.toArray Q o (tys p.2) a w := fun i o p ho hpl => hok.get i o p (by simpa using ho) hpl
  have fin : ∀ (listed : Array Bool) (a : Act) (w : World), listed.size = os.length → PInv md os.toArray n plan tys a0 w0 (fun j => listed.getD j false = true) a w → (∀ j, j < os.length → listed.getD j true = true) → Q .normal a w := fun listed a w hsz h hall =>
    h.fin hp hn (fun j hj => by rw [getD_tf (by omega) false true]; exact hall j hj) (hfin w h.ext)
  intro fuel
  induction fuel with
  | zero =>
    intro listed a w hsz hu h
    have hall := unl_zero listed _ hu
    refine ⟨?_, fin listed a w hsz h hall⟩
    cases hr : Region.ready md os.toArray listed with
    | nil => rfl
    | cons i r =>
      have hm : i ∈ Region.ready md os.toArray listed := by rw [hr]; exact List.mem_cons_self ..
      obtain ⟨h1, o, ho, _⟩ := mem_ready.1 hm
      have hi : i < os.length := by simpa using (Array.getElem?_eq_some_iff.1 ho).1
      rw [hall i hi] at h1; cases h1
  | succ fuel ih =>
    intro listed a w hsz hu h
    refine ⟨fun hr => fin listed a w hsz h (fun j => ?_), fun i hi => ?_⟩
    · induction j using Nat.strongRecOn with
      | ind j ihj =>
        intro hj
        cases hlj : listed.getD j true with
        | true => rfl
        | false =>
          exfalso
          have hm : j ∈ Region.ready md os.toArray listed := by
            obtain ⟨o, ho⟩ : ∃ o, os.toArray[j]? = some o := ⟨_, Array.getElem?_eq_getElem (by simpa using hj)⟩
            refine mem_ready.2 ⟨hlj, o, ho, fun e he hb => ?_⟩
            have hp' := hp
            unfold planOk at hp'
            simp only [Bool.and_eq_true, beq_iff_eq, List.all_eq_true, List.mem_range] at hp'
            have hpj := hp'.2 j (by simpa using hj)
            obtain ⟨p, hpl⟩ : ∃ p, plan[j]? = some p := ⟨_, List.getElem?_eq_getElem (by have := hp'.1; simp at this; omega)⟩
            simp only [ho, hpl] at hpj
            obtain ⟨⟨_, haf⟩, _⟩ := (by simpa only [Bool.and_eq_true] using hpj : (_ ∧ _) ∧ _)
            have h1 := Array.all_eq_true_iff_forall_mem.1 haf e he
            simp only [hb, Bool.not_true, Bool.false_or, decide_eq_true_eq] at h1
            rw [getD_tf (by omega) false true]
            exact ihj e.on h1 (by omega)
          rw [hr] at hm
          cases hm
    · obtain ⟨h1, o, ho, hall⟩ := mem_ready.1 hi
      have hio : i < os.length := by simpa using (Array.getElem?_eq_some_iff.1 ho).1
      refine wpOp_mono ?_ (h.step hp hpre hok' (i := i) (by simpa using hio) (by rw [getD_tf (by omega) false true, h1]; simp) (fun j hj => ?_))
      · intro a' w' h'
        refine ih _ a' w' (by simpa using hsz) ?_ (h'.mono fun j => ?_)
        · have := unl_set listed i (by omega) h1 os.length
          rw [if_pos hio] at this
          omega
        · rw [listed_set _ _ _ _ (by omega)]
          by_cases e : j = i
          · simp [e]
          · simp [e]
      · unfold dep at hj
        rw [ho] at hj
        simp only [Option.map_some, Option.getD_some] at hj
        obtain ⟨e, he, hb⟩ := Array.any_eq_true'.1 hj
        simp only [Bool.and_eq_true, beq_iff_eq] at hb
        rw [← hb.2]
        exact hall e he hb.1
theorem PInv.start {n : Nat} {plan : List (List (Nat × Nat) × Nat)} {tys : Nat → STy} {a0 : Act} {w0 w : World} (hx : Ext w0 w) (hn : a0.tmps.size = n) : PInv md ops n plan tys a0 w0 (fun _ => False) a0 w :=
  ⟨hx, hn, rfl, fun _ _ _ h => h.elim, fun _ _ => rfl, fun _ _ h => h.elim⟩
theorem Ext.drew (w : World) : Ext w w.drew := Below.drew (Below.refl _ _)
/-- THE REGION THAT DRAWS ITS ORDER. -/
theorem wp_region_typed {os : List Oper} {id : Nat} {pre : List (Nat × Nat)} {plan : List (List (Nat × Nat) × Nat)} {tys : Nat → STy} {a0 : Act} {w0 : World} (hm : P.follows .mixedOrders = true)
    (n : Nat) (hp : planOk .any os.toArray n pre plan = true) (hn : a0.tmps.size = n) (hpre : Reads tys w0 a0 pre) (hok : OkL P os.toArray Q tys w0 os plan) (hfin : ∀ w, Ext w0 w → FinL tys Q w os plan a0) :
    (Code.region id os.toArray true).wp P Q a0 w0 :=
  wp_region_any hm (any_of_plan hp hn hpre hok hfin _ _ _ _ (by simp) (by simpa using unl_all os.length os.length (Nat.le_refl _)) ((PInv.start (Ext.drew w0) hn).mono fun j => by
    constructor
    · exact fun h => h.elim
    · intro h
      rcases Nat.lt_or_ge j os.length with hj | hj
      · simp [hj] at h
      · simp [hj] at h))
theorem ops_of_plan {os : List Oper} {n : Nat} {pre : List (Nat × Nat)} {plan : List (List (Nat × Nat) × Nat)} {tys : Nat → STy} {a0 : Act} {w0 : World}
    (hp : planOk .text os.toArray n pre plan = true) (hn : a0.tmps.size = n) (hpre : Reads tys w0 a0 pre) (hok : OkL P os.toArray Q tys w0 os plan) (hfin : ∀ w, Ext w0 w → FinL tys Q w os plan a0) :
    ∀ (m k : Nat) (a : Act) (w : World), k + m = os.length → PInv .text os.toArray n plan tys a0 w0 (fun j => j < k) a w → wpOps P os.toArray Q (List.range' k m) a w := by
  have hok' : ∀ (i : Nat) (o : Oper) (p : List (Nat × Nat) × Nat), os.toArray[i]? = some o → plan[i]? = some p → ∀ a w, Ext w0 w → Reads tys w a p.1 → Gives P os.toArray Q o (tys p.2) a w := fun i o p ho hpl => hok.get i o p (by simpa using ho) hpl
  intro m
  induction m with
  | zero => intro k a w hk h; exact h.fin hp hn (fun j hj => by omega) (hfin w h.ext)
  | succ m ih =>
    intro k a w hk h
    rw [List.range'_succ, wpOps_cons]
    refine wpOp_mono ?_ (h.step hp hpre hok' (i := k) (by simp; omega) (by omega) (fun j hj => ?_))
    · intro a' w' h'
      exact ih (k + 1) a' w' (by omega) (h'.mono fun j => by omega)
    · have hp' := hp
      unfold planOk at hp'
      simp only [Bool.and_eq_true, beq_iff_eq, List.all_eq_true, List.mem_range] at hp'
      have hpk := hp'.2 k (by simp; omega)
      obtain ⟨o, ho⟩ : ∃ o, os.toArray[k]? = some o := ⟨_, Array.getElem?_eq_getElem (by simp; omega)⟩
      obtain ⟨p, hpl⟩ : ∃ p, plan[k]? = some p := ⟨_, List.getElem?_eq_getElem (by have := hp'.1; simp at this; omega)⟩
      simp only [ho, hpl] at hpk
      obtain ⟨⟨_, haf⟩, _⟩ := (by simpa only [Bool.and_eq_true] using hpk : (_ ∧ _) ∧ _)
      unfold dep at hj
      rw [ho] at hj
      simp only [Option.map_some, Option.getD_some] at hj
      obtain ⟨e, he, hb⟩ := Array.any_eq_true'.1 hj
      simp only [Bool.and_eq_true, beq_iff_eq] at hb
      have h1 := Array.all_eq_true_iff_forall_mem.1 haf e he
      simp only [hb.1, Bool.not_true, Bool.false_or, decide_eq_true_eq] at h1
      omega
/-- THE REGION IN THE TEXT'S ORDER. -/
theorem wp_region_lined {os : List Oper} {id : Nat} {pre : List (Nat × Nat)} {plan : List (List (Nat × Nat) × Nat)} {tys : Nat → STy} {a0 : Act} {w0 : World}
    (n : Nat) (hp : planOk .text os.toArray n pre plan = true) (hn : a0.tmps.size = n) (hpre : Reads tys w0 a0 pre) (hok : OkL P os.toArray Q tys w0 os plan) (hfin : ∀ w, Ext w0 w → FinL tys Q w os plan a0) :
    (Code.region id os.toArray false).wp P Q a0 w0 :=
  wp_region (by
    rw [List.range_eq_range', List.size_toArray]
    exact ops_of_plan hp hn hpre hok hfin os.length 0 a0 w0 (by omega) ((PInv.start (Ext.refl w0) hn).mono fun j => ⟨fun h => h.elim, fun h => absurd h (Nat.not_lt_zero _)⟩))
/- What single operations give. -/
variable {o : Oper} {T : STy} {a : Act} {w : World}
theorem wanted_none (h : o.guard = none) : Region.wanted o (yielded ops a.tmps) = true := by unfold Region.wanted; rw [h]
theorem getD_bool {d : Nat} {b : Bool} (hv : a.tmps.getD d undef = .bool b) : a.tmps[d]? = some (.bool b) := by
  rw [Array.getD_eq_getD_getElem?] at hv
  cases h : a.tmps[d]? with
  | none => rw [h] at hv; cases hv
  | some v => rw [h] at hv; exact congrArg some hv
theorem yielded_bool {g : Nat} {d : Nat} {b : Bool} (hd : dstOf ops g = some d) (hv : a.tmps.getD d undef = .bool b) : yielded ops a.tmps g = some b := by
  unfold yielded
  unfold dstOf at hd
  rw [hd]
  simp only [Option.bind_some, getD_bool hv]
theorem wanted_some {g : Nat} {d : Nat} {b : Bool} (hg : o.guard = some (g, b)) (hd : dstOf ops g = some d) (hv : a.tmps.getD d undef = .bool b) : Region.wanted o (yielded ops a.tmps) = true := by
  unfold Region.wanted
  rw [hg]
  simp only [yielded_bool hd hv, beq_self_eq_true]
theorem unwanted {g : Nat} {d : Nat} {b : Bool} (hg : o.guard = some (g, b)) (hd : dstOf ops g = some d) (hv : a.tmps.getD d undef = .bool (!b)) : Region.wanted o (yielded ops a.tmps) = false := by
  unfold Region.wanted
  rw [hg]
  simp only [yielded_bool hd hv]
  cases b <;> rfl
theorem g_skip {g : Nat} {d : Nat} {b : Bool} (hg : o.guard = some (g, b)) (hd : dstOf ops g = some d) (hv : a.tmps.getD d undef = .bool (!b)) (ht : T.p w undef) : Gives P ops Q o T a w := .inr ⟨unwanted hg hd hv, ht⟩
theorem g_run (hw : Region.wanted o (yielded ops a.tmps) = true) {w' : World} {v : Value} (hrun : (execOp a.eval o).run P w = .ok (.value v) w') (hx : Ext w w') (ht : T.p w' v) : Gives P ops Q o T a w :=
  .inl ⟨hw, Oper.wp_value hrun ⟨v, rfl, hx, ht⟩⟩
theorem g_move (hw : Region.wanted o (yielded ops a.tmps) = true) {x : Operand} (ho : o.op = .move x ∨ o.op = .assign x) (ht : T.p w (a.eval x)) : Gives P ops Q o T a w :=
  g_run hw (by unfold execOp; rcases ho with ho | ho <;> simp only [ho, Sem.run_pure]) (Ext.refl w) ht
theorem g_pick (hw : Region.wanted o (yielded ops a.tmps) = true) {c x y : Operand} {b : Bool} (ho : o.op = .pick c x y) (hc : a.eval c = .bool b) (ht : T.p w (if b then a.eval x else a.eval y)) : Gives P ops Q o T a w :=
  g_run hw (by unfold execOp; simp only [ho, hc, asBool, Sem.run_bind, Sem.run_pure, Result.andThen_ok]) (Ext.refl w) ht
theorem g_not (hw : Region.wanted o (yielded ops a.tmps) = true) {t : TypeId} {x : Operand} {b : Bool} (ho : o.op = .unOp .not t x) (hx : a.eval x = .bool b) (ht : T.p w (.bool !b)) : Gives P ops Q o T a w :=
  g_run hw (v := .bool !b) (by unfold execOp; simp only [ho, hx]; rfl) (Ext.refl w) ht
theorem g_eqs (hw : Region.wanted o (yielded ops a.tmps) = true) {t u : TypeId} {x y : Operand} {s r : ByteArray} (ho : o.op = .binOp .eql t x y u) (hx : a.eval x = .string s) (hy : a.eval y = .string r) (ht : T.p w (.bool (s.toList == r.toList))) : Gives P ops Q o T a w :=
  g_run hw (v := .bool (s.toList == r.toList)) (by unfold execOp; simp only [ho, hx, hy]; simp [binOp, Op.stringOp, eqGuard]) (Ext.refl w) ht
theorem g_nes (hw : Region.wanted o (yielded ops a.tmps) = true) {t u : TypeId} {x y : Operand} {s r : ByteArray} (ho : o.op = .binOp .neq t x y u) (hx : a.eval x = .string s) (hy : a.eval y = .string r) (ht : T.p w (.bool !(s.toList == r.toList))) : Gives P ops Q o T a w :=
  g_run hw (v := .bool !(s.toList == r.toList)) (by unfold execOp; simp only [ho, hx, hy]; simp [binOp, Op.stringOp, eqGuard]) (Ext.refl w) ht
theorem g_bin (hw : Region.wanted o (yielded ops a.tmps) = true) {b : BinOp} {t u : TypeId} {x y : Operand} {v : Value} (ho : o.op = .binOp b t x y u) (hr : (do eqGuard b t x y (a.eval x) (a.eval y); binOp b t (a.eval x) (a.eval y) : Sem Value).run P w = .ok v w) (ht : T.p w v) : Gives P ops Q o T a w :=
  g_run hw (by unfold execOp; simp only [ho]; rw [Sem.run_bind, hr]; rfl) (Ext.refl w) ht
theorem g_conv (hw : Region.wanted o (yielded ops a.tmps) = true) {s d : TypeId} {x : Operand} {u : Value} (ho : o.op = .convert s d x) (h : (convert s d (a.eval x)).run P w = .ok u w) (ht : T.p w u) : Gives P ops Q o T a w :=
  g_run hw (run_op_convert ho rfl h) (Ext.refl w) ht
/-- What a call gives, by its contract. -/
def Hands (P : Program) (f : FuncId) (vals : Array Value) (w : World) (T : STy) : Prop := Calls P f vals w fun e w' => ∃ v, e = .returned v ∧ Ext w w' ∧ T.p w' v
theorem g_enter (hw : Region.wanted o (yielded ops a.tmps) = true) {f : FuncId} {vals : Array Value} (hop : (execOp a.eval o).run P w = .ok (.enter f vals) w) (hc : Hands P f vals w T) : Gives P ops Q o T a w :=
  .inl ⟨hw, Oper.wp_enter hop hc fun _ _ ⟨v, h1, h2, h3⟩ => ⟨v, h1, v, rfl, h2, h3⟩⟩
/-- A function of the program's own text. -/
def enters (P : Program) (f : FuncId) : Bool := match P.funcs[f]? with | some fn => !(fn.name == "runtime.NumGoroutine") && !fn.body.isNone | none => false
theorem run_enters {f : FuncId} (h : enters P f = true) (args : Array Value) (w : World) : (callFunc f args).run P w = .ok (.enter f args) w := by
  unfold enters at h
  cases hf : P.funcs[f]? with
  | none => rw [hf] at h; cases h
  | some fn =>
    rw [hf] at h
    simp only [Bool.and_eq_true, Bool.not_eq_true'] at h
    unfold callFunc
    have h1 : ¬ fn.name = "runtime.NumGoroutine" := fun e => by rw [e] at h; simp at h
    have h2 : ¬ fn.body = none := fun e => by rw [e] at h; simp at h
    simp [hf, h1, h2]
theorem g_calls (hw : Region.wanted o (yielded ops a.tmps) = true) {f : FuncId} {xs : Array Operand} {vals : Array Value} {ts : Array TypeId} (hf : enters P f = true) (ho : o.op = .call { callee := .value (.func f), args := xs, argTypes := ts }) (hv : xs.map a.eval = vals) (hc : Hands P f vals w T) : Gives P ops Q o T a w :=
  g_enter hw (vals := vals) (by
    unfold execOp
    simp only [ho]
    unfold resolve invoke Deferred.ofValue
    simp [hv, Act.eval, run_enters hf]) hc
theorem g_call0 (hw : Region.wanted o (yielded ops a.tmps) = true) {f : FuncId} {ts : Array TypeId} (hf : enters P f = true) (ho : o.op = .call { callee := .value (.func f), args := #[], argTypes := ts }) (hc : Hands P f #[] w T) : Gives P ops Q o T a w := g_calls hw hf ho (by simp) hc
theorem g_call1 (hw : Region.wanted o (yielded ops a.tmps) = true) {f : FuncId} {x : Operand} {ts : Array TypeId} (hf : enters P f = true) (ho : o.op = .call { callee := .value (.func f), args := #[x], argTypes := ts }) (hc : Hands P f #[a.eval x] w T) : Gives P ops Q o T a w := g_calls hw hf ho (by simp) hc
theorem g_call2 (hw : Region.wanted o (yielded ops a.tmps) = true) {f : FuncId} {x y : Operand} {ts : Array TypeId} (hf : enters P f = true) (ho : o.op = .call { callee := .value (.func f), args := #[x, y], argTypes := ts }) (hc : Hands P f #[a.eval x, a.eval y] w T) : Gives P ops Q o T a w := g_calls hw hf ho (by simp) hc
theorem g_call3 (hw : Region.wanted o (yielded ops a.tmps) = true) {f : FuncId} {x y z : Operand} {ts : Array TypeId} (hf : enters P f = true) (ho : o.op = .call { callee := .value (.func f), args := #[x, y, z], argTypes := ts }) (hc : Hands P f #[a.eval x, a.eval y, a.eval z] w T) : Gives P ops Q o T a w := g_calls hw hf ho (by simp) hc
end
end Go
