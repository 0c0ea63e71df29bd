/- A region that draws its order, whose last operation waits for all others: what is shown of the others with that one left out, and of that one behind them, is shown of the whole. For any program. -/
import Derived.Deep.RegionHeld3
import Derived.StillTail
import Derived.Laws.CopyRow
import Derived.Laws.Tables
namespace Go
section
variable {P : Program} {ops : Array Oper} {Q : Exit → Act → World → Prop} {md : Region.Mode}
/-- An operation that does nothing, in its place. -/
def Oper.idle (o : Oper) : Oper := { o with dst := none, op := .move (.const (.bool false)), guard := none }
theorem idle_after (o : Oper) : o.idle.after = o.after := rfl

theorem get_idle {z : Nat} {oz : Oper} (hz : ops[z]? = some oz) (i : Nat) : (ops.setIfInBounds z oz.idle)[i]? = if i = z then some oz.idle else ops[i]? := by
  have hlt : z < ops.size := (Array.getElem?_eq_some_iff.1 hz).1
  by_cases h : i = z
  · subst h; simp [hlt]
  · rw [if_neg h, Array.getElem?_setIfInBounds_ne (fun e => h e.symm)]

theorem ready_idle {z : Nat} {oz : Oper} (hz : ops[z]? = some oz) (listed : Array Bool) : Region.ready md (ops.setIfInBounds z oz.idle) listed = Region.ready md ops listed := by
  unfold Region.ready
  rw [Array.size_setIfInBounds]
  congr 1
  funext i
  rw [get_idle hz i]
  by_cases h : i = z
  · subst h; simp [hz, Oper.idle]
  · rw [if_neg h]

theorem yielded_idle {z : Nat} {oz : Oper} (hz : ops[z]? = some oz) (hd : oz.dst = none) (tmps : Array Value) : yielded (ops.setIfInBounds z oz.idle) tmps = yielded ops tmps := by
  funext j
  unfold yielded
  rw [get_idle hz j]
  by_cases h : j = z
  · subst h; simp [hz, Oper.idle, hd]
  · rw [if_neg h]

theorem letsOut_then {K : Act → World → Prop} (h : LetsOut (Exit.then K Q)) : LetsOut Q := h

theorem Oper.wp_then {o : Oper} {a : Act} {w : World} {K N : Act → World → Prop} (h : o.wp P a w K (Exit.then N Q)) : o.wp P a w K Q := by
  unfold Oper.wp at *
  generalize (execOp a.eval o).run P w = r at *
  cases r with
  | ok n w' =>
    cases n <;> simp only [Oper.upon] at h ⊢ <;> first | exact h | skip
  | halt x w' => cases x <;> simp only [Oper.upon] at h ⊢ <;> exact h

theorem wpOp_idle {z : Nat} {oz : Oper} (hz : ops[z]? = some oz) (hd : oz.dst = none) {N K : Act → World → Prop} {i : Nat} (hi : i ≠ z) {a : Act} {w : World}
    (h : wpOp P (ops.setIfInBounds z oz.idle) (Exit.then N Q) i K a w) : wpOp P ops Q i K a w := by
  unfold wpOp at *
  rw [get_idle hz i, if_neg hi, yielded_idle hz hd] at h
  split
  · rename_i h0; rw [h0] at h; exact h
  · rename_i o h0
    rw [h0] at h
    simp only [] at h
    split
    · rename_i hw
      rw [if_pos hw] at h
      exact h.imp Oper.wp_then (fun x => ⟨x.1, letsOut_then x.2⟩)
    · rename_i hw
      rw [if_neg hw] at h
      exact h

/-- Nobody waits for one behind it. -/
def Region.topB (md : Region.Mode) (ops : Array Oper) : Bool :=
  (List.range ops.size).all fun i => ((ops[i]?).map (fun o => o.after.all fun e => !Region.binds md e || decide (e.on < i))).getD true

theorem topB_spec (h : Region.topB md ops = true) {i : Nat} {o : Oper} (ho : ops[i]? = some o) : ∀ e ∈ o.after, Region.binds md e = true → e.on < i := by
  intro e he hb
  have hlt : i < ops.size := (Array.getElem?_eq_some_iff.1 ho).1
  have h1 := List.all_eq_true.1 h i (List.mem_range.2 hlt)
  rw [ho] at h1
  simp only [Option.map_some, Option.getD_some, Array.all_eq_true_iff_forall_mem] at h1
  have h2 := h1 e he
  simpa [hb] using h2

theorem ready_some (ht : Region.topB md ops = true) (listed : Array Bool) (hs : listed.size = ops.size) : ∀ n, listed.getD n true = false → Region.ready md ops listed ≠ [] := by
  intro n
  induction n using Nat.strongRecOn with
  | _ n ih =>
    intro hn h0
    have hlt : n < listed.size := by
      rcases Nat.lt_or_ge n listed.size with h | h
      · exact h
      · simp [Array.getElem?_eq_none h] at hn
    obtain ⟨o, ho⟩ : ∃ o, ops[n]? = some o := ⟨ops[n], Array.getElem?_eq_getElem (by omega)⟩
    by_cases hall : ∀ e ∈ o.after, Region.binds md e = true → listed.getD e.on false = true
    · have : n ∈ Region.ready md ops listed := mem_ready.2 ⟨hn, o, ho, hall⟩
      rw [h0] at this; cases this
    · have ⟨e, h1⟩ := Classical.not_forall.1 hall
      have ⟨he, h2⟩ := Classical.not_forall.1 h1
      have ⟨hb, h3⟩ := Classical.not_forall.1 h2
      have hlt2 := topB_spec ht ho e he hb
      exact ih e.on hlt2 (getD_in (by omega) (by simpa using h3)) h0

theorem sink_listed {z : Nat} (hzs : z + 1 = ops.size) (h1 : Region.sinkB md ops z = true) (h2 : Region.chainB md ops z = true) {listed : Array Bool} (inv : HeadInv md ops z listed) (hr : z ∈ Region.ready md ops listed) (i : Nat) (hi : i < z) : listed.getD i false = true := by
  cases hl : listed.getD i false with
  | true => rfl
  | false => exact absurd hr (tail_waits h1 h2 (by omega) inv (z - i) i rfl hi (getD_in (by rw [inv.size]; omega) hl) z (Nat.le_refl _))

theorem ready_done {z : Nat} (hzs : z + 1 = ops.size) (h1 : Region.sinkB md ops z = true) (h2 : Region.chainB md ops z = true) {listed : Array Bool} (inv : HeadInv md ops z listed) (hr : z ∈ Region.ready md ops listed) : Region.ready md ops (listed.setIfInBounds z true) = [] := by
  rw [List.eq_nil_iff_forall_not_mem]
  intro i hi
  obtain ⟨h3, o, ho, _⟩ := mem_ready.1 hi
  have hlt : i < ops.size := (Array.getElem?_eq_some_iff.1 ho).1
  by_cases h : i = z
  · subst h
    rw [Array.getD_eq_getD_getElem?] at h3
    simp [inv.size, hlt] at h3
  · have h4 := sink_listed hzs h1 h2 inv hr i (by omega)
    rw [getD_set_ne true (fun e => h e.symm)] at h3
    have := getD_both h3
    rw [h4] at this; cases this

theorem wpAny_done' {listed : Array Bool} (hr : Region.ready md ops listed = []) {a : Act} {w : World} : ∀ fuel, wpAny P md ops Q fuel listed a w → Q .normal a w
  | 0, h => h.2
  | _ + 1, h => h.1 hr

theorem idle_wp {o : Oper} {a : Act} {w : World} {K : Act → World → Prop} (h : o.idle.wp P a w K Q) : K a w := by
  unfold Oper.wp execOp at h
  simpa [Oper.idle, Oper.upon, Act.put] using h

theorem idle_asks {o : Oper} {a : Act} {w : World} (h : o.idle.asks P a w) : False := by
  have h1 : noRoomEvent ∈ (#[] : Array Event) := h.1
  simp at h1

theorem count_set_true : ∀ (l : List Bool) (i : Nat), l[i]? = some false → (l.set i true).count false + 1 = l.count false
  | [], i, h => by simp at h
  | b :: r, 0, h => by simp at h; subst h; simp
  | b :: r, i + 1, h => by
    have := count_set_true r i (by simpa using h)
    simp only [List.set_cons_succ, List.count_cons]
    omega

theorem wpAny_sink {z : Nat} {oz : Oper} (hz : ops[z]? = some oz) (hd : oz.dst = none) (hg : oz.guard = none) (hzs : z + 1 = ops.size) (h1 : Region.sinkB md ops z = true) (hc2 : Region.chainB md ops z = true) (ht : Region.topB md ops = true) :
    ∀ (fuel : Nat) (listed : Array Bool) (a : Act) (w : World), HeadInv md ops z listed → listed.toList.count false ≤ fuel →
      wpAny P md (ops.setIfInBounds z oz.idle) (Exit.then (fun a w => oz.wp P a w (Q .normal) Q) Q) fuel listed a w → wpAny P md ops Q fuel listed a w := by
  intro fuel
  induction fuel with
  | zero =>
    intro listed a w inv hc h
    have hs := inv.size
    have hzl := inv.tail z (Nat.le_refl _) (by omega)
    exact absurd (by rw [← ready_idle hz]; exact h.1) (ready_some ht listed hs z hzl)
  | succ fuel ih =>
    intro listed a w inv hc h
    have hs := inv.size
    have hzl := inv.tail z (Nat.le_refl _) (by omega)
    refine ⟨fun h0 => absurd h0 (ready_some ht listed hs z hzl), fun i hi => ?_⟩
    have h2 := h.2 i (by rw [ready_idle hz]; exact hi)
    by_cases hiz : i = z
    · subst hiz
      have hdone := ready_done hzs h1 hc2 inv hi
      unfold wpOp at h2 ⊢
      rw [get_idle hz, if_pos rfl] at h2
      rw [hz]
      have hw1 : Region.wanted oz.idle (yielded (ops.setIfInBounds i oz.idle) a.tmps) = true := rfl
      have hw2 : Region.wanted oz (yielded ops a.tmps) = true := by simp [Region.wanted, hg]
      simp only [hw1, if_true] at h2
      simp only [hw2, if_true]
      rcases h2 with h2 | h2
      · have h3 := idle_wp (o := oz) h2
        have h4 := wpAny_done' (by rw [ready_idle hz]; exact hdone) fuel h3
        refine .inl (Oper.wp_mono (fun a' w' hq => ?_) h4)
        exact wpAny_done hdone hq fuel
      · exact (idle_asks (o := oz) h2.1).elim
    · refine wpOp_mono (fun a' w' h3 => ih _ a' w' ?_ ?_ h3) (wpOp_idle hz hd hiz h2)
      · have hil : i < ops.size := by
          obtain ⟨_, o, ho, _⟩ := mem_ready.1 hi
          exact (Array.getElem?_eq_some_iff.1 ho).1
        exact inv.set hi (by omega)
      · have hun := (mem_ready.1 hi).1
        have hil : i < listed.size := by
          rcases Nat.lt_or_ge i listed.size with h | h
          · exact h
          · simp [Array.getElem?_eq_none h] at hun
        have hif : listed[i] = false := by simpa [hil] using hun
        rw [Array.toList_setIfInBounds]
        have := count_set_true listed.toList i (by rw [Array.getElem?_toList, Array.getElem?_eq_getElem hil, hif])
        omega
/-- THE BEGINNING: the region's last operation left out; S must hold of the world behind the draw. -/
theorem wp_region_sink {id : Nat} {a : Act} {w : World} {S : World → Prop} (z : Nat) {oz : Oper} (hm : P.follows .mixedOrders = true) (hz : ops[z]? = some oz) (hd : oz.dst = none) (hg : oz.guard = none)
    (hzs : z + 1 = ops.size) (h1 : Region.sinkB .any ops z = true) (h2 : Region.chainB .any ops z = true) (ht : Region.topB .any ops = true) (hS : S w.drew)
    (h : S w.drew → wpAnyH P .any (ops.setIfInBounds z oz.idle) (Exit.then (fun a w => oz.wp P a w (Q .normal) Q) Q) S ops.size (Array.replicate ops.size false) a w.drew) : (Code.region id ops true).wp P Q a w := by
  refine wp_region_any hm (wpAny_sink hz hd hg hzs h1 h2 ht _ _ _ _ ⟨by simp, ?_, ?_⟩ (by simp) (wpAny_of_held _ _ _ _ (h hS)))
  · intro j oj _ hl
    rw [getD_replicate_false] at hl
    cases hl
  · intro t _ ht
    simp [ht]
/-- One that is met by itself: what it comes to, and that S holds behind it. -/
theorem wpAnyH_one {i : Nat} {o : Oper} {S : World → Prop} {fuel : Nat} {listed : Array Bool} {a : Act} {w : World} (hr : Region.ready md ops listed = [i]) (hi : ops[i]? = some o) (hg : o.guard = none)
    (h : o.wp P a w (fun a' w' => S w' ∧ wpAnyH P md ops Q S fuel (listed.setIfInBounds i true) a' w') Q) : wpAnyH P md ops Q S (fuel + 1) listed a w := by
  refine wpAnyH_all hr (by simp) ?_
  intro j hj
  simp only [List.mem_singleton] at hj
  subst hj
  unfold wpOp
  rw [hi]
  simp only [Region.wanted, hg, if_true]
  exact .inl h
theorem Oper.wp_enter {o : Oper} {a : Act} {w : World} {K : Act → World → Prop} {f : FuncId} {vals : Array Value} {R : Ending → World → Prop} (hop : (execOp a.eval o).run P w = .ok (.enter f vals) w) (hc : Calls P f vals w R)
    (h : ∀ e w', R e w' → ∃ v, e = .returned v ∧ K (a.put o.dst v) w') : o.wp P a w K Q := by
  unfold Oper.wp
  rw [hop, Oper.upon_enter]
  refine hc.mono ?_
  intro e w' hr
  obtain ⟨v, rfl, hk⟩ := h e w' hr
  exact hk
/-- A call that is met by itself, by its contract. -/
theorem wpAnyH_enter {i : Nat} {o : Oper} {S : World → Prop} {fuel : Nat} {listed : Array Bool} {a : Act} {w : World} {f : FuncId} {vals : Array Value} {R : Ending → World → Prop} (hr : Region.ready md ops listed = [i]) (hi : ops[i]? = some o) (hg : o.guard = none)
    (hop : (execOp a.eval o).run P w = .ok (.enter f vals) w) (hc : Calls P f vals w R)
    (h : ∀ e w', R e w' → ∃ v, e = .returned v ∧ S w' ∧ wpAnyH P md ops Q S fuel (listed.setIfInBounds i true) (a.put o.dst v) w') : wpAnyH P md ops Q S (fuel + 1) listed a w :=
  wpAnyH_one hr hi hg (Oper.wp_enter hop hc h)
/-- A row, a segment of it written over. -/
def segSet (cur : Array Value) (o : Nat) (vs : List Value) : Array Value := (cur.toList.take o ++ vs ++ cur.toList.drop (o + vs.length)).toArray
theorem run_storeVar_seg (w : World) (g o : Nat) (t ty : TypeId) (cur cells : Array Value) (hg : w.heap[g]? = some (.cells cur t (0, 0))) (hi : (P.info? ty).map (·.size) = some cells.size)
    (ho : o + cells.size ≤ cur.size) (h1 : cells.all (·.oneCell') = true) :
    (storeVar ty ⟨g, o, none⟩ (.agg cells)).run P w = .ok () (w.setRow g (segSet cur o cells.toList)) := by
  have := run_storeCells_at P g o t cells.toList 0 cur w hg (by simpa using ho) (fun v hv => (Array.all_eq_true_iff_forall_mem.1 h1) v (by simpa using hv))
  cases hq : P.info? ty with
  | none => simp [hq] at hi
  | some i =>
    have hs : cells.size = i.size := by simp [hq] at hi; omega
    simp [storeVar, sizeOf, typeInfo, hq, Value.cells, hs, this, segSet]
theorem wp_store_seg {op : Oper} {a : Act} {w : World} {K : Act → World → Prop} (ty : TypeId) (x y : Operand) (hop : op.op = .store ty x y)
    (g o : Nat) (cells : Array Value) (hx : a.eval x = .pointer (some ⟨g, o, none⟩)) (hy : a.eval y = .agg cells)
    (t : TypeId) (cur : Array Value) (hg : w.heap[g]? = some (.cells cur t (0, 0))) (hi : (P.info? ty).map (·.size) = some cells.size)
    (ho : o + cells.size ≤ cur.size) (h1 : cells.all (·.oneCell') = true)
    (h : K (a.put op.dst undef) (w.setRow g (segSet cur o cells.toList))) : op.wp P a w K Q := by
  unfold Oper.wp execOp
  simp only [hop, hx, hy, Instr.storeAt, Instr.sureAddr, Sem.run_bind, Sem.run_pure, Result.andThen_ok, run_storeVar_seg w g o t ty cur cells hg hi ho h1]
  exact h
theorem wpList_store_seg {rest : List Oper} {op : Oper} {a : Act} {w : World} (hgd : op.guard = none) (ty : TypeId) (x y : Operand) (hop : op.op = .store ty x y)
    (g o : Nat) (cells : Array Value) (hx : a.eval x = .pointer (some ⟨g, o, none⟩)) (hy : a.eval y = .agg cells)
    (t : TypeId) (cur : Array Value) (hg : w.heap[g]? = some (.cells cur t (0, 0))) (hi : (P.info? ty).map (·.size) = some cells.size)
    (ho : o + cells.size ≤ cur.size) (h1 : cells.all (·.oneCell') = true)
    (h : wpList P ops Q rest (a.put op.dst undef) (w.setRow g (segSet cur o cells.toList))) : wpList P ops Q (op :: rest) a w :=
  wpList_plain hgd fun _ hK => wp_store_seg ty x y hop g o cells hx hy t cur hg hi ho h1 (hK _ _ h)
end
end Go
