/- Single bytes of slices, and slices of slices, as what operations give. -/
import Derived.Test.YtogegmdimfinaaaApp
namespace Go.Proofs.Ytogegmdimfinaaa
open Go.RowKit
/-- Where a byte lies. -/
def isp (x : Nat) : STy := ⟨fun w v => ∃ b o, v = .pointer (some ⟨b, o, none⟩) ∧ b < w.heap.size ∧ w.cell? ⟨b, o, none⟩ = some (.int .u8 (x : Int)),
  fun hx ⟨b, o, h1, h2, h3⟩ => ⟨b, o, h1, Nat.lt_of_lt_of_le h2 (Below.size hx), (Below.cell (p := ⟨b, o, none⟩) hx h2).trans h3⟩⟩
theorem run_ix (w : World) (b o n c k : Nat) (hk : k < n) : (Instr.indexAt 30 (.slice (some ⟨b, o, none⟩) n c) (.int .i64 (k : Int))).run Try.prog w = .ok (.pointer (some ⟨b, o + k, none⟩)) w := by
  have h1 : decide ((k : Int) < 0) = false := decide_eq_false (by omega)
  have h2 : ¬ ((n : Int) ≤ (k : Int)) := by omega
  go_simp
theorem run_sl (w : World) (b o n c i j : Nat) (hij : i ≤ j) (hj : j ≤ c) (hi : i < c) : (Instr.sliceAt 30 (.slice (some ⟨b, o, none⟩) n c) (some (.int .i64 (i : Int))) (some (.int .i64 (j : Int))) none).run Try.prog w = .ok (.slice (some ⟨b, o + i, none⟩) (j - i) (c - i)) w := by
  have h1 : ¬ ((i : Int) < 0) := by omega
  have h2 : ¬ ((j : Int) < 0) := by omega
  have h3 : ¬ ((c : Int) < (j : Int)) := by omega
  have h4 : ¬ ((j : Int) < (i : Int)) := by omega
  have h5 : ¬ (c = i) := by omega
  go_simp
section
variable {ops : Array Oper} {Q : Exit → Act → World → Prop} {o : Oper} {T : STy} {a : Act} {w : World}
theorem g_ixb (hw : Region.wanted o (yielded ops a.tmps) = true) {x y : Operand} {l : List Nat} (k : Nat) {v : Nat} (ho : o.op = .indexAddr 30 x y) (hy : a.eval y = .int .i64 (k : Int)) (h : BsAt w (a.eval x) l) (hk : k < l.length) (hv : l.getD k 0 = v) : Gives Try.prog ops Q o (isp v) a w := by
  obtain ⟨b, of, c, ao, e, hc, hm, _, hh⟩ := h
  obtain ⟨rfl, hb, hr⟩ := hh (fun e => by subst e; simp at hk)
  refine g_run hw (v := .pointer (some ⟨b, of + k, none⟩)) ?_ (Ext.refl w) ⟨b, of + k, rfl, hb, by rw [hr k hk, hv]⟩
  unfold execOp
  simp only [ho, e, hy]
  rw [Sem.run_bind, run_ix w b of l.length c k hk]
  rfl
theorem g_ldb (hw : Region.wanted o (yielded ops a.tmps) = true) {x : Operand} {v : Nat} (ho : o.op = .load 5 x) (h : (isp v).p w (a.eval x)) (ht : T.p w (.int .u8 (v : Int))) : Gives Try.prog ops Q o T a w := by
  obtain ⟨b, of, e, hb, hc⟩ := h
  refine g_run hw (v := .int .u8 (v : Int)) ?_ (Ext.refl w) ht
  unfold execOp
  simp only [ho, e]
  go_simp
theorem BsAt.part {w : World} {b o c : Nat} {l : List Nat} (h : BsAt w (.slice (some ⟨b, o, none⟩) l.length c) l) {i j : Nat} (hij : i ≤ j) (hj : j ≤ l.length) : BsAt w (.slice (some ⟨b, o + i, none⟩) (j - i) (c - i)) ((l.take j).drop i) := by
  obtain ⟨b', o', c', ao, e, hc, hm, hl, hh⟩ := h
  injection e with e1 e2 e3
  subst e3
  have hlen : ((l.take j).drop i).length = j - i := by simp; omega
  have hget : ∀ k, k < j - i → ((l.take j).drop i).getD k 0 = l.getD (i + k) 0 := fun k hk => by
    simp [List.getD_eq_getElem?_getD, show i + k < j by omega]
  refine ⟨b, o + i, c - i, _, by rw [hlen], by omega, by omega, fun k => ?_, fun hne => ?_⟩
  · by_cases hk : k < j - i
    · rw [hget k hk]; exact hl _
    · rw [List.getD_eq_getElem?_getD, List.getElem?_eq_none (by omega)]; decide
  · have hne' : l ≠ [] := fun e => by subst e; simp at hne
    obtain ⟨e4, hb, hr⟩ := hh hne'
    rw [← e1] at e4
    injection e4 with e4
    injection e4 with e5 e6 _
    subst e5 e6
    refine ⟨rfl, hb, fun k hk => ?_⟩
    rw [hlen] at hk
    rw [Nat.add_assoc, hr (i + k) (by omega), hget k hk]
theorem g_slb (hw : Region.wanted o (yielded ops a.tmps) = true) {x y z : Operand} {l : List Nat} (i j : Nat) (ho : o.op = .slice 30 x (some y) (some z) none) (hy : a.eval y = .int .i64 (i : Int)) (hz : a.eval z = .int .i64 (j : Int)) (h : BsAt w (a.eval x) l) (hij : i < j) (hj : j ≤ l.length) : Gives Try.prog ops Q o (isb ((l.take j).drop i)) a w := by
  have h' := h
  obtain ⟨b, of, c, ao, e, hc, hm, _, hh⟩ := h
  obtain ⟨rfl, hb, hr⟩ := hh (fun e => by subst e; simp at hj; omega)
  rw [e] at h'
  refine g_run hw (v := .slice (some ⟨b, of + i, none⟩) (j - i) (c - i)) ?_ (Ext.refl w) (h'.part (Nat.le_of_lt hij) hj)
  unfold execOp
  simp only [ho, e, Option.map_some, Option.map_none, hy, hz]
  rw [Sem.run_bind, run_sl w b of l.length c i j (Nat.le_of_lt hij) (by omega) (by omega)]
  rfl
end
theorem lim_all {l : List Nat} (h : l.all (fun x => decide (x < 256)) = true) : ∀ i, l.getD i 0 < 256 := fun i => by
  rw [List.getD_eq_getElem?_getD]
  cases hi : l[i]? with
  | none => decide
  | some x =>
    have := List.all_eq_true.1 h x (List.mem_of_getElem? hi)
    simpa using this
/-- New bytes, written out of values. -/
theorem g_news {ops : Array Oper} {Q : Exit → Act → World → Prop} {o : Oper} {a : Act} {w : World} (hw : Region.wanted o (yielded ops a.tmps) = true) {l : List Nat} {cs : Array Value} {n : Nat} (hl : ∀ i, l.getD i 0 < 256) (hm : l.length ≤ 1000000) (hn : l.length = n) (hc : ba l = cs)
    (hrun : (execOp a.eval o).run Try.prog w = .ok (.value (.slice (some ⟨w.heap.size, 0, none⟩) n n)) (w.alloc (.cells cs 5))) : Gives Try.prog ops Q o (isb l) a w := by
  subst hn hc
  exact g_new hw hl hm hrun
end Go.Proofs.Ytogegmdimfinaaa
