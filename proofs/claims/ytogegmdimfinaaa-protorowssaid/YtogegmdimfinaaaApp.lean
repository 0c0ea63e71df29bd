/- Bytes behind bytes of the call's own, and zeros behind them: append, as the model runs it, for bytes held as numbers. -/
import Derived.Test.YtogegmdimfinaaaTyB
import Derived.Lib.AppendStr
import Derived.Laws.OwnMore
import Derived.ArgAppend
import Derived.Lib.SlBytesConst
namespace Go.Proofs.Ytogegmdimfinaaa
open Go.RowKit
theorem und22 : Try.prog.underlying 30 = some (.slice 5) := by kernel_rfl
theorem info5 : (Try.prog.info? 5).map (fun i => (i.zero, i.size, i.bytes)) = some (some (.int .u8 0), 1, 1) := by kernel_rfl
theorem info5_parts : ∃ i, Try.prog.info? 5 = some i ∧ i.zero = some (.int .u8 0) ∧ i.size = 1 ∧ i.bytes = 1 := by
  have h := info5
  cases hi : Try.prog.info? 5 with
  | none => rw [hi] at h; cases h
  | some i =>
    rw [hi] at h
    simp only [Option.map_some, Option.some.injEq, Prod.mk.injEq] at h
    exact ⟨i, rfl, h.1, h.2.1, h.2.2⟩
/-- Bytes as values. -/
def nv (l : List Nat) : List Value := l.map fun (n : Nat) => Value.int .u8 (n : Int)
theorem nv_len (l : List Nat) : (nv l).length = l.length := by simp [nv]
theorem nv_get (l : List Nat) (j : Nat) (hj : j < l.length) : (nv l)[j]? = some (.int .u8 ((l.getD j 0 : Nat) : Int)) := by
  simp [nv, List.getD_eq_getElem?_getD, hj]
/-- Bytes in a block of the call's own. -/
structure Own (w : World) (base : Nat) (v : Value) (l : List Nat) : Prop where
  row : w.ownsRow base 5 1 v l.length (nv l)
  lim : ∀ i, l.getD i 0 < 256
theorem Own.at {w : World} {base : Nat} {v : Value} {l : List Nat} (h : Own w base v l) : BsAt w v l := by
  rcases h.row.2 with ⟨rfl, h0⟩ | ⟨g, cap, cur, rfl, hb, hr, hn, hm, _, ht⟩
  · have : l = [] := List.eq_nil_of_length_eq_zero h0
    subst this
    exact ⟨0, 0, 0, none, rfl, Nat.le_refl _, by unfold maxLen; omega, h.lim, fun h => absurd rfl h⟩
  · refine ⟨g, 0, cap, _, rfl, hn, hm, h.lim, fun _ => ⟨rfl, (Array.getElem?_eq_some_iff.1 hr).1, fun i hi => ?_⟩⟩
    rw [Nat.zero_add, h.row.cellAt i (by omega), nv_get l i hi]
theorem getD_append_lim {l m : List Nat} (hl : ∀ i, l.getD i 0 < 256) (hm : ∀ i, m.getD i 0 < 256) : ∀ i, (l ++ m).getD i 0 < 256 := fun i => by
  rw [List.getD_eq_getElem?_getD]
  rcases Nat.lt_or_ge i l.length with h | h
  · rw [List.getElem?_append_left h, ← List.getD_eq_getElem?_getD]; exact hl i
  · rw [List.getElem?_append_right h, ← List.getD_eq_getElem?_getD]; exact hm _
theorem zeros_lim (k : Nat) : ∀ i, (List.replicate k 0).getD i 0 < 256 := fun i => by
  rw [List.getD_eq_getElem?_getD, List.getElem?_replicate]
  split <;> decide
set_option maxRecDepth 100000 in
theorem append_run {w : World} {base : Nat} {v sv : Value} {l m : List Nat} (ty : TypeId) (h : Own w base v l) (hs : BsAt w sv m) (hn : l.length + m.length ≤ 1000000000000) (hb : base ≤ w.heap.size) :
    ∃ v' w', (Builtin.append_ #[30, 30] ty #[v, sv]).run Try.prog w = .ok v' w' ∧ Own w' base v' (l ++ m) ∧ w.grownBy w' v.ownBlock := by
  obtain ⟨i0, hi, hz0, hz1, hz2⟩ := info5_parts
  have hmlim := hs.lim
  obtain ⟨b, o, c, ao, rfl, hc, hmax, _, hh⟩ := hs
  cases ao with
  | none =>
    have h0 : m = [] := by
      cases m with
      | nil => rfl
      | cons x t => obtain ⟨e, _⟩ := hh (by simp); cases e
    subst h0
    refine ⟨v, w, ?_, by rw [List.append_nil]; exact h, grown_refl w _⟩
    rcases h.row.2 with ⟨rfl, _⟩ | ⟨g, cap, cur, rfl, _, _, hnc, _⟩
    · simp [Builtin.append_, run_underlying und22, sizeOf, typeInfo, hi, Builtin.lenOf, Builtin.firstCells]
    · simp [Builtin.append_, run_underlying und22, sizeOf, typeInfo, hi, Builtin.lenOf, Builtin.firstCells, hnc, storeCells]
  | some ad =>
    obtain ⟨v', w', hr, h1, h2, _⟩ := run_append_own (P := Try.prog) w base 30 ty 5 i0 (.int .u8 0) 1 1 und22 hi hz0 hz1 hz2 rfl (by decide) v l.length (nv l) h.row ad m.length c (nv m) (by simp [nv]) (by
      intro j u hu
      have hj : j < m.length := by
        have := (List.getElem?_eq_some_iff.1 hu).1
        rwa [nv_len] at this
      have hne : m ≠ [] := fun e => by subst e; simp at hj
      obtain ⟨e1, _, hr⟩ := hh hne
      injection e1 with e1
      subst e1
      rw [Addr.add_mid, hr j hj, ← nv_get m j hj, hu]) (by
      intro u hu
      obtain ⟨x, _, rfl⟩ := List.mem_map.1 hu
      rfl) (by unfold maxLen; omega) (by omega) hb
    exact ⟨v', w', hr, ⟨by rw [List.length_append, show nv (l ++ m) = nv l ++ nv m by simp [nv]]; exact h1, getD_append_lim h.lim hmlim⟩, h2⟩
/-- Zeros. -/
def zz (k : Nat) : List Nat := List.replicate k 0
theorem zz_len (k : Nat) : (zz k).length = k := by simp [zz]
/-- Zeros as a string, and as values. -/
def zst (k : Nat) : ByteArray := ⟨(List.replicate k (0 : UInt8)).toArray⟩
theorem zst_size (k : Nat) : (zst k).size = k := by simp [zst, ByteArray.size]
theorem zeros_cells (k : Nat) : Builtin.zeroCells (Value.int .u8 0).cells k = (nv (List.replicate k 0)).toArray := by
  unfold Builtin.zeroCells nv
  refine Array.ext (by simp [Value.cells]) fun i h1 h2 => ?_
  simp [Value.cells, Nat.mod_one]
theorem zst_cells (k : Nat) : Lib.strCells (zst k) = nv (List.replicate k 0) := by
  unfold Lib.strCells nv zst
  refine List.ext_getElem? fun i => ?_
  simp
theorem zst_first (k : Nat) (w : World) : (Builtin.firstCells 1 k (.string (zst k))).run Try.prog w = .ok (nv (List.replicate k 0)).toArray w := by
  have h := Lib.run_firstCells_string (P := Try.prog) w 1 (zst k)
  rw [zst_cells, zst_size] at h
  exact h
theorem run_zeros (ty : TypeId) (b : Option Addr) (k n cap : Nat) (w : World) (hn : n + k ≤ 1000000000000) (hk0 : ¬ k = 0) :
    (Builtin.append_ #[30, 3] ty #[.slice b n cap, .int .i64 (k : Int)]).run Try.prog w = (Builtin.append_ #[30, 9] ty #[.slice b n cap, .string (zst k)]).run Try.prog w := by
  obtain ⟨i0, hi, hz0, hz1, hz2⟩ := info5_parts
  have h8 : IntKind.i64.wrap (k : Int) = (k : Int) := by rw [IntKind.wrap_i64]; omega
  have hk : ¬ ((k : Int) < 0) := by omega
  have hk2 : ¬ (281474976710656 < (k : Int)) := by omega
  have hk3 : ¬ (9223372036854775807 < (n : Int) + (k : Int)) := by omega
  by_cases hroom : n + k ≤ cap
  · simp [Builtin.append_, run_underlying und22, run_underlying Try.underlying3, run_underlying Try.underlying9, sizeOf, typeInfo, hi, hz0, hz1, hz2, zeroValue, Builtin.lenOf, zst_size, hroom, zeros_cells, zst_first, asInt, asIntOf, h8, hk, hk0, hk2]
  · have h48 : ¬ (281474976710656 < Builtin.nextslicecap (n + k) cap) := by
      have := nextslicecap_le (need := n + k) (old := cap) (by omega)
      omega
    simp [Builtin.append_, run_underlying und22, run_underlying Try.underlying3, run_underlying Try.underlying9, sizeOf, typeInfo, hi, hz0, hz1, hz2, zeroValue, Builtin.lenOf, zst_size, hroom, zeros_cells, zst_first, asInt, asIntOf, h8, h48, hk, hk0, hk2, hk3]
theorem zeros_run {w : World} {base : Nat} {v : Value} {l : List Nat} (ty : TypeId) (k : Nat) (hk0 : ¬ k = 0) (h : Own w base v l) (hn : l.length + k ≤ 1000000000000) (hb : base ≤ w.heap.size) :
    ∃ v' w', (Builtin.append_ #[30, 3] ty #[v, .int .i64 (k : Int)]).run Try.prog w = .ok v' w' ∧ Own w' base v' (l ++ zz k) ∧ w.grownBy w' v.ownBlock := by
  obtain ⟨i0, hi, hz0, hz1, hz2⟩ := info5_parts
  obtain ⟨v', w', hr, h2, h3, _⟩ := Lib.run_append_own_string (P := Try.prog) w base 30 9 ty 5 i0 und22 Try.underlying9 hi hz0 hz1 hz2 v l.length (nv l) h.row (zst k) (by rw [zst_size]; unfold maxLen; omega) (by rw [zst_size]; omega) hb
  have hv : ∃ b cap, v = .slice b l.length cap := by
    rcases h.row.2 with ⟨rfl, h0⟩ | ⟨g, c, cur, rfl, _⟩
    · exact ⟨_, _, by rw [h0]⟩
    · exact ⟨_, _, rfl⟩
  obtain ⟨b, cap, rfl⟩ := hv
  refine ⟨v', w', by rw [run_zeros _ _ _ _ _ _ hn hk0]; exact hr, ⟨?_, getD_append_lim h.lim (zeros_lim k)⟩, h3⟩
  rw [zst_size, zst_cells] at h2
  rw [List.length_append, zz_len, show nv (l ++ zz k) = nv l ++ nv (List.replicate k 0) by simp [nv, zz]]
  exact h2
theorem run_op_append {P : Program} {o : Oper} {a : Act} {w w' : World} {v' : Value} {s x : Operand} {ts : Array TypeId} (ho : o.op = .call { callee := .builtin .append, args := #[s, x], argTypes := ts }) (hr : (Builtin.append_ ts o.type #[a.eval s, a.eval x]).run P w = .ok v' w') : (execOp a.eval o).run P w = .ok (.value v') w' := by
  unfold execOp
  simp only [ho, resolve, invoke, builtin, Sem.run_bind, Sem.run_pure, Result.andThen_ok, List.map_toArray, List.map_cons, List.map_nil, hr]
/-- Bytes behind bytes, at a region's list. -/
theorem wpList_append_b {ops : Array Oper} {rest : List Oper} {o : Oper} {a : Act} {w : World} {Q : Exit → Act → World → Prop} (hgd : o.guard = none) (s x : Operand) (ho : o.op = .call { callee := .builtin .append, args := #[s, x], argTypes := #[30, 30] })
    {base : Nat} {l m : List Nat} (h : Own w base (a.eval s) l) (hs : BsAt w (a.eval x) m) (hn : l.length + m.length ≤ 1000000000000) (hb : base ≤ w.heap.size)
    (hk : ∀ v' w', Own w' base v' (l ++ m) → w.grownBy w' (a.eval s).ownBlock → wpList Try.prog ops Q rest (a.put o.dst v') w') : wpList Try.prog ops Q (o :: rest) a w := by
  refine wpList_plain hgd fun K hK => ?_
  obtain ⟨v', w', hr, h1, h2⟩ := append_run o.type h hs hn hb
  exact Oper.wp_value (run_op_append ho hr) (hK _ _ (hk v' w' h1 h2))
theorem wpList_append_z {ops : Array Oper} {rest : List Oper} {o : Oper} {a : Act} {w : World} {Q : Exit → Act → World → Prop} (hgd : o.guard = none) (k : Nat) (hk0 : ¬ k = 0) (s x : Operand) (ho : o.op = .call { callee := .builtin .append, args := #[s, x], argTypes := #[30, 3] }) (hx : a.eval x = .int .i64 (k : Int))
    {base : Nat} {l : List Nat} (h : Own w base (a.eval s) l) (hn : l.length + k ≤ 1000000000000) (hb : base ≤ w.heap.size)
    (hk : ∀ v' w', Own w' base v' (l ++ zz k) → w.grownBy w' (a.eval s).ownBlock → wpList Try.prog ops Q rest (a.put o.dst v') w') : wpList Try.prog ops Q (o :: rest) a w := by
  refine wpList_plain hgd fun K hK => ?_
  obtain ⟨v', w', hr, h1, h2⟩ := zeros_run o.type k hk0 h hn hb
  exact Oper.wp_value (run_op_append ho (by rw [hx]; exact hr)) (hK _ _ (hk v' w' h1 h2))
/-- New bytes are the call's own. -/
theorem own_lit {w : World} (l : List Nat) (hl : ∀ i, l.getD i 0 < 256) (hm : l.length ≤ maxLen) : Own (w.alloc (.cells (ba l) 5)) w.heap.size (.slice (some ⟨w.heap.size, 0, none⟩) l.length l.length) l :=
  ⟨by
    have := World.ownsRow_lit (base := w.heap.size) (e := 5) (size := 1) w (ba l) l.length (Nat.le_refl _) hm (by simp [ba])
    rw [show nv l = (ba l).toList by simp [nv, ba]]
    exact this, hl⟩
theorem Own.ext {w w' : World} {base : Nat} {v : Value} {l : List Nat} (h : Own w base v l) (he : Below w.heap.size w w') : Own w' base v l :=
  ⟨⟨h.row.1, by
    rcases h.row.2 with h1 | ⟨g, cap, cur, hv, hb, hr, hn⟩
    · exact .inl h1
    · exact .inr ⟨g, cap, cur, hv, hb, (he.block g (Array.getElem?_eq_some_iff.1 hr).1).trans hr, hn⟩⟩, h.lim⟩
set_option maxRecDepth 100000 in
/-- Zeros behind bytes that have no room behind them: in new memory. -/
theorem zeros_grow {w : World} {ad : Addr} {n cap : Nat} {l : List Nat} (ty : TypeId) (k : Nat) (hk0 : ¬ k = 0) (h : BsAt w (.slice (some ad) n cap) l) (hg : cap < n + k) (hn : n + k ≤ 1000000000000) :
    ∃ v' w', (Builtin.append_ #[30, 3] ty #[.slice (some ad) n cap, .int .i64 (k : Int)]).run Try.prog w = .ok v' w' ∧ Own w' w.heap.size v' (l ++ zz k) ∧ w.grownBy w' none := by
  obtain ⟨i0, hi, hz0, hz1, hz2⟩ := info5_parts
  have hlim := h.lim
  obtain ⟨b, o, c, ao, e, hc, hm, _, hh⟩ := h
  injection e with e1 e2 e3
  subst e2 e3
  have holds : ∀ j v, (nv l)[j]? = some v → w.cell? (ad.add j) = some v := by
    intro j u hu
    have hj : j < l.length := by
      have := (List.getElem?_eq_some_iff.1 hu).1
      rwa [nv_len] at this
    obtain ⟨e4, _, hr⟩ := hh (fun e => by subst e; simp at hj)
    rw [← e1] at e4
    injection e4 with e4
    subst e4
    rw [Addr.add_mid, hr j hj, ← nv_get l j hj, hu]
  have hr := Lib.run_append_grow_string (P := Try.prog) w 30 9 ty 5 i0 (.int .u8 0) und22 Try.underlying9 hi hz0 ad l.length cap (nv l) (by rw [hz1, nv_len, Nat.mul_one]) holds (zst k) (by rw [zst_size]; exact hg) (by rw [zst_size]; omega) (growslice_fits (by rw [zst_size]; exact hg) (by rw [zst_size, hz2]; omega))
  rw [zst_size, zst_cells] at hr
  have hge := grownCap_ge w (l.length + k) cap 5
  have hcm : grownCap w (l.length + k) cap 5 ≤ maxLen := grownCap_le_maxLen w (l.length + k) cap 5 (by unfold maxLen; omega)
  refine ⟨_, _, (run_zeros ty _ k _ cap w hn hk0).trans hr, ⟨⟨by simp [nv], .inr ⟨w.heap.size, _, _, by rw [List.length_append, zz_len], Nat.le_refl _, heap_alloc_new w.drew _, by rw [List.length_append, zz_len]; exact hge, hcm, ?_, ?_⟩⟩, getD_append_lim hlim (zeros_lim k)⟩, ⟨rfl, rfl, rfl, by simp, fun k hk _ => Below.heap_alloc w.drew _ k hk⟩⟩
  · simp only [Array.size_append, List.size_toArray, size_zeroCells, nv_len, List.length_replicate]
    simp [Value.cells]
    omega
  · simp only [Array.toList_append, List.append_assoc]
    rw [← List.append_assoc, show nv l ++ nv (List.replicate k 0) = nv (l ++ zz k) by simp [nv, zz], Nat.mul_one, ← nv_len (l ++ zz k)]
    exact List.take_left
set_option maxRecDepth 100000 in
/-- Bytes behind bytes that have no room behind them: in new memory. -/
theorem append_grow {w : World} {ad : Addr} {n cap : Nat} {sv : Value} {l m : List Nat} (ty : TypeId) (h : BsAt w (.slice (some ad) n cap) l) (hs : BsAt w sv m) (hm0 : 0 < m.length) (hg : cap < n + m.length) (hn : n + m.length ≤ 1000000000000) :
    ∃ v' w', (Builtin.append_ #[30, 30] ty #[.slice (some ad) n cap, sv]).run Try.prog w = .ok v' w' ∧ Own w' w.heap.size v' (l ++ m) ∧ w.grownBy w' none := by
  obtain ⟨i0, hi, hz0, hz1, hz2⟩ := info5_parts
  have hlim := h.lim
  have hmlim := hs.lim
  obtain ⟨b, o, c, ao, e, hc, hm, _, hh⟩ := h
  injection e with e1 e2 e3
  subst e2 e3
  obtain ⟨b', o', c', ao', rfl, hc', hm', _, hh'⟩ := hs
  obtain ⟨rfl, _, hr'⟩ := hh' (fun e => by subst e; simp at hm0)
  obtain ⟨v', w', hr, h1, h2⟩ := run_append_arg_grows (P := Try.prog) w 30 ty 5 i0 (.int .u8 0) 1 1 und22 hi hz0 hz1 hz2 rfl (by decide) ad l.length cap (nv l) (by simp [nv]) (by
    intro j u hu
    have hj : j < l.length := by
      have := (List.getElem?_eq_some_iff.1 hu).1
      rwa [nv_len] at this
    obtain ⟨e4, _, hr⟩ := hh (fun e => by subst e; simp at hj)
    rw [← e1] at e4
    injection e4 with e4
    subst e4
    rw [Addr.add_mid, hr j hj, ← nv_get l j hj, hu]) ⟨b', o', none⟩ m.length c' (nv m) (by simp [nv]) (by
    intro j u hu
    have hj : j < m.length := by
      have := (List.getElem?_eq_some_iff.1 hu).1
      rwa [nv_len] at this
    rw [Addr.add_mid, hr' j hj, ← nv_get m j hj, hu]) hg (by unfold maxLen; omega) (by omega)
  exact ⟨v', w', hr, ⟨by rw [List.length_append, show nv (l ++ m) = nv l ++ nv m by simp [nv]]; exact h1, getD_append_lim hlim hmlim⟩, h2⟩
theorem wpList_append_zg {ops : Array Oper} {rest : List Oper} {o : Oper} {a : Act} {w : World} {Q : Exit → Act → World → Prop} (hgd : o.guard = none) (k : Nat) (hk0 : ¬ k = 0) (s x : Operand) (ho : o.op = .call { callee := .builtin .append, args := #[s, x], argTypes := #[30, 3] }) (hx : a.eval x = .int .i64 (k : Int))
    {ad : Addr} {n cap : Nat} {l : List Nat} (hs : a.eval s = .slice (some ad) n cap) (h : BsAt w (.slice (some ad) n cap) l) (hg : cap < n + k) (hn : n + k ≤ 1000000000000)
    (hk : ∀ v' w', Own w' w.heap.size v' (l ++ zz k) → w.grownBy w' none → wpList Try.prog ops Q rest (a.put o.dst v') w') : wpList Try.prog ops Q (o :: rest) a w := by
  refine wpList_plain hgd fun K hK => ?_
  obtain ⟨v', w', hr, h1, h2⟩ := zeros_grow o.type k hk0 h hg hn
  exact Oper.wp_value (run_op_append ho (by rw [hx, hs]; exact hr)) (hK _ _ (hk v' w' h1 h2))
/-- New bytes with a mark behind them (a constant text's). -/
theorem marked_at {w : World} (l : List Nat) (hl : ∀ i, l.getD i 0 < 256) (hm : l.length ≤ maxLen) (fr : Nat × Nat) : BsAt (w.alloc (.cells (ba l) 5 fr)) (.slice (some ⟨w.heap.size, 0, none⟩) l.length l.length) l := by
  refine ⟨w.heap.size, 0, l.length, _, rfl, Nat.le_refl _, hm, hl, fun _ => ⟨rfl, by simp, fun i hi => ?_⟩⟩
  rw [Nat.zero_add, cell_of_row _ _ _ (ba l) 5 fr (heap_alloc_new w _), ba_get l i hi]
/-- New bytes, as an operation gives them. -/
theorem g_new {ops : Array Oper} {Q : Exit → Act → World → Prop} {o : Oper} {a : Act} {w : World} (hw : Region.wanted o (yielded ops a.tmps) = true) {l : List Nat} (hl : ∀ i, l.getD i 0 < 256) (hm : l.length ≤ 1000000)
    (hrun : (execOp a.eval o).run Try.prog w = .ok (.value (.slice (some ⟨w.heap.size, 0, none⟩) l.length l.length)) (w.alloc (.cells (ba l) 5))) : Gives Try.prog ops Q o (isb l) a w :=
  g_run hw hrun ((Below.refl _ _).alloc (Nat.le_refl _) _) (own_lit l hl (by unfold maxLen; omega)).at
end Go.Proofs.Ytogegmdimfinaaa
