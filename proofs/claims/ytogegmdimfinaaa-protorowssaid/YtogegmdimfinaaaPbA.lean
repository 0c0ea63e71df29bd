/- Bytes behind bytes, and where they lie; a message stays while bytes elsewhere are written. -/
import Derived.Test.YtogegmdimfinaaaPbQ
import Derived.Test.YtogegmdimfinaaaPbR
import Derived.Maps.AppendAt
namespace Go.Proofs.Ytogegmdimfinaaa
open Go.RowKit
set_option maxRecDepth 100000 in
theorem append_at {w : World} {base : Nat} {v sv : Value} {l m : List Nat} (ty : TypeId) (h : Own w base v l) (hs : BsAt w sv m) (hn : l.length + m.length ≤ 1000000000000) (hb : base ≤ w.heap.size) :
    ∃ v' w', (Builtin.append_ #[30, 30] ty #[v, sv]).run Try.prog w = .ok v' w' ∧ Own w' base v' (l ++ m) ∧ w.grownBy w' v.ownBlock ∧ (v'.ownBlock = v.ownBlock ∨ v'.ownBlock = some w.heap.size) := by
  obtain ⟨i0, hi, hz0, hz1, hz2⟩ := info5_parts
  have hmlim := hs.lim
  obtain ⟨b, o, c, ao, rfl, hc, hmax, _, hh⟩ := hs
  cases ao with
  | none =>
    have h0 : m = [] := by
      cases m with
      | nil => rfl
      | cons x t => obtain ⟨e, _⟩ := hh (by simp); cases e
    subst h0
    refine ⟨v, w, ?_, by rw [List.append_nil]; exact h, grown_refl w _, .inl rfl⟩
    rcases h.row.2 with ⟨rfl, _⟩ | ⟨g, cap, cur, rfl, _, _, hnc, _⟩
    · simp [Builtin.append_, run_underlying und22, sizeOf, typeInfo, hi, Builtin.lenOf, Builtin.firstCells]
    · simp [Builtin.append_, run_underlying und22, sizeOf, typeInfo, hi, Builtin.lenOf, Builtin.firstCells, hnc, storeCells]
  | some ad =>
    obtain ⟨v', w', hr, h1, h2, _, h4⟩ := run_append_own_at (P := Try.prog) w base 30 ty 5 i0 (.int .u8 0) 1 1 und22 hi hz0 hz1 hz2 rfl (by decide) v l.length (nv l) h.row ad m.length c (nv m) (by simp [nv]) (by
      intro j u hu
      have hj : j < m.length := by
        have := (List.getElem?_eq_some_iff.1 hu).1
        rwa [nv_len] at this
      have hne : m ≠ [] := fun e => by subst e; simp at hj
      obtain ⟨e1, _, hr⟩ := hh hne
      injection e1 with e1
      subst e1
      rw [Addr.add_mid, hr j hj, ← nv_get m j hj, hu]) (by
      intro u hu
      obtain ⟨x, _, rfl⟩ := List.mem_map.1 hu
      rfl) (by unfold maxLen; omega) (by omega) hb
    exact ⟨v', w', hr, ⟨by rw [List.length_append, show nv (l ++ m) = nv l ++ nv m by simp [nv]]; exact h1, getD_append_lim h.lim hmlim⟩, h2, h4⟩
/-- Bytes behind bytes, at a region's list, and where they lie. -/
theorem wpList_append_at {ops : Array Oper} {rest : List Oper} {o : Oper} {a : Act} {w : World} {Q : Exit → Act → World → Prop} (hgd : o.guard = none) (s x : Operand) (ho : o.op = .call { callee := .builtin .append, args := #[s, x], argTypes := #[30, 30] })
    {base : Nat} {l m : List Nat} (h : Own w base (a.eval s) l) (hs : BsAt w (a.eval x) m) (hn : l.length + m.length ≤ 1000000000000) (hb : base ≤ w.heap.size)
    (hk : ∀ v' w', Own w' base v' (l ++ m) → w.grownBy w' (a.eval s).ownBlock → (v'.ownBlock = (a.eval s).ownBlock ∨ v'.ownBlock = some w.heap.size) → wpList Try.prog ops Q rest (a.put o.dst v') w') : wpList Try.prog ops Q (o :: rest) a w := by
  refine wpList_plain hgd fun K hK => ?_
  obtain ⟨v', w', hr, h1, h2, h3⟩ := append_at o.type h hs hn hb
  exact Oper.wp_value (run_op_append ho hr) (hK _ _ (hk v' w' h1 h2 h3))
/-- Blocks other than a value's own. -/
def notOf (v : Value) : Nat → Prop := fun k => some k ≠ v.ownBlock
theorem msg_append {w w' : World} {v v' : Value} {g base : Nat} {l : List Nat} {bs : List (List Nat)} (hM : MAtX w (notOf v) g bs) (hO : Own w base v l) (hg : w.grownBy w' v.ownBlock) (hat : v'.ownBlock = v.ownBlock ∨ v'.ownBlock = some w.heap.size) : MAtX w' (notOf v') g bs := by
  have h1 : MAtX w (fun k => notOf v k ∧ k < w.heap.size) g bs := hM.mono fun k hk h => ⟨h, hk⟩
  have h2 := h1.away hg (off_row hO.row (by decide)) (off_row hO.row (by decide)) (fun k hk => hk.1)
  refine h2.mono fun k _ hk => ?_
  show some k ≠ v'.ownBlock
  rcases hat with e | e
  · rw [e]; exact hk.1
  · rw [e]; intro e2; injection e2 with e2; omega
theorem not_fresh {w : World} {v : Value} {base : Nat} {l : List Nat} (hO : Own w base v l) : ∀ k, w.heap.size ≤ k → notOf v k := fun k hk e => by
  have := (hO.row.lt k e.symm).2
  omega
theorem PuAt.read {W : World} {b o : Nat} {p : Pu} (h : PuAt W b o p) (hb : b < W.heap.size) :
    ∃ bv, BsAt W bv p.b ∧ ((-9223372036854775808 ≤ p.num ∧ p.num ≤ 9223372036854775807) ∧ p.n < 18446744073709551616 ∧ p.b.length ≤ 140737488351232) ∧
      ∀ w, Below W.heap.size W w → w.cell? ⟨b, o, none⟩ = some (.int .i64 p.num) ∧ w.cell? ⟨b, o + 1, none⟩ = some (.bool p.whole) ∧ w.cell? ⟨b, o + 2, none⟩ = some (.int .u64 (p.n : Int)) ∧ w.cell? ⟨b, o + 3, none⟩ = some bv := by
  obtain ⟨bv, c0, c1, c2, c3, c4, c5⟩ := h
  exact ⟨bv, c4, c5, fun w he => ⟨(Below.cell (p := ⟨b, o, none⟩) he hb).trans c0, (Below.cell (p := ⟨b, o + 1, none⟩) he hb).trans c1, (Below.cell (p := ⟨b, o + 2, none⟩) he hb).trans c2, (Below.cell (p := ⟨b, o + 3, none⟩) he hb).trans c3⟩⟩
end Go.Proofs.Ytogegmdimfinaaa
