/- Bytes behind bytes within a region: what is the region's own, and what was there before it. -/
import Derived.Test.YtobgimpkkjaolaaGreatDoorMb
import Derived.Test.YtobgimpkkjaolaaGreatDoorTyX
namespace Go.Proofs.YtobgimpkkjaolaaGreatDoor
open Go.RowKit
/-- Bytes that were there before the region. -/
def oldb (w0 : World) (l : List Nat) : STy := ⟨fun w v => BsAt w0 v l ∧ Below w0.heap.size w0 w, fun hx h => ⟨h.1, Below.trans h.2 (Below.mono hx (Below.size h.2))⟩⟩
theorem old_at {w0 w : World} {l : List Nat} {v : Value} (h : (oldb w0 l).p w v) : BsAt w v l := h.1.ext h.2
theorem old_mk {w0 : World} {l : List Nat} {v : Value} (h : BsAt w0 v l) : (oldb w0 l).p w0 v := ⟨h, Below.refl _ _⟩
/-- Bytes in a block of the region's own. -/
def ownb (B : Nat) (l : List Nat) : STy := ⟨fun w v => Own w B v l, fun hx h => h.ext hx⟩
theorem own_at {B : Nat} {w : World} {l : List Nat} {v : Value} (h : (ownb B l).p w v) : BsAt w v l := Own.at h
def OldTy (B : Nat) (T : STy) : Prop := ∀ w w' v, Below B w w' → T.p w v → T.p w' v
theorem old_old (w0 : World) (l : List Nat) : OldTy w0.heap.size (oldb w0 l) := fun _ _ _ hb h => ⟨h.1, Below.trans h.2 hb⟩
theorem old_isv (B : Nat) (x : Value) : OldTy B (isv x) := fun _ _ _ _ h => h
theorem Own.base {w : World} {B C : Nat} {v : Value} {l : List Nat} (h : Own w B v l) (hb : C ≤ B) : Own w C v l :=
  ⟨⟨h.row.1, by
    rcases h.row.2 with h1 | ⟨g, cap, cur, hv, h2, hr⟩
    · exact .inl h1
    · exact .inr ⟨g, cap, cur, hv, Nat.le_trans hb h2, hr⟩⟩, h.lim⟩
section
variable {ops : Array Oper} {Q : Exit → Act → World → Prop} {o : Oper} {T : STy} {a : Act} {w w0 : World}
theorem g_own0 (hw : Region.wanted o (yielded ops a.tmps) = true) (ho : o.op = .buildSlice 22 0 #[]) (hx : Ext w0 w) : Gives Tryz.prog ops Q o (ownb w0.heap.size []) a w := by
  refine g_run hw (v := .slice (some ⟨w.heap.size, 0, none⟩) 0 0) (w' := w.alloc (.cells #[] 5)) ?_ ((Below.refl _ _).alloc (Nat.le_refl _) _) (Own.base (own_lit [] (by simp) (by simp)) (Below.size hx))
  unfold execOp
  rw [ho]
  kernel_rfl
theorem g_appw (hw : Region.wanted o (yielded ops a.tmps) = true) {s x : Operand} {l m : List Nat} (ho : o.op = .call { callee := .builtin .append, args := #[s, x], argTypes := #[22, 22] }) (hx : Ext w0 w) (h : Own w w0.heap.size (a.eval s) l) (hs : BsAt w (a.eval x) m) (hn : l.length + m.length ≤ 1000000000000) : GivesW Tryz.prog ops Q w0.heap.size o (ownb w0.heap.size (l ++ m)) a w := by
  obtain ⟨v', w', hr, h1, h2⟩ := append_run o.type h hs hn (Below.size hx)
  refine ⟨hw, Oper.wp_value (run_op_append ho hr) ⟨v', rfl, ?_, h1⟩⟩
  exact (Below.refl w0.heap.size w).grown h2 (Below.size hx) (fun k hk => (h.row.lt k hk).1)
end
theorem beq_b (d : Bool) : Value.bool (d == d) = .bool true := by simp
theorem bne_b (d : Bool) : Value.bool (d != d) = .bool false := by simp
/-- Bytes behind bytes that have no room, at a region's list. -/
theorem wpList_append_bg {ops : Array Oper} {rest : List Oper} {o : Oper} {a : Act} {w : World} {Q : Exit → Act → World → Prop} (hgd : o.guard = none) (s x : Operand) (ho : o.op = .call { callee := .builtin .append, args := #[s, x], argTypes := #[22, 22] })
    {ad : Addr} {n cap : Nat} {l m : List Nat} (hs : a.eval s = .slice (some ad) n cap) (h : BsAt w (.slice (some ad) n cap) l) (hx : BsAt w (a.eval x) m) (hm : 0 < m.length) (hg : cap < n + m.length) (hn : n + m.length ≤ 1000000000000)
    (hk : ∀ v' w', Own w' w.heap.size v' (l ++ m) → w.grownBy w' none → wpList Tryz.prog ops Q rest (a.put o.dst v') w') : wpList Tryz.prog ops Q (o :: rest) a w := by
  refine wpList_plain hgd fun K hK => ?_
  obtain ⟨v', w', hr, h1, h2⟩ := append_grow o.type h hx hm hg hn
  exact Oper.wp_value (run_op_append ho (by rw [hs]; exact hr)) (hK _ _ (hk v' w' h1 h2))
end Go.Proofs.YtobgimpkkjaolaaGreatDoor
