/- The page's numbers and the program's, as what operations give. -/
import Derived.Test.YtbaionconnhdiaaDoorTyped
import Derived.Test.YtbaionconnhdiaaDoorRefFrom
import Derived.Test.YtbaionconnhdiaaDoorRefAdd
import Derived.Test.YtbaionconnhdiaaDoorRefInv
import Derived.Test.YtbaionconnhdiaaDoorRefSame
import Derived.Test.YtbaionconnhdiaaDoorInv
namespace Go.Proofs.YtbaionconnhdiaaDoor
open Go.RowKit
theorem el_one (x : Nat) : (el x).all (·.oneCell') = true := by
  obtain ⟨a, b, c, d, h⟩ := el_lits x
  rw [h]
  simp [Value.oneCell']
theorem z16_rep : Rep z16 0 := ⟨rfl, fun i => by rw [z16_get]; decide, by decide⟩
/-- A number of the program's. -/
def ise (x : Nat) : STy := isv (.agg (el x))
/-- A number of the page's, in whatever rows. -/
def isn (x : Nat) : STy := ⟨fun _ v => ∃ l, v = .agg (ia l) ∧ Rep l x, fun _ h => h⟩
section
variable {ops : Array Oper} {Q : Exit → Act → World → Prop} {o : Oper} {T : STy} {a : Act} {w w0 : World}
theorem g_ldr (hw : Region.wanted o (yielded ops a.tmps) = true) {ty : TypeId} {x : Operand} {g : Nat} {cs : Array Value} (ho : o.op = .load ty x) (hx : a.eval x = .pointer (some ⟨g, 0, none⟩)) (hlt : g < w0.heap.size) (hr : w0.heap[g]? = some (.cells cs ty (0, 0))) (hX : Ext w0 w)
    (hv : ∀ (p : Nat) (W : World), W.heap[p]? = some (.cells cs ty (0, 0)) → (loadVar ty ⟨p, 0, none⟩).run Tryd.prog W = .ok (.agg cs) W) (ht : T.p w (.agg cs)) : Gives Tryd.prog ops Q o T a w :=
  g_run hw (by
    unfold execOp
    simp only [ho, hx, Instr.loadAt, Instr.sureAddr, Sem.run_bind, Sem.run_pure, Result.andThen_ok, hv g w ((Below.block hX g hlt).trans hr)]) (Ext.refl w) ht
theorem g_zero (hw : Region.wanted o (yielded ops a.tmps) = true) (ho : o.op = .build 32 #[]) : Gives Tryd.prog ops Q o (isn 0) a w := by
  refine g_run hw (v := .agg (ia z16)) ?_ (Ext.refl w) ⟨z16, rfl, z16_rep⟩
  unfold execOp
  rw [ho]
  kernel_rfl
theorem g_eqb (hw : Region.wanted o (yielded ops a.tmps) = true) {u : TypeId} {x y : Operand} {s : Bool} (ho : o.op = .binOp .eql 4 x y u) (hx : a.eval x = .bool s) (hy : a.eval y = .bool s) : Gives Tryd.prog ops Q o (isv (.bool true)) a w :=
  g_bin hw ho (v := .bool (s == s)) (by rw [hx, hy]; go_simp) (by show _ = _; rw [beq_self_eq_true])
end
section
variable {u v : Value} {x y : Nat} {w : World}
theorem h1_of {f : FuncId} {vals : Array Value} {r : Value} (h : Calls Tryd.prog f vals w fun e w' => e = .returned r ∧ Below w.heap.size w w') : Hands Tryd.prog f vals w (isv r) := h.mono fun _ _ ⟨he, hb⟩ => ⟨_, he, hb, rfl⟩
theorem hn_of {f : FuncId} {vals : Array Value} {z : Nat} (h : Calls Tryd.prog f vals w fun e w' => ∃ c, e = .returned (.agg (ia c)) ∧ Rep c z ∧ Below w.heap.size w w') : Hands Tryd.prog f vals w (isn z) := h.mono fun _ _ ⟨c, he, hr, hb⟩ => ⟨_, he, hb, c, rfl, hr⟩
theorem f_add (h1 : u = .agg (el x)) (h2 : v = .agg (el y)) (hx : x < pp) (hy : y < pp) : Hands Tryd.prog 10 #[u, v] w (ise ((x + y) % pp)) := by subst h1 h2; exact h1_of (add_any x y hx hy w)
theorem f_sub (h1 : u = .agg (el x)) (h2 : v = .agg (el y)) (hx : x < pp) (hy : y < pp) : Hands Tryd.prog 12 #[u, v] w (ise ((x + (pp - y) % pp) % pp)) := by subst h1 h2; exact h1_of (sub_any x y hx hy w)
theorem f_mul (h1 : u = .agg (el x)) (h2 : v = .agg (el y)) (hx : x < pp) (hy : y < pp) : Hands Tryd.prog 14 #[u, v] w (ise (x * y % pp)) := by subst h1 h2; exact h1_of (mul_any x y hx hy w)
theorem f_neg (h1 : u = .agg (el x)) (hx : x < pp) : Hands Tryd.prog 16 #[u] w (ise ((0 + (pp - x) % pp) % pp)) := by
  subst h1
  rw [Nat.zero_add, Nat.mod_mod]
  exact h1_of (neg_any x hx w)
theorem f_inv (h1 : u = .agg (el x)) (hx : x < pp) (hL : Laid w) : Hands Tryd.prog 17 #[u] w (ise (pw x ex)) := by subst h1; exact h1_of (inv_any x hx w hL)
theorem f_small {n : Nat} (h1 : u = .int .u32 (n : Int)) (hn : n < 4294967296) : Hands Tryd.prog 19 #[u] w (ise n) := by subst h1; exact h1_of (small_any n hn w)
theorem f_same (h1 : u = .agg (el x)) (h2 : v = .agg (el y)) (hx : x < pp) (hy : y < pp) : Hands Tryd.prog 21 #[u, v] w (isv (.bool (decide (x = y)))) := by subst h1 h2; exact h1_of (same_any x y hx hy w)
theorem f_zero (h1 : u = .agg (el x)) (hx : x < pp) : Hands Tryd.prog 23 #[u] w (isv (.bool (decide (x = 0)))) := by subst h1; exact h1_of (isZero_any x hx w)
theorem f_odd (h1 : u = .agg (el x)) (hx : x < pp) : Hands Tryd.prog 24 #[u] w (isv (.bool (decide (x % 2 = 1)))) := by subst h1; exact h1_of (isOdd_any x hx w)
theorem n_add (h1 : (isn x).p w u) (h2 : (isn y).p w v) : Hands Tryd.prog 11 #[u, v] w (isn ((x + y) % pp)) := by
  obtain ⟨l, rfl, hl⟩ := h1
  obtain ⟨m, rfl, hm⟩ := h2
  exact hn_of (radd_any l m x y hl hm w)
theorem n_sub (h1 : (isn x).p w u) (h2 : (isn y).p w v) : Hands Tryd.prog 13 #[u, v] w (isn ((x + (pp - y) % pp) % pp)) := by
  obtain ⟨l, rfl, hl⟩ := h1
  obtain ⟨m, rfl, hm⟩ := h2
  exact hn_of (rsub_any l m x y hl hm w)
theorem n_mul (h1 : (isn x).p w u) (h2 : (isn y).p w v) : Hands Tryd.prog 15 #[u, v] w (isn (x * y % pp)) := by
  obtain ⟨l, rfl, hl⟩ := h1
  obtain ⟨m, rfl, hm⟩ := h2
  exact hn_of (rmul_any l m x y hl hm w)
theorem n_inv (h1 : (isn x).p w u) : Hands Tryd.prog 18 #[u] w (isn (pw x ex)) := by
  obtain ⟨l, rfl, hl⟩ := h1
  exact hn_of (rinv_any l x hl w)
theorem n_small {n : Nat} (h1 : u = .int .u32 (n : Int)) (hn : n < 4294967296) : Hands Tryd.prog 20 #[u] w (isn n) := by
  subst h1
  exact (rsmall_any n hn w).mono fun _ _ ⟨he, hb⟩ => ⟨_, he, hb, smr n, rfl, smr_rep n hn⟩
theorem n_same (h1 : (isn x).p w u) (h2 : (isn y).p w v) : Hands Tryd.prog 22 #[u, v] w (isv (.bool (decide (x = y)))) := by
  obtain ⟨l, rfl, hl⟩ := h1
  obtain ⟨m, rfl, hm⟩ := h2
  exact h1_of (rsame_any l x hl m y hm w)
theorem n_odd (h1 : (isn x).p w u) : Hands Tryd.prog 25 #[u] w (isv (.bool (decide (x % 2 = 1)))) := by
  obtain ⟨l, rfl, hl⟩ := h1
  exact h1_of (rodd_any l x hl w)
theorem l_same (h1 : u = .agg (el x)) (hx : x < pp) (h2 : (isn x).p w v) : Hands Tryd.prog 9 #[u, v] w (isv (.bool true)) := by
  subst h1
  obtain ⟨m, rfl, hm⟩ := h2
  have := lsame_any x hx m x hm w
  rw [decide_eq_true rfl] at this
  exact h1_of this
theorem h_awake : Hands Tryd.prog 6 #[] w (isv (.bool true)) := h1_of (awake_any w)
end
end Go.Proofs.YtbaionconnhdiaaDoor
