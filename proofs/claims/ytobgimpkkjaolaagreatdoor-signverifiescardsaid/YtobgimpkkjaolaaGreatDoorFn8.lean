/- A fraction so often as bytes say, as the program answers it. -/
import Derived.Test.YtobgimpkkjaolaaGreatDoorFrac
import Derived.Test.YtobgimpkkjaolaaGreatDoorFn7
namespace Go.Proofs.YtobgimpkkjaolaaGreatDoor
open Go.RowKit
theorem and_bit8 (y k : Nat) (hy : y < 256) : bits BinOp.and IntKind.u8 ((y : Int) / 2 ^ k) 1 = ((y / 2 ^ k % 2 : Nat) : Int) := by
  have key : ∀ z : Fin 256, bits BinOp.and IntKind.u8 ((z.1 : Nat) : Int) 1 = ((z.1 % 2 : Nat) : Int) := by decide +kernel
  have h := key ⟨y / 2 ^ k, Nat.lt_of_le_of_lt (Nat.div_le_self _ _) hy⟩
  rw [← h]; simp
section
variable {ops : Array Oper} {Q : Exit → Act → World → Prop} {o : Oper} {T : STy} {a : Act} {w : World} {x y : Operand} {g : Nat}
theorem ixf0 (g : Nat) (W : World) : (Instr.indexAt 112 (.pointer (some ⟨g, 0, none⟩)) (.int .u8 0)).run Tryz.prog W = .ok (.pointer (some ⟨g, 0, none⟩)) W := by kernel_rfl
theorem ixf1 (g : Nat) (W : World) : (Instr.indexAt 112 (.pointer (some ⟨g, 0, none⟩)) (.int .u8 1)).run Tryz.prog W = .ok (.pointer (some ⟨g, 1, none⟩)) W := by kernel_rfl
theorem g_ixf0 (hw : Region.wanted o (yielded ops a.tmps) = true) (ho : o.op = .indexAddr 112 x y) (hx : a.eval x = .pointer (some ⟨g, 0, none⟩)) (hy : a.eval y = .int .u8 0) : Gives Tryz.prog ops Q o (isv (.pointer (some ⟨g, 0, none⟩))) a w :=
  g_run hw (by unfold execOp; simp only [ho, hx, hy, Sem.run_bind, ixf0, Result.andThen_ok, Sem.run_pure]) (Ext.refl w) rfl
theorem g_ixf1 (hw : Region.wanted o (yielded ops a.tmps) = true) (ho : o.op = .indexAddr 112 x y) (hx : a.eval x = .pointer (some ⟨g, 0, none⟩)) (hy : a.eval y = .int .u8 1) : Gives Tryz.prog ops Q o (isv (.pointer (some ⟨g, 1, none⟩))) a w :=
  g_run hw (by unfold execOp; simp only [ho, hx, hy, Sem.run_bind, ixf1, Result.andThen_ok, Sem.run_pure]) (Ext.refl w) rfl
theorem g_ldfn {k : Nat} {v : Value} (hw : Region.wanted o (yielded ops a.tmps) = true) (ho : o.op = .load 111 x) (hx : a.eval x = .pointer (some ⟨g, k, none⟩)) (hc : w.cell? ⟨g, k, none⟩ = some v) : Gives Tryz.prog ops Q o (isv v) a w := by
  refine g_run hw (v := v) ?_ (Ext.refl w) rfl
  unfold execOp
  simp only [ho, hx]
  go_simp
theorem g_ldfn0 {ty : TypeId} {v u : Value} (hw : Region.wanted o (yielded ops a.tmps) = true) (ho : o.op = .load 111 x) (hx : a.eval x = .pointer (some ⟨g, 0, none⟩)) (hr : w.heap[g]? = some (.cells #[v, u] ty (0, 0))) : Gives Tryz.prog ops Q o (isv v) a w := g_ldfn hw ho hx (by rw [cell_of_row _ _ _ _ _ _ hr]; rfl)
theorem g_ldfn1 {ty : TypeId} {v u : Value} (hw : Region.wanted o (yielded ops a.tmps) = true) (ho : o.op = .load 111 x) (hx : a.eval x = .pointer (some ⟨g, 1, none⟩)) (hr : w.heap[g]? = some (.cells #[v, u] ty (0, 0))) : Gives Tryz.prog ops Q o (isv u) a w := g_ldfn hw ho hx (by rw [cell_of_row _ _ _ _ _ _ hr]; rfl)
theorem g_callv2 {f : FuncId} {p q c : Operand} {ts : Array TypeId} (hw : Region.wanted o (yielded ops a.tmps) = true) (hf : enters Tryz.prog f = true) (ho : o.op = .call { callee := .value c, args := #[p, q], argTypes := ts }) (hv : a.eval c = .func (.func f) #[] #[]) (hc : Hands Tryz.prog f #[a.eval p, a.eval q] w T) : Gives Tryz.prog ops Q o T a w :=
  g_enter hw (vals := #[a.eval p, a.eval q]) (by
    unfold execOp
    simp only [ho]
    unfold resolve invoke Deferred.ofValue
    simp [hv, run_enters hf]) hc
end
set_option maxRecDepth 100000 in
set_option maxHeartbeats 4000000 in
theorem f_times {x y z : Kp} {P : Pt} (hF : Fr x y z P) {v : Value} {l : List Nat} {w : World} (h : BsAt w v l) (hl : l.length ≤ 32) : Hands Tryz.prog 60 #[.agg (fe x y z), v] w (isF (Pt.mul (bval l) P)) := by
  suffices HH : ∀ R_ : STy, (∀ W a b c, Fr a b c (Pt.mul (bval l) P) → R_.p W (.agg (fe a b c))) → Hands Tryz.prog 60 #[.agg (fe x y z), v] w R_ from HH _ (fun _ a b c h => ⟨a, b, c, rfl, h⟩)
  intro R_ hR_
  have HR := hide hR_
  have HFR := hide hF
  have HLIM := hide h.lim
  have HN := hide (bval_lt2 l h.lim)
  have HB := hide h
  obtain ⟨ao, cp, rfl, hcap, hcm⟩ := h.len
  obtain ⟨n, hn⟩ : ∃ n, l.length = n := ⟨_, rfl⟩
  rw [hn] at hl HB hcap HN ⊢
  have HLEN := hide hn
  obtain ⟨N, hN⟩ : ∃ N, bval l = N := ⟨_, rfl⟩
  rw [hN] at HR HN
  have EN := hide hN
  obtain ⟨A0, hA0⟩ : ∃ A_, A_ = fe x y z := ⟨_, rfl⟩
  rw [← hA0]
  have EA0 := hide hA0
  clear hR_ hF h hA0 hn hN hcap
  have m1 : ¬ (8 * (n : Int) < -9223372036854775808) := by omega
  unfold Hands
  go_enter Tryz.func60, Tryz.ntmps60
  go_upto_region 2 with fail
  refine cut_world (fun W => Below w.heap.size w W ∧ (w.heap.size < W.heap.size ∧ W.heap[w.heap.size]? = some (.cells A0 87 (0, 0))) ∧ (w.heap.size + 1 < W.heap.size ∧ W.heap[w.heap.size + 1]? = some (.cells zf 87 (0, 0))) ∧ (w.heap.size + 1 + 1 < W.heap.size ∧ W.heap[w.heap.size + 1 + 1]? = some (.cells #[Value.func (Fn.func 92) #[] #[], Value.func (Fn.func 93) #[] #[]] 112 (0, 0)))) ⟨below3 _ _ _ _, ⟨by simp; omega, heap3_0 _ _ _ _⟩, ⟨by simp, heap_alloc_mid3 _ _ _ _⟩, by simp, heap_alloc_last3 _ _ _ _⟩ ?_
  rintro W1 ⟨BEL, R2, R4, R5⟩
  have SW1 := R5.1
  replace BEL := hide BEL
  replace R2 := hide R2
  replace R4 := hide R4
  replace R5 := hide R5
  have SZ := hide BEL.out.size
  have hA0 := EA0.out
  subst hA0
  clear EA0
  refine wrl3 (tl := [ipt (0 : Kp) (1 : Kp), ifr (0 : Kp) (1 : Kp) (1 : Kp)]) (pre := [])
    (plan := [Pk.val [] 0, Pk.val [(10, 0)] 1, Pk.alc 87 12, Pk.sto 2 11 1])
    [] [] [] 36 (by kernel_rfl) rfl (by kernel_rfl) ⟨.inr (lull_p _ _ _ _), ⟨.inr (lull_f _ _ _ _ _), trivial⟩⟩
    snkAt0 snk0 trivial
   (Oc3 (fun a w X_ h => g_call0 (wq0 rfl) (by kernel_rfl) rfl (p_zero))
   (Oc3 (fun a w X_ h => g_call1 (wq0 rfl) (by kernel_rfl) rfl (p_frac h.1))
   (Oc3 (alc_of zf rfl rfl rfl newF)
   (Oc3 (⟨rfl, _, _, _, rfl, rfl, rfl, by kernel_rfl, row_f _ _ _⟩)
      OkL3.nil)))) ?_
  rintro W2 X2 _ rfl _ rfl g6 c6 ⟨L6, Z6, -⟩ r6 H6
  refine FinL3.fill ?_
  refine Fd3 ?_
  simp only [Act.put, List.setIfInBounds_toArray, List.set_cons_zero, List.set_cons_succ]
  obtain rfl : c6 = fe (0 : Kp) (1 : Kp) (1 : Kp) := agg_inj H6
  have R6 := hide (And.intro Z6 r6)
  clear r6
  replace R2 := hide (X2.row out0 R2.out)
  replace R4 := hide (X2.row out0 R4.out)
  replace R5 := hide (X2.row out0 R5.out)
  replace BEL := hide (X2.on BEL.out SZ.out none_le)
  replace SZ := hide BEL.out.size
  have SW2 := X2.size
  clear X2
  clear H6 m1
  go_wp2
  go_loopw [7] (fun i wr => ∃ (k : Nat) (ra rb rc : Kp), k ≤ 8 * n ∧ i = .int .i64 ((k : Int) - 1) ∧ Fr ra rb rc (Pt.mul (N / 2 ^ k) P) ∧ (g6 < wr.heap.size ∧ wr.heap[g6]? = some (.cells (fe ra rb rc) 87 (0, 0))) ∧ (w.heap.size < wr.heap.size ∧ wr.heap[w.heap.size]? = some (.cells (fe x y z) 87 (0, 0))) ∧ (w.heap.size + 1 < wr.heap.size ∧ wr.heap[w.heap.size + 1]? = some (.cells zf 87 (0, 0))) ∧ (w.heap.size + 1 + 1 < wr.heap.size ∧ wr.heap[w.heap.size + 1 + 1]? = some (.cells #[Value.func (Fn.func 92) #[] #[], Value.func (Fn.func 93) #[] #[]] 112 (0, 0))) ∧ Below w.heap.size w wr) (fun i _ => (intOf i + 1).toNat)
  case atStart =>
    refine ⟨8 * n, 0, 1, 1, Nat.le_refl _, by rw [Int.natCast_mul]; rfl, ?_, R6.out, R2.out, R4.out, R5.out, BEL.out⟩
    rw [Nat.div_eq_of_lt HN.out]; exact fr_zero
  case round =>
    obtain ⟨k, ra, rb, rc, hk, rfl, hfr, hr6, hr2, hr4, hr5, hbel⟩ := hrel
    clear R2 R4 R5 R6 BEL SZ
    have HFR2 := hide hfr
    have R6 := hide hr6
    have R2 := hide hr2
    have R4 := hide hr4
    have R5 := hide hr5
    have BEL := hide hbel
    have SZ := hide BEL.out.size
    clear hfr hr6 hr2 hr4 hr5 hbel
    cases k with
    | zero =>
      go_upto_region 8 with fail
      refine wrl3 (tl := [isv (.pointer (some ⟨g6, 0, none⟩)), ifr ra rb rc]) (pre := [(6, 0)])
        (plan := [Pk.val [(6, 0)] 1, Pk.put 0 4 35 1])
        [] [(w.heap.size + 1, 87, 12)] [(0, 4)] 36 (by kernel_rfl) rfl (by kernel_rfl) ⟨.inr (lv0 _ _ _), ⟨.inr (lull_f _ _ _ _ _), trivial⟩⟩
        (snkAt1 R4.out rfl rfl) (snk1 _) ⟨rfl, trivial⟩
          (Oc3 (fun a w X_ h => g_ldf (wq0 rfl) rfl h.1 (X_.at_ R6.out.1 (out1 (by omega)) R6.out.2))
          (Oc3 (⟨rfl, _, _, _, rfl, rfl, by kernel_rfl, row_f _ _ _⟩)
          OkL3.nil)) ?_
      rintro W3 X3 _ rfl c4 r4 H4
      refine Fd3 ?_
      simp only [Act.put, List.setIfInBounds_toArray, List.set_cons_zero, List.set_cons_succ]
      obtain rfl : c4 = fe ra rb rc := agg_inj H4
      replace R4 := hide (And.intro (Nat.lt_of_lt_of_le R4.out.1 X3.size) r4)
      clear r4
      replace BEL := hide (X3.on BEL.out SZ.out (one_le (by omega)))
      clear X3
      rw [Nat.pow_zero, Nat.div_one] at HFR2
      go_wp2
      exact bodyPost_ret_by (results_cell_row rfl _ _ (w.heap.size + 1) 87 _ (0, 0) _ rfl R4.out.2 Tryz.underlying87 rfl (by kernel_rfl)) rfl ⟨_, rfl, BEL.out, HR.out _ _ _ _ HFR2.out⟩
    | succ j =>
      rw [show (((j + 1 : Nat) : Int) - 1) = (j : Int) by omega]
      have hq8 : j / 8 < l.length := by rw [HLEN.out]; omega
      obtain ⟨b, of, c', ao', e', _, _, _, hh⟩ := HB.out
      injection e' with e1 e2 e3
      subst e1
      obtain ⟨rfl, hb, hcell⟩ := hh (fun e => by subst e; simp at hq8)
      have hcb : wr.cell? ⟨b, of + j / 8, none⟩ = some (.int .u8 ((l.getD (j / 8) 0 : Nat) : Int)) := (Below.cell (p := ⟨b, of + j / 8, none⟩) BEL.out hb).trans (hcell _ hq8)
      have hbit := bit_byte l HLIM.out j
      rw [EN.out] at hbit
      have hb1 : l.getD (j / 8) 0 < 256 := HLIM.out _
      obtain ⟨yy, hy⟩ : ∃ yy, l.getD (j / 8) 0 = yy := ⟨_, rfl⟩
      rw [hy] at hcb hbit hb1
      have b0 : (0 : Int) ≤ (j : Int) := by omega
      have b2 : (j : Int) / 8 < (n : Int) := by have := HLEN.out; omega
      have b3 : (0 : Int) ≤ (j : Int) / 8 := by omega
      have b4 : (0 : Int) ≤ (j : Int) % 8 := by omega
      have hcc := and_bit8 yy (j % 8) hb1
      obtain ⟨cb, hcb1⟩ : ∃ m, yy / 2 ^ (j % 8) % 2 = m := ⟨_, rfl⟩
      rw [hcb1] at hcc hbit
      have hcb2 : cb = 0 ∨ cb = 1 := by rw [← hcb1]; omega
      have HMB := hide (mul_bit N j cb hbit.symm P)
      have HK := hide hk
      clear hh hcell hq8 hy hcb1 hbit hb1 hk e2 e3
      rcases hcb2 with rfl | rfl
      · go_upto_region 7 with fail
        clear hcb b0 b2 b3 b4 hcc
        refine wrt3 (tl := [isv (.int .u8 0), isv (.pointer (some ⟨w.heap.size + 1 + 1, 0, none⟩)), isv (.func (.func 92) #[] #[]), ifr ra rb rc, isv (.pointer (some ⟨w.heap.size, 0, none⟩)), ifr x y z, ifr (fpx ra rb rc ra rb rc) (fpy ra rb rc ra rb rc) (fpz ra rb rc ra rb rc)]) (pre := [(2, 4), (5, 1), (8, 0)])
          (plan := [Pk.val [(8, 0)] 0, Pk.val [(5, 1), (29, 0)] 1, Pk.val [(30, 1)] 2, Pk.ld 0 6 3, Pk.val [(2, 4)] 5, Pk.val [(31, 2), (32, 3), (33, 5)] 6, Pk.put 0 6 34 6])
          [] [(g6, 87, 12)] [(0, 6)] (by kernel_rfl) 36 (by kernel_rfl) rfl (by kernel_rfl) ⟨.inr (lv0 _ _ _), ⟨.inr (lv0 _ _ _), ⟨.inr (lv0 _ _ _), ⟨.inr (lull_f _ _ _ _ _), ⟨.inr (lv0 _ _ _), ⟨.inr (lull_f _ _ _ _ _), ⟨.inr (lull_f _ _ _ _ _), trivial⟩⟩⟩⟩⟩⟩⟩
          (snkAt1 R6.out rfl rfl) (snk1 _) ⟨rfl, ⟨rfl, ⟨rfl, trivial⟩⟩⟩
            (Oc3 (fun a w X_ h => g_move (wq0 rfl) (.inl rfl) h.1)
            (Oc3 (fun a w X_ h => g_ixf0 (wq0 rfl) rfl h.1 h.2.1)
            (Oc3 (fun a w X_ h => g_ldfn0 (wq0 rfl) rfl h.1 (X_.at_ R5.out.1 (out1 (by omega)) R5.out.2))
            (Oc3 (fun a w X_ h hr => g_ldf (wq0 rfl) rfl h (hr.trans R6.out.2))
            (Oc3 (fun a w X_ h => g_ldf (wq0 rfl) rfl h.1 (X_.at_ R2.out.1 (out1 (by omega)) R2.out.2))
            (Oc3 (fun a w X_ h => g_callv2 (wq0 rfl) (by kernel_rfl) rfl h.1 (f_alone h.2.1 h.2.2.1))
            (Oc3 (⟨rfl, _, _, _, rfl, rfl, by kernel_rfl, row_f _ _ _⟩)
            OkL3.nil))))))) ?_
        rintro W3 X3 _ rfl _ rfl _ rfl _ rfl _ rfl _ rfl c6 r6 H6
        refine Fd3 ?_
        simp only [Act.put, List.setIfInBounds_toArray, List.set_cons_zero, List.set_cons_succ]
        obtain rfl : c6 = fe (fpx ra rb rc ra rb rc) (fpy ra rb rc ra rb rc) (fpz ra rb rc ra rb rc) := agg_inj H6
        replace R6 := hide (And.intro (Nat.lt_of_lt_of_le R6.out.1 X3.size) r6)
        clear r6
        replace R2 := hide (X3.row (out1 (by omega)) R2.out)
        replace R4 := hide (X3.row (out1 (by omega)) R4.out)
        replace R5 := hide (X3.row (out1 (by omega)) R5.out)
        replace BEL := hide (X3.on BEL.out SZ.out (one_le (by omega)))
        clear X3 H6
        have hj9 : (j : Int) < 1000 := by have := HK.out; omega
        have hj0 : (0 : Int) ≤ (j : Int) := by omega
        go_wp2
        go_roundw
        case rel =>
          refine ⟨j, _, _, _, by have := HK.out; omega, rfl, ?_, R6.out, R2.out, R4.out, R5.out, BEL.out⟩
          rw [HMB.out, if_neg (by decide)]
          exact fr_plus HFR2.out HFR2.out
        case measure => simp [intOf]
      · go_upto_region 7 with fail
        clear hcb b0 b2 b3 b4 hcc
        refine wrt3 (tl := [isv (.int .u8 1), isv (.pointer (some ⟨w.heap.size + 1 + 1, 0, none⟩)), isv (.pointer (some ⟨w.heap.size + 1 + 1, 1, none⟩)), isv (.func (.func 93) #[] #[]), ifr ra rb rc, isv (.pointer (some ⟨w.heap.size, 0, none⟩)), ifr x y z, ifr (fpx (fpx ra rb rc ra rb rc) (fpy ra rb rc ra rb rc) (fpz ra rb rc ra rb rc) x y z) (fpy (fpx ra rb rc ra rb rc) (fpy ra rb rc ra rb rc) (fpz ra rb rc ra rb rc) x y z) (fpz (fpx ra rb rc ra rb rc) (fpy ra rb rc ra rb rc) (fpz ra rb rc ra rb rc) x y z)]) (pre := [(2, 5), (5, 1), (8, 0)])
          (plan := [Pk.val [(8, 0)] 0, Pk.val [(5, 1), (29, 0)] 2, Pk.val [(30, 2)] 3, Pk.ld 0 6 4, Pk.val [(2, 5)] 6, Pk.val [(31, 3), (32, 4), (33, 6)] 7, Pk.put 0 6 34 7])
          [] [(g6, 87, 12)] [(0, 6)] (by kernel_rfl) 36 (by kernel_rfl) rfl (by kernel_rfl) ⟨.inr (lv0 _ _ _), ⟨.inr (lv0 _ _ _), ⟨.inr (lv0 _ _ _), ⟨.inr (lv0 _ _ _), ⟨.inr (lull_f _ _ _ _ _), ⟨.inr (lv0 _ _ _), ⟨.inr (lull_f _ _ _ _ _), ⟨.inr (lull_f _ _ _ _ _), trivial⟩⟩⟩⟩⟩⟩⟩⟩
          (snkAt1 R6.out rfl rfl) (snk1 _) ⟨rfl, ⟨rfl, ⟨rfl, trivial⟩⟩⟩
            (Oc3 (fun a w X_ h => g_move (wq0 rfl) (.inl rfl) h.1)
            (Oc3 (fun a w X_ h => g_ixf1 (wq0 rfl) rfl h.1 h.2.1)
            (Oc3 (fun a w X_ h => g_ldfn1 (wq0 rfl) rfl h.1 (X_.at_ R5.out.1 (out1 (by omega)) R5.out.2))
            (Oc3 (fun a w X_ h hr => g_ldf (wq0 rfl) rfl h (hr.trans R6.out.2))
            (Oc3 (fun a w X_ h => g_ldf (wq0 rfl) rfl h.1 (X_.at_ R2.out.1 (out1 (by omega)) R2.out.2))
            (Oc3 (fun a w X_ h => g_callv2 (wq0 rfl) (by kernel_rfl) rfl h.1 (f_twice h.2.1 h.2.2.1))
            (Oc3 (⟨rfl, _, _, _, rfl, rfl, by kernel_rfl, row_f _ _ _⟩)
            OkL3.nil))))))) ?_
        rintro W3 X3 _ rfl _ rfl _ rfl _ rfl _ rfl _ rfl c6 r6 H6
        refine Fd3 ?_
        simp only [Act.put, List.setIfInBounds_toArray, List.set_cons_zero, List.set_cons_succ]
        obtain rfl : c6 = fe (fpx (fpx ra rb rc ra rb rc) (fpy ra rb rc ra rb rc) (fpz ra rb rc ra rb rc) x y z) (fpy (fpx ra rb rc ra rb rc) (fpy ra rb rc ra rb rc) (fpz ra rb rc ra rb rc) x y z) (fpz (fpx ra rb rc ra rb rc) (fpy ra rb rc ra rb rc) (fpz ra rb rc ra rb rc) x y z) := agg_inj H6
        replace R6 := hide (And.intro (Nat.lt_of_lt_of_le R6.out.1 X3.size) r6)
        clear r6
        replace R2 := hide (X3.row (out1 (by omega)) R2.out)
        replace R4 := hide (X3.row (out1 (by omega)) R4.out)
        replace R5 := hide (X3.row (out1 (by omega)) R5.out)
        replace BEL := hide (X3.on BEL.out SZ.out (one_le (by omega)))
        clear X3 H6
        have hj9 : (j : Int) < 1000 := by have := HK.out; omega
        have hj0 : (0 : Int) ≤ (j : Int) := by omega
        go_wp2
        go_roundw
        case rel =>
          refine ⟨j, _, _, _, by have := HK.out; omega, rfl, ?_, R6.out, R2.out, R4.out, R5.out, BEL.out⟩
          rw [HMB.out, if_pos rfl]
          exact fr_plus (fr_plus HFR2.out HFR2.out) HFR.out
        case measure => simp [intOf]
end Go.Proofs.YtobgimpkkjaolaaGreatDoor
