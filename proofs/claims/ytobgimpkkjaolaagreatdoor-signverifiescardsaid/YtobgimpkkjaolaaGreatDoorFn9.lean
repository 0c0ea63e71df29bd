/- Multiples of points, and whether one is small, as the program answers them. -/
import Derived.Test.YtobgimpkkjaolaaGreatDoorFn8
namespace Go.Proofs.YtobgimpkkjaolaaGreatDoor
open Go.RowKit
theorem p_addP {P Q : Pt} {u0 u1 : Value} {w : World} (h0 : u0 = .agg (pe P.x (P.y - 1))) (h1 : u1 = .agg (pe Q.x (Q.y - 1))) (LDi : LaidW 2 exw w) : Hands Tryz.prog 32 #[u0, u1] w (isP (P.add Q)) := by
  have h := p_add (w := w) h0 h1 LDi
  have hf := fr_plus (fr_one P) (fr_one Q)
  rwa [fr_x hf, fr_y hf] at h
theorem p_negP {P : Pt} {u0 : Value} {w : World} (h0 : u0 = .agg (pe P.x (P.y - 1))) : Hands Tryz.prog 29 #[u0] w (isP P.neg) := p_neg h0
theorem on_base : On bx byy := by unfold On; decide +kernel
def Bp : Pt := ⟨bx, byy, on_base⟩
theorem p_baseP {w : World} : Hands Tryz.prog 27 #[] w (isP Bp) := p_base
theorem f_pointP {P : Pt} {u0 : Value} {w : World} (h0 : (isF P).p w u0) (LDi : LaidW 2 exw w) : Hands Tryz.prog 61 #[u0] w (isP P) := by
  obtain ⟨x, y, z, rfl, hf⟩ := h0
  have h := f_point (w := w) (x := x) (y := y) (z := z) rfl LDi
  rwa [fr_x hf, fr_y hf] at h
theorem f_times_v {x y z : Kp} {P : Pt} (hF : Fr x y z P) {u v : Value} {l : List Nat} {w : World} (e : u = .agg (fe x y z)) (h : BsAt w v l) (hl : l.length ≤ 32) : Hands Tryz.prog 60 #[u, v] w (isF (Pt.mul (bval l) P)) := by subst e; exact f_times hF h hl
def bsw (w : World) (l : List Nat) : STy := ⟨fun _ v => BsAt w v l, fun _ h => h⟩
theorem lull_b (B : Nat) (S : List Nat) (w : World) (l : List Nat) : LullT B S (bsw w l) := fun _ _ _ _ h => h
theorem lull_F (B : Nat) (S : List Nat) (P : Pt) : LullT B S (isF P) := fun _ _ _ _ h => h
theorem run_cut {w W : World} {v : Value} {l : List Nat} (h : BsAt w v l) (m : Nat) (hm : m ≤ l.length) : ∃ v', (Instr.sliceAt 22 v none (some (.int .i64 (m : Int))) none).run Tryz.prog W = .ok v' W ∧ BsAt w v' (l.take m) := by
  cases l with
  | nil =>
    obtain ⟨b, o, c, ao, rfl, hc, hmx, _, _⟩ := h
    have hm0 : m = 0 := by simpa using hm
    subst hm0
    cases ao with
    | none =>
      cases c with
      | zero => exact ⟨.slice none 0 0, by kernel_rfl, ⟨0, 0, 0, none, rfl, Nat.le_refl _, by decide, by simp, fun h => absurd rfl h⟩⟩
      | succ c =>
        refine ⟨.slice none 0 (c + 1), ?_, ⟨0, 0, c + 1, none, rfl, by simp, hmx, by simp, fun h => absurd rfl h⟩⟩
        have h1 : ¬ ((c : Int) + 1 < 0) := by omega
        go_simp
    | some ad =>
      refine ⟨.slice (some (if c = 0 then ad else ad.add 0)) 0 c, ?_, ⟨0, 0, c, _, rfl, by simp, hmx, by simp, fun h => absurd rfl h⟩⟩
      have h1 : ¬ ((c : Int) < 0) := by omega
      go_simp
  | cons x t =>
    have hlim := h.lim
    obtain ⟨b, o, c, ao, rfl, hc, hmx, _, hh⟩ := h
    obtain ⟨rfl, hb, hr⟩ := hh (by simp)
    have hlen : ((x :: t).take m).length = m := by rw [List.length_take]; omega
    refine ⟨.slice (some ⟨b, o, none⟩) m c, ?_, ⟨b, o, c, _, by rw [hlen], by omega, hmx, take_lim hlim m, fun _ => ⟨rfl, hb, fun i hi => ?_⟩⟩⟩
    · have h1 : ¬ ((m : Int) < 0) := by omega
      have h2 : ¬ ((c : Int) < (m : Int)) := by omega
      have h3 : ¬ c = 0 := by simp at hc; omega
      generalize (x :: t).length = n at *
      clear hr hlim hlen
      go_simp
      intro h; omega
    · rw [hlen] at hi
      rw [hr i (by omega)]
      simp [List.getD_eq_getElem?_getD, hi]
section
variable {ops : Array Oper} {Q : Exit → Act → World → Prop} {o : Oper} {a : Act} {w W : World} {x y : Operand}
theorem g_cut {l : List Nat} {m : Nat} (hw : Region.wanted o (yielded ops a.tmps) = true) (ho : o.op = .slice 22 x none (some y) none) (hx : BsAt w (a.eval x) l) (hy : a.eval y = .int .i64 (m : Int)) (hm : m ≤ l.length) : Gives Tryz.prog ops Q o (bsw w (l.take m)) a W := by
  obtain ⟨v', hr, hb⟩ := run_cut (W := W) hx m hm
  refine g_run hw (v := v') ?_ (Ext.refl W) hb
  unfold execOp
  simp only [ho, hy, Option.map_some, Option.map_none]
  rw [Sem.run_bind, hr]
  rfl
theorem g_min {m n : Nat} (hw : Region.wanted o (yielded ops a.tmps) = true) (ho : o.op = .call { callee := .builtin .min, args := #[x, .const (.int .i64 32)], argTypes := #[3, 3] }) (hx : a.eval x = .int .i64 (n : Int)) (hm : min n 32 = m) : Gives Tryz.prog ops Q o (isv (.int .i64 (m : Int))) a W := by
  refine g_run hw (v := .int .i64 (m : Int)) ?_ (Ext.refl W) rfl
  unfold execOp
  simp only [ho]
  by_cases h : n < 32
  · have h1 : (n : Int) < 32 := by omega
    have e : m = n := by rw [← hm]; omega
    subst e
    unfold resolve invoke
    simp [Act.eval] at hx ⊢
    go_simp
    intro h; omega
  · have h1 : ¬ ((n : Int) < 32) := by omega
    have e : m = 32 := by rw [← hm]; omega
    subst e
    unfold resolve invoke
    simp [Act.eval] at hx ⊢
    go_simp
    intro h; omega
end
set_option maxRecDepth 100000 in
set_option maxHeartbeats 2000000 in
theorem p_mulP {P : Pt} {l : List Nat} {u0 u1 : Value} {w : World} (h0 : u0 = .agg (pe P.x (P.y - 1))) (h : BsAt w u1 l) (LDi : LaidW 2 exw w) : Hands Tryz.prog 28 #[u0, u1] w (ipt ((Pt.mul (bval (l.take 32)) P).x) ((Pt.mul (bval (l.take 32)) P).y)) := by
  subst h0
  suffices HH : ∀ R_ : STy, (∀ W, R_.p W (.agg (pe ((Pt.mul (bval (l.take 32)) P).x) (((Pt.mul (bval (l.take 32)) P).y) - 1)))) → Hands Tryz.prog 28 #[.agg (pe P.x (P.y - 1)), u1] w R_ from HH _ (fun _ => rfl)
  intro R_ hR_
  have H0 := hide h
  clear h
  obtain ⟨m, hm⟩ : ∃ m, min l.length 32 = m := ⟨_, rfl⟩
  have HM := hide hm
  have HT : Hid (l.take 32 = l.take m) := by
    show _ = _
    rw [← hm, Nat.min_comm]
    rcases Nat.le_total l.length 32 with h | h
    · rw [Nat.min_eq_right h, List.take_of_length_le h, List.take_of_length_le (Nat.le_refl _)]
    · rw [Nat.min_eq_left h]
  rw [HT.out] at hR_
  clear hm
  replace LDi := hide LDi
  obtain ⟨A0, hA0⟩ : ∃ A_, A_ = pe P.x (P.y - 1) := ⟨_, rfl⟩
  rw [← hA0]
  have EA0 := hide hA0
  clear hA0
  have HR := hide hR_
  clear hR_
  unfold Hands
  go_enter Tryz.func28, Tryz.ntmps28
  go_upto_region 1 with fail
  refine cut_world (fun W => Below w.heap.size w W ∧ (w.heap.size < W.heap.size ∧ W.heap[w.heap.size]? = some (.cells A0 49 (0, 0))) ∧ (w.heap.size + 1 < W.heap.size ∧ W.heap[w.heap.size + 1]? = some (.cells zp 49 (0, 0)))) ⟨below2 _ _ _, ⟨by simp; omega, heap2_0 _ _ _⟩, by simp, heap2_1 _ _ _⟩ ?_
  rintro W1 ⟨BEL, R2, R4⟩
  replace BEL := hide BEL
  have SZ := hide BEL.out.size
  replace R2 := hide R2
  replace R4 := hide R4
  have hA0 := EA0.out
  subst hA0
  clear EA0
  have SW1 := (R4.out.1)
  refine wrt3 (tl := [isv (.pointer (some ⟨w.heap.size, 0, none⟩)), ipt P.x P.y, ifr P.x P.y (1 : Kp), bsw w l, isv (.int .i64 (l.length : Int)), isv (.int .i64 (m : Int)), bsw w (l.take m), isF (Pt.mul (bval (l.take m)) P), ipt ((Pt.mul (bval (l.take m)) P).x) ((Pt.mul (bval (l.take m)) P).y)]) (pre := [(1, 3), (2, 0)])
    (plan := [Pk.val [(2, 0)] 1, Pk.val [(5, 1)] 2, Pk.val [(1, 3)] 3, Pk.val [(1, 3)] 3, Pk.val [(8, 3)] 4, Pk.val [(9, 4)] 5, Pk.val [(7, 3), (10, 5)] 6, Pk.val [(6, 2), (11, 6)] 7, Pk.val [(12, 7)] 8, Pk.put 0 4 13 8])
    [] [(w.heap.size + 1, 49, 8)] [(0, 4)] (by kernel_rfl) 14 (by kernel_rfl) rfl (by kernel_rfl) ⟨.inr (lv0 _ _ _), ⟨.inr (lull_p _ _ _ _), ⟨.inr (lull_f _ _ _ _ _), ⟨.inr (lull_b _ _ _ _), ⟨.inr (lv0 _ _ _), ⟨.inr (lv0 _ _ _), ⟨.inr (lull_b _ _ _ _), ⟨.inr (lull_F _ _ _), ⟨.inr (lull_p _ _ _ _), trivial⟩⟩⟩⟩⟩⟩⟩⟩⟩
    (snkAt1 R4.out rfl rfl) (snk1 _) ⟨H0.out, ⟨rfl, trivial⟩⟩
   (Oc3 (fun a w X_ h => g_ldp (wq0 rfl) rfl h.1 (X_.at_ R2.out.1 (out1 (by omega)) R2.out.2))
   (Oc3 (fun a w X_ h => g_call1 (wq0 rfl) (by kernel_rfl) rfl (p_frac h.1))
   (Oc3 (fun a w X_ h => g_move (wq0 rfl) (.inl rfl) h.1)
   (Oc3 (fun a w X_ h => g_move (wq0 rfl) (.inl rfl) h.1)
   (Oc3 (fun a w X_ h => g_lenb (wq0 rfl) rfl (BsAt.ext (show BsAt _ _ l from h.1) (X_.on BEL.out SZ.out (one_le (by omega)))) rfl rfl)
   (Oc3 (fun a w X_ h => g_min (wq0 rfl) rfl h.1 HM.out)
   (Oc3 (fun a w X_ h => g_cut (wq0 rfl) rfl h.1 h.2.1 (by have := HM.out; omega))
   (Oc3 (fun a w X_ h => g_call2 (wq0 rfl) (by kernel_rfl) rfl (f_times_v (fr_one P) h.1 (BsAt.ext (show BsAt _ _ (l.take m) from h.2.1) (X_.on BEL.out SZ.out (one_le (by omega)))) (by have := HM.out; rw [List.length_take]; omega)))
   (Oc3 (fun a w X_ h => g_call1 (wq0 rfl) (by kernel_rfl) rfl (f_pointP h.1 (LDi.out.step (X_.on BEL.out SZ.out (one_le (by omega))))))
   (Oc3 (⟨rfl, _, _, _, rfl, rfl, by kernel_rfl, row_p _ _⟩)
      OkL3.nil)))))))))) ?_
  rintro W2 X2 _ rfl _ rfl v7 - v8 - _ rfl _ rfl v11 - v12 - _ rfl c4 r4 H4
  refine Fd3 ?_
  simp only [Act.put, List.setIfInBounds_toArray, List.set_cons_zero, List.set_cons_succ]
  obtain rfl : c4 = pe ((Pt.mul (bval (l.take m)) P).x) (((Pt.mul (bval (l.take m)) P).y) - 1) := agg_inj H4
  replace R4 := hide (And.intro (Nat.lt_of_lt_of_le R4.out.1 X2.size) r4)
  clear r4
  replace R2 := hide (X2.row (out1 (by omega)) R2.out)
  replace BEL := hide (X2.on BEL.out SZ.out (one_le (by omega)))
  replace SZ := hide BEL.out.size
  have SW2 := X2.size
  clear X2
  go_wp2
  exact bodyPost_ret_by (results_cell_row rfl _ _ (w.heap.size + 1) 49 _ (0, 0) _ rfl R4.out.2 Tryz.underlying49 rfl (by kernel_rfl)) rfl ⟨_, rfl, BEL.out, HR.out _⟩
theorem p_mulN {P : Pt} {l : List Nat} {n : Nat} {u0 u1 : Value} {w : World} (hn : bval (l.take 32) = n) (h0 : u0 = .agg (pe P.x (P.y - 1))) (h : BsAt w u1 l) (LDi : LaidW 2 exw w) : Hands Tryz.prog 28 #[u0, u1] w (isP (Pt.mul n P)) := by
  subst hn; exact p_mulP h0 h LDi
end Go.Proofs.YtobgimpkkjaolaaGreatDoor
