/- The page's reading of a point, as its call answers it. -/
import Derived.Test.YtobgimpkkjaolaaGreatDoorRf4
import Derived.Test.YtobgimpkkjaolaaGreatDoorDec
namespace Go.Proofs.YtobgimpkkjaolaaGreatDoor
open Go.RowKit
def upb (x y : Kp) (b : Bool) : STy := ⟨fun _ v => ∃ C, v = .tuple #[.agg C, .bool b] ∧ RQ C x y 1 (x * y), fun _ h => h⟩
theorem lull_ub (B : Nat) (S : List Nat) (x y : Kp) (b : Bool) : LullT B S (upb x y b) := fun _ _ _ _ h => h
theorem n_yof {l : List Nat} {u : Value} {w : World} (h : BsAt w u (l.set 31 (l.getD 31 0 % 128))) (hl : l.length = 32) : Hands Tryz.prog 72 #[u] w (nk (yof l)) := by
  have h2 := rfrom_any u _ (by simp [hl]) w h
  rw [List.take_of_length_le (by simp [hl])] at h2
  exact rn_of h2 rfl
theorem n_bytes_b {x : Kp} {u : Value} {w : World} (h1 : (nk x).p w u) : Hands Tryz.prog 41 #[u] w (isb (bys x.val 32)) :=
  (n_bytes h1 (Nat.le_refl _)).mono fun _ _ ⟨v, he, hb, ho⟩ => ⟨v, he, hb, Own.at ho⟩
theorem n_root_s {u v x : Kp} {u0 u1 : Value} {w : World} (hr : rt u v = some x) (h0 : (nk u).p w u0) (h1 : (nk v).p w u1) : Hands Tryz.prog 73 #[u0, u1] w (nkb x true) := by
  have := n_root h0 h1
  rwa [hr] at this
theorem n_root_n {u v : Kp} {u0 u1 : Value} {w : World} (hr : rt u v = none) (h0 : (nk u).p w u0) (h1 : (nk v).p w u1) : Hands Tryz.prog 73 #[u0, u1] w (nkb 0 false) := by
  have := n_root h0 h1
  rwa [hr] at this
theorem bits_and127 (x : Nat) (h : x < 256) : bits .and .u8 (x : Int) 127 = ((x % 128 : Nat) : Int) := by
  have : ∀ y : Fin 256, bits .and .u8 ((y.1 : Nat) : Int) 127 = ((y.1 % 128 : Nat) : Int) := by decide +kernel
  exact this ⟨x, h⟩
theorem sob_nf {l m : List Nat} (hl : ∀ i, l.getD i 0 < 256) (hm : ∀ i, m.getD i 0 < 256) (h : l ≠ m) : Value.bool (!((sob l).toList == (sob m).toList)) = .bool true := by rw [sob_eq hl hm, decide_eq_false h]; rfl
theorem kept_block {w : World} {g g' j : Nat} {u : Value} (h : g ≠ g') : (w.setCell ⟨g', j, none⟩ u).heap[g]? = w.heap[g]? := heap_setCell_other _ _ _ _ (by simpa using h)
theorem own_nilw (w : World) : Own w w.heap.size (.slice none 0 0) [] := ⟨World.ownsRow_nil _ _ _ _, by simp⟩
theorem g_skipu {ops : Array Oper} {Q : Exit → Act → World → Prop} {o : Oper} {T : STy} {a : Act} {w : World} {g : Nat} {d : Nat} {b : Bool} (hg : o.guard = some (g, b)) (hd : dstOf ops g = some d) (hv : a.tmps.getD d undef = undef) (ht : T.p w undef) : Gives Tryz.prog ops Q o T a w := .inr ⟨by
  have hy : yielded ops a.tmps g = none := by
    unfold yielded
    unfold dstOf at hd
    rw [hd]
    show (match a.tmps[d]? with | some (.bool b) => some b | _ => none) = none
    cases ht' : a.tmps[d]? with
    | none => rfl
    | some v =>
      have : v = undef := by rw [Array.getD_eq_getD_getElem?, ht'] at hv; exact hv
      subst this
      rfl
  unfold Region.wanted
  rw [hg]
  simp only [hy]
  rfl, ht⟩
section
variable {ops : Array Oper} {Q : Exit → Act → World → Prop} {o : Oper} {a : Act} {w : World} {x : Operand} {e : Kp} {b : Bool}
theorem g_ext_n0 (hw : Region.wanted o (yielded ops a.tmps) = true) (ho : o.op = .extract x 0) (hx : (nkb e b).p w (a.eval x)) : Gives Tryz.prog ops Q o (nk e) a w := by
  obtain ⟨C, hC, hr⟩ := hx
  exact g_run hw (v := .agg C) (by unfold execOp; simp only [ho, hC]; rfl) (Ext.refl w) ⟨C, rfl, hr⟩
theorem g_ext_n1 (hw : Region.wanted o (yielded ops a.tmps) = true) (ho : o.op = .extract x 1) (hx : (nkb e b).p w (a.eval x)) : Gives Tryz.prog ops Q o (isv (.bool b)) a w := by
  obtain ⟨C, hC, hr⟩ := hx
  exact g_run hw (v := .bool b) (by unfold execOp; simp only [ho, hC]; rfl) (Ext.refl w) rfl
end
set_option linter.unusedSimpArgs false in
set_option maxRecDepth 100000 in
set_option maxHeartbeats 4000000 in
theorem up_len {l : List Nat} {v : Value} {w : World} (h : BsAt w v l) (hl : l.length ≠ 32) : Hands Tryz.prog 35 #[v] w (upb (0 : Kp) (1 : Kp) false) := by
  suffices HH : ∀ R_ : STy, (∀ W C, RQ C (0 : Kp) (1 : Kp) 1 ((0 : Kp) * (1 : Kp)) → R_.p W (.tuple #[.agg C, .bool false])) → Hands Tryz.prog 35 #[v] w R_ from HH _ (fun _ C h => ⟨C, rfl, h⟩)
  intro R_ hR_
  have HR := hide hR_
  obtain ⟨ao, c, rfl, _, hc_⟩ := h.len
  have hne : ((l.length : Int) == 32) = false := by rw [beq_eq_false_iff_ne]; omega
  clear h hR_ hl
  unfold Hands
  go_enter Tryz.func35, Tryz.ntmps35
  go_upto_region 1 with fail
  refine cut_world (fun W => Below w.heap.size w W ∧ w.heap.size < W.heap.size ∧ W.heap[w.heap.size]? = some (.cells zq 39 (0, 0))) ⟨(Below.refl _ _).alloc (Nat.le_refl _) _, by simp, heap_alloc_last _ _⟩ ?_
  rintro W1 ⟨BEL, R2⟩
  replace BEL := hide BEL
  replace R2 := hide R2
  have SZ := hide BEL.out.size
  have SW6 : w.heap.size < W1.heap.size := R2.out.1
  generalize l.length = n at *
  go_upto_region 2 with fail
  refine wrl3 (tl := [qk (0 : Kp) (1 : Kp) (1 : Kp) (0 : Kp), isv (.bool false)]) (pre := [])
    (plan := [Pk.val [] 0, Pk.put 0 2 13 0, Pk.val [] 1])
    [] [(w.heap.size, 39, 64)] [(0, 2)] 72 (by kernel_rfl) rfl (by kernel_rfl) ⟨.inr (lull_q _ _ _ _ _ _), ⟨.inr (lv0 _ _ _), trivial⟩⟩
    (snkAt1 R2.out rfl rfl) (snk1 _) trivial
   (Oc3 (fun a w X_ h => g_call0 (wq0 rfl) (by kernel_rfl) rfl (q_zero))
   (Oc3 (⟨rfl, _, _, _, rfl, rfl, by kernel_rfl, row_q _ _ _ _⟩)
   (Oc3 (fun a w X_ h => g_move (wq0 rfl) (.inr rfl) rfl)
      OkL3.nil))) ?_
  rintro W2 X2 v13 - c2 r2 H2 _ rfl
  refine Fd3 ?_
  simp only [Act.put, List.setIfInBounds_toArray, List.set_cons_zero, List.set_cons_succ]
  have N2 := hide (qk_of H2)
  replace R2 := hide (And.intro (Nat.lt_of_lt_of_le R2.out.1 X2.size) r2)
  clear r2
  replace BEL := hide (X2.on BEL.out SZ.out (one_le (by omega)))
  replace SZ := hide BEL.out.size
  have SW2 := X2.size
  clear X2 H2
  go_wp2
  exact bodyPost_ret_by (results_row_tmp rfl _ _ (w.heap.size) 39 _ (0, 0) _ rfl R2.out.2 und36 rfl (by rw [N2.out.size]; exact sizeQ)) rfl ⟨_, rfl, BEL.out, HR.out _ _ (by rw [k_0mul]; exact N2.out)⟩
set_option linter.unusedSimpArgs false in
set_option maxRecDepth 100000 in
set_option maxHeartbeats 4000000 in
theorem up_c0 {l M : List Nat} {Y : Kp} {v : Value} {w : World} (h : BsAt w v l) (hl : l.length = 32) (hM : l.set 31 (l.getD 31 0 % 128) = M) (hY : yof l = Y) (hbit : l.getD 31 0 / 128 * 128 = 0) (hcan : bys Y.val 32 ≠ M) : Hands Tryz.prog 35 #[v] w (upb (0 : Kp) (1 : Kp) false) := by
  suffices HH : ∀ R_ : STy, (∀ W C, RQ C (0 : Kp) (1 : Kp) 1 ((0 : Kp) * (1 : Kp)) → R_.p W (.tuple #[.agg C, .bool false])) → Hands Tryz.prog 35 #[v] w R_ from HH _ (fun _ C h => ⟨C, rfl, h⟩)
  intro R_ hR_
  have HR := hide hR_
  have H := hide h
  have hl31 := h.lim 31
  obtain ⟨ao, c, rfl, _, hc_⟩ := h.len
  rw [hl] at H ⊢
  have HL := hide hl
  have HFR : Hid (∀ W u, BsAt W u M → Hands Tryz.prog 72 #[u] W (nk Y)) := fun W u hu => by rw [← hM] at hu; rw [← hY]; exact n_yof hu hl
  have HBIT := hide hbit
  clear hbit
  have HCAN := hide hcan
  clear hcan
  clear h hR_ hl hY
  unfold Hands
  go_enter Tryz.func35, Tryz.ntmps35
  go_upto_region 1 with fail
  refine cut_world (fun W => Below w.heap.size w W ∧ w.heap.size < W.heap.size ∧ W.heap[w.heap.size]? = some (.cells zq 39 (0, 0))) ⟨(Below.refl _ _).alloc (Nat.le_refl _) _, by simp, heap_alloc_last _ _⟩ ?_
  rintro W1 ⟨BEL, R2⟩
  replace BEL := hide BEL
  replace R2 := hide R2
  go_wp2_with (at_builtin; refine wpList_append_b rfl _ (.tmp 14) rfl (base := W1.heap.size) (l := []) (m := l) (own_nilw W1) (H.out.ext BEL.out) (by rw [HL.out]; decide) (Nat.le_refl _) ?_)
  intro u w1 o1 g1
  have b1 : Below W1.heap.size W1 w1 := (Below.refl _ _).grown g1 (Nat.le_refl _) (by simp [Value.ownBlock])
  have hl1 := HL.out
  obtain ⟨g, cap, rfl, hg1, hg2, hcap, hcm⟩ := o1.form (by omega)
  have c31 : w1.cell? ⟨g, 31, none⟩ = some (.int .u8 ((l.getD 31 0 : Nat) : Int)) := by rw [o1.row.cellAt 31 (by omega), nv_get l 31 (by omega)]
  have f31 := o1.row.frozenAt 31
  have e1 := bits_and128 _ hl31
  rw [HBIT.out] at e1
  have e2 := bits_and127 _ hl31
  have OA0 : BsAt _ _ (l.set 31 (l.getD 31 0 % 128)) := (o1.set 31 (l.getD 31 0 % 128) (by omega)).at
  rw [hM] at OA0
  have OA := hide OA0
  have HML := hide OA0.lim
  clear OA0
  have hgw : w.heap.size ≤ g ∧ w.heap.size ≠ g := by have := R2.out.1; omega
  have B1 := hide (Below.setCell (Below.chain BEL.out b1) (p := ⟨g, 31, none⟩) hgw.1 (.int .u8 ((l.getD 31 0 % 128 : Nat) : Int)))
  have R2' := hide (And.intro (show w.heap.size < (w1.setCell ⟨g, 31, none⟩ (.int .u8 ((l.getD 31 0 % 128 : Nat) : Int))).heap.size by have := R2.out.1; have := b1.size; simp; omega) ((kept_block (u := .int .u8 ((l.getD 31 0 % 128 : Nat) : Int)) (j := 31) hgw.2).trans (Below.heap b1 R2.out.1 R2.out.2)))
  rw [hl1] at OA hcap ⊢
  clear hM HBIT
  generalize l.getD 31 0 = x31 at *
  generalize x31 % 128 = z31 at *
  clear hl31 HL hl1 o1 b1 g1 R2 BEL H
  go_upto_region 6 with fail
  generalize w1.setCell ⟨g, 31, none⟩ (.int .u8 (z31 : Int)) = W6 at *
  have R2 := R2'
  have BEL := B1
  have SZ := hide BEL.out.size
  have SW6 : w.heap.size < W6.heap.size := R2.out.1
  clear B1 R2' e1 e2 f31 c31 hg2 hcap hcm hgw hg1
  refine wrl3 (tl := [isb M, nk Y]) (pre := [(4, 0)])
    (plan := [Pk.val [(4, 0)] 0, Pk.val [(26, 0)] 1, Pk.alc 37 16, Pk.sto 2 27 1])
    [0] [] [] 72 (by kernel_rfl) rfl (by kernel_rfl) ⟨.inl rfl, ⟨.inr (lull_n _ _ _), trivial⟩⟩
    snkAt0 snk0 ⟨OA.out, trivial⟩
   (Oc3 (fun a w X_ h => g_move (wq0 rfl) (.inl rfl) h.1)
   (Oc3 (fun a w X_ h => g_call1 (wq0 rfl) (by kernel_rfl) rfl (HFR.out _ _ h.1))
   (Oc3 (alc_of zn rfl rfl rfl newN)
   (Oc3 (⟨rfl, _, _, _, rfl, rfl, rfl, by kernel_rfl, row_n _⟩)
      OkL3.nil)))) ?_
  rintro W7 X7 v26 - v27 - g6 c6 ⟨L6, Z6, -⟩ r6 H6
  refine FinL3.fill ?_
  refine Fd3 ?_
  simp only [Act.put, List.setIfInBounds_toArray, List.set_cons_zero, List.set_cons_succ]
  have N6 := hide (nk_of H6)
  have R6 := hide (And.intro Z6 r6)
  clear r6
  replace R2 := hide (X7.row out0 R2.out)
  replace OA := hide (OA.out.ext X7.ext)
  replace BEL := hide (X7.on BEL.out SZ.out none_le)
  replace SZ := hide BEL.out.size
  have SW7 := X7.size
  clear X7 H6
  go_upto_region 7 with fail
  refine wrt3 (tl := [isv (.pointer (some ⟨g6, 0, none⟩)), nk Y, isb (bys Y.val 32), isv (.string (sob (bys Y.val 32))), isb M, isv (.string (sob M)), isv (.bool true)]) (pre := [(4, 4), (6, 0)])
    (plan := [Pk.val [(6, 0)] 1, Pk.val [(28, 1)] 2, Pk.val [(29, 2)] 3, Pk.val [(4, 4)] 4, Pk.val [(31, 4)] 5, Pk.val [(30, 3), (32, 5)] 6])
    [2, 4] [] [] (by kernel_rfl) 72 (by kernel_rfl) rfl (by kernel_rfl) ⟨.inr (lv0 _ _ _), ⟨.inr (lull_n _ _ _), ⟨.inl rfl, ⟨.inr (lv0 _ _ _), ⟨.inl rfl, ⟨.inr (lv0 _ _ _), ⟨.inr (lv0 _ _ _), trivial⟩⟩⟩⟩⟩⟩⟩
    snkAt0 snk0 ⟨OA.out, ⟨rfl, trivial⟩⟩
   (Oc3 (fun a w X_ h => g_ldn N6.out (wq0 rfl) rfl h.1 (X_.at_ R6.out.1 out0 R6.out.2))
   (Oc3 (fun a w X_ h => g_call1 (wq0 rfl) (by kernel_rfl) rfl (n_bytes_b h.1))
   (Oc3 (fun a w X_ h => g_str (wq0 rfl) rfl h.1 rfl)
   (Oc3 (fun a w X_ h => g_move (wq0 rfl) (.inl rfl) h.1)
   (Oc3 (fun a w X_ h => g_str (wq0 rfl) rfl h.1 rfl)
   (Oc3 (fun a w X_ h => g_nes (wq0 rfl) rfl h.1 h.2.1 (sob_nf (bys_lim _) HML.out HCAN.out))
      OkL3.nil)))))) ?_
  rintro W8 X8 v28 - v29 - _ rfl v31 - _ rfl _ rfl
  refine Fd3 ?_
  simp only [Act.put, List.setIfInBounds_toArray, List.set_cons_zero, List.set_cons_succ]
  replace R2 := hide (X8.row out0 R2.out)
  replace R6 := hide (X8.row out0 R6.out)
  replace BEL := hide (X8.on BEL.out SZ.out none_le)
  replace SZ := hide BEL.out.size
  have SW8 := X8.size
  clear X8
  go_upto_region 8 with fail
  refine wrl3 (tl := [qk (0 : Kp) (1 : Kp) (1 : Kp) (0 : Kp), isv (.bool false)]) (pre := [])
    (plan := [Pk.val [] 0, Pk.put 0 2 34 0, Pk.val [] 1])
    [] [(w.heap.size, 39, 64)] [(0, 2)] 72 (by kernel_rfl) rfl (by kernel_rfl) ⟨.inr (lull_q _ _ _ _ _ _), ⟨.inr (lv0 _ _ _), trivial⟩⟩
    (snkAt1 R2.out rfl rfl) (snk1 _) trivial
   (Oc3 (fun a w X_ h => g_call0 (wq0 rfl) (by kernel_rfl) rfl (q_zero))
   (Oc3 (⟨rfl, _, _, _, rfl, rfl, by kernel_rfl, row_q _ _ _ _⟩)
   (Oc3 (fun a w X_ h => g_move (wq0 rfl) (.inr rfl) rfl)
      OkL3.nil))) ?_
  rintro W9 X9 v34 - c2 r2 H2 _ rfl
  refine Fd3 ?_
  simp only [Act.put, List.setIfInBounds_toArray, List.set_cons_zero, List.set_cons_succ]
  have N2 := hide (qk_of H2)
  replace R2 := hide (And.intro (Nat.lt_of_lt_of_le R2.out.1 X9.size) r2)
  clear r2
  replace R6 := hide (X9.row (out1 (by omega)) R6.out)
  replace BEL := hide (X9.on BEL.out SZ.out (one_le (by omega)))
  replace SZ := hide BEL.out.size
  have SW9 := X9.size
  clear X9 H2
  go_wp2
  exact bodyPost_ret_by (results_row_tmp rfl _ _ (w.heap.size) 39 _ (0, 0) _ rfl R2.out.2 und36 rfl (by rw [N2.out.size]; exact sizeQ)) rfl ⟨_, rfl, BEL.out, HR.out _ _ (by rw [k_0mul]; exact N2.out)⟩
set_option linter.unusedSimpArgs false in
set_option maxRecDepth 100000 in
set_option maxHeartbeats 4000000 in
theorem up_c1 {l M : List Nat} {Y : Kp} {v : Value} {w : World} (h : BsAt w v l) (hl : l.length = 32) (hM : l.set 31 (l.getD 31 0 % 128) = M) (hY : yof l = Y) (hbit : l.getD 31 0 / 128 * 128 = 128) (hcan : bys Y.val 32 ≠ M) : Hands Tryz.prog 35 #[v] w (upb (0 : Kp) (1 : Kp) false) := by
  suffices HH : ∀ R_ : STy, (∀ W C, RQ C (0 : Kp) (1 : Kp) 1 ((0 : Kp) * (1 : Kp)) → R_.p W (.tuple #[.agg C, .bool false])) → Hands Tryz.prog 35 #[v] w R_ from HH _ (fun _ C h => ⟨C, rfl, h⟩)
  intro R_ hR_
  have HR := hide hR_
  have H := hide h
  have hl31 := h.lim 31
  obtain ⟨ao, c, rfl, _, hc_⟩ := h.len
  rw [hl] at H ⊢
  have HL := hide hl
  have HFR : Hid (∀ W u, BsAt W u M → Hands Tryz.prog 72 #[u] W (nk Y)) := fun W u hu => by rw [← hM] at hu; rw [← hY]; exact n_yof hu hl
  have HBIT := hide hbit
  clear hbit
  have HCAN := hide hcan
  clear hcan
  clear h hR_ hl hY
  unfold Hands
  go_enter Tryz.func35, Tryz.ntmps35
  go_upto_region 1 with fail
  refine cut_world (fun W => Below w.heap.size w W ∧ w.heap.size < W.heap.size ∧ W.heap[w.heap.size]? = some (.cells zq 39 (0, 0))) ⟨(Below.refl _ _).alloc (Nat.le_refl _) _, by simp, heap_alloc_last _ _⟩ ?_
  rintro W1 ⟨BEL, R2⟩
  replace BEL := hide BEL
  replace R2 := hide R2
  go_wp2_with (at_builtin; refine wpList_append_b rfl _ (.tmp 14) rfl (base := W1.heap.size) (l := []) (m := l) (own_nilw W1) (H.out.ext BEL.out) (by rw [HL.out]; decide) (Nat.le_refl _) ?_)
  intro u w1 o1 g1
  have b1 : Below W1.heap.size W1 w1 := (Below.refl _ _).grown g1 (Nat.le_refl _) (by simp [Value.ownBlock])
  have hl1 := HL.out
  obtain ⟨g, cap, rfl, hg1, hg2, hcap, hcm⟩ := o1.form (by omega)
  have c31 : w1.cell? ⟨g, 31, none⟩ = some (.int .u8 ((l.getD 31 0 : Nat) : Int)) := by rw [o1.row.cellAt 31 (by omega), nv_get l 31 (by omega)]
  have f31 := o1.row.frozenAt 31
  have e1 := bits_and128 _ hl31
  rw [HBIT.out] at e1
  have e2 := bits_and127 _ hl31
  have OA0 : BsAt _ _ (l.set 31 (l.getD 31 0 % 128)) := (o1.set 31 (l.getD 31 0 % 128) (by omega)).at
  rw [hM] at OA0
  have OA := hide OA0
  have HML := hide OA0.lim
  clear OA0
  have hgw : w.heap.size ≤ g ∧ w.heap.size ≠ g := by have := R2.out.1; omega
  have B1 := hide (Below.setCell (Below.chain BEL.out b1) (p := ⟨g, 31, none⟩) hgw.1 (.int .u8 ((l.getD 31 0 % 128 : Nat) : Int)))
  have R2' := hide (And.intro (show w.heap.size < (w1.setCell ⟨g, 31, none⟩ (.int .u8 ((l.getD 31 0 % 128 : Nat) : Int))).heap.size by have := R2.out.1; have := b1.size; simp; omega) ((kept_block (u := .int .u8 ((l.getD 31 0 % 128 : Nat) : Int)) (j := 31) hgw.2).trans (Below.heap b1 R2.out.1 R2.out.2)))
  rw [hl1] at OA hcap ⊢
  clear hM HBIT
  generalize l.getD 31 0 = x31 at *
  generalize x31 % 128 = z31 at *
  clear hl31 HL hl1 o1 b1 g1 R2 BEL H
  go_upto_region 6 with fail
  generalize w1.setCell ⟨g, 31, none⟩ (.int .u8 (z31 : Int)) = W6 at *
  have R2 := R2'
  have BEL := B1
  have SZ := hide BEL.out.size
  have SW6 : w.heap.size < W6.heap.size := R2.out.1
  clear B1 R2' e1 e2 f31 c31 hg2 hcap hcm hgw hg1
  refine wrl3 (tl := [isb M, nk Y]) (pre := [(4, 0)])
    (plan := [Pk.val [(4, 0)] 0, Pk.val [(26, 0)] 1, Pk.alc 37 16, Pk.sto 2 27 1])
    [0] [] [] 72 (by kernel_rfl) rfl (by kernel_rfl) ⟨.inl rfl, ⟨.inr (lull_n _ _ _), trivial⟩⟩
    snkAt0 snk0 ⟨OA.out, trivial⟩
   (Oc3 (fun a w X_ h => g_move (wq0 rfl) (.inl rfl) h.1)
   (Oc3 (fun a w X_ h => g_call1 (wq0 rfl) (by kernel_rfl) rfl (HFR.out _ _ h.1))
   (Oc3 (alc_of zn rfl rfl rfl newN)
   (Oc3 (⟨rfl, _, _, _, rfl, rfl, rfl, by kernel_rfl, row_n _⟩)
      OkL3.nil)))) ?_
  rintro W7 X7 v26 - v27 - g6 c6 ⟨L6, Z6, -⟩ r6 H6
  refine FinL3.fill ?_
  refine Fd3 ?_
  simp only [Act.put, List.setIfInBounds_toArray, List.set_cons_zero, List.set_cons_succ]
  have N6 := hide (nk_of H6)
  have R6 := hide (And.intro Z6 r6)
  clear r6
  replace R2 := hide (X7.row out0 R2.out)
  replace OA := hide (OA.out.ext X7.ext)
  replace BEL := hide (X7.on BEL.out SZ.out none_le)
  replace SZ := hide BEL.out.size
  have SW7 := X7.size
  clear X7 H6
  go_upto_region 7 with fail
  refine wrt3 (tl := [isv (.pointer (some ⟨g6, 0, none⟩)), nk Y, isb (bys Y.val 32), isv (.string (sob (bys Y.val 32))), isb M, isv (.string (sob M)), isv (.bool true)]) (pre := [(4, 4), (6, 0)])
    (plan := [Pk.val [(6, 0)] 1, Pk.val [(28, 1)] 2, Pk.val [(29, 2)] 3, Pk.val [(4, 4)] 4, Pk.val [(31, 4)] 5, Pk.val [(30, 3), (32, 5)] 6])
    [2, 4] [] [] (by kernel_rfl) 72 (by kernel_rfl) rfl (by kernel_rfl) ⟨.inr (lv0 _ _ _), ⟨.inr (lull_n _ _ _), ⟨.inl rfl, ⟨.inr (lv0 _ _ _), ⟨.inl rfl, ⟨.inr (lv0 _ _ _), ⟨.inr (lv0 _ _ _), trivial⟩⟩⟩⟩⟩⟩⟩
    snkAt0 snk0 ⟨OA.out, ⟨rfl, trivial⟩⟩
   (Oc3 (fun a w X_ h => g_ldn N6.out (wq0 rfl) rfl h.1 (X_.at_ R6.out.1 out0 R6.out.2))
   (Oc3 (fun a w X_ h => g_call1 (wq0 rfl) (by kernel_rfl) rfl (n_bytes_b h.1))
   (Oc3 (fun a w X_ h => g_str (wq0 rfl) rfl h.1 rfl)
   (Oc3 (fun a w X_ h => g_move (wq0 rfl) (.inl rfl) h.1)
   (Oc3 (fun a w X_ h => g_str (wq0 rfl) rfl h.1 rfl)
   (Oc3 (fun a w X_ h => g_nes (wq0 rfl) rfl h.1 h.2.1 (sob_nf (bys_lim _) HML.out HCAN.out))
      OkL3.nil)))))) ?_
  rintro W8 X8 v28 - v29 - _ rfl v31 - _ rfl _ rfl
  refine Fd3 ?_
  simp only [Act.put, List.setIfInBounds_toArray, List.set_cons_zero, List.set_cons_succ]
  replace R2 := hide (X8.row out0 R2.out)
  replace R6 := hide (X8.row out0 R6.out)
  replace BEL := hide (X8.on BEL.out SZ.out none_le)
  replace SZ := hide BEL.out.size
  have SW8 := X8.size
  clear X8
  go_upto_region 8 with fail
  refine wrl3 (tl := [qk (0 : Kp) (1 : Kp) (1 : Kp) (0 : Kp), isv (.bool false)]) (pre := [])
    (plan := [Pk.val [] 0, Pk.put 0 2 34 0, Pk.val [] 1])
    [] [(w.heap.size, 39, 64)] [(0, 2)] 72 (by kernel_rfl) rfl (by kernel_rfl) ⟨.inr (lull_q _ _ _ _ _ _), ⟨.inr (lv0 _ _ _), trivial⟩⟩
    (snkAt1 R2.out rfl rfl) (snk1 _) trivial
   (Oc3 (fun a w X_ h => g_call0 (wq0 rfl) (by kernel_rfl) rfl (q_zero))
   (Oc3 (⟨rfl, _, _, _, rfl, rfl, by kernel_rfl, row_q _ _ _ _⟩)
   (Oc3 (fun a w X_ h => g_move (wq0 rfl) (.inr rfl) rfl)
      OkL3.nil))) ?_
  rintro W9 X9 v34 - c2 r2 H2 _ rfl
  refine Fd3 ?_
  simp only [Act.put, List.setIfInBounds_toArray, List.set_cons_zero, List.set_cons_succ]
  have N2 := hide (qk_of H2)
  replace R2 := hide (And.intro (Nat.lt_of_lt_of_le R2.out.1 X9.size) r2)
  clear r2
  replace R6 := hide (X9.row (out1 (by omega)) R6.out)
  replace BEL := hide (X9.on BEL.out SZ.out (one_le (by omega)))
  replace SZ := hide BEL.out.size
  have SW9 := X9.size
  clear X9 H2
  go_wp2
  exact bodyPost_ret_by (results_row_tmp rfl _ _ (w.heap.size) 39 _ (0, 0) _ rfl R2.out.2 und36 rfl (by rw [N2.out.size]; exact sizeQ)) rfl ⟨_, rfl, BEL.out, HR.out _ _ (by rw [k_0mul]; exact N2.out)⟩
set_option linter.unusedSimpArgs false in
set_option maxRecDepth 100000 in
set_option maxHeartbeats 4000000 in
theorem up_n0 {l M : List Nat} {Y : Kp} {v : Value} {w : World} (h : BsAt w v l) (hl : l.length = 32) (hM : l.set 31 (l.getD 31 0 % 128) = M) (hY : yof l = Y) (hbit : l.getD 31 0 / 128 * 128 = 0) (hcan : bys Y.val 32 = M) (hrt : rt (Y * Y - (1 : Kp)) (dd * (Y * Y) + (1 : Kp)) = none) : Hands Tryz.prog 35 #[v] w (upb (0 : Kp) (1 : Kp) false) := by
  suffices HH : ∀ R_ : STy, (∀ W C, RQ C (0 : Kp) (1 : Kp) 1 ((0 : Kp) * (1 : Kp)) → R_.p W (.tuple #[.agg C, .bool false])) → Hands Tryz.prog 35 #[v] w R_ from HH _ (fun _ C h => ⟨C, rfl, h⟩)
  intro R_ hR_
  have HR := hide hR_
  have H := hide h
  have hl31 := h.lim 31
  obtain ⟨ao, c, rfl, _, hc_⟩ := h.len
  rw [hl] at H ⊢
  have HL := hide hl
  have HFR : Hid (∀ W u, BsAt W u M → Hands Tryz.prog 72 #[u] W (nk Y)) := fun W u hu => by rw [← hM] at hu; rw [← hY]; exact n_yof hu hl
  have HBIT := hide hbit
  clear hbit
  have HCAN := hide hcan
  clear hcan
  have HRT := hide hrt
  clear hrt
  clear h hR_ hl hY
  unfold Hands
  go_enter Tryz.func35, Tryz.ntmps35
  go_upto_region 1 with fail
  refine cut_world (fun W => Below w.heap.size w W ∧ w.heap.size < W.heap.size ∧ W.heap[w.heap.size]? = some (.cells zq 39 (0, 0))) ⟨(Below.refl _ _).alloc (Nat.le_refl _) _, by simp, heap_alloc_last _ _⟩ ?_
  rintro W1 ⟨BEL, R2⟩
  replace BEL := hide BEL
  replace R2 := hide R2
  go_wp2_with (at_builtin; refine wpList_append_b rfl _ (.tmp 14) rfl (base := W1.heap.size) (l := []) (m := l) (own_nilw W1) (H.out.ext BEL.out) (by rw [HL.out]; decide) (Nat.le_refl _) ?_)
  intro u w1 o1 g1
  have b1 : Below W1.heap.size W1 w1 := (Below.refl _ _).grown g1 (Nat.le_refl _) (by simp [Value.ownBlock])
  have hl1 := HL.out
  obtain ⟨g, cap, rfl, hg1, hg2, hcap, hcm⟩ := o1.form (by omega)
  have c31 : w1.cell? ⟨g, 31, none⟩ = some (.int .u8 ((l.getD 31 0 : Nat) : Int)) := by rw [o1.row.cellAt 31 (by omega), nv_get l 31 (by omega)]
  have f31 := o1.row.frozenAt 31
  have e1 := bits_and128 _ hl31
  rw [HBIT.out] at e1
  have e2 := bits_and127 _ hl31
  have OA0 : BsAt _ _ (l.set 31 (l.getD 31 0 % 128)) := (o1.set 31 (l.getD 31 0 % 128) (by omega)).at
  rw [hM] at OA0
  have OA := hide OA0
  have HML := hide OA0.lim
  clear OA0
  have hgw : w.heap.size ≤ g ∧ w.heap.size ≠ g := by have := R2.out.1; omega
  have B1 := hide (Below.setCell (Below.chain BEL.out b1) (p := ⟨g, 31, none⟩) hgw.1 (.int .u8 ((l.getD 31 0 % 128 : Nat) : Int)))
  have R2' := hide (And.intro (show w.heap.size < (w1.setCell ⟨g, 31, none⟩ (.int .u8 ((l.getD 31 0 % 128 : Nat) : Int))).heap.size by have := R2.out.1; have := b1.size; simp; omega) ((kept_block (u := .int .u8 ((l.getD 31 0 % 128 : Nat) : Int)) (j := 31) hgw.2).trans (Below.heap b1 R2.out.1 R2.out.2)))
  rw [hl1] at OA hcap ⊢
  clear hM HBIT
  generalize l.getD 31 0 = x31 at *
  generalize x31 % 128 = z31 at *
  clear hl31 HL hl1 o1 b1 g1 R2 BEL H
  go_upto_region 6 with fail
  generalize w1.setCell ⟨g, 31, none⟩ (.int .u8 (z31 : Int)) = W6 at *
  have R2 := R2'
  have BEL := B1
  have SZ := hide BEL.out.size
  have SW6 : w.heap.size < W6.heap.size := R2.out.1
  clear B1 R2' e1 e2 f31 c31 hg2 hcap hcm hgw hg1
  refine wrl3 (tl := [isb M, nk Y]) (pre := [(4, 0)])
    (plan := [Pk.val [(4, 0)] 0, Pk.val [(26, 0)] 1, Pk.alc 37 16, Pk.sto 2 27 1])
    [0] [] [] 72 (by kernel_rfl) rfl (by kernel_rfl) ⟨.inl rfl, ⟨.inr (lull_n _ _ _), trivial⟩⟩
    snkAt0 snk0 ⟨OA.out, trivial⟩
   (Oc3 (fun a w X_ h => g_move (wq0 rfl) (.inl rfl) h.1)
   (Oc3 (fun a w X_ h => g_call1 (wq0 rfl) (by kernel_rfl) rfl (HFR.out _ _ h.1))
   (Oc3 (alc_of zn rfl rfl rfl newN)
   (Oc3 (⟨rfl, _, _, _, rfl, rfl, rfl, by kernel_rfl, row_n _⟩)
      OkL3.nil)))) ?_
  rintro W7 X7 v26 - v27 - g6 c6 ⟨L6, Z6, -⟩ r6 H6
  refine FinL3.fill ?_
  refine Fd3 ?_
  simp only [Act.put, List.setIfInBounds_toArray, List.set_cons_zero, List.set_cons_succ]
  have N6 := hide (nk_of H6)
  have R6 := hide (And.intro Z6 r6)
  clear r6
  replace R2 := hide (X7.row out0 R2.out)
  replace OA := hide (OA.out.ext X7.ext)
  replace BEL := hide (X7.on BEL.out SZ.out none_le)
  replace SZ := hide BEL.out.size
  have SW7 := X7.size
  clear X7 H6
  go_upto_region 7 with fail
  refine wrt3 (tl := [isv (.pointer (some ⟨g6, 0, none⟩)), nk Y, isb (bys Y.val 32), isv (.string (sob (bys Y.val 32))), isb M, isv (.string (sob M)), isv (.bool false)]) (pre := [(4, 4), (6, 0)])
    (plan := [Pk.val [(6, 0)] 1, Pk.val [(28, 1)] 2, Pk.val [(29, 2)] 3, Pk.val [(4, 4)] 4, Pk.val [(31, 4)] 5, Pk.val [(30, 3), (32, 5)] 6])
    [2, 4] [] [] (by kernel_rfl) 72 (by kernel_rfl) rfl (by kernel_rfl) ⟨.inr (lv0 _ _ _), ⟨.inr (lull_n _ _ _), ⟨.inl rfl, ⟨.inr (lv0 _ _ _), ⟨.inl rfl, ⟨.inr (lv0 _ _ _), ⟨.inr (lv0 _ _ _), trivial⟩⟩⟩⟩⟩⟩⟩
    snkAt0 snk0 ⟨OA.out, ⟨rfl, trivial⟩⟩
   (Oc3 (fun a w X_ h => g_ldn N6.out (wq0 rfl) rfl h.1 (X_.at_ R6.out.1 out0 R6.out.2))
   (Oc3 (fun a w X_ h => g_call1 (wq0 rfl) (by kernel_rfl) rfl (n_bytes_b h.1))
   (Oc3 (fun a w X_ h => g_str (wq0 rfl) rfl h.1 rfl)
   (Oc3 (fun a w X_ h => g_move (wq0 rfl) (.inl rfl) h.1)
   (Oc3 (fun a w X_ h => g_str (wq0 rfl) rfl h.1 rfl)
   (Oc3 (fun a w X_ h => g_nes (wq0 rfl) rfl h.1 h.2.1 (sob_nt HCAN.out))
      OkL3.nil)))))) ?_
  rintro W8 X8 v28 - v29 - _ rfl v31 - _ rfl _ rfl
  refine Fd3 ?_
  simp only [Act.put, List.setIfInBounds_toArray, List.set_cons_zero, List.set_cons_succ]
  replace R2 := hide (X8.row out0 R2.out)
  replace R6 := hide (X8.row out0 R6.out)
  replace BEL := hide (X8.on BEL.out SZ.out none_le)
  replace SZ := hide BEL.out.size
  have SW8 := X8.size
  clear X8
  go_upto_region 9 with fail
  clear OA
  refine wrl3 (tl := [isv (.pointer (some ⟨g6, 0, none⟩)), nk Y, nk (Y * Y)]) (pre := [(6, 0)])
    (plan := [Pk.val [(6, 0)] 1, Pk.val [(6, 0)] 1, Pk.val [(35, 1), (36, 1)] 2, Pk.alc 37 16, Pk.sto 3 37 2])
    [] [] [] 72 (by kernel_rfl) rfl (by kernel_rfl) ⟨.inr (lv0 _ _ _), ⟨.inr (lull_n _ _ _), ⟨.inr (lull_n _ _ _), trivial⟩⟩⟩
    snkAt0 snk0 ⟨rfl, trivial⟩
   (Oc3 (fun a w X_ h => g_ldn N6.out (wq0 rfl) rfl h.1 (X_.at_ R6.out.1 out0 R6.out.2))
   (Oc3 (fun a w X_ h => g_ldn N6.out (wq0 rfl) rfl h.1 (X_.at_ R6.out.1 out0 R6.out.2))
   (Oc3 (fun a w X_ h => g_call2 (wq0 rfl) (by kernel_rfl) rfl (n_mul h.1 h.2.1))
   (Oc3 (alc_of zn rfl rfl rfl newN)
   (Oc3 (⟨rfl, _, _, _, rfl, rfl, rfl, by kernel_rfl, row_n _⟩)
      OkL3.nil))))) ?_
  rintro W10 X10 v35 - v36 - v37 - g7 c7 ⟨L7, Z7, -⟩ r7 H7
  refine FinL3.fill ?_
  refine Fd3 ?_
  simp only [Act.put, List.setIfInBounds_toArray, List.set_cons_zero, List.set_cons_succ]
  have N7 := hide (nk_of H7)
  have R7 := hide (And.intro Z7 r7)
  clear r7
  replace R2 := hide (X10.row out0 R2.out)
  replace R6 := hide (X10.row out0 R6.out)
  replace BEL := hide (X10.on BEL.out SZ.out none_le)
  replace SZ := hide BEL.out.size
  have SW10 := X10.size
  clear X10 H7
  go_upto_region 10 with fail
  refine wrt3 (tl := [isv (.pointer (some ⟨g7, 0, none⟩)), nk (Y * Y), nk (1 : Kp), nk ((Y * Y) - (1 : Kp)), nk dd, nk (dd * (Y * Y)), nk ((dd * (Y * Y)) + (1 : Kp)), nkb (0 : Kp) false, nk (0 : Kp), isv (.bool false)]) (pre := [(7, 0)])
    (plan := [Pk.val [(7, 0)] 1, Pk.val [] 2, Pk.val [(39, 1), (40, 2)] 3, Pk.val [] 4, Pk.val [(7, 0)] 1, Pk.val [(42, 4), (43, 1)] 5, Pk.val [] 2, Pk.val [(44, 5), (45, 2)] 6, Pk.val [(41, 3), (46, 6)] 7, Pk.val [(47, 7)] 7, Pk.val [(38, 7)] 8, Pk.val [(38, 7)] 9, Pk.alc 37 16, Pk.sto 12 48 8, Pk.val [(49, 9)] 9])
    [] [] [] (by kernel_rfl) 72 (by kernel_rfl) rfl (by kernel_rfl) ⟨.inr (lv0 _ _ _), ⟨.inr (lull_n _ _ _), ⟨.inr (lull_n _ _ _), ⟨.inr (lull_n _ _ _), ⟨.inr (lull_n _ _ _), ⟨.inr (lull_n _ _ _), ⟨.inr (lull_n _ _ _), ⟨.inr (lull_nb _ _ _ _), ⟨.inr (lull_n _ _ _), ⟨.inr (lv0 _ _ _), trivial⟩⟩⟩⟩⟩⟩⟩⟩⟩⟩
    snkAt0 snk0 ⟨rfl, trivial⟩
   (Oc3 (fun a w X_ h => g_ldn N7.out (wq0 rfl) rfl h.1 (X_.at_ R7.out.1 out0 R7.out.2))
   (Oc3 (fun a w X_ h => g_call1 (wq0 rfl) (by kernel_rfl) rfl (n_one rfl))
   (Oc3 (fun a w X_ h => g_call2 (wq0 rfl) (by kernel_rfl) rfl (n_sub h.1 h.2.1))
   (Oc3 (fun a w X_ h => g_call0 (wq0 rfl) (by kernel_rfl) rfl (n_dd))
   (Oc3 (fun a w X_ h => g_ldn N7.out (wq0 rfl) rfl h.1 (X_.at_ R7.out.1 out0 R7.out.2))
   (Oc3 (fun a w X_ h => g_call2 (wq0 rfl) (by kernel_rfl) rfl (n_mul h.1 h.2.1))
   (Oc3 (fun a w X_ h => g_call1 (wq0 rfl) (by kernel_rfl) rfl (n_one rfl))
   (Oc3 (fun a w X_ h => g_call2 (wq0 rfl) (by kernel_rfl) rfl (n_add h.1 h.2.1))
   (Oc3 (fun a w X_ h => g_call2 (wq0 rfl) (by kernel_rfl) rfl (n_root_n HRT.out h.1 h.2.1))
   (Oc3 (fun a w X_ h => g_move (wq0 rfl) (.inl rfl) h.1)
   (Oc3 (fun a w X_ h => g_ext_n0 (wq0 rfl) rfl h.1)
   (Oc3 (fun a w X_ h => g_ext_n1 (wq0 rfl) rfl h.1)
   (Oc3 (alc_of zn rfl rfl rfl newN)
   (Oc3 (⟨rfl, _, _, _, rfl, rfl, rfl, by kernel_rfl, row_n _⟩)
   (Oc3 (fun a w X_ h => g_move (wq0 rfl) (.inr rfl) h.1)
      OkL3.nil))))))))))))))) ?_
  rintro W11 X11 v39 - v40 - v41 - v42 - v43 - v44 - v45 - v46 - v47 - v38 - v48 - _ rfl g8 c8 ⟨L8, Z8, -⟩ r8 H8 _ rfl
  refine Fd3 ?_
  simp only [Act.put, List.setIfInBounds_toArray, List.set_cons_zero, List.set_cons_succ]
  have N8 := hide (nk_of H8)
  have R8 := hide (And.intro Z8 r8)
  clear r8
  replace R2 := hide (X11.row out0 R2.out)
  replace R6 := hide (X11.row out0 R6.out)
  replace R7 := hide (X11.row out0 R7.out)
  replace BEL := hide (X11.on BEL.out SZ.out none_le)
  replace SZ := hide BEL.out.size
  have SW11 := X11.size
  clear X11 H8
  go_upto_region 11 with fail
  refine wrl3 (tl := [isv (.bool false), isv (.bool true), isv (undef)]) (pre := [(9, 0)])
    (plan := [Pk.val [(9, 0)] 0, Pk.val [(50, 0)] 1, Pk.val [(51, 1)] 1, Pk.val [(52, 1)] 2, Pk.val [(52, 1)] 2, Pk.val [(54, 2)] 2, Pk.val [(54, 2)] 2, Pk.val [(54, 2)] 2, Pk.val [(52, 1)] 2, Pk.val [(52, 1)] 1])
    [] [] [] 72 (by kernel_rfl) rfl (by kernel_rfl) ⟨.inr (lv0 _ _ _), ⟨.inr (lv0 _ _ _), ⟨.inr (lv0 _ _ _), trivial⟩⟩⟩
    snkAt0 snk0 ⟨rfl, trivial⟩
   (Oc3 (fun a w X_ h => g_move (wq0 rfl) (.inl rfl) h.1)
   (Oc3 (fun a w X_ h => g_not (wq0 rfl) rfl h.1 rfl)
   (Oc3 (fun a w X_ h => g_move (wq0 rfl) (.inl rfl) h.1)
   (Oc3 (fun a w X_ h => g_skip rfl rfl h.1 rfl)
   (Oc3 (fun a w X_ h => g_skip rfl rfl h.1 rfl)
   (Oc3 (fun a w X_ h => g_skipu rfl rfl h.1 rfl)
   (Oc3 (fun a w X_ h => g_skipu rfl rfl h.1 rfl)
   (Oc3 (fun a w X_ h => g_skipu rfl rfl h.1 rfl)
   (Oc3 (fun a w X_ h => g_skip rfl rfl h.1 rfl)
   (Oc3 (fun a w X_ h => g_pick (wq0 rfl) rfl h.1 rfl)
      OkL3.nil)))))))))) ?_
  rintro W12 X12 _ rfl _ rfl _ rfl _ rfl _ rfl _ rfl _ rfl _ rfl _ rfl _ rfl
  refine Fd3 ?_
  simp only [Act.put, List.setIfInBounds_toArray, List.set_cons_zero, List.set_cons_succ]
  replace R2 := hide (X12.row out0 R2.out)
  replace R6 := hide (X12.row out0 R6.out)
  replace R7 := hide (X12.row out0 R7.out)
  replace R8 := hide (X12.row out0 R8.out)
  replace BEL := hide (X12.on BEL.out SZ.out none_le)
  replace SZ := hide BEL.out.size
  have SW12 := X12.size
  clear X12
  go_upto_region 12 with fail
  refine wrl3 (tl := [qk (0 : Kp) (1 : Kp) (1 : Kp) (0 : Kp), isv (.bool false)]) (pre := [])
    (plan := [Pk.val [] 0, Pk.put 0 2 60 0, Pk.val [] 1])
    [] [(w.heap.size, 39, 64)] [(0, 2)] 72 (by kernel_rfl) rfl (by kernel_rfl) ⟨.inr (lull_q _ _ _ _ _ _), ⟨.inr (lv0 _ _ _), trivial⟩⟩
    (snkAt1 R2.out rfl rfl) (snk1 _) trivial
   (Oc3 (fun a w X_ h => g_call0 (wq0 rfl) (by kernel_rfl) rfl (q_zero))
   (Oc3 (⟨rfl, _, _, _, rfl, rfl, by kernel_rfl, row_q _ _ _ _⟩)
   (Oc3 (fun a w X_ h => g_move (wq0 rfl) (.inr rfl) rfl)
      OkL3.nil))) ?_
  rintro W13 X13 v60 - c2 r2 H2 _ rfl
  refine Fd3 ?_
  simp only [Act.put, List.setIfInBounds_toArray, List.set_cons_zero, List.set_cons_succ]
  have N2 := hide (qk_of H2)
  replace R2 := hide (And.intro (Nat.lt_of_lt_of_le R2.out.1 X13.size) r2)
  clear r2
  replace R6 := hide (X13.row (out1 (by omega)) R6.out)
  replace R7 := hide (X13.row (out1 (by omega)) R7.out)
  replace R8 := hide (X13.row (out1 (by omega)) R8.out)
  replace BEL := hide (X13.on BEL.out SZ.out (one_le (by omega)))
  replace SZ := hide BEL.out.size
  have SW13 := X13.size
  clear X13 H2
  go_wp2
  exact bodyPost_ret_by (results_row_tmp rfl _ _ (w.heap.size) 39 _ (0, 0) _ rfl R2.out.2 und36 rfl (by rw [N2.out.size]; exact sizeQ)) rfl ⟨_, rfl, BEL.out, HR.out _ _ (by rw [k_0mul]; exact N2.out)⟩
set_option linter.unusedSimpArgs false in
set_option maxRecDepth 100000 in
set_option maxHeartbeats 4000000 in
theorem up_n1 {l M : List Nat} {Y : Kp} {v : Value} {w : World} (h : BsAt w v l) (hl : l.length = 32) (hM : l.set 31 (l.getD 31 0 % 128) = M) (hY : yof l = Y) (hbit : l.getD 31 0 / 128 * 128 = 128) (hcan : bys Y.val 32 = M) (hrt : rt (Y * Y - (1 : Kp)) (dd * (Y * Y) + (1 : Kp)) = none) : Hands Tryz.prog 35 #[v] w (upb (0 : Kp) (1 : Kp) false) := by
  suffices HH : ∀ R_ : STy, (∀ W C, RQ C (0 : Kp) (1 : Kp) 1 ((0 : Kp) * (1 : Kp)) → R_.p W (.tuple #[.agg C, .bool false])) → Hands Tryz.prog 35 #[v] w R_ from HH _ (fun _ C h => ⟨C, rfl, h⟩)
  intro R_ hR_
  have HR := hide hR_
  have H := hide h
  have hl31 := h.lim 31
  obtain ⟨ao, c, rfl, _, hc_⟩ := h.len
  rw [hl] at H ⊢
  have HL := hide hl
  have HFR : Hid (∀ W u, BsAt W u M → Hands Tryz.prog 72 #[u] W (nk Y)) := fun W u hu => by rw [← hM] at hu; rw [← hY]; exact n_yof hu hl
  have HBIT := hide hbit
  clear hbit
  have HCAN := hide hcan
  clear hcan
  have HRT := hide hrt
  clear hrt
  clear h hR_ hl hY
  unfold Hands
  go_enter Tryz.func35, Tryz.ntmps35
  go_upto_region 1 with fail
  refine cut_world (fun W => Below w.heap.size w W ∧ w.heap.size < W.heap.size ∧ W.heap[w.heap.size]? = some (.cells zq 39 (0, 0))) ⟨(Below.refl _ _).alloc (Nat.le_refl _) _, by simp, heap_alloc_last _ _⟩ ?_
  rintro W1 ⟨BEL, R2⟩
  replace BEL := hide BEL
  replace R2 := hide R2
  go_wp2_with (at_builtin; refine wpList_append_b rfl _ (.tmp 14) rfl (base := W1.heap.size) (l := []) (m := l) (own_nilw W1) (H.out.ext BEL.out) (by rw [HL.out]; decide) (Nat.le_refl _) ?_)
  intro u w1 o1 g1
  have b1 : Below W1.heap.size W1 w1 := (Below.refl _ _).grown g1 (Nat.le_refl _) (by simp [Value.ownBlock])
  have hl1 := HL.out
  obtain ⟨g, cap, rfl, hg1, hg2, hcap, hcm⟩ := o1.form (by omega)
  have c31 : w1.cell? ⟨g, 31, none⟩ = some (.int .u8 ((l.getD 31 0 : Nat) : Int)) := by rw [o1.row.cellAt 31 (by omega), nv_get l 31 (by omega)]
  have f31 := o1.row.frozenAt 31
  have e1 := bits_and128 _ hl31
  rw [HBIT.out] at e1
  have e2 := bits_and127 _ hl31
  have OA0 : BsAt _ _ (l.set 31 (l.getD 31 0 % 128)) := (o1.set 31 (l.getD 31 0 % 128) (by omega)).at
  rw [hM] at OA0
  have OA := hide OA0
  have HML := hide OA0.lim
  clear OA0
  have hgw : w.heap.size ≤ g ∧ w.heap.size ≠ g := by have := R2.out.1; omega
  have B1 := hide (Below.setCell (Below.chain BEL.out b1) (p := ⟨g, 31, none⟩) hgw.1 (.int .u8 ((l.getD 31 0 % 128 : Nat) : Int)))
  have R2' := hide (And.intro (show w.heap.size < (w1.setCell ⟨g, 31, none⟩ (.int .u8 ((l.getD 31 0 % 128 : Nat) : Int))).heap.size by have := R2.out.1; have := b1.size; simp; omega) ((kept_block (u := .int .u8 ((l.getD 31 0 % 128 : Nat) : Int)) (j := 31) hgw.2).trans (Below.heap b1 R2.out.1 R2.out.2)))
  rw [hl1] at OA hcap ⊢
  clear hM HBIT
  generalize l.getD 31 0 = x31 at *
  generalize x31 % 128 = z31 at *
  clear hl31 HL hl1 o1 b1 g1 R2 BEL H
  go_upto_region 6 with fail
  generalize w1.setCell ⟨g, 31, none⟩ (.int .u8 (z31 : Int)) = W6 at *
  have R2 := R2'
  have BEL := B1
  have SZ := hide BEL.out.size
  have SW6 : w.heap.size < W6.heap.size := R2.out.1
  clear B1 R2' e1 e2 f31 c31 hg2 hcap hcm hgw hg1
  refine wrl3 (tl := [isb M, nk Y]) (pre := [(4, 0)])
    (plan := [Pk.val [(4, 0)] 0, Pk.val [(26, 0)] 1, Pk.alc 37 16, Pk.sto 2 27 1])
    [0] [] [] 72 (by kernel_rfl) rfl (by kernel_rfl) ⟨.inl rfl, ⟨.inr (lull_n _ _ _), trivial⟩⟩
    snkAt0 snk0 ⟨OA.out, trivial⟩
   (Oc3 (fun a w X_ h => g_move (wq0 rfl) (.inl rfl) h.1)
   (Oc3 (fun a w X_ h => g_call1 (wq0 rfl) (by kernel_rfl) rfl (HFR.out _ _ h.1))
   (Oc3 (alc_of zn rfl rfl rfl newN)
   (Oc3 (⟨rfl, _, _, _, rfl, rfl, rfl, by kernel_rfl, row_n _⟩)
      OkL3.nil)))) ?_
  rintro W7 X7 v26 - v27 - g6 c6 ⟨L6, Z6, -⟩ r6 H6
  refine FinL3.fill ?_
  refine Fd3 ?_
  simp only [Act.put, List.setIfInBounds_toArray, List.set_cons_zero, List.set_cons_succ]
  have N6 := hide (nk_of H6)
  have R6 := hide (And.intro Z6 r6)
  clear r6
  replace R2 := hide (X7.row out0 R2.out)
  replace OA := hide (OA.out.ext X7.ext)
  replace BEL := hide (X7.on BEL.out SZ.out none_le)
  replace SZ := hide BEL.out.size
  have SW7 := X7.size
  clear X7 H6
  go_upto_region 7 with fail
  refine wrt3 (tl := [isv (.pointer (some ⟨g6, 0, none⟩)), nk Y, isb (bys Y.val 32), isv (.string (sob (bys Y.val 32))), isb M, isv (.string (sob M)), isv (.bool false)]) (pre := [(4, 4), (6, 0)])
    (plan := [Pk.val [(6, 0)] 1, Pk.val [(28, 1)] 2, Pk.val [(29, 2)] 3, Pk.val [(4, 4)] 4, Pk.val [(31, 4)] 5, Pk.val [(30, 3), (32, 5)] 6])
    [2, 4] [] [] (by kernel_rfl) 72 (by kernel_rfl) rfl (by kernel_rfl) ⟨.inr (lv0 _ _ _), ⟨.inr (lull_n _ _ _), ⟨.inl rfl, ⟨.inr (lv0 _ _ _), ⟨.inl rfl, ⟨.inr (lv0 _ _ _), ⟨.inr (lv0 _ _ _), trivial⟩⟩⟩⟩⟩⟩⟩
    snkAt0 snk0 ⟨OA.out, ⟨rfl, trivial⟩⟩
   (Oc3 (fun a w X_ h => g_ldn N6.out (wq0 rfl) rfl h.1 (X_.at_ R6.out.1 out0 R6.out.2))
   (Oc3 (fun a w X_ h => g_call1 (wq0 rfl) (by kernel_rfl) rfl (n_bytes_b h.1))
   (Oc3 (fun a w X_ h => g_str (wq0 rfl) rfl h.1 rfl)
   (Oc3 (fun a w X_ h => g_move (wq0 rfl) (.inl rfl) h.1)
   (Oc3 (fun a w X_ h => g_str (wq0 rfl) rfl h.1 rfl)
   (Oc3 (fun a w X_ h => g_nes (wq0 rfl) rfl h.1 h.2.1 (sob_nt HCAN.out))
      OkL3.nil)))))) ?_
  rintro W8 X8 v28 - v29 - _ rfl v31 - _ rfl _ rfl
  refine Fd3 ?_
  simp only [Act.put, List.setIfInBounds_toArray, List.set_cons_zero, List.set_cons_succ]
  replace R2 := hide (X8.row out0 R2.out)
  replace R6 := hide (X8.row out0 R6.out)
  replace BEL := hide (X8.on BEL.out SZ.out none_le)
  replace SZ := hide BEL.out.size
  have SW8 := X8.size
  clear X8
  go_upto_region 9 with fail
  clear OA
  refine wrl3 (tl := [isv (.pointer (some ⟨g6, 0, none⟩)), nk Y, nk (Y * Y)]) (pre := [(6, 0)])
    (plan := [Pk.val [(6, 0)] 1, Pk.val [(6, 0)] 1, Pk.val [(35, 1), (36, 1)] 2, Pk.alc 37 16, Pk.sto 3 37 2])
    [] [] [] 72 (by kernel_rfl) rfl (by kernel_rfl) ⟨.inr (lv0 _ _ _), ⟨.inr (lull_n _ _ _), ⟨.inr (lull_n _ _ _), trivial⟩⟩⟩
    snkAt0 snk0 ⟨rfl, trivial⟩
   (Oc3 (fun a w X_ h => g_ldn N6.out (wq0 rfl) rfl h.1 (X_.at_ R6.out.1 out0 R6.out.2))
   (Oc3 (fun a w X_ h => g_ldn N6.out (wq0 rfl) rfl h.1 (X_.at_ R6.out.1 out0 R6.out.2))
   (Oc3 (fun a w X_ h => g_call2 (wq0 rfl) (by kernel_rfl) rfl (n_mul h.1 h.2.1))
   (Oc3 (alc_of zn rfl rfl rfl newN)
   (Oc3 (⟨rfl, _, _, _, rfl, rfl, rfl, by kernel_rfl, row_n _⟩)
      OkL3.nil))))) ?_
  rintro W10 X10 v35 - v36 - v37 - g7 c7 ⟨L7, Z7, -⟩ r7 H7
  refine FinL3.fill ?_
  refine Fd3 ?_
  simp only [Act.put, List.setIfInBounds_toArray, List.set_cons_zero, List.set_cons_succ]
  have N7 := hide (nk_of H7)
  have R7 := hide (And.intro Z7 r7)
  clear r7
  replace R2 := hide (X10.row out0 R2.out)
  replace R6 := hide (X10.row out0 R6.out)
  replace BEL := hide (X10.on BEL.out SZ.out none_le)
  replace SZ := hide BEL.out.size
  have SW10 := X10.size
  clear X10 H7
  go_upto_region 10 with fail
  refine wrt3 (tl := [isv (.pointer (some ⟨g7, 0, none⟩)), nk (Y * Y), nk (1 : Kp), nk ((Y * Y) - (1 : Kp)), nk dd, nk (dd * (Y * Y)), nk ((dd * (Y * Y)) + (1 : Kp)), nkb (0 : Kp) false, nk (0 : Kp), isv (.bool false)]) (pre := [(7, 0)])
    (plan := [Pk.val [(7, 0)] 1, Pk.val [] 2, Pk.val [(39, 1), (40, 2)] 3, Pk.val [] 4, Pk.val [(7, 0)] 1, Pk.val [(42, 4), (43, 1)] 5, Pk.val [] 2, Pk.val [(44, 5), (45, 2)] 6, Pk.val [(41, 3), (46, 6)] 7, Pk.val [(47, 7)] 7, Pk.val [(38, 7)] 8, Pk.val [(38, 7)] 9, Pk.alc 37 16, Pk.sto 12 48 8, Pk.val [(49, 9)] 9])
    [] [] [] (by kernel_rfl) 72 (by kernel_rfl) rfl (by kernel_rfl) ⟨.inr (lv0 _ _ _), ⟨.inr (lull_n _ _ _), ⟨.inr (lull_n _ _ _), ⟨.inr (lull_n _ _ _), ⟨.inr (lull_n _ _ _), ⟨.inr (lull_n _ _ _), ⟨.inr (lull_n _ _ _), ⟨.inr (lull_nb _ _ _ _), ⟨.inr (lull_n _ _ _), ⟨.inr (lv0 _ _ _), trivial⟩⟩⟩⟩⟩⟩⟩⟩⟩⟩
    snkAt0 snk0 ⟨rfl, trivial⟩
   (Oc3 (fun a w X_ h => g_ldn N7.out (wq0 rfl) rfl h.1 (X_.at_ R7.out.1 out0 R7.out.2))
   (Oc3 (fun a w X_ h => g_call1 (wq0 rfl) (by kernel_rfl) rfl (n_one rfl))
   (Oc3 (fun a w X_ h => g_call2 (wq0 rfl) (by kernel_rfl) rfl (n_sub h.1 h.2.1))
   (Oc3 (fun a w X_ h => g_call0 (wq0 rfl) (by kernel_rfl) rfl (n_dd))
   (Oc3 (fun a w X_ h => g_ldn N7.out (wq0 rfl) rfl h.1 (X_.at_ R7.out.1 out0 R7.out.2))
   (Oc3 (fun a w X_ h => g_call2 (wq0 rfl) (by kernel_rfl) rfl (n_mul h.1 h.2.1))
   (Oc3 (fun a w X_ h => g_call1 (wq0 rfl) (by kernel_rfl) rfl (n_one rfl))
   (Oc3 (fun a w X_ h => g_call2 (wq0 rfl) (by kernel_rfl) rfl (n_add h.1 h.2.1))
   (Oc3 (fun a w X_ h => g_call2 (wq0 rfl) (by kernel_rfl) rfl (n_root_n HRT.out h.1 h.2.1))
   (Oc3 (fun a w X_ h => g_move (wq0 rfl) (.inl rfl) h.1)
   (Oc3 (fun a w X_ h => g_ext_n0 (wq0 rfl) rfl h.1)
   (Oc3 (fun a w X_ h => g_ext_n1 (wq0 rfl) rfl h.1)
   (Oc3 (alc_of zn rfl rfl rfl newN)
   (Oc3 (⟨rfl, _, _, _, rfl, rfl, rfl, by kernel_rfl, row_n _⟩)
   (Oc3 (fun a w X_ h => g_move (wq0 rfl) (.inr rfl) h.1)
      OkL3.nil))))))))))))))) ?_
  rintro W11 X11 v39 - v40 - v41 - v42 - v43 - v44 - v45 - v46 - v47 - v38 - v48 - _ rfl g8 c8 ⟨L8, Z8, -⟩ r8 H8 _ rfl
  refine Fd3 ?_
  simp only [Act.put, List.setIfInBounds_toArray, List.set_cons_zero, List.set_cons_succ]
  have N8 := hide (nk_of H8)
  have R8 := hide (And.intro Z8 r8)
  clear r8
  replace R2 := hide (X11.row out0 R2.out)
  replace R6 := hide (X11.row out0 R6.out)
  replace R7 := hide (X11.row out0 R7.out)
  replace BEL := hide (X11.on BEL.out SZ.out none_le)
  replace SZ := hide BEL.out.size
  have SW11 := X11.size
  clear X11 H8
  go_upto_region 11 with fail
  refine wrl3 (tl := [isv (.bool false), isv (.bool true), isv (undef)]) (pre := [(9, 0)])
    (plan := [Pk.val [(9, 0)] 0, Pk.val [(50, 0)] 1, Pk.val [(51, 1)] 1, Pk.val [(52, 1)] 2, Pk.val [(52, 1)] 2, Pk.val [(54, 2)] 2, Pk.val [(54, 2)] 2, Pk.val [(54, 2)] 2, Pk.val [(52, 1)] 2, Pk.val [(52, 1)] 1])
    [] [] [] 72 (by kernel_rfl) rfl (by kernel_rfl) ⟨.inr (lv0 _ _ _), ⟨.inr (lv0 _ _ _), ⟨.inr (lv0 _ _ _), trivial⟩⟩⟩
    snkAt0 snk0 ⟨rfl, trivial⟩
   (Oc3 (fun a w X_ h => g_move (wq0 rfl) (.inl rfl) h.1)
   (Oc3 (fun a w X_ h => g_not (wq0 rfl) rfl h.1 rfl)
   (Oc3 (fun a w X_ h => g_move (wq0 rfl) (.inl rfl) h.1)
   (Oc3 (fun a w X_ h => g_skip rfl rfl h.1 rfl)
   (Oc3 (fun a w X_ h => g_skip rfl rfl h.1 rfl)
   (Oc3 (fun a w X_ h => g_skipu rfl rfl h.1 rfl)
   (Oc3 (fun a w X_ h => g_skipu rfl rfl h.1 rfl)
   (Oc3 (fun a w X_ h => g_skipu rfl rfl h.1 rfl)
   (Oc3 (fun a w X_ h => g_skip rfl rfl h.1 rfl)
   (Oc3 (fun a w X_ h => g_pick (wq0 rfl) rfl h.1 rfl)
      OkL3.nil)))))))))) ?_
  rintro W12 X12 _ rfl _ rfl _ rfl _ rfl _ rfl _ rfl _ rfl _ rfl _ rfl _ rfl
  refine Fd3 ?_
  simp only [Act.put, List.setIfInBounds_toArray, List.set_cons_zero, List.set_cons_succ]
  replace R2 := hide (X12.row out0 R2.out)
  replace R6 := hide (X12.row out0 R6.out)
  replace R7 := hide (X12.row out0 R7.out)
  replace R8 := hide (X12.row out0 R8.out)
  replace BEL := hide (X12.on BEL.out SZ.out none_le)
  replace SZ := hide BEL.out.size
  have SW12 := X12.size
  clear X12
  go_upto_region 12 with fail
  refine wrl3 (tl := [qk (0 : Kp) (1 : Kp) (1 : Kp) (0 : Kp), isv (.bool false)]) (pre := [])
    (plan := [Pk.val [] 0, Pk.put 0 2 60 0, Pk.val [] 1])
    [] [(w.heap.size, 39, 64)] [(0, 2)] 72 (by kernel_rfl) rfl (by kernel_rfl) ⟨.inr (lull_q _ _ _ _ _ _), ⟨.inr (lv0 _ _ _), trivial⟩⟩
    (snkAt1 R2.out rfl rfl) (snk1 _) trivial
   (Oc3 (fun a w X_ h => g_call0 (wq0 rfl) (by kernel_rfl) rfl (q_zero))
   (Oc3 (⟨rfl, _, _, _, rfl, rfl, by kernel_rfl, row_q _ _ _ _⟩)
   (Oc3 (fun a w X_ h => g_move (wq0 rfl) (.inr rfl) rfl)
      OkL3.nil))) ?_
  rintro W13 X13 v60 - c2 r2 H2 _ rfl
  refine Fd3 ?_
  simp only [Act.put, List.setIfInBounds_toArray, List.set_cons_zero, List.set_cons_succ]
  have N2 := hide (qk_of H2)
  replace R2 := hide (And.intro (Nat.lt_of_lt_of_le R2.out.1 X13.size) r2)
  clear r2
  replace R6 := hide (X13.row (out1 (by omega)) R6.out)
  replace R7 := hide (X13.row (out1 (by omega)) R7.out)
  replace R8 := hide (X13.row (out1 (by omega)) R8.out)
  replace BEL := hide (X13.on BEL.out SZ.out (one_le (by omega)))
  replace SZ := hide BEL.out.size
  have SW13 := X13.size
  clear X13 H2
  go_wp2
  exact bodyPost_ret_by (results_row_tmp rfl _ _ (w.heap.size) 39 _ (0, 0) _ rfl R2.out.2 und36 rfl (by rw [N2.out.size]; exact sizeQ)) rfl ⟨_, rfl, BEL.out, HR.out _ _ (by rw [k_0mul]; exact N2.out)⟩
set_option linter.unusedSimpArgs false in
set_option maxRecDepth 100000 in
set_option maxHeartbeats 4000000 in
theorem up_z1 {l M : List Nat} {x Y : Kp} {v : Value} {w : World} (h : BsAt w v l) (hl : l.length = 32) (hM : l.set 31 (l.getD 31 0 % 128) = M) (hY : yof l = Y) (hbit : l.getD 31 0 / 128 * 128 = 128) (hcan : bys Y.val 32 = M) (hrt : rt (Y * Y - (1 : Kp)) (dd * (Y * Y) + (1 : Kp)) = some x) (hx : x = 0) : Hands Tryz.prog 35 #[v] w (upb (0 : Kp) (1 : Kp) false) := by
  suffices HH : ∀ R_ : STy, (∀ W C, RQ C (0 : Kp) (1 : Kp) 1 ((0 : Kp) * (1 : Kp)) → R_.p W (.tuple #[.agg C, .bool false])) → Hands Tryz.prog 35 #[v] w R_ from HH _ (fun _ C h => ⟨C, rfl, h⟩)
  intro R_ hR_
  have HR := hide hR_
  have H := hide h
  have hl31 := h.lim 31
  obtain ⟨ao, c, rfl, _, hc_⟩ := h.len
  rw [hl] at H ⊢
  have HL := hide hl
  have HFR : Hid (∀ W u, BsAt W u M → Hands Tryz.prog 72 #[u] W (nk Y)) := fun W u hu => by rw [← hM] at hu; rw [← hY]; exact n_yof hu hl
  have HBIT := hide hbit
  clear hbit
  have HCAN := hide hcan
  clear hcan
  have HRT := hide hrt
  clear hrt
  have HX := hide hx
  clear hx
  clear h hR_ hl hY
  unfold Hands
  go_enter Tryz.func35, Tryz.ntmps35
  go_upto_region 1 with fail
  refine cut_world (fun W => Below w.heap.size w W ∧ w.heap.size < W.heap.size ∧ W.heap[w.heap.size]? = some (.cells zq 39 (0, 0))) ⟨(Below.refl _ _).alloc (Nat.le_refl _) _, by simp, heap_alloc_last _ _⟩ ?_
  rintro W1 ⟨BEL, R2⟩
  replace BEL := hide BEL
  replace R2 := hide R2
  go_wp2_with (at_builtin; refine wpList_append_b rfl _ (.tmp 14) rfl (base := W1.heap.size) (l := []) (m := l) (own_nilw W1) (H.out.ext BEL.out) (by rw [HL.out]; decide) (Nat.le_refl _) ?_)
  intro u w1 o1 g1
  have b1 : Below W1.heap.size W1 w1 := (Below.refl _ _).grown g1 (Nat.le_refl _) (by simp [Value.ownBlock])
  have hl1 := HL.out
  obtain ⟨g, cap, rfl, hg1, hg2, hcap, hcm⟩ := o1.form (by omega)
  have c31 : w1.cell? ⟨g, 31, none⟩ = some (.int .u8 ((l.getD 31 0 : Nat) : Int)) := by rw [o1.row.cellAt 31 (by omega), nv_get l 31 (by omega)]
  have f31 := o1.row.frozenAt 31
  have e1 := bits_and128 _ hl31
  rw [HBIT.out] at e1
  have e2 := bits_and127 _ hl31
  have OA0 : BsAt _ _ (l.set 31 (l.getD 31 0 % 128)) := (o1.set 31 (l.getD 31 0 % 128) (by omega)).at
  rw [hM] at OA0
  have OA := hide OA0
  have HML := hide OA0.lim
  clear OA0
  have hgw : w.heap.size ≤ g ∧ w.heap.size ≠ g := by have := R2.out.1; omega
  have B1 := hide (Below.setCell (Below.chain BEL.out b1) (p := ⟨g, 31, none⟩) hgw.1 (.int .u8 ((l.getD 31 0 % 128 : Nat) : Int)))
  have R2' := hide (And.intro (show w.heap.size < (w1.setCell ⟨g, 31, none⟩ (.int .u8 ((l.getD 31 0 % 128 : Nat) : Int))).heap.size by have := R2.out.1; have := b1.size; simp; omega) ((kept_block (u := .int .u8 ((l.getD 31 0 % 128 : Nat) : Int)) (j := 31) hgw.2).trans (Below.heap b1 R2.out.1 R2.out.2)))
  rw [hl1] at OA hcap ⊢
  clear hM HBIT
  generalize l.getD 31 0 = x31 at *
  generalize x31 % 128 = z31 at *
  clear hl31 HL hl1 o1 b1 g1 R2 BEL H
  go_upto_region 6 with fail
  generalize w1.setCell ⟨g, 31, none⟩ (.int .u8 (z31 : Int)) = W6 at *
  have R2 := R2'
  have BEL := B1
  have SZ := hide BEL.out.size
  have SW6 : w.heap.size < W6.heap.size := R2.out.1
  clear B1 R2' e1 e2 f31 c31 hg2 hcap hcm hgw hg1
  refine wrl3 (tl := [isb M, nk Y]) (pre := [(4, 0)])
    (plan := [Pk.val [(4, 0)] 0, Pk.val [(26, 0)] 1, Pk.alc 37 16, Pk.sto 2 27 1])
    [0] [] [] 72 (by kernel_rfl) rfl (by kernel_rfl) ⟨.inl rfl, ⟨.inr (lull_n _ _ _), trivial⟩⟩
    snkAt0 snk0 ⟨OA.out, trivial⟩
   (Oc3 (fun a w X_ h => g_move (wq0 rfl) (.inl rfl) h.1)
   (Oc3 (fun a w X_ h => g_call1 (wq0 rfl) (by kernel_rfl) rfl (HFR.out _ _ h.1))
   (Oc3 (alc_of zn rfl rfl rfl newN)
   (Oc3 (⟨rfl, _, _, _, rfl, rfl, rfl, by kernel_rfl, row_n _⟩)
      OkL3.nil)))) ?_
  rintro W7 X7 v26 - v27 - g6 c6 ⟨L6, Z6, -⟩ r6 H6
  refine FinL3.fill ?_
  refine Fd3 ?_
  simp only [Act.put, List.setIfInBounds_toArray, List.set_cons_zero, List.set_cons_succ]
  have N6 := hide (nk_of H6)
  have R6 := hide (And.intro Z6 r6)
  clear r6
  replace R2 := hide (X7.row out0 R2.out)
  replace OA := hide (OA.out.ext X7.ext)
  replace BEL := hide (X7.on BEL.out SZ.out none_le)
  replace SZ := hide BEL.out.size
  have SW7 := X7.size
  clear X7 H6
  go_upto_region 7 with fail
  refine wrt3 (tl := [isv (.pointer (some ⟨g6, 0, none⟩)), nk Y, isb (bys Y.val 32), isv (.string (sob (bys Y.val 32))), isb M, isv (.string (sob M)), isv (.bool false)]) (pre := [(4, 4), (6, 0)])
    (plan := [Pk.val [(6, 0)] 1, Pk.val [(28, 1)] 2, Pk.val [(29, 2)] 3, Pk.val [(4, 4)] 4, Pk.val [(31, 4)] 5, Pk.val [(30, 3), (32, 5)] 6])
    [2, 4] [] [] (by kernel_rfl) 72 (by kernel_rfl) rfl (by kernel_rfl) ⟨.inr (lv0 _ _ _), ⟨.inr (lull_n _ _ _), ⟨.inl rfl, ⟨.inr (lv0 _ _ _), ⟨.inl rfl, ⟨.inr (lv0 _ _ _), ⟨.inr (lv0 _ _ _), trivial⟩⟩⟩⟩⟩⟩⟩
    snkAt0 snk0 ⟨OA.out, ⟨rfl, trivial⟩⟩
   (Oc3 (fun a w X_ h => g_ldn N6.out (wq0 rfl) rfl h.1 (X_.at_ R6.out.1 out0 R6.out.2))
   (Oc3 (fun a w X_ h => g_call1 (wq0 rfl) (by kernel_rfl) rfl (n_bytes_b h.1))
   (Oc3 (fun a w X_ h => g_str (wq0 rfl) rfl h.1 rfl)
   (Oc3 (fun a w X_ h => g_move (wq0 rfl) (.inl rfl) h.1)
   (Oc3 (fun a w X_ h => g_str (wq0 rfl) rfl h.1 rfl)
   (Oc3 (fun a w X_ h => g_nes (wq0 rfl) rfl h.1 h.2.1 (sob_nt HCAN.out))
      OkL3.nil)))))) ?_
  rintro W8 X8 v28 - v29 - _ rfl v31 - _ rfl _ rfl
  refine Fd3 ?_
  simp only [Act.put, List.setIfInBounds_toArray, List.set_cons_zero, List.set_cons_succ]
  replace R2 := hide (X8.row out0 R2.out)
  replace R6 := hide (X8.row out0 R6.out)
  replace BEL := hide (X8.on BEL.out SZ.out none_le)
  replace SZ := hide BEL.out.size
  have SW8 := X8.size
  clear X8
  go_upto_region 9 with fail
  clear OA
  refine wrl3 (tl := [isv (.pointer (some ⟨g6, 0, none⟩)), nk Y, nk (Y * Y)]) (pre := [(6, 0)])
    (plan := [Pk.val [(6, 0)] 1, Pk.val [(6, 0)] 1, Pk.val [(35, 1), (36, 1)] 2, Pk.alc 37 16, Pk.sto 3 37 2])
    [] [] [] 72 (by kernel_rfl) rfl (by kernel_rfl) ⟨.inr (lv0 _ _ _), ⟨.inr (lull_n _ _ _), ⟨.inr (lull_n _ _ _), trivial⟩⟩⟩
    snkAt0 snk0 ⟨rfl, trivial⟩
   (Oc3 (fun a w X_ h => g_ldn N6.out (wq0 rfl) rfl h.1 (X_.at_ R6.out.1 out0 R6.out.2))
   (Oc3 (fun a w X_ h => g_ldn N6.out (wq0 rfl) rfl h.1 (X_.at_ R6.out.1 out0 R6.out.2))
   (Oc3 (fun a w X_ h => g_call2 (wq0 rfl) (by kernel_rfl) rfl (n_mul h.1 h.2.1))
   (Oc3 (alc_of zn rfl rfl rfl newN)
   (Oc3 (⟨rfl, _, _, _, rfl, rfl, rfl, by kernel_rfl, row_n _⟩)
      OkL3.nil))))) ?_
  rintro W10 X10 v35 - v36 - v37 - g7 c7 ⟨L7, Z7, -⟩ r7 H7
  refine FinL3.fill ?_
  refine Fd3 ?_
  simp only [Act.put, List.setIfInBounds_toArray, List.set_cons_zero, List.set_cons_succ]
  have N7 := hide (nk_of H7)
  have R7 := hide (And.intro Z7 r7)
  clear r7
  replace R2 := hide (X10.row out0 R2.out)
  replace R6 := hide (X10.row out0 R6.out)
  replace BEL := hide (X10.on BEL.out SZ.out none_le)
  replace SZ := hide BEL.out.size
  have SW10 := X10.size
  clear X10 H7
  go_upto_region 10 with fail
  refine wrt3 (tl := [isv (.pointer (some ⟨g7, 0, none⟩)), nk (Y * Y), nk (1 : Kp), nk ((Y * Y) - (1 : Kp)), nk dd, nk (dd * (Y * Y)), nk ((dd * (Y * Y)) + (1 : Kp)), nkb x true, nk x, isv (.bool true)]) (pre := [(7, 0)])
    (plan := [Pk.val [(7, 0)] 1, Pk.val [] 2, Pk.val [(39, 1), (40, 2)] 3, Pk.val [] 4, Pk.val [(7, 0)] 1, Pk.val [(42, 4), (43, 1)] 5, Pk.val [] 2, Pk.val [(44, 5), (45, 2)] 6, Pk.val [(41, 3), (46, 6)] 7, Pk.val [(47, 7)] 7, Pk.val [(38, 7)] 8, Pk.val [(38, 7)] 9, Pk.alc 37 16, Pk.sto 12 48 8, Pk.val [(49, 9)] 9])
    [] [] [] (by kernel_rfl) 72 (by kernel_rfl) rfl (by kernel_rfl) ⟨.inr (lv0 _ _ _), ⟨.inr (lull_n _ _ _), ⟨.inr (lull_n _ _ _), ⟨.inr (lull_n _ _ _), ⟨.inr (lull_n _ _ _), ⟨.inr (lull_n _ _ _), ⟨.inr (lull_n _ _ _), ⟨.inr (lull_nb _ _ _ _), ⟨.inr (lull_n _ _ _), ⟨.inr (lv0 _ _ _), trivial⟩⟩⟩⟩⟩⟩⟩⟩⟩⟩
    snkAt0 snk0 ⟨rfl, trivial⟩
   (Oc3 (fun a w X_ h => g_ldn N7.out (wq0 rfl) rfl h.1 (X_.at_ R7.out.1 out0 R7.out.2))
   (Oc3 (fun a w X_ h => g_call1 (wq0 rfl) (by kernel_rfl) rfl (n_one rfl))
   (Oc3 (fun a w X_ h => g_call2 (wq0 rfl) (by kernel_rfl) rfl (n_sub h.1 h.2.1))
   (Oc3 (fun a w X_ h => g_call0 (wq0 rfl) (by kernel_rfl) rfl (n_dd))
   (Oc3 (fun a w X_ h => g_ldn N7.out (wq0 rfl) rfl h.1 (X_.at_ R7.out.1 out0 R7.out.2))
   (Oc3 (fun a w X_ h => g_call2 (wq0 rfl) (by kernel_rfl) rfl (n_mul h.1 h.2.1))
   (Oc3 (fun a w X_ h => g_call1 (wq0 rfl) (by kernel_rfl) rfl (n_one rfl))
   (Oc3 (fun a w X_ h => g_call2 (wq0 rfl) (by kernel_rfl) rfl (n_add h.1 h.2.1))
   (Oc3 (fun a w X_ h => g_call2 (wq0 rfl) (by kernel_rfl) rfl (n_root_s HRT.out h.1 h.2.1))
   (Oc3 (fun a w X_ h => g_move (wq0 rfl) (.inl rfl) h.1)
   (Oc3 (fun a w X_ h => g_ext_n0 (wq0 rfl) rfl h.1)
   (Oc3 (fun a w X_ h => g_ext_n1 (wq0 rfl) rfl h.1)
   (Oc3 (alc_of zn rfl rfl rfl newN)
   (Oc3 (⟨rfl, _, _, _, rfl, rfl, rfl, by kernel_rfl, row_n _⟩)
   (Oc3 (fun a w X_ h => g_move (wq0 rfl) (.inr rfl) h.1)
      OkL3.nil))))))))))))))) ?_
  rintro W11 X11 v39 - v40 - v41 - v42 - v43 - v44 - v45 - v46 - v47 - v38 - v48 - _ rfl g8 c8 ⟨L8, Z8, -⟩ r8 H8 _ rfl
  refine Fd3 ?_
  simp only [Act.put, List.setIfInBounds_toArray, List.set_cons_zero, List.set_cons_succ]
  have N8 := hide (nk_of H8)
  have R8 := hide (And.intro Z8 r8)
  clear r8
  replace R2 := hide (X11.row out0 R2.out)
  replace R6 := hide (X11.row out0 R6.out)
  replace R7 := hide (X11.row out0 R7.out)
  replace BEL := hide (X11.on BEL.out SZ.out none_le)
  replace SZ := hide BEL.out.size
  have SW11 := X11.size
  clear X11 H8
  go_upto_region 11 with fail
  refine wrl3 (tl := [isv (.bool true), isv (.bool false), isv (.pointer (some ⟨g8, 0, none⟩)), nk x, nk (0 : Kp)]) (pre := [(5, 0), (8, 2), (9, 0)])
    (plan := [Pk.val [(9, 0)] 0, Pk.val [(50, 0)] 1, Pk.val [(51, 1)] 1, Pk.val [(52, 1), (5, 0)] 0, Pk.val [(52, 1), (53, 0)] 0, Pk.val [(54, 0), (8, 2)] 3, Pk.val [(54, 0)] 4, Pk.val [(54, 0), (55, 3), (56, 4)] 0, Pk.val [(52, 1), (54, 0), (57, 0)] 0, Pk.val [(52, 1), (58, 0)] 0])
    [] [] [] 72 (by kernel_rfl) rfl (by kernel_rfl) ⟨.inr (lv0 _ _ _), ⟨.inr (lv0 _ _ _), ⟨.inr (lv0 _ _ _), ⟨.inr (lull_n _ _ _), ⟨.inr (lull_n _ _ _), trivial⟩⟩⟩⟩⟩
    snkAt0 snk0 ⟨rfl, ⟨rfl, ⟨rfl, trivial⟩⟩⟩
   (Oc3 (fun a w X_ h => g_move (wq0 rfl) (.inl rfl) h.1)
   (Oc3 (fun a w X_ h => g_not (wq0 rfl) rfl h.1 rfl)
   (Oc3 (fun a w X_ h => g_move (wq0 rfl) (.inl rfl) h.1)
   (Oc3 (fun a w X_ h => g_move (wanted_some rfl rfl h.1) (.inl rfl) h.2.1)
   (Oc3 (fun a w X_ h => g_move (wanted_some rfl rfl h.1) (.inl rfl) h.2.1)
   (Oc3 (fun a w X_ h => g_ldn N8.out (wanted_some rfl rfl h.1) rfl h.2.1 (X_.at_ R8.out.1 out0 R8.out.2))
   (Oc3 (fun a w X_ h => g_nz (wanted_some rfl rfl h.1) rfl)
   (Oc3 (fun a w X_ h => g_call2 (wanted_some rfl rfl h.1) (by kernel_rfl) rfl (n_same h.2.1 h.2.2.1 (iff_t HX.out)))
   (Oc3 (fun a w X_ h => g_pick (wanted_some rfl rfl h.1) rfl h.2.1 h.2.2.1)
   (Oc3 (fun a w X_ h => g_pick (wq0 rfl) rfl h.1 h.2.1)
      OkL3.nil)))))))))) ?_
  rintro W12 X12 _ rfl _ rfl _ rfl _ rfl _ rfl v55 - v56 - _ rfl _ rfl _ rfl
  refine Fd3 ?_
  simp only [Act.put, List.setIfInBounds_toArray, List.set_cons_zero, List.set_cons_succ]
  replace R2 := hide (X12.row out0 R2.out)
  replace R6 := hide (X12.row out0 R6.out)
  replace R7 := hide (X12.row out0 R7.out)
  replace R8 := hide (X12.row out0 R8.out)
  replace BEL := hide (X12.on BEL.out SZ.out none_le)
  replace SZ := hide BEL.out.size
  have SW12 := X12.size
  clear X12
  go_upto_region 12 with fail
  refine wrl3 (tl := [qk (0 : Kp) (1 : Kp) (1 : Kp) (0 : Kp), isv (.bool false)]) (pre := [])
    (plan := [Pk.val [] 0, Pk.put 0 2 60 0, Pk.val [] 1])
    [] [(w.heap.size, 39, 64)] [(0, 2)] 72 (by kernel_rfl) rfl (by kernel_rfl) ⟨.inr (lull_q _ _ _ _ _ _), ⟨.inr (lv0 _ _ _), trivial⟩⟩
    (snkAt1 R2.out rfl rfl) (snk1 _) trivial
   (Oc3 (fun a w X_ h => g_call0 (wq0 rfl) (by kernel_rfl) rfl (q_zero))
   (Oc3 (⟨rfl, _, _, _, rfl, rfl, by kernel_rfl, row_q _ _ _ _⟩)
   (Oc3 (fun a w X_ h => g_move (wq0 rfl) (.inr rfl) rfl)
      OkL3.nil))) ?_
  rintro W13 X13 v60 - c2 r2 H2 _ rfl
  refine Fd3 ?_
  simp only [Act.put, List.setIfInBounds_toArray, List.set_cons_zero, List.set_cons_succ]
  have N2 := hide (qk_of H2)
  replace R2 := hide (And.intro (Nat.lt_of_lt_of_le R2.out.1 X13.size) r2)
  clear r2
  replace R6 := hide (X13.row (out1 (by omega)) R6.out)
  replace R7 := hide (X13.row (out1 (by omega)) R7.out)
  replace R8 := hide (X13.row (out1 (by omega)) R8.out)
  replace BEL := hide (X13.on BEL.out SZ.out (one_le (by omega)))
  replace SZ := hide BEL.out.size
  have SW13 := X13.size
  clear X13 H2
  go_wp2
  exact bodyPost_ret_by (results_row_tmp rfl _ _ (w.heap.size) 39 _ (0, 0) _ rfl R2.out.2 und36 rfl (by rw [N2.out.size]; exact sizeQ)) rfl ⟨_, rfl, BEL.out, HR.out _ _ (by rw [k_0mul]; exact N2.out)⟩
set_option linter.unusedSimpArgs false in
set_option maxRecDepth 100000 in
set_option maxHeartbeats 4000000 in
theorem up_s0 {l M : List Nat} {x Y : Kp} {v : Value} {w : World} (h : BsAt w v l) (hl : l.length = 32) (hM : l.set 31 (l.getD 31 0 % 128) = M) (hY : yof l = Y) (hbit : l.getD 31 0 / 128 * 128 = 0) (hcan : bys Y.val 32 = M) (hrt : rt (Y * Y - (1 : Kp)) (dd * (Y * Y) + (1 : Kp)) = some x) : Hands Tryz.prog 35 #[v] w (upb x Y true) := by
  suffices HH : ∀ R_ : STy, (∀ W C, RQ C x Y 1 (x * Y) → R_.p W (.tuple #[.agg C, .bool true])) → Hands Tryz.prog 35 #[v] w R_ from HH _ (fun _ C h => ⟨C, rfl, h⟩)
  intro R_ hR_
  have HR := hide hR_
  have H := hide h
  have hl31 := h.lim 31
  obtain ⟨ao, c, rfl, _, hc_⟩ := h.len
  rw [hl] at H ⊢
  have HL := hide hl
  have HFR : Hid (∀ W u, BsAt W u M → Hands Tryz.prog 72 #[u] W (nk Y)) := fun W u hu => by rw [← hM] at hu; rw [← hY]; exact n_yof hu hl
  have HBIT := hide hbit
  clear hbit
  have HCAN := hide hcan
  clear hcan
  have HRT := hide hrt
  clear hrt
  clear h hR_ hl hY
  unfold Hands
  go_enter Tryz.func35, Tryz.ntmps35
  go_upto_region 1 with fail
  refine cut_world (fun W => Below w.heap.size w W ∧ w.heap.size < W.heap.size ∧ W.heap[w.heap.size]? = some (.cells zq 39 (0, 0))) ⟨(Below.refl _ _).alloc (Nat.le_refl _) _, by simp, heap_alloc_last _ _⟩ ?_
  rintro W1 ⟨BEL, R2⟩
  replace BEL := hide BEL
  replace R2 := hide R2
  go_wp2_with (at_builtin; refine wpList_append_b rfl _ (.tmp 14) rfl (base := W1.heap.size) (l := []) (m := l) (own_nilw W1) (H.out.ext BEL.out) (by rw [HL.out]; decide) (Nat.le_refl _) ?_)
  intro u w1 o1 g1
  have b1 : Below W1.heap.size W1 w1 := (Below.refl _ _).grown g1 (Nat.le_refl _) (by simp [Value.ownBlock])
  have hl1 := HL.out
  obtain ⟨g, cap, rfl, hg1, hg2, hcap, hcm⟩ := o1.form (by omega)
  have c31 : w1.cell? ⟨g, 31, none⟩ = some (.int .u8 ((l.getD 31 0 : Nat) : Int)) := by rw [o1.row.cellAt 31 (by omega), nv_get l 31 (by omega)]
  have f31 := o1.row.frozenAt 31
  have e1 := bits_and128 _ hl31
  rw [HBIT.out] at e1
  have e2 := bits_and127 _ hl31
  have OA0 : BsAt _ _ (l.set 31 (l.getD 31 0 % 128)) := (o1.set 31 (l.getD 31 0 % 128) (by omega)).at
  rw [hM] at OA0
  have OA := hide OA0
  have HML := hide OA0.lim
  clear OA0
  have hgw : w.heap.size ≤ g ∧ w.heap.size ≠ g := by have := R2.out.1; omega
  have B1 := hide (Below.setCell (Below.chain BEL.out b1) (p := ⟨g, 31, none⟩) hgw.1 (.int .u8 ((l.getD 31 0 % 128 : Nat) : Int)))
  have R2' := hide (And.intro (show w.heap.size < (w1.setCell ⟨g, 31, none⟩ (.int .u8 ((l.getD 31 0 % 128 : Nat) : Int))).heap.size by have := R2.out.1; have := b1.size; simp; omega) ((kept_block (u := .int .u8 ((l.getD 31 0 % 128 : Nat) : Int)) (j := 31) hgw.2).trans (Below.heap b1 R2.out.1 R2.out.2)))
  rw [hl1] at OA hcap ⊢
  clear hM HBIT
  generalize l.getD 31 0 = x31 at *
  generalize x31 % 128 = z31 at *
  clear hl31 HL hl1 o1 b1 g1 R2 BEL H
  go_upto_region 6 with fail
  generalize w1.setCell ⟨g, 31, none⟩ (.int .u8 (z31 : Int)) = W6 at *
  have R2 := R2'
  have BEL := B1
  have SZ := hide BEL.out.size
  have SW6 : w.heap.size < W6.heap.size := R2.out.1
  clear B1 R2' e1 e2 f31 c31 hg2 hcap hcm hgw hg1
  refine wrl3 (tl := [isb M, nk Y]) (pre := [(4, 0)])
    (plan := [Pk.val [(4, 0)] 0, Pk.val [(26, 0)] 1, Pk.alc 37 16, Pk.sto 2 27 1])
    [0] [] [] 72 (by kernel_rfl) rfl (by kernel_rfl) ⟨.inl rfl, ⟨.inr (lull_n _ _ _), trivial⟩⟩
    snkAt0 snk0 ⟨OA.out, trivial⟩
   (Oc3 (fun a w X_ h => g_move (wq0 rfl) (.inl rfl) h.1)
   (Oc3 (fun a w X_ h => g_call1 (wq0 rfl) (by kernel_rfl) rfl (HFR.out _ _ h.1))
   (Oc3 (alc_of zn rfl rfl rfl newN)
   (Oc3 (⟨rfl, _, _, _, rfl, rfl, rfl, by kernel_rfl, row_n _⟩)
      OkL3.nil)))) ?_
  rintro W7 X7 v26 - v27 - g6 c6 ⟨L6, Z6, -⟩ r6 H6
  refine FinL3.fill ?_
  refine Fd3 ?_
  simp only [Act.put, List.setIfInBounds_toArray, List.set_cons_zero, List.set_cons_succ]
  have N6 := hide (nk_of H6)
  have R6 := hide (And.intro Z6 r6)
  clear r6
  replace R2 := hide (X7.row out0 R2.out)
  replace OA := hide (OA.out.ext X7.ext)
  replace BEL := hide (X7.on BEL.out SZ.out none_le)
  replace SZ := hide BEL.out.size
  have SW7 := X7.size
  clear X7 H6
  go_upto_region 7 with fail
  refine wrt3 (tl := [isv (.pointer (some ⟨g6, 0, none⟩)), nk Y, isb (bys Y.val 32), isv (.string (sob (bys Y.val 32))), isb M, isv (.string (sob M)), isv (.bool false)]) (pre := [(4, 4), (6, 0)])
    (plan := [Pk.val [(6, 0)] 1, Pk.val [(28, 1)] 2, Pk.val [(29, 2)] 3, Pk.val [(4, 4)] 4, Pk.val [(31, 4)] 5, Pk.val [(30, 3), (32, 5)] 6])
    [2, 4] [] [] (by kernel_rfl) 72 (by kernel_rfl) rfl (by kernel_rfl) ⟨.inr (lv0 _ _ _), ⟨.inr (lull_n _ _ _), ⟨.inl rfl, ⟨.inr (lv0 _ _ _), ⟨.inl rfl, ⟨.inr (lv0 _ _ _), ⟨.inr (lv0 _ _ _), trivial⟩⟩⟩⟩⟩⟩⟩
    snkAt0 snk0 ⟨OA.out, ⟨rfl, trivial⟩⟩
   (Oc3 (fun a w X_ h => g_ldn N6.out (wq0 rfl) rfl h.1 (X_.at_ R6.out.1 out0 R6.out.2))
   (Oc3 (fun a w X_ h => g_call1 (wq0 rfl) (by kernel_rfl) rfl (n_bytes_b h.1))
   (Oc3 (fun a w X_ h => g_str (wq0 rfl) rfl h.1 rfl)
   (Oc3 (fun a w X_ h => g_move (wq0 rfl) (.inl rfl) h.1)
   (Oc3 (fun a w X_ h => g_str (wq0 rfl) rfl h.1 rfl)
   (Oc3 (fun a w X_ h => g_nes (wq0 rfl) rfl h.1 h.2.1 (sob_nt HCAN.out))
      OkL3.nil)))))) ?_
  rintro W8 X8 v28 - v29 - _ rfl v31 - _ rfl _ rfl
  refine Fd3 ?_
  simp only [Act.put, List.setIfInBounds_toArray, List.set_cons_zero, List.set_cons_succ]
  replace R2 := hide (X8.row out0 R2.out)
  replace R6 := hide (X8.row out0 R6.out)
  replace BEL := hide (X8.on BEL.out SZ.out none_le)
  replace SZ := hide BEL.out.size
  have SW8 := X8.size
  clear X8
  go_upto_region 9 with fail
  clear OA
  refine wrl3 (tl := [isv (.pointer (some ⟨g6, 0, none⟩)), nk Y, nk (Y * Y)]) (pre := [(6, 0)])
    (plan := [Pk.val [(6, 0)] 1, Pk.val [(6, 0)] 1, Pk.val [(35, 1), (36, 1)] 2, Pk.alc 37 16, Pk.sto 3 37 2])
    [] [] [] 72 (by kernel_rfl) rfl (by kernel_rfl) ⟨.inr (lv0 _ _ _), ⟨.inr (lull_n _ _ _), ⟨.inr (lull_n _ _ _), trivial⟩⟩⟩
    snkAt0 snk0 ⟨rfl, trivial⟩
   (Oc3 (fun a w X_ h => g_ldn N6.out (wq0 rfl) rfl h.1 (X_.at_ R6.out.1 out0 R6.out.2))
   (Oc3 (fun a w X_ h => g_ldn N6.out (wq0 rfl) rfl h.1 (X_.at_ R6.out.1 out0 R6.out.2))
   (Oc3 (fun a w X_ h => g_call2 (wq0 rfl) (by kernel_rfl) rfl (n_mul h.1 h.2.1))
   (Oc3 (alc_of zn rfl rfl rfl newN)
   (Oc3 (⟨rfl, _, _, _, rfl, rfl, rfl, by kernel_rfl, row_n _⟩)
      OkL3.nil))))) ?_
  rintro W10 X10 v35 - v36 - v37 - g7 c7 ⟨L7, Z7, -⟩ r7 H7
  refine FinL3.fill ?_
  refine Fd3 ?_
  simp only [Act.put, List.setIfInBounds_toArray, List.set_cons_zero, List.set_cons_succ]
  have N7 := hide (nk_of H7)
  have R7 := hide (And.intro Z7 r7)
  clear r7
  replace R2 := hide (X10.row out0 R2.out)
  replace R6 := hide (X10.row out0 R6.out)
  replace BEL := hide (X10.on BEL.out SZ.out none_le)
  replace SZ := hide BEL.out.size
  have SW10 := X10.size
  clear X10 H7
  go_upto_region 10 with fail
  refine wrt3 (tl := [isv (.pointer (some ⟨g7, 0, none⟩)), nk (Y * Y), nk (1 : Kp), nk ((Y * Y) - (1 : Kp)), nk dd, nk (dd * (Y * Y)), nk ((dd * (Y * Y)) + (1 : Kp)), nkb x true, nk x, isv (.bool true)]) (pre := [(7, 0)])
    (plan := [Pk.val [(7, 0)] 1, Pk.val [] 2, Pk.val [(39, 1), (40, 2)] 3, Pk.val [] 4, Pk.val [(7, 0)] 1, Pk.val [(42, 4), (43, 1)] 5, Pk.val [] 2, Pk.val [(44, 5), (45, 2)] 6, Pk.val [(41, 3), (46, 6)] 7, Pk.val [(47, 7)] 7, Pk.val [(38, 7)] 8, Pk.val [(38, 7)] 9, Pk.alc 37 16, Pk.sto 12 48 8, Pk.val [(49, 9)] 9])
    [] [] [] (by kernel_rfl) 72 (by kernel_rfl) rfl (by kernel_rfl) ⟨.inr (lv0 _ _ _), ⟨.inr (lull_n _ _ _), ⟨.inr (lull_n _ _ _), ⟨.inr (lull_n _ _ _), ⟨.inr (lull_n _ _ _), ⟨.inr (lull_n _ _ _), ⟨.inr (lull_n _ _ _), ⟨.inr (lull_nb _ _ _ _), ⟨.inr (lull_n _ _ _), ⟨.inr (lv0 _ _ _), trivial⟩⟩⟩⟩⟩⟩⟩⟩⟩⟩
    snkAt0 snk0 ⟨rfl, trivial⟩
   (Oc3 (fun a w X_ h => g_ldn N7.out (wq0 rfl) rfl h.1 (X_.at_ R7.out.1 out0 R7.out.2))
   (Oc3 (fun a w X_ h => g_call1 (wq0 rfl) (by kernel_rfl) rfl (n_one rfl))
   (Oc3 (fun a w X_ h => g_call2 (wq0 rfl) (by kernel_rfl) rfl (n_sub h.1 h.2.1))
   (Oc3 (fun a w X_ h => g_call0 (wq0 rfl) (by kernel_rfl) rfl (n_dd))
   (Oc3 (fun a w X_ h => g_ldn N7.out (wq0 rfl) rfl h.1 (X_.at_ R7.out.1 out0 R7.out.2))
   (Oc3 (fun a w X_ h => g_call2 (wq0 rfl) (by kernel_rfl) rfl (n_mul h.1 h.2.1))
   (Oc3 (fun a w X_ h => g_call1 (wq0 rfl) (by kernel_rfl) rfl (n_one rfl))
   (Oc3 (fun a w X_ h => g_call2 (wq0 rfl) (by kernel_rfl) rfl (n_add h.1 h.2.1))
   (Oc3 (fun a w X_ h => g_call2 (wq0 rfl) (by kernel_rfl) rfl (n_root_s HRT.out h.1 h.2.1))
   (Oc3 (fun a w X_ h => g_move (wq0 rfl) (.inl rfl) h.1)
   (Oc3 (fun a w X_ h => g_ext_n0 (wq0 rfl) rfl h.1)
   (Oc3 (fun a w X_ h => g_ext_n1 (wq0 rfl) rfl h.1)
   (Oc3 (alc_of zn rfl rfl rfl newN)
   (Oc3 (⟨rfl, _, _, _, rfl, rfl, rfl, by kernel_rfl, row_n _⟩)
   (Oc3 (fun a w X_ h => g_move (wq0 rfl) (.inr rfl) h.1)
      OkL3.nil))))))))))))))) ?_
  rintro W11 X11 v39 - v40 - v41 - v42 - v43 - v44 - v45 - v46 - v47 - v38 - v48 - _ rfl g8 c8 ⟨L8, Z8, -⟩ r8 H8 _ rfl
  refine Fd3 ?_
  simp only [Act.put, List.setIfInBounds_toArray, List.set_cons_zero, List.set_cons_succ]
  have N8 := hide (nk_of H8)
  have R8 := hide (And.intro Z8 r8)
  clear r8
  replace R2 := hide (X11.row out0 R2.out)
  replace R6 := hide (X11.row out0 R6.out)
  replace R7 := hide (X11.row out0 R7.out)
  replace BEL := hide (X11.on BEL.out SZ.out none_le)
  replace SZ := hide BEL.out.size
  have SW11 := X11.size
  clear X11 H8
  go_upto_region 11 with fail
  refine wrl3 (tl := [isv (.bool true), isv (.bool false), isv (undef)]) (pre := [(5, 1), (9, 0)])
    (plan := [Pk.val [(9, 0)] 0, Pk.val [(50, 0)] 1, Pk.val [(51, 1)] 1, Pk.val [(52, 1), (5, 1)] 1, Pk.val [(52, 1), (53, 1)] 1, Pk.val [(54, 1)] 2, Pk.val [(54, 1)] 2, Pk.val [(54, 1)] 2, Pk.val [(52, 1), (54, 1)] 1, Pk.val [(52, 1), (58, 1)] 1])
    [] [] [] 72 (by kernel_rfl) rfl (by kernel_rfl) ⟨.inr (lv0 _ _ _), ⟨.inr (lv0 _ _ _), ⟨.inr (lv0 _ _ _), trivial⟩⟩⟩
    snkAt0 snk0 ⟨rfl, ⟨rfl, trivial⟩⟩
   (Oc3 (fun a w X_ h => g_move (wq0 rfl) (.inl rfl) h.1)
   (Oc3 (fun a w X_ h => g_not (wq0 rfl) rfl h.1 rfl)
   (Oc3 (fun a w X_ h => g_move (wq0 rfl) (.inl rfl) h.1)
   (Oc3 (fun a w X_ h => g_move (wanted_some rfl rfl h.1) (.inl rfl) h.2.1)
   (Oc3 (fun a w X_ h => g_move (wanted_some rfl rfl h.1) (.inl rfl) h.2.1)
   (Oc3 (fun a w X_ h => g_skip rfl rfl h.1 rfl)
   (Oc3 (fun a w X_ h => g_skip rfl rfl h.1 rfl)
   (Oc3 (fun a w X_ h => g_skip rfl rfl h.1 rfl)
   (Oc3 (fun a w X_ h => g_pick (wanted_some rfl rfl h.1) rfl h.2.1 rfl)
   (Oc3 (fun a w X_ h => g_pick (wq0 rfl) rfl h.1 h.2.1)
      OkL3.nil)))))))))) ?_
  rintro W12 X12 _ rfl _ rfl _ rfl _ rfl _ rfl _ rfl _ rfl _ rfl _ rfl _ rfl
  refine Fd3 ?_
  simp only [Act.put, List.setIfInBounds_toArray, List.set_cons_zero, List.set_cons_succ]
  replace R2 := hide (X12.row out0 R2.out)
  replace R6 := hide (X12.row out0 R6.out)
  replace R7 := hide (X12.row out0 R7.out)
  replace R8 := hide (X12.row out0 R8.out)
  replace BEL := hide (X12.on BEL.out SZ.out none_le)
  replace SZ := hide BEL.out.size
  have SW12 := X12.size
  clear X12
  go_upto_region 13 with fail
  refine wrl3 (tl := [isv (.bool false)]) (pre := [(5, 0)])
    (plan := [Pk.val [(5, 0)] 0])
    [] [] [] 72 (by kernel_rfl) rfl (by kernel_rfl) ⟨.inr (lv0 _ _ _), trivial⟩
    snkAt0 snk0 ⟨rfl, trivial⟩
   (Oc3 (fun a w X_ h => g_move (wq0 rfl) (.inl rfl) h.1)
      OkL3.nil) ?_
  rintro W13 X13 _ rfl
  refine Fd3 ?_
  simp only [Act.put, List.setIfInBounds_toArray, List.set_cons_zero, List.set_cons_succ]
  replace R2 := hide (X13.row out0 R2.out)
  replace R6 := hide (X13.row out0 R6.out)
  replace R7 := hide (X13.row out0 R7.out)
  replace R8 := hide (X13.row out0 R8.out)
  replace BEL := hide (X13.on BEL.out SZ.out none_le)
  replace SZ := hide BEL.out.size
  have SW13 := X13.size
  clear X13
  go_upto_region 15 with fail
  refine wrt3 (tl := [isv (.pointer (some ⟨g8, 0, none⟩)), nk x, isv (.pointer (some ⟨g6, 0, none⟩)), nk Y, nk (1 : Kp), nk (x * Y), qk x Y (1 : Kp) (x * Y), isv (.bool true)]) (pre := [(6, 2), (8, 0)])
    (plan := [Pk.val [(8, 0)] 1, Pk.val [(6, 2)] 3, Pk.val [] 4, Pk.val [(8, 0)] 1, Pk.val [(6, 2)] 3, Pk.val [(68, 1), (69, 3)] 5, Pk.val [(65, 1), (66, 3), (67, 4), (70, 5)] 6, Pk.put 0 2 71 6, Pk.val [] 7])
    [] [(w.heap.size, 39, 64)] [(0, 2)] (by kernel_rfl) 72 (by kernel_rfl) rfl (by kernel_rfl) ⟨.inr (lv0 _ _ _), ⟨.inr (lull_n _ _ _), ⟨.inr (lv0 _ _ _), ⟨.inr (lull_n _ _ _), ⟨.inr (lull_n _ _ _), ⟨.inr (lull_n _ _ _), ⟨.inr (lull_q _ _ _ _ _ _), ⟨.inr (lv0 _ _ _), trivial⟩⟩⟩⟩⟩⟩⟩⟩
    (snkAt1 R2.out rfl rfl) (snk1 _) ⟨rfl, ⟨rfl, trivial⟩⟩
   (Oc3 (fun a w X_ h => g_ldn N8.out (wq0 rfl) rfl h.1 (X_.at_ R8.out.1 (out1 (by omega)) R8.out.2))
   (Oc3 (fun a w X_ h => g_ldn N6.out (wq0 rfl) rfl h.1 (X_.at_ R6.out.1 (out1 (by omega)) R6.out.2))
   (Oc3 (fun a w X_ h => g_call1 (wq0 rfl) (by kernel_rfl) rfl (n_one rfl))
   (Oc3 (fun a w X_ h => g_ldn N8.out (wq0 rfl) rfl h.1 (X_.at_ R8.out.1 (out1 (by omega)) R8.out.2))
   (Oc3 (fun a w X_ h => g_ldn N6.out (wq0 rfl) rfl h.1 (X_.at_ R6.out.1 (out1 (by omega)) R6.out.2))
   (Oc3 (fun a w X_ h => g_call2 (wq0 rfl) (by kernel_rfl) rfl (n_mul h.1 h.2.1))
   (Oc3 (fun a w X_ h => g_bq (wq0 rfl) rfl h.1 h.2.1 h.2.2.1 h.2.2.2.1)
   (Oc3 (⟨rfl, _, _, _, rfl, rfl, by kernel_rfl, row_q _ _ _ _⟩)
   (Oc3 (fun a w X_ h => g_move (wq0 rfl) (.inr rfl) rfl)
      OkL3.nil))))))))) ?_
  rintro W14 X14 v65 - v66 - v67 - v68 - v69 - v70 - v71 - c2 r2 H2 _ rfl
  refine Fd3 ?_
  simp only [Act.put, List.setIfInBounds_toArray, List.set_cons_zero, List.set_cons_succ]
  have N2 := hide (qk_of H2)
  replace R2 := hide (And.intro (Nat.lt_of_lt_of_le R2.out.1 X14.size) r2)
  clear r2
  replace R6 := hide (X14.row (out1 (by omega)) R6.out)
  replace R7 := hide (X14.row (out1 (by omega)) R7.out)
  replace R8 := hide (X14.row (out1 (by omega)) R8.out)
  replace BEL := hide (X14.on BEL.out SZ.out (one_le (by omega)))
  replace SZ := hide BEL.out.size
  have SW14 := X14.size
  clear X14 H2
  go_wp2
  exact bodyPost_ret_by (results_row_tmp rfl _ _ (w.heap.size) 39 _ (0, 0) _ rfl R2.out.2 und36 rfl (by rw [N2.out.size]; exact sizeQ)) rfl ⟨_, rfl, BEL.out, HR.out _ _ N2.out⟩
set_option linter.unusedSimpArgs false in
set_option maxRecDepth 100000 in
set_option maxHeartbeats 4000000 in
theorem up_s1 {l M : List Nat} {x Y : Kp} {v : Value} {w : World} (h : BsAt w v l) (hl : l.length = 32) (hM : l.set 31 (l.getD 31 0 % 128) = M) (hY : yof l = Y) (hbit : l.getD 31 0 / 128 * 128 = 128) (hcan : bys Y.val 32 = M) (hrt : rt (Y * Y - (1 : Kp)) (dd * (Y * Y) + (1 : Kp)) = some x) (hx : ¬ x = 0) : Hands Tryz.prog 35 #[v] w (upb (0 - x) Y true) := by
  suffices HH : ∀ R_ : STy, (∀ W C, RQ C (0 - x) Y 1 ((0 - x) * Y) → R_.p W (.tuple #[.agg C, .bool true])) → Hands Tryz.prog 35 #[v] w R_ from HH _ (fun _ C h => ⟨C, rfl, h⟩)
  intro R_ hR_
  have HR := hide hR_
  have H := hide h
  have hl31 := h.lim 31
  obtain ⟨ao, c, rfl, _, hc_⟩ := h.len
  rw [hl] at H ⊢
  have HL := hide hl
  have HFR : Hid (∀ W u, BsAt W u M → Hands Tryz.prog 72 #[u] W (nk Y)) := fun W u hu => by rw [← hM] at hu; rw [← hY]; exact n_yof hu hl
  have HBIT := hide hbit
  clear hbit
  have HCAN := hide hcan
  clear hcan
  have HRT := hide hrt
  clear hrt
  have HX := hide hx
  clear hx
  clear h hR_ hl hY
  unfold Hands
  go_enter Tryz.func35, Tryz.ntmps35
  go_upto_region 1 with fail
  refine cut_world (fun W => Below w.heap.size w W ∧ w.heap.size < W.heap.size ∧ W.heap[w.heap.size]? = some (.cells zq 39 (0, 0))) ⟨(Below.refl _ _).alloc (Nat.le_refl _) _, by simp, heap_alloc_last _ _⟩ ?_
  rintro W1 ⟨BEL, R2⟩
  replace BEL := hide BEL
  replace R2 := hide R2
  go_wp2_with (at_builtin; refine wpList_append_b rfl _ (.tmp 14) rfl (base := W1.heap.size) (l := []) (m := l) (own_nilw W1) (H.out.ext BEL.out) (by rw [HL.out]; decide) (Nat.le_refl _) ?_)
  intro u w1 o1 g1
  have b1 : Below W1.heap.size W1 w1 := (Below.refl _ _).grown g1 (Nat.le_refl _) (by simp [Value.ownBlock])
  have hl1 := HL.out
  obtain ⟨g, cap, rfl, hg1, hg2, hcap, hcm⟩ := o1.form (by omega)
  have c31 : w1.cell? ⟨g, 31, none⟩ = some (.int .u8 ((l.getD 31 0 : Nat) : Int)) := by rw [o1.row.cellAt 31 (by omega), nv_get l 31 (by omega)]
  have f31 := o1.row.frozenAt 31
  have e1 := bits_and128 _ hl31
  rw [HBIT.out] at e1
  have e2 := bits_and127 _ hl31
  have OA0 : BsAt _ _ (l.set 31 (l.getD 31 0 % 128)) := (o1.set 31 (l.getD 31 0 % 128) (by omega)).at
  rw [hM] at OA0
  have OA := hide OA0
  have HML := hide OA0.lim
  clear OA0
  have hgw : w.heap.size ≤ g ∧ w.heap.size ≠ g := by have := R2.out.1; omega
  have B1 := hide (Below.setCell (Below.chain BEL.out b1) (p := ⟨g, 31, none⟩) hgw.1 (.int .u8 ((l.getD 31 0 % 128 : Nat) : Int)))
  have R2' := hide (And.intro (show w.heap.size < (w1.setCell ⟨g, 31, none⟩ (.int .u8 ((l.getD 31 0 % 128 : Nat) : Int))).heap.size by have := R2.out.1; have := b1.size; simp; omega) ((kept_block (u := .int .u8 ((l.getD 31 0 % 128 : Nat) : Int)) (j := 31) hgw.2).trans (Below.heap b1 R2.out.1 R2.out.2)))
  rw [hl1] at OA hcap ⊢
  clear hM HBIT
  generalize l.getD 31 0 = x31 at *
  generalize x31 % 128 = z31 at *
  clear hl31 HL hl1 o1 b1 g1 R2 BEL H
  go_upto_region 6 with fail
  generalize w1.setCell ⟨g, 31, none⟩ (.int .u8 (z31 : Int)) = W6 at *
  have R2 := R2'
  have BEL := B1
  have SZ := hide BEL.out.size
  have SW6 : w.heap.size < W6.heap.size := R2.out.1
  clear B1 R2' e1 e2 f31 c31 hg2 hcap hcm hgw hg1
  refine wrl3 (tl := [isb M, nk Y]) (pre := [(4, 0)])
    (plan := [Pk.val [(4, 0)] 0, Pk.val [(26, 0)] 1, Pk.alc 37 16, Pk.sto 2 27 1])
    [0] [] [] 72 (by kernel_rfl) rfl (by kernel_rfl) ⟨.inl rfl, ⟨.inr (lull_n _ _ _), trivial⟩⟩
    snkAt0 snk0 ⟨OA.out, trivial⟩
   (Oc3 (fun a w X_ h => g_move (wq0 rfl) (.inl rfl) h.1)
   (Oc3 (fun a w X_ h => g_call1 (wq0 rfl) (by kernel_rfl) rfl (HFR.out _ _ h.1))
   (Oc3 (alc_of zn rfl rfl rfl newN)
   (Oc3 (⟨rfl, _, _, _, rfl, rfl, rfl, by kernel_rfl, row_n _⟩)
      OkL3.nil)))) ?_
  rintro W7 X7 v26 - v27 - g6 c6 ⟨L6, Z6, -⟩ r6 H6
  refine FinL3.fill ?_
  refine Fd3 ?_
  simp only [Act.put, List.setIfInBounds_toArray, List.set_cons_zero, List.set_cons_succ]
  have N6 := hide (nk_of H6)
  have R6 := hide (And.intro Z6 r6)
  clear r6
  replace R2 := hide (X7.row out0 R2.out)
  replace OA := hide (OA.out.ext X7.ext)
  replace BEL := hide (X7.on BEL.out SZ.out none_le)
  replace SZ := hide BEL.out.size
  have SW7 := X7.size
  clear X7 H6
  go_upto_region 7 with fail
  refine wrt3 (tl := [isv (.pointer (some ⟨g6, 0, none⟩)), nk Y, isb (bys Y.val 32), isv (.string (sob (bys Y.val 32))), isb M, isv (.string (sob M)), isv (.bool false)]) (pre := [(4, 4), (6, 0)])
    (plan := [Pk.val [(6, 0)] 1, Pk.val [(28, 1)] 2, Pk.val [(29, 2)] 3, Pk.val [(4, 4)] 4, Pk.val [(31, 4)] 5, Pk.val [(30, 3), (32, 5)] 6])
    [2, 4] [] [] (by kernel_rfl) 72 (by kernel_rfl) rfl (by kernel_rfl) ⟨.inr (lv0 _ _ _), ⟨.inr (lull_n _ _ _), ⟨.inl rfl, ⟨.inr (lv0 _ _ _), ⟨.inl rfl, ⟨.inr (lv0 _ _ _), ⟨.inr (lv0 _ _ _), trivial⟩⟩⟩⟩⟩⟩⟩
    snkAt0 snk0 ⟨OA.out, ⟨rfl, trivial⟩⟩
   (Oc3 (fun a w X_ h => g_ldn N6.out (wq0 rfl) rfl h.1 (X_.at_ R6.out.1 out0 R6.out.2))
   (Oc3 (fun a w X_ h => g_call1 (wq0 rfl) (by kernel_rfl) rfl (n_bytes_b h.1))
   (Oc3 (fun a w X_ h => g_str (wq0 rfl) rfl h.1 rfl)
   (Oc3 (fun a w X_ h => g_move (wq0 rfl) (.inl rfl) h.1)
   (Oc3 (fun a w X_ h => g_str (wq0 rfl) rfl h.1 rfl)
   (Oc3 (fun a w X_ h => g_nes (wq0 rfl) rfl h.1 h.2.1 (sob_nt HCAN.out))
      OkL3.nil)))))) ?_
  rintro W8 X8 v28 - v29 - _ rfl v31 - _ rfl _ rfl
  refine Fd3 ?_
  simp only [Act.put, List.setIfInBounds_toArray, List.set_cons_zero, List.set_cons_succ]
  replace R2 := hide (X8.row out0 R2.out)
  replace R6 := hide (X8.row out0 R6.out)
  replace BEL := hide (X8.on BEL.out SZ.out none_le)
  replace SZ := hide BEL.out.size
  have SW8 := X8.size
  clear X8
  go_upto_region 9 with fail
  clear OA
  refine wrl3 (tl := [isv (.pointer (some ⟨g6, 0, none⟩)), nk Y, nk (Y * Y)]) (pre := [(6, 0)])
    (plan := [Pk.val [(6, 0)] 1, Pk.val [(6, 0)] 1, Pk.val [(35, 1), (36, 1)] 2, Pk.alc 37 16, Pk.sto 3 37 2])
    [] [] [] 72 (by kernel_rfl) rfl (by kernel_rfl) ⟨.inr (lv0 _ _ _), ⟨.inr (lull_n _ _ _), ⟨.inr (lull_n _ _ _), trivial⟩⟩⟩
    snkAt0 snk0 ⟨rfl, trivial⟩
   (Oc3 (fun a w X_ h => g_ldn N6.out (wq0 rfl) rfl h.1 (X_.at_ R6.out.1 out0 R6.out.2))
   (Oc3 (fun a w X_ h => g_ldn N6.out (wq0 rfl) rfl h.1 (X_.at_ R6.out.1 out0 R6.out.2))
   (Oc3 (fun a w X_ h => g_call2 (wq0 rfl) (by kernel_rfl) rfl (n_mul h.1 h.2.1))
   (Oc3 (alc_of zn rfl rfl rfl newN)
   (Oc3 (⟨rfl, _, _, _, rfl, rfl, rfl, by kernel_rfl, row_n _⟩)
      OkL3.nil))))) ?_
  rintro W10 X10 v35 - v36 - v37 - g7 c7 ⟨L7, Z7, -⟩ r7 H7
  refine FinL3.fill ?_
  refine Fd3 ?_
  simp only [Act.put, List.setIfInBounds_toArray, List.set_cons_zero, List.set_cons_succ]
  have N7 := hide (nk_of H7)
  have R7 := hide (And.intro Z7 r7)
  clear r7
  replace R2 := hide (X10.row out0 R2.out)
  replace R6 := hide (X10.row out0 R6.out)
  replace BEL := hide (X10.on BEL.out SZ.out none_le)
  replace SZ := hide BEL.out.size
  have SW10 := X10.size
  clear X10 H7
  go_upto_region 10 with fail
  refine wrt3 (tl := [isv (.pointer (some ⟨g7, 0, none⟩)), nk (Y * Y), nk (1 : Kp), nk ((Y * Y) - (1 : Kp)), nk dd, nk (dd * (Y * Y)), nk ((dd * (Y * Y)) + (1 : Kp)), nkb x true, nk x, isv (.bool true)]) (pre := [(7, 0)])
    (plan := [Pk.val [(7, 0)] 1, Pk.val [] 2, Pk.val [(39, 1), (40, 2)] 3, Pk.val [] 4, Pk.val [(7, 0)] 1, Pk.val [(42, 4), (43, 1)] 5, Pk.val [] 2, Pk.val [(44, 5), (45, 2)] 6, Pk.val [(41, 3), (46, 6)] 7, Pk.val [(47, 7)] 7, Pk.val [(38, 7)] 8, Pk.val [(38, 7)] 9, Pk.alc 37 16, Pk.sto 12 48 8, Pk.val [(49, 9)] 9])
    [] [] [] (by kernel_rfl) 72 (by kernel_rfl) rfl (by kernel_rfl) ⟨.inr (lv0 _ _ _), ⟨.inr (lull_n _ _ _), ⟨.inr (lull_n _ _ _), ⟨.inr (lull_n _ _ _), ⟨.inr (lull_n _ _ _), ⟨.inr (lull_n _ _ _), ⟨.inr (lull_n _ _ _), ⟨.inr (lull_nb _ _ _ _), ⟨.inr (lull_n _ _ _), ⟨.inr (lv0 _ _ _), trivial⟩⟩⟩⟩⟩⟩⟩⟩⟩⟩
    snkAt0 snk0 ⟨rfl, trivial⟩
   (Oc3 (fun a w X_ h => g_ldn N7.out (wq0 rfl) rfl h.1 (X_.at_ R7.out.1 out0 R7.out.2))
   (Oc3 (fun a w X_ h => g_call1 (wq0 rfl) (by kernel_rfl) rfl (n_one rfl))
   (Oc3 (fun a w X_ h => g_call2 (wq0 rfl) (by kernel_rfl) rfl (n_sub h.1 h.2.1))
   (Oc3 (fun a w X_ h => g_call0 (wq0 rfl) (by kernel_rfl) rfl (n_dd))
   (Oc3 (fun a w X_ h => g_ldn N7.out (wq0 rfl) rfl h.1 (X_.at_ R7.out.1 out0 R7.out.2))
   (Oc3 (fun a w X_ h => g_call2 (wq0 rfl) (by kernel_rfl) rfl (n_mul h.1 h.2.1))
   (Oc3 (fun a w X_ h => g_call1 (wq0 rfl) (by kernel_rfl) rfl (n_one rfl))
   (Oc3 (fun a w X_ h => g_call2 (wq0 rfl) (by kernel_rfl) rfl (n_add h.1 h.2.1))
   (Oc3 (fun a w X_ h => g_call2 (wq0 rfl) (by kernel_rfl) rfl (n_root_s HRT.out h.1 h.2.1))
   (Oc3 (fun a w X_ h => g_move (wq0 rfl) (.inl rfl) h.1)
   (Oc3 (fun a w X_ h => g_ext_n0 (wq0 rfl) rfl h.1)
   (Oc3 (fun a w X_ h => g_ext_n1 (wq0 rfl) rfl h.1)
   (Oc3 (alc_of zn rfl rfl rfl newN)
   (Oc3 (⟨rfl, _, _, _, rfl, rfl, rfl, by kernel_rfl, row_n _⟩)
   (Oc3 (fun a w X_ h => g_move (wq0 rfl) (.inr rfl) h.1)
      OkL3.nil))))))))))))))) ?_
  rintro W11 X11 v39 - v40 - v41 - v42 - v43 - v44 - v45 - v46 - v47 - v38 - v48 - _ rfl g8 c8 ⟨L8, Z8, -⟩ r8 H8 _ rfl
  refine Fd3 ?_
  simp only [Act.put, List.setIfInBounds_toArray, List.set_cons_zero, List.set_cons_succ]
  have N8 := hide (nk_of H8)
  have R8 := hide (And.intro Z8 r8)
  clear r8
  replace R2 := hide (X11.row out0 R2.out)
  replace R6 := hide (X11.row out0 R6.out)
  replace R7 := hide (X11.row out0 R7.out)
  replace BEL := hide (X11.on BEL.out SZ.out none_le)
  replace SZ := hide BEL.out.size
  have SW11 := X11.size
  clear X11 H8
  go_upto_region 11 with fail
  refine wrl3 (tl := [isv (.bool true), isv (.bool false), isv (.pointer (some ⟨g8, 0, none⟩)), nk x, nk (0 : Kp)]) (pre := [(5, 0), (8, 2), (9, 0)])
    (plan := [Pk.val [(9, 0)] 0, Pk.val [(50, 0)] 1, Pk.val [(51, 1)] 1, Pk.val [(52, 1), (5, 0)] 0, Pk.val [(52, 1), (53, 0)] 0, Pk.val [(54, 0), (8, 2)] 3, Pk.val [(54, 0)] 4, Pk.val [(54, 0), (55, 3), (56, 4)] 1, Pk.val [(52, 1), (54, 0), (57, 1)] 1, Pk.val [(52, 1), (58, 1)] 1])
    [] [] [] 72 (by kernel_rfl) rfl (by kernel_rfl) ⟨.inr (lv0 _ _ _), ⟨.inr (lv0 _ _ _), ⟨.inr (lv0 _ _ _), ⟨.inr (lull_n _ _ _), ⟨.inr (lull_n _ _ _), trivial⟩⟩⟩⟩⟩
    snkAt0 snk0 ⟨rfl, ⟨rfl, ⟨rfl, trivial⟩⟩⟩
   (Oc3 (fun a w X_ h => g_move (wq0 rfl) (.inl rfl) h.1)
   (Oc3 (fun a w X_ h => g_not (wq0 rfl) rfl h.1 rfl)
   (Oc3 (fun a w X_ h => g_move (wq0 rfl) (.inl rfl) h.1)
   (Oc3 (fun a w X_ h => g_move (wanted_some rfl rfl h.1) (.inl rfl) h.2.1)
   (Oc3 (fun a w X_ h => g_move (wanted_some rfl rfl h.1) (.inl rfl) h.2.1)
   (Oc3 (fun a w X_ h => g_ldn N8.out (wanted_some rfl rfl h.1) rfl h.2.1 (X_.at_ R8.out.1 out0 R8.out.2))
   (Oc3 (fun a w X_ h => g_nz (wanted_some rfl rfl h.1) rfl)
   (Oc3 (fun a w X_ h => g_call2 (wanted_some rfl rfl h.1) (by kernel_rfl) rfl (n_same h.2.1 h.2.2.1 (iff_f HX.out)))
   (Oc3 (fun a w X_ h => g_pick (wanted_some rfl rfl h.1) rfl h.2.1 h.2.2.1)
   (Oc3 (fun a w X_ h => g_pick (wq0 rfl) rfl h.1 h.2.1)
      OkL3.nil)))))))))) ?_
  rintro W12 X12 _ rfl _ rfl _ rfl _ rfl _ rfl v55 - v56 - _ rfl _ rfl _ rfl
  refine Fd3 ?_
  simp only [Act.put, List.setIfInBounds_toArray, List.set_cons_zero, List.set_cons_succ]
  replace R2 := hide (X12.row out0 R2.out)
  replace R6 := hide (X12.row out0 R6.out)
  replace R7 := hide (X12.row out0 R7.out)
  replace R8 := hide (X12.row out0 R8.out)
  replace BEL := hide (X12.on BEL.out SZ.out none_le)
  replace SZ := hide BEL.out.size
  have SW12 := X12.size
  clear X12
  go_upto_region 13 with fail
  refine wrl3 (tl := [isv (.bool true)]) (pre := [(5, 0)])
    (plan := [Pk.val [(5, 0)] 0])
    [] [] [] 72 (by kernel_rfl) rfl (by kernel_rfl) ⟨.inr (lv0 _ _ _), trivial⟩
    snkAt0 snk0 ⟨rfl, trivial⟩
   (Oc3 (fun a w X_ h => g_move (wq0 rfl) (.inl rfl) h.1)
      OkL3.nil) ?_
  rintro W13 X13 _ rfl
  refine Fd3 ?_
  simp only [Act.put, List.setIfInBounds_toArray, List.set_cons_zero, List.set_cons_succ]
  replace R2 := hide (X13.row out0 R2.out)
  replace R6 := hide (X13.row out0 R6.out)
  replace R7 := hide (X13.row out0 R7.out)
  replace R8 := hide (X13.row out0 R8.out)
  replace BEL := hide (X13.on BEL.out SZ.out none_le)
  replace SZ := hide BEL.out.size
  have SW13 := X13.size
  clear X13
  go_upto_region 14 with fail
  refine wrl3 (tl := [nk (0 : Kp), nk x, nk ((0 : Kp) - x)]) (pre := [])
    (plan := [Pk.val [] 0, Pk.ld 0 8 1, Pk.val [(62, 0), (63, 1)] 2, Pk.put 0 8 64 2])
    [] [(g8, 37, 16)] [(0, 8)] 72 (by kernel_rfl) rfl (by kernel_rfl) ⟨.inr (lull_n _ _ _), ⟨.inr (lull_n _ _ _), ⟨.inr (lull_n _ _ _), trivial⟩⟩⟩
    (snkAt1 R8.out (N8.out.size) rfl) (snk1 _) trivial
   (Oc3 (fun a w X_ h => g_nz (wq0 rfl) rfl)
   (Oc3 (fun a w X_ h hr => g_ldn N8.out (wq0 rfl) rfl h (hr.trans R8.out.2))
   (Oc3 (fun a w X_ h => g_call2 (wq0 rfl) (by kernel_rfl) rfl (n_sub h.1 h.2.1))
   (Oc3 (⟨rfl, _, _, _, rfl, rfl, by kernel_rfl, row_n _⟩)
      OkL3.nil)))) ?_
  rintro W14 X14 v62 - v63 - v64 - c8 r8 H8
  refine Fd3 ?_
  simp only [Act.put, List.setIfInBounds_toArray, List.set_cons_zero, List.set_cons_succ]
  replace N8 := hide (nk_of H8)
  replace R8 := hide (And.intro (Nat.lt_of_lt_of_le R8.out.1 X14.size) r8)
  clear r8
  replace R2 := hide (X14.row (out1 (by omega)) R2.out)
  replace R6 := hide (X14.row (out1 (by omega)) R6.out)
  replace R7 := hide (X14.row (out1 (by omega)) R7.out)
  replace BEL := hide (X14.on BEL.out SZ.out (one_le (by omega)))
  replace SZ := hide BEL.out.size
  have SW14 := X14.size
  clear X14 H8
  go_upto_region 15 with fail
  refine wrt3 (tl := [isv (.pointer (some ⟨g8, 0, none⟩)), nk ((0 : Kp) - x), isv (.pointer (some ⟨g6, 0, none⟩)), nk Y, nk (1 : Kp), nk (((0 : Kp) - x) * Y), qk ((0 : Kp) - x) Y (1 : Kp) (((0 : Kp) - x) * Y), isv (.bool true)]) (pre := [(6, 2), (8, 0)])
    (plan := [Pk.val [(8, 0)] 1, Pk.val [(6, 2)] 3, Pk.val [] 4, Pk.val [(8, 0)] 1, Pk.val [(6, 2)] 3, Pk.val [(68, 1), (69, 3)] 5, Pk.val [(65, 1), (66, 3), (67, 4), (70, 5)] 6, Pk.put 0 2 71 6, Pk.val [] 7])
    [] [(w.heap.size, 39, 64)] [(0, 2)] (by kernel_rfl) 72 (by kernel_rfl) rfl (by kernel_rfl) ⟨.inr (lv0 _ _ _), ⟨.inr (lull_n _ _ _), ⟨.inr (lv0 _ _ _), ⟨.inr (lull_n _ _ _), ⟨.inr (lull_n _ _ _), ⟨.inr (lull_n _ _ _), ⟨.inr (lull_q _ _ _ _ _ _), ⟨.inr (lv0 _ _ _), trivial⟩⟩⟩⟩⟩⟩⟩⟩
    (snkAt1 R2.out rfl rfl) (snk1 _) ⟨rfl, ⟨rfl, trivial⟩⟩
   (Oc3 (fun a w X_ h => g_ldn N8.out (wq0 rfl) rfl h.1 (X_.at_ R8.out.1 (out1 (by omega)) R8.out.2))
   (Oc3 (fun a w X_ h => g_ldn N6.out (wq0 rfl) rfl h.1 (X_.at_ R6.out.1 (out1 (by omega)) R6.out.2))
   (Oc3 (fun a w X_ h => g_call1 (wq0 rfl) (by kernel_rfl) rfl (n_one rfl))
   (Oc3 (fun a w X_ h => g_ldn N8.out (wq0 rfl) rfl h.1 (X_.at_ R8.out.1 (out1 (by omega)) R8.out.2))
   (Oc3 (fun a w X_ h => g_ldn N6.out (wq0 rfl) rfl h.1 (X_.at_ R6.out.1 (out1 (by omega)) R6.out.2))
   (Oc3 (fun a w X_ h => g_call2 (wq0 rfl) (by kernel_rfl) rfl (n_mul h.1 h.2.1))
   (Oc3 (fun a w X_ h => g_bq (wq0 rfl) rfl h.1 h.2.1 h.2.2.1 h.2.2.2.1)
   (Oc3 (⟨rfl, _, _, _, rfl, rfl, by kernel_rfl, row_q _ _ _ _⟩)
   (Oc3 (fun a w X_ h => g_move (wq0 rfl) (.inr rfl) rfl)
      OkL3.nil))))))))) ?_
  rintro W15 X15 v65 - v66 - v67 - v68 - v69 - v70 - v71 - c2 r2 H2 _ rfl
  refine Fd3 ?_
  simp only [Act.put, List.setIfInBounds_toArray, List.set_cons_zero, List.set_cons_succ]
  have N2 := hide (qk_of H2)
  replace R2 := hide (And.intro (Nat.lt_of_lt_of_le R2.out.1 X15.size) r2)
  clear r2
  replace R6 := hide (X15.row (out1 (by omega)) R6.out)
  replace R7 := hide (X15.row (out1 (by omega)) R7.out)
  replace R8 := hide (X15.row (out1 (by omega)) R8.out)
  replace BEL := hide (X15.on BEL.out SZ.out (one_le (by omega)))
  replace SZ := hide BEL.out.size
  have SW15 := X15.size
  clear X15 H2
  go_wp2
  exact bodyPost_ret_by (results_row_tmp rfl _ _ (w.heap.size) 39 _ (0, 0) _ rfl R2.out.2 und36 rfl (by rw [N2.out.size]; exact sizeQ)) rfl ⟨_, rfl, BEL.out, HR.out _ _ N2.out⟩
end Go.Proofs.YtobgimpkkjaolaaGreatDoor
