/- The point of bytes, as the program answers it. -/
import Derived.Test.YtobgimpkkjaolaaGreatDoorFn6
namespace Go.Proofs.YtobgimpkkjaolaaGreatDoor
open Go.RowKit
theorem g_ixe {ops : Array Oper} {Q : Exit → Act → World → Prop} {o : Oper} {a : Act} {w : World} (hw : Region.wanted o (yielded ops a.tmps) = true) {x y : Operand} {b of n c k : Nat} (ho : o.op = .indexAddr 22 x y) (hx : a.eval x = .slice (some ⟨b, of, none⟩) n c) (hy : a.eval y = .int .i64 (k : Int)) (hk : k < n) : Gives Tryz.prog ops Q o (isv (.pointer (some ⟨b, of + k, none⟩))) a w := by
  refine g_run hw (v := .pointer (some ⟨b, of + k, none⟩)) ?_ (Ext.refl w) rfl
  unfold execOp
  simp only [ho, hx, hy]
  rw [Sem.run_bind, run_ix w b of n c k hk]
  rfl
theorem g_ldc {ops : Array Oper} {Q : Exit → Act → World → Prop} {o : Oper} {a : Act} {w : World} (hw : Region.wanted o (yielded ops a.tmps) = true) {x : Operand} {b of v : Nat} (ho : o.op = .load 5 x) (hx : a.eval x = .pointer (some ⟨b, of, none⟩)) (hc : w.cell? ⟨b, of, none⟩ = some (.int .u8 (v : Int))) : Gives Tryz.prog ops Q o (isv (.int .u8 (v : Int))) a w := by
  refine g_run hw (v := .int .u8 (v : Int)) ?_ (Ext.refl w) rfl
  unfold execOp
  simp only [ho, hx]
  go_simp
theorem g_hi {ops : Array Oper} {Q : Exit → Act → World → Prop} {o : Oper} {a : Act} {w : World} (hw : Region.wanted o (yielded ops a.tmps) = true) {x : Operand} {v : Nat} (ho : o.op = .binOp .and 5 x (.const (.int .u8 128)) 5) (hx : a.eval x = .int .u8 (v : Int)) (hv : v < 256) : Gives Tryz.prog ops Q o (isv (.int .u8 ((v / 128 * 128 : Nat) : Int))) a w := by
  have e := bits_and128 v hv
  refine g_bin hw ho (v := .int .u8 ((v / 128 * 128 : Nat) : Int)) ?_ rfl
  rw [hx]
  generalize v / 128 * 128 = m at *
  show (do eqGuard BinOp.and 5 x (.const (.int .u8 128)) (Value.int .u8 (v : Int)) (.int .u8 128); binOp BinOp.and 5 (Value.int .u8 (v : Int)) (.int .u8 128) : Sem Value).run Tryz.prog w = _
  go_simp
theorem g_ne0 {ops : Array Oper} {Q : Exit → Act → World → Prop} {o : Oper} {a : Act} {w : World} (hw : Region.wanted o (yielded ops a.tmps) = true) {x : Operand} {v : Nat} {d : Bool} (ho : o.op = .binOp .neq 5 x (.const (.int .u8 0)) 5) (hx : a.eval x = .int .u8 (v : Int)) (hd : decide (v ≠ 0) = d) : Gives Tryz.prog ops Q o (isv (.bool d)) a w := by
  have e : ((v : Int) != 0) = d := by
    rw [← hd]
    by_cases h : v = 0
    · subst h; rfl
    · have h2 : ¬ ((v : Int) = 0) := by omega
      rw [decide_eq_true h]
      simp [h]
  refine g_bin hw ho (v := .bool d) ?_ rfl
  rw [hx]
  show (do eqGuard BinOp.neq 5 x (.const (.int .u8 0)) (Value.int .u8 (v : Int)) (.int .u8 0); binOp BinOp.neq 5 (Value.int .u8 (v : Int)) (.int .u8 0) : Sem Value).run Tryz.prog w = _
  go_simp
def hib (l : List Nat) : Bool := decide (l.getD 31 0 / 128 * 128 ≠ 0)
theorem h_bytes {x y : Kp} {u : Value} {w : World} (h : u = .agg (pe x (y - 1))) : Hands Tryz.prog 33 #[u] w (isb (pkb x y)) := by
  subst h
  refine (p_bytes x y w).mono ?_
  rintro e w' ⟨v, rfl, ho, hb⟩
  exact ⟨v, rfl, hb, ho.at⟩
theorem p_height_v {v u : Value} {l : List Nat} {w : World} (e : u = v) (h : BsAt w v l) (hl : l.length = 32) : Hands Tryz.prog 52 #[u] w (isk (yof l)) := by subst e; exact p_height h hl
theorem h_equal_v {u v v' : Value} {l m : List Nat} {w : World} {d : Bool} (h1 : BsAt w u l) (e : v = v') (h2 : BsAt w v' m) (hd : decide (l = m) = d) : Hands Tryz.prog 31 #[u, v] w (isv (.bool d)) := by
  subst e hd
  exact h_equal h1 h2
set_option maxRecDepth 100000 in
set_option maxHeartbeats 2000000 in
theorem from_len {l : List Nat} {u0 : Value} {w : World} (h : BsAt w u0 l) (hl : ¬ l.length = 32) : Hands Tryz.prog 25 #[u0] w (isv (.tuple #[.agg (pe 0 ((1 : Kp) - 1)), .bool false])) := by
  suffices HH : ∀ R_ : STy, (∀ W, R_.p W (.tuple #[.agg zp, .bool false])) → Hands Tryz.prog 25 #[u0] w R_ from HH _ (fun _ => by show _ = _; rw [zp_pe])
  intro R_ hR_
  obtain ⟨ao, c, rfl, _, hc⟩ := h.len
  have hne : ((l.length : Int) != 32) = true := by simp; omega
  have HR := hide hR_
  clear h hl hR_
  unfold Hands
  go_enter Tryz.func25, Tryz.ntmps25
  go_wp2
  exact bodyPost_ret_by (results_row_tmp rfl _ _ w.heap.size 49 _ (0, 0) _ rfl (heap_alloc_last _ _) Tryz.underlying49 rfl (by kernel_rfl)) rfl ⟨_, rfl, (Below.refl _ _).alloc (Nat.le_refl _) _, HR.out _⟩
set_option maxRecDepth 100000 in
set_option maxHeartbeats 2000000 in
theorem from_n {l : List Nat} {u0 : Value} {w : World} (h : BsAt w u0 l) (hl : l.length = 32) (LDe : LaidW 3 eiw w) (LDm : LaidW 1 rmw w) (hr : rt (yof l * yof l - (1 : Kp)) (dd * (yof l * yof l) + (1 : Kp)) = none) : Hands Tryz.prog 25 #[u0] w (isv (.tuple #[.agg (pe (0 : Kp) ((1 : Kp) - 1)), .bool false])) := by
  suffices HH : ∀ R_ : STy, (∀ W, R_.p W (.tuple #[.agg (pe (0 : Kp) ((1 : Kp) - 1)), .bool false])) → Hands Tryz.prog 25 #[u0] w R_ from HH _ (fun _ => rfl)
  intro R_ hR_
  have H0 := hide h
  have HLM := hide (h.lim 31)
  obtain ⟨b, of, c, ao, rfl, hc, hm, _, hh⟩ := h
  obtain ⟨rfl, hbl, hcl⟩ := hh (fun e => by subst e; simp at hl)
  have HC31 := hide (And.intro hbl (hcl 31 (by omega)))
  rw [hl] at H0 ⊢
  have HL := hide hl
  have HR1 := hide hr
  skip
  replace LDe := hide LDe
  replace LDm := hide LDm
  have HR := hide hR_
  obtain ⟨U, hU⟩ : ∃ U, U = Value.slice (some ⟨b, of, none⟩) 32 c := ⟨_, rfl⟩
  clear hR_ hr hcl hh hl hc 
  unfold Hands
  go_enter Tryz.func25, Tryz.ntmps25
  go_upto_region 3 with fail
  refine cut_world (fun W => Below w.heap.size w W ∧ (w.heap.size < W.heap.size ∧ W.heap[w.heap.size]? = some (.cells zp 49 (0, 0)))) ⟨(Below.refl _ _).alloc (Nat.le_refl _) _, by simp, heap_alloc_last _ _⟩ ?_
  rintro W1 ⟨BEL, R2⟩
  replace BEL := hide BEL
  have SZ := hide BEL.out.size
  replace R2 := hide R2
  have SW1 := (R2.out.1)
  refine wrt3 (tl := [isv (.slice (some ⟨b, of, none⟩) 32 c), isk (yof l), isv (.pointer (some ⟨b, of + 31, none⟩)), isv (.int .u8 ((l.getD 31 0 : Nat) : Int)), isv (.int .u8 ((l.getD 31 0 / 128 * 128 : Nat) : Int)), isv (.bool (hib l)), isv (.tuple #[.agg (pe (0 : Kp) ((1 : Kp) - 1)), .bool false]), ipt (0 : Kp) (1 : Kp), isv (.bool false)]) (pre := [(0, 0)])
    (plan := [.val [(0, 0)] 0, .val [(11, 0)] 1, .val [(0, 0)] 0, .val [(13, 0)] 2, .val [(14, 2)] 3, .val [(15, 3)] 4, .val [(16, 4)] 5, .val [(12, 1), (17, 5)] 6, .val [(18, 6)] 6, .val [(10, 6)] 7, .val [(10, 6)] 8, .alc 49 8, .sto 11 19 7, .val [(20, 8)] 8])
    [] [] [] (by kernel_rfl) 32 (by kernel_rfl) rfl (by kernel_rfl) ⟨.inr (lv0 _ _ _), ⟨.inr (lull_k _ _ _), ⟨.inr (lv0 _ _ _), ⟨.inr (lv0 _ _ _), ⟨.inr (lv0 _ _ _), ⟨.inr (lv0 _ _ _), ⟨.inr (lv0 _ _ _), ⟨.inr (lull_p _ _ _ _), ⟨.inr (lv0 _ _ _), trivial⟩⟩⟩⟩⟩⟩⟩⟩⟩
    snkAt0 snk0 ⟨rfl, trivial⟩
   (Oc3 (fun a w X_ h => g_move (wq0 rfl) (.inl rfl) h.1)
   (Oc3 (fun a w X_ h => g_call1 (wq0 rfl) (by kernel_rfl) rfl (p_height_v h.1 (H0.out.ext (X_.on BEL.out SZ.out none_le)) HL.out))
   (Oc3 (fun a w X_ h => g_move (wq0 rfl) (.inl rfl) h.1)
   (Oc3 (fun a w X_ h => g_ixe (wq0 rfl) rfl h.1 rfl (by decide))
   (Oc3 (fun a w X_ h => g_ldc (wq0 rfl) rfl h.1 ((Below.cell (p := ⟨b, of + 31, none⟩) (X_.on BEL.out SZ.out none_le) HC31.out.1).trans HC31.out.2))
   (Oc3 (fun a w X_ h => g_hi (wq0 rfl) rfl h.1 HLM.out)
   (Oc3 (fun a w X_ h => g_ne0 (wq0 rfl) rfl h.1 rfl)
   (Oc3 (fun a w X_ h => g_call2 (wq0 rfl) (by kernel_rfl) rfl (p_at_n h.1 h.2.1 (LDe.out.step (X_.on BEL.out SZ.out none_le)) (LDm.out.step (X_.on BEL.out SZ.out none_le)) HR1.out))
   (Oc3 (fun a w X_ h => g_move (wq0 rfl) (.inl rfl) h.1)
   (Oc3 (fun a w X_ h => g_ext (wq0 rfl) rfl h.1 rfl rfl)
   (Oc3 (fun a w X_ h => g_ext (wq0 rfl) rfl h.1 rfl rfl)
   (Oc3 (alc_of zp rfl rfl rfl newP)
   (Oc3 (⟨rfl, _, _, _, rfl, rfl, rfl, by kernel_rfl, row_p _ _⟩)
   (Oc3 (fun a w X_ h => g_move (wq0 rfl) (.inr rfl) h.1)
      OkL3.nil)))))))))))))) ?_
  rintro W2 X2 _ rfl _ rfl _ rfl _ rfl _ rfl _ rfl _ rfl _ rfl _ rfl _ rfl _ rfl g4 c4 ⟨L4, Z4, -⟩ r4 H4 _ rfl
  refine Fd3 ?_
  simp only [Act.put, List.setIfInBounds_toArray, List.set_cons_zero, List.set_cons_succ]
  obtain rfl : c4 = pe (0 : Kp) ((1 : Kp) - 1) := agg_inj H4
  have R4 := hide (And.intro Z4 r4)
  clear r4
  replace R2 := hide (X2.row out0 R2.out)
  replace BEL := hide (X2.on BEL.out SZ.out none_le)
  replace SZ := hide BEL.out.size
  have SW2 := X2.size
  clear X2
  go_upto_region 4 with fail
  refine wp_region_lined (tys := fun ix_ => List.getD [isv (.bool false), isv (.bool true), isv undef] ix_ anyv) (pre := [(5, 0)])
    (plan := [([(5, 0)], 0), ([(21, 0)], 1), ([(22, 1)], 1), ([(23, 1)], 2), ([(23, 1)], 2), ([(23, 1)], 2), ([(23, 1)], 2), ([(23, 1)], 2), ([(23, 1)], 1)])
    32 (by kernel_rfl) rfl ⟨rfl, trivial⟩
      (OkL.cons (fun a w X_ h => g_move (wq0 rfl) (.inl rfl) h.1)
      (OkL.cons (fun a w X_ h => g_not (wq0 rfl) rfl h.1 rfl)
      (OkL.cons (fun a w X_ h => g_move (wq0 rfl) (.inl rfl) h.1)
      (OkL.cons (fun a w X_ h => g_skip rfl rfl h.1 rfl)
      (OkL.cons (fun a w X_ h => g_skip rfl rfl h.1 rfl)
      (OkL.cons (fun a w X_ h => g_skip rfl rfl h.1 rfl)
      (OkL.cons (fun a w X_ h => g_skip rfl rfl h.1 rfl)
      (OkL.cons (fun a w X_ h => g_skip rfl rfl h.1 rfl)
      (OkL.cons (fun a w X_ h => g_pick (wq0 rfl) rfl h.1 rfl)
      OkL.nil))))))))) ?_
  rintro W4 X4 _ rfl _ rfl _ rfl _ rfl _ rfl _ rfl _ rfl _ rfl _ rfl
  refine FinL.done ?_
  simp only [Act.put, List.setIfInBounds_toArray, List.set_cons_zero, List.set_cons_succ]
  replace R2 := hide (And.intro (Nat.lt_of_lt_of_le R2.out.1 (Below.size X4)) ((Below.block X4 _ R2.out.1).trans R2.out.2))
  replace R4 := hide (And.intro (Nat.lt_of_lt_of_le R4.out.1 (Below.size X4)) ((Below.block X4 _ R4.out.1).trans R4.out.2))
  replace BEL := hide (Below.chain BEL.out X4)
  replace SZ := hide BEL.out.size
  have SW4 := Below.size X4
  clear X4
  go_upto_region 5 with fail
  refine wrl3 (tl := [ipt (0 : Kp) (1 : Kp), isv (.bool false)]) (pre := [])
    (plan := [.val [] 0, .put 0 2 30 0, .val [] 1])
    [] [(w.heap.size, 49, 8)] [(0, 2)] 32 (by kernel_rfl) rfl (by kernel_rfl) ⟨.inr (lull_p _ _ _ _), ⟨.inr (lv0 _ _ _), trivial⟩⟩
    (snkAt1 R2.out rfl rfl) (snk1 _) trivial
   (Oc3 (fun a w X_ h => g_pz (wq0 rfl) rfl)
   (Oc3 (⟨rfl, _, _, _, rfl, rfl, by kernel_rfl, row_p _ _⟩)
   (Oc3 (fun a w X_ h => g_move (wq0 rfl) (.inr rfl) rfl)
      OkL3.nil))) ?_
  rintro W5 X5 _ rfl c2 r2 H2 _ rfl
  refine Fd3 ?_
  simp only [Act.put, List.setIfInBounds_toArray, List.set_cons_zero, List.set_cons_succ]
  obtain rfl : c2 = pe (0 : Kp) ((1 : Kp) - 1) := agg_inj H2
  replace R2 := hide (And.intro (Nat.lt_of_lt_of_le R2.out.1 X5.size) r2)
  clear r2
  replace R4 := hide (X5.row (out1 (by omega)) R4.out)
  replace BEL := hide (X5.on BEL.out SZ.out (one_le (by omega)))
  replace SZ := hide BEL.out.size
  have SW5 := X5.size
  clear X5
  go_wp2
  exact bodyPost_ret_by (results_row_tmp rfl _ _ (w.heap.size) 49 _ (0, 0) _ rfl R2.out.2 Tryz.underlying49 rfl (by kernel_rfl)) rfl ⟨_, rfl, BEL.out, HR.out _⟩
set_option maxRecDepth 100000 in
set_option maxHeartbeats 2000000 in
theorem from_s0e {l : List Nat} {x : Kp} {u0 : Value} {w : World} (h : BsAt w u0 l) (hl : l.length = 32) (LDe : LaidW 3 eiw w) (LDm : LaidW 1 rmw w) (hr : rt (yof l * yof l - (1 : Kp)) (dd * (yof l * yof l) + (1 : Kp)) = some x) (hb : hib l = false) (he : decide (pkb x (yof l) = l) = true) : Hands Tryz.prog 25 #[u0] w (isv (.tuple #[.agg (pe x ((yof l) - 1)), .bool true])) := by
  suffices HH : ∀ R_ : STy, (∀ W, R_.p W (.tuple #[.agg (pe x ((yof l) - 1)), .bool true])) → Hands Tryz.prog 25 #[u0] w R_ from HH _ (fun _ => rfl)
  intro R_ hR_
  have H0 := hide h
  have HLM := hide (h.lim 31)
  obtain ⟨b, of, c, ao, rfl, hc, hm, _, hh⟩ := h
  obtain ⟨rfl, hbl, hcl⟩ := hh (fun e => by subst e; simp at hl)
  have HC31 := hide (And.intro hbl (hcl 31 (by omega)))
  rw [hl] at H0 ⊢
  have HL := hide hl
  have HR1 := hide hr
  have HE := hide he
  have HHB := hide hb
  replace LDe := hide LDe
  replace LDm := hide LDm
  have HR := hide hR_
  obtain ⟨U, hU⟩ : ∃ U, U = Value.slice (some ⟨b, of, none⟩) 32 c := ⟨_, rfl⟩
  clear hR_ hr hcl hh hl hc he hb
  unfold Hands
  go_enter Tryz.func25, Tryz.ntmps25
  go_upto_region 3 with fail
  refine cut_world (fun W => Below w.heap.size w W ∧ (w.heap.size < W.heap.size ∧ W.heap[w.heap.size]? = some (.cells zp 49 (0, 0)))) ⟨(Below.refl _ _).alloc (Nat.le_refl _) _, by simp, heap_alloc_last _ _⟩ ?_
  rintro W1 ⟨BEL, R2⟩
  replace BEL := hide BEL
  have SZ := hide BEL.out.size
  replace R2 := hide R2
  have SW1 := (R2.out.1)
  refine wrt3 (tl := [isv (.slice (some ⟨b, of, none⟩) 32 c), isk (yof l), isv (.pointer (some ⟨b, of + 31, none⟩)), isv (.int .u8 ((l.getD 31 0 : Nat) : Int)), isv (.int .u8 ((l.getD 31 0 / 128 * 128 : Nat) : Int)), isv (.bool false), isv (.tuple #[.agg (pe x ((yof l) - 1)), .bool true]), ipt x (yof l), isv (.bool true)]) (pre := [(0, 0)])
    (plan := [.val [(0, 0)] 0, .val [(11, 0)] 1, .val [(0, 0)] 0, .val [(13, 0)] 2, .val [(14, 2)] 3, .val [(15, 3)] 4, .val [(16, 4)] 5, .val [(12, 1), (17, 5)] 6, .val [(18, 6)] 6, .val [(10, 6)] 7, .val [(10, 6)] 8, .alc 49 8, .sto 11 19 7, .val [(20, 8)] 8])
    [] [] [] (by kernel_rfl) 32 (by kernel_rfl) rfl (by kernel_rfl) ⟨.inr (lv0 _ _ _), ⟨.inr (lull_k _ _ _), ⟨.inr (lv0 _ _ _), ⟨.inr (lv0 _ _ _), ⟨.inr (lv0 _ _ _), ⟨.inr (lv0 _ _ _), ⟨.inr (lv0 _ _ _), ⟨.inr (lull_p _ _ _ _), ⟨.inr (lv0 _ _ _), trivial⟩⟩⟩⟩⟩⟩⟩⟩⟩
    snkAt0 snk0 ⟨rfl, trivial⟩
   (Oc3 (fun a w X_ h => g_move (wq0 rfl) (.inl rfl) h.1)
   (Oc3 (fun a w X_ h => g_call1 (wq0 rfl) (by kernel_rfl) rfl (p_height_v h.1 (H0.out.ext (X_.on BEL.out SZ.out none_le)) HL.out))
   (Oc3 (fun a w X_ h => g_move (wq0 rfl) (.inl rfl) h.1)
   (Oc3 (fun a w X_ h => g_ixe (wq0 rfl) rfl h.1 rfl (by decide))
   (Oc3 (fun a w X_ h => g_ldc (wq0 rfl) rfl h.1 ((Below.cell (p := ⟨b, of + 31, none⟩) (X_.on BEL.out SZ.out none_le) HC31.out.1).trans HC31.out.2))
   (Oc3 (fun a w X_ h => g_hi (wq0 rfl) rfl h.1 HLM.out)
   (Oc3 (fun a w X_ h => g_ne0 (wq0 rfl) rfl h.1 HHB.out)
   (Oc3 (fun a w X_ h => g_call2 (wq0 rfl) (by kernel_rfl) rfl (p_at_s0 h.1 h.2.1 (LDe.out.step (X_.on BEL.out SZ.out none_le)) (LDm.out.step (X_.on BEL.out SZ.out none_le)) HR1.out))
   (Oc3 (fun a w X_ h => g_move (wq0 rfl) (.inl rfl) h.1)
   (Oc3 (fun a w X_ h => g_ext (wq0 rfl) rfl h.1 rfl rfl)
   (Oc3 (fun a w X_ h => g_ext (wq0 rfl) rfl h.1 rfl rfl)
   (Oc3 (alc_of zp rfl rfl rfl newP)
   (Oc3 (⟨rfl, _, _, _, rfl, rfl, rfl, by kernel_rfl, row_p _ _⟩)
   (Oc3 (fun a w X_ h => g_move (wq0 rfl) (.inr rfl) h.1)
      OkL3.nil)))))))))))))) ?_
  rintro W2 X2 _ rfl _ rfl _ rfl _ rfl _ rfl _ rfl _ rfl _ rfl _ rfl _ rfl _ rfl g4 c4 ⟨L4, Z4, -⟩ r4 H4 _ rfl
  refine Fd3 ?_
  simp only [Act.put, List.setIfInBounds_toArray, List.set_cons_zero, List.set_cons_succ]
  obtain rfl : c4 = pe x ((yof l) - 1) := agg_inj H4
  have R4 := hide (And.intro Z4 r4)
  clear r4
  replace R2 := hide (X2.row out0 R2.out)
  replace BEL := hide (X2.on BEL.out SZ.out none_le)
  replace SZ := hide BEL.out.size
  have SW2 := X2.size
  clear X2
  go_upto_region 4 with fail
  refine wp_region_lined (tys := fun ix_ => List.getD [isv (.bool true), isv (.bool false), isv (.pointer (some ⟨g4, 0, none⟩)), ipt x (yof l), isb (pkb x (yof l)), isv (.slice (some ⟨b, of, none⟩) 32 c), isv (.bool true), isv (.bool false)] ix_ anyv) (pre := [(5, 0), (4, 2), (0, 5)])
    (plan := [([(5, 0)], 0), ([(21, 0)], 1), ([(22, 1)], 1), ([(23, 1), (4, 2)], 3), ([(23, 1), (24, 3)], 4), ([(23, 1), (0, 5)], 5), ([(23, 1), (25, 4), (26, 5)], 6), ([(23, 1), (27, 6)], 7), ([(23, 1), (28, 7)], 7)])
    32 (by kernel_rfl) rfl ⟨rfl, ⟨rfl, ⟨rfl, trivial⟩⟩⟩
      (OkL.cons (fun a w X_ h => g_move (wq0 rfl) (.inl rfl) h.1)
      (OkL.cons (fun a w X_ h => g_not (wq0 rfl) rfl h.1 rfl)
      (OkL.cons (fun a w X_ h => g_move (wq0 rfl) (.inl rfl) h.1)
      (OkL.cons (fun a w X_ h => g_ldp (wanted_some rfl rfl h.1) rfl h.2.1 ((Below.block X_ _ R4.out.1).trans R4.out.2))
      (OkL.cons (fun a w X_ h => g_call1 (wanted_some rfl rfl h.1) (by kernel_rfl) rfl (h_bytes h.2.1))
      (OkL.cons (fun a w X_ h => g_move (wanted_some rfl rfl h.1) (.inl rfl) h.2.1)
      (OkL.cons (fun a w X_ h => g_call2 (wanted_some rfl rfl h.1) (by kernel_rfl) rfl (h_equal_v h.2.1 h.2.2.1 (H0.out.ext (Below.chain BEL.out X_)) HE.out))
      (OkL.cons (fun a w X_ h => g_not (wanted_some rfl rfl h.1) rfl h.2.1 rfl)
      (OkL.cons (fun a w X_ h => g_pick (wq0 rfl) rfl h.1 h.2.1)
      OkL.nil))))))))) ?_
  rintro W4 X4 _ rfl _ rfl _ rfl _ rfl v25 - _ rfl _ rfl _ rfl _ rfl
  refine FinL.done ?_
  simp only [Act.put, List.setIfInBounds_toArray, List.set_cons_zero, List.set_cons_succ]
  replace R2 := hide (And.intro (Nat.lt_of_lt_of_le R2.out.1 (Below.size X4)) ((Below.block X4 _ R2.out.1).trans R2.out.2))
  replace R4 := hide (And.intro (Nat.lt_of_lt_of_le R4.out.1 (Below.size X4)) ((Below.block X4 _ R4.out.1).trans R4.out.2))
  replace BEL := hide (Below.chain BEL.out X4)
  replace SZ := hide BEL.out.size
  have SW4 := Below.size X4
  clear X4
  go_upto_region 6 with fail
  refine wrl3 (tl := [isv (.pointer (some ⟨g4, 0, none⟩)), ipt x (yof l), isv (.bool true)]) (pre := [(4, 0)])
    (plan := [.val [(4, 0)] 1, .put 0 2 31 1, .val [] 2])
    [] [(w.heap.size, 49, 8)] [(0, 2)] 32 (by kernel_rfl) rfl (by kernel_rfl) ⟨.inr (lv0 _ _ _), ⟨.inr (lull_p _ _ _ _), ⟨.inr (lv0 _ _ _), trivial⟩⟩⟩
    (snkAt1 R2.out rfl rfl) (snk1 _) ⟨rfl, trivial⟩
   (Oc3 (fun a w X_ h => g_ldp (wq0 rfl) rfl h.1 (X_.at_ R4.out.1 (out1 (by omega)) R4.out.2))
   (Oc3 (⟨rfl, _, _, _, rfl, rfl, by kernel_rfl, row_p _ _⟩)
   (Oc3 (fun a w X_ h => g_move (wq0 rfl) (.inr rfl) rfl)
      OkL3.nil))) ?_
  rintro W5 X5 _ rfl c2 r2 H2 _ rfl
  refine Fd3 ?_
  simp only [Act.put, List.setIfInBounds_toArray, List.set_cons_zero, List.set_cons_succ]
  obtain rfl : c2 = pe x ((yof l) - 1) := agg_inj H2
  replace R2 := hide (And.intro (Nat.lt_of_lt_of_le R2.out.1 X5.size) r2)
  clear r2
  replace R4 := hide (X5.row (out1 (by omega)) R4.out)
  replace BEL := hide (X5.on BEL.out SZ.out (one_le (by omega)))
  replace SZ := hide BEL.out.size
  have SW5 := X5.size
  clear X5
  go_wp2
  exact bodyPost_ret_by (results_row_tmp rfl _ _ (w.heap.size) 49 _ (0, 0) _ rfl R2.out.2 Tryz.underlying49 rfl (by kernel_rfl)) rfl ⟨_, rfl, BEL.out, HR.out _⟩
set_option maxRecDepth 100000 in
set_option maxHeartbeats 2000000 in
theorem from_s0x {l : List Nat} {x : Kp} {u0 : Value} {w : World} (h : BsAt w u0 l) (hl : l.length = 32) (LDe : LaidW 3 eiw w) (LDm : LaidW 1 rmw w) (hr : rt (yof l * yof l - (1 : Kp)) (dd * (yof l * yof l) + (1 : Kp)) = some x) (hb : hib l = false) (he : decide (pkb x (yof l) = l) = false) : Hands Tryz.prog 25 #[u0] w (isv (.tuple #[.agg (pe (0 : Kp) ((1 : Kp) - 1)), .bool false])) := by
  suffices HH : ∀ R_ : STy, (∀ W, R_.p W (.tuple #[.agg (pe (0 : Kp) ((1 : Kp) - 1)), .bool false])) → Hands Tryz.prog 25 #[u0] w R_ from HH _ (fun _ => rfl)
  intro R_ hR_
  have H0 := hide h
  have HLM := hide (h.lim 31)
  obtain ⟨b, of, c, ao, rfl, hc, hm, _, hh⟩ := h
  obtain ⟨rfl, hbl, hcl⟩ := hh (fun e => by subst e; simp at hl)
  have HC31 := hide (And.intro hbl (hcl 31 (by omega)))
  rw [hl] at H0 ⊢
  have HL := hide hl
  have HR1 := hide hr
  have HE := hide he
  have HHB := hide hb
  replace LDe := hide LDe
  replace LDm := hide LDm
  have HR := hide hR_
  obtain ⟨U, hU⟩ : ∃ U, U = Value.slice (some ⟨b, of, none⟩) 32 c := ⟨_, rfl⟩
  clear hR_ hr hcl hh hl hc he hb
  unfold Hands
  go_enter Tryz.func25, Tryz.ntmps25
  go_upto_region 3 with fail
  refine cut_world (fun W => Below w.heap.size w W ∧ (w.heap.size < W.heap.size ∧ W.heap[w.heap.size]? = some (.cells zp 49 (0, 0)))) ⟨(Below.refl _ _).alloc (Nat.le_refl _) _, by simp, heap_alloc_last _ _⟩ ?_
  rintro W1 ⟨BEL, R2⟩
  replace BEL := hide BEL
  have SZ := hide BEL.out.size
  replace R2 := hide R2
  have SW1 := (R2.out.1)
  refine wrt3 (tl := [isv (.slice (some ⟨b, of, none⟩) 32 c), isk (yof l), isv (.pointer (some ⟨b, of + 31, none⟩)), isv (.int .u8 ((l.getD 31 0 : Nat) : Int)), isv (.int .u8 ((l.getD 31 0 / 128 * 128 : Nat) : Int)), isv (.bool false), isv (.tuple #[.agg (pe x ((yof l) - 1)), .bool true]), ipt x (yof l), isv (.bool true)]) (pre := [(0, 0)])
    (plan := [.val [(0, 0)] 0, .val [(11, 0)] 1, .val [(0, 0)] 0, .val [(13, 0)] 2, .val [(14, 2)] 3, .val [(15, 3)] 4, .val [(16, 4)] 5, .val [(12, 1), (17, 5)] 6, .val [(18, 6)] 6, .val [(10, 6)] 7, .val [(10, 6)] 8, .alc 49 8, .sto 11 19 7, .val [(20, 8)] 8])
    [] [] [] (by kernel_rfl) 32 (by kernel_rfl) rfl (by kernel_rfl) ⟨.inr (lv0 _ _ _), ⟨.inr (lull_k _ _ _), ⟨.inr (lv0 _ _ _), ⟨.inr (lv0 _ _ _), ⟨.inr (lv0 _ _ _), ⟨.inr (lv0 _ _ _), ⟨.inr (lv0 _ _ _), ⟨.inr (lull_p _ _ _ _), ⟨.inr (lv0 _ _ _), trivial⟩⟩⟩⟩⟩⟩⟩⟩⟩
    snkAt0 snk0 ⟨rfl, trivial⟩
   (Oc3 (fun a w X_ h => g_move (wq0 rfl) (.inl rfl) h.1)
   (Oc3 (fun a w X_ h => g_call1 (wq0 rfl) (by kernel_rfl) rfl (p_height_v h.1 (H0.out.ext (X_.on BEL.out SZ.out none_le)) HL.out))
   (Oc3 (fun a w X_ h => g_move (wq0 rfl) (.inl rfl) h.1)
   (Oc3 (fun a w X_ h => g_ixe (wq0 rfl) rfl h.1 rfl (by decide))
   (Oc3 (fun a w X_ h => g_ldc (wq0 rfl) rfl h.1 ((Below.cell (p := ⟨b, of + 31, none⟩) (X_.on BEL.out SZ.out none_le) HC31.out.1).trans HC31.out.2))
   (Oc3 (fun a w X_ h => g_hi (wq0 rfl) rfl h.1 HLM.out)
   (Oc3 (fun a w X_ h => g_ne0 (wq0 rfl) rfl h.1 HHB.out)
   (Oc3 (fun a w X_ h => g_call2 (wq0 rfl) (by kernel_rfl) rfl (p_at_s0 h.1 h.2.1 (LDe.out.step (X_.on BEL.out SZ.out none_le)) (LDm.out.step (X_.on BEL.out SZ.out none_le)) HR1.out))
   (Oc3 (fun a w X_ h => g_move (wq0 rfl) (.inl rfl) h.1)
   (Oc3 (fun a w X_ h => g_ext (wq0 rfl) rfl h.1 rfl rfl)
   (Oc3 (fun a w X_ h => g_ext (wq0 rfl) rfl h.1 rfl rfl)
   (Oc3 (alc_of zp rfl rfl rfl newP)
   (Oc3 (⟨rfl, _, _, _, rfl, rfl, rfl, by kernel_rfl, row_p _ _⟩)
   (Oc3 (fun a w X_ h => g_move (wq0 rfl) (.inr rfl) h.1)
      OkL3.nil)))))))))))))) ?_
  rintro W2 X2 _ rfl _ rfl _ rfl _ rfl _ rfl _ rfl _ rfl _ rfl _ rfl _ rfl _ rfl g4 c4 ⟨L4, Z4, -⟩ r4 H4 _ rfl
  refine Fd3 ?_
  simp only [Act.put, List.setIfInBounds_toArray, List.set_cons_zero, List.set_cons_succ]
  obtain rfl : c4 = pe x ((yof l) - 1) := agg_inj H4
  have R4 := hide (And.intro Z4 r4)
  clear r4
  replace R2 := hide (X2.row out0 R2.out)
  replace BEL := hide (X2.on BEL.out SZ.out none_le)
  replace SZ := hide BEL.out.size
  have SW2 := X2.size
  clear X2
  go_upto_region 4 with fail
  refine wp_region_lined (tys := fun ix_ => List.getD [isv (.bool true), isv (.bool false), isv (.pointer (some ⟨g4, 0, none⟩)), ipt x (yof l), isb (pkb x (yof l)), isv (.slice (some ⟨b, of, none⟩) 32 c), isv (.bool false), isv (.bool true)] ix_ anyv) (pre := [(5, 0), (4, 2), (0, 5)])
    (plan := [([(5, 0)], 0), ([(21, 0)], 1), ([(22, 1)], 1), ([(23, 1), (4, 2)], 3), ([(23, 1), (24, 3)], 4), ([(23, 1), (0, 5)], 5), ([(23, 1), (25, 4), (26, 5)], 6), ([(23, 1), (27, 6)], 7), ([(23, 1), (28, 7)], 7)])
    32 (by kernel_rfl) rfl ⟨rfl, ⟨rfl, ⟨rfl, trivial⟩⟩⟩
      (OkL.cons (fun a w X_ h => g_move (wq0 rfl) (.inl rfl) h.1)
      (OkL.cons (fun a w X_ h => g_not (wq0 rfl) rfl h.1 rfl)
      (OkL.cons (fun a w X_ h => g_move (wq0 rfl) (.inl rfl) h.1)
      (OkL.cons (fun a w X_ h => g_ldp (wanted_some rfl rfl h.1) rfl h.2.1 ((Below.block X_ _ R4.out.1).trans R4.out.2))
      (OkL.cons (fun a w X_ h => g_call1 (wanted_some rfl rfl h.1) (by kernel_rfl) rfl (h_bytes h.2.1))
      (OkL.cons (fun a w X_ h => g_move (wanted_some rfl rfl h.1) (.inl rfl) h.2.1)
      (OkL.cons (fun a w X_ h => g_call2 (wanted_some rfl rfl h.1) (by kernel_rfl) rfl (h_equal_v h.2.1 h.2.2.1 (H0.out.ext (Below.chain BEL.out X_)) HE.out))
      (OkL.cons (fun a w X_ h => g_not (wanted_some rfl rfl h.1) rfl h.2.1 rfl)
      (OkL.cons (fun a w X_ h => g_pick (wq0 rfl) rfl h.1 h.2.1)
      OkL.nil))))))))) ?_
  rintro W4 X4 _ rfl _ rfl _ rfl _ rfl v25 - _ rfl _ rfl _ rfl _ rfl
  refine FinL.done ?_
  simp only [Act.put, List.setIfInBounds_toArray, List.set_cons_zero, List.set_cons_succ]
  replace R2 := hide (And.intro (Nat.lt_of_lt_of_le R2.out.1 (Below.size X4)) ((Below.block X4 _ R2.out.1).trans R2.out.2))
  replace R4 := hide (And.intro (Nat.lt_of_lt_of_le R4.out.1 (Below.size X4)) ((Below.block X4 _ R4.out.1).trans R4.out.2))
  replace BEL := hide (Below.chain BEL.out X4)
  replace SZ := hide BEL.out.size
  have SW4 := Below.size X4
  clear X4
  go_upto_region 5 with fail
  refine wrl3 (tl := [ipt (0 : Kp) (1 : Kp), isv (.bool false)]) (pre := [])
    (plan := [.val [] 0, .put 0 2 30 0, .val [] 1])
    [] [(w.heap.size, 49, 8)] [(0, 2)] 32 (by kernel_rfl) rfl (by kernel_rfl) ⟨.inr (lull_p _ _ _ _), ⟨.inr (lv0 _ _ _), trivial⟩⟩
    (snkAt1 R2.out rfl rfl) (snk1 _) trivial
   (Oc3 (fun a w X_ h => g_pz (wq0 rfl) rfl)
   (Oc3 (⟨rfl, _, _, _, rfl, rfl, by kernel_rfl, row_p _ _⟩)
   (Oc3 (fun a w X_ h => g_move (wq0 rfl) (.inr rfl) rfl)
      OkL3.nil))) ?_
  rintro W5 X5 _ rfl c2 r2 H2 _ rfl
  refine Fd3 ?_
  simp only [Act.put, List.setIfInBounds_toArray, List.set_cons_zero, List.set_cons_succ]
  obtain rfl : c2 = pe (0 : Kp) ((1 : Kp) - 1) := agg_inj H2
  replace R2 := hide (And.intro (Nat.lt_of_lt_of_le R2.out.1 X5.size) r2)
  clear r2
  replace R4 := hide (X5.row (out1 (by omega)) R4.out)
  replace BEL := hide (X5.on BEL.out SZ.out (one_le (by omega)))
  replace SZ := hide BEL.out.size
  have SW5 := X5.size
  clear X5
  go_wp2
  exact bodyPost_ret_by (results_row_tmp rfl _ _ (w.heap.size) 49 _ (0, 0) _ rfl R2.out.2 Tryz.underlying49 rfl (by kernel_rfl)) rfl ⟨_, rfl, BEL.out, HR.out _⟩
set_option maxRecDepth 100000 in
set_option maxHeartbeats 2000000 in
theorem from_s1e {l : List Nat} {x : Kp} {u0 : Value} {w : World} (h : BsAt w u0 l) (hl : l.length = 32) (LDe : LaidW 3 eiw w) (LDm : LaidW 1 rmw w) (hr : rt (yof l * yof l - (1 : Kp)) (dd * (yof l * yof l) + (1 : Kp)) = some x) (hb : hib l = true) (he : decide (pkb (-x) (yof l) = l) = true) : Hands Tryz.prog 25 #[u0] w (isv (.tuple #[.agg (pe (-x) ((yof l) - 1)), .bool true])) := by
  suffices HH : ∀ R_ : STy, (∀ W, R_.p W (.tuple #[.agg (pe (-x) ((yof l) - 1)), .bool true])) → Hands Tryz.prog 25 #[u0] w R_ from HH _ (fun _ => rfl)
  intro R_ hR_
  have H0 := hide h
  have HLM := hide (h.lim 31)
  obtain ⟨b, of, c, ao, rfl, hc, hm, _, hh⟩ := h
  obtain ⟨rfl, hbl, hcl⟩ := hh (fun e => by subst e; simp at hl)
  have HC31 := hide (And.intro hbl (hcl 31 (by omega)))
  rw [hl] at H0 ⊢
  have HL := hide hl
  have HR1 := hide hr
  have HE := hide he
  have HHB := hide hb
  replace LDe := hide LDe
  replace LDm := hide LDm
  have HR := hide hR_
  obtain ⟨U, hU⟩ : ∃ U, U = Value.slice (some ⟨b, of, none⟩) 32 c := ⟨_, rfl⟩
  clear hR_ hr hcl hh hl hc he hb
  unfold Hands
  go_enter Tryz.func25, Tryz.ntmps25
  go_upto_region 3 with fail
  refine cut_world (fun W => Below w.heap.size w W ∧ (w.heap.size < W.heap.size ∧ W.heap[w.heap.size]? = some (.cells zp 49 (0, 0)))) ⟨(Below.refl _ _).alloc (Nat.le_refl _) _, by simp, heap_alloc_last _ _⟩ ?_
  rintro W1 ⟨BEL, R2⟩
  replace BEL := hide BEL
  have SZ := hide BEL.out.size
  replace R2 := hide R2
  have SW1 := (R2.out.1)
  refine wrt3 (tl := [isv (.slice (some ⟨b, of, none⟩) 32 c), isk (yof l), isv (.pointer (some ⟨b, of + 31, none⟩)), isv (.int .u8 ((l.getD 31 0 : Nat) : Int)), isv (.int .u8 ((l.getD 31 0 / 128 * 128 : Nat) : Int)), isv (.bool true), isv (.tuple #[.agg (pe (-x) ((yof l) - 1)), .bool true]), ipt (-x) (yof l)]) (pre := [(0, 0)])
    (plan := [.val [(0, 0)] 0, .val [(11, 0)] 1, .val [(0, 0)] 0, .val [(13, 0)] 2, .val [(14, 2)] 3, .val [(15, 3)] 4, .val [(16, 4)] 5, .val [(12, 1), (17, 5)] 6, .val [(18, 6)] 6, .val [(10, 6)] 7, .val [(10, 6)] 5, .alc 49 8, .sto 11 19 7, .val [(20, 5)] 5])
    [] [] [] (by kernel_rfl) 32 (by kernel_rfl) rfl (by kernel_rfl) ⟨.inr (lv0 _ _ _), ⟨.inr (lull_k _ _ _), ⟨.inr (lv0 _ _ _), ⟨.inr (lv0 _ _ _), ⟨.inr (lv0 _ _ _), ⟨.inr (lv0 _ _ _), ⟨.inr (lv0 _ _ _), ⟨.inr (lull_p _ _ _ _), trivial⟩⟩⟩⟩⟩⟩⟩⟩
    snkAt0 snk0 ⟨rfl, trivial⟩
   (Oc3 (fun a w X_ h => g_move (wq0 rfl) (.inl rfl) h.1)
   (Oc3 (fun a w X_ h => g_call1 (wq0 rfl) (by kernel_rfl) rfl (p_height_v h.1 (H0.out.ext (X_.on BEL.out SZ.out none_le)) HL.out))
   (Oc3 (fun a w X_ h => g_move (wq0 rfl) (.inl rfl) h.1)
   (Oc3 (fun a w X_ h => g_ixe (wq0 rfl) rfl h.1 rfl (by decide))
   (Oc3 (fun a w X_ h => g_ldc (wq0 rfl) rfl h.1 ((Below.cell (p := ⟨b, of + 31, none⟩) (X_.on BEL.out SZ.out none_le) HC31.out.1).trans HC31.out.2))
   (Oc3 (fun a w X_ h => g_hi (wq0 rfl) rfl h.1 HLM.out)
   (Oc3 (fun a w X_ h => g_ne0 (wq0 rfl) rfl h.1 HHB.out)
   (Oc3 (fun a w X_ h => g_call2 (wq0 rfl) (by kernel_rfl) rfl (p_at_s1 h.1 h.2.1 (LDe.out.step (X_.on BEL.out SZ.out none_le)) (LDm.out.step (X_.on BEL.out SZ.out none_le)) HR1.out))
   (Oc3 (fun a w X_ h => g_move (wq0 rfl) (.inl rfl) h.1)
   (Oc3 (fun a w X_ h => g_ext (wq0 rfl) rfl h.1 rfl rfl)
   (Oc3 (fun a w X_ h => g_ext (wq0 rfl) rfl h.1 rfl rfl)
   (Oc3 (alc_of zp rfl rfl rfl newP)
   (Oc3 (⟨rfl, _, _, _, rfl, rfl, rfl, by kernel_rfl, row_p _ _⟩)
   (Oc3 (fun a w X_ h => g_move (wq0 rfl) (.inr rfl) h.1)
      OkL3.nil)))))))))))))) ?_
  rintro W2 X2 _ rfl _ rfl _ rfl _ rfl _ rfl _ rfl _ rfl _ rfl _ rfl _ rfl _ rfl g4 c4 ⟨L4, Z4, -⟩ r4 H4 _ rfl
  refine Fd3 ?_
  simp only [Act.put, List.setIfInBounds_toArray, List.set_cons_zero, List.set_cons_succ]
  obtain rfl : c4 = pe (-x) ((yof l) - 1) := agg_inj H4
  have R4 := hide (And.intro Z4 r4)
  clear r4
  replace R2 := hide (X2.row out0 R2.out)
  replace BEL := hide (X2.on BEL.out SZ.out none_le)
  replace SZ := hide BEL.out.size
  have SW2 := X2.size
  clear X2
  go_upto_region 4 with fail
  refine wp_region_lined (tys := fun ix_ => List.getD [isv (.bool true), isv (.bool false), isv (.pointer (some ⟨g4, 0, none⟩)), ipt (-x) (yof l), isb (pkb (-x) (yof l)), isv (.slice (some ⟨b, of, none⟩) 32 c), isv (.bool true), isv (.bool false)] ix_ anyv) (pre := [(5, 0), (4, 2), (0, 5)])
    (plan := [([(5, 0)], 0), ([(21, 0)], 1), ([(22, 1)], 1), ([(23, 1), (4, 2)], 3), ([(23, 1), (24, 3)], 4), ([(23, 1), (0, 5)], 5), ([(23, 1), (25, 4), (26, 5)], 6), ([(23, 1), (27, 6)], 7), ([(23, 1), (28, 7)], 7)])
    32 (by kernel_rfl) rfl ⟨rfl, ⟨rfl, ⟨rfl, trivial⟩⟩⟩
      (OkL.cons (fun a w X_ h => g_move (wq0 rfl) (.inl rfl) h.1)
      (OkL.cons (fun a w X_ h => g_not (wq0 rfl) rfl h.1 rfl)
      (OkL.cons (fun a w X_ h => g_move (wq0 rfl) (.inl rfl) h.1)
      (OkL.cons (fun a w X_ h => g_ldp (wanted_some rfl rfl h.1) rfl h.2.1 ((Below.block X_ _ R4.out.1).trans R4.out.2))
      (OkL.cons (fun a w X_ h => g_call1 (wanted_some rfl rfl h.1) (by kernel_rfl) rfl (h_bytes h.2.1))
      (OkL.cons (fun a w X_ h => g_move (wanted_some rfl rfl h.1) (.inl rfl) h.2.1)
      (OkL.cons (fun a w X_ h => g_call2 (wanted_some rfl rfl h.1) (by kernel_rfl) rfl (h_equal_v h.2.1 h.2.2.1 (H0.out.ext (Below.chain BEL.out X_)) HE.out))
      (OkL.cons (fun a w X_ h => g_not (wanted_some rfl rfl h.1) rfl h.2.1 rfl)
      (OkL.cons (fun a w X_ h => g_pick (wq0 rfl) rfl h.1 h.2.1)
      OkL.nil))))))))) ?_
  rintro W4 X4 _ rfl _ rfl _ rfl _ rfl v25 - _ rfl _ rfl _ rfl _ rfl
  refine FinL.done ?_
  simp only [Act.put, List.setIfInBounds_toArray, List.set_cons_zero, List.set_cons_succ]
  replace R2 := hide (And.intro (Nat.lt_of_lt_of_le R2.out.1 (Below.size X4)) ((Below.block X4 _ R2.out.1).trans R2.out.2))
  replace R4 := hide (And.intro (Nat.lt_of_lt_of_le R4.out.1 (Below.size X4)) ((Below.block X4 _ R4.out.1).trans R4.out.2))
  replace BEL := hide (Below.chain BEL.out X4)
  replace SZ := hide BEL.out.size
  have SW4 := Below.size X4
  clear X4
  go_upto_region 6 with fail
  refine wrl3 (tl := [isv (.pointer (some ⟨g4, 0, none⟩)), ipt (-x) (yof l), isv (.bool true)]) (pre := [(4, 0)])
    (plan := [.val [(4, 0)] 1, .put 0 2 31 1, .val [] 2])
    [] [(w.heap.size, 49, 8)] [(0, 2)] 32 (by kernel_rfl) rfl (by kernel_rfl) ⟨.inr (lv0 _ _ _), ⟨.inr (lull_p _ _ _ _), ⟨.inr (lv0 _ _ _), trivial⟩⟩⟩
    (snkAt1 R2.out rfl rfl) (snk1 _) ⟨rfl, trivial⟩
   (Oc3 (fun a w X_ h => g_ldp (wq0 rfl) rfl h.1 (X_.at_ R4.out.1 (out1 (by omega)) R4.out.2))
   (Oc3 (⟨rfl, _, _, _, rfl, rfl, by kernel_rfl, row_p _ _⟩)
   (Oc3 (fun a w X_ h => g_move (wq0 rfl) (.inr rfl) rfl)
      OkL3.nil))) ?_
  rintro W5 X5 _ rfl c2 r2 H2 _ rfl
  refine Fd3 ?_
  simp only [Act.put, List.setIfInBounds_toArray, List.set_cons_zero, List.set_cons_succ]
  obtain rfl : c2 = pe (-x) ((yof l) - 1) := agg_inj H2
  replace R2 := hide (And.intro (Nat.lt_of_lt_of_le R2.out.1 X5.size) r2)
  clear r2
  replace R4 := hide (X5.row (out1 (by omega)) R4.out)
  replace BEL := hide (X5.on BEL.out SZ.out (one_le (by omega)))
  replace SZ := hide BEL.out.size
  have SW5 := X5.size
  clear X5
  go_wp2
  exact bodyPost_ret_by (results_row_tmp rfl _ _ (w.heap.size) 49 _ (0, 0) _ rfl R2.out.2 Tryz.underlying49 rfl (by kernel_rfl)) rfl ⟨_, rfl, BEL.out, HR.out _⟩
set_option maxRecDepth 100000 in
set_option maxHeartbeats 2000000 in
theorem from_s1x {l : List Nat} {x : Kp} {u0 : Value} {w : World} (h : BsAt w u0 l) (hl : l.length = 32) (LDe : LaidW 3 eiw w) (LDm : LaidW 1 rmw w) (hr : rt (yof l * yof l - (1 : Kp)) (dd * (yof l * yof l) + (1 : Kp)) = some x) (hb : hib l = true) (he : decide (pkb (-x) (yof l) = l) = false) : Hands Tryz.prog 25 #[u0] w (isv (.tuple #[.agg (pe (0 : Kp) ((1 : Kp) - 1)), .bool false])) := by
  suffices HH : ∀ R_ : STy, (∀ W, R_.p W (.tuple #[.agg (pe (0 : Kp) ((1 : Kp) - 1)), .bool false])) → Hands Tryz.prog 25 #[u0] w R_ from HH _ (fun _ => rfl)
  intro R_ hR_
  have H0 := hide h
  have HLM := hide (h.lim 31)
  obtain ⟨b, of, c, ao, rfl, hc, hm, _, hh⟩ := h
  obtain ⟨rfl, hbl, hcl⟩ := hh (fun e => by subst e; simp at hl)
  have HC31 := hide (And.intro hbl (hcl 31 (by omega)))
  rw [hl] at H0 ⊢
  have HL := hide hl
  have HR1 := hide hr
  have HE := hide he
  have HHB := hide hb
  replace LDe := hide LDe
  replace LDm := hide LDm
  have HR := hide hR_
  obtain ⟨U, hU⟩ : ∃ U, U = Value.slice (some ⟨b, of, none⟩) 32 c := ⟨_, rfl⟩
  clear hR_ hr hcl hh hl hc he hb
  unfold Hands
  go_enter Tryz.func25, Tryz.ntmps25
  go_upto_region 3 with fail
  refine cut_world (fun W => Below w.heap.size w W ∧ (w.heap.size < W.heap.size ∧ W.heap[w.heap.size]? = some (.cells zp 49 (0, 0)))) ⟨(Below.refl _ _).alloc (Nat.le_refl _) _, by simp, heap_alloc_last _ _⟩ ?_
  rintro W1 ⟨BEL, R2⟩
  replace BEL := hide BEL
  have SZ := hide BEL.out.size
  replace R2 := hide R2
  have SW1 := (R2.out.1)
  refine wrt3 (tl := [isv (.slice (some ⟨b, of, none⟩) 32 c), isk (yof l), isv (.pointer (some ⟨b, of + 31, none⟩)), isv (.int .u8 ((l.getD 31 0 : Nat) : Int)), isv (.int .u8 ((l.getD 31 0 / 128 * 128 : Nat) : Int)), isv (.bool true), isv (.tuple #[.agg (pe (-x) ((yof l) - 1)), .bool true]), ipt (-x) (yof l)]) (pre := [(0, 0)])
    (plan := [.val [(0, 0)] 0, .val [(11, 0)] 1, .val [(0, 0)] 0, .val [(13, 0)] 2, .val [(14, 2)] 3, .val [(15, 3)] 4, .val [(16, 4)] 5, .val [(12, 1), (17, 5)] 6, .val [(18, 6)] 6, .val [(10, 6)] 7, .val [(10, 6)] 5, .alc 49 8, .sto 11 19 7, .val [(20, 5)] 5])
    [] [] [] (by kernel_rfl) 32 (by kernel_rfl) rfl (by kernel_rfl) ⟨.inr (lv0 _ _ _), ⟨.inr (lull_k _ _ _), ⟨.inr (lv0 _ _ _), ⟨.inr (lv0 _ _ _), ⟨.inr (lv0 _ _ _), ⟨.inr (lv0 _ _ _), ⟨.inr (lv0 _ _ _), ⟨.inr (lull_p _ _ _ _), trivial⟩⟩⟩⟩⟩⟩⟩⟩
    snkAt0 snk0 ⟨rfl, trivial⟩
   (Oc3 (fun a w X_ h => g_move (wq0 rfl) (.inl rfl) h.1)
   (Oc3 (fun a w X_ h => g_call1 (wq0 rfl) (by kernel_rfl) rfl (p_height_v h.1 (H0.out.ext (X_.on BEL.out SZ.out none_le)) HL.out))
   (Oc3 (fun a w X_ h => g_move (wq0 rfl) (.inl rfl) h.1)
   (Oc3 (fun a w X_ h => g_ixe (wq0 rfl) rfl h.1 rfl (by decide))
   (Oc3 (fun a w X_ h => g_ldc (wq0 rfl) rfl h.1 ((Below.cell (p := ⟨b, of + 31, none⟩) (X_.on BEL.out SZ.out none_le) HC31.out.1).trans HC31.out.2))
   (Oc3 (fun a w X_ h => g_hi (wq0 rfl) rfl h.1 HLM.out)
   (Oc3 (fun a w X_ h => g_ne0 (wq0 rfl) rfl h.1 HHB.out)
   (Oc3 (fun a w X_ h => g_call2 (wq0 rfl) (by kernel_rfl) rfl (p_at_s1 h.1 h.2.1 (LDe.out.step (X_.on BEL.out SZ.out none_le)) (LDm.out.step (X_.on BEL.out SZ.out none_le)) HR1.out))
   (Oc3 (fun a w X_ h => g_move (wq0 rfl) (.inl rfl) h.1)
   (Oc3 (fun a w X_ h => g_ext (wq0 rfl) rfl h.1 rfl rfl)
   (Oc3 (fun a w X_ h => g_ext (wq0 rfl) rfl h.1 rfl rfl)
   (Oc3 (alc_of zp rfl rfl rfl newP)
   (Oc3 (⟨rfl, _, _, _, rfl, rfl, rfl, by kernel_rfl, row_p _ _⟩)
   (Oc3 (fun a w X_ h => g_move (wq0 rfl) (.inr rfl) h.1)
      OkL3.nil)))))))))))))) ?_
  rintro W2 X2 _ rfl _ rfl _ rfl _ rfl _ rfl _ rfl _ rfl _ rfl _ rfl _ rfl _ rfl g4 c4 ⟨L4, Z4, -⟩ r4 H4 _ rfl
  refine Fd3 ?_
  simp only [Act.put, List.setIfInBounds_toArray, List.set_cons_zero, List.set_cons_succ]
  obtain rfl : c4 = pe (-x) ((yof l) - 1) := agg_inj H4
  have R4 := hide (And.intro Z4 r4)
  clear r4
  replace R2 := hide (X2.row out0 R2.out)
  replace BEL := hide (X2.on BEL.out SZ.out none_le)
  replace SZ := hide BEL.out.size
  have SW2 := X2.size
  clear X2
  go_upto_region 4 with fail
  refine wp_region_lined (tys := fun ix_ => List.getD [isv (.bool true), isv (.bool false), isv (.pointer (some ⟨g4, 0, none⟩)), ipt (-x) (yof l), isb (pkb (-x) (yof l)), isv (.slice (some ⟨b, of, none⟩) 32 c), isv (.bool false), isv (.bool true)] ix_ anyv) (pre := [(5, 0), (4, 2), (0, 5)])
    (plan := [([(5, 0)], 0), ([(21, 0)], 1), ([(22, 1)], 1), ([(23, 1), (4, 2)], 3), ([(23, 1), (24, 3)], 4), ([(23, 1), (0, 5)], 5), ([(23, 1), (25, 4), (26, 5)], 6), ([(23, 1), (27, 6)], 7), ([(23, 1), (28, 7)], 7)])
    32 (by kernel_rfl) rfl ⟨rfl, ⟨rfl, ⟨rfl, trivial⟩⟩⟩
      (OkL.cons (fun a w X_ h => g_move (wq0 rfl) (.inl rfl) h.1)
      (OkL.cons (fun a w X_ h => g_not (wq0 rfl) rfl h.1 rfl)
      (OkL.cons (fun a w X_ h => g_move (wq0 rfl) (.inl rfl) h.1)
      (OkL.cons (fun a w X_ h => g_ldp (wanted_some rfl rfl h.1) rfl h.2.1 ((Below.block X_ _ R4.out.1).trans R4.out.2))
      (OkL.cons (fun a w X_ h => g_call1 (wanted_some rfl rfl h.1) (by kernel_rfl) rfl (h_bytes h.2.1))
      (OkL.cons (fun a w X_ h => g_move (wanted_some rfl rfl h.1) (.inl rfl) h.2.1)
      (OkL.cons (fun a w X_ h => g_call2 (wanted_some rfl rfl h.1) (by kernel_rfl) rfl (h_equal_v h.2.1 h.2.2.1 (H0.out.ext (Below.chain BEL.out X_)) HE.out))
      (OkL.cons (fun a w X_ h => g_not (wanted_some rfl rfl h.1) rfl h.2.1 rfl)
      (OkL.cons (fun a w X_ h => g_pick (wq0 rfl) rfl h.1 h.2.1)
      OkL.nil))))))))) ?_
  rintro W4 X4 _ rfl _ rfl _ rfl _ rfl v25 - _ rfl _ rfl _ rfl _ rfl
  refine FinL.done ?_
  simp only [Act.put, List.setIfInBounds_toArray, List.set_cons_zero, List.set_cons_succ]
  replace R2 := hide (And.intro (Nat.lt_of_lt_of_le R2.out.1 (Below.size X4)) ((Below.block X4 _ R2.out.1).trans R2.out.2))
  replace R4 := hide (And.intro (Nat.lt_of_lt_of_le R4.out.1 (Below.size X4)) ((Below.block X4 _ R4.out.1).trans R4.out.2))
  replace BEL := hide (Below.chain BEL.out X4)
  replace SZ := hide BEL.out.size
  have SW4 := Below.size X4
  clear X4
  go_upto_region 5 with fail
  refine wrl3 (tl := [ipt (0 : Kp) (1 : Kp), isv (.bool false)]) (pre := [])
    (plan := [.val [] 0, .put 0 2 30 0, .val [] 1])
    [] [(w.heap.size, 49, 8)] [(0, 2)] 32 (by kernel_rfl) rfl (by kernel_rfl) ⟨.inr (lull_p _ _ _ _), ⟨.inr (lv0 _ _ _), trivial⟩⟩
    (snkAt1 R2.out rfl rfl) (snk1 _) trivial
   (Oc3 (fun a w X_ h => g_pz (wq0 rfl) rfl)
   (Oc3 (⟨rfl, _, _, _, rfl, rfl, by kernel_rfl, row_p _ _⟩)
   (Oc3 (fun a w X_ h => g_move (wq0 rfl) (.inr rfl) rfl)
      OkL3.nil))) ?_
  rintro W5 X5 _ rfl c2 r2 H2 _ rfl
  refine Fd3 ?_
  simp only [Act.put, List.setIfInBounds_toArray, List.set_cons_zero, List.set_cons_succ]
  obtain rfl : c2 = pe (0 : Kp) ((1 : Kp) - 1) := agg_inj H2
  replace R2 := hide (And.intro (Nat.lt_of_lt_of_le R2.out.1 X5.size) r2)
  clear r2
  replace R4 := hide (X5.row (out1 (by omega)) R4.out)
  replace BEL := hide (X5.on BEL.out SZ.out (one_le (by omega)))
  replace SZ := hide BEL.out.size
  have SW5 := X5.size
  clear X5
  go_wp2
  exact bodyPost_ret_by (results_row_tmp rfl _ _ (w.heap.size) 49 _ (0, 0) _ rfl R2.out.2 Tryz.underlying49 rfl (by kernel_rfl)) rfl ⟨_, rfl, BEL.out, HR.out _⟩
def dec (l : List Nat) : Option (Kp × Kp) := if l.length = 32 then
    match rt (yof l * yof l - (1 : Kp)) (dd * (yof l * yof l) + (1 : Kp)) with
    | none => none
    | some x => if pkb (if hib l = true then -x else x) (yof l) = l then some (if hib l = true then -x else x, yof l) else none
  else none
theorem p_from {l : List Nat} {u0 : Value} {w : World} (h : BsAt w u0 l) (LDe : LaidW 3 eiw w) (LDm : LaidW 1 rmw w) :
    Hands Tryz.prog 25 #[u0] w (isv (.tuple #[.agg (pe ((dec l).getD (0, 1)).1 (((dec l).getD (0, 1)).2 - 1)), .bool (dec l).isSome])) := by
  unfold dec
  by_cases hl : l.length = 32
  · rw [if_pos hl]
    cases hr : rt (yof l * yof l - (1 : Kp)) (dd * (yof l * yof l) + (1 : Kp)) with
    | none => exact from_n h hl LDe LDm hr
    | some x =>
      simp only
      cases hb : hib l with
      | true =>
        simp only [if_true]
        by_cases he : pkb (-x) (yof l) = l
        · rw [if_pos he]; exact from_s1e h hl LDe LDm hr hb (decide_eq_true he)
        · rw [if_neg he]; exact from_s1x h hl LDe LDm hr hb (decide_eq_false he)
      | false =>
        simp only [Bool.false_eq_true, if_false]
        by_cases he : pkb x (yof l) = l
        · rw [if_pos he]; exact from_s0e h hl LDe LDm hr hb (decide_eq_true he)
        · rw [if_neg he]; exact from_s0x h hl LDe LDm hr hb (decide_eq_false he)
  · rw [if_neg hl]
    exact from_len h hl
end Go.Proofs.YtobgimpkkjaolaaGreatDoor
