/- The page's numbers modulo p and its points, in whatever rows, as what operations give. -/
import Derived.Test.YtobgimpkkjaolaaGreatDoorMd
import Derived.Test.YtobgimpkkjaolaaGreatDoorClone
import Derived.Test.YtobgimpkkjaolaaGreatDoorFrac
import Derived.Test.YtobgimpkkjaolaaGreatDoorTyW
namespace Go.Proofs.YtobgimpkkjaolaaGreatDoor
open Go.RowKit
def RN (C : Array Value) (x : Kp) : Prop := ∃ l, C = ia l ∧ Rep l x.val
theorem RN.size {C : Array Value} {x : Kp} (h : RN C x) : C.size = 16 := by obtain ⟨l, rfl, hl⟩ := h; rw [ia_size, hl.len]
theorem RN.one {C : Array Value} {x : Kp} (h : RN C x) : C.all (·.oneCell') = true := by obtain ⟨l, rfl, hl⟩ := h; exact ia_one l
def nk (x : Kp) : STy := ⟨fun _ v => ∃ C, v = .agg C ∧ RN C x, fun _ h => h⟩
theorem lull_n (B : Nat) (S : List Nat) (x : Kp) : LullT B S (nk x) := fun _ _ _ _ h => h
theorem row_n (x : Kp) : RowT 16 (nk x) := fun _ _ ⟨C, h1, h2⟩ => ⟨C, h1, h2.size, h2.one⟩
theorem nk_of {C : Array Value} {x : Kp} {w : World} (h : (nk x).p w (.agg C)) : RN C x := by
  obtain ⟨D, e, hd⟩ := h
  injection e with e
  subst e
  exact hd
def RQ (C : Array Value) (x y z t : Kp) : Prop := ∃ A0 A1 A2 A3, C = A0 ++ A1 ++ A2 ++ A3 ∧ RN A0 x ∧ RN A1 y ∧ RN A2 z ∧ RN A3 t
theorem RQ.size {C : Array Value} {x y z t : Kp} (h : RQ C x y z t) : C.size = 64 := by
  obtain ⟨A0, A1, A2, A3, rfl, h0, h1, h2, h3⟩ := h
  rw [Array.size_append, Array.size_append, Array.size_append, h0.size, h1.size, h2.size, h3.size]
theorem RQ.one {C : Array Value} {x y z t : Kp} (h : RQ C x y z t) : C.all (·.oneCell') = true := by
  obtain ⟨A0, A1, A2, A3, rfl, h0, h1, h2, h3⟩ := h
  exact all_append (all_append (all_append h0.one h1.one) h2.one) h3.one
def qk (x y z t : Kp) : STy := ⟨fun _ v => ∃ C, v = .agg C ∧ RQ C x y z t, fun _ h => h⟩
theorem lull_q (B : Nat) (S : List Nat) (x y z t : Kp) : LullT B S (qk x y z t) := fun _ _ _ _ h => h
theorem row_q (x y z t : Kp) : RowT 64 (qk x y z t) := fun _ _ ⟨C, h1, h2⟩ => ⟨C, h1, h2.size, h2.one⟩
theorem qk_of {C : Array Value} {x y z t : Kp} {w : World} (h : (qk x y z t).p w (.agg C)) : RQ C x y z t := by
  obtain ⟨D, e, hd⟩ := h
  injection e with e
  subst e
  exact hd
theorem rn_val {C : Array Value} {x : Kp} {n : Nat} {l : List Int} (hC : C = ia l) (hl : Rep l n) (hx : x.val = n) : RN C x := ⟨l, hC, by rw [hx]; exact hl⟩
theorem z16_rep : Rep z16 0 := ⟨rfl, fun i => by rw [z16_get]; decide, by decide⟩
theorem rn_zero : RN (ia z16) 0 := rn_val rfl z16_rep kval_zero
section
variable {u v : Value} {x y : Kp} {w : World}
theorem rn_of {f : FuncId} {vals : Array Value} {n : Nat} (h : Calls Tryz.prog f vals w fun e w' => ∃ c, e = .returned (.agg (ia c)) ∧ Rep c n ∧ Below w.heap.size w w') (hx : x.val = n) : Hands Tryz.prog f vals w (nk x) := h.mono fun _ _ ⟨_, he, hr, hb⟩ => ⟨_, he, hb, _, rfl, rn_val rfl hr hx⟩
theorem n_add (h1 : (nk x).p w u) (h2 : (nk y).p w v) : Hands Tryz.prog 75 #[u, v] w (nk (x + y)) := by
  obtain ⟨_, rfl, l, rfl, hl⟩ := h1
  obtain ⟨_, rfl, m, rfl, hm⟩ := h2
  exact rn_of (radd_any l m _ _ hl hm w) (kval_add x y)
theorem n_sub (h1 : (nk x).p w u) (h2 : (nk y).p w v) : Hands Tryz.prog 74 #[u, v] w (nk (x - y)) := by
  obtain ⟨_, rfl, l, rfl, hl⟩ := h1
  obtain ⟨_, rfl, m, rfl, hm⟩ := h2
  exact rn_of (rsub_any l m _ _ hl hm w) (kval_sub x y)
theorem n_mul (h1 : (nk x).p w u) (h2 : (nk y).p w v) : Hands Tryz.prog 42 #[u, v] w (nk (x * y)) := by
  obtain ⟨_, rfl, l, rfl, hl⟩ := h1
  obtain ⟨_, rfl, m, rfl, hm⟩ := h2
  exact rn_of (rmul_any l m _ _ hl hm w) (kval_mul x y)
theorem n_inv (h1 : (nk x).p w u) : Hands Tryz.prog 40 #[u] w (nk (kinv x)) := by
  obtain ⟨_, rfl, l, rfl, hl⟩ := h1
  exact rn_of (rinv_any l _ hl w) rfl
theorem n_one (h1 : u = .int .u32 1) : Hands Tryz.prog 45 #[u] w (nk 1) := by
  subst h1
  exact (rsmall_any 1 (by decide) w).mono fun _ _ ⟨he, hb⟩ => ⟨_, he, hb, _, rfl, rn_val rfl (smr_rep 1 (by decide)) kval_one⟩
theorem n_same (h1 : (nk x).p w u) (h2 : (nk y).p w v) {d : Bool} (hd : d = true ↔ x = y) : Hands Tryz.prog 77 #[u, v] w (isv (.bool d)) := by
  obtain ⟨_, rfl, l, rfl, hl⟩ := h1
  obtain ⟨_, rfl, m, rfl, hm⟩ := h2
  have h := rsame_any l _ hl m _ hm w
  have e : decide (x.val = y.val) = d := by rw [Bool.eq_iff_iff, decide_eq_true_eq, hd, k_eq_iff]
  rw [e] at h
  exact h1_of h
theorem n_odd (h1 : (nk x).p w u) {d : Bool} (hd : d = true ↔ x.val % 2 = 1) : Hands Tryz.prog 43 #[u] w (isv (.bool d)) := by
  obtain ⟨_, rfl, l, rfl, hl⟩ := h1
  have h := rodd_any l _ hl w
  have e : decide (x.val % 2 = 1) = d := by rw [Bool.eq_iff_iff, decide_eq_true_eq, hd]
  rw [e] at h
  exact h1_of h
end
theorem und36 : Tryz.prog.underlying 39 = some (.array 4 37) := by kernel_rfl
theorem sizeQ : (Tryz.prog.info? 39).map (·.size) = some 64 := by kernel_rfl
def zn : Array Value := ia z16
def zq : Array Value := ia z16 ++ ia z16 ++ ia z16 ++ ia z16
theorem newN (W : World) : (Instr.alloc 37 true (.tuple #[])).run Tryz.prog W = .ok (.pointer (some ⟨W.heap.size, 0, none⟩)) (W.alloc (.cells zn 37)) := by kernel_rfl
theorem newQ (W : World) : (Instr.alloc 39 true (.tuple #[])).run Tryz.prog W = .ok (.pointer (some ⟨W.heap.size, 0, none⟩)) (W.alloc (.cells zq 39)) := by kernel_rfl
theorem atQ (k : Nat) (hk : k < 4) (g : Nat) (W : World) : (Instr.indexAt 39 (.pointer (some ⟨g, 0, none⟩)) (.int .i64 (k : Int))).run Tryz.prog W = .ok (.pointer (some ⟨g, 16 * k, none⟩)) W := by
  rcases (by omega : k = 0 ∨ k = 1 ∨ k = 2 ∨ k = 3) with rfl | rfl | rfl | rfl <;> kernel_rfl
section
variable {ops : Array Oper} {Q : Exit → Act → World → Prop} {o : Oper} {T : STy} {a : Act} {w : World} {x : Operand} {g : Nat}
theorem g_ldn {k : Kp} {C : Array Value} {ty' : TypeId} (hn : RN C k) (hw : Region.wanted o (yielded ops a.tmps) = true) (ho : o.op = .load 37 x) (hx : a.eval x = .pointer (some ⟨g, 0, none⟩)) (hr : w.heap[g]? = some (.cells C ty' (0, 0))) : Gives Tryz.prog ops Q o (nk k) a w :=
  g_row hw ho hx hr undN rfl (by rw [hn.size]; exact sizeN) ⟨C, rfl, hn⟩
theorem g_ldq {p q r s : Kp} {C : Array Value} {ty' : TypeId} (hn : RQ C p q r s) (hw : Region.wanted o (yielded ops a.tmps) = true) (ho : o.op = .load 39 x) (hx : a.eval x = .pointer (some ⟨g, 0, none⟩)) (hr : w.heap[g]? = some (.cells C ty' (0, 0))) : Gives Tryz.prog ops Q o (qk p q r s) a w :=
  g_row hw ho hx hr und36 rfl (by rw [hn.size]; exact sizeQ) ⟨C, rfl, hn⟩
theorem g_atq (k : Nat) (hk : k < 4) (hw : Region.wanted o (yielded ops a.tmps) = true) (ho : o.op = .indexAddr 39 x (.const (.int .i64 (k : Int)))) (hx : a.eval x = .pointer (some ⟨g, 0, none⟩)) : Gives Tryz.prog ops Q o (isv (.pointer (some ⟨g, 16 * k, none⟩))) a w :=
  g_run hw (by unfold execOp; simp only [ho, hx]; rw [Sem.run_bind]; show ((Instr.indexAt 39 (.pointer (some ⟨g, 0, none⟩)) (.int .i64 (k : Int))).run Tryz.prog w).andThen _ = _; rw [atQ k hk]; rfl) (Ext.refl w) rfl
theorem part_n {A B C : Array Value} (j : Nat) (v : Value) (hj : B.toList[j]? = some v) : (A ++ B ++ C)[A.size + j]? = some v := by
  have h1 : j < B.size := by simpa using (List.getElem?_eq_some_iff.1 hj).1
  rw [Array.getElem?_append_left (by rw [Array.size_append]; omega), Array.getElem?_append_right (by omega), Nat.add_sub_cancel_left]
  simpa using hj
theorem g_pn {k : Kp} {A B C : Array Value} {off : Nat} (hn : RN B k) (hA : A.size = off) (hw : Region.wanted o (yielded ops a.tmps) = true) (ho : o.op = .load 37 x) (hx : a.eval x = .pointer (some ⟨g, off, none⟩)) {ty' : TypeId} (hr : w.heap[g]? = some (.cells (A ++ B ++ C) ty' (0, 0))) : Gives Tryz.prog ops Q o (nk k) a w := by
  subst hA
  exact g_part (l := B.toList) hw ho hx hr undN rfl (by rw [show B.toList.length = 16 from hn.size]; exact sizeN) (fun j v hj => part_n j v hj) ⟨B, rfl, hn⟩
theorem g_ldq0 {p q r s : Kp} {D : Array Value} {ty' : TypeId} (hn : RQ D p q r s) (hw : Region.wanted o (yielded ops a.tmps) = true) (ho : o.op = .load 37 x) (hx : a.eval x = .pointer (some ⟨g, 16 * 0, none⟩)) (hr : w.heap[g]? = some (.cells D ty' (0, 0))) : Gives Tryz.prog ops Q o (nk p) a w := by
  obtain ⟨A0, A1, A2, A3, rfl, h0, h1, h2, h3⟩ := hn
  refine g_pn (A := #[]) (B := A0) (C := A1 ++ A2 ++ A3) h0 rfl hw ho hx (ty' := ty') ?_
  rw [hr]; simp [Array.append_assoc]
theorem g_ldq1 {p q r s : Kp} {D : Array Value} {ty' : TypeId} (hn : RQ D p q r s) (hw : Region.wanted o (yielded ops a.tmps) = true) (ho : o.op = .load 37 x) (hx : a.eval x = .pointer (some ⟨g, 16 * 1, none⟩)) (hr : w.heap[g]? = some (.cells D ty' (0, 0))) : Gives Tryz.prog ops Q o (nk q) a w := by
  obtain ⟨A0, A1, A2, A3, rfl, h0, h1, h2, h3⟩ := hn
  refine g_pn (A := A0) (B := A1) (C := A2 ++ A3) h1 h0.size hw ho hx (ty' := ty') ?_
  rw [hr]; simp [Array.append_assoc]
theorem g_ldq2 {p q r s : Kp} {D : Array Value} {ty' : TypeId} (hn : RQ D p q r s) (hw : Region.wanted o (yielded ops a.tmps) = true) (ho : o.op = .load 37 x) (hx : a.eval x = .pointer (some ⟨g, 16 * 2, none⟩)) (hr : w.heap[g]? = some (.cells D ty' (0, 0))) : Gives Tryz.prog ops Q o (nk r) a w := by
  obtain ⟨A0, A1, A2, A3, rfl, h0, h1, h2, h3⟩ := hn
  refine g_pn (A := A0 ++ A1) (B := A2) (C := A3) h2 (by rw [Array.size_append, h0.size, h1.size]) hw ho hx (ty' := ty') ?_
  rw [hr]
theorem g_ldq3 {p q r s : Kp} {D : Array Value} {ty' : TypeId} (hn : RQ D p q r s) (hw : Region.wanted o (yielded ops a.tmps) = true) (ho : o.op = .load 37 x) (hx : a.eval x = .pointer (some ⟨g, 16 * 3, none⟩)) (hr : w.heap[g]? = some (.cells D ty' (0, 0))) : Gives Tryz.prog ops Q o (nk s) a w := by
  obtain ⟨A0, A1, A2, A3, rfl, h0, h1, h2, h3⟩ := hn
  refine g_pn (A := A0 ++ A1 ++ A2) (B := A3) (C := #[]) h3 (by rw [Array.size_append, Array.size_append, h0.size, h1.size, h2.size]) hw ho hx (ty' := ty') ?_
  rw [hr]; simp
theorem g_nz (hw : Region.wanted o (yielded ops a.tmps) = true) (ho : o.op = .build 37 #[]) : Gives Tryz.prog ops Q o (nk 0) a w := by
  refine g_bld hw ho (v := .agg (ia z16)) ?_ ⟨_, rfl, rn_zero⟩
  simp only [List.map_toArray, List.map_nil]
  kernel_rfl
end
theorem list16 {l : List Value} (h : l.length = 16) : ∃ a0 a1 a2 a3 a4 a5 a6 a7 a8 a9 a10 a11 a12 a13 a14 a15, l = [a0, a1, a2, a3, a4, a5, a6, a7, a8, a9, a10, a11, a12, a13, a14, a15] := by
  rcases l with _ | ⟨a0, l⟩
  · simp at h
  rcases l with _ | ⟨a1, l⟩
  · simp at h
  rcases l with _ | ⟨a2, l⟩
  · simp at h
  rcases l with _ | ⟨a3, l⟩
  · simp at h
  rcases l with _ | ⟨a4, l⟩
  · simp at h
  rcases l with _ | ⟨a5, l⟩
  · simp at h
  rcases l with _ | ⟨a6, l⟩
  · simp at h
  rcases l with _ | ⟨a7, l⟩
  · simp at h
  rcases l with _ | ⟨a8, l⟩
  · simp at h
  rcases l with _ | ⟨a9, l⟩
  · simp at h
  rcases l with _ | ⟨a10, l⟩
  · simp at h
  rcases l with _ | ⟨a11, l⟩
  · simp at h
  rcases l with _ | ⟨a12, l⟩
  · simp at h
  rcases l with _ | ⟨a13, l⟩
  · simp at h
  rcases l with _ | ⟨a14, l⟩
  · simp at h
  rcases l with _ | ⟨a15, l⟩
  · simp at h
  rcases l with _ | ⟨b, l⟩
  · exact ⟨a0, a1, a2, a3, a4, a5, a6, a7, a8, a9, a10, a11, a12, a13, a14, a15, rfl⟩
  · simp at h
theorem arr16 {A : Array Value} (h : A.size = 16) : ∃ a0 a1 a2 a3 a4 a5 a6 a7 a8 a9 a10 a11 a12 a13 a14 a15, A = #[a0, a1, a2, a3, a4, a5, a6, a7, a8, a9, a10, a11, a12, a13, a14, a15] := by
  obtain ⟨a0, a1, a2, a3, a4, a5, a6, a7, a8, a9, a10, a11, a12, a13, a14, a15, e⟩ := list16 (l := A.toList) (by simpa using h)
  exact ⟨a0, a1, a2, a3, a4, a5, a6, a7, a8, a9, a10, a11, a12, a13, a14, a15, by rw [← Array.toArray_toList (xs := A), e]⟩
theorem bldQ (a0 a1 a2 a3 a4 a5 a6 a7 a8 a9 a10 a11 a12 a13 a14 a15 b0 b1 b2 b3 b4 b5 b6 b7 b8 b9 b10 b11 b12 b13 b14 b15 c0 c1 c2 c3 c4 c5 c6 c7 c8 c9 c10 c11 c12 c13 c14 c15 d0 d1 d2 d3 d4 d5 d6 d7 d8 d9 d10 d11 d12 d13 d14 d15 : Value) (W : World) : (Instr.build 39 #[(0, .agg #[a0, a1, a2, a3, a4, a5, a6, a7, a8, a9, a10, a11, a12, a13, a14, a15]), (1, .agg #[b0, b1, b2, b3, b4, b5, b6, b7, b8, b9, b10, b11, b12, b13, b14, b15]), (2, .agg #[c0, c1, c2, c3, c4, c5, c6, c7, c8, c9, c10, c11, c12, c13, c14, c15]), (3, .agg #[d0, d1, d2, d3, d4, d5, d6, d7, d8, d9, d10, d11, d12, d13, d14, d15])]).run Tryz.prog W = .ok (.agg (#[a0, a1, a2, a3, a4, a5, a6, a7, a8, a9, a10, a11, a12, a13, a14, a15] ++ #[b0, b1, b2, b3, b4, b5, b6, b7, b8, b9, b10, b11, b12, b13, b14, b15] ++ #[c0, c1, c2, c3, c4, c5, c6, c7, c8, c9, c10, c11, c12, c13, c14, c15] ++ #[d0, d1, d2, d3, d4, d5, d6, d7, d8, d9, d10, d11, d12, d13, d14, d15])) W := by kernel_rfl
theorem g_bq {ops : Array Oper} {Q : Exit → Act → World → Prop} {o : Oper} {a : Act} {w : World} {p q r s : Kp} {x0 x1 x2 x3 : Operand} (hw : Region.wanted o (yielded ops a.tmps) = true) (ho : o.op = .build 39 #[(0, x0), (1, x1), (2, x2), (3, x3)]) (h0 : (nk p).p w (a.eval x0)) (h1 : (nk q).p w (a.eval x1)) (h2 : (nk r).p w (a.eval x2)) (h3 : (nk s).p w (a.eval x3)) : Gives Tryz.prog ops Q o (qk p q r s) a w := by
  obtain ⟨A, e0, r0⟩ := h0
  obtain ⟨B, e1, r1⟩ := h1
  obtain ⟨C, e2, r2⟩ := h2
  obtain ⟨D, e3, r3⟩ := h3
  refine g_bld hw ho (v := .agg (A ++ B ++ C ++ D)) ?_ ⟨_, rfl, A, B, C, D, rfl, r0, r1, r2, r3⟩
  simp only [List.map_toArray, List.map_cons, List.map_nil, e0, e1, e2, e3]
  obtain ⟨a0, a1, a2, a3, a4, a5, a6, a7, a8, a9, a10, a11, a12, a13, a14, a15, rfl⟩ := arr16 r0.size
  obtain ⟨b0, b1, b2, b3, b4, b5, b6, b7, b8, b9, b10, b11, b12, b13, b14, b15, rfl⟩ := arr16 r1.size
  obtain ⟨c0, c1, c2, c3, c4, c5, c6, c7, c8, c9, c10, c11, c12, c13, c14, c15, rfl⟩ := arr16 r2.size
  obtain ⟨d0, d1, d2, d3, d4, d5, d6, d7, d8, d9, d10, d11, d12, d13, d14, d15, rfl⟩ := arr16 r3.size
  exact bldQ a0 a1 a2 a3 a4 a5 a6 a7 a8 a9 a10 a11 a12 a13 a14 a15 b0 b1 b2 b3 b4 b5 b6 b7 b8 b9 b10 b11 b12 b13 b14 b15 c0 c1 c2 c3 c4 c5 c6 c7 c8 c9 c10 c11 c12 c13 c14 c15 d0 d1 d2 d3 d4 d5 d6 d7 d8 d9 d10 d11 d12 d13 d14 d15 w
end Go.Proofs.YtobgimpkkjaolaaGreatDoor
