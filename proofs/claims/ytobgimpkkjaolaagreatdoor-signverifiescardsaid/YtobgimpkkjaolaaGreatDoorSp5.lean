/- What the page's own call Verify answers. -/
import Derived.Test.YtobgimpkkjaolaaGreatDoorSp3
import Derived.Test.YtobgimpkkjaolaaGreatDoorSgR1
import Derived.Test.YtobgimpkkjaolaaGreatDoorRf6
namespace Go.Proofs.YtobgimpkkjaolaaGreatDoor
open Go.RowKit
theorem qk_qp {P : Pt} {w : World} {u : Value} (h : (qk P.x P.y 1 (P.x * P.y)).p w u) : (qp P).p w u := by
  obtain ⟨C, e, hq⟩ := h
  exact ⟨C, e, _, _, _, _, hq, ex_one P⟩
theorem r_packP {P : Pt} {u : Value} {w : World} (h1 : (qp P).p w u) : Hands Tryz.prog 16 #[u] w (isb (pkP P)) := r_pack h1
theorem pk_lim (x y : Kp) : ∀ i, (pkb x y).getD i 0 < 256 := fun i => by
  have hb := byt31 y.isLt
  unfold pkb
  split
  · by_cases e : 31 = i
    · subst e
      rw [getD_set (by rw [bys_len]; decide)]; omega
    · rw [getD_set_ne' e]; exact bys_lim _ i
  · exact bys_lim _ i
theorem pkP_lim (P : Pt) : ∀ i, (pkP P).getD i 0 < 256 := fun i => pk_lim _ _ i
section
variable {ops : Array Oper} {Q : Exit → Act → World → Prop} {o : Oper} {a : Act} {w : World} {x : Operand} {s : List Nat}
theorem form64 (h : BsAt w (a.eval x) s) (hl : s.length = 64) : ∃ b of c, a.eval x = .slice (some ⟨b, of, none⟩) 64 c ∧ 64 ≤ c ∧ BsAt w (.slice (some ⟨b, of, none⟩) 64 c) s := by
  have h' := h
  obtain ⟨b, of, c, ao, e, hc, hm, _, hh⟩ := h
  obtain ⟨rfl, hb, hr⟩ := hh (fun e => by subst e; simp at hl)
  rw [hl] at e hc
  exact ⟨b, of, c, e, hc, by rw [← e]; exact h'⟩
theorem g_slhi (hw : Region.wanted o (yielded ops a.tmps) = true) (ho : o.op = .slice 22 x (some (.const (.int .i64 32))) none none) (h : BsAt w (a.eval x) s) (hl : s.length = 64) : Gives Tryz.prog ops Q o (isb (s.drop 32)) a w := by
  obtain ⟨b, of, c, e, hc, h'⟩ := form64 h hl
  refine g_run hw (v := .slice (some ⟨b, of + 32, none⟩) (64 - 32) (c - 32)) ?_ (Ext.refl w) (at_hi h' hl)
  unfold execOp
  simp only [ho, e, Option.map_some, Option.map_none]
  show Sem.run Tryz.prog ((Instr.sliceAt 22 (.slice (some ⟨b, of, none⟩) 64 c) (some (.int .i64 32)) none none) >>= fun v => pure (Next.value v)) w = _
  rw [Sem.run_bind, sl_hi w b of 64 c (by omega) (by omega)]
  rfl
theorem g_sllo (hw : Region.wanted o (yielded ops a.tmps) = true) (ho : o.op = .slice 22 x none (some (.const (.int .i64 32))) none) (h : BsAt w (a.eval x) s) (hl : s.length = 64) : Gives Tryz.prog ops Q o (isb (s.take 32)) a w := by
  obtain ⟨b, of, c, e, hc, h'⟩ := form64 h hl
  refine g_run hw (v := .slice (some ⟨b, of, none⟩) 32 c) ?_ (Ext.refl w) (at_lo h' hl)
  unfold execOp
  simp only [ho, e, Option.map_some, Option.map_none]
  show Sem.run Tryz.prog ((Instr.sliceAt 22 (.slice (some ⟨b, of, none⟩) 64 c) none (some (.int .i64 32)) none) >>= fun v => pure (Next.value v)) w = _
  rw [Sem.run_bind, sl_lo w b of 64 c (by omega)]
  rfl
end
theorem ver_may {p m s : List Nat} (h : Sc.mayb (s.drop 32) = false) : verB p m s = false := by
  cases hd : dec p with
  | none => exact verB_none m s hd
  | some q =>
    obtain ⟨x, y⟩ := q
    have hP : dec p = some ((⟨x, y, dec_on hd⟩ : Pt).x, (⟨x, y, dec_on hd⟩ : Pt).y) := hd
    rw [verB_some m s hP]
    unfold verP
    rw [h, Bool.false_and, Bool.and_false]
set_option linter.unusedSimpArgs false in
set_option maxRecDepth 100000 in
set_option maxHeartbeats 4000000 in
theorem rv_len {pv mv sv : Value} {s : List Nat} {w : World} (hs : BsAt w sv s) (hl : ¬ s.length = 64) : Calls Tryz.prog 13 #[pv, mv, sv] w fun e w' => e = .returned (.bool false) ∧ Below w.heap.size w w' := by
  obtain ⟨asx, cs, rfl, _, _⟩ := hs.len
  have d1 : ((s.length : Int) == 64) = false := by rw [beq_eq_false_iff_ne]; omega
  clear hs hl
  go_enter Tryz.func13, Tryz.ntmps13
  go_wp2
  go_ret
  exact ⟨rfl, Below.refl _ _⟩
set_option linter.unusedSimpArgs false in
set_option maxRecDepth 100000 in
set_option maxHeartbeats 4000000 in
theorem rv_may {pv mv sv : Value} {s : List Nat} {w : World} (hs : BsAt w sv s) (hl : s.length = 64) (hmy : Sc.mayb (s.drop 32) = false) : Calls Tryz.prog 13 #[pv, mv, sv] w fun e w' => e = .returned (.bool false) ∧ Below w.heap.size w w' := by
  have hs' := hs
  obtain ⟨asx, cs, rfl, hcs, _⟩ := hs.len
  obtain ⟨b, o, c', ao', e', hc', hm', hl', hh'⟩ := hs
  injection e' with e1 e2 e3
  obtain ⟨e4, hb4, hr4⟩ := hh' (fun e => by rw [e] at hl; simp at hl)
  subst e3
  rw [e4] at e1
  subst e1
  clear hr4 hb4 e4 hh' hl' hm' hc' e2
  rw [hl] at hs' ⊢
  have hlo := at_lo hs' hl
  have hhi := at_hi hs' hl
  rw [hl] at hcs
  have s1 := fun w_ => sl_lo w_ b o 64 cs (by omega)
  have s2 := fun w_ => sl_hi w_ b o 64 cs (by omega) (by omega)
  have HMY : Hid (∀ W : World, Below w.heap.size w W → Hands Tryz.prog 34 #[.slice (some ⟨b, o + 32, none⟩) (64 - 32) (cs - 32)] W (isv (.bool false))) := fun W hW => by
    have h2 := Sc.f_may' (u := .slice (some ⟨b, o + 32, none⟩) (64 - 32) (cs - 32)) (a := s.drop 32) (w := W) (hhi.ext hW)
    rw [hmy] at h2
    exact h2
  clear hs' hl hmy hlo hhi hcs
  go_enter Tryz.func13, Tryz.ntmps13
  go_wp2_with fail
  refine (HMY.out _ (Below.refl _ _)).mono ?_
  rintro e w2 ⟨v2, rfl, b2, rfl⟩
  have B2 : Hid (Below w.heap.size w w2) := b2
  clear b2
  go_wp2
  go_ret
  exact ⟨rfl, B2.out⟩
set_option linter.unusedSimpArgs false in
set_option maxRecDepth 100000 in
set_option maxHeartbeats 4000000 in
theorem rv_none {pv mv sv : Value} {p s : List Nat} {w : World} (hp : BsAt w pv p) (hs : BsAt w sv s) (hl : s.length = 64) (hmy : Sc.mayb (s.drop 32) = true) (hd : dec p = none) : Calls Tryz.prog 13 #[pv, mv, sv] w fun e w' => e = .returned (.bool false) ∧ Below w.heap.size w w' := by
  have hs' := hs
  obtain ⟨asx, cs, rfl, hcs, _⟩ := hs.len
  obtain ⟨b, o, c', ao', e', hc', hm', hl', hh'⟩ := hs
  injection e' with e1 e2 e3
  obtain ⟨e4, hb4, hr4⟩ := hh' (fun e => by rw [e] at hl; simp at hl)
  subst e3
  rw [e4] at e1
  subst e1
  clear hr4 hb4 e4 hh' hl' hm' hc' e2
  rw [hl] at hs' ⊢
  have hlo := at_lo hs' hl
  have hhi := at_hi hs' hl
  rw [hl] at hcs
  have s1 := fun w_ => sl_lo w_ b o 64 cs (by omega)
  have s2 := fun w_ => sl_hi w_ b o 64 cs (by omega) (by omega)
  have HMY : Hid (∀ W : World, Below w.heap.size w W → Hands Tryz.prog 34 #[.slice (some ⟨b, o + 32, none⟩) (64 - 32) (cs - 32)] W (isv (.bool true))) := fun W hW => by
    have h2 := Sc.f_may' (u := .slice (some ⟨b, o + 32, none⟩) (64 - 32) (cs - 32)) (a := s.drop 32) (w := W) (hhi.ext hW)
    rw [hmy] at h2
    exact h2
  have HD := hide hd
  have HP := hide hp
  clear hs' hl hmy hlo hhi hcs hp hd
  go_enter Tryz.func13, Tryz.ntmps13
  go_wp2_with fail
  refine (HMY.out _ (Below.refl _ _)).mono ?_
  rintro e w2 ⟨v2, rfl, b2, rfl⟩
  have BEL : Hid (Below w.heap.size w w2) := b2
  have SZ := hide BEL.out.size
  replace HP := hide (HP.out.ext b2)
  clear b2
  go_upto_region 3 with fail
  refine wrl3 (tl := [isb p, upb (0 : Kp) (1 : Kp) false, qk (0 : Kp) (1 : Kp) (1 : Kp) ((0 : Kp) * (1 : Kp)), isv (.bool false)]) (pre := [(0, 0)])
    (plan := [Pk.val [(0, 0)] 0, Pk.val [(20, 0)] 1, Pk.val [(21, 1)] 1, Pk.val [(19, 1)] 2, Pk.val [(19, 1)] 3, Pk.alc 39 64, Pk.sto 5 22 2, Pk.val [(23, 3)] 3])
    [0] [] [] 49 (by kernel_rfl) rfl (by kernel_rfl) ⟨.inl rfl, ⟨.inr (lull_ub _ _ _ _ _), ⟨.inr (lull_q _ _ _ _ _ _), ⟨.inr (lv0 _ _ _), trivial⟩⟩⟩⟩
    snkAt0 snk0 ⟨HP.out, trivial⟩
   (Oc3 (fun a w X_ h => g_move (wq0 rfl) (.inl rfl) h.1)
   (Oc3 (fun a w X_ h => g_call1 (wq0 rfl) (by kernel_rfl) rfl (r_unpack_n HD.out h.1))
   (Oc3 (fun a w X_ h => g_move (wq0 rfl) (.inl rfl) h.1)
   (Oc3 (fun a w X_ h => g_ext_q0 (wq0 rfl) rfl h.1)
   (Oc3 (fun a w X_ h => g_ext_q1 (wq0 rfl) rfl h.1)
   (Oc3 (alc_of zq rfl rfl rfl newQ)
   (Oc3 (⟨rfl, _, _, _, rfl, rfl, rfl, by kernel_rfl, row_q _ _ _ _⟩)
   (Oc3 (fun a w X_ h => g_move (wq0 rfl) (.inr rfl) h.1)
      OkL3.nil)))))))) ?_
  rintro W3 X3 v20 - v21 - v19 - v22 - _ rfl g7 c7 ⟨L7, Z7, -⟩ r7 H7 _ rfl
  refine Fd3 ?_
  simp only [Act.put, List.setIfInBounds_toArray, List.set_cons_zero, List.set_cons_succ]
  have N7 := hide (qk_of H7)
  have R7 := hide (And.intro Z7 r7)
  clear r7
  replace BEL := hide (X3.on BEL.out SZ.out none_le)
  replace SZ := hide BEL.out.size
  have SW3 := X3.size
  clear X3 H7
  clear R7 N7
  go_wp2
  go_ret
  exact ⟨rfl, BEL.out⟩
set_option linter.unusedSimpArgs false in
set_option maxRecDepth 100000 in
set_option maxHeartbeats 4000000 in
theorem rv_main {pv mv sv : Value} {p m s : List Nat} {P : Pt} {d : Bool} {w : World} (hp : BsAt w pv p) (hmv : BsAt w mv m) (hs : BsAt w sv s) (hl : s.length = 64) (hpl : p.length = 32) (hm : m.length ≤ 1000000) (hd : dec p = some (P.x, P.y)) (hmy : Sc.mayb (s.drop 32) = true) (hdd : decide (pkP ((Pt.mul (bval ((s.drop 32).take 32)) Bp).add (Pt.mul (bval ((hsh [s.take 32, p, m].flatten).take 32)) P.neg)) = s.take 32) = d) : Calls Tryz.prog 13 #[pv, mv, sv] w fun e w' => e = .returned (.bool d) ∧ Below w.heap.size w w' := by
  have hs' := hs
  obtain ⟨asx, cs, rfl, hcs, _⟩ := hs.len
  obtain ⟨b, o, c', ao', e', hc', hm', hl', hh'⟩ := hs
  injection e' with e1 e2 e3
  obtain ⟨e4, hb4, hr4⟩ := hh' (fun e => by rw [e] at hl; simp at hl)
  subst e3
  rw [e4] at e1
  subst e1
  clear hr4 hb4 e4 hh' hl' hm' hc' e2
  rw [hl] at hs' ⊢
  have hlo := at_lo hs' hl
  have hhi := at_hi hs' hl
  rw [hl] at hcs
  have s1 := fun w_ => sl_lo w_ b o 64 cs (by omega)
  have s2 := fun w_ => sl_hi w_ b o 64 cs (by omega) (by omega)
  have HMY : Hid (∀ W : World, Below w.heap.size w W → Hands Tryz.prog 34 #[.slice (some ⟨b, o + 32, none⟩) (64 - 32) (cs - 32)] W (isv (.bool true))) := fun W hW => by
    have h2 := Sc.f_may' (u := .slice (some ⟨b, o + 32, none⟩) (64 - 32) (cs - 32)) (a := s.drop 32) (w := W) (hhi.ext hW)
    rw [hmy] at h2
    exact h2
  have hslim := hs'.lim
  obtain ⟨q, hq⟩ : ∃ q, hsh [s.take 32, p, m].flatten = q := ⟨_, rfl⟩
  have hql : q.length = 32 := by rw [← hq]; exact hsh_len _
  rw [hq] at hdd
  have HE : Hid (Value.bool ((sob (pkP ((Pt.mul (bval ((s.drop 32).take 32)) Bp).add (Pt.mul (bval (q.take 32)) P.neg)))).toList == (sob (s.take 32)).toList) = .bool d) := by
    show _ = _
    rw [sob_eq (pkP_lim _) (take_lim hslim 32), hdd]
  have HJ : Hid (∀ (W : World) (x : Value) (ls : List (List Nat)), RsAt W x ls → ls.flatten.length ≤ 100000000 → Calls Tryz.prog 23 #[x] W fun e w' => ∃ v', e = .returned v' ∧ Own w' W.heap.size v' ls.flatten ∧ Below W.heap.size W w') := fun W x ls hx hn => join_any hx hn
  have HS : Hid (∀ (W : World) (x : Value) (ls : List Nat), BsAt W x ls → ls ≠ [] → ls.length ≤ 100000000 → Calls Tryz.prog 20 #[x] W fun e w' => ∃ v', e = .returned v' ∧ Own w' W.heap.size v' (shn ls) ∧ Below W.heap.size W w') := fun W x ls hx hn h3 => r_sha hx hn (Nat.le_trans h3 (by decide))
  have HR : Hid (∀ (W : World) (x : Value), BsAt W x (shn [s.take 32, p, m].flatten) → Hands Tryz.prog 22 #[x] W (isb q)) := fun W x hx => by
    have h2 := Sc.f_red' (u := x) (a := shn [s.take 32, p, m].flatten) (w := W) hx; rw [← hq]; exact h2
  have HN := hide (And.intro hl (And.intro (show (s.drop 32).length = 32 by rw [List.length_drop, hl]) (And.intro hql (And.intro hpl (And.intro hm (show (s.take 32).length = 32 by rw [List.length_take, hl]; decide))))))
  have HQ := hide (And.intro hlo (And.intro hs' (And.intro hp hmv)))
  obtain ⟨ap, cp, rfl, _, _⟩ := hp.len
  obtain ⟨am, cm, rfl, _, _⟩ := hmv.len
  clear hslim hql
  have HD := hide hd
  have HP := hide hp
  clear hs' hl hmy hlo hhi hcs hp hd hmv hpl hm hq hdd
  go_enter Tryz.func13, Tryz.ntmps13
  go_wp2_with fail
  refine (HMY.out _ (Below.refl _ _)).mono ?_
  rintro e w2 ⟨v2, rfl, b2, rfl⟩
  have BEL : Hid (Below w.heap.size w w2) := b2
  have SZ := hide BEL.out.size
  replace HP := hide (HP.out.ext b2)
  clear b2
  go_upto_region 3 with fail
  refine wrl3 (tl := [isb p, upb P.x P.y true, qk P.x P.y (1 : Kp) (P.x * P.y), isv (.bool true)]) (pre := [(0, 0)])
    (plan := [Pk.val [(0, 0)] 0, Pk.val [(20, 0)] 1, Pk.val [(21, 1)] 1, Pk.val [(19, 1)] 2, Pk.val [(19, 1)] 3, Pk.alc 39 64, Pk.sto 5 22 2, Pk.val [(23, 3)] 3])
    [0] [] [] 49 (by kernel_rfl) rfl (by kernel_rfl) ⟨.inl rfl, ⟨.inr (lull_ub _ _ _ _ _), ⟨.inr (lull_q _ _ _ _ _ _), ⟨.inr (lv0 _ _ _), trivial⟩⟩⟩⟩
    snkAt0 snk0 ⟨HP.out, trivial⟩
   (Oc3 (fun a w X_ h => g_move (wq0 rfl) (.inl rfl) h.1)
   (Oc3 (fun a w X_ h => g_call1 (wq0 rfl) (by kernel_rfl) rfl (r_unpack_s HD.out h.1))
   (Oc3 (fun a w X_ h => g_move (wq0 rfl) (.inl rfl) h.1)
   (Oc3 (fun a w X_ h => g_ext_q0 (wq0 rfl) rfl h.1)
   (Oc3 (fun a w X_ h => g_ext_q1 (wq0 rfl) rfl h.1)
   (Oc3 (alc_of zq rfl rfl rfl newQ)
   (Oc3 (⟨rfl, _, _, _, rfl, rfl, rfl, by kernel_rfl, row_q _ _ _ _⟩)
   (Oc3 (fun a w X_ h => g_move (wq0 rfl) (.inr rfl) h.1)
      OkL3.nil)))))))) ?_
  rintro W3 X3 v20 - v21 - v19 - v22 - _ rfl g7 c7 ⟨L7, Z7, -⟩ r7 H7 _ rfl
  refine Fd3 ?_
  simp only [Act.put, List.setIfInBounds_toArray, List.set_cons_zero, List.set_cons_succ]
  have N7 := hide (qk_of H7)
  have R7 := hide (And.intro Z7 r7)
  clear r7
  replace BEL := hide (X3.on BEL.out SZ.out none_le)
  replace SZ := hide BEL.out.size
  have SW3 := X3.size
  clear X3 H7
  go_wp2_with fail
  have b4 := (Below.refl W3.heap.size W3).alloc (Nat.le_refl _) (.cells #[.slice (some ⟨b, o, none⟩) 32 cs, .slice ap p.length cp, .slice am m.length cm] 22)
  refine (HJ.out _ _ _ (rs3 (HQ.out.1.ext BEL.out) (HQ.out.2.2.1.ext BEL.out) (HQ.out.2.2.2.ext BEL.out)) (by have h1 := HN.out.2.2.2.2.2; have h2 := HN.out.2.2.2.1; have h3 := HN.out.2.2.2.2.1; rw [flat3, List.length_append, List.length_append, h1, h2]; omega)).mono ?_
  rintro e w5 ⟨v5, rfl, o5, b5⟩
  have bb := Below.chain b4 b5
  replace R7 := hide (And.intro (Nat.lt_of_lt_of_le R7.out.1 bb.size) (Below.heap bb R7.out.1 R7.out.2))
  replace BEL := hide (Below.chain BEL.out bb)
  have J5 := hide o5.at
  clear b4 b5 bb o5
  go_wp2_with fail
  refine (HS.out _ _ _ J5.out (fun e => by have h1 := congrArg List.length e; rw [flat3, List.length_append, HN.out.2.2.2.2.2] at h1; simp at h1) (by have h1 := HN.out.2.2.2.2.2; have h2 := HN.out.2.2.2.1; have h3 := HN.out.2.2.2.2.1; rw [flat3, List.length_append, List.length_append, h1, h2]; omega)).mono ?_
  rintro e w6 ⟨v6, rfl, o6, b6⟩
  replace R7 := hide (And.intro (Nat.lt_of_lt_of_le R7.out.1 b6.size) (Below.heap b6 R7.out.1 R7.out.2))
  replace BEL := hide (Below.chain BEL.out b6)
  have J6 := hide o6.at
  clear b6 o6 J5
  go_wp2_with fail
  refine (HR.out _ _ J6.out).mono ?_
  rintro e w7 ⟨v7, rfl, b7, h7⟩
  replace R7 := hide (And.intro (Nat.lt_of_lt_of_le R7.out.1 b7.size) (Below.heap b7 R7.out.1 R7.out.2))
  replace BEL := hide (Below.chain BEL.out b7)
  replace SZ := hide BEL.out.size
  have Q7 : Hid (BsAt w7 v7 q) := h7
  have S7 := hide (HQ.out.2.1.ext BEL.out)
  clear b7 h7 J6 SW3
  go_upto_region 7 with fail
  refine wrt3 (tl := [qp Bp, isb s, isb (s.drop 32), qp (Pt.mul (bval ((s.drop 32).take 32)) Bp), isv (.pointer (some ⟨g7, 0, none⟩)), qk P.x P.y (1 : Kp) (P.x * P.y), qp P.neg, isb q, qp (Pt.mul (bval (q.take 32)) P.neg), qp ((Pt.mul (bval ((s.drop 32).take 32)) Bp).add (Pt.mul (bval (q.take 32)) P.neg)), isb (pkP ((Pt.mul (bval ((s.drop 32).take 32)) Bp).add (Pt.mul (bval (q.take 32)) P.neg))), isv (.string (sob (pkP ((Pt.mul (bval ((s.drop 32).take 32)) Bp).add (Pt.mul (bval (q.take 32)) P.neg))))), isb (s.take 32), isv (.string (sob (s.take 32))), isv (.bool d)]) (pre := [(2, 1), (7, 4), (9, 7)])
    (plan := [Pk.val [] 0, Pk.val [(2, 1)] 1, Pk.val [(35, 1)] 2, Pk.val [(34, 0), (36, 2)] 3, Pk.val [(7, 4)] 5, Pk.val [(38, 5)] 6, Pk.val [(9, 7)] 7, Pk.val [(39, 6), (40, 7)] 8, Pk.val [(37, 3), (41, 8)] 9, Pk.val [(42, 9)] 10, Pk.val [(43, 10)] 11, Pk.val [(2, 1)] 1, Pk.val [(45, 1)] 12, Pk.val [(46, 12)] 13, Pk.val [(44, 11), (47, 13)] 14, Pk.val [(48, 14)] 14])
    [1, 2, 7, 10, 12] [] [] (by kernel_rfl) 49 (by kernel_rfl) rfl (by kernel_rfl) ⟨.inr (lull_qp _ _ _), ⟨.inl rfl, ⟨.inl rfl, ⟨.inr (lull_qp _ _ _), ⟨.inr (lv0 _ _ _), ⟨.inr (lull_q _ _ _ _ _ _), ⟨.inr (lull_qp _ _ _), ⟨.inl rfl, ⟨.inr (lull_qp _ _ _), ⟨.inr (lull_qp _ _ _), ⟨.inl rfl, ⟨.inr (lv0 _ _ _), ⟨.inl rfl, ⟨.inr (lv0 _ _ _), ⟨.inr (lv0 _ _ _), trivial⟩⟩⟩⟩⟩⟩⟩⟩⟩⟩⟩⟩⟩⟩⟩
    snkAt0 snk0 ⟨S7.out, ⟨rfl, ⟨Q7.out, trivial⟩⟩⟩
   (Oc3 (fun a w X_ h => g_call0 (wq0 rfl) (by kernel_rfl) rfl (r_base))
   (Oc3 (fun a w X_ h => g_move (wq0 rfl) (.inl rfl) h.1)
   (Oc3 (fun a w X_ h => g_slhi (wq0 rfl) rfl h.1 HN.out.1)
   (Oc3 (fun a w X_ h => g_call2 (wq0 rfl) (by kernel_rfl) rfl (r_times h.1 h.2.1 (by rw [HN.out.2.1]; decide)))
   (Oc3 (fun a w X_ h => g_ldq N7.out (wq0 rfl) rfl h.1 (X_.at_ R7.out.1 out0 R7.out.2))
   (Oc3 (fun a w X_ h => g_call1 (wq0 rfl) (by kernel_rfl) rfl (r_neg (qk_qp h.1)))
   (Oc3 (fun a w X_ h => g_move (wq0 rfl) (.inl rfl) h.1)
   (Oc3 (fun a w X_ h => g_call2 (wq0 rfl) (by kernel_rfl) rfl (r_times h.1 h.2.1 (by rw [HN.out.2.2.1]; decide)))
   (Oc3 (fun a w X_ h => g_call2 (wq0 rfl) (by kernel_rfl) rfl (r_plus h.1 h.2.1))
   (Oc3 (fun a w X_ h => g_call1 (wq0 rfl) (by kernel_rfl) rfl (r_packP h.1))
   (Oc3 (fun a w X_ h => g_str (wq0 rfl) rfl h.1 rfl)
   (Oc3 (fun a w X_ h => g_move (wq0 rfl) (.inl rfl) h.1)
   (Oc3 (fun a w X_ h => g_sllo (wq0 rfl) rfl h.1 HN.out.1)
   (Oc3 (fun a w X_ h => g_str (wq0 rfl) rfl h.1 rfl)
   (Oc3 (fun a w X_ h => g_eqs (wq0 rfl) rfl h.1 h.2.1 HE.out)
   (Oc3 (fun a w X_ h => g_move (wq0 rfl) (.inr rfl) h.1)
      OkL3.nil)))))))))))))))) ?_
  rintro W8 X8 v34 - v35 - v36 - v37 - v38 - v39 - v40 - v41 - v42 - v43 - _ rfl v45 - v46 - _ rfl _ rfl _ rfl
  refine Fd3 ?_
  simp only [Act.put, List.setIfInBounds_toArray, List.set_cons_zero, List.set_cons_succ]
  replace R7 := hide (X8.row out0 R7.out)
  replace BEL := hide (X8.on BEL.out SZ.out none_le)
  replace SZ := hide BEL.out.size
  have SW8 := X8.size
  clear X8
  go_wp2
  go_ret
  exact ⟨rfl, BEL.out⟩
theorem rVerify {pv mv sv : Value} {p m s : List Nat} {w : World} (hp : BsAt w pv p) (hmv : BsAt w mv m) (hs : BsAt w sv s) (hm : m.length ≤ 1000000) :
    Calls Tryz.prog 13 #[pv, mv, sv] w fun e w' => e = .returned (.bool (verB p m s)) ∧ Below w.heap.size w w' := by
  by_cases hl : s.length = 64
  · cases hmy : Sc.mayb (s.drop 32) with
    | false => rw [ver_may hmy]; exact rv_may hs hl hmy
    | true =>
      cases hd : dec p with
      | none => rw [verB_none m s hd]; exact rv_none hp hs hl hmy hd
      | some q =>
        obtain ⟨x, y⟩ := q
        obtain ⟨P, hP⟩ : ∃ P : Pt, dec p = some (P.x, P.y) := ⟨⟨x, y, dec_on hd⟩, hd⟩
        rw [verB_some m s hP]
        unfold verP
        rw [decide_eq_true hl, hmy, Bool.true_and, Bool.true_and]
        exact rv_main hp hmv hs hl (dec_len hP) hm hP hmy rfl
  · rw [ver_len p m s hl]; exact rv_len hs hl
end Go.Proofs.YtobgimpkkjaolaaGreatDoor
