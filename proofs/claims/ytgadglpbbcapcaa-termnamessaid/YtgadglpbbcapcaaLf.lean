/- TermForms, TermOrder: the laws' calls answer true. -/
import Derived.Test.YtgadglpbbcapcaaRs
import Derived.Deep.Cut
namespace Go.Proofs.Ytgadglpbbcapcaa
open Go.RowKit
theorem h_may {t : Tm} {a : Option Addr} {c : Nat} {w : World} {v : Value} (e : v = tv t a c) (h : TAt w t a c) : Hands Try.prog 15 #[v] w (isv (.bool (mayT t))) := by
  subst e; exact (May_any h).mono fun e w' ⟨he, hb⟩ => ⟨_, he, hb, rfl⟩
theorem h_rmay2 {t : Tm} {a : Option Addr} {c : Nat} {w : World} {v : Value} (e : v = tv t a c) (h : TAt w t a c) : Hands Try.prog 16 #[v] w (isv (.bool (mayT t))) := by
  subst e; exact (rMay_any h).mono fun e w' ⟨he, hb⟩ => ⟨_, he, hb, rfl⟩
theorem h_fix {t : Tm} {a : Option Addr} {c : Nat} {w : World} {v : Value} (e : v = tv t a c) (h : TAt w t a c) : Hands Try.prog 17 #[v] w (isv (.bool (fixT t))) := by
  subst e; exact (Fixed_any h).mono fun e w' ⟨he, hb⟩ => ⟨_, he, hb, rfl⟩
theorem h_rfix2 {t : Tm} {a : Option Addr} {c : Nat} {w : World} {v : Value} (e : v = tv t a c) (h : TAt w t a c) : Hands Try.prog 18 #[v] w (isv (.bool (fixT t))) := by
  subst e; exact (rFixed_any h).mono fun e w' ⟨he, hb⟩ => ⟨_, he, hb, rfl⟩
theorem h_has {a b : Tm} {a1 : Option Addr} {c1 : Nat} {a2 : Option Addr} {c2 : Nat} {w : World} {u v : Value} (eu : u = tv a a1 c1) (ev : v = tv b a2 c2) (ha : TAt w a a1 c1) (hb : TAt w b a2 c2) : Hands Try.prog 19 #[u, v] w (isv (.bool (hasT a b))) := by
  subst eu; subst ev
  exact (Has_any ha hb).mono fun e w' ⟨he, hb⟩ => ⟨_, he, hb, rfl⟩
theorem h_rhas {a b : Tm} {a1 : Option Addr} {c1 : Nat} {a2 : Option Addr} {c2 : Nat} {w : World} {u v : Value} (eu : u = tv a a1 c1) (ev : v = tv b a2 c2) (ha : TAt w a a1 c1) (hb : TAt w b a2 c2) : Hands Try.prog 20 #[u, v] w (isv (.bool (hasT a b))) := by
  subst eu; subst ev
  exact (rHas_any ha hb).mono fun e w' ⟨he, hb⟩ => ⟨_, he, hb, rfl⟩
theorem h_name {s : ByteArray} {w : World} {v : Value} (e : v = .string s) (hs : s.size ≤ 9223372036854775807) : Hands Try.prog 21 #[v] w (isv (.bool (nameB s))) := by
  subst e; exact (Name_any s hs w).mono fun e w' ⟨he, hb⟩ => ⟨_, he, hb, rfl⟩
theorem h_rname {s : ByteArray} {w : World} {v : Value} (e : v = .string s) (hs : s.size ≤ 9223372036854775807) : Hands Try.prog 22 #[v] w (isv (.bool (nameB s))) := by
  subst e; exact (rName_any s hs w).mono fun e w' ⟨he, hb⟩ => ⟨_, he, hb, rfl⟩
theorem h_awake {w : World} : Hands Try.prog 10 #[] w (isv (.bool true)) := (awake_any w).mono fun _ _ ⟨he, hb⟩ => ⟨_, he, hb, rfl⟩
/-- The law holds. -/
abbrev Yes (w : World) (e : Ending) (w' : World) : Prop := e = .returned (.bool true) ∧ Below w.heap.size w w'
/-- A variable that holds a term. -/
def VarT (W : World) (g : Nat) (t : Tm) (a : Option Addr) (c : Nat) : Prop := W.heap[g]? = some (.cells #[.int .i64 t.k, .int .i64 t.n, .string t.s, .slice a t.l.length c] 24 (0, 0)) ∧ TAt W t a c
theorem VarT.ext {W w : World} {g : Nat} {t : Tm} {a : Option Addr} {c : Nat} (h : VarT W g t a c) (he : Below W.heap.size W w) : VarT w g t a c := ⟨Below.heap he (Array.getElem?_eq_some_iff.1 h.1).1 h.1, h.2.ext he⟩
theorem VarT.new {W : World} {t : Tm} {a : Option Addr} {c g : Nat} (h : TAt W t a c) (hg : g = W.heap.size) : VarT (W.alloc (.cells #[.int .i64 t.k, .int .i64 t.n, .string t.s, .slice a t.l.length c] 24)) g t a c := by
  subst hg
  exact ⟨heap_alloc_last _ _, h.ext (alloc_below _ _)⟩
theorem VarT.itp {W : World} {g : Nat} {t : Tm} {a : Option Addr} {c : Nat} (h : VarT W g t a c) : (itp t a c).p W (.pointer (some ⟨g, 0, none⟩)) := itp_row h.1
theorem VarT.q {W : World} {g : Nat} {t : Tm} {a : Option Addr} {c : Nat} (h : VarT W g t a c) : W.cell? ⟨g, 0, none⟩ = some (.int .i64 t.k) ∧ W.cell? ⟨g, 1, none⟩ = some (.int .i64 t.n) ∧ W.cell? ⟨g, 2, none⟩ = some (.string t.s) ∧ W.cell? ⟨g, 3, none⟩ = some (.slice a t.l.length c) :=
  ⟨(row_reads h.1).1 0, (row_reads h.1).1 1, (row_reads h.1).1 2, (row_reads h.1).1 3⟩
set_option maxRecDepth 100000 in
set_option maxHeartbeats 4000000 in
theorem forms_walk {a b : Tm} {a1 : Option Addr} {c1 : Nat} {a2 : Option Addr} {c2 : Nat} {s : ByteArray} {w : World} (ha : TAt w a a1 c1) (hb : TAt w b a2 c2) (hs : s.size ≤ 9223372036854775807) :
    Calls Try.prog 3 #[tv a a1 c1, tv b a2 c2, .string s] w (Yes w) := by
  have HB := hide (Below.refl w.heap.size w)
  have bx := alloc_below w (.cells #[.int .i64 a.k, .int .i64 a.n, .string a.s, .slice a1 a.l.length c1] 24)
  have HVa := hide (VarT.new (g := w.heap.size) ha rfl)
  replace HB := hide (Below.chain HB.out bx)
  clear bx
  have bx := alloc_below (w.alloc (.cells #[.int .i64 a.k, .int .i64 a.n, .string a.s, .slice a1 a.l.length c1] 24)) (.cells #[.int .i64 b.k, .int .i64 b.n, .string b.s, .slice a2 b.l.length c2] 24)
  replace HVa := hide (HVa.out.ext bx)
  have HVb := hide (VarT.new (g := w.heap.size + 1) (hb.ext HB.out) (by simp))
  replace HB := hide (Below.chain HB.out bx)
  clear bx
  clear ha hb
  unfold tv
  go_enter Try.func3, Try.ntmps3
  have S := hide (Size_any HVa.out.2)
  unfold tv at S
  obtain ⟨q0, q1, q2, q3⟩ := HVa.out.q
  go_wp2_with fail
  refine S.out.mono ?_
  rintro e ws1 ⟨n1, rfl, _, bs⟩
  clear q0 q1 q2 q3 S
  replace HB := hide (Below.chain HB.out bs)
  replace HVa := hide (HVa.out.ext bs)
  replace HVb := hide (HVb.out.ext bs)
  clear bs
  by_cases hge1 : (100 : Int) ≤ n1
  · have dn1 : decide ((100 : Int) ≤ n1) = true := decide_eq_true hge1
    go_wp2_with fail
    refine (awake_any _).mono ?_
    rintro e wk2 ⟨rfl, bk⟩
    replace HB := hide (Below.chain HB.out bk)
    clear bk
    go_wp2
    go_ret
    exact ⟨rfl, HB.out⟩
  · have dn1 : decide ((100 : Int) ≤ n1) = false := decide_eq_false hge1
    have S := hide (Size_any HVb.out.2)
    unfold tv at S
    obtain ⟨q0, q1, q2, q3⟩ := HVb.out.q
    go_wp2_with fail
    refine S.out.mono ?_
    rintro e ws3 ⟨n3, rfl, _, bs⟩
    clear q0 q1 q2 q3 S
    replace HB := hide (Below.chain HB.out bs)
    replace HVa := hide (HVa.out.ext bs)
    replace HVb := hide (HVb.out.ext bs)
    clear bs
    by_cases hge3 : (100 : Int) ≤ n3
    · have dn3 : decide ((100 : Int) ≤ n3) = true := decide_eq_true hge3
      go_wp2_with fail
      refine (awake_any _).mono ?_
      rintro e wk4 ⟨rfl, bk⟩
      replace HB := hide (Below.chain HB.out bk)
      clear bk
      go_wp2
      go_ret
      exact ⟨rfl, HB.out⟩
    · have dn3 : decide ((100 : Int) ≤ n3) = false := decide_eq_false hge3
      go_wp2_with fail
      refine wp_region_typed (tys := fun ix_ => List.getD [itp a a1 c1, isv (tv a a1 c1), itp b a2 c2, isv (tv b a2 c2), isv (.int .i64 (cp a b)), isv (.bool true), isv (.bool (cp a b == 0)), isv (.bool (mayT a)), isv (.bool (fixT a)), isv (.bool (hasT a b)), isv (.string s), isv (.bool (nameB s))] ix_ anyv) (pre := [(2, 10), (3, 0), (4, 2)])
        (plan := [([(3, 0)], 1), ([(4, 2)], 3), ([(16, 1), (17, 3)], 4), ([(3, 0)], 1), ([(4, 2)], 3), ([(19, 1), (20, 3)], 4), ([(18, 4), (21, 4)], 5), ([(22, 5)], 5), ([(23, 5), (3, 0)], 1), ([(23, 5), (4, 2)], 3), ([(23, 5), (24, 1), (25, 3)], 6), ([(23, 5), (3, 0)], 1), ([(23, 5), (4, 2)], 3), ([(23, 5), (27, 1), (28, 3)], 6), ([(23, 5), (26, 6), (29, 6)], 5), ([(23, 5), (30, 5)], 5), ([(31, 5)], 5), ([(32, 5), (3, 0)], 1), ([(32, 5), (33, 1)], 7), ([(32, 5), (3, 0)], 1), ([(32, 5), (35, 1)], 7), ([(32, 5), (34, 7), (36, 7)], 5), ([(32, 5), (37, 5)], 5), ([(38, 5)], 5), ([(39, 5), (3, 0)], 1), ([(39, 5), (40, 1)], 8), ([(39, 5), (3, 0)], 1), ([(39, 5), (42, 1)], 8), ([(39, 5), (41, 8), (43, 8)], 5), ([(39, 5), (44, 5)], 5), ([(45, 5)], 5), ([(46, 5), (3, 0)], 1), ([(46, 5), (4, 2)], 3), ([(46, 5), (47, 1), (48, 3)], 9), ([(46, 5), (3, 0)], 1), ([(46, 5), (4, 2)], 3), ([(46, 5), (50, 1), (51, 3)], 9), ([(46, 5), (49, 9), (52, 9)], 5), ([(46, 5), (53, 5)], 5), ([(54, 5)], 5), ([(55, 5), (2, 10)], 10), ([(55, 5), (56, 10)], 11), ([(55, 5), (2, 10)], 10), ([(55, 5), (58, 10)], 11), ([(55, 5), (57, 11), (59, 11)], 5), ([(55, 5), (60, 5)], 5), ([(61, 5)], 5), ([(62, 5)], 5), ([(62, 5), (63, 5)], 5), ([(64, 5)], 5)])
        (by kernel_rfl) 65 (by kernel_rfl) rfl ⟨rfl, ⟨HVa.out.itp, ⟨HVb.out.itp, trivial⟩⟩⟩
          (OkL.cons (fun a w_ X_ h => g_ldt (wanted_none rfl) rfl h.1 rfl)
          (OkL.cons (fun a w_ X_ h => g_ldt (wanted_none rfl) rfl h.1 rfl)
          (OkL.cons (fun a w_ X_ h => g_call2 (wanted_none rfl) (by kernel_rfl) rfl (h_cmp h.1 h.2.1 (HVa.out.2.ext X_) (HVb.out.2.ext X_)))
          (OkL.cons (fun a w_ X_ h => g_ldt (wanted_none rfl) rfl h.1 rfl)
          (OkL.cons (fun a w_ X_ h => g_ldt (wanted_none rfl) rfl h.1 rfl)
          (OkL.cons (fun a w_ X_ h => g_call2 (wanted_none rfl) (by kernel_rfl) rfl (h_rcmp h.1 h.2.1 (HVa.out.2.ext X_) (HVb.out.2.ext X_)))
          (OkL.cons (fun a w_ X_ h => g_cI (wanted_none rfl) rfl rfl h.1 h.2.1 (decide_eq_true rfl))
          (OkL.cons (fun a w_ X_ h => g_move (wanted_none rfl) (.inl rfl) h.1)
          (OkL.cons (fun a w_ X_ h => g_ldt (wanted_some rfl rfl h.1) rfl h.2.1 rfl)
          (OkL.cons (fun a w_ X_ h => g_ldt (wanted_some rfl rfl h.1) rfl h.2.1 rfl)
          (OkL.cons (fun a w_ X_ h => g_call2 (wanted_some rfl rfl h.1) (by kernel_rfl) rfl (h_same h.2.1 h.2.2.1 (HVa.out.2.ext X_) (HVb.out.2.ext X_)))
          (OkL.cons (fun a w_ X_ h => g_ldt (wanted_some rfl rfl h.1) rfl h.2.1 rfl)
          (OkL.cons (fun a w_ X_ h => g_ldt (wanted_some rfl rfl h.1) rfl h.2.1 rfl)
          (OkL.cons (fun a w_ X_ h => g_call2 (wanted_some rfl rfl h.1) (by kernel_rfl) rfl (h_rsame h.2.1 h.2.2.1 (HVa.out.2.ext X_) (HVb.out.2.ext X_)))
          (OkL.cons (fun a w_ X_ h => g_eqb (wanted_some rfl rfl h.1) rfl h.2.1 h.2.2.1 (beq_b _))
          (OkL.cons (fun a w_ X_ h => g_pick (wanted_none rfl) rfl h.1 h.2.1)
          (OkL.cons (fun a w_ X_ h => g_move (wanted_none rfl) (.inl rfl) h.1)
          (OkL.cons (fun a w_ X_ h => g_ldt (wanted_some rfl rfl h.1) rfl h.2.1 rfl)
          (OkL.cons (fun a w_ X_ h => g_call1 (wanted_some rfl rfl h.1) (by kernel_rfl) rfl (h_may h.2.1 (HVa.out.2.ext X_)))
          (OkL.cons (fun a w_ X_ h => g_ldt (wanted_some rfl rfl h.1) rfl h.2.1 rfl)
          (OkL.cons (fun a w_ X_ h => g_call1 (wanted_some rfl rfl h.1) (by kernel_rfl) rfl (h_rmay2 h.2.1 (HVa.out.2.ext X_)))
          (OkL.cons (fun a w_ X_ h => g_eqb (wanted_some rfl rfl h.1) rfl h.2.1 h.2.2.1 (beq_b _))
          (OkL.cons (fun a w_ X_ h => g_pick (wanted_none rfl) rfl h.1 h.2.1)
          (OkL.cons (fun a w_ X_ h => g_move (wanted_none rfl) (.inl rfl) h.1)
          (OkL.cons (fun a w_ X_ h => g_ldt (wanted_some rfl rfl h.1) rfl h.2.1 rfl)
          (OkL.cons (fun a w_ X_ h => g_call1 (wanted_some rfl rfl h.1) (by kernel_rfl) rfl (h_fix h.2.1 (HVa.out.2.ext X_)))
          (OkL.cons (fun a w_ X_ h => g_ldt (wanted_some rfl rfl h.1) rfl h.2.1 rfl)
          (OkL.cons (fun a w_ X_ h => g_call1 (wanted_some rfl rfl h.1) (by kernel_rfl) rfl (h_rfix2 h.2.1 (HVa.out.2.ext X_)))
          (OkL.cons (fun a w_ X_ h => g_eqb (wanted_some rfl rfl h.1) rfl h.2.1 h.2.2.1 (beq_b _))
          (OkL.cons (fun a w_ X_ h => g_pick (wanted_none rfl) rfl h.1 h.2.1)
          (OkL.cons (fun a w_ X_ h => g_move (wanted_none rfl) (.inl rfl) h.1)
          (OkL.cons (fun a w_ X_ h => g_ldt (wanted_some rfl rfl h.1) rfl h.2.1 rfl)
          (OkL.cons (fun a w_ X_ h => g_ldt (wanted_some rfl rfl h.1) rfl h.2.1 rfl)
          (OkL.cons (fun a w_ X_ h => g_call2 (wanted_some rfl rfl h.1) (by kernel_rfl) rfl (h_has h.2.1 h.2.2.1 (HVa.out.2.ext X_) (HVb.out.2.ext X_)))
          (OkL.cons (fun a w_ X_ h => g_ldt (wanted_some rfl rfl h.1) rfl h.2.1 rfl)
          (OkL.cons (fun a w_ X_ h => g_ldt (wanted_some rfl rfl h.1) rfl h.2.1 rfl)
          (OkL.cons (fun a w_ X_ h => g_call2 (wanted_some rfl rfl h.1) (by kernel_rfl) rfl (h_rhas h.2.1 h.2.2.1 (HVa.out.2.ext X_) (HVb.out.2.ext X_)))
          (OkL.cons (fun a w_ X_ h => g_eqb (wanted_some rfl rfl h.1) rfl h.2.1 h.2.2.1 (beq_b _))
          (OkL.cons (fun a w_ X_ h => g_pick (wanted_none rfl) rfl h.1 h.2.1)
          (OkL.cons (fun a w_ X_ h => g_move (wanted_none rfl) (.inl rfl) h.1)
          (OkL.cons (fun a w_ X_ h => g_move (wanted_some rfl rfl h.1) (.inl rfl) h.2.1)
          (OkL.cons (fun a w_ X_ h => g_call1 (wanted_some rfl rfl h.1) (by kernel_rfl) rfl (h_name h.2.1 hs))
          (OkL.cons (fun a w_ X_ h => g_move (wanted_some rfl rfl h.1) (.inl rfl) h.2.1)
          (OkL.cons (fun a w_ X_ h => g_call1 (wanted_some rfl rfl h.1) (by kernel_rfl) rfl (h_rname h.2.1 hs))
          (OkL.cons (fun a w_ X_ h => g_eqb (wanted_some rfl rfl h.1) rfl h.2.1 h.2.2.1 (beq_b _))
          (OkL.cons (fun a w_ X_ h => g_pick (wanted_none rfl) rfl h.1 h.2.1)
          (OkL.cons (fun a w_ X_ h => g_move (wanted_none rfl) (.inl rfl) h.1)
          (OkL.cons (fun a w_ X_ h => g_call0 (wanted_some rfl rfl h.1) (by kernel_rfl) rfl (h_awake))
          (OkL.cons (fun a w_ X_ h => g_pick (wanted_none rfl) rfl h.1 h.2.1)
          (OkL.cons (fun a w_ X_ h => g_move (wanted_none rfl) (.inr rfl) h.1)
          OkL.nil)))))))))))))))))))))))))))))))))))))))))))))))))) ?_
      rintro w7 X7 _ rfl _ rfl _ rfl _ rfl _ rfl _ rfl _ rfl _ rfl _ rfl _ rfl _ rfl _ rfl _ rfl _ rfl _ rfl _ rfl _ rfl _ rfl _ rfl _ rfl _ rfl _ rfl _ rfl _ rfl _ rfl _ rfl _ rfl _ rfl _ rfl _ rfl _ rfl _ rfl _ rfl _ rfl _ rfl _ rfl _ rfl _ rfl _ rfl _ rfl _ rfl _ rfl _ rfl _ rfl _ rfl _ rfl _ rfl _ rfl _ rfl _ rfl
      refine FinL.done ?_
      simp only [Act.put, List.setIfInBounds_toArray, List.set_cons_zero, List.set_cons_succ]
      replace HB := hide (Below.chain HB.out X7)
      clear X7
      go_wp2
      go_ret
      exact ⟨rfl, HB.out⟩
theorem beq_dec (m : Int) : icmp .eql m 0 = (m == 0) := by
  unfold icmp
  by_cases h : m = 0 <;> simp [h]
set_option maxRecDepth 100000 in
set_option maxHeartbeats 4000000 in
theorem order_walk {a b c : Tm} {a1 : Option Addr} {c1 : Nat} {a2 : Option Addr} {c2 : Nat} {a3 : Option Addr} {c3 : Nat} {w : World} (ha : TAt w a a1 c1) (hb : TAt w b a2 c2) (hc : TAt w c a3 c3) :
    Calls Try.prog 5 #[tv a a1 c1, tv b a2 c2, tv c a3 c3] w (Yes w) := by
  have HB := hide (Below.refl w.heap.size w)
  have bx := alloc_below w (.cells #[.int .i64 a.k, .int .i64 a.n, .string a.s, .slice a1 a.l.length c1] 24)
  have HVa := hide (VarT.new (g := w.heap.size) ha rfl)
  replace HB := hide (Below.chain HB.out bx)
  clear bx
  have bx := alloc_below (w.alloc (.cells #[.int .i64 a.k, .int .i64 a.n, .string a.s, .slice a1 a.l.length c1] 24)) (.cells #[.int .i64 b.k, .int .i64 b.n, .string b.s, .slice a2 b.l.length c2] 24)
  replace HVa := hide (HVa.out.ext bx)
  have HVb := hide (VarT.new (g := w.heap.size + 1) (hb.ext HB.out) (by simp))
  replace HB := hide (Below.chain HB.out bx)
  clear bx
  have bx := alloc_below ((w.alloc (.cells #[.int .i64 a.k, .int .i64 a.n, .string a.s, .slice a1 a.l.length c1] 24)).alloc (.cells #[.int .i64 b.k, .int .i64 b.n, .string b.s, .slice a2 b.l.length c2] 24)) (.cells #[.int .i64 c.k, .int .i64 c.n, .string c.s, .slice a3 c.l.length c3] 24)
  replace HVa := hide (HVa.out.ext bx)
  replace HVb := hide (HVb.out.ext bx)
  have HVc := hide (VarT.new (g := w.heap.size + 2) (hc.ext HB.out) (by simp))
  replace HB := hide (Below.chain HB.out bx)
  clear bx
  clear ha hb hc
  unfold tv
  go_enter Try.func5, Try.ntmps5
  have S := hide (Size_any HVa.out.2)
  unfold tv at S
  obtain ⟨q0, q1, q2, q3⟩ := HVa.out.q
  go_wp2_with fail
  refine S.out.mono ?_
  rintro e ws5 ⟨n5, rfl, _, bs⟩
  clear q0 q1 q2 q3 S
  replace HB := hide (Below.chain HB.out bs)
  replace HVa := hide (HVa.out.ext bs)
  replace HVb := hide (HVb.out.ext bs)
  replace HVc := hide (HVc.out.ext bs)
  clear bs
  by_cases hge5 : (100 : Int) ≤ n5
  · have dn5 : decide ((100 : Int) ≤ n5) = true := decide_eq_true hge5
    go_wp2_with fail
    refine (awake_any _).mono ?_
    rintro e wk6 ⟨rfl, bk⟩
    replace HB := hide (Below.chain HB.out bk)
    clear bk
    go_wp2
    go_ret
    exact ⟨rfl, HB.out⟩
  · have dn5 : decide ((100 : Int) ≤ n5) = false := decide_eq_false hge5
    have S := hide (Size_any HVb.out.2)
    unfold tv at S
    obtain ⟨q0, q1, q2, q3⟩ := HVb.out.q
    go_wp2_with fail
    refine S.out.mono ?_
    rintro e ws7 ⟨n7, rfl, _, bs⟩
    clear q0 q1 q2 q3 S
    replace HB := hide (Below.chain HB.out bs)
    replace HVa := hide (HVa.out.ext bs)
    replace HVb := hide (HVb.out.ext bs)
    replace HVc := hide (HVc.out.ext bs)
    clear bs
    by_cases hge7 : (100 : Int) ≤ n7
    · have dn7 : decide ((100 : Int) ≤ n7) = true := decide_eq_true hge7
      go_wp2_with fail
      refine (awake_any _).mono ?_
      rintro e wk8 ⟨rfl, bk⟩
      replace HB := hide (Below.chain HB.out bk)
      clear bk
      go_wp2
      go_ret
      exact ⟨rfl, HB.out⟩
    · have dn7 : decide ((100 : Int) ≤ n7) = false := decide_eq_false hge7
      have S := hide (Size_any HVc.out.2)
      unfold tv at S
      obtain ⟨q0, q1, q2, q3⟩ := HVc.out.q
      go_wp2_with fail
      refine S.out.mono ?_
      rintro e ws9 ⟨n9, rfl, _, bs⟩
      clear q0 q1 q2 q3 S
      replace HB := hide (Below.chain HB.out bs)
      replace HVa := hide (HVa.out.ext bs)
      replace HVb := hide (HVb.out.ext bs)
      replace HVc := hide (HVc.out.ext bs)
      clear bs
      by_cases hge9 : (100 : Int) ≤ n9
      · have dn9 : decide ((100 : Int) ≤ n9) = true := decide_eq_true hge9
        go_wp2_with fail
        refine (awake_any _).mono ?_
        rintro e wk10 ⟨rfl, bk⟩
        replace HB := hide (Below.chain HB.out bk)
        clear bk
        go_wp2
        go_ret
        exact ⟨rfl, HB.out⟩
      · have dn9 : decide ((100 : Int) ≤ n9) = false := decide_eq_false hge9
        go_wp2_with fail
        refine wp_region_typed (tys := fun ix_ => List.getD [itp a a1 c1, isv (tv a a1 c1), itp b a2 c2, isv (tv b a2 c2), isv (.int .i64 (cp a b)), itp c a3 c3, isv (tv c a3 c3), isv (.int .i64 (cp b c)), isv (.int .i64 (cp a c))] ix_ anyv) (pre := [(3, 0), (4, 2), (5, 5)])
          (plan := [([(3, 0)], 1), ([(4, 2)], 3), ([(24, 1), (25, 3)], 4), ([(4, 2)], 3), ([(5, 5)], 6), ([(27, 3), (28, 6)], 7), ([(3, 0)], 1), ([(5, 5)], 6), ([(30, 1), (31, 6)], 8), ([(26, 4)], 4), ([(29, 7)], 7), ([(32, 8)], 8)])
          (by kernel_rfl) 86 (by kernel_rfl) rfl ⟨HVa.out.itp, ⟨HVb.out.itp, ⟨HVc.out.itp, trivial⟩⟩⟩
            (OkL.cons (fun a w_ X_ h => g_ldt (wanted_none rfl) rfl h.1 rfl)
            (OkL.cons (fun a w_ X_ h => g_ldt (wanted_none rfl) rfl h.1 rfl)
            (OkL.cons (fun a w_ X_ h => g_call2 (wanted_none rfl) (by kernel_rfl) rfl (h_cmp h.1 h.2.1 (HVa.out.2.ext X_) (HVb.out.2.ext X_)))
            (OkL.cons (fun a w_ X_ h => g_ldt (wanted_none rfl) rfl h.1 rfl)
            (OkL.cons (fun a w_ X_ h => g_ldt (wanted_none rfl) rfl h.1 rfl)
            (OkL.cons (fun a w_ X_ h => g_call2 (wanted_none rfl) (by kernel_rfl) rfl (h_cmp h.1 h.2.1 (HVb.out.2.ext X_) (HVc.out.2.ext X_)))
            (OkL.cons (fun a w_ X_ h => g_ldt (wanted_none rfl) rfl h.1 rfl)
            (OkL.cons (fun a w_ X_ h => g_ldt (wanted_none rfl) rfl h.1 rfl)
            (OkL.cons (fun a w_ X_ h => g_call2 (wanted_none rfl) (by kernel_rfl) rfl (h_cmp h.1 h.2.1 (HVa.out.2.ext X_) (HVc.out.2.ext X_)))
            (OkL.cons (fun a w_ X_ h => g_move (wanted_none rfl) (.inr rfl) h.1)
            (OkL.cons (fun a w_ X_ h => g_move (wanted_none rfl) (.inr rfl) h.1)
            (OkL.cons (fun a w_ X_ h => g_move (wanted_none rfl) (.inr rfl) h.1)
            OkL.nil)))))))))))) ?_
        rintro w7 X7 _ rfl _ rfl _ rfl _ rfl _ rfl _ rfl _ rfl _ rfl _ rfl _ rfl _ rfl _ rfl
        refine FinL.done ?_
        simp only [Act.put, List.setIfInBounds_toArray, List.set_cons_zero, List.set_cons_succ]
        replace HB := hide (Below.chain HB.out X7)
        replace HVa := hide (HVa.out.ext X7)
        replace HVb := hide (HVb.out.ext X7)
        replace HVc := hide (HVc.out.ext X7)
        clear X7
        have HO := hide (show -(cp b a) = cp a b ∧ (-9223372036854775808 ≤ cp a b ∧ cp a b ≤ 9223372036854775807) ∧ ¬ cp a b < -1 ∧ ¬ 1 < cp a b ∧ True from by
          have h1 := cp_ord.anti a b
          have h2 := cp_ord.low a b
          have h3 := cp_ord.high a b
          exact ⟨by omega, ⟨by omega, by omega⟩, by omega, by omega, trivial⟩)
        go_upto_region 4 with fail
        refine wp_region_lined (tys := fun ix_ => List.getD [isv (.int .i64 (cp a b)), itp b a2 c2, isv (tv b a2 c2), itp a a1 c1, isv (tv a a1 c1), isv (.int .i64 (cp b a)), isv (.bool false), isv (.int .i64 (cp a a)), isv (.bool (cp a b == 0))] ix_ anyv) (pre := [(3, 3), (4, 1), (7, 0)])
          (plan := [([(7, 0)], 0), ([(4, 1)], 2), ([(3, 3)], 4), ([(34, 2), (35, 4)], 5), ([(36, 5)], 0), ([(33, 0), (37, 0)], 6), ([(38, 6)], 6), ([(39, 6), (7, 0)], 0), ([(39, 6), (40, 0)], 6), ([(39, 6), (41, 6)], 6), ([(42, 6)], 6), ([(43, 6), (7, 0)], 0), ([(43, 6), (44, 0)], 6), ([(43, 6), (45, 6)], 6), ([(46, 6)], 6), ([(47, 6), (3, 3)], 4), ([(47, 6), (3, 3)], 4), ([(47, 6), (48, 4), (49, 4)], 7), ([(47, 6), (50, 7)], 6), ([(47, 6), (51, 6)], 6), ([(52, 6)], 6), ([(53, 6), (3, 3)], 4), ([(53, 6), (4, 1)], 2), ([(53, 6), (54, 4), (55, 2)], 8), ([(53, 6), (7, 0)], 0), ([(53, 6), (57, 0)], 8), ([(53, 6), (56, 8), (58, 8)], 6), ([(53, 6), (59, 6)], 6)])
          86 (by kernel_rfl) rfl ⟨HVa.out.itp, ⟨HVb.out.itp, ⟨rfl, trivial⟩⟩⟩
            (OkL.cons (fun a w_ X_ h => g_move (wanted_none rfl) (.inl rfl) h.1)
            (OkL.cons (fun a w_ X_ h => g_ldt (wanted_none rfl) rfl h.1 rfl)
            (OkL.cons (fun a w_ X_ h => g_ldt (wanted_none rfl) rfl h.1 rfl)
            (OkL.cons (fun a w_ X_ h => g_call2 (wanted_none rfl) (by kernel_rfl) rfl (h_cmp h.1 h.2.1 (HVb.out.2.ext X_) (HVa.out.2.ext X_)))
            (OkL.cons (fun a w_ X_ h => g_negI (wanted_none rfl) rfl h.1 (HO.out.1) (HO.out.2.1))
            (OkL.cons (fun a w_ X_ h => g_cI (wanted_none rfl) rfl rfl h.1 h.2.1 (neq_f rfl))
            (OkL.cons (fun a w_ X_ h => g_move (wanted_none rfl) (.inl rfl) h.1)
            (OkL.cons (fun a w_ X_ h => g_move (wanted_some rfl rfl h.1) (.inl rfl) h.2.1)
            (OkL.cons (fun a w_ X_ h => g_cI (wanted_some rfl rfl h.1) rfl rfl h.2.1 rfl (decide_eq_false (HO.out.2.2.1)))
            (OkL.cons (fun a w_ X_ h => g_pick (wanted_none rfl) rfl h.1 h.2.1)
            (OkL.cons (fun a w_ X_ h => g_move (wanted_none rfl) (.inl rfl) h.1)
            (OkL.cons (fun a w_ X_ h => g_move (wanted_some rfl rfl h.1) (.inl rfl) h.2.1)
            (OkL.cons (fun a w_ X_ h => g_cI (wanted_some rfl rfl h.1) rfl rfl h.2.1 rfl (decide_eq_false (HO.out.2.2.2.1)))
            (OkL.cons (fun a w_ X_ h => g_pick (wanted_none rfl) rfl h.1 h.2.1)
            (OkL.cons (fun a w_ X_ h => g_move (wanted_none rfl) (.inl rfl) h.1)
            (OkL.cons (fun a w_ X_ h => g_ldt (wanted_some rfl rfl h.1) rfl h.2.1 rfl)
            (OkL.cons (fun a w_ X_ h => g_ldt (wanted_some rfl rfl h.1) rfl h.2.1 rfl)
            (OkL.cons (fun a w_ X_ h => g_call2 (wanted_some rfl rfl h.1) (by kernel_rfl) rfl (h_cmp h.2.1 h.2.2.1 (HVa.out.2.ext X_) (HVa.out.2.ext X_)))
            (OkL.cons (fun a w_ X_ h => g_cI (wanted_some rfl rfl h.1) rfl rfl h.2.1 rfl (neq_f (cp_refl _)))
            (OkL.cons (fun a w_ X_ h => g_pick (wanted_none rfl) rfl h.1 h.2.1)
            (OkL.cons (fun a w_ X_ h => g_move (wanted_none rfl) (.inl rfl) h.1)
            (OkL.cons (fun a w_ X_ h => g_ldt (wanted_some rfl rfl h.1) rfl h.2.1 rfl)
            (OkL.cons (fun a w_ X_ h => g_ldt (wanted_some rfl rfl h.1) rfl h.2.1 rfl)
            (OkL.cons (fun a w_ X_ h => g_call2 (wanted_some rfl rfl h.1) (by kernel_rfl) rfl (h_same h.2.1 h.2.2.1 (HVa.out.2.ext X_) (HVb.out.2.ext X_)))
            (OkL.cons (fun a w_ X_ h => g_move (wanted_some rfl rfl h.1) (.inl rfl) h.2.1)
            (OkL.cons (fun a w_ X_ h => g_cI (wanted_some rfl rfl h.1) rfl rfl h.2.1 rfl (beq_dec _))
            (OkL.cons (fun a w_ X_ h => g_neb (wanted_some rfl rfl h.1) rfl h.2.1 h.2.2.1 (bne_b _))
            (OkL.cons (fun a w_ X_ h => g_pick (wanted_none rfl) rfl h.1 h.2.1)
            OkL.nil)))))))))))))))))))))))))))) ?_
        rintro w75 X75 _ rfl _ rfl _ rfl _ rfl _ rfl _ rfl _ rfl _ rfl _ rfl _ rfl _ rfl _ rfl _ rfl _ rfl _ rfl _ rfl _ rfl _ rfl _ rfl _ rfl _ rfl _ rfl _ rfl _ rfl _ rfl _ rfl _ rfl _ rfl
        refine FinL.done ?_
        simp only [Act.put, List.setIfInBounds_toArray, List.set_cons_zero, List.set_cons_succ]
        replace HB := hide (Below.chain HB.out X75)
        replace HVa := hide (HVa.out.ext X75)
        replace HVb := hide (HVb.out.ext X75)
        replace HVc := hide (HVc.out.ext X75)
        clear X75 HO
        have HT := hide (cp_ord.trans a b c)
        by_cases hx : 0 < cp a b
        · have HP := hide (And.intro hx (Int.le_of_lt hx))
          clear hx
          go_upto_region 6 with fail
          refine wp_region_lined (tys := fun ix_ => List.getD [isv (.int .i64 (cp a b)), isv (.bool true), isv (undef)] ix_ anyv) (pre := [(7, 0)])
            (plan := [([(7, 0)], 0), ([(61, 0)], 1), ([(62, 1)], 1), ([(63, 1)], 2), ([(63, 1)], 2), ([(63, 1)], 1), ([(66, 1)], 1), ([(67, 1)], 2), ([(67, 1)], 2), ([(67, 1)], 1), ([(70, 1)], 1), ([(71, 1), (7, 0)], 0), ([(71, 1), (72, 0)], 1), ([(71, 1), (73, 1)], 1), ([(74, 1)], 2), ([(74, 1)], 2), ([(71, 1), (74, 1)], 1), ([(71, 1), (77, 1)], 1), ([(78, 1)], 2), ([(78, 1)], 2), ([(71, 1), (78, 1)], 1), ([(71, 1), (81, 1)], 1), ([(82, 1)], 1), ([(83, 1)], 1), ([(83, 1), (84, 1)], 1), ([(85, 1)], 1)])
            86 (by kernel_rfl) rfl ⟨rfl, trivial⟩
              (OkL.cons (fun a w_ X_ h => g_move (wanted_none rfl) (.inl rfl) h.1)
              (OkL.cons (fun a w_ X_ h => g_cI (wanted_none rfl) rfl rfl h.1 rfl (decide_eq_true (HP.out.1)))
              (OkL.cons (fun a w_ X_ h => g_move (wanted_none rfl) (.inl rfl) h.1)
              (OkL.cons (fun a w_ X_ h => g_skip rfl rfl h.1 rfl)
              (OkL.cons (fun a w_ X_ h => g_skip rfl rfl h.1 rfl)
              (OkL.cons (fun a w_ X_ h => g_pick (wanted_none rfl) rfl h.1 rfl)
              (OkL.cons (fun a w_ X_ h => g_move (wanted_none rfl) (.inl rfl) h.1)
              (OkL.cons (fun a w_ X_ h => g_skip rfl rfl h.1 rfl)
              (OkL.cons (fun a w_ X_ h => g_skip rfl rfl h.1 rfl)
              (OkL.cons (fun a w_ X_ h => g_pick (wanted_none rfl) rfl h.1 rfl)
              (OkL.cons (fun a w_ X_ h => g_move (wanted_none rfl) (.inl rfl) h.1)
              (OkL.cons (fun a w_ X_ h => g_move (wanted_some rfl rfl h.1) (.inl rfl) h.2.1)
              (OkL.cons (fun a w_ X_ h => g_cI (wanted_some rfl rfl h.1) rfl rfl h.2.1 rfl (decide_eq_true (HP.out.2)))
              (OkL.cons (fun a w_ X_ h => g_move (wanted_some rfl rfl h.1) (.inl rfl) h.2.1)
              (OkL.cons (fun a w_ X_ h => g_skip rfl rfl h.1 rfl)
              (OkL.cons (fun a w_ X_ h => g_skip rfl rfl h.1 rfl)
              (OkL.cons (fun a w_ X_ h => g_pick (wanted_some rfl rfl h.1) rfl h.2.1 rfl)
              (OkL.cons (fun a w_ X_ h => g_move (wanted_some rfl rfl h.1) (.inl rfl) h.2.1)
              (OkL.cons (fun a w_ X_ h => g_skip rfl rfl h.1 rfl)
              (OkL.cons (fun a w_ X_ h => g_skip rfl rfl h.1 rfl)
              (OkL.cons (fun a w_ X_ h => g_pick (wanted_some rfl rfl h.1) rfl h.2.1 rfl)
              (OkL.cons (fun a w_ X_ h => g_pick (wanted_none rfl) rfl h.1 h.2.1)
              (OkL.cons (fun a w_ X_ h => g_move (wanted_none rfl) (.inl rfl) h.1)
              (OkL.cons (fun a w_ X_ h => g_call0 (wanted_some rfl rfl h.1) (by kernel_rfl) rfl (h_awake))
              (OkL.cons (fun a w_ X_ h => g_pick (wanted_none rfl) rfl h.1 h.2.1)
              (OkL.cons (fun a w_ X_ h => g_move (wanted_none rfl) (.inr rfl) h.1)
              OkL.nil)))))))))))))))))))))))))) ?_
          rintro w8 X8 _ rfl _ rfl _ rfl _ rfl _ rfl _ rfl _ rfl _ rfl _ rfl _ rfl _ rfl _ rfl _ rfl _ rfl _ rfl _ rfl _ rfl _ rfl _ rfl _ rfl _ rfl _ rfl _ rfl _ rfl _ rfl _ rfl
          refine FinL.done ?_
          simp only [Act.put, List.setIfInBounds_toArray, List.set_cons_zero, List.set_cons_succ]
          replace HB := hide (Below.chain HB.out X8)
          clear X8
          go_wp2
          go_ret
          exact ⟨rfl, HB.out⟩
        · by_cases hx0 : 0 ≤ cp a b
          · by_cases hy : 0 < cp b c
            · have HP := hide (And.intro hx0 (And.intro hy (Int.not_lt.1 hx)))
              clear hx hx0 hy
              go_upto_region 6 with fail
              refine wp_region_lined (tys := fun ix_ => List.getD [isv (.int .i64 (cp a b)), isv (.bool false), isv (.int .i64 (cp b c)), isv (.bool true), isv (undef)] ix_ anyv) (pre := [(7, 0), (8, 2)])
                (plan := [([(7, 0)], 0), ([(61, 0)], 1), ([(62, 1)], 1), ([(63, 1), (8, 2)], 2), ([(63, 1), (64, 2)], 3), ([(63, 1), (65, 3)], 3), ([(66, 3)], 3), ([(67, 3)], 4), ([(67, 3)], 4), ([(67, 3)], 3), ([(70, 3)], 3), ([(71, 3), (7, 0)], 0), ([(71, 3), (72, 0)], 3), ([(71, 3), (73, 3)], 3), ([(74, 3)], 4), ([(74, 3)], 4), ([(71, 3), (74, 3)], 3), ([(71, 3), (77, 3)], 3), ([(78, 3)], 4), ([(78, 3)], 4), ([(71, 3), (78, 3)], 3), ([(71, 3), (81, 3)], 3), ([(82, 3)], 3), ([(83, 3)], 3), ([(83, 3), (84, 3)], 3), ([(85, 3)], 3)])
                86 (by kernel_rfl) rfl ⟨rfl, ⟨rfl, trivial⟩⟩
                  (OkL.cons (fun a w_ X_ h => g_move (wanted_none rfl) (.inl rfl) h.1)
                  (OkL.cons (fun a w_ X_ h => g_cI (wanted_none rfl) rfl rfl h.1 rfl (decide_eq_false (Int.not_lt.2 HP.out.2.2)))
                  (OkL.cons (fun a w_ X_ h => g_move (wanted_none rfl) (.inl rfl) h.1)
                  (OkL.cons (fun a w_ X_ h => g_move (wanted_some rfl rfl h.1) (.inl rfl) h.2.1)
                  (OkL.cons (fun a w_ X_ h => g_cI (wanted_some rfl rfl h.1) rfl rfl h.2.1 rfl (decide_eq_true (HP.out.2.1)))
                  (OkL.cons (fun a w_ X_ h => g_pick (wanted_none rfl) rfl h.1 h.2.1)
                  (OkL.cons (fun a w_ X_ h => g_move (wanted_none rfl) (.inl rfl) h.1)
                  (OkL.cons (fun a w_ X_ h => g_skip rfl rfl h.1 rfl)
                  (OkL.cons (fun a w_ X_ h => g_skip rfl rfl h.1 rfl)
                  (OkL.cons (fun a w_ X_ h => g_pick (wanted_none rfl) rfl h.1 rfl)
                  (OkL.cons (fun a w_ X_ h => g_move (wanted_none rfl) (.inl rfl) h.1)
                  (OkL.cons (fun a w_ X_ h => g_move (wanted_some rfl rfl h.1) (.inl rfl) h.2.1)
                  (OkL.cons (fun a w_ X_ h => g_cI (wanted_some rfl rfl h.1) rfl rfl h.2.1 rfl (decide_eq_true (HP.out.1)))
                  (OkL.cons (fun a w_ X_ h => g_move (wanted_some rfl rfl h.1) (.inl rfl) h.2.1)
                  (OkL.cons (fun a w_ X_ h => g_skip rfl rfl h.1 rfl)
                  (OkL.cons (fun a w_ X_ h => g_skip rfl rfl h.1 rfl)
                  (OkL.cons (fun a w_ X_ h => g_pick (wanted_some rfl rfl h.1) rfl h.2.1 rfl)
                  (OkL.cons (fun a w_ X_ h => g_move (wanted_some rfl rfl h.1) (.inl rfl) h.2.1)
                  (OkL.cons (fun a w_ X_ h => g_skip rfl rfl h.1 rfl)
                  (OkL.cons (fun a w_ X_ h => g_skip rfl rfl h.1 rfl)
                  (OkL.cons (fun a w_ X_ h => g_pick (wanted_some rfl rfl h.1) rfl h.2.1 rfl)
                  (OkL.cons (fun a w_ X_ h => g_pick (wanted_none rfl) rfl h.1 h.2.1)
                  (OkL.cons (fun a w_ X_ h => g_move (wanted_none rfl) (.inl rfl) h.1)
                  (OkL.cons (fun a w_ X_ h => g_call0 (wanted_some rfl rfl h.1) (by kernel_rfl) rfl (h_awake))
                  (OkL.cons (fun a w_ X_ h => g_pick (wanted_none rfl) rfl h.1 h.2.1)
                  (OkL.cons (fun a w_ X_ h => g_move (wanted_none rfl) (.inr rfl) h.1)
                  OkL.nil)))))))))))))))))))))))))) ?_
              rintro w8 X8 _ rfl _ rfl _ rfl _ rfl _ rfl _ rfl _ rfl _ rfl _ rfl _ rfl _ rfl _ rfl _ rfl _ rfl _ rfl _ rfl _ rfl _ rfl _ rfl _ rfl _ rfl _ rfl _ rfl _ rfl _ rfl _ rfl
              refine FinL.done ?_
              simp only [Act.put, List.setIfInBounds_toArray, List.set_cons_zero, List.set_cons_succ]
              replace HB := hide (Below.chain HB.out X8)
              clear X8
              go_wp2
              go_ret
              exact ⟨rfl, HB.out⟩
            · have HP := hide (And.intro hx0 (And.intro (Int.not_lt.1 hy) (And.intro (Int.not_lt.1 hx) (HT.out (by omega) (by omega)).1)))
              clear hx hx0 hy
              go_upto_region 6 with fail
              refine wp_region_lined (tys := fun ix_ => List.getD [isv (.int .i64 (cp a b)), isv (.bool false), isv (.int .i64 (cp b c)), isv (.int .i64 (cp a c)), isv (.bool true), isv (undef)] ix_ anyv) (pre := [(7, 0), (8, 2), (9, 3)])
                (plan := [([(7, 0)], 0), ([(61, 0)], 1), ([(62, 1)], 1), ([(63, 1), (8, 2)], 2), ([(63, 1), (64, 2)], 1), ([(63, 1), (65, 1)], 1), ([(66, 1)], 1), ([(67, 1), (9, 3)], 3), ([(67, 1), (68, 3)], 4), ([(67, 1), (69, 4)], 4), ([(70, 4)], 4), ([(71, 4), (7, 0)], 0), ([(71, 4), (72, 0)], 4), ([(71, 4), (73, 4)], 4), ([(74, 4)], 5), ([(74, 4)], 5), ([(71, 4), (74, 4)], 4), ([(71, 4), (77, 4)], 4), ([(78, 4)], 5), ([(78, 4)], 5), ([(71, 4), (78, 4)], 4), ([(71, 4), (81, 4)], 4), ([(82, 4)], 4), ([(83, 4)], 4), ([(83, 4), (84, 4)], 4), ([(85, 4)], 4)])
                86 (by kernel_rfl) rfl ⟨rfl, ⟨rfl, ⟨rfl, trivial⟩⟩⟩
                  (OkL.cons (fun a w_ X_ h => g_move (wanted_none rfl) (.inl rfl) h.1)
                  (OkL.cons (fun a w_ X_ h => g_cI (wanted_none rfl) rfl rfl h.1 rfl (decide_eq_false (Int.not_lt.2 HP.out.2.2.1)))
                  (OkL.cons (fun a w_ X_ h => g_move (wanted_none rfl) (.inl rfl) h.1)
                  (OkL.cons (fun a w_ X_ h => g_move (wanted_some rfl rfl h.1) (.inl rfl) h.2.1)
                  (OkL.cons (fun a w_ X_ h => g_cI (wanted_some rfl rfl h.1) rfl rfl h.2.1 rfl (decide_eq_false (Int.not_lt.2 HP.out.2.1)))
                  (OkL.cons (fun a w_ X_ h => g_pick (wanted_none rfl) rfl h.1 h.2.1)
                  (OkL.cons (fun a w_ X_ h => g_move (wanted_none rfl) (.inl rfl) h.1)
                  (OkL.cons (fun a w_ X_ h => g_move (wanted_some rfl rfl h.1) (.inl rfl) h.2.1)
                  (OkL.cons (fun a w_ X_ h => g_cI (wanted_some rfl rfl h.1) rfl rfl h.2.1 rfl (decide_eq_true (HP.out.2.2.2)))
                  (OkL.cons (fun a w_ X_ h => g_pick (wanted_none rfl) rfl h.1 h.2.1)
                  (OkL.cons (fun a w_ X_ h => g_move (wanted_none rfl) (.inl rfl) h.1)
                  (OkL.cons (fun a w_ X_ h => g_move (wanted_some rfl rfl h.1) (.inl rfl) h.2.1)
                  (OkL.cons (fun a w_ X_ h => g_cI (wanted_some rfl rfl h.1) rfl rfl h.2.1 rfl (decide_eq_true (HP.out.1)))
                  (OkL.cons (fun a w_ X_ h => g_move (wanted_some rfl rfl h.1) (.inl rfl) h.2.1)
                  (OkL.cons (fun a w_ X_ h => g_skip rfl rfl h.1 rfl)
                  (OkL.cons (fun a w_ X_ h => g_skip rfl rfl h.1 rfl)
                  (OkL.cons (fun a w_ X_ h => g_pick (wanted_some rfl rfl h.1) rfl h.2.1 rfl)
                  (OkL.cons (fun a w_ X_ h => g_move (wanted_some rfl rfl h.1) (.inl rfl) h.2.1)
                  (OkL.cons (fun a w_ X_ h => g_skip rfl rfl h.1 rfl)
                  (OkL.cons (fun a w_ X_ h => g_skip rfl rfl h.1 rfl)
                  (OkL.cons (fun a w_ X_ h => g_pick (wanted_some rfl rfl h.1) rfl h.2.1 rfl)
                  (OkL.cons (fun a w_ X_ h => g_pick (wanted_none rfl) rfl h.1 h.2.1)
                  (OkL.cons (fun a w_ X_ h => g_move (wanted_none rfl) (.inl rfl) h.1)
                  (OkL.cons (fun a w_ X_ h => g_call0 (wanted_some rfl rfl h.1) (by kernel_rfl) rfl (h_awake))
                  (OkL.cons (fun a w_ X_ h => g_pick (wanted_none rfl) rfl h.1 h.2.1)
                  (OkL.cons (fun a w_ X_ h => g_move (wanted_none rfl) (.inr rfl) h.1)
                  OkL.nil)))))))))))))))))))))))))) ?_
              rintro w8 X8 _ rfl _ rfl _ rfl _ rfl _ rfl _ rfl _ rfl _ rfl _ rfl _ rfl _ rfl _ rfl _ rfl _ rfl _ rfl _ rfl _ rfl _ rfl _ rfl _ rfl _ rfl _ rfl _ rfl _ rfl _ rfl _ rfl
              refine FinL.done ?_
              simp only [Act.put, List.setIfInBounds_toArray, List.set_cons_zero, List.set_cons_succ]
              replace HB := hide (Below.chain HB.out X8)
              clear X8
              go_wp2
              go_ret
              exact ⟨rfl, HB.out⟩
          · by_cases hy : 0 < cp b c
            · have HP := hide (And.intro (Int.not_le.1 hx0) (And.intro hy (Int.not_lt.1 hx)))
              clear hx hx0 hy
              go_upto_region 6 with fail
              refine wp_region_lined (tys := fun ix_ => List.getD [isv (.int .i64 (cp a b)), isv (.bool false), isv (.int .i64 (cp b c)), isv (.bool true), isv (undef)] ix_ anyv) (pre := [(7, 0), (8, 2)])
                (plan := [([(7, 0)], 0), ([(61, 0)], 1), ([(62, 1)], 1), ([(63, 1), (8, 2)], 2), ([(63, 1), (64, 2)], 3), ([(63, 1), (65, 3)], 3), ([(66, 3)], 3), ([(67, 3)], 4), ([(67, 3)], 4), ([(67, 3)], 3), ([(70, 3)], 3), ([(71, 3), (7, 0)], 0), ([(71, 3), (72, 0)], 1), ([(71, 3), (73, 1)], 1), ([(74, 1), (8, 2)], 2), ([(74, 1), (75, 2)], 3), ([(71, 3), (74, 1), (76, 3)], 3), ([(71, 3), (77, 3)], 3), ([(78, 3)], 4), ([(78, 3)], 4), ([(71, 3), (78, 3)], 3), ([(71, 3), (81, 3)], 3), ([(82, 3)], 3), ([(83, 3)], 3), ([(83, 3), (84, 3)], 3), ([(85, 3)], 3)])
                86 (by kernel_rfl) rfl ⟨rfl, ⟨rfl, trivial⟩⟩
                  (OkL.cons (fun a w_ X_ h => g_move (wanted_none rfl) (.inl rfl) h.1)
                  (OkL.cons (fun a w_ X_ h => g_cI (wanted_none rfl) rfl rfl h.1 rfl (decide_eq_false (Int.not_lt.2 HP.out.2.2)))
                  (OkL.cons (fun a w_ X_ h => g_move (wanted_none rfl) (.inl rfl) h.1)
                  (OkL.cons (fun a w_ X_ h => g_move (wanted_some rfl rfl h.1) (.inl rfl) h.2.1)
                  (OkL.cons (fun a w_ X_ h => g_cI (wanted_some rfl rfl h.1) rfl rfl h.2.1 rfl (decide_eq_true (HP.out.2.1)))
                  (OkL.cons (fun a w_ X_ h => g_pick (wanted_none rfl) rfl h.1 h.2.1)
                  (OkL.cons (fun a w_ X_ h => g_move (wanted_none rfl) (.inl rfl) h.1)
                  (OkL.cons (fun a w_ X_ h => g_skip rfl rfl h.1 rfl)
                  (OkL.cons (fun a w_ X_ h => g_skip rfl rfl h.1 rfl)
                  (OkL.cons (fun a w_ X_ h => g_pick (wanted_none rfl) rfl h.1 rfl)
                  (OkL.cons (fun a w_ X_ h => g_move (wanted_none rfl) (.inl rfl) h.1)
                  (OkL.cons (fun a w_ X_ h => g_move (wanted_some rfl rfl h.1) (.inl rfl) h.2.1)
                  (OkL.cons (fun a w_ X_ h => g_cI (wanted_some rfl rfl h.1) rfl rfl h.2.1 rfl (decide_eq_false (Int.not_le.2 HP.out.1)))
                  (OkL.cons (fun a w_ X_ h => g_move (wanted_some rfl rfl h.1) (.inl rfl) h.2.1)
                  (OkL.cons (fun a w_ X_ h => g_move (wanted_some rfl rfl h.1) (.inl rfl) h.2.1)
                  (OkL.cons (fun a w_ X_ h => g_cI (wanted_some rfl rfl h.1) rfl rfl h.2.1 rfl (decide_eq_true (HP.out.2.1)))
                  (OkL.cons (fun a w_ X_ h => g_pick (wanted_some rfl rfl h.1) rfl h.2.1 h.2.2.1)
                  (OkL.cons (fun a w_ X_ h => g_move (wanted_some rfl rfl h.1) (.inl rfl) h.2.1)
                  (OkL.cons (fun a w_ X_ h => g_skip rfl rfl h.1 rfl)
                  (OkL.cons (fun a w_ X_ h => g_skip rfl rfl h.1 rfl)
                  (OkL.cons (fun a w_ X_ h => g_pick (wanted_some rfl rfl h.1) rfl h.2.1 rfl)
                  (OkL.cons (fun a w_ X_ h => g_pick (wanted_none rfl) rfl h.1 h.2.1)
                  (OkL.cons (fun a w_ X_ h => g_move (wanted_none rfl) (.inl rfl) h.1)
                  (OkL.cons (fun a w_ X_ h => g_call0 (wanted_some rfl rfl h.1) (by kernel_rfl) rfl (h_awake))
                  (OkL.cons (fun a w_ X_ h => g_pick (wanted_none rfl) rfl h.1 h.2.1)
                  (OkL.cons (fun a w_ X_ h => g_move (wanted_none rfl) (.inr rfl) h.1)
                  OkL.nil)))))))))))))))))))))))))) ?_
              rintro w8 X8 _ rfl _ rfl _ rfl _ rfl _ rfl _ rfl _ rfl _ rfl _ rfl _ rfl _ rfl _ rfl _ rfl _ rfl _ rfl _ rfl _ rfl _ rfl _ rfl _ rfl _ rfl _ rfl _ rfl _ rfl _ rfl _ rfl
              refine FinL.done ?_
              simp only [Act.put, List.setIfInBounds_toArray, List.set_cons_zero, List.set_cons_succ]
              replace HB := hide (Below.chain HB.out X8)
              clear X8
              go_wp2
              go_ret
              exact ⟨rfl, HB.out⟩
            · have HP := hide (And.intro (Int.not_le.1 hx0) (And.intro (Int.not_lt.1 hy) (And.intro (Int.not_lt.1 hx) (And.intro (HT.out (by omega) (by omega)).1 ((HT.out (by omega) (by omega)).2.1 (by omega))))))
              clear hx hx0 hy
              go_upto_region 6 with fail
              refine wp_region_lined (tys := fun ix_ => List.getD [isv (.int .i64 (cp a b)), isv (.bool false), isv (.int .i64 (cp b c)), isv (.int .i64 (cp a c)), isv (.bool true)] ix_ anyv) (pre := [(7, 0), (8, 2), (9, 3)])
                (plan := [([(7, 0)], 0), ([(61, 0)], 1), ([(62, 1)], 1), ([(63, 1), (8, 2)], 2), ([(63, 1), (64, 2)], 1), ([(63, 1), (65, 1)], 1), ([(66, 1)], 1), ([(67, 1), (9, 3)], 3), ([(67, 1), (68, 3)], 4), ([(67, 1), (69, 4)], 4), ([(70, 4)], 4), ([(71, 4), (7, 0)], 0), ([(71, 4), (72, 0)], 1), ([(71, 4), (73, 1)], 1), ([(74, 1), (8, 2)], 2), ([(74, 1), (75, 2)], 1), ([(71, 4), (74, 1), (76, 1)], 1), ([(71, 4), (77, 1)], 1), ([(78, 1), (9, 3)], 3), ([(78, 1), (79, 3)], 4), ([(71, 4), (78, 1), (80, 4)], 4), ([(71, 4), (81, 4)], 4), ([(82, 4)], 4), ([(83, 4)], 4), ([(83, 4), (84, 4)], 4), ([(85, 4)], 4)])
                86 (by kernel_rfl) rfl ⟨rfl, ⟨rfl, ⟨rfl, trivial⟩⟩⟩
                  (OkL.cons (fun a w_ X_ h => g_move (wanted_none rfl) (.inl rfl) h.1)
                  (OkL.cons (fun a w_ X_ h => g_cI (wanted_none rfl) rfl rfl h.1 rfl (decide_eq_false (Int.not_lt.2 HP.out.2.2.1)))
                  (OkL.cons (fun a w_ X_ h => g_move (wanted_none rfl) (.inl rfl) h.1)
                  (OkL.cons (fun a w_ X_ h => g_move (wanted_some rfl rfl h.1) (.inl rfl) h.2.1)
                  (OkL.cons (fun a w_ X_ h => g_cI (wanted_some rfl rfl h.1) rfl rfl h.2.1 rfl (decide_eq_false (Int.not_lt.2 HP.out.2.1)))
                  (OkL.cons (fun a w_ X_ h => g_pick (wanted_none rfl) rfl h.1 h.2.1)
                  (OkL.cons (fun a w_ X_ h => g_move (wanted_none rfl) (.inl rfl) h.1)
                  (OkL.cons (fun a w_ X_ h => g_move (wanted_some rfl rfl h.1) (.inl rfl) h.2.1)
                  (OkL.cons (fun a w_ X_ h => g_cI (wanted_some rfl rfl h.1) rfl rfl h.2.1 rfl (decide_eq_true (HP.out.2.2.2.1)))
                  (OkL.cons (fun a w_ X_ h => g_pick (wanted_none rfl) rfl h.1 h.2.1)
                  (OkL.cons (fun a w_ X_ h => g_move (wanted_none rfl) (.inl rfl) h.1)
                  (OkL.cons (fun a w_ X_ h => g_move (wanted_some rfl rfl h.1) (.inl rfl) h.2.1)
                  (OkL.cons (fun a w_ X_ h => g_cI (wanted_some rfl rfl h.1) rfl rfl h.2.1 rfl (decide_eq_false (Int.not_le.2 HP.out.1)))
                  (OkL.cons (fun a w_ X_ h => g_move (wanted_some rfl rfl h.1) (.inl rfl) h.2.1)
                  (OkL.cons (fun a w_ X_ h => g_move (wanted_some rfl rfl h.1) (.inl rfl) h.2.1)
                  (OkL.cons (fun a w_ X_ h => g_cI (wanted_some rfl rfl h.1) rfl rfl h.2.1 rfl (decide_eq_false (Int.not_lt.2 HP.out.2.1)))
                  (OkL.cons (fun a w_ X_ h => g_pick (wanted_some rfl rfl h.1) rfl h.2.1 h.2.2.1)
                  (OkL.cons (fun a w_ X_ h => g_move (wanted_some rfl rfl h.1) (.inl rfl) h.2.1)
                  (OkL.cons (fun a w_ X_ h => g_move (wanted_some rfl rfl h.1) (.inl rfl) h.2.1)
                  (OkL.cons (fun a w_ X_ h => g_cI (wanted_some rfl rfl h.1) rfl rfl h.2.1 rfl (decide_eq_true (HP.out.2.2.2.2)))
                  (OkL.cons (fun a w_ X_ h => g_pick (wanted_some rfl rfl h.1) rfl h.2.1 h.2.2.1)
                  (OkL.cons (fun a w_ X_ h => g_pick (wanted_none rfl) rfl h.1 h.2.1)
                  (OkL.cons (fun a w_ X_ h => g_move (wanted_none rfl) (.inl rfl) h.1)
                  (OkL.cons (fun a w_ X_ h => g_call0 (wanted_some rfl rfl h.1) (by kernel_rfl) rfl (h_awake))
                  (OkL.cons (fun a w_ X_ h => g_pick (wanted_none rfl) rfl h.1 h.2.1)
                  (OkL.cons (fun a w_ X_ h => g_move (wanted_none rfl) (.inr rfl) h.1)
                  OkL.nil)))))))))))))))))))))))))) ?_
              rintro w8 X8 _ rfl _ rfl _ rfl _ rfl _ rfl _ rfl _ rfl _ rfl _ rfl _ rfl _ rfl _ rfl _ rfl _ rfl _ rfl _ rfl _ rfl _ rfl _ rfl _ rfl _ rfl _ rfl _ rfl _ rfl _ rfl _ rfl
              refine FinL.done ?_
              simp only [Act.put, List.setIfInBounds_toArray, List.set_cons_zero, List.set_cons_succ]
              replace HB := hide (Below.chain HB.out X8)
              clear X8
              go_wp2
              go_ret
              exact ⟨rfl, HB.out⟩
end Go.Proofs.Ytgadglpbbcapcaa
