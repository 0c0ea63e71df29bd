/- TermSets, TermKinds: the laws' calls answer true. -/
import Derived.Test.YtgadglpbbcapcaaLf
namespace Go.Proofs.Ytgadglpbbcapcaa
open Go.RowKit
theorem cp_same (a : Tm) : (cp a a == 0) = true := by rw [cp_refl]; rfl
set_option maxRecDepth 100000 in
set_option maxHeartbeats 4000000 in
theorem sets_walk {l : List Tm} {ao : Option Addr} {c : Nat} {t : Tm} {a1 : Option Addr} {c1 : Nat} {w : World} (hl : LAt w l ao c) (ht : TAt w t a1 c1) :
    Calls Try.prog 4 #[.slice ao l.length c, tv t a1 c1] w (Yes w) := by
  have hm1 := hl.1
  have hm2 := hl.2.1
  have HB := hide (alloc_below w (.cells #[.int .i64 t.k, .int .i64 t.n, .string t.s, .slice a1 t.l.length c1] 24))
  have HVt := hide (VarT.new (g := w.heap.size) ht rfl)
  have HL := hide (hl.ext HB.out)
  clear hl ht
  unfold tv
  go_enter Try.func4, Try.ntmps4
  have S := hide (size_any 6 (by decide) l ao c 0 _ HL.out (by decide) (by decide))
  go_wp2_with fail
  refine S.out.mono ?_
  rintro e ws2 ⟨n2, rfl, _, bs⟩
  clear S
  replace HB := hide (Below.chain HB.out bs)
  replace HVt := hide (HVt.out.ext bs)
  replace HL := hide (HL.out.ext bs)
  clear bs
  by_cases hge2 : (100 : Int) ≤ n2
  · have dn2 : decide ((100 : Int) ≤ n2) = true := decide_eq_true hge2
    go_wp2_with fail
    refine (awake_any _).mono ?_
    rintro e wk ⟨rfl, bk⟩
    replace HB := hide (Below.chain HB.out bk)
    clear bk
    go_wp2
    go_ret
    exact ⟨rfl, HB.out⟩
  · have dn2 : decide ((100 : Int) ≤ n2) = false := decide_eq_false hge2
    have S := hide (Size_any HVt.out.2)
    unfold tv at S
    obtain ⟨q0, q1, q2, q3⟩ := HVt.out.q
    go_wp2_with fail
    refine S.out.mono ?_
    rintro e ws1 ⟨n1, rfl, _, bs⟩
    clear S q0 q1 q2 q3
    replace HB := hide (Below.chain HB.out bs)
    replace HVt := hide (HVt.out.ext bs)
    replace HL := hide (HL.out.ext bs)
    clear bs
    by_cases hge1 : (100 : Int) ≤ n1
    · have dn1 : decide ((100 : Int) ≤ n1) = true := decide_eq_true hge1
      go_wp2_with fail
      refine (awake_any _).mono ?_
      rintro e wk ⟨rfl, bk⟩
      replace HB := hide (Below.chain HB.out bk)
      clear bk
      go_wp2
      go_ret
      exact ⟨rfl, HB.out⟩
    · have dn1 : decide ((100 : Int) ≤ n1) = false := decide_eq_false hge1
      have S := hide (Set_any HL.out)
      go_wp2_with fail
      refine S.out.mono ?_
      rintro e wtr ⟨r, ra, rc, E, rfl, hr, hs1, bs⟩
      clear S
      replace HB := hide (Below.chain HB.out bs)
      replace HVt := hide (HVt.out.ext bs)
      replace HL := hide (HL.out.ext bs)
      have bx := alloc_below wtr (.cells #[.int .i64 r.k, .int .i64 r.n, .string r.s, .slice ra r.l.length rc] 24)
      have HVr := hide (VarT.new (g := wtr.heap.size) hr rfl)
      replace HB := hide (Below.chain HB.out bx)
      replace HVt := hide (HVt.out.ext bx)
      replace HL := hide (HL.out.ext bx)
      clear bs bx hr
      unfold tv
      have S := hide (rSet_any HL.out)
      go_wp2_with fail
      refine S.out.mono ?_
      rintro e wts ⟨s, sa, sc, F, rfl, hr, hs2, bs⟩
      clear S
      replace HB := hide (Below.chain HB.out bs)
      replace HVt := hide (HVt.out.ext bs)
      replace HVr := hide (HVr.out.ext bs)
      replace HL := hide (HL.out.ext bs)
      have bx := alloc_below wts (.cells #[.int .i64 s.k, .int .i64 s.n, .string s.s, .slice sa s.l.length sc] 24)
      have HVs := hide (VarT.new (g := wts.heap.size) hr rfl)
      replace HB := hide (Below.chain HB.out bx)
      replace HVt := hide (HVt.out.ext bx)
      replace HVr := hide (HVr.out.ext bx)
      replace HL := hide (HL.out.ext bx)
      clear bs bx hr
      unfold tv
      obtain ⟨rfl, rfl⟩ := set_uniq rfl (fun _ => Iff.rfl) hs1 hs2
      clear hs1 hs2
      go_wp2_with fail
      refine wp_region_typed (tys := fun ix_ => List.getD [itp r ra rc, isv (tv r ra rc), itp r sa sc, isv (tv r sa sc), isv (.bool true), isv (.int .i64 E), icp (.slice ra r.l.length rc), isv (.slice ra (r.l.length) rc), isv (.int .i64 (r.l.length : Int)), icp (.slice sa r.l.length sc), isv (.slice sa (r.l.length) sc), itp t a1 c1, isv (tv t a1 c1), isv (.bool (hasT r t))] ix_ anyv) (pre := [(3, 11), (5, 0), (6, 5), (7, 2), (8, 5)])
        (plan := [([(5, 0)], 1), ([(7, 2)], 3), ([(28, 1), (29, 3)], 4), ([(30, 4)], 4), ([(31, 4), (6, 5)], 5), ([(31, 4), (8, 5)], 5), ([(31, 4), (32, 5), (33, 5)], 4), ([(31, 4), (34, 4)], 4), ([(35, 4)], 4), ([(36, 4), (5, 0)], 6), ([(36, 4), (37, 6)], 7), ([(36, 4), (38, 7)], 8), ([(36, 4), (7, 2)], 9), ([(36, 4), (40, 9)], 10), ([(36, 4), (41, 10)], 8), ([(36, 4), (39, 8), (42, 8)], 4), ([(36, 4), (43, 4)], 4), ([(44, 4)], 4), ([(45, 4), (5, 0)], 1), ([(45, 4), (3, 11)], 12), ([(45, 4), (46, 1), (47, 12)], 13), ([(45, 4), (7, 2)], 3), ([(45, 4), (3, 11)], 12), ([(45, 4), (49, 3), (50, 12)], 13), ([(45, 4), (48, 13), (51, 13)], 4), ([(45, 4), (52, 4)], 4), ([(53, 4)], 4), ([(54, 4)], 4), ([(54, 4), (55, 4)], 4), ([(56, 4)], 4)])
        (by kernel_rfl) 57 (by kernel_rfl) rfl ⟨HVt.out.itp, ⟨HVr.out.itp, ⟨rfl, ⟨HVs.out.itp, ⟨rfl, trivial⟩⟩⟩⟩⟩
          (OkL.cons (fun a w_ X_ h => g_ldt (wanted_none rfl) rfl h.1 rfl)
          (OkL.cons (fun a w_ X_ h => g_ldt (wanted_none rfl) rfl h.1 rfl)
          (OkL.cons (fun a w_ X_ h => g_call2 (wanted_none rfl) (by kernel_rfl) rfl (h_rsameM h.1 h.2.1 (HVr.out.2.ext X_) (HVs.out.2.ext X_) (cp_same _)))
          (OkL.cons (fun a w_ X_ h => g_move (wanted_none rfl) (.inl rfl) h.1)
          (OkL.cons (fun a w_ X_ h => g_move (wanted_some rfl rfl h.1) (.inl rfl) h.2.1)
          (OkL.cons (fun a w_ X_ h => g_move (wanted_some rfl rfl h.1) (.inl rfl) h.2.1)
          (OkL.cons (fun a w_ X_ h => g_cI (wanted_some rfl rfl h.1) rfl rfl h.2.1 h.2.2.1 (decide_eq_true rfl))
          (OkL.cons (fun a w_ X_ h => g_pick (wanted_none rfl) rfl h.1 h.2.1)
          (OkL.cons (fun a w_ X_ h => g_move (wanted_none rfl) (.inl rfl) h.1)
          (OkL.cons (fun a w_ X_ h => g_fa3 (wanted_some rfl rfl h.1) rfl h.2.1)
          (OkL.cons (fun a w_ X_ h => g_ld22 (wanted_some rfl rfl h.1) rfl h.2.1 rfl)
          (OkL.cons (fun a w_ X_ h => g_lens (wanted_some rfl rfl h.1) rfl h.2.1 rfl)
          (OkL.cons (fun a w_ X_ h => g_fa3 (wanted_some rfl rfl h.1) rfl h.2.1)
          (OkL.cons (fun a w_ X_ h => g_ld22 (wanted_some rfl rfl h.1) rfl h.2.1 rfl)
          (OkL.cons (fun a w_ X_ h => g_lens (wanted_some rfl rfl h.1) rfl h.2.1 rfl)
          (OkL.cons (fun a w_ X_ h => g_cI (wanted_some rfl rfl h.1) rfl rfl h.2.1 h.2.2.1 (decide_eq_true rfl))
          (OkL.cons (fun a w_ X_ h => g_pick (wanted_none rfl) rfl h.1 h.2.1)
          (OkL.cons (fun a w_ X_ h => g_move (wanted_none rfl) (.inl rfl) h.1)
          (OkL.cons (fun a w_ X_ h => g_ldt (wanted_some rfl rfl h.1) rfl h.2.1 rfl)
          (OkL.cons (fun a w_ X_ h => g_ldt (wanted_some rfl rfl h.1) rfl h.2.1 rfl)
          (OkL.cons (fun a w_ X_ h => g_call2 (wanted_some rfl rfl h.1) (by kernel_rfl) rfl (h_has h.2.1 h.2.2.1 (HVr.out.2.ext X_) (HVt.out.2.ext X_)))
          (OkL.cons (fun a w_ X_ h => g_ldt (wanted_some rfl rfl h.1) rfl h.2.1 rfl)
          (OkL.cons (fun a w_ X_ h => g_ldt (wanted_some rfl rfl h.1) rfl h.2.1 rfl)
          (OkL.cons (fun a w_ X_ h => g_call2 (wanted_some rfl rfl h.1) (by kernel_rfl) rfl (h_rhas h.2.1 h.2.2.1 (HVs.out.2.ext X_) (HVt.out.2.ext X_)))
          (OkL.cons (fun a w_ X_ h => g_eqb (wanted_some rfl rfl h.1) rfl h.2.1 h.2.2.1 (beq_b _))
          (OkL.cons (fun a w_ X_ h => g_pick (wanted_none rfl) rfl h.1 h.2.1)
          (OkL.cons (fun a w_ X_ h => g_move (wanted_none rfl) (.inl rfl) h.1)
          (OkL.cons (fun a w_ X_ h => g_call0 (wanted_some rfl rfl h.1) (by kernel_rfl) rfl (h_awake))
          (OkL.cons (fun a w_ X_ h => g_pick (wanted_none rfl) rfl h.1 h.2.1)
          (OkL.cons (fun a w_ X_ h => g_move (wanted_none rfl) (.inr rfl) h.1)
          OkL.nil)))))))))))))))))))))))))))))) ?_
      rintro w9 X9 _ rfl _ rfl _ rfl _ rfl _ rfl _ rfl _ rfl _ rfl _ rfl v37 - _ rfl _ rfl v40 - _ rfl _ rfl _ rfl _ rfl _ rfl _ rfl _ rfl _ rfl _ rfl _ rfl _ rfl _ rfl _ rfl _ rfl _ rfl _ rfl _ rfl
      refine FinL.done ?_
      simp only [Act.put, List.setIfInBounds_toArray, List.set_cons_zero, List.set_cons_succ]
      replace HB := hide (Below.chain HB.out X9)
      clear X9
      go_wp2
      go_ret
      exact ⟨rfl, HB.out⟩
theorem neq_bv (m n : Int) : icmp .neq m n = (m != n) := by
  unfold icmp
  by_cases h : m = n <;> simp [h]
theorem isEmpty_97 : (⟨#[97]⟩ : ByteArray).toList.isEmpty = false := by decide +kernel
theorem may_s {t : Tm} (hk : t.k = 2 ∨ t.k = 4 ∨ t.k = 6) : mayT (.mk t.k t.n ⟨#[97]⟩ t.l) = false := by
  show (if t.k = 7 then _ else mayV t.k t.n ⟨#[97]⟩ t.l.length) = false
  rcases hk with h | h | h <;> rw [h] <;> simp [mayV]
theorem may_empty {t : Tm} (hk : t.k = 2 ∨ t.k = 4 ∨ t.k = 6) (hm : mayT t = true) : t.s.toList.isEmpty = true := by
  unfold mayT at hm
  rcases hk with h | h | h <;> rw [h] at hm <;> simp [mayV] at hm <;> simp [hm]
theorem may_zero {t : Tm} (h2 : ¬ t.k = 2) (h4 : ¬ t.k = 4) (h6 : ¬ t.k = 6) (hm : mayT t = true) : t.n = 0 := by
  unfold mayT at hm
  split at hm
  · simp at hm; exact hm.1.1.1
  · unfold mayV at hm
    split at hm
    · simp at hm; exact hm.1.1
    · split at hm
      · simp at hm; exact hm.1.1
      · cases hm
theorem may_n {t : Tm} {n : Int} (h2 : ¬ t.k = 2) (h4 : ¬ t.k = 4) (h6 : ¬ t.k = 6) (hn : ¬ n = 0) : mayT (.mk t.k n t.s t.l) = false := by
  cases hm : mayT (.mk t.k n t.s t.l) with
  | false => rfl
  | true => exact absurd (may_zero (t := .mk t.k n t.s t.l) h2 h4 h6 hm) hn
theorem cp_s {t : Tm} (h : t.s.toList.isEmpty = true) : (cp t (.mk t.k t.n ⟨#[97]⟩ t.l) == 0) = false := by
  rw [beq_eq_false_iff_ne]
  intro e
  have h3 : t.s = ⟨#[97]⟩ := (cmpT_zero e).2.2
  rw [h3, isEmpty_97] at h
  cases h
theorem cp_n {t : Tm} {n : Int} (h : t.n = 0) (hn : ¬ n = 0) : (cp t (.mk t.k n t.s t.l) == 0) = false := by
  rw [beq_eq_false_iff_ne]
  intro e
  have h3 : t.n = n := (cmpT_zero e).2.1
  omega
theorem fix_may {t : Tm} (h : mayT t = true) : fixT t = (t.k != 1) := by
  unfold fixT; rw [h, Bool.and_true]
theorem h_mayM {t : Tm} {a : Option Addr} {c : Nat} {w : World} {v : Value} {M : Bool} (e : v = tv t a c) (h : TAt w t a c) (hM : mayT t = M) : Hands Try.prog 15 #[v] w (isv (.bool M)) := by
  subst hM; exact h_may e h
theorem h_fixM {t : Tm} {a : Option Addr} {c : Nat} {w : World} {v : Value} {M : Bool} (e : v = tv t a c) (h : TAt w t a c) (hM : fixT t = M) : Hands Try.prog 17 #[v] w (isv (.bool M)) := by
  subst hM; exact h_fix e h
set_option maxRecDepth 100000 in
set_option maxHeartbeats 4000000 in
theorem kinds_walk {t : Tm} {a1 : Option Addr} {c1 : Nat} {n : Int} {w : World} (ht : TAt w t a1 c1) (hn : -9223372036854775808 ≤ n ∧ n ≤ 9223372036854775807) :
    Calls Try.prog 8 #[tv t a1 c1, .int .i64 n] w (Yes w) := by
  have HB := hide (alloc_below w (.cells #[.int .i64 t.k, .int .i64 t.n, .string t.s, .slice a1 t.l.length c1] 24))
  have HVt := hide (VarT.new (g := w.heap.size) ht rfl)
  clear ht
  unfold tv
  go_enter Try.func8, Try.ntmps8
  have S := hide (Size_any HVt.out.2)
  unfold tv at S
  obtain ⟨q0, q1, q2, q3⟩ := HVt.out.q
  go_wp2_with fail
  refine S.out.mono ?_
  rintro e ws3 ⟨n3, rfl, _, bs⟩
  clear S q0 q1 q2 q3
  replace HB := hide (Below.chain HB.out bs)
  replace HVt := hide (HVt.out.ext bs)
  clear bs
  by_cases hge3 : (100 : Int) ≤ n3
  · have dn3 : decide ((100 : Int) ≤ n3) = true := decide_eq_true hge3
    go_wp2_with fail
    refine (awake_any _).mono ?_
    rintro e wk ⟨rfl, bk⟩
    replace HB := hide (Below.chain HB.out bk)
    clear bk
    go_wp2
    go_ret
    exact ⟨rfl, HB.out⟩
  · have dn3 : decide ((100 : Int) ≤ n3) = false := decide_eq_false hge3
    have S := hide (May_any HVt.out.2)
    unfold tv at S
    obtain ⟨q0, q1, q2, q3⟩ := HVt.out.q
    cases hmt : mayT t with
    | false =>
      rw [hmt] at S
      go_wp2_with fail
      refine S.out.mono ?_
      rintro e wm ⟨rfl, bs⟩
      clear S q0 q1 q2 q3
      replace HB := hide (Below.chain HB.out bs)
      replace HVt := hide (HVt.out.ext bs)
      clear bs
      go_wp2_with fail
      refine (awake_any _).mono ?_
      rintro e wk ⟨rfl, bk⟩
      replace HB := hide (Below.chain HB.out bk)
      clear bk
      go_wp2
      go_ret
      exact ⟨rfl, HB.out⟩
    | true =>
      rw [hmt] at S
      have HMT := hide hmt
      clear hmt
      go_wp2_with fail
      refine S.out.mono ?_
      rintro e wm ⟨rfl, bs⟩
      clear S q0 q1 q2 q3
      replace HB := hide (Below.chain HB.out bs)
      replace HVt := hide (HVt.out.ext bs)
      clear bs
      by_cases hn0 : n = 0
      · have dn : (n == 0) = true := by simpa using hn0
        clear hn0
        go_wp2_with fail
        refine (awake_any _).mono ?_
        rintro e wk ⟨rfl, bk⟩
        replace HB := hide (Below.chain HB.out bk)
        clear bk
        go_wp2
        go_ret
        exact ⟨rfl, HB.out⟩
      · have dn : (n == 0) = false := by simpa using hn0
        have HN := hide hn0
        clear hn0
        obtain ⟨q0, q1, q2, q3⟩ := HVt.out.q
        by_cases h2 : t.k = 2
        · have d2 : (t.k == 2) = true := by simpa using h2
          have HK := hide (show t.k = 2 ∨ t.k = 4 ∨ t.k = 6 from .inl h2)
          clear h2
          have HVq := hide (HVt.out.ext (alloc_below wm (.cells #[.int .i64 t.k, .int .i64 t.n, .string t.s, .slice a1 t.l.length c1] 24)))
          have HM := hide (And.intro (may_s HK.out) (And.intro (cp_s (may_empty HK.out HMT.out)) (fix_may HMT.out)))
          have bx := alloc_below wm (.cells #[.int .i64 (Tm.mk t.k t.n ⟨#[97]⟩ t.l).k, .int .i64 (Tm.mk t.k t.n ⟨#[97]⟩ t.l).n, .string (Tm.mk t.k t.n ⟨#[97]⟩ t.l).s, .slice a1 (Tm.mk t.k t.n ⟨#[97]⟩ t.l).l.length c1] 24)
          have HVu := hide (VarT.new (t := (Tm.mk t.k t.n ⟨#[97]⟩ t.l)) (g := wm.heap.size) (LAt.term (t := (Tm.mk t.k t.n ⟨#[97]⟩ t.l)) HVt.out.2.list ⟨HVt.out.2.fits.1, HVt.out.2.fits.2.1, (show (1 : Nat) ≤ 9223372036854775807 by decide), HVt.out.2.fits.2.2.2⟩) rfl)
          replace HB := hide (Below.chain HB.out bx)
          replace HVt := hide (HVt.out.ext bx)
          clear bx HMT
          have qn : (wm.alloc (.cells #[.int .i64 t.k, .int .i64 t.n, .string t.s, .slice a1 t.l.length c1] 24)).cell? ⟨w.heap.size, 0, none⟩ = some (.int .i64 t.k) := HVq.out.q.1
          clear HVq
          go_wp2_with fail
          clear q0 q1 q2 q3 qn
          refine wp_region_typed (tys := fun ix_ => List.getD [itp (Tm.mk t.k t.n ⟨#[97]⟩ t.l) a1 c1, isv (tv (Tm.mk t.k t.n ⟨#[97]⟩ t.l) a1 c1), isv (.bool false), isv (.bool true), itp t a1 c1, isv (tv t a1 c1), isv (.bool (t.k != 1)), icp (.int .i64 t.k), isv (.int .i64 t.k)] ix_ anyv) (pre := [(2, 4), (5, 0)])
            (plan := [([(5, 0)], 1), ([(29, 1)], 2), ([(30, 2)], 3), ([(31, 3)], 3), ([(32, 3), (2, 4)], 5), ([(32, 3), (5, 0)], 1), ([(32, 3), (33, 5), (34, 1)], 2), ([(32, 3), (35, 2)], 3), ([(32, 3), (36, 3)], 3), ([(37, 3)], 3), ([(38, 3), (2, 4)], 5), ([(38, 3), (39, 5)], 6), ([(38, 3), (2, 4)], 7), ([(38, 3), (41, 7)], 8), ([(38, 3), (42, 8)], 6), ([(38, 3), (40, 6), (43, 6)], 3), ([(38, 3), (44, 3)], 3), ([(45, 3)], 3), ([(46, 3)], 3), ([(46, 3), (47, 3)], 3), ([(48, 3)], 3)])
            (by kernel_rfl) 49 (by kernel_rfl) rfl ⟨HVt.out.itp, ⟨HVu.out.itp, trivial⟩⟩
              (OkL.cons (fun a w_ X_ h => g_ldt (wanted_none rfl) rfl h.1 rfl)
              (OkL.cons (fun a w_ X_ h => g_call1 (wanted_none rfl) (by kernel_rfl) rfl (h_mayM h.1 (HVu.out.2.ext X_) HM.out.1))
              (OkL.cons (fun a w_ X_ h => g_not (wanted_none rfl) rfl h.1 rfl)
              (OkL.cons (fun a w_ X_ h => g_move (wanted_none rfl) (.inl rfl) h.1)
              (OkL.cons (fun a w_ X_ h => g_ldt (wanted_some rfl rfl h.1) rfl h.2.1 rfl)
              (OkL.cons (fun a w_ X_ h => g_ldt (wanted_some rfl rfl h.1) rfl h.2.1 rfl)
              (OkL.cons (fun a w_ X_ h => g_call2 (wanted_some rfl rfl h.1) (by kernel_rfl) rfl (h_sameB h.2.1 h.2.2.1 (HVt.out.2.ext X_) (HVu.out.2.ext X_) HM.out.2.1))
              (OkL.cons (fun a w_ X_ h => g_not (wanted_some rfl rfl h.1) rfl h.2.1 rfl)
              (OkL.cons (fun a w_ X_ h => g_pick (wanted_none rfl) rfl h.1 h.2.1)
              (OkL.cons (fun a w_ X_ h => g_move (wanted_none rfl) (.inl rfl) h.1)
              (OkL.cons (fun a w_ X_ h => g_ldt (wanted_some rfl rfl h.1) rfl h.2.1 rfl)
              (OkL.cons (fun a w_ X_ h => g_call1 (wanted_some rfl rfl h.1) (by kernel_rfl) rfl (h_fixM h.2.1 (HVt.out.2.ext X_) HM.out.2.2))
              (OkL.cons (fun a w_ X_ h => g_fa0 (wanted_some rfl rfl h.1) rfl h.2.1)
              (OkL.cons (fun a w_ X_ h => g_ld3 (wanted_some rfl rfl h.1) rfl h.2.1 rfl)
              (OkL.cons (fun a w_ X_ h => g_cI (wanted_some rfl rfl h.1) rfl rfl h.2.1 rfl (neq_bv _ _))
              (OkL.cons (fun a w_ X_ h => g_eqb (wanted_some rfl rfl h.1) rfl h.2.1 h.2.2.1 (beq_b _))
              (OkL.cons (fun a w_ X_ h => g_pick (wanted_none rfl) rfl h.1 h.2.1)
              (OkL.cons (fun a w_ X_ h => g_move (wanted_none rfl) (.inl rfl) h.1)
              (OkL.cons (fun a w_ X_ h => g_call0 (wanted_some rfl rfl h.1) (by kernel_rfl) rfl (h_awake))
              (OkL.cons (fun a w_ X_ h => g_pick (wanted_none rfl) rfl h.1 h.2.1)
              (OkL.cons (fun a w_ X_ h => g_move (wanted_none rfl) (.inr rfl) h.1)
              OkL.nil))))))))))))))))))))) ?_
          rintro w9 X9 _ rfl _ rfl _ rfl _ rfl _ rfl _ rfl _ rfl _ rfl _ rfl _ rfl _ rfl _ rfl v41 - _ rfl _ rfl _ rfl _ rfl _ rfl _ rfl _ rfl _ rfl
          refine FinL.done ?_
          simp only [Act.put, List.setIfInBounds_toArray, List.set_cons_zero, List.set_cons_succ]
          replace HB := hide (Below.chain HB.out X9)
          clear X9
          go_wp2
          go_ret
          exact ⟨rfl, HB.out⟩
        · by_cases h4 : t.k = 4
          · have d2 : (t.k == 2) = false := by simpa using h2
            have d4 : (t.k == 4) = true := by simpa using h4
            have HK := hide (show t.k = 2 ∨ t.k = 4 ∨ t.k = 6 from .inr (.inl h4))
            clear h2 h4
            have HVq := hide (HVt.out.ext (alloc_below wm (.cells #[.int .i64 t.k, .int .i64 t.n, .string t.s, .slice a1 t.l.length c1] 24)))
            have HM := hide (And.intro (may_s HK.out) (And.intro (cp_s (may_empty HK.out HMT.out)) (fix_may HMT.out)))
            have bx := alloc_below wm (.cells #[.int .i64 (Tm.mk t.k t.n ⟨#[97]⟩ t.l).k, .int .i64 (Tm.mk t.k t.n ⟨#[97]⟩ t.l).n, .string (Tm.mk t.k t.n ⟨#[97]⟩ t.l).s, .slice a1 (Tm.mk t.k t.n ⟨#[97]⟩ t.l).l.length c1] 24)
            have HVu := hide (VarT.new (t := (Tm.mk t.k t.n ⟨#[97]⟩ t.l)) (g := wm.heap.size) (LAt.term (t := (Tm.mk t.k t.n ⟨#[97]⟩ t.l)) HVt.out.2.list ⟨HVt.out.2.fits.1, HVt.out.2.fits.2.1, (show (1 : Nat) ≤ 9223372036854775807 by decide), HVt.out.2.fits.2.2.2⟩) rfl)
            replace HB := hide (Below.chain HB.out bx)
            replace HVt := hide (HVt.out.ext bx)
            clear bx HMT
            have qn : (wm.alloc (.cells #[.int .i64 t.k, .int .i64 t.n, .string t.s, .slice a1 t.l.length c1] 24)).cell? ⟨w.heap.size, 0, none⟩ = some (.int .i64 t.k) := HVq.out.q.1
            clear HVq
            go_wp2_with fail
            clear q0 q1 q2 q3 qn
            refine wp_region_typed (tys := fun ix_ => List.getD [itp (Tm.mk t.k t.n ⟨#[97]⟩ t.l) a1 c1, isv (tv (Tm.mk t.k t.n ⟨#[97]⟩ t.l) a1 c1), isv (.bool false), isv (.bool true), itp t a1 c1, isv (tv t a1 c1), isv (.bool (t.k != 1)), icp (.int .i64 t.k), isv (.int .i64 t.k)] ix_ anyv) (pre := [(2, 4), (5, 0)])
              (plan := [([(5, 0)], 1), ([(29, 1)], 2), ([(30, 2)], 3), ([(31, 3)], 3), ([(32, 3), (2, 4)], 5), ([(32, 3), (5, 0)], 1), ([(32, 3), (33, 5), (34, 1)], 2), ([(32, 3), (35, 2)], 3), ([(32, 3), (36, 3)], 3), ([(37, 3)], 3), ([(38, 3), (2, 4)], 5), ([(38, 3), (39, 5)], 6), ([(38, 3), (2, 4)], 7), ([(38, 3), (41, 7)], 8), ([(38, 3), (42, 8)], 6), ([(38, 3), (40, 6), (43, 6)], 3), ([(38, 3), (44, 3)], 3), ([(45, 3)], 3), ([(46, 3)], 3), ([(46, 3), (47, 3)], 3), ([(48, 3)], 3)])
              (by kernel_rfl) 49 (by kernel_rfl) rfl ⟨HVt.out.itp, ⟨HVu.out.itp, trivial⟩⟩
                (OkL.cons (fun a w_ X_ h => g_ldt (wanted_none rfl) rfl h.1 rfl)
                (OkL.cons (fun a w_ X_ h => g_call1 (wanted_none rfl) (by kernel_rfl) rfl (h_mayM h.1 (HVu.out.2.ext X_) HM.out.1))
                (OkL.cons (fun a w_ X_ h => g_not (wanted_none rfl) rfl h.1 rfl)
                (OkL.cons (fun a w_ X_ h => g_move (wanted_none rfl) (.inl rfl) h.1)
                (OkL.cons (fun a w_ X_ h => g_ldt (wanted_some rfl rfl h.1) rfl h.2.1 rfl)
                (OkL.cons (fun a w_ X_ h => g_ldt (wanted_some rfl rfl h.1) rfl h.2.1 rfl)
                (OkL.cons (fun a w_ X_ h => g_call2 (wanted_some rfl rfl h.1) (by kernel_rfl) rfl (h_sameB h.2.1 h.2.2.1 (HVt.out.2.ext X_) (HVu.out.2.ext X_) HM.out.2.1))
                (OkL.cons (fun a w_ X_ h => g_not (wanted_some rfl rfl h.1) rfl h.2.1 rfl)
                (OkL.cons (fun a w_ X_ h => g_pick (wanted_none rfl) rfl h.1 h.2.1)
                (OkL.cons (fun a w_ X_ h => g_move (wanted_none rfl) (.inl rfl) h.1)
                (OkL.cons (fun a w_ X_ h => g_ldt (wanted_some rfl rfl h.1) rfl h.2.1 rfl)
                (OkL.cons (fun a w_ X_ h => g_call1 (wanted_some rfl rfl h.1) (by kernel_rfl) rfl (h_fixM h.2.1 (HVt.out.2.ext X_) HM.out.2.2))
                (OkL.cons (fun a w_ X_ h => g_fa0 (wanted_some rfl rfl h.1) rfl h.2.1)
                (OkL.cons (fun a w_ X_ h => g_ld3 (wanted_some rfl rfl h.1) rfl h.2.1 rfl)
                (OkL.cons (fun a w_ X_ h => g_cI (wanted_some rfl rfl h.1) rfl rfl h.2.1 rfl (neq_bv _ _))
                (OkL.cons (fun a w_ X_ h => g_eqb (wanted_some rfl rfl h.1) rfl h.2.1 h.2.2.1 (beq_b _))
                (OkL.cons (fun a w_ X_ h => g_pick (wanted_none rfl) rfl h.1 h.2.1)
                (OkL.cons (fun a w_ X_ h => g_move (wanted_none rfl) (.inl rfl) h.1)
                (OkL.cons (fun a w_ X_ h => g_call0 (wanted_some rfl rfl h.1) (by kernel_rfl) rfl (h_awake))
                (OkL.cons (fun a w_ X_ h => g_pick (wanted_none rfl) rfl h.1 h.2.1)
                (OkL.cons (fun a w_ X_ h => g_move (wanted_none rfl) (.inr rfl) h.1)
                OkL.nil))))))))))))))))))))) ?_
            rintro w9 X9 _ rfl _ rfl _ rfl _ rfl _ rfl _ rfl _ rfl _ rfl _ rfl _ rfl _ rfl _ rfl v41 - _ rfl _ rfl _ rfl _ rfl _ rfl _ rfl _ rfl _ rfl
            refine FinL.done ?_
            simp only [Act.put, List.setIfInBounds_toArray, List.set_cons_zero, List.set_cons_succ]
            replace HB := hide (Below.chain HB.out X9)
            clear X9
            go_wp2
            go_ret
            exact ⟨rfl, HB.out⟩
          · by_cases h6 : t.k = 6
            · have d2 : (t.k == 2) = false := by simpa using h2
              have d4 : (t.k == 4) = false := by simpa using h4
              have d6 : (t.k == 6) = true := by simpa using h6
              have HK := hide (show t.k = 2 ∨ t.k = 4 ∨ t.k = 6 from .inr (.inr h6))
              clear h2 h4 h6
              have HVq := hide (HVt.out.ext (alloc_below wm (.cells #[.int .i64 t.k, .int .i64 t.n, .string t.s, .slice a1 t.l.length c1] 24)))
              have HM := hide (And.intro (may_s HK.out) (And.intro (cp_s (may_empty HK.out HMT.out)) (fix_may HMT.out)))
              have bx := alloc_below wm (.cells #[.int .i64 (Tm.mk t.k t.n ⟨#[97]⟩ t.l).k, .int .i64 (Tm.mk t.k t.n ⟨#[97]⟩ t.l).n, .string (Tm.mk t.k t.n ⟨#[97]⟩ t.l).s, .slice a1 (Tm.mk t.k t.n ⟨#[97]⟩ t.l).l.length c1] 24)
              have HVu := hide (VarT.new (t := (Tm.mk t.k t.n ⟨#[97]⟩ t.l)) (g := wm.heap.size) (LAt.term (t := (Tm.mk t.k t.n ⟨#[97]⟩ t.l)) HVt.out.2.list ⟨HVt.out.2.fits.1, HVt.out.2.fits.2.1, (show (1 : Nat) ≤ 9223372036854775807 by decide), HVt.out.2.fits.2.2.2⟩) rfl)
              replace HB := hide (Below.chain HB.out bx)
              replace HVt := hide (HVt.out.ext bx)
              clear bx HMT
              have qn : (wm.alloc (.cells #[.int .i64 t.k, .int .i64 t.n, .string t.s, .slice a1 t.l.length c1] 24)).cell? ⟨w.heap.size, 0, none⟩ = some (.int .i64 t.k) := HVq.out.q.1
              clear HVq
              go_wp2_with fail
              clear q0 q1 q2 q3 qn
              refine wp_region_typed (tys := fun ix_ => List.getD [itp (Tm.mk t.k t.n ⟨#[97]⟩ t.l) a1 c1, isv (tv (Tm.mk t.k t.n ⟨#[97]⟩ t.l) a1 c1), isv (.bool false), isv (.bool true), itp t a1 c1, isv (tv t a1 c1), isv (.bool (t.k != 1)), icp (.int .i64 t.k), isv (.int .i64 t.k)] ix_ anyv) (pre := [(2, 4), (5, 0)])
                (plan := [([(5, 0)], 1), ([(29, 1)], 2), ([(30, 2)], 3), ([(31, 3)], 3), ([(32, 3), (2, 4)], 5), ([(32, 3), (5, 0)], 1), ([(32, 3), (33, 5), (34, 1)], 2), ([(32, 3), (35, 2)], 3), ([(32, 3), (36, 3)], 3), ([(37, 3)], 3), ([(38, 3), (2, 4)], 5), ([(38, 3), (39, 5)], 6), ([(38, 3), (2, 4)], 7), ([(38, 3), (41, 7)], 8), ([(38, 3), (42, 8)], 6), ([(38, 3), (40, 6), (43, 6)], 3), ([(38, 3), (44, 3)], 3), ([(45, 3)], 3), ([(46, 3)], 3), ([(46, 3), (47, 3)], 3), ([(48, 3)], 3)])
                (by kernel_rfl) 49 (by kernel_rfl) rfl ⟨HVt.out.itp, ⟨HVu.out.itp, trivial⟩⟩
                  (OkL.cons (fun a w_ X_ h => g_ldt (wanted_none rfl) rfl h.1 rfl)
                  (OkL.cons (fun a w_ X_ h => g_call1 (wanted_none rfl) (by kernel_rfl) rfl (h_mayM h.1 (HVu.out.2.ext X_) HM.out.1))
                  (OkL.cons (fun a w_ X_ h => g_not (wanted_none rfl) rfl h.1 rfl)
                  (OkL.cons (fun a w_ X_ h => g_move (wanted_none rfl) (.inl rfl) h.1)
                  (OkL.cons (fun a w_ X_ h => g_ldt (wanted_some rfl rfl h.1) rfl h.2.1 rfl)
                  (OkL.cons (fun a w_ X_ h => g_ldt (wanted_some rfl rfl h.1) rfl h.2.1 rfl)
                  (OkL.cons (fun a w_ X_ h => g_call2 (wanted_some rfl rfl h.1) (by kernel_rfl) rfl (h_sameB h.2.1 h.2.2.1 (HVt.out.2.ext X_) (HVu.out.2.ext X_) HM.out.2.1))
                  (OkL.cons (fun a w_ X_ h => g_not (wanted_some rfl rfl h.1) rfl h.2.1 rfl)
                  (OkL.cons (fun a w_ X_ h => g_pick (wanted_none rfl) rfl h.1 h.2.1)
                  (OkL.cons (fun a w_ X_ h => g_move (wanted_none rfl) (.inl rfl) h.1)
                  (OkL.cons (fun a w_ X_ h => g_ldt (wanted_some rfl rfl h.1) rfl h.2.1 rfl)
                  (OkL.cons (fun a w_ X_ h => g_call1 (wanted_some rfl rfl h.1) (by kernel_rfl) rfl (h_fixM h.2.1 (HVt.out.2.ext X_) HM.out.2.2))
                  (OkL.cons (fun a w_ X_ h => g_fa0 (wanted_some rfl rfl h.1) rfl h.2.1)
                  (OkL.cons (fun a w_ X_ h => g_ld3 (wanted_some rfl rfl h.1) rfl h.2.1 rfl)
                  (OkL.cons (fun a w_ X_ h => g_cI (wanted_some rfl rfl h.1) rfl rfl h.2.1 rfl (neq_bv _ _))
                  (OkL.cons (fun a w_ X_ h => g_eqb (wanted_some rfl rfl h.1) rfl h.2.1 h.2.2.1 (beq_b _))
                  (OkL.cons (fun a w_ X_ h => g_pick (wanted_none rfl) rfl h.1 h.2.1)
                  (OkL.cons (fun a w_ X_ h => g_move (wanted_none rfl) (.inl rfl) h.1)
                  (OkL.cons (fun a w_ X_ h => g_call0 (wanted_some rfl rfl h.1) (by kernel_rfl) rfl (h_awake))
                  (OkL.cons (fun a w_ X_ h => g_pick (wanted_none rfl) rfl h.1 h.2.1)
                  (OkL.cons (fun a w_ X_ h => g_move (wanted_none rfl) (.inr rfl) h.1)
                  OkL.nil))))))))))))))))))))) ?_
              rintro w9 X9 _ rfl _ rfl _ rfl _ rfl _ rfl _ rfl _ rfl _ rfl _ rfl _ rfl _ rfl _ rfl v41 - _ rfl _ rfl _ rfl _ rfl _ rfl _ rfl _ rfl _ rfl
              refine FinL.done ?_
              simp only [Act.put, List.setIfInBounds_toArray, List.set_cons_zero, List.set_cons_succ]
              replace HB := hide (Below.chain HB.out X9)
              clear X9
              go_wp2
              go_ret
              exact ⟨rfl, HB.out⟩
            · have d2 : (t.k == 2) = false := by simpa using h2
              have d4 : (t.k == 4) = false := by simpa using h4
              have d6 : (t.k == 6) = false := by simpa using h6
              have HK := hide (And.intro (may_n (n := n) h2 h4 h6 HN.out) (cp_n (may_zero h2 h4 h6 HMT.out) HN.out))
              clear h2 h4 h6
              have HVq := hide (HVt.out.ext (alloc_below wm (.cells #[.int .i64 t.k, .int .i64 t.n, .string t.s, .slice a1 t.l.length c1] 24)))
              have HM := hide (And.intro (HK.out.1) (And.intro (HK.out.2) (fix_may HMT.out)))
              have bx := alloc_below wm (.cells #[.int .i64 (Tm.mk t.k n t.s t.l).k, .int .i64 (Tm.mk t.k n t.s t.l).n, .string (Tm.mk t.k n t.s t.l).s, .slice a1 (Tm.mk t.k n t.s t.l).l.length c1] 24)
              have HVu := hide (VarT.new (t := (Tm.mk t.k n t.s t.l)) (g := wm.heap.size) (LAt.term (t := (Tm.mk t.k n t.s t.l)) HVt.out.2.list ⟨HVt.out.2.fits.1, hn, HVt.out.2.fits.2.2.1, HVt.out.2.fits.2.2.2⟩) rfl)
              replace HB := hide (Below.chain HB.out bx)
              replace HVt := hide (HVt.out.ext bx)
              clear bx HMT
              have qn : (wm.alloc (.cells #[.int .i64 t.k, .int .i64 t.n, .string t.s, .slice a1 t.l.length c1] 24)).cell? ⟨w.heap.size, 0, none⟩ = some (.int .i64 t.k) := HVq.out.q.1
              clear HVq
              go_wp2_with fail
              clear q0 q1 q2 q3 qn
              refine wp_region_typed (tys := fun ix_ => List.getD [itp (Tm.mk t.k n t.s t.l) a1 c1, isv (tv (Tm.mk t.k n t.s t.l) a1 c1), isv (.bool false), isv (.bool true), itp t a1 c1, isv (tv t a1 c1), isv (.bool (t.k != 1)), icp (.int .i64 t.k), isv (.int .i64 t.k)] ix_ anyv) (pre := [(2, 4), (5, 0)])
                (plan := [([(5, 0)], 1), ([(29, 1)], 2), ([(30, 2)], 3), ([(31, 3)], 3), ([(32, 3), (2, 4)], 5), ([(32, 3), (5, 0)], 1), ([(32, 3), (33, 5), (34, 1)], 2), ([(32, 3), (35, 2)], 3), ([(32, 3), (36, 3)], 3), ([(37, 3)], 3), ([(38, 3), (2, 4)], 5), ([(38, 3), (39, 5)], 6), ([(38, 3), (2, 4)], 7), ([(38, 3), (41, 7)], 8), ([(38, 3), (42, 8)], 6), ([(38, 3), (40, 6), (43, 6)], 3), ([(38, 3), (44, 3)], 3), ([(45, 3)], 3), ([(46, 3)], 3), ([(46, 3), (47, 3)], 3), ([(48, 3)], 3)])
                (by kernel_rfl) 49 (by kernel_rfl) rfl ⟨HVt.out.itp, ⟨HVu.out.itp, trivial⟩⟩
                  (OkL.cons (fun a w_ X_ h => g_ldt (wanted_none rfl) rfl h.1 rfl)
                  (OkL.cons (fun a w_ X_ h => g_call1 (wanted_none rfl) (by kernel_rfl) rfl (h_mayM h.1 (HVu.out.2.ext X_) HM.out.1))
                  (OkL.cons (fun a w_ X_ h => g_not (wanted_none rfl) rfl h.1 rfl)
                  (OkL.cons (fun a w_ X_ h => g_move (wanted_none rfl) (.inl rfl) h.1)
                  (OkL.cons (fun a w_ X_ h => g_ldt (wanted_some rfl rfl h.1) rfl h.2.1 rfl)
                  (OkL.cons (fun a w_ X_ h => g_ldt (wanted_some rfl rfl h.1) rfl h.2.1 rfl)
                  (OkL.cons (fun a w_ X_ h => g_call2 (wanted_some rfl rfl h.1) (by kernel_rfl) rfl (h_sameB h.2.1 h.2.2.1 (HVt.out.2.ext X_) (HVu.out.2.ext X_) HM.out.2.1))
                  (OkL.cons (fun a w_ X_ h => g_not (wanted_some rfl rfl h.1) rfl h.2.1 rfl)
                  (OkL.cons (fun a w_ X_ h => g_pick (wanted_none rfl) rfl h.1 h.2.1)
                  (OkL.cons (fun a w_ X_ h => g_move (wanted_none rfl) (.inl rfl) h.1)
                  (OkL.cons (fun a w_ X_ h => g_ldt (wanted_some rfl rfl h.1) rfl h.2.1 rfl)
                  (OkL.cons (fun a w_ X_ h => g_call1 (wanted_some rfl rfl h.1) (by kernel_rfl) rfl (h_fixM h.2.1 (HVt.out.2.ext X_) HM.out.2.2))
                  (OkL.cons (fun a w_ X_ h => g_fa0 (wanted_some rfl rfl h.1) rfl h.2.1)
                  (OkL.cons (fun a w_ X_ h => g_ld3 (wanted_some rfl rfl h.1) rfl h.2.1 rfl)
                  (OkL.cons (fun a w_ X_ h => g_cI (wanted_some rfl rfl h.1) rfl rfl h.2.1 rfl (neq_bv _ _))
                  (OkL.cons (fun a w_ X_ h => g_eqb (wanted_some rfl rfl h.1) rfl h.2.1 h.2.2.1 (beq_b _))
                  (OkL.cons (fun a w_ X_ h => g_pick (wanted_none rfl) rfl h.1 h.2.1)
                  (OkL.cons (fun a w_ X_ h => g_move (wanted_none rfl) (.inl rfl) h.1)
                  (OkL.cons (fun a w_ X_ h => g_call0 (wanted_some rfl rfl h.1) (by kernel_rfl) rfl (h_awake))
                  (OkL.cons (fun a w_ X_ h => g_pick (wanted_none rfl) rfl h.1 h.2.1)
                  (OkL.cons (fun a w_ X_ h => g_move (wanted_none rfl) (.inr rfl) h.1)
                  OkL.nil))))))))))))))))))))) ?_
              rintro w9 X9 _ rfl _ rfl _ rfl _ rfl _ rfl _ rfl _ rfl _ rfl _ rfl _ rfl _ rfl _ rfl v41 - _ rfl _ rfl _ rfl _ rfl _ rfl _ rfl _ rfl _ rfl
              refine FinL.done ?_
              simp only [Act.put, List.setIfInBounds_toArray, List.set_cons_zero, List.set_cons_succ]
              replace HB := hide (Below.chain HB.out X9)
              clear X9
              go_wp2
              go_ret
              exact ⟨rfl, HB.out⟩
end Go.Proofs.Ytgadglpbbcapcaa
