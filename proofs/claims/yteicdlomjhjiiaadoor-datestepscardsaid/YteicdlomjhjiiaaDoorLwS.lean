/- DateSteps: the law's call answers true. -/
import Derived.Test.YteicdlomjhjiiaaDoorLw0
namespace Go.Proofs.YteicdlomjhjiiaaDoor
open Go.RowKit
theorem dv_yes {y m d : Int} (h : isD y m d = true) : dv y m d = dn y m d := by unfold dv; rw [if_pos h]
theorem dv_no {y m d : Int} (h : isD y m d = false) : dv y m d = 0 := by unfold dv; rw [h]; rfl
theorem at_28 {y m d : Int} (y0 : 0 ≤ y) (y1 : y ≤ 9999) (m0 : 1 ≤ m) (m1 : m ≤ 12) (d0 : 1 ≤ d) (h : isD y m d = false) : 28 < d ∧ isD y m 28 = true := by
  have b := md_le y m
  refine ⟨?_, (isD_iff _ _ _).2 ⟨y0, y1, m0, m1, by omega, by omega⟩⟩
  have h2 := of_decide_eq_false h
  omega
theorem next_day (y m d : Int) : dn y m (d + 1) = dn y m d + 1 := by unfold dn; omega
theorem next_month {y m d : Int} (h : isD y m d = true) (h1 : isD y m (d + 1) = false) (h2 : isD y (m + 1) 1 = true) : dn y (m + 1) 1 = dn y m d + 1 := by
  obtain ⟨a, b, c, e, f, g⟩ := (isD_iff y m d).1 h
  have k := of_decide_eq_false h1
  obtain ⟨j, hj⟩ : ∃ j : Nat, (m - 1).toNat = j := ⟨_, rfl⟩
  have hm : m = (j : Int) + 1 := by omega
  subst hm
  have hj2 : ((j : Int) + 1 + 1 - 1).toNat = j + 1 := by omega
  have q : cu y (j + 1) = cu y j + md y ((j : Int) + 1) := rfl
  unfold dn
  rw [hj, hj2]
  omega
theorem next_year {y m d : Int} (h : isD y m d = true) (h1 : isD y m (d + 1) = false) (h2 : isD y (m + 1) 1 = false) : ah (y + 1) - 719528 = dn y m d + 1 := by
  obtain ⟨a, b, c, e, f, g⟩ := (isD_iff y m d).1 h
  have k := of_decide_eq_false h1
  have k2 := of_decide_eq_false h2
  have l := md_le y (m + 1)
  have hm : m = 12 := by omega
  subst hm
  have hn := ah_next a b
  rw [← cu12] at hn
  have q : cu y 12 = cu y 11 + md y 12 := rfl
  have t : ((12 : Int) - 1).toNat = 11 := rfl
  unfold dn
  rw [t]
  omega
theorem jan_1 (y : Int) (h0 : 0 ≤ y) (h1 : y ≤ 9999) : dv y 1 1 = ah y - 719528 ∧ isD y 1 1 = true := by
  have hI : isD y 1 1 = true := by
    rw [isD_iff]
    have := md_le y 1
    exact ⟨h0, h1, by omega, by omega, by omega, by omega⟩
  refine ⟨?_, hI⟩
  rw [dv_yes hI]
  unfold dn
  have : cu y (1 - 1 : Int).toNat = 0 := rfl
  rw [this]
  omega
set_option maxRecDepth 100000 in
set_option maxHeartbeats 4000000 in
theorem steps_walk {y0 m0 d0 : Int} {w : World} (hT : TabP w) : Calls Tryd.prog 5 #[.int .i64 y0, .int .i64 m0, .int .i64 d0] w (Yes w) := by
  obtain ⟨k, hk, hkl⟩ : ∃ k : Nat, wrap64 ((IntKind.u64.wrap y0).tmod 9999) = (k : Int) ∧ k < 9999 := mod_at y0 (by decide) (by decide)
  obtain ⟨i, hi, hil⟩ : ∃ k : Nat, wrap64 ((IntKind.u64.wrap m0).tmod 12) = (k : Int) ∧ k < 12 := mod_at m0 (by decide) (by decide)
  obtain ⟨j, hj, hjl⟩ : ∃ k : Nat, wrap64 ((IntKind.u64.wrap d0).tmod 31) = (k : Int) ∧ k < 31 := mod_at d0 (by decide) (by decide)
  obtain ⟨y, hy⟩ : ∃ y : Int, (k : Int) = y := ⟨_, rfl⟩
  obtain ⟨m, hm⟩ : ∃ m : Int, 1 + (i : Int) = m := ⟨_, rfl⟩
  obtain ⟨d, hd⟩ : ∃ d : Int, 1 + (j : Int) = d := ⟨_, rfl⟩
  have wm : wrap64 m = m := by unfold wrap64; omega
  have wd : wrap64 d = d := by unfold wrap64; omega
  have HC := hide (And.intro hk (And.intro hi hj))
  have HD := hide (And.intro hy (And.intro hm (And.intro hd (And.intro wm wd))))
  have y1 : 0 ≤ y ∧ y ≤ 9998 := by omega
  have m1 : 1 ≤ m ∧ m ≤ 12 := by omega
  have d1 : 1 ≤ d ∧ d ≤ 31 := by omega
  clear hk hi hj hy hm hd hkl hil hjl wm wd
  have H1 := hide (Tells.says (Days_any y m d))
  have H2 := hide (Tells.says (Days_any y m 28))
  have H3 := hide (Tells.says (Days_any y m (d + 1)))
  have H4 := hide (Tells.says (Days_any y (m + 1) 1))
  have H5 := hide (Tells.says (Days_any (y + 1) 1 1))
  have H6 := hide (Tells.says (Days_any y 1 1))
  have H7 := hide (Tells.says (Leap_any y))
  unfold dayV at H1 H2 H3 H4 H5 H6
  rw [(jan_1 y (by omega) (by omega)).1, (jan_1 y (by omega) (by omega)).2] at H6
  rw [(jan_1 (y + 1) (by omega) (by omega)).1, (jan_1 (y + 1) (by omega) (by omega)).2] at H5
  have hn := ah_next (y := y) (by omega) (by omega)
  have a0 := ah_mono (y := 0) (z := y) (by omega)
  have a1 := ah_mono (y := y) (z := 10000) (by omega)
  have a2 : ah 0 = 0 := by decide
  have a3 : ah 10000 = 3652425 := by decide
  cases hb : isD y m d with
  | false =>
    obtain ⟨q1, q2⟩ := at_28 y1.1 (by omega) m1.1 m1.2 d1.1 hb
    rw [hb] at H1
    rw [q2] at H2
    have g : decide ((28 : Int) < d) = true := decide_eq_true q1
    generalize dv y m d = v1 at *
    generalize dv y m 28 = v2 at *
    have HB := hide (Below.refl w.heap.size w)
    have HT := hide hT
    clear hT
    go_enter Tryd.func5, Tryd.ntmps5
    go_wp2_with fail
    rw [HC.out.1, HC.out.2.1, HC.out.2.2, HD.out.1, HD.out.2.1, HD.out.2.2.1, HD.out.2.2.2.1, HD.out.2.2.2.2]
    with_reducible refine (H1.out _).mono ?_
    rintro e_ w1 ⟨rfl, b_⟩
    replace HT := hide (TabP.ext HT.out b_)
    replace HB := hide (Below.chain HB.out b_)
    clear b_
    go_wp2_with fail
    with_reducible refine (H2.out _).mono ?_
    rintro e_ w2 ⟨rfl, b_⟩
    replace HT := hide (TabP.ext HT.out b_)
    replace HB := hide (Below.chain HB.out b_)
    clear b_
    go_wp2_with fail
    with_reducible refine (awake_any _ HT.out).mono ?_
    rintro e_ w3 ⟨rfl, b_⟩
    replace HT := hide (TabP.ext HT.out b_)
    replace HB := hide (Below.chain HB.out b_)
    clear b_
    go_wp2
    go_ret
    exact ⟨by try rfl, HB.out⟩
  | true =>
    have bn := dn_bound hb
    rw [hb, dv_yes hb] at H1
    cases hc : isD y m (d + 1) with
    | true =>
      rw [hc, dv_yes hc, next_day y m d] at H3
      generalize dn y m d = N at *
      cases hl : lp y with
      | false =>
        rw [hl] at H7 hn
        have hn2 : ah (y + 1) - 719528 = ah y - 719528 + 365 := by rw [hn, if_neg Bool.false_ne_true]; omega
        rw [hn2] at H5
        generalize hA : ah y - 719528 = A at *
        have A0 : -719528 ≤ A ∧ A ≤ 2932897 := by omega
        clear hn hn2 a0 a1 a2 a3 hA
        have HB := hide (Below.refl w.heap.size w)
        have HT := hide hT
        clear hT
        go_enter Tryd.func5, Tryd.ntmps5
        go_wp2_with fail
        rw [HC.out.1, HC.out.2.1, HC.out.2.2, HD.out.1, HD.out.2.1, HD.out.2.2.1, HD.out.2.2.2.1, HD.out.2.2.2.2]
        with_reducible refine (H1.out _).mono ?_
        rintro e_ w1 ⟨rfl, b_⟩
        replace HT := hide (TabP.ext HT.out b_)
        replace HB := hide (Below.chain HB.out b_)
        clear b_
        go_wp2_with fail
        with_reducible refine (H3.out _).mono ?_
        rintro e_ w2 ⟨rfl, b_⟩
        replace HT := hide (TabP.ext HT.out b_)
        replace HB := hide (Below.chain HB.out b_)
        clear b_
        go_wp2_with fail
        with_reducible refine (H6.out _).mono ?_
        rintro e_ w3 ⟨rfl, b_⟩
        replace HT := hide (TabP.ext HT.out b_)
        replace HB := hide (Below.chain HB.out b_)
        clear b_
        go_wp2_with fail
        with_reducible refine (H5.out _).mono ?_
        rintro e_ w4 ⟨rfl, b_⟩
        replace HT := hide (TabP.ext HT.out b_)
        replace HB := hide (Below.chain HB.out b_)
        clear b_
        go_wp2_with fail
        with_reducible refine (H7.out _).mono ?_
        rintro e_ w5 ⟨rfl, b_⟩
        replace HT := hide (TabP.ext HT.out b_)
        replace HB := hide (Below.chain HB.out b_)
        clear b_
        go_wp2_with fail
        with_reducible refine (awake_any _ HT.out).mono ?_
        rintro e_ w6 ⟨rfl, b_⟩
        replace HT := hide (TabP.ext HT.out b_)
        replace HB := hide (Below.chain HB.out b_)
        clear b_
        go_wp2
        go_ret
        exact ⟨by try rfl, HB.out⟩
      | true =>
        rw [hl] at H7 hn
        have hn2 : ah (y + 1) - 719528 = ah y - 719528 + 366 := by rw [hn, if_pos rfl]; omega
        rw [hn2] at H5
        generalize hA : ah y - 719528 = A at *
        have A0 : -719528 ≤ A ∧ A ≤ 2932897 := by omega
        clear hn hn2 a0 a1 a2 a3 hA
        have HB := hide (Below.refl w.heap.size w)
        have HT := hide hT
        clear hT
        go_enter Tryd.func5, Tryd.ntmps5
        go_wp2_with fail
        rw [HC.out.1, HC.out.2.1, HC.out.2.2, HD.out.1, HD.out.2.1, HD.out.2.2.1, HD.out.2.2.2.1, HD.out.2.2.2.2]
        with_reducible refine (H1.out _).mono ?_
        rintro e_ w1 ⟨rfl, b_⟩
        replace HT := hide (TabP.ext HT.out b_)
        replace HB := hide (Below.chain HB.out b_)
        clear b_
        go_wp2_with fail
        with_reducible refine (H3.out _).mono ?_
        rintro e_ w2 ⟨rfl, b_⟩
        replace HT := hide (TabP.ext HT.out b_)
        replace HB := hide (Below.chain HB.out b_)
        clear b_
        go_wp2_with fail
        with_reducible refine (H6.out _).mono ?_
        rintro e_ w3 ⟨rfl, b_⟩
        replace HT := hide (TabP.ext HT.out b_)
        replace HB := hide (Below.chain HB.out b_)
        clear b_
        go_wp2_with fail
        with_reducible refine (H5.out _).mono ?_
        rintro e_ w4 ⟨rfl, b_⟩
        replace HT := hide (TabP.ext HT.out b_)
        replace HB := hide (Below.chain HB.out b_)
        clear b_
        go_wp2_with fail
        with_reducible refine (H7.out _).mono ?_
        rintro e_ w5 ⟨rfl, b_⟩
        replace HT := hide (TabP.ext HT.out b_)
        replace HB := hide (Below.chain HB.out b_)
        clear b_
        go_wp2_with fail
        with_reducible refine (awake_any _ HT.out).mono ?_
        rintro e_ w6 ⟨rfl, b_⟩
        replace HT := hide (TabP.ext HT.out b_)
        replace HB := hide (Below.chain HB.out b_)
        clear b_
        go_wp2
        go_ret
        exact ⟨by try rfl, HB.out⟩
    | false =>
      rw [hc] at H3
      generalize dv y m (d + 1) = v3 at *
      cases he : isD y (m + 1) 1 with
      | true =>
        rw [he, dv_yes he, next_month hb hc he] at H4
        generalize dn y m d = N at *
        cases hl : lp y with
        | false =>
          rw [hl] at H7 hn
          have hn2 : ah (y + 1) - 719528 = ah y - 719528 + 365 := by rw [hn, if_neg Bool.false_ne_true]; omega
          rw [hn2] at H5
          generalize hA : ah y - 719528 = A at *
          have A0 : -719528 ≤ A ∧ A ≤ 2932897 := by omega
          clear hn hn2 a0 a1 a2 a3 hA
          have HB := hide (Below.refl w.heap.size w)
          have HT := hide hT
          clear hT
          go_enter Tryd.func5, Tryd.ntmps5
          go_wp2_with fail
          rw [HC.out.1, HC.out.2.1, HC.out.2.2, HD.out.1, HD.out.2.1, HD.out.2.2.1, HD.out.2.2.2.1, HD.out.2.2.2.2]
          with_reducible refine (H1.out _).mono ?_
          rintro e_ w1 ⟨rfl, b_⟩
          replace HT := hide (TabP.ext HT.out b_)
          replace HB := hide (Below.chain HB.out b_)
          clear b_
          go_wp2_with fail
          with_reducible refine (H3.out _).mono ?_
          rintro e_ w2 ⟨rfl, b_⟩
          replace HT := hide (TabP.ext HT.out b_)
          replace HB := hide (Below.chain HB.out b_)
          clear b_
          go_wp2_with fail
          with_reducible refine (H4.out _).mono ?_
          rintro e_ w3 ⟨rfl, b_⟩
          replace HT := hide (TabP.ext HT.out b_)
          replace HB := hide (Below.chain HB.out b_)
          clear b_
          go_wp2_with fail
          with_reducible refine (H6.out _).mono ?_
          rintro e_ w4 ⟨rfl, b_⟩
          replace HT := hide (TabP.ext HT.out b_)
          replace HB := hide (Below.chain HB.out b_)
          clear b_
          go_wp2_with fail
          with_reducible refine (H5.out _).mono ?_
          rintro e_ w5 ⟨rfl, b_⟩
          replace HT := hide (TabP.ext HT.out b_)
          replace HB := hide (Below.chain HB.out b_)
          clear b_
          go_wp2_with fail
          with_reducible refine (H7.out _).mono ?_
          rintro e_ w6 ⟨rfl, b_⟩
          replace HT := hide (TabP.ext HT.out b_)
          replace HB := hide (Below.chain HB.out b_)
          clear b_
          go_wp2_with fail
          with_reducible refine (awake_any _ HT.out).mono ?_
          rintro e_ w7 ⟨rfl, b_⟩
          replace HT := hide (TabP.ext HT.out b_)
          replace HB := hide (Below.chain HB.out b_)
          clear b_
          go_wp2
          go_ret
          exact ⟨by try rfl, HB.out⟩
        | true =>
          rw [hl] at H7 hn
          have hn2 : ah (y + 1) - 719528 = ah y - 719528 + 366 := by rw [hn, if_pos rfl]; omega
          rw [hn2] at H5
          generalize hA : ah y - 719528 = A at *
          have A0 : -719528 ≤ A ∧ A ≤ 2932897 := by omega
          clear hn hn2 a0 a1 a2 a3 hA
          have HB := hide (Below.refl w.heap.size w)
          have HT := hide hT
          clear hT
          go_enter Tryd.func5, Tryd.ntmps5
          go_wp2_with fail
          rw [HC.out.1, HC.out.2.1, HC.out.2.2, HD.out.1, HD.out.2.1, HD.out.2.2.1, HD.out.2.2.2.1, HD.out.2.2.2.2]
          with_reducible refine (H1.out _).mono ?_
          rintro e_ w1 ⟨rfl, b_⟩
          replace HT := hide (TabP.ext HT.out b_)
          replace HB := hide (Below.chain HB.out b_)
          clear b_
          go_wp2_with fail
          with_reducible refine (H3.out _).mono ?_
          rintro e_ w2 ⟨rfl, b_⟩
          replace HT := hide (TabP.ext HT.out b_)
          replace HB := hide (Below.chain HB.out b_)
          clear b_
          go_wp2_with fail
          with_reducible refine (H4.out _).mono ?_
          rintro e_ w3 ⟨rfl, b_⟩
          replace HT := hide (TabP.ext HT.out b_)
          replace HB := hide (Below.chain HB.out b_)
          clear b_
          go_wp2_with fail
          with_reducible refine (H6.out _).mono ?_
          rintro e_ w4 ⟨rfl, b_⟩
          replace HT := hide (TabP.ext HT.out b_)
          replace HB := hide (Below.chain HB.out b_)
          clear b_
          go_wp2_with fail
          with_reducible refine (H5.out _).mono ?_
          rintro e_ w5 ⟨rfl, b_⟩
          replace HT := hide (TabP.ext HT.out b_)
          replace HB := hide (Below.chain HB.out b_)
          clear b_
          go_wp2_with fail
          with_reducible refine (H7.out _).mono ?_
          rintro e_ w6 ⟨rfl, b_⟩
          replace HT := hide (TabP.ext HT.out b_)
          replace HB := hide (Below.chain HB.out b_)
          clear b_
          go_wp2_with fail
          with_reducible refine (awake_any _ HT.out).mono ?_
          rintro e_ w7 ⟨rfl, b_⟩
          replace HT := hide (TabP.ext HT.out b_)
          replace HB := hide (Below.chain HB.out b_)
          clear b_
          go_wp2
          go_ret
          exact ⟨by try rfl, HB.out⟩
      | false =>
        rw [he] at H4
        generalize dv y (m + 1) 1 = v4 at *
        have hy3 := next_year hb hc he
        cases hl : lp y with
        | false =>
          rw [hl] at H7 hn
          have hn2 : ah (y + 1) - 719528 = ah y - 719528 + 365 := by rw [hn, if_neg Bool.false_ne_true]; omega
          rw [hn2] at H5
          rw [hn2] at hy3
          have hN : dn y m d = ah y - 719528 + 365 - 1 := by omega
          rw [hN] at H1
          clear hy3 hN
          generalize hA : ah y - 719528 = A at *
          have A0 : -719528 ≤ A ∧ A ≤ 2932897 := by omega
          clear hn hn2 a0 a1 a2 a3 hA
          have HB := hide (Below.refl w.heap.size w)
          have HT := hide hT
          clear hT
          go_enter Tryd.func5, Tryd.ntmps5
          go_wp2_with fail
          rw [HC.out.1, HC.out.2.1, HC.out.2.2, HD.out.1, HD.out.2.1, HD.out.2.2.1, HD.out.2.2.2.1, HD.out.2.2.2.2]
          with_reducible refine (H1.out _).mono ?_
          rintro e_ w1 ⟨rfl, b_⟩
          replace HT := hide (TabP.ext HT.out b_)
          replace HB := hide (Below.chain HB.out b_)
          clear b_
          go_wp2_with fail
          with_reducible refine (H3.out _).mono ?_
          rintro e_ w2 ⟨rfl, b_⟩
          replace HT := hide (TabP.ext HT.out b_)
          replace HB := hide (Below.chain HB.out b_)
          clear b_
          go_wp2_with fail
          with_reducible refine (H4.out _).mono ?_
          rintro e_ w3 ⟨rfl, b_⟩
          replace HT := hide (TabP.ext HT.out b_)
          replace HB := hide (Below.chain HB.out b_)
          clear b_
          go_wp2_with fail
          with_reducible refine (H5.out _).mono ?_
          rintro e_ w4 ⟨rfl, b_⟩
          replace HT := hide (TabP.ext HT.out b_)
          replace HB := hide (Below.chain HB.out b_)
          clear b_
          go_wp2_with fail
          with_reducible refine (H6.out _).mono ?_
          rintro e_ w5 ⟨rfl, b_⟩
          replace HT := hide (TabP.ext HT.out b_)
          replace HB := hide (Below.chain HB.out b_)
          clear b_
          go_wp2_with fail
          with_reducible refine (H5.out _).mono ?_
          rintro e_ w6 ⟨rfl, b_⟩
          replace HT := hide (TabP.ext HT.out b_)
          replace HB := hide (Below.chain HB.out b_)
          clear b_
          go_wp2_with fail
          with_reducible refine (H7.out _).mono ?_
          rintro e_ w7 ⟨rfl, b_⟩
          replace HT := hide (TabP.ext HT.out b_)
          replace HB := hide (Below.chain HB.out b_)
          clear b_
          go_wp2_with fail
          with_reducible refine (awake_any _ HT.out).mono ?_
          rintro e_ w8 ⟨rfl, b_⟩
          replace HT := hide (TabP.ext HT.out b_)
          replace HB := hide (Below.chain HB.out b_)
          clear b_
          go_wp2
          go_ret
          exact ⟨by try rfl, HB.out⟩
        | true =>
          rw [hl] at H7 hn
          have hn2 : ah (y + 1) - 719528 = ah y - 719528 + 366 := by rw [hn, if_pos rfl]; omega
          rw [hn2] at H5
          rw [hn2] at hy3
          have hN : dn y m d = ah y - 719528 + 366 - 1 := by omega
          rw [hN] at H1
          clear hy3 hN
          generalize hA : ah y - 719528 = A at *
          have A0 : -719528 ≤ A ∧ A ≤ 2932897 := by omega
          clear hn hn2 a0 a1 a2 a3 hA
          have HB := hide (Below.refl w.heap.size w)
          have HT := hide hT
          clear hT
          go_enter Tryd.func5, Tryd.ntmps5
          go_wp2_with fail
          rw [HC.out.1, HC.out.2.1, HC.out.2.2, HD.out.1, HD.out.2.1, HD.out.2.2.1, HD.out.2.2.2.1, HD.out.2.2.2.2]
          with_reducible refine (H1.out _).mono ?_
          rintro e_ w1 ⟨rfl, b_⟩
          replace HT := hide (TabP.ext HT.out b_)
          replace HB := hide (Below.chain HB.out b_)
          clear b_
          go_wp2_with fail
          with_reducible refine (H3.out _).mono ?_
          rintro e_ w2 ⟨rfl, b_⟩
          replace HT := hide (TabP.ext HT.out b_)
          replace HB := hide (Below.chain HB.out b_)
          clear b_
          go_wp2_with fail
          with_reducible refine (H4.out _).mono ?_
          rintro e_ w3 ⟨rfl, b_⟩
          replace HT := hide (TabP.ext HT.out b_)
          replace HB := hide (Below.chain HB.out b_)
          clear b_
          go_wp2_with fail
          with_reducible refine (H5.out _).mono ?_
          rintro e_ w4 ⟨rfl, b_⟩
          replace HT := hide (TabP.ext HT.out b_)
          replace HB := hide (Below.chain HB.out b_)
          clear b_
          go_wp2_with fail
          with_reducible refine (H6.out _).mono ?_
          rintro e_ w5 ⟨rfl, b_⟩
          replace HT := hide (TabP.ext HT.out b_)
          replace HB := hide (Below.chain HB.out b_)
          clear b_
          go_wp2_with fail
          with_reducible refine (H5.out _).mono ?_
          rintro e_ w6 ⟨rfl, b_⟩
          replace HT := hide (TabP.ext HT.out b_)
          replace HB := hide (Below.chain HB.out b_)
          clear b_
          go_wp2_with fail
          with_reducible refine (H7.out _).mono ?_
          rintro e_ w7 ⟨rfl, b_⟩
          replace HT := hide (TabP.ext HT.out b_)
          replace HB := hide (Below.chain HB.out b_)
          clear b_
          go_wp2_with fail
          with_reducible refine (awake_any _ HT.out).mono ?_
          rintro e_ w8 ⟨rfl, b_⟩
          replace HT := hide (TabP.ext HT.out b_)
          replace HB := hide (Below.chain HB.out b_)
          clear b_
          go_wp2
          go_ret
          exact ⟨by try rfl, HB.out⟩
end Go.Proofs.YteicdlomjhjiiaaDoor
