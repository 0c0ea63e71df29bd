/- Days, and back: the program's calls, and the page's. -/
import Derived.Test.YteicdlomjhjiiaaDoorDt2
import Derived.OwnWalk
namespace Go.Proofs.YteicdlomjhjiiaaDoor
open Go.RowKit
/-- What Days tells. -/
abbrev dayV (y m d : Int) : Value := .tuple #[.int .i64 (dv y m d), .bool (isD y m d)]
set_option maxRecDepth 100000 in
set_option maxHeartbeats 1000000 in
theorem Days_any (y m d : Int) : Tells 12 #[.int .i64 y, .int .i64 m, .int .i64 d] (dayV y m d) := by
  intro w
  have HY := hide (isYear_any y)
  have HM := hide (monthDays_any y m)
  by_cases hy : 0 ≤ y ∧ y ≤ 9999
  · have hyB := hide (show yrB y = true from decide_eq_true hy)
    by_cases m1 : 1 ≤ m
    · by_cases m12 : m ≤ 12
      · by_cases d1 : 1 ≤ d
        · by_cases d2 : d ≤ md y m
          · have dm := hide (md_le y m)
            have d31 : d ≤ 31 := by have := dm.out; omega
            have hd : decide (md y m < d) = false := decide_eq_false (by omega)
            have hI : isD y m d = true := decide_eq_true ⟨hy.1, hy.2, m1, m12, d1, d2⟩
            have hL := hide (show dv y m d = dn y m d ∧ isD y m d = true from ⟨by unfold dv; rw [hI]; rfl, hI⟩)
            obtain ⟨j, hj⟩ : ∃ j : Nat, (m - 1).toNat = j := ⟨_, rfl⟩
            have HD := hide (show dn y m d = ah y - 719528 + cu y j + d - 1 by unfold dn; rw [hj])
            obtain rfl : m = (j : Int) + 1 := by omega
            have HA := hide (ah_any y hy.1 (by omega))
            have HZ := hide (show Tells 26 #[.int .i64 1970] (.int .i64 719528) from ah_any 1970 (by omega) (by omega))
            have HJ := hide (before_any y j (by omega))
            have a1 : 0 ≤ ah y := by have := ah_mono hy.1; have e : ah 0 = 0 := by decide
                                     omega
            have a2 : ah y ≤ 3652425 := by have := ah_mono (y := y) (z := 10000) (by omega); have e : ah 10000 = 3652425 := by decide
                                           omega
            have b1 := cu_bound y j (by omega)
            clear hI hj
            go_enter Tryd.func12, Tryd.ntmps12
            go_wp2_with fail
            refine (HY.out _).mono ?_
            rintro e_ w_ ⟨rfl, hw_⟩
            replace hw_ := hw_.symm
            subst hw_
            rw [hyB.out]
            go_wp2_with fail
            refine (HM.out _).mono ?_
            rintro e_ w_ ⟨rfl, hw_⟩
            replace hw_ := hw_.symm
            subst hw_
            go_wp2_with fail
            refine (HA.out _).mono ?_
            rintro e_ w_ ⟨rfl, hw_⟩
            replace hw_ := hw_.symm
            subst hw_
            go_wp2_with fail
            refine (HZ.out _).mono ?_
            rintro e_ w_ ⟨rfl, hw_⟩
            replace hw_ := hw_.symm
            subst hw_
            go_wp2_with fail
            refine (HJ.out _).mono ?_
            rintro e_ w_ ⟨rfl, hw_⟩
            replace hw_ := hw_.symm
            subst hw_
            go_wp2
            go_ret2
            exact ⟨by unfold dayV; rw [hL.out.1, hL.out.2, HD.out]; try rfl, rfl⟩
          · have hN : isD y m d = false := decide_eq_false fun h => d2 h.2.2.2.2.2
            have hL := hide (show dv y m d = 0 ∧ isD y m d = false from ⟨by unfold dv; rw [hN]; rfl, hN⟩)
            clear hN
            have hd : decide (md y m < d) = true := decide_eq_true (by omega)
            go_enter Tryd.func12, Tryd.ntmps12
            go_wp2_with fail
            refine (HY.out _).mono ?_
            rintro e_ w_ ⟨rfl, hw_⟩
            replace hw_ := hw_.symm
            subst hw_
            rw [hyB.out]
            go_wp2_with fail
            refine (HM.out _).mono ?_
            rintro e_ w_ ⟨rfl, hw_⟩
            replace hw_ := hw_.symm
            subst hw_
            go_wp2
            go_ret2
            exact ⟨by unfold dayV; rw [hL.out.1, hL.out.2]; try rfl, rfl⟩
        · have hN : isD y m d = false := decide_eq_false fun h => d1 h.2.2.2.2.1
          have hL := hide (show dv y m d = 0 ∧ isD y m d = false from ⟨by unfold dv; rw [hN]; rfl, hN⟩)
          clear hN
          go_enter Tryd.func12, Tryd.ntmps12
          go_wp2_with fail
          refine (HY.out _).mono ?_
          rintro e_ w_ ⟨rfl, hw_⟩
          replace hw_ := hw_.symm
          subst hw_
          rw [hyB.out]
          go_wp2
          go_ret2
          exact ⟨by unfold dayV; rw [hL.out.1, hL.out.2]; try rfl, rfl⟩
      · have hN : isD y m d = false := decide_eq_false fun h => m12 h.2.2.2.1
        have hL := hide (show dv y m d = 0 ∧ isD y m d = false from ⟨by unfold dv; rw [hN]; rfl, hN⟩)
        clear hN
        go_enter Tryd.func12, Tryd.ntmps12
        go_wp2_with fail
        refine (HY.out _).mono ?_
        rintro e_ w_ ⟨rfl, hw_⟩
        replace hw_ := hw_.symm
        subst hw_
        rw [hyB.out]
        go_wp2
        go_ret2
        exact ⟨by unfold dayV; rw [hL.out.1, hL.out.2]; try rfl, rfl⟩
    · have hN : isD y m d = false := decide_eq_false fun h => m1 h.2.2.1
      have hL := hide (show dv y m d = 0 ∧ isD y m d = false from ⟨by unfold dv; rw [hN]; rfl, hN⟩)
      clear hN
      go_enter Tryd.func12, Tryd.ntmps12
      go_wp2_with fail
      refine (HY.out _).mono ?_
      rintro e_ w_ ⟨rfl, hw_⟩
      replace hw_ := hw_.symm
      subst hw_
      rw [hyB.out]
      go_wp2
      go_ret2
      exact ⟨by unfold dayV; rw [hL.out.1, hL.out.2]; try rfl, rfl⟩
  · have hyB := hide (show yrB y = false from decide_eq_false hy)
    have hN : isD y m d = false := decide_eq_false fun h => hy ⟨h.1, h.2.1⟩
    have hL := hide (show dv y m d = 0 ∧ isD y m d = false from ⟨by unfold dv; rw [hN]; rfl, hN⟩)
    clear hN
    go_enter Tryd.func12, Tryd.ntmps12
    go_wp2_with fail
    refine (HY.out _).mono ?_
    rintro e_ w_ ⟨rfl, hw_⟩
    replace hw_ := hw_.symm
    subst hw_
    rw [hyB.out]
    go_wp2
    go_ret2
    exact ⟨by unfold dayV; rw [hL.out.1, hL.out.2]; try rfl, rfl⟩
set_option maxRecDepth 100000 in
set_option maxHeartbeats 1000000 in
theorem rDays_any (y m d : Int) : Tells 13 #[.int .i64 y, .int .i64 m, .int .i64 d] (dayV y m d) := by
  intro w
  by_cases y0 : 0 ≤ y
  · by_cases y1 : y ≤ 9999
    · by_cases m1 : 1 ≤ m
      · by_cases m12 : m ≤ 12
        · by_cases d1 : 1 ≤ d
          · by_cases d2 : d ≤ md y m
            · have dm := hide (md_le y m)
              have HM := hide (month_any y m m1 m12)
              have d31 : d ≤ 31 := by have := dm.out; omega
              have hd : decide (md y m < d) = false := decide_eq_false (by omega)
              have hI : isD y m d = true := decide_eq_true ⟨y0, y1, m1, m12, d1, d2⟩
              have hL := hide (show dv y m d = dn y m d ∧ isD y m d = true from ⟨by unfold dv; rw [hI]; rfl, hI⟩)
              obtain ⟨j, hj⟩ : ∃ j : Nat, (m - 1).toNat = j := ⟨_, rfl⟩
              obtain rfl : m = (j : Int) + 1 := by omega
              have HF := hide (func0_any y y0 (by omega))
              have HZ := hide (show Tells 29 #[.int .i64 1970] (.int .i64 478) from func0_any 1970 (by omega) (by omega))
              obtain ⟨A, hA⟩ : ∃ A, (y + 3) / 4 - (y + 99) / 100 + (y + 399) / 400 = A := ⟨_, rfl⟩
              have a1 : 0 ≤ A ∧ A ≤ 20000 := by omega
              have HD := hide (show dn y ((j : Int) + 1) d = 365 * y + A - 719528 + cu y j + (d - 1) by unfold dn ah; rw [hj, ← hA]; omega)
              rw [hA] at HF
              have hj11 : j ≤ 11 := by omega
              clear hI hj hA
              go_enter Tryd.func13, Tryd.ntmps13
              go_wp2_with fail
              refine (HM.out _).mono ?_
              rintro e_ w_ ⟨rfl, hw_⟩
              replace hw_ := hw_.symm
              subst hw_
              go_wp2_with fail
              refine (HF.out _).mono ?_
              rintro e_ w_ ⟨rfl, hw_⟩
              replace hw_ := hw_.symm
              subst hw_
              go_wp2_with fail
              refine (HZ.out _).mono ?_
              rintro e_ w_ ⟨rfl, hw_⟩
              replace hw_ := hw_.symm
              subst hw_
              go_wp2
              go_loopw [9, 10] (fun x i wr => ∃ k : Nat, k ≤ j ∧ x = .int .i64 (365 * y + A - 719528 + cu y k) ∧ i = .int .i64 ((k : Int) + 1) ∧ wr = w) (fun _ i _ => j + 1 - (intOf i).toNat)
              case atStart => exact ⟨0, Nat.zero_le _, by show Value.int _ _ = Value.int _ _; congr 1; have : cu y 0 = 0 := rfl; omega, rfl, rfl⟩
              case round =>
                obtain ⟨k, hk, rfl, rfl, hw⟩ := hrel
                replace hw := hw.symm
                subst hw
                have b1 := cu_bound y k (by omega)
                by_cases hlt : k < j
                · have HQ := hide (month_any y ((k : Int) + 1) (by omega) (by omega))
                  have HC := hide (show cu y k + md y ((k : Int) + 1) = cu y (k + 1) from rfl)
                  have b2 := md_le y ((k : Int) + 1)
                  have hd : decide ((k : Int) + 1 < (j : Int) + 1) = true := decide_eq_true (by omega)
                  go_wp2_with fail
                  refine (HQ.out _).mono ?_
                  rintro e_ w_ ⟨rfl, hw_⟩
                  replace hw_ := hw_.symm
                  subst hw_
                  go_wp2
                  go_roundw
                  case rel => exact ⟨k + 1, hlt, by rw [← HC.out]; show Value.int _ _ = Value.int _ _; congr 1; omega, by go_num, trivial⟩
                  case measure => simp [intOf]; omega
                · obtain rfl : k = j := by omega
                  go_wp2
                  go_ret2
                  exact ⟨by unfold dayV; rw [hL.out.1, hL.out.2, HD.out]; try rfl, rfl⟩
            · have HM := hide (month_any y m m1 m12)
              have hN : isD y m d = false := decide_eq_false fun h => d2 h.2.2.2.2.2
              have hL := hide (show dv y m d = 0 ∧ isD y m d = false from ⟨by unfold dv; rw [hN]; rfl, hN⟩)
              clear hN
              have hd : decide (md y m < d) = true := decide_eq_true (by omega)
              go_enter Tryd.func13, Tryd.ntmps13
              go_wp2_with fail
              refine (HM.out _).mono ?_
              rintro e_ w_ ⟨rfl, hw_⟩
              replace hw_ := hw_.symm
              subst hw_
              go_wp2
              go_ret2
              exact ⟨by unfold dayV; rw [hL.out.1, hL.out.2]; try rfl, rfl⟩
          · have hN : isD y m d = false := decide_eq_false fun h => d1 h.2.2.2.2.1
            have hL := hide (show dv y m d = 0 ∧ isD y m d = false from ⟨by unfold dv; rw [hN]; rfl, hN⟩)
            clear hN
            go_enter Tryd.func13, Tryd.ntmps13
            go_wp2
            go_ret2
            exact ⟨by unfold dayV; rw [hL.out.1, hL.out.2]; try rfl, rfl⟩
        · have hN : isD y m d = false := decide_eq_false fun h => m12 h.2.2.2.1
          have hL := hide (show dv y m d = 0 ∧ isD y m d = false from ⟨by unfold dv; rw [hN]; rfl, hN⟩)
          clear hN
          go_enter Tryd.func13, Tryd.ntmps13
          go_wp2
          go_ret2
          exact ⟨by unfold dayV; rw [hL.out.1, hL.out.2]; try rfl, rfl⟩
      · have hN : isD y m d = false := decide_eq_false fun h => m1 h.2.2.1
        have hL := hide (show dv y m d = 0 ∧ isD y m d = false from ⟨by unfold dv; rw [hN]; rfl, hN⟩)
        clear hN
        go_enter Tryd.func13, Tryd.ntmps13
        go_wp2
        go_ret2
        exact ⟨by unfold dayV; rw [hL.out.1, hL.out.2]; try rfl, rfl⟩
    · have hN : isD y m d = false := decide_eq_false fun h => y1 h.2.1
      have hL := hide (show dv y m d = 0 ∧ isD y m d = false from ⟨by unfold dv; rw [hN]; rfl, hN⟩)
      clear hN
      go_enter Tryd.func13, Tryd.ntmps13
      go_wp2
      go_ret2
      exact ⟨by unfold dayV; rw [hL.out.1, hL.out.2]; try rfl, rfl⟩
  · have hN : isD y m d = false := decide_eq_false fun h => y0 h.1
    have hL := hide (show dv y m d = 0 ∧ isD y m d = false from ⟨by unfold dv; rw [hN]; rfl, hN⟩)
    clear hN
    go_enter Tryd.func13, Tryd.ntmps13
    go_wp2
    go_ret2
    exact ⟨by unfold dayV; rw [hL.out.1, hL.out.2]; try rfl, rfl⟩
theorem yR_bound {k : Int} (h0 : 0 ≤ k) (h1 : k ≤ 2932896) : 0 ≤ yR k ∧ yR k < cu (yY k) 12 ∧ 0 ≤ yY k ∧ yY k ≤ 9999 ∧ ah (yY k) ≤ k + 719528 ∧ 0 ≤ ah (yY k) := by
  obtain ⟨a, b, c, d⟩ := yo_spec (D := k + 719528) (by omega) (by omega)
  have hn := ah_next a b
  rw [← cu12] at hn
  have a1 := ah_mono a
  have e : ah 0 = 0 := by decide
  unfold yR yY
  exact ⟨by omega, by omega, a, b, c, by omega⟩
set_option maxRecDepth 100000 in
set_option maxHeartbeats 1000000 in
theorem dayOf_any (k : Int) (h0 : 0 ≤ k) (h1 : k ≤ 2932896) : Tells 30 #[.int .i64 k] (.tuple #[.int .i64 (yY k), .int .i64 (yM k), .int .i64 (yD k)]) := by
  intro w
  obtain ⟨r0, r1, y0, y1, c0, c1⟩ := yR_bound h0 h1
  obtain ⟨p, q, r, s⟩ := mo_spec (yY k) (yR k) 11 0 r0 r1
  have HY := hide (show Tells 37 #[.int .i64 (k + 719528)] (.int .i64 (yY k)) from yearOf_any _ (by omega) (by omega))
  have HA := hide (ah_any (yY k) y0 (by omega))
  have HZ := hide (show Tells 26 #[.int .i64 1970] (.int .i64 719528) from ah_any 1970 (by omega) (by omega))
  have HR := hide (show yR k = k + 719528 - ah (yY k) from rfl)
  have HM := hide (show yM k = ((mo (yY k) (yR k) 0 11 : Nat) : Int) + 1 from rfl)
  have HD := hide (show yD k = yR k - cu (yY k) (mo (yY k) (yR k) 0 11) + 1 from rfl)
  generalize mo (yY k) (yR k) 0 11 = j at *
  generalize yY k = y at *
  generalize yR k = R at *
  have hj : j ≤ 11 := by omega
  have R1 : R ≤ 366 := by have := (cu_bound y 12 (by omega)).2; omega
  have HP := hide (And.intro p q)
  clear p q r s r1
  go_enter Tryd.func30, Tryd.ntmps30
  go_wp2_with fail
  refine (HZ.out _).mono ?_
  rintro e_ w_ ⟨rfl, hw_⟩
  replace hw_ := hw_.symm
  subst hw_
  go_wp2_with fail
  refine (HY.out _).mono ?_
  rintro e_ w_ ⟨rfl, hw_⟩
  replace hw_ := hw_.symm
  subst hw_
  go_wp2_with fail
  refine (HA.out _).mono ?_
  rintro e_ w_ ⟨rfl, hw_⟩
  replace hw_ := hw_.symm
  subst hw_
  go_wp2
  go_loopw [6, 3] (fun x i wr => ∃ n : Nat, n ≤ j ∧ x = .int .i64 (R - cu y n) ∧ i = .int .i64 ((n : Int) + 1) ∧ wr = w) (fun _ i _ => j + 1 - (intOf i).toNat)
  case atStart => exact ⟨0, Nat.zero_le _, by rw [HR.out]; show Value.int _ _ = Value.int _ _; congr 1; have : cu y 0 = 0 := rfl; omega, rfl, rfl⟩
  case round =>
    obtain ⟨n, hn, rfl, rfl, hw⟩ := hrel
    replace hw := hw.symm
    subst hw
    have b1 := cu_bound y n (by omega)
    have HQ := hide (monthDays_any y ((n : Int) + 1))
    have HC := hide (show cu y n + md y ((n : Int) + 1) = cu y (n + 1) from rfl)
    have b2 := md_le y ((n : Int) + 1)
    by_cases hlt : n < j
    · have hd : decide (md y ((n : Int) + 1) ≤ R - cu y n) = true := decide_eq_true (by have := cu_le (y := y) (k := n + 1) (j := j) (by omega); have := HP.out; have := HC.out; omega)
      have b3 : 0 ≤ R - cu y n - md y ((n : Int) + 1) := by have := of_decide_eq_true hd; omega
      go_wp2_with fail
      refine (HQ.out _).mono ?_
      rintro e_ w_ ⟨rfl, hw_⟩
      replace hw_ := hw_.symm
      subst hw_
      go_wp2_with fail
      refine (HQ.out _).mono ?_
      rintro e_ w_ ⟨rfl, hw_⟩
      replace hw_ := hw_.symm
      subst hw_
      go_wp2
      go_roundw
      case rel => exact ⟨n + 1, hlt, by rw [← HC.out]; show Value.int _ _ = Value.int _ _; congr 1; omega, by go_num, trivial⟩
      case measure => simp [intOf]; omega
    · obtain rfl : n = j := by omega
      have hd : decide (md y ((n : Int) + 1) ≤ R - cu y n) = false := decide_eq_false (by have := HP.out; have := HC.out; omega)
      go_wp2_with fail
      refine (HQ.out _).mono ?_
      rintro e_ w_ ⟨rfl, hw_⟩
      replace hw_ := hw_.symm
      subst hw_
      go_wp2
      go_ret3
      exact ⟨by rw [HM.out, HD.out]; try rfl, rfl⟩
end Go.Proofs.YteicdlomjhjiiaaDoor
