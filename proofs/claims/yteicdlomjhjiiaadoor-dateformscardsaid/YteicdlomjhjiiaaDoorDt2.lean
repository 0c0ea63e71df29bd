/- Months, days of a year: the program's calls, and the page's. -/
import Derived.Test.YteicdlomjhjiiaaDoorDt1
namespace Go.Proofs.YteicdlomjhjiiaaDoor
open Go.RowKit
set_option maxRecDepth 100000 in
theorem monthDays_any (y m : Int) : Tells 25 #[.int .i64 y, .int .i64 m] (.int .i64 (md y m)) := by
  intro w
  by_cases h2 : m = 2
  · subst h2
    have hY := hide (Leap_any y)
    cases hl : lp y with
    | true =>
      have hL := hide (show md y 2 = 29 by unfold md; rw [hl]; rfl)
      go_enter Tryd.func25, Tryd.ntmps25
      go_wp2_with fail
      refine (hY.out _).mono ?_
      rintro e_ w_ ⟨rfl, hw_⟩
      replace hw_ := hw_.symm
      subst hw_
      rw [hl]
      go_wp2
      go_ret
      exact ⟨by rw [hL.out]; try rfl, rfl⟩
    | false =>
      have hL := hide (show md y 2 = 28 by unfold md; rw [hl]; rfl)
      go_enter Tryd.func25, Tryd.ntmps25
      go_wp2_with fail
      refine (hY.out _).mono ?_
      rintro e_ w_ ⟨rfl, hw_⟩
      replace hw_ := hw_.symm
      subst hw_
      rw [hl]
      go_wp2
      go_ret
      exact ⟨by rw [hL.out]; try rfl, rfl⟩
  · by_cases h4 : m = 4
    · have hL := hide (show md y m = 30 by unfold md; simp [*])
      go_enter Tryd.func25, Tryd.ntmps25
      go_wp2
      go_ret
      exact ⟨by rw [hL.out]; try rfl, rfl⟩
    · by_cases h6 : m = 6
      · have hL := hide (show md y m = 30 by unfold md; simp [*])
        go_enter Tryd.func25, Tryd.ntmps25
        go_wp2
        go_ret
        exact ⟨by rw [hL.out]; try rfl, rfl⟩
      · by_cases h9 : m = 9
        · have hL := hide (show md y m = 30 by unfold md; simp [*])
          go_enter Tryd.func25, Tryd.ntmps25
          go_wp2
          go_ret
          exact ⟨by rw [hL.out]; try rfl, rfl⟩
        · by_cases h11 : m = 11
          · have hL := hide (show md y m = 30 by unfold md; simp [*])
            go_enter Tryd.func25, Tryd.ntmps25
            go_wp2
            go_ret
            exact ⟨by rw [hL.out]; try rfl, rfl⟩
          · have hL := hide (show md y m = 31 by unfold md; simp [*])
            go_enter Tryd.func25, Tryd.ntmps25
            go_wp2
            go_ret
            exact ⟨by rw [hL.out]; try rfl, rfl⟩
set_option maxRecDepth 100000 in
set_option maxHeartbeats 2000000 in
theorem month_any (y m : Int) (h1 : 1 ≤ m) (h12 : m ≤ 12) : Tells 28 #[.int .i64 y, .int .i64 m] (.int .i64 (md y m)) := by
  intro w
  obtain rfl | rfl | rfl | rfl | rfl | rfl | rfl | rfl | rfl | rfl | rfl | rfl : m = 1 ∨ m = 2 ∨ m = 3 ∨ m = 4 ∨ m = 5 ∨ m = 6 ∨ m = 7 ∨ m = 8 ∨ m = 9 ∨ m = 10 ∨ m = 11 ∨ m = 12 := by omega
  · have hx := mtab_ix 1 (by decide) (.int .i64 31) rfl 1 rfl
    have hL := hide (show md y 1 = 31 by unfold md; simp)
    go_enter Tryd.func28, Tryd.ntmps28
    go_wp2
    go_ret
    exact ⟨by rw [hL.out]; try rfl, rfl⟩
  · have hx := mtab_ix 2 (by decide) (.int .i64 28) rfl 2 rfl
    have hY := hide (rLeap_any y)
    cases hl : lp y with
    | true =>
      have hL := hide (show md y 2 = 29 by unfold md; rw [hl]; rfl)
      go_enter Tryd.func28, Tryd.ntmps28
      go_wp2_with fail
      refine (hY.out _).mono ?_
      rintro e_ w_ ⟨rfl, hw_⟩
      replace hw_ := hw_.symm
      subst hw_
      rw [hl]
      go_wp2
      go_ret
      exact ⟨by rw [hL.out]; try rfl, rfl⟩
    | false =>
      have hL := hide (show md y 2 = 28 by unfold md; rw [hl]; rfl)
      go_enter Tryd.func28, Tryd.ntmps28
      go_wp2_with fail
      refine (hY.out _).mono ?_
      rintro e_ w_ ⟨rfl, hw_⟩
      replace hw_ := hw_.symm
      subst hw_
      rw [hl]
      go_wp2
      go_ret
      exact ⟨by rw [hL.out]; try rfl, rfl⟩
  · have hx := mtab_ix 3 (by decide) (.int .i64 31) rfl 3 rfl
    have hL := hide (show md y 3 = 31 by unfold md; simp)
    go_enter Tryd.func28, Tryd.ntmps28
    go_wp2
    go_ret
    exact ⟨by rw [hL.out]; try rfl, rfl⟩
  · have hx := mtab_ix 4 (by decide) (.int .i64 30) rfl 4 rfl
    have hL := hide (show md y 4 = 30 by unfold md; simp)
    go_enter Tryd.func28, Tryd.ntmps28
    go_wp2
    go_ret
    exact ⟨by rw [hL.out]; try rfl, rfl⟩
  · have hx := mtab_ix 5 (by decide) (.int .i64 31) rfl 5 rfl
    have hL := hide (show md y 5 = 31 by unfold md; simp)
    go_enter Tryd.func28, Tryd.ntmps28
    go_wp2
    go_ret
    exact ⟨by rw [hL.out]; try rfl, rfl⟩
  · have hx := mtab_ix 6 (by decide) (.int .i64 30) rfl 6 rfl
    have hL := hide (show md y 6 = 30 by unfold md; simp)
    go_enter Tryd.func28, Tryd.ntmps28
    go_wp2
    go_ret
    exact ⟨by rw [hL.out]; try rfl, rfl⟩
  · have hx := mtab_ix 7 (by decide) (.int .i64 31) rfl 7 rfl
    have hL := hide (show md y 7 = 31 by unfold md; simp)
    go_enter Tryd.func28, Tryd.ntmps28
    go_wp2
    go_ret
    exact ⟨by rw [hL.out]; try rfl, rfl⟩
  · have hx := mtab_ix 8 (by decide) (.int .i64 31) rfl 8 rfl
    have hL := hide (show md y 8 = 31 by unfold md; simp)
    go_enter Tryd.func28, Tryd.ntmps28
    go_wp2
    go_ret
    exact ⟨by rw [hL.out]; try rfl, rfl⟩
  · have hx := mtab_ix 9 (by decide) (.int .i64 30) rfl 9 rfl
    have hL := hide (show md y 9 = 30 by unfold md; simp)
    go_enter Tryd.func28, Tryd.ntmps28
    go_wp2
    go_ret
    exact ⟨by rw [hL.out]; try rfl, rfl⟩
  · have hx := mtab_ix 10 (by decide) (.int .i64 31) rfl 10 rfl
    have hL := hide (show md y 10 = 31 by unfold md; simp)
    go_enter Tryd.func28, Tryd.ntmps28
    go_wp2
    go_ret
    exact ⟨by rw [hL.out]; try rfl, rfl⟩
  · have hx := mtab_ix 11 (by decide) (.int .i64 30) rfl 11 rfl
    have hL := hide (show md y 11 = 30 by unfold md; simp)
    go_enter Tryd.func28, Tryd.ntmps28
    go_wp2
    go_ret
    exact ⟨by rw [hL.out]; try rfl, rfl⟩
  · have hx := mtab_ix 12 (by decide) (.int .i64 31) rfl 12 rfl
    have hL := hide (show md y 12 = 31 by unfold md; simp)
    go_enter Tryd.func28, Tryd.ntmps28
    go_wp2
    go_ret
    exact ⟨by rw [hL.out]; try rfl, rfl⟩
set_option maxRecDepth 100000 in
theorem mult4_any (y : Int) (h0 : 0 ≤ y) (h1 : y ≤ 20000) : Tells 36 #[.int .i64 y, .int .i64 4] (.int .i64 ((y + 3) / 4)) := by
  intro w
  have hL := hide (show (y + 3) / 4 = (y + 4 - 1) / 4 by omega)
  go_enter Tryd.func36, Tryd.ntmps36
  go_wp2
  go_ret
  exact ⟨by rw [hL.out]; first | rfl | (congr 2; omega), rfl⟩
set_option maxRecDepth 100000 in
theorem mult100_any (y : Int) (h0 : 0 ≤ y) (h1 : y ≤ 20000) : Tells 36 #[.int .i64 y, .int .i64 100] (.int .i64 ((y + 99) / 100)) := by
  intro w
  have hL := hide (show (y + 99) / 100 = (y + 100 - 1) / 100 by omega)
  go_enter Tryd.func36, Tryd.ntmps36
  go_wp2
  go_ret
  exact ⟨by rw [hL.out]; first | rfl | (congr 2; omega), rfl⟩
set_option maxRecDepth 100000 in
theorem mult400_any (y : Int) (h0 : 0 ≤ y) (h1 : y ≤ 20000) : Tells 36 #[.int .i64 y, .int .i64 400] (.int .i64 ((y + 399) / 400)) := by
  intro w
  have hL := hide (show (y + 399) / 400 = (y + 400 - 1) / 400 by omega)
  go_enter Tryd.func36, Tryd.ntmps36
  go_wp2
  go_ret
  exact ⟨by rw [hL.out]; first | rfl | (congr 2; omega), rfl⟩
set_option maxRecDepth 100000 in
theorem ah_any (y : Int) (h0 : 0 ≤ y) (h1 : y ≤ 20000) : Tells 26 #[.int .i64 y] (.int .i64 (ah y)) := by
  intro w
  have H4 := hide (mult4_any y h0 h1)
  have H100 := hide (mult100_any y h0 h1)
  have H400 := hide (mult400_any y h0 h1)
  have hL := hide (show 365 * y + (y + 3) / 4 - (y + 99) / 100 + (y + 399) / 400 = ah y from rfl)
  go_enter Tryd.func26, Tryd.ntmps26
  go_wp2_with fail
  refine (H4.out _).mono ?_
  rintro e_ w_ ⟨rfl, hw_⟩
  replace hw_ := hw_.symm
  subst hw_
  go_wp2_with fail
  refine (H100.out _).mono ?_
  rintro e_ w_ ⟨rfl, hw_⟩
  replace hw_ := hw_.symm
  subst hw_
  go_wp2_with fail
  refine (H400.out _).mono ?_
  rintro e_ w_ ⟨rfl, hw_⟩
  replace hw_ := hw_.symm
  subst hw_
  go_wp2
  go_ret
  exact ⟨by rw [← hL.out]; try rfl, rfl⟩
set_option maxRecDepth 100000 in
theorem func0_any (y : Int) (h0 : 0 ≤ y) (h1 : y ≤ 20000) : Tells 29 #[.int .i64 y] (.int .i64 ((y + 3) / 4 - (y + 99) / 100 + (y + 399) / 400)) := by
  intro w
  by_cases hz : y = 0
  · subst hz
    go_enter Tryd.func29, Tryd.ntmps29
    go_wp2
    go_ret
    exact ⟨rfl, rfl⟩
  · have hz1 : 1 ≤ y := by omega
    have hL := hide (show (y - 1) / 4 - (y - 1) / 100 + (y - 1) / 400 + 1 = (y + 3) / 4 - (y + 99) / 100 + (y + 399) / 400 by omega)
    go_enter Tryd.func29, Tryd.ntmps29
    go_wp2
    go_ret
    exact ⟨by rw [← hL.out]; try rfl, rfl⟩
set_option maxRecDepth 100000 in
theorem yearOf_any (D : Int) (h0 : 0 ≤ D) (h1 : D < 3652425) : Tells 37 #[.int .i64 D] (.int .i64 (yo D)) := by
  intro w
  obtain ⟨y, hy⟩ : ∃ y, D * 400 / 146097 = y := ⟨_, rfl⟩
  have y0 : 0 ≤ y := by omega
  have y1 : y ≤ 9999 := by omega
  have HA := hide (ah_any y y0 (by omega))
  have HB := hide (ah_any (y + 1) (by omega) (by omega))
  have hY := hide (show yo D = if D < ah y then y - 1 else if ah (y + 1) ≤ D then y + 1 else y by unfold yo; rw [hy])
  by_cases c1 : D < ah y
  · have hL := hide (show yo D = y - 1 by rw [hY.out, if_pos c1])
    have hd := show decide (D < ah y) = true from decide_eq_true c1
    go_enter Tryd.func37, Tryd.ntmps37
    go_wp2_with fail
    refine (HA.out _).mono ?_
    rintro e_ w_ ⟨rfl, hw_⟩
    replace hw_ := hw_.symm
    subst hw_
    go_wp2
    go_ret
    exact ⟨by rw [hL.out]; try rfl, rfl⟩
  · by_cases c2 : ah (y + 1) ≤ D
    · have hL := hide (show yo D = y + 1 by rw [hY.out, if_neg c1, if_pos c2])
      have hd := show decide (D < ah y) = false from decide_eq_false c1
      have hd2 := show decide (ah (y + 1) ≤ D) = true from decide_eq_true c2
      go_enter Tryd.func37, Tryd.ntmps37
      go_wp2_with fail
      refine (HA.out _).mono ?_
      rintro e_ w_ ⟨rfl, hw_⟩
      replace hw_ := hw_.symm
      subst hw_
      go_wp2_with fail
      refine (HB.out _).mono ?_
      rintro e_ w_ ⟨rfl, hw_⟩
      replace hw_ := hw_.symm
      subst hw_
      go_wp2
      go_ret
      exact ⟨by rw [hL.out]; try rfl, rfl⟩
    · have hL := hide (show yo D = y by rw [hY.out, if_neg c1, if_neg c2])
      have hd := show decide (D < ah y) = false from decide_eq_false c1
      have hd2 := show decide (ah (y + 1) ≤ D) = false from decide_eq_false c2
      go_enter Tryd.func37, Tryd.ntmps37
      go_wp2_with fail
      refine (HA.out _).mono ?_
      rintro e_ w_ ⟨rfl, hw_⟩
      replace hw_ := hw_.symm
      subst hw_
      go_wp2_with fail
      refine (HB.out _).mono ?_
      rintro e_ w_ ⟨rfl, hw_⟩
      replace hw_ := hw_.symm
      subst hw_
      go_wp2
      go_ret
      exact ⟨by rw [hL.out]; try rfl, rfl⟩
set_option maxRecDepth 100000 in
theorem before_any (y : Int) (j : Nat) (hj : j ≤ 11) : Tells 27 #[.int .i64 y, .int .i64 ((j : Int) + 1)] (.int .i64 (cu y j)) := by
  intro w
  go_enter Tryd.func27, Tryd.ntmps27
  go_wp2
  go_loopw [5, 6] (fun x i wr => ∃ k : Nat, k ≤ j ∧ x = .int .i64 (cu y k) ∧ i = .int .i64 ((k : Int) + 1) ∧ wr = w) (fun _ i _ => j + 1 - (intOf i).toNat)
  case atStart => exact ⟨0, Nat.zero_le _, rfl, rfl, rfl⟩
  case round =>
    obtain ⟨k, hk, rfl, rfl, hw⟩ := hrel
    replace hw := hw.symm
    subst hw
    by_cases hlt : k < j
    · have HM := hide (monthDays_any y ((k : Int) + 1))
      have HC := hide (show cu y k + md y ((k : Int) + 1) = cu y (k + 1) from rfl)
      have b1 := cu_bound y k (by omega)
      have b2 := md_le y ((k : Int) + 1)
      have hd : decide ((k : Int) + 1 < (j : Int) + 1) = true := decide_eq_true (by omega)
      go_wp2_with fail
      refine (HM.out _).mono ?_
      rintro e_ w_ ⟨rfl, hw_⟩
      replace hw_ := hw_.symm
      subst hw_
      go_wp2
      go_roundw
      case rel => exact ⟨k + 1, hlt, by rw [HC.out], by go_num, trivial⟩
      case measure => simp [intOf]; omega
    · obtain rfl : k = j := by omega
      go_wp2
      go_ret
      exact ⟨rfl, rfl⟩
end Go.Proofs.YteicdlomjhjiiaaDoor
