/- Years, months, leap years: the program's calls, and the page's. -/
import Derived.Test.YteicdlomjhjiiaaDoorDt0
namespace Go.Proofs.YteicdlomjhjiiaaDoor
open Go.RowKit
def yrB (y : Int) : Bool := decide (0 ≤ y ∧ y ≤ 9999)
set_option maxRecDepth 100000 in
theorem isYear_any (y : Int) : Tells 24 #[.int .i64 y] (.bool (yrB y)) := by
  intro w
  by_cases h1 : 0 ≤ y
  · by_cases h2 : y ≤ 9999
    · have hL := hide (show yrB y = true from decide_eq_true ⟨h1, h2⟩)
      go_enter Tryd.func24, Tryd.ntmps24
      go_wp2
      go_ret
      exact ⟨by rw [hL.out]; first | rfl | (show Ending.returned _ = Ending.returned _; congr 2; simp; omega), rfl⟩
    · have hL := hide (show yrB y = false from decide_eq_false fun h => h2 h.2)
      go_enter Tryd.func24, Tryd.ntmps24
      go_wp2
      go_ret
      exact ⟨by rw [hL.out]; first | rfl | (show Ending.returned _ = Ending.returned _; congr 2; simp; omega), rfl⟩
  · have hL := hide (show yrB y = false from decide_eq_false fun h => h1 h.1)
    go_enter Tryd.func24, Tryd.ntmps24
    go_wp2
    go_ret
    exact ⟨by rw [hL.out]; first | rfl | (show Ending.returned _ = Ending.returned _; congr 2; simp; omega), rfl⟩
def okM (n : Int) : Bool := decide (0 ≤ n ∧ n ≤ 253402300799)
set_option maxRecDepth 100000 in
theorem isMoment_any (y : Int) : Tells 21 #[.int .i64 y] (.bool (okM y)) := by
  intro w
  by_cases h1 : 0 ≤ y
  · by_cases h2 : y ≤ 253402300799
    · have hL := hide (show okM y = true from decide_eq_true ⟨h1, h2⟩)
      go_enter Tryd.func21, Tryd.ntmps21
      go_wp2
      go_ret
      exact ⟨by rw [hL.out]; first | rfl | (show Ending.returned _ = Ending.returned _; congr 2; simp; omega), rfl⟩
    · have hL := hide (show okM y = false from decide_eq_false fun h => h2 h.2)
      go_enter Tryd.func21, Tryd.ntmps21
      go_wp2
      go_ret
      exact ⟨by rw [hL.out]; first | rfl | (show Ending.returned _ = Ending.returned _; congr 2; simp; omega), rfl⟩
  · have hL := hide (show okM y = false from decide_eq_false fun h => h1 h.1)
    go_enter Tryd.func21, Tryd.ntmps21
    go_wp2
    go_ret
    exact ⟨by rw [hL.out]; first | rfl | (show Ending.returned _ = Ending.returned _; congr 2; simp; omega), rfl⟩
def dig (c : Nat) : Bool := decide (48 ≤ c ∧ c ≤ 57)
set_option maxRecDepth 100000 in
theorem digit_any (c : Nat) (hc : c < 256) : Tells 40 #[.int .u8 (c : Int)] (.bool (dig c)) := by
  intro w
  by_cases h1 : 48 ≤ c
  · by_cases h2 : c ≤ 57
    · have hL := hide (show dig c = true from decide_eq_true ⟨h1, h2⟩)
      go_enter Tryd.func40, Tryd.ntmps40
      go_wp2
      go_ret
      exact ⟨by rw [hL.out]; first | rfl | (show Ending.returned _ = Ending.returned _; congr 2; simp; omega), rfl⟩
    · have hL := hide (show dig c = false from decide_eq_false fun h => h2 h.2)
      go_enter Tryd.func40, Tryd.ntmps40
      go_wp2
      go_ret
      exact ⟨by rw [hL.out]; first | rfl | (show Ending.returned _ = Ending.returned _; congr 2; simp; omega), rfl⟩
  · have hL := hide (show dig c = false from decide_eq_false fun h => h1 h.1)
    go_enter Tryd.func40, Tryd.ntmps40
    go_wp2
    go_ret
    exact ⟨by rw [hL.out]; first | rfl | (show Ending.returned _ = Ending.returned _; congr 2; simp; omega), rfl⟩
set_option maxRecDepth 100000 in
theorem Leap_any (y : Int) : Tells 16 #[.int .i64 y] (.bool (lp y)) := by
  intro w
  by_cases hy : 0 ≤ y ∧ y ≤ 9999
  · obtain ⟨h1, h2⟩ := hy
    have hy := hide (isYear_any y)
    by_cases h4 : y % 4 = 0
    · by_cases h5 : y % 100 = 0
      · by_cases h6 : y % 400 = 0
        · have hL := hide (show lp y = true from (lp_iff y).2 (by omega))
          go_enter Tryd.func16, Tryd.ntmps16
          go_wp2_with fail
          refine (hy.out _).mono ?_
          rintro e_ w_ ⟨rfl, hw_⟩
          replace hw_ := hw_.symm
          subst hw_
          rw [show yrB y = true from decide_eq_true ⟨h1, h2⟩]
          go_wp2
          go_ret
          exact ⟨by rw [hL.out]; first | rfl | (show Ending.returned _ = Ending.returned _; congr 2; simp; omega), rfl⟩
        · have hL := hide (show lp y = false from Bool.eq_false_iff.2 fun h => by have := (lp_iff y).1 h; omega)
          go_enter Tryd.func16, Tryd.ntmps16
          go_wp2_with fail
          refine (hy.out _).mono ?_
          rintro e_ w_ ⟨rfl, hw_⟩
          replace hw_ := hw_.symm
          subst hw_
          rw [show yrB y = true from decide_eq_true ⟨h1, h2⟩]
          go_wp2
          go_ret
          exact ⟨by rw [hL.out]; first | rfl | (show Ending.returned _ = Ending.returned _; congr 2; simp; omega), rfl⟩
      · have hL := hide (show lp y = true from (lp_iff y).2 (by omega))
        go_enter Tryd.func16, Tryd.ntmps16
        go_wp2_with fail
        refine (hy.out _).mono ?_
        rintro e_ w_ ⟨rfl, hw_⟩
        replace hw_ := hw_.symm
        subst hw_
        rw [show yrB y = true from decide_eq_true ⟨h1, h2⟩]
        go_wp2
        go_ret
        exact ⟨by rw [hL.out]; first | rfl | (show Ending.returned _ = Ending.returned _; congr 2; simp; omega), rfl⟩
    · have hL := hide (show lp y = false from Bool.eq_false_iff.2 fun h => by have := (lp_iff y).1 h; omega)
      go_enter Tryd.func16, Tryd.ntmps16
      go_wp2_with fail
      refine (hy.out _).mono ?_
      rintro e_ w_ ⟨rfl, hw_⟩
      replace hw_ := hw_.symm
      subst hw_
      rw [show yrB y = true from decide_eq_true ⟨h1, h2⟩]
      go_wp2
      go_ret
      exact ⟨by rw [hL.out]; first | rfl | (show Ending.returned _ = Ending.returned _; congr 2; simp; omega), rfl⟩
  · have hY := hide (isYear_any y)
    have hL := hide (show lp y = false from Bool.eq_false_iff.2 fun h => by have := (lp_iff y).1 h; omega)
    have hB := hide (show yrB y = false from decide_eq_false hy)
    go_enter Tryd.func16, Tryd.ntmps16
    go_wp2_with fail
    refine (hY.out _).mono ?_
    rintro e_ w_ ⟨rfl, hw_⟩
    replace hw_ := hw_.symm
    subst hw_
    rw [hB.out]
    go_wp2
    go_ret
    exact ⟨by rw [hL.out]; first | rfl | (show Ending.returned _ = Ending.returned _; congr 2; simp; omega), rfl⟩
set_option maxRecDepth 100000 in
theorem rLeap_any (y : Int) : Tells 17 #[.int .i64 y] (.bool (lp y)) := by
  intro w
  by_cases hy : 0 ≤ y ∧ y ≤ 9999
  · obtain ⟨h1, h2⟩ := hy
    have hy := True.intro
    by_cases h4 : y % 4 = 0
    · by_cases h5 : y % 100 = 0
      · by_cases h6 : y % 400 = 0
        · have hL := hide (show lp y = true from (lp_iff y).2 (by omega))
          go_enter Tryd.func17, Tryd.ntmps17
          go_wp2
          go_ret
          exact ⟨by rw [hL.out]; first | rfl | (show Ending.returned _ = Ending.returned _; congr 2; simp; omega), rfl⟩
        · have hL := hide (show lp y = false from Bool.eq_false_iff.2 fun h => by have := (lp_iff y).1 h; omega)
          go_enter Tryd.func17, Tryd.ntmps17
          go_wp2
          go_ret
          exact ⟨by rw [hL.out]; first | rfl | (show Ending.returned _ = Ending.returned _; congr 2; simp; omega), rfl⟩
      · have hL := hide (show lp y = true from (lp_iff y).2 (by omega))
        go_enter Tryd.func17, Tryd.ntmps17
        go_wp2
        go_ret
        exact ⟨by rw [hL.out]; first | rfl | (show Ending.returned _ = Ending.returned _; congr 2; simp; omega), rfl⟩
    · have hL := hide (show lp y = false from Bool.eq_false_iff.2 fun h => by have := (lp_iff y).1 h; omega)
      go_enter Tryd.func17, Tryd.ntmps17
      go_wp2
      go_ret
      exact ⟨by rw [hL.out]; first | rfl | (show Ending.returned _ = Ending.returned _; congr 2; simp; omega), rfl⟩
  · have hL := hide (show lp y = false from Bool.eq_false_iff.2 fun h => by have := (lp_iff y).1 h; omega)
    by_cases h1 : 0 ≤ y
    · by_cases h2 : y ≤ 9999
      · exact absurd ⟨h1, h2⟩ hy
      · go_enter Tryd.func17, Tryd.ntmps17
        go_wp2
        go_ret
        exact ⟨by rw [hL.out]; first | rfl | (show Ending.returned _ = Ending.returned _; congr 2; simp; omega), rfl⟩
    · go_enter Tryd.func17, Tryd.ntmps17
      go_wp2
      go_ret
      exact ⟨by rw [hL.out]; first | rfl | (show Ending.returned _ = Ending.returned _; congr 2; simp; omega), rfl⟩
end Go.Proofs.YteicdlomjhjiiaaDoor
