/- DateOrder: the law's call answers true. -/
import Derived.Test.YteicdlomjhjiiaaDoorLw0
namespace Go.Proofs.YteicdlomjhjiiaaDoor
open Go.RowKit
set_option maxRecDepth 100000 in
set_option maxHeartbeats 2000000 in
theorem order_walk {a b : Int} {w : World} (hT : TabP w) : Calls Tryd.prog 7 #[.int .i64 a, .int .i64 b] w (Yes w) := by
  obtain ⟨k, hk, hkl⟩ : ∃ k : Nat, wrap64 ((IntKind.u64.wrap a).tmod 253402300800) = (k : Int) ∧ k < 253402300800 := mod_at a (by decide) (by decide)
  obtain ⟨j, hj, hjl⟩ : ∃ j : Nat, wrap64 ((IntKind.u64.wrap b).tmod 253402300800) = (j : Int) ∧ j < 253402300800 := mod_at b (by decide) (by decide)
  have ok : okM (k : Int) = true := okM_of (by omega) (by omega)
  have oj : okM (j : Int) = true := okM_of (by omega) (by omega)
  obtain ⟨c1, c2⟩ := prt_cmp ok oj
  have z1 := prt_size ok
  have z2 := prt_size oj
  have HA := hide (Print_any (k : Int))
  have HC := hide (Print_any (j : Int))
  generalize prt (k : Int) = x at *
  generalize prt (j : Int) = y at *
  have z1i : (x.size : Int) = 20 := by omega
  have z2i : (y.size : Int) = 20 := by omega
  have e1 : ((k : Int) == (j : Int)) = decide ((k : Int) = (j : Int)) := rfl
  have HB := hide (Below.refl w.heap.size w)
  have HT := hide hT
  clear hT
  go_enter Tryd.func7, Tryd.ntmps7
  go_wp2_with fail
  try rw [hk, hj]
  clear hk hj
  go_wp2_with fail
  with_reducible refine (HA.out _ HT.out).mono ?_
  rintro e_ w1 ⟨rfl, b_⟩
  replace HT := hide (TabP.ext HT.out b_)
  replace HB := hide (Below.chain HB.out b_)
  clear b_
  go_wp2_with fail
  with_reducible refine (HC.out _ HT.out).mono ?_
  rintro e_ w2 ⟨rfl, b_⟩
  replace HT := hide (TabP.ext HT.out b_)
  replace HB := hide (Below.chain HB.out b_)
  clear b_
  by_cases q1 : (k : Int) < (j : Int)
  · have q2 : ¬ ((k : Int) = (j : Int)) := by omega
    have d2 : decide (k < j) = true := decide_eq_true (by omega)
    rw [decide_eq_true q1] at c1
    rw [decide_eq_false q2] at c2
    go_wp2_with fail
    with_reducible refine (awake_any _ HT.out).mono ?_
    rintro e_ w3 ⟨rfl, b_⟩
    replace HT := hide (TabP.ext HT.out b_)
    replace HB := hide (Below.chain HB.out b_)
    clear b_
    go_wp2
    go_ret
    exact ⟨by try rfl, HB.out⟩
  · rw [decide_eq_false q1] at c1
    have d2 : decide (k < j) = false := decide_eq_false (by omega)
    by_cases q2 : (k : Int) = (j : Int)
    · rw [decide_eq_true q2] at c2
      go_wp2_with fail
      with_reducible refine (awake_any _ HT.out).mono ?_
      rintro e_ w3 ⟨rfl, b_⟩
      replace HT := hide (TabP.ext HT.out b_)
      replace HB := hide (Below.chain HB.out b_)
      clear b_
      go_wp2
      go_ret
      exact ⟨by try rfl, HB.out⟩
    · rw [decide_eq_false q2] at c2
      go_wp2_with fail
      with_reducible refine (awake_any _ HT.out).mono ?_
      rintro e_ w3 ⟨rfl, b_⟩
      replace HT := hide (TabP.ext HT.out b_)
      replace HB := hide (Below.chain HB.out b_)
      clear b_
      go_wp2
      go_ret
      exact ⟨by try rfl, HB.out⟩
end Go.Proofs.YteicdlomjhjiiaaDoor
