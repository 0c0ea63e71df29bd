/- DateForms: the law's call answers true. -/
import Derived.Test.YteicdlomjhjiiaaDoorLw0
import Derived.Test.YteicdlomjhjiiaaDoorDt7
import Derived.Test.YteicdlomjhjiiaaDoorDt11
namespace Go.Proofs.YteicdlomjhjiiaaDoor
open Go.RowKit
set_option maxRecDepth 100000 in
set_option maxHeartbeats 2000000 in
theorem forms_walk {s : ByteArray} {n y m d : Int} {w : World} (hs : s.size ≤ 9223372036854775807) (hT : TabP w) : Calls Tryd.prog 3 #[.string s, .int .i64 n, .int .i64 y, .int .i64 m, .int .i64 d] w (Yes w) := by
  by_cases hge : 300 < s.size
  · have dn : decide ((300 : Int) < (s.size : Int)) = true := decide_eq_true (by omega)
    have HB := hide (Below.refl w.heap.size w)
    have HT := hide hT
    clear hT
    go_enter Tryd.func3, Tryd.ntmps3
    go_wp2_with fail
    with_reducible refine (awake_any _ HT.out).mono ?_
    rintro e_ w1 ⟨rfl, b_⟩
    replace HT := hide (TabP.ext HT.out b_)
    replace HB := hide (Below.chain HB.out b_)
    clear b_
    go_wp2
    go_ret
    exact ⟨by try rfl, HB.out⟩
  · have dn : decide ((300 : Int) < (s.size : Int)) = false := decide_eq_false (by omega)
    have H1 := hide (Quiet.says (Parse_any s hs))
    have H2 := hide (Quiet.says (rParse_any s hs))
    have H3 := hide (Tells.says (Days_any y m d))
    have H4 := hide (Tells.says (rDays_any y m d))
    have H5 := hide (Print_any n)
    have H6 := hide (rPrint_any n)
    have H7 := hide (Tells.says (Leap_any y))
    have H8 := hide (Tells.says (rLeap_any y))
    unfold dayV at H3 H4
    generalize prV s = pv at *
    generalize prB s = pb at *
    generalize dv y m d = dd at *
    generalize isD y m d = db at *
    generalize prt n = tx at *
    generalize lp y = lb at *
    have e1 : (tx.toList == tx.toList) = true := beq_self_eq_true _
    have HB := hide (Below.refl w.heap.size w)
    have HT := hide hT
    clear hT
    go_enter Tryd.func3, Tryd.ntmps3
    go_wp2_with fail
    with_reducible refine (H1.out _).mono ?_
    rintro e_ w1 ⟨rfl, b_⟩
    replace HT := hide (TabP.ext HT.out b_)
    replace HB := hide (Below.chain HB.out b_)
    clear b_
    go_wp2_with fail
    with_reducible refine (H2.out _).mono ?_
    rintro e_ w2 ⟨rfl, b_⟩
    replace HT := hide (TabP.ext HT.out b_)
    replace HB := hide (Below.chain HB.out b_)
    clear b_
    go_wp2_with fail
    with_reducible refine (H3.out _).mono ?_
    rintro e_ w3 ⟨rfl, b_⟩
    replace HT := hide (TabP.ext HT.out b_)
    replace HB := hide (Below.chain HB.out b_)
    clear b_
    go_wp2_with fail
    with_reducible refine (H4.out _).mono ?_
    rintro e_ w4 ⟨rfl, b_⟩
    replace HT := hide (TabP.ext HT.out b_)
    replace HB := hide (Below.chain HB.out b_)
    clear b_
    go_wp2_with fail
    with_reducible refine (H5.out _ HT.out).mono ?_
    rintro e_ w5 ⟨rfl, b_⟩
    replace HT := hide (TabP.ext HT.out b_)
    replace HB := hide (Below.chain HB.out b_)
    clear b_
    go_wp2_with fail
    with_reducible refine (H6.out _).mono ?_
    rintro e_ w6 ⟨rfl, b_⟩
    replace HT := hide (TabP.ext HT.out b_)
    replace HB := hide (Below.chain HB.out b_)
    clear b_
    go_wp2_with fail
    with_reducible refine (H7.out _).mono ?_
    rintro e_ w7 ⟨rfl, b_⟩
    replace HT := hide (TabP.ext HT.out b_)
    replace HB := hide (Below.chain HB.out b_)
    clear b_
    go_wp2_with fail
    with_reducible refine (H8.out _).mono ?_
    rintro e_ w8 ⟨rfl, b_⟩
    replace HT := hide (TabP.ext HT.out b_)
    replace HB := hide (Below.chain HB.out b_)
    clear b_
    go_wp2_with fail
    with_reducible refine (awake_any _ HT.out).mono ?_
    rintro e_ w9 ⟨rfl, b_⟩
    replace HT := hide (TabP.ext HT.out b_)
    replace HB := hide (Below.chain HB.out b_)
    clear b_
    go_wp2
    go_ret
    exact ⟨by try rfl, HB.out⟩
end Go.Proofs.YteicdlomjhjiiaaDoor
