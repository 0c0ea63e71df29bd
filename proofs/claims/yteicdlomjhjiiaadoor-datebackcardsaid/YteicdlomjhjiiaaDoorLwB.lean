/- DateBack: the law's call answers true. -/
import Derived.Test.YteicdlomjhjiiaaDoorLw0
namespace Go.Proofs.YteicdlomjhjiiaaDoor
open Go.RowKit
set_option maxRecDepth 100000 in
set_option maxHeartbeats 2000000 in
theorem back_walk {n : Int} {s : ByteArray} {w : World} (hs : s.size ≤ 9223372036854775807) (hT : TabP w) : Calls Tryd.prog 4 #[.int .i64 n, .string s] w (Yes w) := by
  by_cases hge : 300 < s.size
  · have dn : decide ((300 : Int) < (s.size : Int)) = true := decide_eq_true (by omega)
    have HB := hide (Below.refl w.heap.size w)
    have HT := hide hT
    clear hT
    go_enter Tryd.func4, Tryd.ntmps4
    go_wp2_with fail
    with_reducible refine (awake_any _ HT.out).mono ?_
    rintro e_ w1 ⟨rfl, b_⟩
    replace HT := hide (TabP.ext HT.out b_)
    replace HB := hide (Below.chain HB.out b_)
    clear b_
    go_wp2
    go_ret
    exact ⟨by try rfl, HB.out⟩
  · have dn : decide ((300 : Int) < (s.size : Int)) = false := decide_eq_false (by omega)
    obtain ⟨k, hk, hkl⟩ : ∃ k : Nat, wrap64 ((IntKind.u64.wrap n).tmod 253402300800) = (k : Int) ∧ k < 253402300800 := mod_at n (by decide) (by decide)
    have ok : okM (k : Int) = true := okM_of (by omega) (by omega)
    have z1 := prt_size ok
    have H1 := hide (Print_any (k : Int))
    have H2 := hide (Quiet.says (Parse_any (prt (k : Int)) (by omega)))
    rw [(prt_back ok).1, (prt_back ok).2] at H2
    have H3 := hide (Quiet.says (Parse_any s hs))
    generalize prt (k : Int) = x at *
    have z1i : (x.size : Int) = 20 := by omega
    cases hb : prB s with
    | false =>
      rw [hb, pr_nil hb] at H3
      clear hb ok
      have HB := hide (Below.refl w.heap.size w)
      have HT := hide hT
      clear hT
      go_enter Tryd.func4, Tryd.ntmps4
      go_wp2_with fail
      try rw [hk]
      clear hk
      go_wp2_with fail
      with_reducible refine (H1.out _ HT.out).mono ?_
      rintro e_ w1 ⟨rfl, b_⟩
      replace HT := hide (TabP.ext HT.out b_)
      replace HB := hide (Below.chain HB.out b_)
      clear b_
      go_wp2_with fail
      with_reducible refine (H2.out _).mono ?_
      rintro e_ w2 ⟨rfl, b_⟩
      replace HT := hide (TabP.ext HT.out b_)
      replace HB := hide (Below.chain HB.out b_)
      clear b_
      go_wp2_with fail
      with_reducible refine (H1.out _ HT.out).mono ?_
      rintro e_ w3 ⟨rfl, b_⟩
      replace HT := hide (TabP.ext HT.out b_)
      replace HB := hide (Below.chain HB.out b_)
      clear b_
      go_wp2_with fail
      with_reducible refine (H3.out _).mono ?_
      rintro e_ w4 ⟨rfl, b_⟩
      replace HT := hide (TabP.ext HT.out b_)
      replace HB := hide (Below.chain HB.out b_)
      clear b_
      go_wp2_with fail
      with_reducible refine (awake_any _ HT.out).mono ?_
      rintro e_ w5 ⟨rfl, b_⟩
      replace HT := hide (TabP.ext HT.out b_)
      replace HB := hide (Below.chain HB.out b_)
      clear b_
      go_wp2
      go_ret
      exact ⟨by try rfl, HB.out⟩
    | true =>
      have oj := pr_ok hb
      have H4 := hide (Print_any (prV s))
      have H5 := hide (Quiet.says (Parse_any (prt (prV s)) (by rw [prt_size oj]; decide)))
      rw [(prt_back oj).1, (prt_back oj).2] at H5
      rw [hb] at H3
      clear hb ok oj
      generalize prV s = v at *
      generalize prt v = y at *
      have HB := hide (Below.refl w.heap.size w)
      have HT := hide hT
      clear hT
      go_enter Tryd.func4, Tryd.ntmps4
      go_wp2_with fail
      try rw [hk]
      clear hk
      go_wp2_with fail
      with_reducible refine (H1.out _ HT.out).mono ?_
      rintro e_ w1 ⟨rfl, b_⟩
      replace HT := hide (TabP.ext HT.out b_)
      replace HB := hide (Below.chain HB.out b_)
      clear b_
      go_wp2_with fail
      with_reducible refine (H2.out _).mono ?_
      rintro e_ w2 ⟨rfl, b_⟩
      replace HT := hide (TabP.ext HT.out b_)
      replace HB := hide (Below.chain HB.out b_)
      clear b_
      go_wp2_with fail
      with_reducible refine (H1.out _ HT.out).mono ?_
      rintro e_ w3 ⟨rfl, b_⟩
      replace HT := hide (TabP.ext HT.out b_)
      replace HB := hide (Below.chain HB.out b_)
      clear b_
      go_wp2_with fail
      with_reducible refine (H3.out _).mono ?_
      rintro e_ w4 ⟨rfl, b_⟩
      replace HT := hide (TabP.ext HT.out b_)
      replace HB := hide (Below.chain HB.out b_)
      clear b_
      go_wp2_with fail
      with_reducible refine (H4.out _ HT.out).mono ?_
      rintro e_ w5 ⟨rfl, b_⟩
      replace HT := hide (TabP.ext HT.out b_)
      replace HB := hide (Below.chain HB.out b_)
      clear b_
      go_wp2_with fail
      with_reducible refine (H5.out _).mono ?_
      rintro e_ w6 ⟨rfl, b_⟩
      replace HT := hide (TabP.ext HT.out b_)
      replace HB := hide (Below.chain HB.out b_)
      clear b_
      go_wp2_with fail
      with_reducible refine (awake_any _ HT.out).mono ?_
      rintro e_ w7 ⟨rfl, b_⟩
      replace HT := hide (TabP.ext HT.out b_)
      replace HB := hide (Below.chain HB.out b_)
      clear b_
      go_wp2
      go_ret
      exact ⟨by try rfl, HB.out⟩
end Go.Proofs.YteicdlomjhjiiaaDoor
