/- Dates read: the page's call. -/
import Derived.Test.YteicdlomjhjiiaaDoorDt6
namespace Go.Proofs.YteicdlomjhjiiaaDoor
open Go.RowKit
theorem pr_no {s : ByteArray} (h : prB s = false) : prV s = 0 ∧ prB s = false := ⟨by unfold prV; rw [h]; rfl, h⟩
theorem pr_yes {s : ByteArray} (h : prB s = true) : prV s = prN s ∧ prB s = true := ⟨by unfold prV; rw [h]; rfl, h⟩
theorem pr_loc {s : ByteArray} (h : locB (s.extract 0 19) = false) : prV s = 0 ∧ prB s = false := pr_no (by unfold prB; rw [h, Bool.false_and, Bool.and_false])
theorem pr_off {s : ByteArray} (h : offB (s.extract 19 s.size) = false) : prV s = 0 ∧ prB s = false := pr_no (by unfold prB; rw [h, Bool.false_and, Bool.and_false, Bool.and_false])
theorem pr_rng {s : ByteArray} {n : Int} (hn : prN s = n) (h : okM n = false) : prV s = 0 ∧ prB s = false := pr_no (by unfold prB; rw [hn, h, Bool.and_false, Bool.and_false, Bool.and_false])
theorem pr_all {s : ByteArray} {n : Int} (hs : 19 ≤ s.size) (hl : locB (s.extract 0 19) = true) (ho : offB (s.extract 19 s.size) = true) (hn : prN s = n) (h : okM n = true) : prV s = n ∧ prB s = true := by
  subst hn
  exact pr_yes (by unfold prB; rw [decide_eq_true hs, hl, ho, h]; rfl)
theorem pr_short {s : ByteArray} (h : ¬ 20 ≤ s.size) : prV s = 0 ∧ prB s = false := by
  refine pr_off ?_
  have hz : (s.extract 19 s.size).size = 0 := by rw [ByteArray.size_extract]; omega
  have hA : fitB (s.extract 19 s.size) shA = false := Bool.eq_false_iff.2 fun h => by
    have := fit_size h
    rw [hz] at this; revert this; decide
  have hB : fitB (s.extract 19 s.size) shB = false := Bool.eq_false_iff.2 fun h => by
    have := fit_size h
    rw [hz] at this; revert this; decide
  have hZ : isZ (s.extract 19 s.size) = false := by
    have e : s.extract 19 s.size = ⟨#[]⟩ := by
      apply ByteArray.ext
      apply Array.ext
      · exact hz
      · intro i h1 _
        have h2 : i < (s.extract 19 s.size).size := h1
        omega
    rw [e]
    decide +kernel
  unfold offB
  rw [hZ, hA, hB]
  rfl
theorem ckV_yes {h m x : Int} (c : okC h m x = true) : ckV h m x = 3600 * h + 60 * m + x := by unfold ckV; rw [if_pos c]
theorem okM_yes {n : Int} (h0 : 0 ≤ n) (h1 : n ≤ 253402300799) : okM n = true := decide_eq_true ⟨h0, h1⟩
theorem okM_no {n : Int} (h : ¬ (0 ≤ n ∧ n ≤ 253402300799)) : okM n = false := decide_eq_false h
theorem not_both {z : ByteArray} (hA : fitB z shA = true) : fitB z shB = false ∧ bt z 0 = 43 := by
  have h1 := fit_at (i := 0) hA (by decide)
  rw [show bt shA 0 = 43 by decide +kernel] at h1
  have e1 := of_decide_eq_true (by simpa [okc] using h1 : decide (bt z 0 = 43) = true)
  refine ⟨Bool.eq_false_iff.2 fun h2 => ?_, e1⟩
  have h3 := fit_at (i := 0) h2 (by decide)
  rw [show bt shB 0 = 45 by decide +kernel] at h3
  have e2 := of_decide_eq_true (by simpa [okc] using h3 : decide (bt z 0 = 45) = true)
  omega
theorem behind_45 {z : ByteArray} (hB : fitB z shB = true) : bt z 0 = 45 := by
  have h3 := fit_at (i := 0) hB (by decide)
  rw [show bt shB 0 = 45 by decide +kernel] at h3
  exact of_decide_eq_true (by simpa [okc] using h3 : decide (bt z 0 = 45) = true)
set_option maxRecDepth 100000 in
set_option maxHeartbeats 4000000 in
theorem rParse_any (s : ByteArray) (hs : s.size ≤ 9223372036854775807) : Quiet 11 #[.string s] (.tuple #[.int .i64 (prV s), .bool (prB s)]) := by
  intro w
  by_cases h20 : 20 ≤ s.size
  · have hl : (s.extract 0 19).size = 19 := by rw [ByteArray.size_extract]; omega
    have h20' : decide ((s.size : Int) < 20) = false := decide_eq_false (by omega)
    have HF := hide (shaped_any (s.extract 0 19) shL (by omega))
    cases hf : fitB (s.extract 0 19) shL with
    | false =>
      rw [hf] at HF
      have HQ : Hid (∃ m, w = w.drewN m) := hide ⟨0, rfl⟩
      go_enter Tryd.func11, Tryd.ntmps11
      go_wp2_with fail
      refine (HF.out _).mono ?_
      rintro e_ w1 ⟨rfl, hq_⟩
      replace HQ := hide (dq HQ.out hq_)
      clear hq_
      have hV := hide (pr_loc (by unfold locB; rw [hf, Bool.false_and]))
      go_wp2
      go_ret2
      exact ⟨by rw [hV.out.1, hV.out.2]; try rfl, HQ.out⟩
    | true =>
      have hlB0 : locB (s.extract 0 19) = (isD (100 * n2 s 0 + n2 s 2) (n2 s 5) (n2 s 8) && okC (n2 s 11) (n2 s 14) (n2 s 17)) := by
        unfold locB n4
        rw [hf, Bool.true_and, n2_pfx s 19 0 (by omega) (by omega), n2_pfx s 19 2 (by omega) (by omega), n2_pfx s 19 5 (by omega) (by omega), n2_pfx s 19 8 (by omega) (by omega), n2_pfx s 19 11 (by omega) (by omega), n2_pfx s 19 14 (by omega) (by omega), n2_pfx s 19 17 (by omega) (by omega)]
      have hlV0 : locV (s.extract 0 19) = dv (100 * n2 s 0 + n2 s 2) (n2 s 5) (n2 s 8) * 86400 + ckV (n2 s 11) (n2 s 14) (n2 s 17) := by
        unfold locV n4
        rw [hf, if_pos rfl, n2_pfx s 19 0 (by omega) (by omega), n2_pfx s 19 2 (by omega) (by omega), n2_pfx s 19 5 (by omega) (by omega), n2_pfx s 19 8 (by omega) (by omega), n2_pfx s 19 11 (by omega) (by omega), n2_pfx s 19 14 (by omega) (by omega), n2_pfx s 19 17 (by omega) (by omega)]
      rw [hf] at HF
      clear hf
      have H0 := hide (show Quiet 23 #[.string (s.extract 0 2)] (.int .i64 (n2 s 0)) from rtwo2_any s 0 (by omega))
      have q0 := n2_le s 0
      have H2 := hide (show Quiet 23 #[.string (s.extract 2 4)] (.int .i64 (n2 s 2)) from rtwo2_any s 2 (by omega))
      have q2 := n2_le s 2
      have H5 := hide (show Quiet 23 #[.string (s.extract 5 7)] (.int .i64 (n2 s 5)) from rtwo2_any s 5 (by omega))
      have q5 := n2_le s 5
      have H8 := hide (show Quiet 23 #[.string (s.extract 8 10)] (.int .i64 (n2 s 8)) from rtwo2_any s 8 (by omega))
      have q8 := n2_le s 8
      have H11 := hide (show Quiet 23 #[.string (s.extract 11 13)] (.int .i64 (n2 s 11)) from rtwo2_any s 11 (by omega))
      have q11 := n2_le s 11
      have H14 := hide (show Quiet 23 #[.string (s.extract 14 16)] (.int .i64 (n2 s 14)) from rtwo2_any s 14 (by omega))
      have q14 := n2_le s 14
      have H17 := hide (show Quiet 23 #[.string (s.extract 17 19)] (.int .i64 (n2 s 17)) from rtwo2_any s 17 (by omega))
      have q17 := n2_le s 17
      have HD := hide (rDays_any (100 * n2 s 0 + n2 s 2) (n2 s 5) (n2 s 8))
      have d1 := dv_bound (100 * n2 s 0 + n2 s 2) (n2 s 5) (n2 s 8)
      unfold dayV at HD
      generalize dv (100 * n2 s 0 + n2 s 2) (n2 s 5) (n2 s 8) = dd at *
      generalize isD (100 * n2 s 0 + n2 s 2) (n2 s 5) (n2 s 8) = db at *
      generalize n2 s 0 = x0 at *
      generalize n2 s 2 = x2 at *
      generalize n2 s 5 = x5 at *
      generalize n2 s 8 = x8 at *
      generalize n2 s 11 = x11 at *
      generalize n2 s 14 = x14 at *
      generalize n2 s 17 = x17 at *
      have hs20 : (20 : Int) ≤ (s.size : Int) := by omega
      have HQ : Hid (∃ m, w = w.drewN m) := hide ⟨0, rfl⟩
      go_enter Tryd.func11, Tryd.ntmps11
      go_wp2_with fail
      refine (HF.out _).mono ?_
      rintro e_ w1 ⟨rfl, hq_⟩
      replace HQ := hide (dq HQ.out hq_)
      clear hq_
      go_wp2_with fail
      go_quiet (first | (go_at_call 23; with_reducible exact Calls.quiet_of (H0.out _)) | (go_at_call 23; with_reducible exact Calls.quiet_of (H2.out _)) | (go_at_call 23; with_reducible exact Calls.quiet_of (H5.out _)) | (go_at_call 23; with_reducible exact Calls.quiet_of (H8.out _)) | (go_at_call 23; with_reducible exact Calls.quiet_of (H11.out _)) | (go_at_call 23; with_reducible exact Calls.quiet_of (H14.out _)) | (go_at_call 23; with_reducible exact Calls.quiet_of (H17.out _)) | (go_at_call 13; with_reducible exact Calls.quiet_of_same (HD.out _)))
      replace HQ := hide (dq HQ.out ⟨nq, rfl⟩)
      generalize w1.drewN nq = w2 at HQ ⊢
      go_wp2_with fail
      go_quiet (first | (go_at_call 23; with_reducible exact Calls.quiet_of (H0.out _)) | (go_at_call 23; with_reducible exact Calls.quiet_of (H2.out _)) | (go_at_call 23; with_reducible exact Calls.quiet_of (H5.out _)) | (go_at_call 23; with_reducible exact Calls.quiet_of (H8.out _)) | (go_at_call 23; with_reducible exact Calls.quiet_of (H11.out _)) | (go_at_call 23; with_reducible exact Calls.quiet_of (H14.out _)) | (go_at_call 23; with_reducible exact Calls.quiet_of (H17.out _)) | (go_at_call 13; with_reducible exact Calls.quiet_of_same (HD.out _)))
      replace HQ := hide (dq HQ.out ⟨nq, rfl⟩)
      generalize w2.drewN nq = w3 at HQ ⊢
      cases db with
      | false =>
        have hV := hide (pr_loc (by rw [hlB0, Bool.false_and]))
        go_wp2
        go_ret2
        exact ⟨by rw [hV.out.1, hV.out.2]; try rfl, HQ.out⟩
      | true =>
        by_cases c1 : x11 ≤ 23
        · by_cases c2 : x14 ≤ 59
          · by_cases c3 : x17 ≤ 59
            · have hc : okC x11 x14 x17 = true := decide_eq_true ⟨c1, c2, c3⟩
              have hlB : locB (s.extract 0 19) = true := by rw [hlB0, hc]; rfl
              have hlV : locV (s.extract 0 19) = dd * 86400 + (3600 * x11 + 60 * x14 + x17) := by rw [hlV0, ckV_yes hc]
              clear hlB0 hlV0
              cases hZ : isZ (s.extract 19 s.size) with
              | true =>
                have hZ2 : ((s.extract 19 s.size).toList == [90]) = true := hZ
                have hZ3 : ((s.extract 19 s.size).toList != [90]) = false := by unfold bne; rw [hZ2]; rfl
                have hb0 : offB (s.extract 19 s.size) = true := by unfold offB; rw [hZ, Bool.true_or]
                have hv0 : offV (s.extract 19 s.size) = 0 := by unfold offV; rw [hZ, if_pos rfl]
                have HZ := hide hZ
                clear hZ
                have hn := show prN s = dd * 86400 + (3600 * x11 + 60 * x14 + x17) by unfold prN; rw [hlV, hv0]; omega
                have r1 : dd * 86400 + (3600 * x11 + 60 * x14 + x17) ≤ 253402300799 := by omega
                by_cases r0 : 0 ≤ dd * 86400 + (3600 * x11 + 60 * x14 + x17)
                · have hV := hide (pr_all (by omega) hlB hb0 hn (okM_yes r0 r1))
                  go_wp2
                  go_ret2
                  exact ⟨by rw [hV.out.1, hV.out.2]; try rfl, HQ.out⟩
                · have hV := hide (pr_rng hn (okM_no fun h => r0 h.1))
                  go_wp2
                  go_ret2
                  exact ⟨by rw [hV.out.1, hV.out.2]; try rfl, HQ.out⟩
              | false =>
                have hZ2 : ((s.extract 19 s.size).toList == [90]) = false := hZ
                have hZ3 : ((s.extract 19 s.size).toList != [90]) = true := by unfold bne; rw [hZ2]; rfl
                have GA := hide (shaped_any (s.extract 19 s.size) shA (by rw [ByteArray.size_extract]; omega))
                have GB := hide (shaped_any (s.extract 19 s.size) shB (by rw [ByteArray.size_extract]; omega))
                cases hA : fitB (s.extract 19 s.size) shA with
                | false =>
                  rw [hA] at GA
                  go_wp2_with fail
                  refine (GA.out _).mono ?_
                  rintro e_ w4 ⟨rfl, hq_⟩
                  replace HQ := hide (dq HQ.out hq_)
                  clear hq_
                  cases hB : fitB (s.extract 19 s.size) shB with
                  | false =>
                    rw [hB] at GB
                    go_wp2_with fail
                    refine (GB.out _).mono ?_
                    rintro e_ w5 ⟨rfl, hq_⟩
                    replace HQ := hide (dq HQ.out hq_)
                    clear hq_
                    have hV := hide (pr_off (by unfold offB; rw [hZ, hA, hB, Bool.false_or, Bool.false_or, Bool.false_and]))
                    go_wp2
                    go_ret2
                    exact ⟨by rw [hV.out.1, hV.out.2]; try rfl, HQ.out⟩
                  | true =>
                    rw [hB] at GB
                    go_wp2_with fail
                    refine (GB.out _).mono ?_
                    rintro e_ w5 ⟨rfl, hq_⟩
                    replace HQ := hide (dq HQ.out hq_)
                    clear hq_
                    have hz : (s.extract 19 s.size).size = 6 := fit_size hB
                    have hz' : ((s.extract 19 s.size).size : Int) = 6 := by omega
                    have G1 := hide (show Quiet 23 #[.string ((s.extract 19 s.size).extract 1 3)] (.int .i64 (n2 (s.extract 19 s.size) 1)) from rtwo2_any _ 1 (by omega))
                    have G4 := hide (show Quiet 23 #[.string ((s.extract 19 s.size).extract 4 6)] (.int .i64 (n2 (s.extract 19 s.size) 4)) from rtwo2_any _ 4 (by omega))
                    have g1 := n2_le (s.extract 19 s.size) 1
                    have g4 := n2_le (s.extract 19 s.size) 4
                    have hi0 : ∀ w_ : World, (Instr.index 9 (.string (s.extract 19 s.size)) (.int .i64 0)).run Tryd.prog w_ = .ok (.int .u8 (bt (s.extract 19 s.size) 0 : Int)) w_ := str_ix _ 0 (by omega)
                    rw [behind_45 hB] at hi0
                    have hb0 : offB (s.extract 19 s.size) = okC (n2 (s.extract 19 s.size) 1) (n2 (s.extract 19 s.size) 4) 0 := by unfold offB; rw [hZ, hA, hB, Bool.false_or, Bool.false_or, Bool.true_and]
                    have hv0 : offV (s.extract 19 s.size) = -ckV (n2 (s.extract 19 s.size) 1) (n2 (s.extract 19 s.size) 4) 0 := by unfold offV; rw [hZ, if_neg Bool.false_ne_true, hB, if_pos rfl]
                    generalize n2 (s.extract 19 s.size) 1 = oh at *
                    generalize n2 (s.extract 19 s.size) 4 = om at *
                    go_wp2_with fail
                    go_quiet (first | (go_at_call 23; with_reducible exact Calls.quiet_of (G1.out _)) | (go_at_call 23; with_reducible exact Calls.quiet_of (G4.out _)))
                    replace HQ := hide (dq HQ.out ⟨nq, rfl⟩)
                    generalize w5.drewN nq = w6 at HQ ⊢
                    by_cases o1 : oh ≤ 23
                    · by_cases o2 : om ≤ 59
                      · have ho : okC oh om 0 = true := decide_eq_true ⟨o1, o2, by decide⟩
                        rw [ho] at hb0
                        rw [ckV_yes ho] at hv0
                        have hn := show prN s = dd * 86400 + (3600 * x11 + 60 * x14 + x17) + (3600 * oh + 60 * om) by unfold prN; rw [hlV, hv0]; omega
                        by_cases r0 : 0 ≤ dd * 86400 + (3600 * x11 + 60 * x14 + x17) + (3600 * oh + 60 * om)
                        · by_cases r1 : dd * 86400 + (3600 * x11 + 60 * x14 + x17) + (3600 * oh + 60 * om) ≤ 253402300799
                          · have hV := hide (pr_all (by omega) hlB hb0 hn (okM_yes r0 r1))
                            go_wp2
                            go_ret2
                            exact ⟨by rw [hV.out.1, hV.out.2]; try rfl, HQ.out⟩
                          · have hV := hide (pr_rng hn (okM_no fun h => r1 h.2))
                            go_wp2
                            go_ret2
                            exact ⟨by rw [hV.out.1, hV.out.2]; try rfl, HQ.out⟩
                        · have hV := hide (pr_rng hn (okM_no fun h => r0 h.1))
                          go_wp2
                          go_ret2
                          exact ⟨by rw [hV.out.1, hV.out.2]; try rfl, HQ.out⟩
                      · have hV := hide (pr_off (hb0.trans (decide_eq_false fun h => o2 h.2.1)))
                        go_wp2
                        go_ret2
                        exact ⟨by rw [hV.out.1, hV.out.2]; try rfl, HQ.out⟩
                    · have hV := hide (pr_off (hb0.trans (decide_eq_false fun h => o1 h.1)))
                      go_wp2
                      go_ret2
                      exact ⟨by rw [hV.out.1, hV.out.2]; try rfl, HQ.out⟩
                | true =>
                  rw [hA] at GA
                  go_wp2_with fail
                  refine (GA.out _).mono ?_
                  rintro e_ w4 ⟨rfl, hq_⟩
                  replace HQ := hide (dq HQ.out hq_)
                  clear hq_
                  have hz : (s.extract 19 s.size).size = 6 := fit_size hA
                  have hz' : ((s.extract 19 s.size).size : Int) = 6 := by omega
                  have G1 := hide (show Quiet 23 #[.string ((s.extract 19 s.size).extract 1 3)] (.int .i64 (n2 (s.extract 19 s.size) 1)) from rtwo2_any _ 1 (by omega))
                  have G4 := hide (show Quiet 23 #[.string ((s.extract 19 s.size).extract 4 6)] (.int .i64 (n2 (s.extract 19 s.size) 4)) from rtwo2_any _ 4 (by omega))
                  have g1 := n2_le (s.extract 19 s.size) 1
                  have g4 := n2_le (s.extract 19 s.size) 4
                  have hi0 : ∀ w_ : World, (Instr.index 9 (.string (s.extract 19 s.size)) (.int .i64 0)).run Tryd.prog w_ = .ok (.int .u8 (bt (s.extract 19 s.size) 0 : Int)) w_ := str_ix _ 0 (by omega)
                  rw [(not_both hA).2] at hi0
                  have hb0 : offB (s.extract 19 s.size) = okC (n2 (s.extract 19 s.size) 1) (n2 (s.extract 19 s.size) 4) 0 := by unfold offB; rw [hZ, hA, Bool.false_or, Bool.true_or, Bool.true_and]
                  have hv0 : offV (s.extract 19 s.size) = ckV (n2 (s.extract 19 s.size) 1) (n2 (s.extract 19 s.size) 4) 0 := by unfold offV; rw [hZ, if_neg Bool.false_ne_true, (not_both hA).1, if_neg Bool.false_ne_true, hA, if_pos rfl]
                  generalize n2 (s.extract 19 s.size) 1 = oh at *
                  generalize n2 (s.extract 19 s.size) 4 = om at *
                  go_wp2_with fail
                  go_quiet (first | (go_at_call 23; with_reducible exact Calls.quiet_of (G1.out _)) | (go_at_call 23; with_reducible exact Calls.quiet_of (G4.out _)))
                  replace HQ := hide (dq HQ.out ⟨nq, rfl⟩)
                  generalize w4.drewN nq = w5 at HQ ⊢
                  by_cases o1 : oh ≤ 23
                  · by_cases o2 : om ≤ 59
                    · have ho : okC oh om 0 = true := decide_eq_true ⟨o1, o2, by decide⟩
                      rw [ho] at hb0
                      rw [ckV_yes ho] at hv0
                      have hn := show prN s = dd * 86400 + (3600 * x11 + 60 * x14 + x17) - (3600 * oh + 60 * om) by unfold prN; rw [hlV, hv0]; omega
                      have r1 : dd * 86400 + (3600 * x11 + 60 * x14 + x17) - (3600 * oh + 60 * om) ≤ 253402300799 := by omega
                      by_cases r0 : 0 ≤ dd * 86400 + (3600 * x11 + 60 * x14 + x17) - (3600 * oh + 60 * om)
                      · have hV := hide (pr_all (by omega) hlB hb0 hn (okM_yes r0 r1))
                        go_wp2
                        go_ret2
                        exact ⟨by rw [hV.out.1, hV.out.2]; try rfl, HQ.out⟩
                      · have hV := hide (pr_rng hn (okM_no fun h => r0 h.1))
                        go_wp2
                        go_ret2
                        exact ⟨by rw [hV.out.1, hV.out.2]; try rfl, HQ.out⟩
                    · have hV := hide (pr_off (hb0.trans (decide_eq_false fun h => o2 h.2.1)))
                      go_wp2
                      go_ret2
                      exact ⟨by rw [hV.out.1, hV.out.2]; try rfl, HQ.out⟩
                  · have hV := hide (pr_off (hb0.trans (decide_eq_false fun h => o1 h.1)))
                    go_wp2
                    go_ret2
                    exact ⟨by rw [hV.out.1, hV.out.2]; try rfl, HQ.out⟩
            · have hV := hide (pr_loc (by rw [hlB0, Bool.true_and]; exact decide_eq_false fun h => c3 h.2.2))
              go_wp2
              go_ret2
              exact ⟨by rw [hV.out.1, hV.out.2]; try rfl, HQ.out⟩
          · have hV := hide (pr_loc (by rw [hlB0, Bool.true_and]; exact decide_eq_false fun h => c2 h.2.1))
            go_wp2
            go_ret2
            exact ⟨by rw [hV.out.1, hV.out.2]; try rfl, HQ.out⟩
        · have hV := hide (pr_loc (by rw [hlB0, Bool.true_and]; exact decide_eq_false fun h => c1 h.1))
          go_wp2
          go_ret2
          exact ⟨by rw [hV.out.1, hV.out.2]; try rfl, HQ.out⟩
  · have h20' : decide ((s.size : Int) < 20) = true := decide_eq_true (by omega)
    have HQ : Hid (∃ m, w = w.drewN m) := hide ⟨0, rfl⟩
    go_enter Tryd.func11, Tryd.ntmps11
    have hV := hide (pr_short h20)
    go_wp2
    go_ret2
    exact ⟨by rw [hV.out.1, hV.out.2]; try rfl, HQ.out⟩
end Go.Proofs.YteicdlomjhjiiaaDoor
