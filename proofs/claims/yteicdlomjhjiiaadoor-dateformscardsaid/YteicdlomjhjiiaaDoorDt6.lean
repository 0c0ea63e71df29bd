/- Dates read: the program's call. -/
import Derived.Test.YteicdlomjhjiiaaDoorDt5
namespace Go.Proofs.YteicdlomjhjiiaaDoor
open Go.RowKit
/-- What a date looks like, ahead of its offset; an offset on either side. -/
abbrev shL : ByteArray := ⟨#[48, 48, 48, 48, 45, 48, 48, 45, 48, 48, 84, 48, 48, 58, 48, 48, 58, 48, 48]⟩
abbrev shA : ByteArray := ⟨#[43, 48, 48, 58, 48, 48]⟩
abbrev shB : ByteArray := ⟨#[45, 48, 48, 58, 48, 48]⟩
/-- Two digits of a text, and its first four, as numbers. -/
def n2 (s : ByteArray) (i : Nat) : Int := 10 * (dg (bt s i) : Int) + (dg (bt s (i + 1)) : Int)
def n4 (s : ByteArray) : Int := 100 * n2 s 0 + n2 s 2
theorem n2_le (s : ByteArray) (i : Nat) : 0 ≤ n2 s i ∧ n2 s i ≤ 2805 := by
  have := dg_lt (bt s i)
  have := dg_lt (bt s (i + 1))
  unfold n2; omega
theorem n4_le (s : ByteArray) : 0 ≤ n4 s ∧ n4 s ≤ 283305 := by
  have := n2_le s 0
  have := n2_le s 2
  unfold n4; omega
theorem bt_ext (s : ByteArray) (a b i : Nat) (h : i < min b s.size - a) : bt (s.extract a b) i = bt s (a + i) := by
  unfold bt
  rw [ByteArray.data_extract, Array.getElem?_extract]
  rw [if_pos (show i < min b s.data.size - a from h)]
theorem nm_2 (s : ByteArray) (i : Nat) (h : i + 2 ≤ s.size) : (nm (s.extract i (i + 2)) : Int) = n2 s i := by
  have hz : (s.extract i (i + 2)).size = 2 := by rw [ByteArray.size_extract]; omega
  unfold nm n2
  rw [hz]
  simp only [nmk]
  rw [bt_ext s i (i + 2) 0 (by omega), bt_ext s i (i + 2) 1 (by omega), Nat.add_zero]
  omega
theorem nm_4 (s : ByteArray) (h : 4 ≤ s.size) : (nm (s.extract 0 4) : Int) = n4 s := by
  have hz : (s.extract 0 4).size = 4 := by rw [ByteArray.size_extract]; omega
  unfold nm n4 n2
  rw [hz]
  simp only [nmk]
  rw [bt_ext s 0 4 0 (by omega), bt_ext s 0 4 1 (by omega), bt_ext s 0 4 2 (by omega), bt_ext s 0 4 3 (by omega)]
  simp only [Nat.zero_add, Nat.reduceAdd]
  omega
theorem n2_pfx (s : ByteArray) (k i : Nat) (h : i + 2 ≤ k) (hk : k ≤ s.size) : n2 (s.extract 0 k) i = n2 s i := by
  unfold n2
  rw [bt_ext s 0 k i (by omega), bt_ext s 0 k (i + 1) (by omega), Nat.zero_add, Nat.zero_add]
theorem number2_any (s : ByteArray) (i : Nat) (h : i + 2 ≤ s.size) : Tells 34 #[.string (s.extract i (i + 2))] (.int .i64 (n2 s i)) :=
  (number_any (s.extract i (i + 2)) (by rw [ByteArray.size_extract]; omega)).of rfl (by rw [nm_2 s i h])
theorem number4_any (s : ByteArray) (h : 4 ≤ s.size) : Tells 34 #[.string (s.extract 0 4)] (.int .i64 (n4 s)) :=
  (number_any (s.extract 0 4) (by rw [ByteArray.size_extract]; omega)).of rfl (by rw [nm_4 s h])
theorem rtwo2_any (s : ByteArray) (i : Nat) (h : i + 2 ≤ s.size) : Quiet 23 #[.string (s.extract i (i + 2))] (.int .i64 (n2 s i)) := by
  rw [← nm_2 s i h]
  exact rtwo_any (s.extract i (i + 2)) (by rw [ByteArray.size_extract]; omega)
theorem dv_bound (y m d : Int) : -719528 ≤ dv y m d ∧ dv y m d ≤ 2932896 := by
  unfold dv
  split
  · exact dn_bound (by assumption)
  · omega
theorem ckV_bound {h m x : Int} (h0 : 0 ≤ h) (m0 : 0 ≤ m) (x0 : 0 ≤ x) : 0 ≤ ckV h m x ∧ ckV h m x ≤ 86399 := by
  unfold ckV
  split
  · rename_i hh
    have := of_decide_eq_true hh
    omega
  · omega
/-- What a date without its offset says. -/
def locB (l : ByteArray) : Bool := fitB l shL && (isD (n4 l) (n2 l 5) (n2 l 8) && okC (n2 l 11) (n2 l 14) (n2 l 17))
def locV (l : ByteArray) : Int := if fitB l shL then dv (n4 l) (n2 l 5) (n2 l 8) * 86400 + ckV (n2 l 11) (n2 l 14) (n2 l 17) else 0
theorem dq {w a b : World} (h : ∃ m, a = w.drewN m) (k : ∃ m, b = a.drewN m) : ∃ m, b = w.drewN m := by
  obtain ⟨m, rfl⟩ := h
  obtain ⟨n, rfl⟩ := k
  exact dN _ _ _
theorem fit_size {s p : ByteArray} (h : fitB s p = true) : s.size = p.size := by
  unfold fitB at h
  exact of_decide_eq_true ((Bool.and_eq_true _ _).mp h).1
theorem locV_bound (l : ByteArray) : -719528 * 86400 ≤ locV l ∧ locV l ≤ 2932896 * 86400 + 86399 := by
  have a := dv_bound (n4 l) (n2 l 5) (n2 l 8)
  have b := ckV_bound (n2_le l 11).1 (n2_le l 14).1 (n2_le l 17).1
  unfold locV
  split <;> omega
set_option maxRecDepth 100000 in
set_option maxHeartbeats 2000000 in
theorem parseLocal_any (l : ByteArray) (hs : l.size ≤ 9223372036854775807) : Quiet 19 #[.string l] (.tuple #[.int .i64 (locV l), .bool (locB l)]) := by
  intro w
  have HF := hide (fits_any l shL hs)
  cases hf : fitB l shL with
  | false =>
    have hV := hide (show locV l = 0 ∧ locB l = false from ⟨by unfold locV; rw [hf]; rfl, by unfold locB; rw [hf]; rfl⟩)
    rw [hf] at HF
    clear hf
    have HQ : Hid (∃ m, w = w.drewN m) := hide ⟨0, rfl⟩
    go_enter Tryd.func19, Tryd.ntmps19
    go_wp2_with fail
    refine (HF.out _).mono ?_
    rintro e_ w1 ⟨rfl, hq_⟩
    replace HQ := hide (dq HQ.out hq_)
    clear hq_
    go_wp2
    go_ret2
    exact ⟨by rw [hV.out.1, hV.out.2]; try rfl, HQ.out⟩
  | true =>
    have hz : l.size = 19 := fit_size hf
    have hV := hide (show locV l = dv (n4 l) (n2 l 5) (n2 l 8) * 86400 + ckV (n2 l 11) (n2 l 14) (n2 l 17) ∧ locB l = (isD (n4 l) (n2 l 5) (n2 l 8) && okC (n2 l 11) (n2 l 14) (n2 l 17)) from ⟨by unfold locV; rw [hf]; rfl, by unfold locB; rw [hf]; rfl⟩)
    rw [hf] at HF
    clear hf
    have H0 := hide (number4_any l (by omega))
    have H5 := hide (show Tells 34 #[.string (l.extract 5 7)] (.int .i64 (n2 l 5)) from number2_any l 5 (by omega))
    have H8 := hide (show Tells 34 #[.string (l.extract 8 10)] (.int .i64 (n2 l 8)) from number2_any l 8 (by omega))
    have H11 := hide (show Tells 34 #[.string (l.extract 11 13)] (.int .i64 (n2 l 11)) from number2_any l 11 (by omega))
    have H14 := hide (show Tells 34 #[.string (l.extract 14 16)] (.int .i64 (n2 l 14)) from number2_any l 14 (by omega))
    have H17 := hide (show Tells 34 #[.string (l.extract 17 19)] (.int .i64 (n2 l 17)) from number2_any l 17 (by omega))
    have HD := hide (Days_any (n4 l) (n2 l 5) (n2 l 8))
    have HC := hide (clockOf_any (n2 l 11) (n2 l 14) (n2 l 17) (n2_le l 11).1 (n2_le l 14).1 (n2_le l 17).1)
    have d1 := dv_bound (n4 l) (n2 l 5) (n2 l 8)
    have c1 := ckV_bound (n2_le l 11).1 (n2_le l 14).1 (n2_le l 17).1
    unfold dayV at HD
    unfold clkV at HC
    generalize dv (n4 l) (n2 l 5) (n2 l 8) = dd at *
    generalize isD (n4 l) (n2 l 5) (n2 l 8) = db at *
    generalize ckV (n2 l 11) (n2 l 14) (n2 l 17) = cc at *
    generalize okC (n2 l 11) (n2 l 14) (n2 l 17) = cb at *
    generalize n4 l = y at *
    generalize n2 l 5 = x5 at *
    generalize n2 l 8 = x8 at *
    generalize n2 l 11 = x11 at *
    generalize n2 l 14 = x14 at *
    generalize n2 l 17 = x17 at *
    have hz' : (l.size : Int) = 19 := by omega
    have HQ : Hid (∃ m, w = w.drewN m) := hide ⟨0, rfl⟩
    go_enter Tryd.func19, Tryd.ntmps19
    go_wp2_with fail
    refine (HF.out _).mono ?_
    rintro e_ w1 ⟨rfl, hq_⟩
    replace HQ := hide (dq HQ.out hq_)
    clear hq_
    go_wp2_with fail
    go_quiet (first | (go_at_call 34; with_reducible exact Calls.quiet_of_same (H0.out _)) | (go_at_call 34; with_reducible exact Calls.quiet_of_same (H5.out _)) | (go_at_call 34; with_reducible exact Calls.quiet_of_same (H8.out _)) | (go_at_call 34; with_reducible exact Calls.quiet_of_same (H11.out _)) | (go_at_call 34; with_reducible exact Calls.quiet_of_same (H14.out _)) | (go_at_call 34; with_reducible exact Calls.quiet_of_same (H17.out _)) | (go_at_call 12; with_reducible exact Calls.quiet_of_same (HD.out _)) | (go_at_call 35; with_reducible exact Calls.quiet_of_same (HC.out _)))
    replace HQ := hide (dq HQ.out ⟨nq, rfl⟩)
    generalize w1.drewN nq = w2 at HQ ⊢
    go_wp2_with fail
    go_quiet (first | (go_at_call 34; with_reducible exact Calls.quiet_of_same (H0.out _)) | (go_at_call 34; with_reducible exact Calls.quiet_of_same (H5.out _)) | (go_at_call 34; with_reducible exact Calls.quiet_of_same (H8.out _)) | (go_at_call 34; with_reducible exact Calls.quiet_of_same (H11.out _)) | (go_at_call 34; with_reducible exact Calls.quiet_of_same (H14.out _)) | (go_at_call 34; with_reducible exact Calls.quiet_of_same (H17.out _)) | (go_at_call 12; with_reducible exact Calls.quiet_of_same (HD.out _)) | (go_at_call 35; with_reducible exact Calls.quiet_of_same (HC.out _)))
    replace HQ := hide (dq HQ.out ⟨nq, rfl⟩)
    generalize w2.drewN nq = w3 at HQ ⊢
    cases db with
    | true =>
      go_wp2
      go_ret2
      exact ⟨by rw [hV.out.1, hV.out.2]; try rfl, HQ.out⟩
    | false =>
      go_wp2
      go_ret2
      exact ⟨by rw [hV.out.1, hV.out.2]; try rfl, HQ.out⟩
/-- What an offset says. -/
def isZ (z : ByteArray) : Bool := z.toList == [90]
def offB (z : ByteArray) : Bool := isZ z || ((fitB z shA || fitB z shB) && okC (n2 z 1) (n2 z 4) 0)
def offV (z : ByteArray) : Int := if isZ z then 0 else if fitB z shB then -ckV (n2 z 1) (n2 z 4) 0 else if fitB z shA then ckV (n2 z 1) (n2 z 4) 0 else 0
theorem offV_bound (z : ByteArray) : -86399 ≤ offV z ∧ offV z ≤ 86399 := by
  have b := ckV_bound (n2_le z 1).1 (n2_le z 4).1 (Int.le_refl 0)
  unfold offV
  split
  · omega
  · split
    · omega
    · split <;> omega
theorem fit_at {s p : ByteArray} {i : Nat} (h : fitB s p = true) (hi : i < p.size) : okc (bt p i) (bt s i) = true := by
  have hz := fit_size h
  unfold fitB at h
  exact List.all_eq_true.1 ((Bool.and_eq_true _ _).mp h).2 i (List.mem_range.2 (by omega))
set_option maxRecDepth 100000 in
set_option maxHeartbeats 2000000 in
theorem parseOffset_any (z : ByteArray) (hs : z.size ≤ 9223372036854775807) : Quiet 20 #[.string z] (.tuple #[.int .i64 (offV z), .bool (offB z)]) := by
  intro w
  have HA := hide (fits_any z shA hs)
  have HB := hide (fits_any z shB hs)
  cases hZ : isZ z with
  | true =>
    have hV := hide (show offV z = 0 ∧ offB z = true from ⟨by unfold offV; rw [hZ]; rfl, by unfold offB; rw [hZ]; rfl⟩)
    have hZ2 : (z.toList == [90]) = true := hZ
    clear hZ
    have HQ : Hid (∃ m, w = w.drewN m) := hide ⟨0, rfl⟩
    go_enter Tryd.func20, Tryd.ntmps20
    go_wp2
    go_ret2
    exact ⟨by rw [hV.out.1, hV.out.2]; try rfl, HQ.out⟩
  | false =>
    have hZ2 : (z.toList == [90]) = false := hZ
    cases hA : fitB z shA with
    | false =>
      cases hB : fitB z shB with
      | false =>
        have hV := hide (show offV z = 0 ∧ offB z = false from ⟨by unfold offV; rw [hZ, hA, hB]; rfl, by unfold offB; rw [hZ, hA, hB]; rfl⟩)
        rw [hA] at HA
        rw [hB] at HB
        clear hZ hA hB
        have HQ : Hid (∃ m, w = w.drewN m) := hide ⟨0, rfl⟩
        go_enter Tryd.func20, Tryd.ntmps20
        go_wp2_with fail
        refine (HA.out _).mono ?_
        rintro e_ w1 ⟨rfl, hq_⟩
        replace HQ := hide (dq HQ.out hq_)
        clear hq_
        go_wp2_with fail
        refine (HB.out _).mono ?_
        rintro e_ w2 ⟨rfl, hq_⟩
        replace HQ := hide (dq HQ.out hq_)
        clear hq_
        go_wp2
        go_ret2
        exact ⟨by rw [hV.out.1, hV.out.2]; try rfl, HQ.out⟩
      | true =>
        have hV := hide (show offV z = -ckV (n2 z 1) (n2 z 4) 0 ∧ offB z = okC (n2 z 1) (n2 z 4) 0 from ⟨by unfold offV; rw [hZ, hB]; rfl, by unfold offB; rw [hZ, hA, hB]; rfl⟩)
        have hz : z.size = 6 := fit_size hB
        have hz' : (z.size : Int) = 6 := by omega
        have H1 := hide (show Tells 34 #[.string (z.extract 1 3)] (.int .i64 (n2 z 1)) from number2_any z 1 (by omega))
        have H4 := hide (show Tells 34 #[.string (z.extract 4 6)] (.int .i64 (n2 z 4)) from number2_any z 4 (by omega))
        have HC := hide (clockOf_any (n2 z 1) (n2 z 4) 0 (n2_le z 1).1 (n2_le z 4).1 (Int.le_refl 0))
        have c1 := ckV_bound (n2_le z 1).1 (n2_le z 4).1 (Int.le_refl 0)
        unfold clkV at HC
        rw [hA] at HA
        rw [hB] at HB
        clear hZ hA hB
        generalize ckV (n2 z 1) (n2 z 4) 0 = cc at *
        generalize okC (n2 z 1) (n2 z 4) 0 = cb at *
        generalize n2 z 1 = x1 at *
        generalize n2 z 4 = x4 at *
        have HQ : Hid (∃ m, w = w.drewN m) := hide ⟨0, rfl⟩
        go_enter Tryd.func20, Tryd.ntmps20
        go_wp2_with fail
        refine (HA.out _).mono ?_
        rintro e_ w1 ⟨rfl, hq_⟩
        replace HQ := hide (dq HQ.out hq_)
        clear hq_
        go_wp2_with fail
        refine (HB.out _).mono ?_
        rintro e_ w2 ⟨rfl, hq_⟩
        replace HQ := hide (dq HQ.out hq_)
        clear hq_
        go_wp2_with fail
        go_quiet (first | (go_at_call 34; with_reducible exact Calls.quiet_of_same (H1.out _)) | (go_at_call 34; with_reducible exact Calls.quiet_of_same (H4.out _)) | (go_at_call 35; with_reducible exact Calls.quiet_of_same (HC.out _)))
        replace HQ := hide (dq HQ.out ⟨nq, rfl⟩)
        generalize w2.drewN nq = w3 at HQ ⊢
        go_wp2
        go_ret2
        exact ⟨by rw [hV.out.1, hV.out.2]; try rfl, HQ.out⟩
    | true =>
      have hB : fitB z shB = false := by
        have := fit_at (i := 0) hA (by decide)
        refine Bool.eq_false_iff.2 fun h2 => ?_
        have h3 := fit_at (i := 0) h2 (by decide)
        rw [show bt shA 0 = 43 by decide +kernel] at this
        rw [show bt shB 0 = 45 by decide +kernel] at h3
        simp only [okc] at this h3
        have e1 := of_decide_eq_true (by simpa using this : decide (bt z 0 = 43) = true)
        have e2 := of_decide_eq_true (by simpa using h3 : decide (bt z 0 = 45) = true)
        omega
      have hV := hide (show offV z = ckV (n2 z 1) (n2 z 4) 0 ∧ offB z = okC (n2 z 1) (n2 z 4) 0 from ⟨by unfold offV; rw [hZ, hB, hA]; rfl, by unfold offB; rw [hZ, hA]; rfl⟩)
      have hz : z.size = 6 := fit_size hA
      have hz' : (z.size : Int) = 6 := by omega
      have H1 := hide (show Tells 34 #[.string (z.extract 1 3)] (.int .i64 (n2 z 1)) from number2_any z 1 (by omega))
      have H4 := hide (show Tells 34 #[.string (z.extract 4 6)] (.int .i64 (n2 z 4)) from number2_any z 4 (by omega))
      have HC := hide (clockOf_any (n2 z 1) (n2 z 4) 0 (n2_le z 1).1 (n2_le z 4).1 (Int.le_refl 0))
      have c1 := ckV_bound (n2_le z 1).1 (n2_le z 4).1 (Int.le_refl 0)
      unfold clkV at HC
      rw [hA] at HA
      rw [hB] at HB
      clear hZ hA hB
      generalize ckV (n2 z 1) (n2 z 4) 0 = cc at *
      generalize okC (n2 z 1) (n2 z 4) 0 = cb at *
      generalize n2 z 1 = x1 at *
      generalize n2 z 4 = x4 at *
      have HQ : Hid (∃ m, w = w.drewN m) := hide ⟨0, rfl⟩
      go_enter Tryd.func20, Tryd.ntmps20
      go_wp2_with fail
      refine (HA.out _).mono ?_
      rintro e_ w1 ⟨rfl, hq_⟩
      replace HQ := hide (dq HQ.out hq_)
      clear hq_
      go_wp2_with fail
      refine (HB.out _).mono ?_
      rintro e_ w2 ⟨rfl, hq_⟩
      replace HQ := hide (dq HQ.out hq_)
      clear hq_
      go_wp2_with fail
      go_quiet (first | (go_at_call 34; with_reducible exact Calls.quiet_of_same (H1.out _)) | (go_at_call 34; with_reducible exact Calls.quiet_of_same (H4.out _)) | (go_at_call 35; with_reducible exact Calls.quiet_of_same (HC.out _)))
      replace HQ := hide (dq HQ.out ⟨nq, rfl⟩)
      generalize w2.drewN nq = w3 at HQ ⊢
      go_wp2
      go_ret2
      exact ⟨by rw [hV.out.1, hV.out.2]; try rfl, HQ.out⟩
/-- What a date says. -/
def prN (s : ByteArray) : Int := locV (s.extract 0 19) - offV (s.extract 19 s.size)
def prB (s : ByteArray) : Bool := decide (19 ≤ s.size) && (locB (s.extract 0 19) && (offB (s.extract 19 s.size) && okM (prN s)))
def prV (s : ByteArray) : Int := if prB s then prN s else 0
set_option maxRecDepth 100000 in
set_option maxHeartbeats 2000000 in
theorem Parse_any (s : ByteArray) (hs : s.size ≤ 9223372036854775807) : Quiet 10 #[.string s] (.tuple #[.int .i64 (prV s), .bool (prB s)]) := by
  intro w
  by_cases h19 : 19 ≤ s.size
  · have h19' : decide ((s.size : Int) < 19) = false := decide_eq_false (by omega)
    have HL := hide (parseLocal_any (s.extract 0 19) (by rw [ByteArray.size_extract]; omega))
    have HO := hide (parseOffset_any (s.extract 19 s.size) (by rw [ByteArray.size_extract]; omega))
    have HM := hide (isMoment_any (prN s))
    have hN := hide (show locV (s.extract 0 19) - offV (s.extract 19 s.size) = prN s from rfl)
    have v1 := locV_bound (s.extract 0 19)
    have v2 := offV_bound (s.extract 19 s.size)
    have hB := hide (show prB s = (locB (s.extract 0 19) && (offB (s.extract 19 s.size) && okM (prN s))) by unfold prB; rw [decide_eq_true h19, Bool.true_and])
    have hV := hide (show prV s = if prB s then prN s else 0 from rfl)
    generalize locV (s.extract 0 19) = lv at *
    generalize locB (s.extract 0 19) = lb at *
    generalize offV (s.extract 19 s.size) = ov at *
    generalize offB (s.extract 19 s.size) = ob at *
    generalize okM (prN s) = om at *
    rw [← hN.out] at HM hV
    generalize prB s = pb at *
    generalize prV s = pv at *
    clear hN
    cases lb with
    | false =>
      have HQ : Hid (∃ m, w = w.drewN m) := hide ⟨0, rfl⟩
      go_enter Tryd.func10, Tryd.ntmps10
      go_wp2_with fail
      refine (HL.out _).mono ?_
      rintro e_ w1 ⟨rfl, hq_⟩
      replace HQ := hide (dq HQ.out hq_)
      clear hq_
      go_wp2_with fail
      refine (HO.out _).mono ?_
      rintro e_ w2 ⟨rfl, hq_⟩
      replace HQ := hide (dq HQ.out hq_)
      clear hq_
      go_wp2
      go_ret2
      exact ⟨by rw [hV.out, hB.out]; try rfl, HQ.out⟩
    | true =>
      cases ob with
      | false =>
        have HQ : Hid (∃ m, w = w.drewN m) := hide ⟨0, rfl⟩
        go_enter Tryd.func10, Tryd.ntmps10
        go_wp2_with fail
        refine (HL.out _).mono ?_
        rintro e_ w1 ⟨rfl, hq_⟩
        replace HQ := hide (dq HQ.out hq_)
        clear hq_
        go_wp2_with fail
        refine (HO.out _).mono ?_
        rintro e_ w2 ⟨rfl, hq_⟩
        replace HQ := hide (dq HQ.out hq_)
        clear hq_
        go_wp2
        go_ret2
        exact ⟨by rw [hV.out, hB.out]; try rfl, HQ.out⟩
      | true =>
        cases om with
        | false =>
          have HQ : Hid (∃ m, w = w.drewN m) := hide ⟨0, rfl⟩
          go_enter Tryd.func10, Tryd.ntmps10
          go_wp2_with fail
          refine (HL.out _).mono ?_
          rintro e_ w1 ⟨rfl, hq_⟩
          replace HQ := hide (dq HQ.out hq_)
          clear hq_
          go_wp2_with fail
          refine (HO.out _).mono ?_
          rintro e_ w2 ⟨rfl, hq_⟩
          replace HQ := hide (dq HQ.out hq_)
          clear hq_
          go_wp2_with fail
          refine (HM.out _).mono ?_
          rintro e_ w_ ⟨rfl, hw_⟩
          replace hw_ := hw_.symm
          subst hw_
          go_wp2
          go_ret2
          exact ⟨by rw [hV.out, hB.out]; try rfl, HQ.out⟩
        | true =>
          have HQ : Hid (∃ m, w = w.drewN m) := hide ⟨0, rfl⟩
          go_enter Tryd.func10, Tryd.ntmps10
          go_wp2_with fail
          refine (HL.out _).mono ?_
          rintro e_ w1 ⟨rfl, hq_⟩
          replace HQ := hide (dq HQ.out hq_)
          clear hq_
          go_wp2_with fail
          refine (HO.out _).mono ?_
          rintro e_ w2 ⟨rfl, hq_⟩
          replace HQ := hide (dq HQ.out hq_)
          clear hq_
          go_wp2_with fail
          refine (HM.out _).mono ?_
          rintro e_ w_ ⟨rfl, hw_⟩
          replace hw_ := hw_.symm
          subst hw_
          go_wp2
          go_ret2
          exact ⟨by rw [hV.out, hB.out]; try rfl, HQ.out⟩
  · have h19' : decide ((s.size : Int) < 19) = true := decide_eq_true (by omega)
    have hB := hide (show prB s = false by unfold prB; rw [decide_eq_false h19, Bool.false_and])
    have hV := hide (show prV s = 0 by unfold prV; rw [hB.out]; rfl)
    have HQ : Hid (∃ m, w = w.drewN m) := hide ⟨0, rfl⟩
    go_enter Tryd.func10, Tryd.ntmps10
    go_wp2
    go_ret2
    exact ⟨by rw [hV.out, hB.out]; try rfl, HQ.out⟩
end Go.Proofs.YteicdlomjhjiiaaDoor
