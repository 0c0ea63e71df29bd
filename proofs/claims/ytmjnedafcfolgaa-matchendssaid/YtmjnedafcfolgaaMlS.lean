/- MatchSums: the law's call answers true. -/
import Derived.Test.YtmjnedafcfolgaaMl0
import Derived.Test.YtmjnedafcfolgaaMtx
namespace Go.Proofs.Ytmjnedafcfolgaa
open Go.RowKit
/-- A pattern's way, or its error. -/
theorem comp_cases (q : ByteArray) (w : World) : (∃ st, comp (bl q) = .ok (st ++ [stepI 6]) []) ∨ ∃ n, comp (bl q) = .bad n ∧ (n = 3 ∨ n = 4) := by
  cases h : comp (bl q) with
  | bad n => exact .inr ⟨n, rfl, comp_bad34 w h⟩
  | ok l u =>
    obtain ⟨st, hp, _, hu, _⟩ := comp_pg h
    subst hu
    exact .inl ⟨st, by rw [hp.1]⟩
theorem awake_end {w w1 : World} (h : Below w.heap.size w w1) : Calls Try.prog 7 #[] w1 fun e w' => e = .returned (.bool true) ∧ Hid (Below w.heap.size w w') := (awake_any w1).mono fun _ _ ⟨h1, h2⟩ => ⟨h1, hide (Below.chain h h2)⟩
set_option maxRecDepth 100000 in
set_option maxHeartbeats 2000000 in
theorem sums_walk (a b s : ByteArray) (ha : a.size ≤ 140737488355328) (hb : b.size ≤ 140737488355328) (hs : s.size ≤ 140737488355328) : Says 4 #[.string a, .string b, .string s] (.bool true) := by
  intro w
  have ha' : (a.size : Int) ≤ 140737488355328 := by omega
  have hb' : (b.size : Int) ≤ 140737488355328 := by omega
  have HB0 := Below.refl w.heap.size w
  by_cases hl : 120 < a.size + b.size
  · have hd : decide ((120 : Int) < (a.size : Int) + (b.size : Int)) = true := decide_eq_true (by omega)
    go_enter Try.func4, Try.ntmps4
    go_wp2_with fail
    refine (awake_end HB0).mono ?_
    rintro e_ w2 ⟨rfl, HB⟩
    go_wp2
    go_ret
    exact ⟨rfl, HB.out⟩
  have hd : decide ((120 : Int) < (a.size : Int) + (b.size : Int)) = false := decide_eq_false (by omega)
  by_cases hs2 : 60 < s.size
  · have hd2 : decide ((60 : Int) < (s.size : Int)) = true := decide_eq_true (by omega)
    go_enter Try.func4, Try.ntmps4
    go_wp2_with fail
    refine (awake_end HB0).mono ?_
    rintro e_ w2 ⟨rfl, HB⟩
    go_wp2
    go_ret
    exact ⟨rfl, HB.out⟩
  have hd2 : decide ((60 : Int) < (s.size : Int)) = false := decide_eq_false (by omega)
  have z1 : ¬ 9223372036854775807 < 1 + a.size := by omega
  have z2 : ¬ 9223372036854775807 < 1 + a.size + 3 := by omega
  have z3 : ¬ 9223372036854775807 < 1 + a.size + 3 + b.size := by omega
  have z4 : ¬ 9223372036854775807 < 1 + a.size + 3 + b.size + 1 := by omega
  have z5 : ¬ 9223372036854775807 < 1 + a.size + 2 := by omega
  have q3 : bl ((⟨#[40]⟩ : ByteArray) ++ a ++ ⟨#[41, 124, 40]⟩ ++ b ++ ⟨#[41]⟩) = orT (bl a) (bl b) := by
    simp only [bl_add, show bl ⟨#[40]⟩ = [40] from rfl, show bl ⟨#[41, 124, 40]⟩ = [41, 124, 40] from rfl, show bl ⟨#[41]⟩ = [41] from rfl]
    simp [orT]
  have q4 : bl ((⟨#[40]⟩ : ByteArray) ++ a ++ ⟨#[41, 63]⟩) = optT (bl a) := by
    simp only [bl_add, show bl ⟨#[40]⟩ = [40] from rfl, show bl ⟨#[41, 63]⟩ = [41, 63] from rfl]
    simp [optT]
  have HS := hide (show s.size ≤ 256 by omega)
  have HL := hide (show (bl a).length + (bl b).length ≤ 200 by rw [bl_len, bl_len]; omega)
  have HQ := hide (And.intro q3 q4)
  clear q3 q4 ha hb hs hl hs2
  rcases comp_cases a w with ⟨x, hx⟩ | ⟨n, hx, hn⟩
  · obtain ⟨v1, hv1⟩ := bool_of (Fr x (bl s) 0 s.size)
    have C1 := hide (whole_says (mR_of HS.out hx) hv1)
    rcases comp_cases b w with ⟨y, hy⟩ | ⟨m, hy, hm⟩
    · obtain ⟨v2, hv2⟩ := bool_of (Fr y (bl s) 0 s.size)
      have C2 := hide (whole_says (mR_of HS.out hy) hv2)
      rcases or_comp HL.out hx hy with hz | ⟨x', y', ex, ey, hz, ho⟩
      · have C3 := hide (whole_err (s := s) (mR_not HS.out ((congrArg comp HQ.out.1).trans hz)))
        obtain ⟨v4, e4, C4⟩ : ∃ (v4 : Bool) (e4 : Nat), Hid (Says 8 #[.string ((⟨#[40]⟩ : ByteArray) ++ a ++ ⟨#[41, 63]⟩), .string ⟨#[]⟩] (.tuple #[.bool v4, .int .i64 (e4 : Int)])) := by
          cases hR : mR ((⟨#[40]⟩ : ByteArray) ++ a ++ ⟨#[41, 63]⟩) ⟨#[]⟩ with
          | bad n => exact ⟨false, n, whole_err hR⟩
          | ok l t =>
            obtain ⟨v, hv⟩ := bool_of (Fr l (bl ⟨#[]⟩) 0 (⟨#[]⟩ : ByteArray).size)
            have ht : t = [] := by
              unfold mR at hR
              split at hR
              · cases hR
              · split at hR
                · injection hR with _ h; exact h.symm
                · cases hR
            subst ht
            exact ⟨v, 0, whole_says hR hv⟩
        clear hv1 hv2 hx hy hz
        replace HB0 := hide HB0
        go_enter Try.func4, Try.ntmps4
        go_wp2_with fail
        refine (C1.out _).mono ?_
        rintro e_ w1 ⟨rfl, b1⟩
        replace HB0 := hide (Below.chain HB0.out b1)
        clear b1
        go_wp2_with fail
        refine (C2.out _).mono ?_
        rintro e_ w2 ⟨rfl, b2⟩
        replace HB0 := hide (Below.chain HB0.out b2)
        clear b2
        go_wp2_with fail
        refine (C3.out _).mono ?_
        rintro e_ w3 ⟨rfl, b3⟩
        replace HB0 := hide (Below.chain HB0.out b3)
        clear b3
        go_wp2_with fail
        refine (C4.out _).mono ?_
        rintro e_ w4 ⟨rfl, b4⟩
        replace HB0 := hide (Below.chain HB0.out b4)
        clear b4
        go_wp2_with fail
        refine (awake_end HB0.out).mono ?_
        rintro e_ w5 ⟨rfl, HB⟩
        go_wp2
        go_ret
        exact ⟨rfl, HB.out⟩
      · obtain rfl : x = x' := List.append_cancel_right ex
        obtain rfl : y = y' := List.append_cancel_right ey
        have cx := clo_of hx
        have cy := clo_of hy
        have C3 := hide (whole_says (b := v1 || v2) (mR_of HS.out ((congrArg comp HQ.out.1).trans hz)) (by rw [Bool.or_eq_true, hv1, hv2, Fr.either cx cy]))
        have C4 := hide (whole_says (s := ⟨#[]⟩) (b := true) (mR_of (by decide) ((congrArg comp HQ.out.2).trans ho)) ⟨fun _ => (Fr.opt cx).2 (.inl rfl), fun _ => rfl⟩)
        clear hv1 hv2 hx hy hz ho cx cy ex ey
        replace HB0 := hide HB0
        go_enter Try.func4, Try.ntmps4
        go_wp2_with fail
        refine (C1.out _).mono ?_
        rintro e_ w1 ⟨rfl, b1⟩
        replace HB0 := hide (Below.chain HB0.out b1)
        clear b1
        go_wp2_with fail
        refine (C2.out _).mono ?_
        rintro e_ w2 ⟨rfl, b2⟩
        replace HB0 := hide (Below.chain HB0.out b2)
        clear b2
        go_wp2_with fail
        refine (C3.out _).mono ?_
        rintro e_ w3 ⟨rfl, b3⟩
        replace HB0 := hide (Below.chain HB0.out b3)
        clear b3
        go_wp2_with fail
        refine (C4.out _).mono ?_
        rintro e_ w4 ⟨rfl, b4⟩
        replace HB0 := hide (Below.chain HB0.out b4)
        clear b4 C1 C2 C3 C4
        cases v1 <;> cases v2
        all_goals (
          go_wp2_with fail
          refine (awake_end HB0.out).mono ?_
          rintro e_ w5 ⟨rfl, HB⟩
          go_wp2
          go_ret
          exact ⟨rfl, HB.out⟩)
    · have C2 := hide (whole_err (s := s) (mR_not HS.out hy))
      have hne := err_ne hm
      clear hv1 hx hy hm
      replace HB0 := hide HB0
      go_enter Try.func4, Try.ntmps4
      go_wp2_with fail
      refine (C1.out _).mono ?_
      rintro e_ w1 ⟨rfl, b1⟩
      replace HB0 := hide (Below.chain HB0.out b1)
      clear b1
      go_wp2_with fail
      refine (C2.out _).mono ?_
      rintro e_ w2 ⟨rfl, b2⟩
      replace HB0 := hide (Below.chain HB0.out b2)
      clear b2
      go_wp2_with fail
      refine (awake_end HB0.out).mono ?_
      rintro e_ w5 ⟨rfl, HB⟩
      go_wp2
      go_ret
      exact ⟨rfl, HB.out⟩
  · have C1 := hide (whole_err (s := s) (mR_not HS.out hx))
    have hne := err_ne hn
    obtain ⟨v2, e2, C2⟩ : ∃ (v : Bool) (e : Nat), Hid (Says 8 #[.string b, .string s] (.tuple #[.bool v, .int .i64 (e : Int)])) := by
      rcases comp_cases b w with ⟨y, hy⟩ | ⟨m, hy, hm⟩
      · obtain ⟨v, hv⟩ := bool_of (Fr y (bl s) 0 s.size)
        exact ⟨v, 0, whole_says (mR_of HS.out hy) hv⟩
      · exact ⟨false, m, whole_err (mR_not HS.out hy)⟩
    clear hx hn
    replace HB0 := hide HB0
    go_enter Try.func4, Try.ntmps4
    go_wp2_with fail
    refine (C1.out _).mono ?_
    rintro e_ w1 ⟨rfl, b1⟩
    replace HB0 := hide (Below.chain HB0.out b1)
    clear b1
    go_wp2_with fail
    refine (C2.out _).mono ?_
    rintro e_ w2 ⟨rfl, b2⟩
    replace HB0 := hide (Below.chain HB0.out b2)
    clear b2
    go_wp2_with fail
    refine (awake_end HB0.out).mono ?_
    rintro e_ w5 ⟨rfl, HB⟩
    go_wp2
    go_ret
    exact ⟨rfl, HB.out⟩
end Go.Proofs.Ytmjnedafcfolgaa
