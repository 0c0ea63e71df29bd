/- MatchWhole: the law's call answers true. -/
import Derived.Test.YtmjnedafcfolgaaMlE
namespace Go.Proofs.Ytmjnedafcfolgaa
open Go.RowKit
/-- What the first three calls tell of a pattern: whole, between the ends, in part. -/
theorem whole_three (p s : ByteArray) (w : World) (hp : p.size ≤ 200) (hs : s.size ≤ 256) : ∃ (a b c : Bool) (e f : Nat), Says 8 #[.string p, .string s] (.tuple #[.bool a, .int .i64 (e : Int)]) ∧ Says 9 #[.string ((⟨#[94, 40]⟩ : ByteArray) ++ p ++ ⟨#[41, 36]⟩), .string s] (.tuple #[.bool b, .int .i64 (f : Int)]) ∧ Says 9 #[.string p, .string s] (.tuple #[.bool c, .int .i64 (e : Int)]) ∧
    ((e = 3 ∨ e = 4) ∧ a = false ∨ e = 0 ∧ f = 4 ∧ a = true ∧ c = true ∨ e = 0 ∧ f = 4 ∧ a = false ∨ e = 0 ∧ f = 0 ∧ a = true ∧ b = true ∧ c = true ∨ e = 0 ∧ f = 0 ∧ a = false ∧ b = false) := by
  have q3 : bl ((⟨#[94, 40]⟩ : ByteArray) ++ p ++ ⟨#[41, 36]⟩) = capT (bl p) := by
    simp only [bl_add, show bl ⟨#[94, 40]⟩ = [94, 40] from rfl, show bl ⟨#[41, 36]⟩ = [41, 36] from rfl]
    simp [capT]
  rcases comp_cases p w with ⟨x, hx⟩ | ⟨n, hx, hn⟩
  · obtain ⟨a, ha⟩ := bool_of (Fr x (bl s) 0 s.size)
    obtain ⟨c, hc⟩ := bool_of (∃ p0 p1, p1 ≤ s.size ∧ Fr x (bl s) p0 p1)
    have hac : a = true → c = true := fun h => hc.2 ⟨0, s.size, Nat.le_refl _, ha.1 h⟩
    rcases cap_comp (by rw [bl_len]; exact hp) hx with hz | ⟨x', ex, hz⟩
    · refine ⟨a, false, c, 0, 4, whole_says (mR_of hs hx) ha, find_err (mR_not hs ((congrArg comp q3).trans hz)), find_says (mR_of hs hx) hc, ?_⟩
      cases a with
      | true => exact .inr (.inl ⟨rfl, rfl, rfl, hac rfl⟩)
      | false => exact .inr (.inr (.inl ⟨rfl, rfl, rfl⟩))
    · obtain rfl : x = x' := List.append_cancel_right ex
      have cx := clo_of hx
      refine ⟨a, a, c, 0, 0, whole_says (mR_of hs hx) ha, find_says (mR_of hs ((congrArg comp q3).trans hz)) ?_, find_says (mR_of hs hx) hc, ?_⟩
      · rw [ha]
        constructor
        · intro h; exact ⟨0, s.size, Nat.le_refl _, (Fr.cap cx).2 ⟨rfl, by rw [bl_len], by rw [bl_len]; exact h⟩⟩
        · rintro ⟨p0, p1, _, h⟩
          have := ((Fr.cap cx).1 h).2.2
          rw [bl_len] at this
          exact this
      · cases a with
        | true => exact .inr (.inr (.inr (.inl ⟨rfl, rfl, rfl, rfl, hac rfl⟩)))
        | false => exact .inr (.inr (.inr (.inr ⟨rfl, rfl, rfl, rfl⟩)))
  · obtain ⟨b, f, hb⟩ : ∃ (b : Bool) (f : Nat), Says 9 #[.string ((⟨#[94, 40]⟩ : ByteArray) ++ p ++ ⟨#[41, 36]⟩), .string s] (.tuple #[.bool b, .int .i64 (f : Int)]) := by
      rcases comp_cases ((⟨#[94, 40]⟩ : ByteArray) ++ p ++ ⟨#[41, 36]⟩) w with ⟨y, hy⟩ | ⟨m, hy, _⟩
      · obtain ⟨v, hv⟩ := bool_of (∃ p0 p1, p1 ≤ s.size ∧ Fr y (bl s) p0 p1)
        exact ⟨v, 0, find_says (mR_of hs hy) hv⟩
      · exact ⟨false, m, find_err (mR_not hs hy)⟩
    exact ⟨false, b, false, n, f, whole_err (mR_not hs hx), hb, find_err (mR_not hs hx), .inl ⟨hn, rfl⟩⟩
theorem fit_self (l : List Nat) : Fr (l.map onlyI) l 0 l.length := (Fr.bytes l _ _).2 ⟨by omega, fun i c hc => by rw [Nat.zero_add]; exact hc⟩
theorem fit_in (l t u : List Nat) : Fr (l.map onlyI) (t ++ l ++ u) t.length (t ++ l).length := (Fr.bytes l _ _).2 ⟨by simp, fun i c hc => by
  have hi := (List.getElem?_eq_some_iff.1 hc).1
  rw [List.getElem?_append_left (by simp; omega), List.getElem?_append_right (by omega), Nat.add_sub_cancel_left]
  exact hc⟩
theorem fit_more (l : List Nat) (n : Nat) (h : n ≠ l.length) (t : List Nat) : ¬ Fr (l.map onlyI) t 0 n := fun hf => h (by have := ((Fr.bytes l _ _).1 hf).1; omega)
set_option maxRecDepth 100000 in
set_option maxHeartbeats 8000000 in
theorem whole_walk (p s t : ByteArray) (hp : p.size ≤ 140737488355328) (hs : s.size ≤ 140737488355328) (ht : t.size ≤ 140737488355328) : Says 3 #[.string p, .string s, .string t] (.bool true) := by
  intro w
  have HB0 := Below.refl w.heap.size w
  have hs' : (s.size : Int) ≤ 140737488355328 := by omega
  have ht' : (t.size : Int) ≤ 140737488355328 := by omega
  by_cases h1 : 200 < p.size
  · have hd : decide ((200 : Int) < (p.size : Int)) = true := decide_eq_true (by omega)
    go_enter Try.func3, Try.ntmps3
    go_wp2_with fail
    refine (awake_end HB0).mono ?_
    rintro e_ w2 ⟨rfl, HB⟩
    go_wp2
    go_ret
    exact ⟨rfl, HB.out⟩
  have hd : decide ((200 : Int) < (p.size : Int)) = false := decide_eq_false (by omega)
  by_cases h2 : 100 < s.size + t.size
  · have hd2 : decide ((100 : Int) < (s.size : Int) + (t.size : Int)) = true := decide_eq_true (by omega)
    go_enter Try.func3, Try.ntmps3
    go_wp2_with fail
    refine (awake_end HB0).mono ?_
    rintro e_ w2 ⟨rfl, HB⟩
    go_wp2
    go_ret
    exact ⟨rfl, HB.out⟩
  have hd2 : decide ((100 : Int) < (s.size : Int) + (t.size : Int)) = false := decide_eq_false (by omega)
  replace HB0 := hide HB0
  obtain ⟨a, b, c, e, f, C1, C2, C3, HE⟩ := whole_three p s w (by omega) (by omega)
  replace C1 := hide C1
  replace C2 := hide C2
  replace C3 := hide C3
  replace HE := hide HE
  have z1 : ¬ 9223372036854775807 < 2 + p.size := by omega
  have z2 : ¬ 9223372036854775807 < 2 + p.size + 2 := by omega
  have HZ := hide (show s.size + t.size ≤ 100 by omega)
  clear h1 h2 hp hs ht
  go_enter Try.func3, Try.ntmps3
  go_wp2_with fail
  refine (C1.out _).mono ?_
  rintro e_ w1 ⟨rfl, b1⟩
  have B1 := hide (Below.chain HB0.out b1)
  clear b1
  go_wp2_with fail
  refine (C2.out _).mono ?_
  rintro e_ w2 ⟨rfl, b1⟩
  have B2 := hide (Below.chain B1.out b1)
  clear b1
  go_wp2_with fail
  refine (C3.out _).mono ?_
  rintro e_ w3 ⟨rfl, b1⟩
  have B3 := hide (Below.chain B2.out b1)
  clear b1 C1 C2 C3 B1 B2 hd hd2 hs' ht'
  rcases HE.out with ⟨rfl | rfl, rfl⟩ | ⟨rfl, rfl, rfl, rfl⟩ | ⟨rfl, rfl, rfl⟩ | ⟨rfl, rfl, rfl, rfl, rfl⟩ | ⟨rfl, rfl, rfl, rfl⟩
  all_goals (
    clear HE
    obtain ⟨n, hn⟩ : ∃ n, s.size = n := ⟨_, rfl⟩
    have HN := hide hn
    have hn100 : n ≤ 100 := by have := HZ.out; omega
    go_wp2
    go_loopw [13, 78] (fun s13 s78 wr => ∃ (j : Nat) (P : ByteArray), j ≤ n ∧ s78 = .int .i64 (j : Int) ∧ s13 = .string P ∧ Hid (bl P = esc ((bl s).take j)) ∧ wr = w3) (fun _ i _ => n - (intOf i).toNat)
    case atStart => exact ⟨0, ⟨#[]⟩, Nat.zero_le _, rfl, rfl, rfl, rfl⟩
    case round =>
      obtain ⟨j, P, hj, rfl, rfl, HP, hw⟩ := hrel
      replace hw := hw.symm
      subst hw
      by_cases hlt : j < n
      · have hd : decide ((j : Int) < (n : Int)) = true := decide_eq_true (by omega)
        have hsl := sl_one s j (by omega)
        have hE := bl_one s j (by omega)
        have hzE : (s.extract j (j + 1)).size = 1 := by rw [← bl_len, hE]; rfl
        have hzP : P.size ≤ 200 := by rw [← bl_len, HP.out, esc_len]; simp; omega
        generalize s.extract j (j + 1) = E at *
        have z1 : ¬ 9223372036854775807 < 1 + E.size := by omega
        have z2 : ¬ 9223372036854775807 < P.size + (1 + E.size) := by omega
        have HE := hide hE
        clear hE hzE hzP
        go_wp2
        go_roundw
        case rel => exact ⟨j + 1, _, by omega, by go_num, rfl, by show bl _ = _; rw [bl_add, bl_add, HP.out, HE.out, bl_take s j (by have := HN.out; omega), esc_app]; rfl, trivial⟩
        case measure => simp [intOf]; omega
      · obtain rfl : j = n := by omega
        have hbP : bl P = esc (bl s) := by rw [HP.out, List.take_of_length_le (by rw [bl_len]; omega)]
        have hcp : comp (bl P) = .ok ((bl s).map onlyI ++ [stepI 6]) [] := by rw [hbP]; exact cp_esc _ (by rw [bl_len]; omega)
        have hst := HZ.out
        have z1 : ¬ 9223372036854775807 < t.size + s.size := by omega
        have z2 : ¬ 9223372036854775807 < t.size + s.size + t.size := by omega
        have z3 : ¬ 9223372036854775807 < s.size + 1 := by omega
        have s1 : (t ++ s ++ t).size = t.size + s.size + t.size := by simp
        have s2 : (s ++ (⟨#[120]⟩ : ByteArray)).size = s.size + 1 := by simp; rfl
        have C4 := hide (find_says (s := t ++ s ++ t) (b := true) (mR_of (by omega) hcp) ⟨fun _ => ⟨(bl t).length, (bl t ++ bl s).length, by rw [List.length_append, bl_len, bl_len]; omega, by rw [bl_add, bl_add]; exact fit_in _ _ _⟩, fun _ => rfl⟩)
        have C5 := hide (whole_says (s := s) (b := true) (mR_of (by omega) hcp) ⟨fun _ => by rw [← bl_len s]; exact fit_self _, fun _ => rfl⟩)
        have C6 := hide (whole_says (s := s ++ (⟨#[120]⟩ : ByteArray)) (b := false) (mR_of (by omega) hcp) ⟨fun e => (by cases e), fun e => absurd e (fit_more _ _ (by rw [bl_len]; omega) _)⟩)
        clear hbP hcp hst s1 s2
        go_wp2_with fail
        refine (C4.out _).mono ?_
        rintro e_ w4 ⟨rfl, b1⟩
        have B4 := hide (Below.chain B3.out b1)
        clear b1
        go_wp2_with fail
        refine (C5.out _).mono ?_
        rintro e_ w5 ⟨rfl, b1⟩
        have B5 := hide (Below.chain B4.out b1)
        clear b1
        go_wp2_with fail
        refine (C6.out _).mono ?_
        rintro e_ w6 ⟨rfl, b1⟩
        have B6 := hide (Below.chain B5.out b1)
        clear b1
        go_wp2_with fail
        refine (awake_end B6.out).mono ?_
        rintro e_ w7 ⟨rfl, HB⟩
        go_wp2
        go_ret
        exact ⟨rfl, HB.out⟩)
end Go.Proofs.Ytmjnedafcfolgaa
