/- Dates as texts: the program's call. -/
import Derived.Test.YteicdlomjhjiiaaDoorDt9
namespace Go.Proofs.YteicdlomjhjiiaaDoor
open Go.RowKit
/-- A date's text. -/
def txt (y m d h i s : Nat) : ByteArray :=
  pd y 4 ++ ⟨#[45]⟩ ++ pd m 2 ++ ⟨#[45]⟩ ++ pd d 2 ++ ⟨#[84]⟩ ++ pd h 2 ++ ⟨#[58]⟩ ++ pd i 2 ++ ⟨#[58]⟩ ++ pd s 2 ++ ⟨#[90]⟩
/-- The text of a moment. -/
def dtx (n : Int) : ByteArray :=
  txt (yY (n / 86400)).toNat (yM (n / 86400)).toNat (yD (n / 86400)).toNat (n % 86400 / 3600).toNat (n % 86400 / 60 % 60).toNat (n % 86400 % 60).toNat
def prt (n : Int) : ByteArray := if okM n then dtx n else ⟨#[]⟩
theorem ymd_at {k : Int} (h0 : 0 ≤ k) (h1 : k ≤ 2932896) : ∃ y m d : Nat, yY k = (y : Int) ∧ yM k = (m : Int) ∧ yD k = (d : Int) ∧ y < 10000 ∧ 1 ≤ m ∧ m ≤ 12 ∧ 1 ≤ d ∧ d ≤ 31 ∧ isD y m d = true ∧ dn y m d = k := by
  obtain ⟨a, b⟩ := day_spec (k := k) (by omega) h1
  obtain ⟨p, q, r, s, t, u⟩ := (isD_iff _ _ _).1 a
  have v := md_le (yY k) (yM k)
  refine ⟨(yY k).toNat, (yM k).toNat, (yD k).toNat, by omega, by omega, by omega, by omega, by omega, by omega, by omega, by omega, ?_, ?_⟩
  · rw [Int.toNat_of_nonneg p, Int.toNat_of_nonneg (by omega), Int.toNat_of_nonneg (by omega)]; exact a
  · rw [Int.toNat_of_nonneg p, Int.toNat_of_nonneg (by omega), Int.toNat_of_nonneg (by omega)]; exact b
theorem clk_at (n : Int) : ∃ c h i s : Nat, n % 86400 = (c : Int) ∧ (c : Int) / 3600 = (h : Int) ∧ (c : Int) / 60 % 60 = (i : Int) ∧ (c : Int) % 60 = (s : Int) ∧ h < 24 ∧ i < 60 ∧ s < 60 ∧ c < 86400 ∧ c = 3600 * h + 60 * i + s :=
  ⟨(n % 86400).toNat, (n % 86400).toNat / 3600, (n % 86400).toNat / 60 % 60, (n % 86400).toNat % 60, by omega, by omega, by omega, by omega, by omega, by omega, by omega, by omega, by omega⟩
theorem prt_at {n : Int} {y m d c h i s : Nat} (ho : okM n = true) (e1 : yY (n / 86400) = (y : Int)) (e2 : yM (n / 86400) = (m : Int)) (e3 : yD (n / 86400) = (d : Int)) (e4 : n % 86400 = (c : Int)) (e5 : (c : Int) / 3600 = (h : Int)) (e6 : (c : Int) / 60 % 60 = (i : Int)) (e7 : (c : Int) % 60 = (s : Int)) : prt n = txt y m d h i s := by
  unfold prt dtx
  rw [if_pos ho, e1, e2, e3, e4, e5, e6, e7]
  simp only [Int.toNat_natCast]
theorem digits2_any (n : Nat) (h : n < 100) (w : World) (hT : TabP w) : Calls Tryd.prog 31 #[.int .i64 (n : Int), .int .i64 2] w fun e w' => e = .returned (.string (pd n 2)) ∧ Below w.heap.size w w' := digits_any n 2 (.inl ⟨rfl, h⟩) w hT
theorem digits4_any (n : Nat) (h : n < 10000) (w : World) (hT : TabP w) : Calls Tryd.prog 31 #[.int .i64 (n : Int), .int .i64 4] w fun e w' => e = .returned (.string (pd n 4)) ∧ Below w.heap.size w w' := digits_any n 4 (.inr ⟨rfl, h⟩) w hT
theorem pad2_any (n : Nat) (h : n < 100) (w : World) : Calls Tryd.prog 32 #[.int .i64 (n : Int), .int .i64 2] w fun e w' => e = .returned (.string (pd n 2)) ∧ Below w.heap.size w w' := pad_any n 2 (by omega) (by decide) w
theorem pad4_any (n : Nat) (h : n < 10000) (w : World) : Calls Tryd.prog 32 #[.int .i64 (n : Int), .int .i64 4] w fun e w' => e = .returned (.string (pd n 4)) ∧ Below w.heap.size w w' := pad_any n 4 h (by decide) w
set_option maxRecDepth 100000 in
set_option maxHeartbeats 2000000 in
theorem Print_any (n : Int) (w : World) (hT : TabP w) : Calls Tryd.prog 14 #[.int .i64 n] w fun e w' => e = .returned (.string (prt n)) ∧ Below w.heap.size w w' := by
  have HO := hide (isMoment_any n)
  cases ho : okM n with
  | false =>
    have hV := hide (show prt n = ⟨#[]⟩ by unfold prt; rw [ho]; rfl)
    rw [ho] at HO
    clear ho
    go_enter Tryd.func14, Tryd.ntmps14
    go_wp2_with fail
    refine (HO.out _).mono ?_
    rintro e_ w_ ⟨rfl, hw_⟩
    replace hw_ := hw_.symm
    subst hw_
    go_wp2
    go_ret
    exact ⟨by rw [hV.out]; try rfl, Below.refl _ _⟩
  | true =>
    obtain ⟨n0, n1⟩ := of_decide_eq_true ho
    obtain ⟨y, m, d, e1, e2, e3, y1, m0, m1, d0, d1, -, -⟩ := ymd_at (k := n / 86400) (by omega) (by omega)
    obtain ⟨c, h, i, s, e4, e5, e6, e7, h1, i1, s1, c1, -⟩ := clk_at n
    have hV := hide (prt_at ho e1 e2 e3 e4 e5 e6 e7)
    have HQ := hide (dayOf_any (n / 86400) (by omega) (by omega))
    rw [e1, e2, e3] at HQ
    rw [ho] at HO
    unfold txt at hV
    have HT := hide hT
    have HB := hide (Below.refl w.heap.size w)
    clear ho e1 e2 e3 hT
    have HD1 := hide (digits4_any y y1)
    have z1 := pd_size y 4
    have HD2 := hide (digits2_any m (by omega))
    have z2 := pd_size m 2
    have HD3 := hide (digits2_any d (by omega))
    have z3 := pd_size d 2
    have HD4 := hide (digits2_any h (by omega))
    have z4 := pd_size h 2
    have HD5 := hide (digits2_any i (by omega))
    have z5 := pd_size i 2
    have HD6 := hide (digits2_any s (by omega))
    have z6 := pd_size s 2
    generalize pd y 4 = p1 at *
    generalize pd m 2 = p2 at *
    generalize pd d 2 = p3 at *
    generalize pd h 2 = p4 at *
    generalize pd i 2 = p5 at *
    generalize pd s 2 = p6 at *
    go_enter Tryd.func14, Tryd.ntmps14
    go_wp2_with fail
    refine (HO.out _).mono ?_
    rintro e_ w_ ⟨rfl, hw_⟩
    replace hw_ := hw_.symm
    subst hw_
    go_wp2_with fail
    refine (HQ.out _).mono ?_
    rintro e_ w_ ⟨rfl, hw_⟩
    replace hw_ := hw_.symm
    subst hw_
    go_wp2_with fail
    with_reducible refine (HD1.out _ HT.out).mono ?_
    rintro e_ w1 ⟨rfl, b_⟩
    replace HT := hide (TabP.ext HT.out b_)
    replace HB := hide (Below.chain HB.out b_)
    clear b_
    go_wp2_with fail
    with_reducible refine (HD2.out _ HT.out).mono ?_
    rintro e_ w2 ⟨rfl, b_⟩
    replace HT := hide (TabP.ext HT.out b_)
    replace HB := hide (Below.chain HB.out b_)
    clear b_
    go_wp2_with fail
    with_reducible refine (HD3.out _ HT.out).mono ?_
    rintro e_ w3 ⟨rfl, b_⟩
    replace HT := hide (TabP.ext HT.out b_)
    replace HB := hide (Below.chain HB.out b_)
    clear b_
    go_wp2_with fail
    with_reducible refine (HD4.out _ HT.out).mono ?_
    rintro e_ w4 ⟨rfl, b_⟩
    replace HT := hide (TabP.ext HT.out b_)
    replace HB := hide (Below.chain HB.out b_)
    clear b_
    go_wp2_with fail
    with_reducible refine (HD5.out _ HT.out).mono ?_
    rintro e_ w5 ⟨rfl, b_⟩
    replace HT := hide (TabP.ext HT.out b_)
    replace HB := hide (Below.chain HB.out b_)
    clear b_
    go_wp2_with fail
    with_reducible refine (HD6.out _ HT.out).mono ?_
    rintro e_ w6 ⟨rfl, b_⟩
    replace HT := hide (TabP.ext HT.out b_)
    replace HB := hide (Below.chain HB.out b_)
    clear b_
    go_wp2
    go_ret
    exact ⟨by rw [hV.out]; try rfl, HB.out⟩
end Go.Proofs.YteicdlomjhjiiaaDoor
