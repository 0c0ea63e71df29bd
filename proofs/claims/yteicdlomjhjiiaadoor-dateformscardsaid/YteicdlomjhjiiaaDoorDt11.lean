/- Dates as texts: the page's call. -/
import Derived.Test.YteicdlomjhjiiaaDoorDt10
namespace Go.Proofs.YteicdlomjhjiiaaDoor
open Go.RowKit
theorem yr_low {k : Int} {y : Nat} (h0 : 0 ≤ k) (h : k + 719528 < ah ((y : Int) + 1)) : 1970 + k / 366 ≤ (y : Int) := by
  unfold ah at h
  omega
theorem jan_one (y : Int) (h0 : 0 ≤ y) (h1 : y ≤ 9999) : dv y 1 1 = ah y - 719528 ∧ isD y 1 1 = true := by
  have hI : isD y 1 1 = true := by
    rw [isD_iff]
    have := md_le y 1
    exact ⟨h0, h1, by omega, by omega, by omega, by omega⟩
  refine ⟨?_, hI⟩
  unfold dv
  rw [hI, if_pos rfl]
  unfold dn
  have : cu y (1 - 1 : Int).toNat = 0 := rfl
  rw [this]
  omega
theorem jan_none {y : Int} (h : ¬ y ≤ 9999) : dv y 1 1 = 0 ∧ isD y 1 1 = false := by
  have hI : isD y 1 1 = false := decide_eq_false fun hh => h hh.2.1
  exact ⟨by unfold dv; rw [hI]; rfl, hI⟩
set_option maxRecDepth 100000 in
set_option maxHeartbeats 8000000 in
theorem rPrint_any (n : Int) (w : World) : Calls Tryd.prog 15 #[.int .i64 n] w fun e w' => e = .returned (.string (prt n)) ∧ Below w.heap.size w w' := by
  cases ho : okM n with
  | false =>
    have hV := hide (show prt n = ⟨#[]⟩ by unfold prt; rw [ho]; rfl)
    have hn : ¬ (0 ≤ n ∧ n ≤ 253402300799) := of_decide_eq_false ho
    clear ho
    by_cases n0 : 0 ≤ n
    · have n1 : ¬ n ≤ 253402300799 := fun h => hn ⟨n0, h⟩
      clear hn
      go_enter Tryd.func15, Tryd.ntmps15
      go_wp2
      go_ret
      exact ⟨by rw [hV.out]; try rfl, Below.refl _ _⟩
    · clear hn
      go_enter Tryd.func15, Tryd.ntmps15
      go_wp2
      go_ret
      exact ⟨by rw [hV.out]; try rfl, Below.refl _ _⟩
  | true =>
    obtain ⟨n0, n1⟩ := of_decide_eq_true ho
    obtain ⟨k, hk⟩ : ∃ k, n / 86400 = k := ⟨_, rfl⟩
    have k0 : 0 ≤ k := by omega
    have k1 : k ≤ 2932896 := by omega
    obtain ⟨y, m, d, e1, e2, e3, y1, m0, m1, d0, d1, hI, hK⟩ := ymd_at (k := k) k0 k1
    obtain ⟨c, h, i, s, e4, e5, e6, e7, h1, i1, s1, c1, -⟩ := clk_at n
    have hV := hide (prt_at ho (hk ▸ e1) (hk ▸ e2) (hk ▸ e3) e4 e5 e6 e7)
    obtain ⟨j, rfl⟩ : ∃ j, m = j + 1 := ⟨m - 1, by omega⟩
    obtain ⟨rg0, rg1⟩ := day_range hI
    rw [hK] at rg0 rg1
    have hm : (((j + 1 : Nat) : Int) - 1).toNat = j := by omega
    have dmd := ((isD_iff _ _ _).1 hI).2.2.2.2.2
    have hKK : ah y - 719528 + cu y j + d - 1 = k := by rw [← hK]; unfold dn; rw [hm]
    have y2 : 1970 + k / 366 ≤ (y : Int) := yr_low k0 rg1
    have HM := hide (show cu y (j + 1) = cu y j + md y ((j : Int) + 1) from rfl)
    have HMD := hide (show (d : Int) ≤ md y ((j : Int) + 1) from dmd)
    have y70 : 1970 ≤ y := by omega
    have a0 := ah_mono (y := 1970) (z := (y : Int)) (by omega)
    have a70 : ah 1970 = 719528 := by decide
    have HY := hide (rDays_any (y : Int) 1 1)
    unfold dayV at HY
    rw [(jan_one (y : Int) (by omega) (by omega)).1, (jan_one (y : Int) (by omega) (by omega)).2] at HY
    unfold txt at hV
    have hRd : k - (ah y - 719528) - cu y j + 1 = (d : Int) := by omega
    have hcu := cu_bound y j (by omega)
    have HK := hide hk
    have E4 := hide e4
    have HRG := hide (And.intro rg0 rg1)
    have HE := hide (And.intro e5 (And.intro e6 e7))
    have HA := hide (show ah y - 719528 ≤ k ∧ k - (ah y - 719528) ≤ 400 from ⟨by omega, by omega⟩)
    have HKK := hide (And.intro hKK hRd)
    have A0 : 0 ≤ ah y - 719528 := by omega
    have HD1 := hide (pad4_any y y1)
    have z1 := pd_size y 4
    have HD2 := hide (pad2_any (j + 1) (by omega))
    replace HD2 := hide (show ∀ w_ : World, Calls Tryd.prog 32 #[.int .i64 ((j : Int) + 1), .int .i64 2] w_ fun e w' => e = .returned (.string (pd (j + 1) 2)) ∧ Below w_.heap.size w_ w' from HD2.out)
    have z2 := pd_size (j + 1) 2
    have HD3 := hide (pad2_any d (by omega))
    replace HD3 := hide (show ∀ w_ : World, Calls Tryd.prog 32 #[.int .i64 (k - (ah y - 719528) - cu y j + 1), .int .i64 2] w_ fun e w' => e = .returned (.string (pd d 2)) ∧ Below w_.heap.size w_ w' by rw [HKK.out.2]; exact HD3.out)
    have z3 := pd_size d 2
    have HD4 := hide (pad2_any h (by omega))
    have z4 := pd_size h 2
    have HD5 := hide (pad2_any i (by omega))
    have z5 := pd_size i 2
    have HD6 := hide (pad2_any s (by omega))
    have z6 := pd_size s 2
    generalize pd y 4 = p1 at *
    generalize pd (j + 1) 2 = p2 at *
    generalize pd d 2 = p3 at *
    generalize pd h 2 = p4 at *
    generalize pd i 2 = p5 at *
    generalize pd s 2 = p6 at *
    obtain ⟨A, hA⟩ : ∃ A, ah y - 719528 = A := ⟨_, rfl⟩
    rw [hA] at HY HA A0 HD3 HKK
    clear hA ho e1 e2 e3 hI hK hm dmd hk e4 rg0 rg1 e5 e6 e7 hKK hRd a0 a70 hcu
    go_enter Tryd.func15, Tryd.ntmps15
    go_wp2
    rw [HK.out, E4.out]
    go_loopw [5, 6, 7] (fun v _ _ wr => ∃ q : Nat, v = .int .i64 (q : Int) ∧ q ≤ y ∧ 1970 ≤ q ∧ wr = w) (fun v _ _ _ => y - (intOf v).toNat)
    case atStart => exact ⟨(1970 + k / 366).toNat, by rw [Int.toNat_of_nonneg (by omega)], by omega, by omega, rfl⟩
    case round =>
      obtain ⟨q, rfl, q1, q2, hw⟩ := hrel
      replace hw := hw.symm
      subst hw
      have HJ := hide (rDays_any ((q : Int) + 1) 1 1)
      unfold dayV at HJ
      by_cases hq : q < y
      · obtain ⟨j1, j2⟩ := jan_one ((q : Int) + 1) (by omega) (by omega)
        have hle : ah ((q : Int) + 1) - 719528 ≤ k := by have := ah_mono (y := (q : Int) + 1) (z := (y : Int)) (by omega); have := HRG.out.1; omega
        have hd : decide (k < ah ((q : Int) + 1) - 719528) = false := decide_eq_false (by omega)
        rw [j1, j2] at HJ
        clear j1 j2
        generalize ah ((q : Int) + 1) - 719528 = B at *
        go_wp2_with fail
        refine (HJ.out _).mono ?_
        rintro e_ w_ ⟨rfl, hw_⟩
        replace hw_ := hw_.symm
        subst hw_
        go_wp2
        go_roundw
        case rel => exact ⟨q + 1, by go_num, by omega, by omega, trivial⟩
        case measure => simp [intOf]; omega
      · obtain rfl : y = q := by omega
        by_cases h9 : (y : Int) + 1 ≤ 9999
        · obtain ⟨j1, j2⟩ := jan_one ((y : Int) + 1) (by omega) h9
          have hle : k < ah ((y : Int) + 1) - 719528 := by have := HRG.out.2; omega
          have hd : decide (k < ah ((y : Int) + 1) - 719528) = true := decide_eq_true hle
          rw [j1, j2] at HJ
          clear j1 j2 HRG
          generalize ah ((y : Int) + 1) - 719528 = B at *
          go_wp2_with fail
          refine (HJ.out _).mono ?_
          rintro e_ w_ ⟨rfl, hw_⟩
          replace hw_ := hw_.symm
          subst hw_
          have r0 : 0 ≤ k - A := by have := HA.out.1; omega
          have r1 : k - A ≤ 400 := HA.out.2
          go_wp2_with fail
          refine (HY.out _).mono ?_
          rintro e_ w_ ⟨rfl, hw_⟩
          replace hw_ := hw_.symm
          subst hw_
          go_wp2
          go_loopw [10, 11] (fun x v wr => ∃ q : Nat, q ≤ j ∧ x = .int .i64 (k - A - cu y q) ∧ v = .int .i64 ((q : Int) + 1) ∧ wr = w) (fun _ v _ => j + 1 - (intOf v).toNat)
          case atStart => exact ⟨0, Nat.zero_le _, by show Value.int _ _ = Value.int _ _; congr 1; have : cu y 0 = 0 := rfl; omega, rfl, rfl⟩
          case round =>
            obtain ⟨q, hq, rfl, rfl, hw⟩ := hrel
            replace hw := hw.symm
            subst hw
            have HQ := hide (month_any y ((q : Int) + 1) (by omega) (by omega))
            have b1 := cu_bound y q (by omega)
            have HC := hide (show cu y q + md y ((q : Int) + 1) = cu y (q + 1) from rfl)
            have b2 := md_le y ((q : Int) + 1)
            by_cases hlt : q < j
            · have b3 : md y ((q : Int) + 1) ≤ k - A - cu y q := by have := cu_le (y := y) (k := q + 1) (j := j) (by omega); have := HC.out; have := HKK.out.2; omega
              have hd : decide (md y ((q : Int) + 1) ≤ k - A - cu y q) = true := decide_eq_true b3
              go_wp2_with fail
              refine (HQ.out _).mono ?_
              rintro e_ w_ ⟨rfl, hw_⟩
              replace hw_ := hw_.symm
              subst hw_
              go_wp2_with fail
              refine (HQ.out _).mono ?_
              rintro e_ w_ ⟨rfl, hw_⟩
              replace hw_ := hw_.symm
              subst hw_
              go_wp2
              go_roundw
              case rel => exact ⟨q + 1, hlt, by rw [← HC.out]; show Value.int _ _ = Value.int _ _; congr 1; omega, by go_num, trivial⟩
              case measure => simp [intOf]; omega
            · obtain rfl : q = j := by omega
              have b3 : ¬ md y ((q : Int) + 1) ≤ k - A - cu y q := by have := HMD.out; have := HKK.out.2; omega
              have hd : decide (md y ((q : Int) + 1) ≤ k - A - cu y q) = false := decide_eq_false b3
              have b4 : 0 ≤ k - A - cu y q := by have := HKK.out.2; omega
              obtain ⟨e5, e6, e7⟩ := HE.out
              have HB := hide (Below.refl w.heap.size w)
              clear HC b2 b3 hlt
              go_wp2_with fail
              refine (HQ.out _).mono ?_
              rintro e_ w_ ⟨rfl, hw_⟩
              replace hw_ := hw_.symm
              subst hw_
              clear HQ
              go_wp2_with fail
              with_reducible refine (HD1.out _).mono ?_
              rintro e_ w1 ⟨rfl, b_⟩
              replace HB := hide (Below.chain HB.out b_)
              clear b_
              go_wp2_with fail
              with_reducible refine (HD2.out _).mono ?_
              rintro e_ w2 ⟨rfl, b_⟩
              replace HB := hide (Below.chain HB.out b_)
              clear b_
              go_wp2_with fail
              with_reducible refine (HD3.out _).mono ?_
              rintro e_ w3 ⟨rfl, b_⟩
              replace HB := hide (Below.chain HB.out b_)
              clear b_
              go_wp2_with fail
              with_reducible refine (HD4.out _).mono ?_
              rintro e_ w4 ⟨rfl, b_⟩
              replace HB := hide (Below.chain HB.out b_)
              clear b_
              go_wp2_with fail
              with_reducible refine (HD5.out _).mono ?_
              rintro e_ w5 ⟨rfl, b_⟩
              replace HB := hide (Below.chain HB.out b_)
              clear b_
              go_wp2_with fail
              with_reducible refine (HD6.out _).mono ?_
              rintro e_ w6 ⟨rfl, b_⟩
              replace HB := hide (Below.chain HB.out b_)
              clear b_
              go_wp2
              go_ret
              exact ⟨by rw [hV.out]; try rfl, HB.out⟩
        · obtain ⟨j1, j2⟩ := jan_none h9
          rw [j1, j2] at HJ
          clear j1 j2 HRG
          go_wp2_with fail
          refine (HJ.out _).mono ?_
          rintro e_ w_ ⟨rfl, hw_⟩
          replace hw_ := hw_.symm
          subst hw_
          have r0 : 0 ≤ k - A := by have := HA.out.1; omega
          have r1 : k - A ≤ 400 := HA.out.2
          go_wp2_with fail
          refine (HY.out _).mono ?_
          rintro e_ w_ ⟨rfl, hw_⟩
          replace hw_ := hw_.symm
          subst hw_
          go_wp2
          go_loopw [10, 11] (fun x v wr => ∃ q : Nat, q ≤ j ∧ x = .int .i64 (k - A - cu y q) ∧ v = .int .i64 ((q : Int) + 1) ∧ wr = w) (fun _ v _ => j + 1 - (intOf v).toNat)
          case atStart => exact ⟨0, Nat.zero_le _, by show Value.int _ _ = Value.int _ _; congr 1; have : cu y 0 = 0 := rfl; omega, rfl, rfl⟩
          case round =>
            obtain ⟨q, hq, rfl, rfl, hw⟩ := hrel
            replace hw := hw.symm
            subst hw
            have HQ := hide (month_any y ((q : Int) + 1) (by omega) (by omega))
            have b1 := cu_bound y q (by omega)
            have HC := hide (show cu y q + md y ((q : Int) + 1) = cu y (q + 1) from rfl)
            have b2 := md_le y ((q : Int) + 1)
            by_cases hlt : q < j
            · have b3 : md y ((q : Int) + 1) ≤ k - A - cu y q := by have := cu_le (y := y) (k := q + 1) (j := j) (by omega); have := HC.out; have := HKK.out.2; omega
              have hd : decide (md y ((q : Int) + 1) ≤ k - A - cu y q) = true := decide_eq_true b3
              go_wp2_with fail
              refine (HQ.out _).mono ?_
              rintro e_ w_ ⟨rfl, hw_⟩
              replace hw_ := hw_.symm
              subst hw_
              go_wp2_with fail
              refine (HQ.out _).mono ?_
              rintro e_ w_ ⟨rfl, hw_⟩
              replace hw_ := hw_.symm
              subst hw_
              go_wp2
              go_roundw
              case rel => exact ⟨q + 1, hlt, by rw [← HC.out]; show Value.int _ _ = Value.int _ _; congr 1; omega, by go_num, trivial⟩
              case measure => simp [intOf]; omega
            · obtain rfl : q = j := by omega
              have b3 : ¬ md y ((q : Int) + 1) ≤ k - A - cu y q := by have := HMD.out; have := HKK.out.2; omega
              have hd : decide (md y ((q : Int) + 1) ≤ k - A - cu y q) = false := decide_eq_false b3
              have b4 : 0 ≤ k - A - cu y q := by have := HKK.out.2; omega
              obtain ⟨e5, e6, e7⟩ := HE.out
              have HB := hide (Below.refl w.heap.size w)
              clear HC b2 b3 hlt
              go_wp2_with fail
              refine (HQ.out _).mono ?_
              rintro e_ w_ ⟨rfl, hw_⟩
              replace hw_ := hw_.symm
              subst hw_
              clear HQ
              go_wp2_with fail
              with_reducible refine (HD1.out _).mono ?_
              rintro e_ w1 ⟨rfl, b_⟩
              replace HB := hide (Below.chain HB.out b_)
              clear b_
              go_wp2_with fail
              with_reducible refine (HD2.out _).mono ?_
              rintro e_ w2 ⟨rfl, b_⟩
              replace HB := hide (Below.chain HB.out b_)
              clear b_
              go_wp2_with fail
              with_reducible refine (HD3.out _).mono ?_
              rintro e_ w3 ⟨rfl, b_⟩
              replace HB := hide (Below.chain HB.out b_)
              clear b_
              go_wp2_with fail
              with_reducible refine (HD4.out _).mono ?_
              rintro e_ w4 ⟨rfl, b_⟩
              replace HB := hide (Below.chain HB.out b_)
              clear b_
              go_wp2_with fail
              with_reducible refine (HD5.out _).mono ?_
              rintro e_ w5 ⟨rfl, b_⟩
              replace HB := hide (Below.chain HB.out b_)
              clear b_
              go_wp2_with fail
              with_reducible refine (HD6.out _).mono ?_
              rintro e_ w6 ⟨rfl, b_⟩
              replace HB := hide (Below.chain HB.out b_)
              clear b_
              go_wp2
              go_ret
              exact ⟨by rw [hV.out]; try rfl, HB.out⟩
end Go.Proofs.YteicdlomjhjiiaaDoor
