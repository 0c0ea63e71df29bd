/- TermNames: the law's call answers true. -/
import Derived.Test.YtgadglpbbcapcaaNb
import Derived.Test.YtgadglpbbcapcaaLu
namespace Go.Proofs.Ytgadglpbbcapcaa
open Go.RowKit
set_option maxRecDepth 100000 in
set_option maxHeartbeats 4000000 in
theorem names_walk {s : ByteArray} {n : Int} {w : World} (hs : s.size ≤ 9223372036854775807) :
    Calls Try.prog 7 #[.string s, .int .i64 n] w (Yes w) := by
  have HB := hide (Below.refl w.heap.size w)
  by_cases hge : 100 < s.size
  · have dn : decide ((100 : Int) < (s.size : Int)) = true := decide_eq_true (by omega)
    go_enter Try.func7, Try.ntmps7
    go_wp2_with fail
    refine (awake_any _).mono ?_
    rintro e wk ⟨rfl, bk⟩
    replace HB := hide (Below.chain HB.out bk)
    clear bk
    go_wp2
    go_ret
    exact ⟨rfl, HB.out⟩
  · have dn : decide ((100 : Int) < (s.size : Int)) = false := decide_eq_false (by omega)
    have S := hide (Name_any s hs w)
    obtain ⟨k, hk, hkl⟩ := rot_at n (len := s.size + 1) (by omega) (by omega)
    rw [show ((s.size + 1 : Nat) : Int) = (s.size : Int) + 1 by omega] at hk
    have HK := hide (show k ≤ s.size by omega)
    have hk2 : k ≤ 100 := by omega
    have HZ := hide (show (s ++ ⟨#[120]⟩ : ByteArray).size ≤ 9223372036854775807 ∧ (⟨#[49]⟩ ++ s : ByteArray).size ≤ 9223372036854775807 from ⟨by rw [ByteArray.size_append]; show s.size + 1 ≤ _; omega, by rw [ByteArray.size_append]; show 1 + s.size ≤ _; omega⟩)
    have HZ7 := hide (show (s.extract 0 k ++ ⟨#[32]⟩ ++ s.extract k s.size : ByteArray).size ≤ 9223372036854775807 ∧ (s.extract 0 k).size + (⟨#[32]⟩ : ByteArray).size ≤ 9223372036854775807 ∧ (s.extract 0 k ++ ⟨#[32]⟩ : ByteArray).size + (s.extract k s.size).size ≤ 9223372036854775807 from by
      have e : (⟨#[32]⟩ : ByteArray).size = 1 := rfl
      rw [ByteArray.size_append, ByteArray.size_append, ByteArray.size_extract, ByteArray.size_extract, e]
      omega)
    cases hn : nameB s with
    | false =>
      rw [hn] at S
      clear hn
      go_enter Try.func7, Try.ntmps7
      go_wp2_with fail
      refine S.out.mono ?_
      rintro e w3 ⟨rfl, b3⟩
      clear S
      replace HB := hide (Below.chain HB.out b3)
      clear b3
      go_upto_region 5 with fail
      rw [hk]
      clear hk
      refine wp_region_lined (tys := fun ix_ => List.getD [isv (.bool false), isv (undef)] ix_ anyv) (pre := [(5, 0)])
        (plan := [([(5, 0)], 0), ([(20, 0)], 0), ([(21, 0)], 1), ([(21, 0)], 1), ([(21, 0)], 1), ([(21, 0)], 1), ([(25, 1)], 1), ([(25, 1)], 1), ([(25, 1)], 1), ([(21, 0)], 1), ([(21, 0)], 1), ([(30, 1)], 1), ([(30, 1)], 1), ([(30, 1)], 1), ([(30, 1)], 1), ([(30, 1)], 1), ([(30, 1)], 1), ([(30, 1)], 1), ([(37, 1)], 1), ([(37, 1)], 1), ([(37, 1)], 1), ([(40, 1)], 1), ([(40, 1)], 1), ([(40, 1)], 1), ([(40, 1)], 1), ([(44, 1)], 1), ([(44, 1)], 1), ([(44, 1)], 1), ([(40, 1)], 1), ([(37, 1)], 1), ([(37, 1)], 1), ([(30, 1)], 1), ([(30, 1)], 1), ([(21, 0)], 1), ([(21, 0)], 1), ([(54, 1)], 1), ([(54, 1)], 1), ([(54, 1)], 1), ([(21, 0)], 1), ([(21, 0)], 0)])
        77 (by kernel_rfl) rfl ⟨rfl, trivial⟩
          (OkL.cons (fun a w_ X_ h => g_move (wanted_none rfl) (.inl rfl) h.1)
          (OkL.cons (fun a w_ X_ h => g_move (wanted_none rfl) (.inl rfl) h.1)
          (OkL.cons (fun a w_ X_ h => g_skip rfl rfl h.1 rfl)
          (OkL.cons (fun a w_ X_ h => g_skip rfl rfl h.1 rfl)
          (OkL.cons (fun a w_ X_ h => g_skip rfl rfl h.1 rfl)
          (OkL.cons (fun a w_ X_ h => g_skip rfl rfl h.1 rfl)
          (OkL.cons (fun a w_ X_ h => g_skipu rfl rfl h.1 rfl)
          (OkL.cons (fun a w_ X_ h => g_skipu rfl rfl h.1 rfl)
          (OkL.cons (fun a w_ X_ h => g_skipu rfl rfl h.1 rfl)
          (OkL.cons (fun a w_ X_ h => g_skip rfl rfl h.1 rfl)
          (OkL.cons (fun a w_ X_ h => g_skip rfl rfl h.1 rfl)
          (OkL.cons (fun a w_ X_ h => g_skipu rfl rfl h.1 rfl)
          (OkL.cons (fun a w_ X_ h => g_skipu rfl rfl h.1 rfl)
          (OkL.cons (fun a w_ X_ h => g_skipu rfl rfl h.1 rfl)
          (OkL.cons (fun a w_ X_ h => g_skipu rfl rfl h.1 rfl)
          (OkL.cons (fun a w_ X_ h => g_skipu rfl rfl h.1 rfl)
          (OkL.cons (fun a w_ X_ h => g_skipu rfl rfl h.1 rfl)
          (OkL.cons (fun a w_ X_ h => g_skipu rfl rfl h.1 rfl)
          (OkL.cons (fun a w_ X_ h => g_skipu rfl rfl h.1 rfl)
          (OkL.cons (fun a w_ X_ h => g_skipu rfl rfl h.1 rfl)
          (OkL.cons (fun a w_ X_ h => g_skipu rfl rfl h.1 rfl)
          (OkL.cons (fun a w_ X_ h => g_skipu rfl rfl h.1 rfl)
          (OkL.cons (fun a w_ X_ h => g_skipu rfl rfl h.1 rfl)
          (OkL.cons (fun a w_ X_ h => g_skipu rfl rfl h.1 rfl)
          (OkL.cons (fun a w_ X_ h => g_skipu rfl rfl h.1 rfl)
          (OkL.cons (fun a w_ X_ h => g_skipu rfl rfl h.1 rfl)
          (OkL.cons (fun a w_ X_ h => g_skipu rfl rfl h.1 rfl)
          (OkL.cons (fun a w_ X_ h => g_skipu rfl rfl h.1 rfl)
          (OkL.cons (fun a w_ X_ h => g_skipu rfl rfl h.1 rfl)
          (OkL.cons (fun a w_ X_ h => g_skipu rfl rfl h.1 rfl)
          (OkL.cons (fun a w_ X_ h => g_skipu rfl rfl h.1 rfl)
          (OkL.cons (fun a w_ X_ h => g_skipu rfl rfl h.1 rfl)
          (OkL.cons (fun a w_ X_ h => g_skipu rfl rfl h.1 rfl)
          (OkL.cons (fun a w_ X_ h => g_skip rfl rfl h.1 rfl)
          (OkL.cons (fun a w_ X_ h => g_skip rfl rfl h.1 rfl)
          (OkL.cons (fun a w_ X_ h => g_skipu rfl rfl h.1 rfl)
          (OkL.cons (fun a w_ X_ h => g_skipu rfl rfl h.1 rfl)
          (OkL.cons (fun a w_ X_ h => g_skipu rfl rfl h.1 rfl)
          (OkL.cons (fun a w_ X_ h => g_skip rfl rfl h.1 rfl)
          (OkL.cons (fun a w_ X_ h => g_pick (wanted_none rfl) rfl h.1 rfl)
          OkL.nil)))))))))))))))))))))))))))))))))))))))) ?_
      rintro w5 X5 _ rfl _ rfl _ rfl _ rfl _ rfl _ rfl _ rfl _ rfl _ rfl _ rfl _ rfl _ rfl _ rfl _ rfl _ rfl _ rfl _ rfl _ rfl _ rfl _ rfl _ rfl _ rfl _ rfl _ rfl _ rfl _ rfl _ rfl _ rfl _ rfl _ rfl _ rfl _ rfl _ rfl _ rfl _ rfl _ rfl _ rfl _ rfl _ rfl _ rfl
      refine FinL.done ?_
      simp only [Act.put, List.setIfInBounds_toArray, List.set_cons_zero, List.set_cons_succ]
      replace HB := hide (Below.chain HB.out X5)
      clear X5
      go_wp2_with fail
      refine wp_region_typed (tys := fun ix_ => List.getD [isv (.string s), isv (.int .i64 (k : Int)), isv (.string (s.extract 0 k)), isv (.string ((s.extract 0 k) ++ (⟨#[32]⟩ : ByteArray))), isv (.string (s.extract k s.size)), isv (.string ((((s.extract 0 k) ++ (⟨#[32]⟩ : ByteArray))) ++ (s.extract k s.size))), isv (.bool false), isv (.bool true)] ix_ anyv) (pre := [(0, 0), (1, 1)])
        (plan := [([(0, 0)], 0), ([(1, 1)], 1), ([(60, 0), (61, 1)], 2), ([(62, 2)], 3), ([(0, 0)], 0), ([(1, 1)], 1), ([(64, 0), (65, 1)], 4), ([(63, 3), (66, 4)], 5), ([(67, 5)], 6), ([(68, 6)], 7), ([(69, 7)], 7), ([(70, 7)], 6), ([(70, 7), (71, 6)], 7), ([(70, 7), (72, 7)], 7), ([(73, 7)], 7), ([(74, 7)], 7), ([(74, 7), (75, 7)], 7), ([(76, 7)], 7)])
        (by kernel_rfl) 77 (by kernel_rfl) rfl ⟨rfl, ⟨rfl, trivial⟩⟩
          (OkL.cons (fun a w_ X_ h => g_move (wanted_none rfl) (.inl rfl) h.1)
          (OkL.cons (fun a w_ X_ h => g_move (wanted_none rfl) (.inl rfl) h.1)
          (OkL.cons (fun a w_ X_ h => g_slSu (wanted_none rfl) k rfl h.1 h.2.1 (HK.out))
          (OkL.cons (fun a w_ X_ h => g_addS (wanted_none rfl) rfl h.1 rfl (HZ7.out.2.1))
          (OkL.cons (fun a w_ X_ h => g_move (wanted_none rfl) (.inl rfl) h.1)
          (OkL.cons (fun a w_ X_ h => g_move (wanted_none rfl) (.inl rfl) h.1)
          (OkL.cons (fun a w_ X_ h => g_slSf (wanted_none rfl) k rfl h.1 h.2.1 (HK.out))
          (OkL.cons (fun a w_ X_ h => g_addS (wanted_none rfl) rfl h.1 h.2.1 (HZ7.out.2.2))
          (OkL.cons (fun a w_ X_ h => g_call1 (wanted_none rfl) (by kernel_rfl) rfl (h_nameM h.1 HZ7.out.1 (name_blank s HK.out)))
          (OkL.cons (fun a w_ X_ h => g_not (wanted_none rfl) rfl h.1 rfl)
          (OkL.cons (fun a w_ X_ h => g_move (wanted_none rfl) (.inl rfl) h.1)
          (OkL.cons (fun a w_ X_ h => g_call1 (wanted_some rfl rfl h.1) (by kernel_rfl) rfl (h_nameM rfl (by decide) name_none))
          (OkL.cons (fun a w_ X_ h => g_not (wanted_some rfl rfl h.1) rfl h.2.1 rfl)
          (OkL.cons (fun a w_ X_ h => g_pick (wanted_none rfl) rfl h.1 h.2.1)
          (OkL.cons (fun a w_ X_ h => g_move (wanted_none rfl) (.inl rfl) h.1)
          (OkL.cons (fun a w_ X_ h => g_call0 (wanted_some rfl rfl h.1) (by kernel_rfl) rfl (h_awake))
          (OkL.cons (fun a w_ X_ h => g_pick (wanted_none rfl) rfl h.1 h.2.1)
          (OkL.cons (fun a w_ X_ h => g_move (wanted_none rfl) (.inr rfl) h.1)
          OkL.nil)))))))))))))))))) ?_
      rintro w7 X7 _ rfl _ rfl _ rfl _ rfl _ rfl _ rfl _ rfl _ rfl _ rfl _ rfl _ rfl _ rfl _ rfl _ rfl _ rfl _ rfl _ rfl _ rfl
      refine FinL.done ?_
      simp only [Act.put, List.setIfInBounds_toArray, List.set_cons_zero, List.set_cons_succ]
      replace HB := hide (Below.chain HB.out X7)
      clear X7
      go_wp2
      go_ret
      exact ⟨rfl, HB.out⟩
    | true =>
      rw [hn] at S
      have HO := hide hn
      have HX0 := hide (name_x hn)
      obtain ⟨z1, z2, _, _, _⟩ := name_parts hn
      have HS1 := hide (show (⟨#[49]⟩ : ByteArray).size + s.size ≤ 9223372036854775807 from by show 1 + s.size ≤ _; omega)
      clear hn
      go_enter Try.func7, Try.ntmps7
      go_wp2_with fail
      refine S.out.mono ?_
      rintro e w3 ⟨rfl, b3⟩
      clear S
      replace HB := hide (Below.chain HB.out b3)
      clear b3
      by_cases hl : s.size < 32
      · have HX := hide (HX0.out.trans (decide_eq_true hl))
        by_cases h4 : 4 ≤ s.size
        · have HS := hide (show (1 : Int) ≤ (s.size : Int) ∧ (s.size : Int) ≤ 32 ∧ s.size + (⟨#[120]⟩ : ByteArray).size ≤ 9223372036854775807 ∧ (s.size : Int) < 32 ∧ (4 : Int) ≤ (s.size : Int) from ⟨by omega, by omega, by show s.size + 1 ≤ _; omega, by omega, by omega⟩)
          go_upto_region 5 with fail
          rw [hk]
          clear hk
          refine wp_region_lined (tys := fun ix_ => List.getD [isv (.bool true), isv (.string s), isv (.int .i64 (s.size : Int)), isv (.bool false), isv (.string (s ++ (⟨#[120]⟩ : ByteArray))), isv (.string (s.extract 0 4)), isv (.string ((⟨#[49]⟩ : ByteArray) ++ s))] ix_ anyv) (pre := [(0, 1), (5, 0)])
            (plan := [([(5, 0)], 0), ([(20, 0)], 0), ([(21, 0), (0, 1)], 1), ([(21, 0), (22, 1)], 2), ([(21, 0), (23, 2)], 3), ([(21, 0), (24, 3)], 3), ([(25, 3), (0, 1)], 1), ([(25, 3), (26, 1)], 2), ([(25, 3), (27, 2)], 3), ([(21, 0), (25, 3), (28, 3)], 3), ([(21, 0), (29, 3)], 3), ([(30, 3), (0, 1)], 1), ([(30, 3), (31, 1)], 4), ([(30, 3), (32, 4)], 0), ([(30, 3), (0, 1)], 1), ([(30, 3), (34, 1)], 2), ([(30, 3), (35, 2)], 0), ([(30, 3), (36, 0)], 0), ([(37, 0), (0, 1)], 1), ([(37, 0), (38, 1)], 3), ([(37, 0), (39, 3)], 3), ([(40, 3), (0, 1)], 1), ([(40, 3), (41, 1)], 2), ([(40, 3), (42, 2)], 0), ([(40, 3), (43, 0)], 0), ([(44, 0), (0, 1)], 1), ([(44, 0), (45, 1)], 5), ([(44, 0), (46, 5)], 3), ([(40, 3), (44, 0), (47, 3)], 3), ([(37, 0), (40, 3), (48, 3)], 3), ([(37, 0), (49, 3)], 0), ([(30, 3), (37, 0), (50, 0)], 0), ([(30, 3), (33, 0), (51, 0)], 3), ([(21, 0), (30, 3), (52, 3)], 3), ([(21, 0), (53, 3)], 3), ([(54, 3), (0, 1)], 1), ([(54, 3), (55, 1)], 6), ([(54, 3), (56, 6)], 3), ([(21, 0), (54, 3), (57, 3)], 3), ([(21, 0), (58, 3)], 3)])
            77 (by kernel_rfl) rfl ⟨rfl, ⟨rfl, trivial⟩⟩
              (OkL.cons (fun a w_ X_ h => g_move (wanted_none rfl) (.inl rfl) h.1)
              (OkL.cons (fun a w_ X_ h => g_move (wanted_none rfl) (.inl rfl) h.1)
              (OkL.cons (fun a w_ X_ h => g_move (wanted_some rfl rfl h.1) (.inl rfl) h.2.1)
              (OkL.cons (fun a w_ X_ h => g_lenS (wanted_some rfl rfl h.1) rfl h.2.1)
              (OkL.cons (fun a w_ X_ h => g_cI (wanted_some rfl rfl h.1) rfl rfl h.2.1 rfl (decide_eq_false (Int.not_lt.2 HS.out.1)))
              (OkL.cons (fun a w_ X_ h => g_move (wanted_some rfl rfl h.1) (.inl rfl) h.2.1)
              (OkL.cons (fun a w_ X_ h => g_move (wanted_some rfl rfl h.1) (.inl rfl) h.2.1)
              (OkL.cons (fun a w_ X_ h => g_lenS (wanted_some rfl rfl h.1) rfl h.2.1)
              (OkL.cons (fun a w_ X_ h => g_cI (wanted_some rfl rfl h.1) rfl rfl h.2.1 rfl (decide_eq_false (Int.not_lt.2 HS.out.2.1)))
              (OkL.cons (fun a w_ X_ h => g_pick (wanted_some rfl rfl h.1) rfl h.2.1 h.2.2.1)
              (OkL.cons (fun a w_ X_ h => g_move (wanted_some rfl rfl h.1) (.inl rfl) h.2.1)
              (OkL.cons (fun a w_ X_ h => g_move (wanted_some rfl rfl h.1) (.inl rfl) h.2.1)
              (OkL.cons (fun a w_ X_ h => g_addS (wanted_some rfl rfl h.1) rfl h.2.1 rfl (HS.out.2.2.1))
              (OkL.cons (fun a w_ X_ h => g_call1 (wanted_some rfl rfl h.1) (by kernel_rfl) rfl (h_nameM h.2.1 HZ.out.1 HX.out))
              (OkL.cons (fun a w_ X_ h => g_move (wanted_some rfl rfl h.1) (.inl rfl) h.2.1)
              (OkL.cons (fun a w_ X_ h => g_lenS (wanted_some rfl rfl h.1) rfl h.2.1)
              (OkL.cons (fun a w_ X_ h => g_cI (wanted_some rfl rfl h.1) rfl rfl h.2.1 rfl (decide_eq_true (HS.out.2.2.2.1)))
              (OkL.cons (fun a w_ X_ h => g_move (wanted_some rfl rfl h.1) (.inl rfl) h.2.1)
              (OkL.cons (fun a w_ X_ h => g_move (wanted_some rfl rfl h.1) (.inl rfl) h.2.1)
              (OkL.cons (fun a w_ X_ h => g_eqs (wanted_some rfl rfl h.1) rfl h.2.1 rfl (congrArg Value.bool (name_not_hex HO.out)))
              (OkL.cons (fun a w_ X_ h => g_move (wanted_some rfl rfl h.1) (.inl rfl) h.2.1)
              (OkL.cons (fun a w_ X_ h => g_move (wanted_some rfl rfl h.1) (.inl rfl) h.2.1)
              (OkL.cons (fun a w_ X_ h => g_lenS (wanted_some rfl rfl h.1) rfl h.2.1)
              (OkL.cons (fun a w_ X_ h => g_cI (wanted_some rfl rfl h.1) rfl rfl h.2.1 rfl (decide_eq_true (HS.out.2.2.2.2)))
              (OkL.cons (fun a w_ X_ h => g_move (wanted_some rfl rfl h.1) (.inl rfl) h.2.1)
              (OkL.cons (fun a w_ X_ h => g_move (wanted_some rfl rfl h.1) (.inl rfl) h.2.1)
              (OkL.cons (fun a w_ X_ h => g_slSu (wanted_some rfl rfl h.1) 4 rfl h.2.1 rfl (Int.ofNat_le.1 HS.out.2.2.2.2))
              (OkL.cons (fun a w_ X_ h => g_eqs (wanted_some rfl rfl h.1) rfl h.2.1 rfl (congrArg Value.bool (name_cut_hex HO.out (Int.ofNat_le.1 HS.out.2.2.2.2))))
              (OkL.cons (fun a w_ X_ h => g_pick (wanted_some rfl rfl h.1) rfl h.2.1 h.2.2.1)
              (OkL.cons (fun a w_ X_ h => g_pick (wanted_some rfl rfl h.1) rfl h.2.1 h.2.2.1)
              (OkL.cons (fun a w_ X_ h => g_not (wanted_some rfl rfl h.1) rfl h.2.1 rfl)
              (OkL.cons (fun a w_ X_ h => g_pick (wanted_some rfl rfl h.1) rfl h.2.1 h.2.2.1)
              (OkL.cons (fun a w_ X_ h => g_neb (wanted_some rfl rfl h.1) rfl h.2.1 h.2.2.1 rfl)
              (OkL.cons (fun a w_ X_ h => g_pick (wanted_some rfl rfl h.1) rfl h.2.1 h.2.2.1)
              (OkL.cons (fun a w_ X_ h => g_move (wanted_some rfl rfl h.1) (.inl rfl) h.2.1)
              (OkL.cons (fun a w_ X_ h => g_move (wanted_some rfl rfl h.1) (.inl rfl) h.2.1)
              (OkL.cons (fun a w_ X_ h => g_addS (wanted_some rfl rfl h.1) rfl rfl h.2.1 (HS1.out))
              (OkL.cons (fun a w_ X_ h => g_call1 (wanted_some rfl rfl h.1) (by kernel_rfl) rfl (h_nameM h.2.1 HZ.out.2 (name_1 _)))
              (OkL.cons (fun a w_ X_ h => g_pick (wanted_some rfl rfl h.1) rfl h.2.1 h.2.2.1)
              (OkL.cons (fun a w_ X_ h => g_pick (wanted_none rfl) rfl h.1 h.2.1)
              OkL.nil)))))))))))))))))))))))))))))))))))))))) ?_
          rintro w5 X5 _ rfl _ rfl _ rfl _ rfl _ rfl _ rfl _ rfl _ rfl _ rfl _ rfl _ rfl _ rfl _ rfl _ rfl _ rfl _ rfl _ rfl _ rfl _ rfl _ rfl _ rfl _ rfl _ rfl _ rfl _ rfl _ rfl _ rfl _ rfl _ rfl _ rfl _ rfl _ rfl _ rfl _ rfl _ rfl _ rfl _ rfl _ rfl _ rfl _ rfl
          refine FinL.done ?_
          simp only [Act.put, List.setIfInBounds_toArray, List.set_cons_zero, List.set_cons_succ]
          replace HB := hide (Below.chain HB.out X5)
          clear X5
          go_wp2_with fail
          refine wp_region_typed (tys := fun ix_ => List.getD [isv (.string s), isv (.int .i64 (k : Int)), isv (.string (s.extract 0 k)), isv (.string ((s.extract 0 k) ++ (⟨#[32]⟩ : ByteArray))), isv (.string (s.extract k s.size)), isv (.string ((((s.extract 0 k) ++ (⟨#[32]⟩ : ByteArray))) ++ (s.extract k s.size))), isv (.bool false), isv (.bool true)] ix_ anyv) (pre := [(0, 0), (1, 1)])
            (plan := [([(0, 0)], 0), ([(1, 1)], 1), ([(60, 0), (61, 1)], 2), ([(62, 2)], 3), ([(0, 0)], 0), ([(1, 1)], 1), ([(64, 0), (65, 1)], 4), ([(63, 3), (66, 4)], 5), ([(67, 5)], 6), ([(68, 6)], 7), ([(69, 7)], 7), ([(70, 7)], 6), ([(70, 7), (71, 6)], 7), ([(70, 7), (72, 7)], 7), ([(73, 7)], 7), ([(74, 7)], 7), ([(74, 7), (75, 7)], 7), ([(76, 7)], 7)])
            (by kernel_rfl) 77 (by kernel_rfl) rfl ⟨rfl, ⟨rfl, trivial⟩⟩
              (OkL.cons (fun a w_ X_ h => g_move (wanted_none rfl) (.inl rfl) h.1)
              (OkL.cons (fun a w_ X_ h => g_move (wanted_none rfl) (.inl rfl) h.1)
              (OkL.cons (fun a w_ X_ h => g_slSu (wanted_none rfl) k rfl h.1 h.2.1 (HK.out))
              (OkL.cons (fun a w_ X_ h => g_addS (wanted_none rfl) rfl h.1 rfl (HZ7.out.2.1))
              (OkL.cons (fun a w_ X_ h => g_move (wanted_none rfl) (.inl rfl) h.1)
              (OkL.cons (fun a w_ X_ h => g_move (wanted_none rfl) (.inl rfl) h.1)
              (OkL.cons (fun a w_ X_ h => g_slSf (wanted_none rfl) k rfl h.1 h.2.1 (HK.out))
              (OkL.cons (fun a w_ X_ h => g_addS (wanted_none rfl) rfl h.1 h.2.1 (HZ7.out.2.2))
              (OkL.cons (fun a w_ X_ h => g_call1 (wanted_none rfl) (by kernel_rfl) rfl (h_nameM h.1 HZ7.out.1 (name_blank s HK.out)))
              (OkL.cons (fun a w_ X_ h => g_not (wanted_none rfl) rfl h.1 rfl)
              (OkL.cons (fun a w_ X_ h => g_move (wanted_none rfl) (.inl rfl) h.1)
              (OkL.cons (fun a w_ X_ h => g_call1 (wanted_some rfl rfl h.1) (by kernel_rfl) rfl (h_nameM rfl (by decide) name_none))
              (OkL.cons (fun a w_ X_ h => g_not (wanted_some rfl rfl h.1) rfl h.2.1 rfl)
              (OkL.cons (fun a w_ X_ h => g_pick (wanted_none rfl) rfl h.1 h.2.1)
              (OkL.cons (fun a w_ X_ h => g_move (wanted_none rfl) (.inl rfl) h.1)
              (OkL.cons (fun a w_ X_ h => g_call0 (wanted_some rfl rfl h.1) (by kernel_rfl) rfl (h_awake))
              (OkL.cons (fun a w_ X_ h => g_pick (wanted_none rfl) rfl h.1 h.2.1)
              (OkL.cons (fun a w_ X_ h => g_move (wanted_none rfl) (.inr rfl) h.1)
              OkL.nil)))))))))))))))))) ?_
          rintro w7 X7 _ rfl _ rfl _ rfl _ rfl _ rfl _ rfl _ rfl _ rfl _ rfl _ rfl _ rfl _ rfl _ rfl _ rfl _ rfl _ rfl _ rfl _ rfl
          refine FinL.done ?_
          simp only [Act.put, List.setIfInBounds_toArray, List.set_cons_zero, List.set_cons_succ]
          replace HB := hide (Below.chain HB.out X7)
          clear X7
          go_wp2
          go_ret
          exact ⟨rfl, HB.out⟩
        · have HS := hide (show (1 : Int) ≤ (s.size : Int) ∧ (s.size : Int) ≤ 32 ∧ s.size + (⟨#[120]⟩ : ByteArray).size ≤ 9223372036854775807 ∧ (s.size : Int) < 32 ∧ (s.size : Int) < 4 from ⟨by omega, by omega, by show s.size + 1 ≤ _; omega, by omega, by omega⟩)
          go_upto_region 5 with fail
          rw [hk]
          clear hk
          refine wp_region_lined (tys := fun ix_ => List.getD [isv (.bool true), isv (.string s), isv (.int .i64 (s.size : Int)), isv (.bool false), isv (.string (s ++ (⟨#[120]⟩ : ByteArray))), isv (undef), isv (.string ((⟨#[49]⟩ : ByteArray) ++ s))] ix_ anyv) (pre := [(0, 1), (5, 0)])
            (plan := [([(5, 0)], 0), ([(20, 0)], 0), ([(21, 0), (0, 1)], 1), ([(21, 0), (22, 1)], 2), ([(21, 0), (23, 2)], 3), ([(21, 0), (24, 3)], 3), ([(25, 3), (0, 1)], 1), ([(25, 3), (26, 1)], 2), ([(25, 3), (27, 2)], 3), ([(21, 0), (25, 3), (28, 3)], 3), ([(21, 0), (29, 3)], 3), ([(30, 3), (0, 1)], 1), ([(30, 3), (31, 1)], 4), ([(30, 3), (32, 4)], 0), ([(30, 3), (0, 1)], 1), ([(30, 3), (34, 1)], 2), ([(30, 3), (35, 2)], 0), ([(30, 3), (36, 0)], 0), ([(37, 0), (0, 1)], 1), ([(37, 0), (38, 1)], 3), ([(37, 0), (39, 3)], 3), ([(40, 3), (0, 1)], 1), ([(40, 3), (41, 1)], 2), ([(40, 3), (42, 2)], 3), ([(40, 3), (43, 3)], 3), ([(44, 3)], 5), ([(44, 3)], 5), ([(44, 3)], 5), ([(40, 3), (44, 3)], 3), ([(37, 0), (40, 3), (48, 3)], 3), ([(37, 0), (49, 3)], 0), ([(30, 3), (37, 0), (50, 0)], 0), ([(30, 3), (33, 0), (51, 0)], 3), ([(21, 0), (30, 3), (52, 3)], 3), ([(21, 0), (53, 3)], 3), ([(54, 3), (0, 1)], 1), ([(54, 3), (55, 1)], 6), ([(54, 3), (56, 6)], 3), ([(21, 0), (54, 3), (57, 3)], 3), ([(21, 0), (58, 3)], 3)])
            77 (by kernel_rfl) rfl ⟨rfl, ⟨rfl, trivial⟩⟩
              (OkL.cons (fun a w_ X_ h => g_move (wanted_none rfl) (.inl rfl) h.1)
              (OkL.cons (fun a w_ X_ h => g_move (wanted_none rfl) (.inl rfl) h.1)
              (OkL.cons (fun a w_ X_ h => g_move (wanted_some rfl rfl h.1) (.inl rfl) h.2.1)
              (OkL.cons (fun a w_ X_ h => g_lenS (wanted_some rfl rfl h.1) rfl h.2.1)
              (OkL.cons (fun a w_ X_ h => g_cI (wanted_some rfl rfl h.1) rfl rfl h.2.1 rfl (decide_eq_false (Int.not_lt.2 HS.out.1)))
              (OkL.cons (fun a w_ X_ h => g_move (wanted_some rfl rfl h.1) (.inl rfl) h.2.1)
              (OkL.cons (fun a w_ X_ h => g_move (wanted_some rfl rfl h.1) (.inl rfl) h.2.1)
              (OkL.cons (fun a w_ X_ h => g_lenS (wanted_some rfl rfl h.1) rfl h.2.1)
              (OkL.cons (fun a w_ X_ h => g_cI (wanted_some rfl rfl h.1) rfl rfl h.2.1 rfl (decide_eq_false (Int.not_lt.2 HS.out.2.1)))
              (OkL.cons (fun a w_ X_ h => g_pick (wanted_some rfl rfl h.1) rfl h.2.1 h.2.2.1)
              (OkL.cons (fun a w_ X_ h => g_move (wanted_some rfl rfl h.1) (.inl rfl) h.2.1)
              (OkL.cons (fun a w_ X_ h => g_move (wanted_some rfl rfl h.1) (.inl rfl) h.2.1)
              (OkL.cons (fun a w_ X_ h => g_addS (wanted_some rfl rfl h.1) rfl h.2.1 rfl (HS.out.2.2.1))
              (OkL.cons (fun a w_ X_ h => g_call1 (wanted_some rfl rfl h.1) (by kernel_rfl) rfl (h_nameM h.2.1 HZ.out.1 HX.out))
              (OkL.cons (fun a w_ X_ h => g_move (wanted_some rfl rfl h.1) (.inl rfl) h.2.1)
              (OkL.cons (fun a w_ X_ h => g_lenS (wanted_some rfl rfl h.1) rfl h.2.1)
              (OkL.cons (fun a w_ X_ h => g_cI (wanted_some rfl rfl h.1) rfl rfl h.2.1 rfl (decide_eq_true (HS.out.2.2.2.1)))
              (OkL.cons (fun a w_ X_ h => g_move (wanted_some rfl rfl h.1) (.inl rfl) h.2.1)
              (OkL.cons (fun a w_ X_ h => g_move (wanted_some rfl rfl h.1) (.inl rfl) h.2.1)
              (OkL.cons (fun a w_ X_ h => g_eqs (wanted_some rfl rfl h.1) rfl h.2.1 rfl (congrArg Value.bool (name_not_hex HO.out)))
              (OkL.cons (fun a w_ X_ h => g_move (wanted_some rfl rfl h.1) (.inl rfl) h.2.1)
              (OkL.cons (fun a w_ X_ h => g_move (wanted_some rfl rfl h.1) (.inl rfl) h.2.1)
              (OkL.cons (fun a w_ X_ h => g_lenS (wanted_some rfl rfl h.1) rfl h.2.1)
              (OkL.cons (fun a w_ X_ h => g_cI (wanted_some rfl rfl h.1) rfl rfl h.2.1 rfl (decide_eq_false (Int.not_le.2 HS.out.2.2.2.2)))
              (OkL.cons (fun a w_ X_ h => g_move (wanted_some rfl rfl h.1) (.inl rfl) h.2.1)
              (OkL.cons (fun a w_ X_ h => g_skip rfl rfl h.1 rfl)
              (OkL.cons (fun a w_ X_ h => g_skip rfl rfl h.1 rfl)
              (OkL.cons (fun a w_ X_ h => g_skip rfl rfl h.1 rfl)
              (OkL.cons (fun a w_ X_ h => g_pick (wanted_some rfl rfl h.1) rfl h.2.1 rfl)
              (OkL.cons (fun a w_ X_ h => g_pick (wanted_some rfl rfl h.1) rfl h.2.1 h.2.2.1)
              (OkL.cons (fun a w_ X_ h => g_not (wanted_some rfl rfl h.1) rfl h.2.1 rfl)
              (OkL.cons (fun a w_ X_ h => g_pick (wanted_some rfl rfl h.1) rfl h.2.1 h.2.2.1)
              (OkL.cons (fun a w_ X_ h => g_neb (wanted_some rfl rfl h.1) rfl h.2.1 h.2.2.1 rfl)
              (OkL.cons (fun a w_ X_ h => g_pick (wanted_some rfl rfl h.1) rfl h.2.1 h.2.2.1)
              (OkL.cons (fun a w_ X_ h => g_move (wanted_some rfl rfl h.1) (.inl rfl) h.2.1)
              (OkL.cons (fun a w_ X_ h => g_move (wanted_some rfl rfl h.1) (.inl rfl) h.2.1)
              (OkL.cons (fun a w_ X_ h => g_addS (wanted_some rfl rfl h.1) rfl rfl h.2.1 (HS1.out))
              (OkL.cons (fun a w_ X_ h => g_call1 (wanted_some rfl rfl h.1) (by kernel_rfl) rfl (h_nameM h.2.1 HZ.out.2 (name_1 _)))
              (OkL.cons (fun a w_ X_ h => g_pick (wanted_some rfl rfl h.1) rfl h.2.1 h.2.2.1)
              (OkL.cons (fun a w_ X_ h => g_pick (wanted_none rfl) rfl h.1 h.2.1)
              OkL.nil)))))))))))))))))))))))))))))))))))))))) ?_
          rintro w5 X5 _ rfl _ rfl _ rfl _ rfl _ rfl _ rfl _ rfl _ rfl _ rfl _ rfl _ rfl _ rfl _ rfl _ rfl _ rfl _ rfl _ rfl _ rfl _ rfl _ rfl _ rfl _ rfl _ rfl _ rfl _ rfl _ rfl _ rfl _ rfl _ rfl _ rfl _ rfl _ rfl _ rfl _ rfl _ rfl _ rfl _ rfl _ rfl _ rfl _ rfl
          refine FinL.done ?_
          simp only [Act.put, List.setIfInBounds_toArray, List.set_cons_zero, List.set_cons_succ]
          replace HB := hide (Below.chain HB.out X5)
          clear X5
          go_wp2_with fail
          refine wp_region_typed (tys := fun ix_ => List.getD [isv (.string s), isv (.int .i64 (k : Int)), isv (.string (s.extract 0 k)), isv (.string ((s.extract 0 k) ++ (⟨#[32]⟩ : ByteArray))), isv (.string (s.extract k s.size)), isv (.string ((((s.extract 0 k) ++ (⟨#[32]⟩ : ByteArray))) ++ (s.extract k s.size))), isv (.bool false), isv (.bool true)] ix_ anyv) (pre := [(0, 0), (1, 1)])
            (plan := [([(0, 0)], 0), ([(1, 1)], 1), ([(60, 0), (61, 1)], 2), ([(62, 2)], 3), ([(0, 0)], 0), ([(1, 1)], 1), ([(64, 0), (65, 1)], 4), ([(63, 3), (66, 4)], 5), ([(67, 5)], 6), ([(68, 6)], 7), ([(69, 7)], 7), ([(70, 7)], 6), ([(70, 7), (71, 6)], 7), ([(70, 7), (72, 7)], 7), ([(73, 7)], 7), ([(74, 7)], 7), ([(74, 7), (75, 7)], 7), ([(76, 7)], 7)])
            (by kernel_rfl) 77 (by kernel_rfl) rfl ⟨rfl, ⟨rfl, trivial⟩⟩
              (OkL.cons (fun a w_ X_ h => g_move (wanted_none rfl) (.inl rfl) h.1)
              (OkL.cons (fun a w_ X_ h => g_move (wanted_none rfl) (.inl rfl) h.1)
              (OkL.cons (fun a w_ X_ h => g_slSu (wanted_none rfl) k rfl h.1 h.2.1 (HK.out))
              (OkL.cons (fun a w_ X_ h => g_addS (wanted_none rfl) rfl h.1 rfl (HZ7.out.2.1))
              (OkL.cons (fun a w_ X_ h => g_move (wanted_none rfl) (.inl rfl) h.1)
              (OkL.cons (fun a w_ X_ h => g_move (wanted_none rfl) (.inl rfl) h.1)
              (OkL.cons (fun a w_ X_ h => g_slSf (wanted_none rfl) k rfl h.1 h.2.1 (HK.out))
              (OkL.cons (fun a w_ X_ h => g_addS (wanted_none rfl) rfl h.1 h.2.1 (HZ7.out.2.2))
              (OkL.cons (fun a w_ X_ h => g_call1 (wanted_none rfl) (by kernel_rfl) rfl (h_nameM h.1 HZ7.out.1 (name_blank s HK.out)))
              (OkL.cons (fun a w_ X_ h => g_not (wanted_none rfl) rfl h.1 rfl)
              (OkL.cons (fun a w_ X_ h => g_move (wanted_none rfl) (.inl rfl) h.1)
              (OkL.cons (fun a w_ X_ h => g_call1 (wanted_some rfl rfl h.1) (by kernel_rfl) rfl (h_nameM rfl (by decide) name_none))
              (OkL.cons (fun a w_ X_ h => g_not (wanted_some rfl rfl h.1) rfl h.2.1 rfl)
              (OkL.cons (fun a w_ X_ h => g_pick (wanted_none rfl) rfl h.1 h.2.1)
              (OkL.cons (fun a w_ X_ h => g_move (wanted_none rfl) (.inl rfl) h.1)
              (OkL.cons (fun a w_ X_ h => g_call0 (wanted_some rfl rfl h.1) (by kernel_rfl) rfl (h_awake))
              (OkL.cons (fun a w_ X_ h => g_pick (wanted_none rfl) rfl h.1 h.2.1)
              (OkL.cons (fun a w_ X_ h => g_move (wanted_none rfl) (.inr rfl) h.1)
              OkL.nil)))))))))))))))))) ?_
          rintro w7 X7 _ rfl _ rfl _ rfl _ rfl _ rfl _ rfl _ rfl _ rfl _ rfl _ rfl _ rfl _ rfl _ rfl _ rfl _ rfl _ rfl _ rfl _ rfl
          refine FinL.done ?_
          simp only [Act.put, List.setIfInBounds_toArray, List.set_cons_zero, List.set_cons_succ]
          replace HB := hide (Below.chain HB.out X7)
          clear X7
          go_wp2
          go_ret
          exact ⟨rfl, HB.out⟩
      · have HX := hide (HX0.out.trans (decide_eq_false hl))
        have HS := hide (show (1 : Int) ≤ (s.size : Int) ∧ (s.size : Int) ≤ 32 ∧ s.size + (⟨#[120]⟩ : ByteArray).size ≤ 9223372036854775807 ∧ (32 : Int) ≤ (s.size : Int) ∧ True from ⟨by omega, by omega, by show s.size + 1 ≤ _; omega, by omega, trivial⟩)
        go_upto_region 5 with fail
        rw [hk]
        clear hk
        refine wp_region_lined (tys := fun ix_ => List.getD [isv (.bool true), isv (.string s), isv (.int .i64 (s.size : Int)), isv (.bool false), isv (.string (s ++ (⟨#[120]⟩ : ByteArray))), isv (undef), isv (.string ((⟨#[49]⟩ : ByteArray) ++ s))] ix_ anyv) (pre := [(0, 1), (5, 0)])
          (plan := [([(5, 0)], 0), ([(20, 0)], 0), ([(21, 0), (0, 1)], 1), ([(21, 0), (22, 1)], 2), ([(21, 0), (23, 2)], 3), ([(21, 0), (24, 3)], 3), ([(25, 3), (0, 1)], 1), ([(25, 3), (26, 1)], 2), ([(25, 3), (27, 2)], 3), ([(21, 0), (25, 3), (28, 3)], 3), ([(21, 0), (29, 3)], 3), ([(30, 3), (0, 1)], 1), ([(30, 3), (31, 1)], 4), ([(30, 3), (32, 4)], 3), ([(30, 3), (0, 1)], 1), ([(30, 3), (34, 1)], 2), ([(30, 3), (35, 2)], 3), ([(30, 3), (36, 3)], 3), ([(37, 3)], 5), ([(37, 3)], 5), ([(37, 3)], 5), ([(40, 5)], 5), ([(40, 5)], 5), ([(40, 5)], 5), ([(40, 5)], 5), ([(44, 5)], 5), ([(44, 5)], 5), ([(44, 5)], 5), ([(40, 5)], 5), ([(37, 3)], 5), ([(37, 3)], 5), ([(30, 3), (37, 3)], 3), ([(30, 3), (33, 3), (51, 3)], 3), ([(21, 0), (30, 3), (52, 3)], 3), ([(21, 0), (53, 3)], 3), ([(54, 3), (0, 1)], 1), ([(54, 3), (55, 1)], 6), ([(54, 3), (56, 6)], 3), ([(21, 0), (54, 3), (57, 3)], 3), ([(21, 0), (58, 3)], 3)])
          77 (by kernel_rfl) rfl ⟨rfl, ⟨rfl, trivial⟩⟩
            (OkL.cons (fun a w_ X_ h => g_move (wanted_none rfl) (.inl rfl) h.1)
            (OkL.cons (fun a w_ X_ h => g_move (wanted_none rfl) (.inl rfl) h.1)
            (OkL.cons (fun a w_ X_ h => g_move (wanted_some rfl rfl h.1) (.inl rfl) h.2.1)
            (OkL.cons (fun a w_ X_ h => g_lenS (wanted_some rfl rfl h.1) rfl h.2.1)
            (OkL.cons (fun a w_ X_ h => g_cI (wanted_some rfl rfl h.1) rfl rfl h.2.1 rfl (decide_eq_false (Int.not_lt.2 HS.out.1)))
            (OkL.cons (fun a w_ X_ h => g_move (wanted_some rfl rfl h.1) (.inl rfl) h.2.1)
            (OkL.cons (fun a w_ X_ h => g_move (wanted_some rfl rfl h.1) (.inl rfl) h.2.1)
            (OkL.cons (fun a w_ X_ h => g_lenS (wanted_some rfl rfl h.1) rfl h.2.1)
            (OkL.cons (fun a w_ X_ h => g_cI (wanted_some rfl rfl h.1) rfl rfl h.2.1 rfl (decide_eq_false (Int.not_lt.2 HS.out.2.1)))
            (OkL.cons (fun a w_ X_ h => g_pick (wanted_some rfl rfl h.1) rfl h.2.1 h.2.2.1)
            (OkL.cons (fun a w_ X_ h => g_move (wanted_some rfl rfl h.1) (.inl rfl) h.2.1)
            (OkL.cons (fun a w_ X_ h => g_move (wanted_some rfl rfl h.1) (.inl rfl) h.2.1)
            (OkL.cons (fun a w_ X_ h => g_addS (wanted_some rfl rfl h.1) rfl h.2.1 rfl (HS.out.2.2.1))
            (OkL.cons (fun a w_ X_ h => g_call1 (wanted_some rfl rfl h.1) (by kernel_rfl) rfl (h_nameM h.2.1 HZ.out.1 HX.out))
            (OkL.cons (fun a w_ X_ h => g_move (wanted_some rfl rfl h.1) (.inl rfl) h.2.1)
            (OkL.cons (fun a w_ X_ h => g_lenS (wanted_some rfl rfl h.1) rfl h.2.1)
            (OkL.cons (fun a w_ X_ h => g_cI (wanted_some rfl rfl h.1) rfl rfl h.2.1 rfl (decide_eq_false (Int.not_lt.2 HS.out.2.2.2.1)))
            (OkL.cons (fun a w_ X_ h => g_move (wanted_some rfl rfl h.1) (.inl rfl) h.2.1)
            (OkL.cons (fun a w_ X_ h => g_skip rfl rfl h.1 rfl)
            (OkL.cons (fun a w_ X_ h => g_skip rfl rfl h.1 rfl)
            (OkL.cons (fun a w_ X_ h => g_skip rfl rfl h.1 rfl)
            (OkL.cons (fun a w_ X_ h => g_skipu rfl rfl h.1 rfl)
            (OkL.cons (fun a w_ X_ h => g_skipu rfl rfl h.1 rfl)
            (OkL.cons (fun a w_ X_ h => g_skipu rfl rfl h.1 rfl)
            (OkL.cons (fun a w_ X_ h => g_skipu rfl rfl h.1 rfl)
            (OkL.cons (fun a w_ X_ h => g_skipu rfl rfl h.1 rfl)
            (OkL.cons (fun a w_ X_ h => g_skipu rfl rfl h.1 rfl)
            (OkL.cons (fun a w_ X_ h => g_skipu rfl rfl h.1 rfl)
            (OkL.cons (fun a w_ X_ h => g_skipu rfl rfl h.1 rfl)
            (OkL.cons (fun a w_ X_ h => g_skip rfl rfl h.1 rfl)
            (OkL.cons (fun a w_ X_ h => g_skip rfl rfl h.1 rfl)
            (OkL.cons (fun a w_ X_ h => g_pick (wanted_some rfl rfl h.1) rfl h.2.1 rfl)
            (OkL.cons (fun a w_ X_ h => g_neb (wanted_some rfl rfl h.1) rfl h.2.1 h.2.2.1 rfl)
            (OkL.cons (fun a w_ X_ h => g_pick (wanted_some rfl rfl h.1) rfl h.2.1 h.2.2.1)
            (OkL.cons (fun a w_ X_ h => g_move (wanted_some rfl rfl h.1) (.inl rfl) h.2.1)
            (OkL.cons (fun a w_ X_ h => g_move (wanted_some rfl rfl h.1) (.inl rfl) h.2.1)
            (OkL.cons (fun a w_ X_ h => g_addS (wanted_some rfl rfl h.1) rfl rfl h.2.1 (HS1.out))
            (OkL.cons (fun a w_ X_ h => g_call1 (wanted_some rfl rfl h.1) (by kernel_rfl) rfl (h_nameM h.2.1 HZ.out.2 (name_1 _)))
            (OkL.cons (fun a w_ X_ h => g_pick (wanted_some rfl rfl h.1) rfl h.2.1 h.2.2.1)
            (OkL.cons (fun a w_ X_ h => g_pick (wanted_none rfl) rfl h.1 h.2.1)
            OkL.nil)))))))))))))))))))))))))))))))))))))))) ?_
        rintro w5 X5 _ rfl _ rfl _ rfl _ rfl _ rfl _ rfl _ rfl _ rfl _ rfl _ rfl _ rfl _ rfl _ rfl _ rfl _ rfl _ rfl _ rfl _ rfl _ rfl _ rfl _ rfl _ rfl _ rfl _ rfl _ rfl _ rfl _ rfl _ rfl _ rfl _ rfl _ rfl _ rfl _ rfl _ rfl _ rfl _ rfl _ rfl _ rfl _ rfl _ rfl
        refine FinL.done ?_
        simp only [Act.put, List.setIfInBounds_toArray, List.set_cons_zero, List.set_cons_succ]
        replace HB := hide (Below.chain HB.out X5)
        clear X5
        go_wp2_with fail
        refine wp_region_typed (tys := fun ix_ => List.getD [isv (.string s), isv (.int .i64 (k : Int)), isv (.string (s.extract 0 k)), isv (.string ((s.extract 0 k) ++ (⟨#[32]⟩ : ByteArray))), isv (.string (s.extract k s.size)), isv (.string ((((s.extract 0 k) ++ (⟨#[32]⟩ : ByteArray))) ++ (s.extract k s.size))), isv (.bool false), isv (.bool true)] ix_ anyv) (pre := [(0, 0), (1, 1)])
          (plan := [([(0, 0)], 0), ([(1, 1)], 1), ([(60, 0), (61, 1)], 2), ([(62, 2)], 3), ([(0, 0)], 0), ([(1, 1)], 1), ([(64, 0), (65, 1)], 4), ([(63, 3), (66, 4)], 5), ([(67, 5)], 6), ([(68, 6)], 7), ([(69, 7)], 7), ([(70, 7)], 6), ([(70, 7), (71, 6)], 7), ([(70, 7), (72, 7)], 7), ([(73, 7)], 7), ([(74, 7)], 7), ([(74, 7), (75, 7)], 7), ([(76, 7)], 7)])
          (by kernel_rfl) 77 (by kernel_rfl) rfl ⟨rfl, ⟨rfl, trivial⟩⟩
            (OkL.cons (fun a w_ X_ h => g_move (wanted_none rfl) (.inl rfl) h.1)
            (OkL.cons (fun a w_ X_ h => g_move (wanted_none rfl) (.inl rfl) h.1)
            (OkL.cons (fun a w_ X_ h => g_slSu (wanted_none rfl) k rfl h.1 h.2.1 (HK.out))
            (OkL.cons (fun a w_ X_ h => g_addS (wanted_none rfl) rfl h.1 rfl (HZ7.out.2.1))
            (OkL.cons (fun a w_ X_ h => g_move (wanted_none rfl) (.inl rfl) h.1)
            (OkL.cons (fun a w_ X_ h => g_move (wanted_none rfl) (.inl rfl) h.1)
            (OkL.cons (fun a w_ X_ h => g_slSf (wanted_none rfl) k rfl h.1 h.2.1 (HK.out))
            (OkL.cons (fun a w_ X_ h => g_addS (wanted_none rfl) rfl h.1 h.2.1 (HZ7.out.2.2))
            (OkL.cons (fun a w_ X_ h => g_call1 (wanted_none rfl) (by kernel_rfl) rfl (h_nameM h.1 HZ7.out.1 (name_blank s HK.out)))
            (OkL.cons (fun a w_ X_ h => g_not (wanted_none rfl) rfl h.1 rfl)
            (OkL.cons (fun a w_ X_ h => g_move (wanted_none rfl) (.inl rfl) h.1)
            (OkL.cons (fun a w_ X_ h => g_call1 (wanted_some rfl rfl h.1) (by kernel_rfl) rfl (h_nameM rfl (by decide) name_none))
            (OkL.cons (fun a w_ X_ h => g_not (wanted_some rfl rfl h.1) rfl h.2.1 rfl)
            (OkL.cons (fun a w_ X_ h => g_pick (wanted_none rfl) rfl h.1 h.2.1)
            (OkL.cons (fun a w_ X_ h => g_move (wanted_none rfl) (.inl rfl) h.1)
            (OkL.cons (fun a w_ X_ h => g_call0 (wanted_some rfl rfl h.1) (by kernel_rfl) rfl (h_awake))
            (OkL.cons (fun a w_ X_ h => g_pick (wanted_none rfl) rfl h.1 h.2.1)
            (OkL.cons (fun a w_ X_ h => g_move (wanted_none rfl) (.inr rfl) h.1)
            OkL.nil)))))))))))))))))) ?_
        rintro w7 X7 _ rfl _ rfl _ rfl _ rfl _ rfl _ rfl _ rfl _ rfl _ rfl _ rfl _ rfl _ rfl _ rfl _ rfl _ rfl _ rfl _ rfl _ rfl
        refine FinL.done ?_
        simp only [Act.put, List.setIfInBounds_toArray, List.set_cons_zero, List.set_cons_succ]
        replace HB := hide (Below.chain HB.out X7)
        clear X7
        go_wp2
        go_ret
        exact ⟨rfl, HB.out⟩
end Go.Proofs.Ytgadglpbbcapcaa
