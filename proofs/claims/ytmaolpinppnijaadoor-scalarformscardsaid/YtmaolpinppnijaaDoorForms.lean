/- Any bytes: the program's calls answer as the page's: the law ScalarForms answers true, in any world where the order lies as the program's text lays it. -/
import Derived.Test.YtmaolpinppnijaaDoorPg5
namespace Go.Proofs.YtmaolpinppnijaaDoor
open Go.RowKit
set_option linter.unusedSimpArgs false in
set_option maxRecDepth 100000 in
set_option maxHeartbeats 8000000 in
theorem forms_100 (a b c : Value) (A1 A2 A3 : List Nat) (w : World) (LD0 : Laid w) (b1 : BsAt w a A1) (b2 : BsAt w b A2) (b3 : BsAt w c A3) (g1 : A1.length ≤ 100) (g2 : A2.length ≤ 100) (g3 : A3.length ≤ 100) :
    Calls Tryd.prog 3 #[a, b, c] w fun e w' => e = .returned (.bool true) ∧ Below w.heap.size w w' := by
  have H1 := hide b1
  have H2 := hide b2
  have H3 := hide b3
  have LD := hide LD0
  obtain ⟨a1, c1, rfl, _, m1⟩ := b1.len
  obtain ⟨a2, c2, rfl, _, m2⟩ := b2.len
  obtain ⟨a3, c3, rfl, _, m3⟩ := b3.len
  have d1 : decide ((100 : Int) < (A1.length : Int)) = false := decide_eq_false (by omega)
  have d2 : decide ((100 : Int) < (A2.length : Int)) = false := decide_eq_false (by omega)
  have d3 : decide ((100 : Int) < (A3.length : Int)) = false := decide_eq_false (by omega)
  clear b1 b2 b3 g1 g2 g3 LD0
  go_enter Tryd.func3, Tryd.ntmps3
  go_wp2_with fail
  refine wp_region_typed (tys := fun ix_ => List.getD [isb (A1), isv (.bool (mayb A1)), isv (.bool true), isb (redb A1), isv (.string (sob (redb A1))), isb (A2), isb (addb A1 A2), isv (.string (sob (addb A1 A2))), isb (A3), isb (madb A1 A2 A3), isv (.string (sob (madb A1 A2 A3))), isb (clb A1), isv (.string (sob (clb A1)))] ix_ anyv) (pre := [(0, 0), (1, 5), (2, 8)])
    (plan := [([(0, 0)], 0), ([(21, 0)], 1), ([(0, 0)], 0), ([(23, 0)], 1), ([(22, 1), (24, 1)], 2), ([(25, 2)], 2), ([(26, 2), (0, 0)], 0), ([(26, 2), (27, 0)], 3), ([(26, 2), (28, 3)], 4), ([(26, 2), (0, 0)], 0), ([(26, 2), (30, 0)], 3), ([(26, 2), (31, 3)], 4), ([(26, 2), (29, 4), (32, 4)], 2), ([(26, 2), (33, 2)], 2), ([(34, 2)], 2), ([(35, 2), (0, 0)], 0), ([(35, 2), (1, 5)], 5), ([(35, 2), (36, 0), (37, 5)], 6), ([(35, 2), (38, 6)], 7), ([(35, 2), (0, 0)], 0), ([(35, 2), (1, 5)], 5), ([(35, 2), (40, 0), (41, 5)], 6), ([(35, 2), (42, 6)], 7), ([(35, 2), (39, 7), (43, 7)], 2), ([(35, 2), (44, 2)], 2), ([(45, 2)], 2), ([(46, 2), (0, 0)], 0), ([(46, 2), (1, 5)], 5), ([(46, 2), (2, 8)], 8), ([(46, 2), (47, 0), (48, 5), (49, 8)], 9), ([(46, 2), (50, 9)], 10), ([(46, 2), (0, 0)], 0), ([(46, 2), (1, 5)], 5), ([(46, 2), (2, 8)], 8), ([(46, 2), (52, 0), (53, 5), (54, 8)], 9), ([(46, 2), (55, 9)], 10), ([(46, 2), (51, 10), (56, 10)], 2), ([(46, 2), (57, 2)], 2), ([(58, 2)], 2), ([(59, 2), (0, 0)], 0), ([(59, 2), (60, 0)], 11), ([(59, 2), (61, 11)], 12), ([(59, 2), (0, 0)], 0), ([(59, 2), (63, 0)], 11), ([(59, 2), (64, 11)], 12), ([(59, 2), (62, 12), (65, 12)], 2), ([(59, 2), (66, 2)], 2), ([(67, 2)], 2), ([(68, 2)], 2), ([(68, 2), (69, 2)], 2), ([(70, 2)], 2)])
    (by kernel_rfl) 71 (by kernel_rfl) rfl ⟨H1.out, ⟨H2.out, ⟨H3.out, trivial⟩⟩⟩
      (OkL.cons (fun a w X_ h => g_move (wanted_none rfl) (.inl rfl) h.1)
      (OkL.cons (fun a w X_ h => g_call1 (wanted_none rfl) (by kernel_rfl) rfl (f_may h.1 (LD.out.step X_)))
      (OkL.cons (fun a w X_ h => g_move (wanted_none rfl) (.inl rfl) h.1)
      (OkL.cons (fun a w X_ h => g_call1 (wanted_none rfl) (by kernel_rfl) rfl (f_may' h.1))
      (OkL.cons (fun a w X_ h => g_eqb (wanted_none rfl) rfl h.1 h.2.1 (beq_b _))
      (OkL.cons (fun a w X_ h => g_move (wanted_none rfl) (.inl rfl) h.1)
      (OkL.cons (fun a w X_ h => g_move (wanted_some rfl rfl h.1) (.inl rfl) h.2.1)
      (OkL.cons (fun a w X_ h => g_call1 (wanted_some rfl rfl h.1) (by kernel_rfl) rfl (f_red h.2.1 (LD.out.step X_)))
      (OkL.cons (fun a w X_ h => g_str (wanted_some rfl rfl h.1) rfl h.2.1 rfl)
      (OkL.cons (fun a w X_ h => g_move (wanted_some rfl rfl h.1) (.inl rfl) h.2.1)
      (OkL.cons (fun a w X_ h => g_call1 (wanted_some rfl rfl h.1) (by kernel_rfl) rfl (f_red' h.2.1))
      (OkL.cons (fun a w X_ h => g_str (wanted_some rfl rfl h.1) rfl h.2.1 rfl)
      (OkL.cons (fun a w X_ h => g_eqs (wanted_some rfl rfl h.1) rfl h.2.1 h.2.2.1 (sob_t rfl))
      (OkL.cons (fun a w X_ h => g_pick (wanted_none rfl) rfl h.1 h.2.1)
      (OkL.cons (fun a w X_ h => g_move (wanted_none rfl) (.inl rfl) h.1)
      (OkL.cons (fun a w X_ h => g_move (wanted_some rfl rfl h.1) (.inl rfl) h.2.1)
      (OkL.cons (fun a w X_ h => g_move (wanted_some rfl rfl h.1) (.inl rfl) h.2.1)
      (OkL.cons (fun a w X_ h => g_call2 (wanted_some rfl rfl h.1) (by kernel_rfl) rfl (f_add h.2.1 h.2.2.1 (LD.out.step X_)))
      (OkL.cons (fun a w X_ h => g_str (wanted_some rfl rfl h.1) rfl h.2.1 rfl)
      (OkL.cons (fun a w X_ h => g_move (wanted_some rfl rfl h.1) (.inl rfl) h.2.1)
      (OkL.cons (fun a w X_ h => g_move (wanted_some rfl rfl h.1) (.inl rfl) h.2.1)
      (OkL.cons (fun a w X_ h => g_call2 (wanted_some rfl rfl h.1) (by kernel_rfl) rfl (add_ref h.2.1 h.2.2.1))
      (OkL.cons (fun a w X_ h => g_str (wanted_some rfl rfl h.1) rfl h.2.1 rfl)
      (OkL.cons (fun a w X_ h => g_eqs (wanted_some rfl rfl h.1) rfl h.2.1 h.2.2.1 (sob_t rfl))
      (OkL.cons (fun a w X_ h => g_pick (wanted_none rfl) rfl h.1 h.2.1)
      (OkL.cons (fun a w X_ h => g_move (wanted_none rfl) (.inl rfl) h.1)
      (OkL.cons (fun a w X_ h => g_move (wanted_some rfl rfl h.1) (.inl rfl) h.2.1)
      (OkL.cons (fun a w X_ h => g_move (wanted_some rfl rfl h.1) (.inl rfl) h.2.1)
      (OkL.cons (fun a w X_ h => g_move (wanted_some rfl rfl h.1) (.inl rfl) h.2.1)
      (OkL.cons (fun a w X_ h => g_call3 (wanted_some rfl rfl h.1) (by kernel_rfl) rfl (f_mad h.2.1 h.2.2.1 h.2.2.2.1 (LD.out.step X_)))
      (OkL.cons (fun a w X_ h => g_str (wanted_some rfl rfl h.1) rfl h.2.1 rfl)
      (OkL.cons (fun a w X_ h => g_move (wanted_some rfl rfl h.1) (.inl rfl) h.2.1)
      (OkL.cons (fun a w X_ h => g_move (wanted_some rfl rfl h.1) (.inl rfl) h.2.1)
      (OkL.cons (fun a w X_ h => g_move (wanted_some rfl rfl h.1) (.inl rfl) h.2.1)
      (OkL.cons (fun a w X_ h => g_call3 (wanted_some rfl rfl h.1) (by kernel_rfl) rfl (f_mad' h.2.1 h.2.2.1 h.2.2.2.1))
      (OkL.cons (fun a w X_ h => g_str (wanted_some rfl rfl h.1) rfl h.2.1 rfl)
      (OkL.cons (fun a w X_ h => g_eqs (wanted_some rfl rfl h.1) rfl h.2.1 h.2.2.1 (sob_t rfl))
      (OkL.cons (fun a w X_ h => g_pick (wanted_none rfl) rfl h.1 h.2.1)
      (OkL.cons (fun a w X_ h => g_move (wanted_none rfl) (.inl rfl) h.1)
      (OkL.cons (fun a w X_ h => g_move (wanted_some rfl rfl h.1) (.inl rfl) h.2.1)
      (OkL.cons (fun a w X_ h => g_call1 (wanted_some rfl rfl h.1) (by kernel_rfl) rfl (f_clamp h.2.1))
      (OkL.cons (fun a w X_ h => g_str (wanted_some rfl rfl h.1) rfl h.2.1 rfl)
      (OkL.cons (fun a w X_ h => g_move (wanted_some rfl rfl h.1) (.inl rfl) h.2.1)
      (OkL.cons (fun a w X_ h => g_call1 (wanted_some rfl rfl h.1) (by kernel_rfl) rfl (f_clamp' h.2.1))
      (OkL.cons (fun a w X_ h => g_str (wanted_some rfl rfl h.1) rfl h.2.1 rfl)
      (OkL.cons (fun a w X_ h => g_eqs (wanted_some rfl rfl h.1) rfl h.2.1 h.2.2.1 (sob_t rfl))
      (OkL.cons (fun a w X_ h => g_pick (wanted_none rfl) rfl h.1 h.2.1)
      (OkL.cons (fun a w X_ h => g_move (wanted_none rfl) (.inl rfl) h.1)
      (OkL.cons (fun a w X_ h => g_call0 (wanted_some rfl rfl h.1) (by kernel_rfl) rfl (hands_awake (LD.out.step X_)))
      (OkL.cons (fun a w X_ h => g_pick (wanted_none rfl) rfl h.1 h.2.1)
      (OkL.cons (fun a w X_ h => g_move (wanted_none rfl) (.inr rfl) h.1)
      OkL.nil))))))))))))))))))))))))))))))))))))))))))))))))))) ?_
  rintro w3 X3 v21 - _ rfl v23 - _ rfl _ rfl _ rfl v27 - v28 - _ rfl v30 - v31 - _ rfl _ rfl _ rfl _ rfl v36 - v37 - v38 - _ rfl v40 - v41 - v42 - _ rfl _ rfl _ rfl _ rfl v47 - v48 - v49 - v50 - _ rfl v52 - v53 - v54 - v55 - _ rfl _ rfl _ rfl _ rfl v60 - v61 - _ rfl v63 - v64 - _ rfl _ rfl _ rfl _ rfl _ rfl _ rfl _ rfl
  refine FinL.done ?_
  simp only [Act.put, List.setIfInBounds_toArray, List.set_cons_zero, List.set_cons_succ]
  go_wp2
  go_ret
  exact ⟨rfl, X3⟩
set_option maxHeartbeats 1000000 in
theorem forms_any (a b c : Value) (A1 A2 A3 : List Nat) (w : World) (LD : Laid w) (b1 : BsAt w a A1) (b2 : BsAt w b A2) (b3 : BsAt w c A3) :
    Calls Tryd.prog 3 #[a, b, c] w fun e w' => e = .returned (.bool true) ∧ Below w.heap.size w w' := by
  by_cases hl1 : A1.length ≤ 100
  · by_cases hl2 : A2.length ≤ 100
    · by_cases hl3 : A3.length ≤ 100
      · exact forms_100 a b c A1 A2 A3 w LD b1 b2 b3 hl1 hl2 hl3
      · obtain ⟨a0, c0, rfl, _, hm0⟩ := b1.len
        obtain ⟨a1, c1, rfl, _, hm1⟩ := b2.len
        obtain ⟨a2, c2, rfl, _, hm2⟩ := b3.len
        have d1 : decide ((100 : Int) < (A1.length : Int)) = false := decide_eq_false (by omega)
        have d2 : decide ((100 : Int) < (A2.length : Int)) = false := decide_eq_false (by omega)
        have d3 : decide ((100 : Int) < (A3.length : Int)) = true := decide_eq_true (by omega)
        clear b1 b2 b3 hl1 hl2 hl3
        go_enter Tryd.func3, Tryd.ntmps3
        go_wp2_with fail
        refine (awake_any _ LD).mono ?_
        rintro e w1 ⟨rfl, b1⟩
        go_wp2
        go_ret
        exact ⟨rfl, b1⟩
    · obtain ⟨a0, c0, rfl, _, hm0⟩ := b1.len
      obtain ⟨a1, c1, rfl, _, hm1⟩ := b2.len
      obtain ⟨a2, c2, rfl, _, hm2⟩ := b3.len
      have d1 : decide ((100 : Int) < (A1.length : Int)) = false := decide_eq_false (by omega)
      have d2 : decide ((100 : Int) < (A2.length : Int)) = true := decide_eq_true (by omega)
      clear b1 b2 b3 hl1 hl2
      go_enter Tryd.func3, Tryd.ntmps3
      go_wp2_with fail
      refine (awake_any _ LD).mono ?_
      rintro e w1 ⟨rfl, b1⟩
      go_wp2
      go_ret
      exact ⟨rfl, b1⟩
  · obtain ⟨a0, c0, rfl, _, hm0⟩ := b1.len
    obtain ⟨a1, c1, rfl, _, hm1⟩ := b2.len
    obtain ⟨a2, c2, rfl, _, hm2⟩ := b3.len
    have d1 : decide ((100 : Int) < (A1.length : Int)) = true := decide_eq_true (by omega)
    clear b1 b2 b3 hl1
    go_enter Tryd.func3, Tryd.ntmps3
    go_wp2_with fail
    refine (awake_any _ LD).mono ?_
    rintro e w1 ⟨rfl, b1⟩
    go_wp2
    go_ret
    exact ⟨rfl, b1⟩
end Go.Proofs.YtmaolpinppnijaaDoor
