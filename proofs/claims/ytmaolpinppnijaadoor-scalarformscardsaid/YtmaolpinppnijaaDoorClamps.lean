/- Clamped it is a multiple of eight, between 2^254 and 2^255; clamped twice it is once: the law ScalarClamps answers true, in any world where the order lies as the program's text lays it. -/
import Derived.Test.YtmaolpinppnijaaDoorAwake
import Derived.Test.YtmaolpinppnijaaDoorTyX
namespace Go.Proofs.YtmaolpinppnijaaDoor
open Go.RowKit
theorem hands_awake {w : World} (h : Laid w) : Hands Tryd.prog 8 #[] w (isv (.bool true)) := (awake_any w h).mono fun _ _ ⟨he, hb⟩ => ⟨_, he, hb, rfl⟩
theorem hands_clamp {v : Value} {l : List Nat} {w : World} (h : BsAt w v l) (hl : l.length = 32) : Hands Tryd.prog 17 #[v] w (isb (clampb l)) := (clamp_32 v l w h hl).mono fun _ _ ⟨v, he, h1, h2⟩ => ⟨v, he, h2, h1⟩
theorem clamp_len (l : List Nat) : (clampb l).length = l.length := by simp [clampb]
theorem clamp_0 {l : List Nat} (h : l.length = 32) : (clampb l).getD 0 0 = lo8 (l.getD 0 0) := by
  unfold clampb
  rw [getD_set_ne' (by decide), List.getD_eq_getElem?_getD, List.getElem?_set]
  simp [h]
theorem clamp_31 {l : List Nat} (h : l.length = 32) : (clampb l).getD 31 0 = hi8 (l.getD 31 0) := by
  unfold clampb
  rw [List.getD_eq_getElem?_getD, List.getElem?_set]
  simp [h]
theorem clampb_twice {l : List Nat} (h : l.length = 32) : clampb (clampb l) = clampb l := by
  have h0 := clamp_0 h
  have h31 := clamp_31 h
  have e0 : lo8 (lo8 (l.getD 0 0)) = lo8 (l.getD 0 0) := by unfold lo8; omega
  have e31 : hi8 (hi8 (l.getD 31 0)) = hi8 (l.getD 31 0) := by unfold hi8; omega
  rw [clampb, h0, h31, e0, e31]
  unfold clampb
  rw [List.set_comm _ _ (by decide), List.set_set, List.set_comm _ _ (by decide), List.set_set]
theorem clamp_mid (l : List Nat) : ((clampb l).take 31).drop 1 = (l.take 31).drop 1 := by
  refine List.ext_getElem? fun i => ?_
  simp only [List.getElem?_drop, List.getElem?_take, clampb]
  by_cases hi : 1 + i < 31
  · rw [if_pos hi, if_pos hi, List.getElem?_set_ne (by omega), List.getElem?_set_ne (by omega)]
  · rw [if_neg hi, if_neg hi]
theorem and_lo (x : Nat) (h : x < 256) : bits .and .u8 ((lo8 x : Nat) : Int) 7 = 0 := by
  have : ∀ y : Fin 256, bits .and .u8 ((lo8 y.1 : Nat) : Int) 7 = 0 := by decide +kernel
  exact this ⟨x, h⟩
theorem or_lo (x : Nat) (h : x < 256) : bits .or .u8 ((lo8 x : Nat) : Int) 7 = bits .or .u8 (x : Int) 7 := by
  have : ∀ y : Fin 256, bits .or .u8 ((lo8 y.1 : Nat) : Int) 7 = bits .or .u8 ((y.1 : Nat) : Int) 7 := by decide +kernel
  exact this ⟨x, h⟩
theorem and_hi (x : Nat) (h : x < 256) : bits .and .u8 ((hi8 x : Nat) : Int) 63 = bits .and .u8 (x : Int) 63 := by
  have : ∀ y : Fin 256, bits .and .u8 ((hi8 y.1 : Nat) : Int) 63 = bits .and .u8 ((y.1 : Nat) : Int) 63 := by decide +kernel
  exact this ⟨x, h⟩
theorem nonneg_or (x : Nat) (h : x < 256) : ∃ r : Nat, bits .or .u8 (x : Int) 7 = (r : Int) := by
  have : ∀ y : Fin 256, bits .or .u8 ((y.1 : Nat) : Int) 7 = (((bits .or .u8 ((y.1 : Nat) : Int) 7).toNat : Nat) : Int) := by decide +kernel
  exact ⟨_, this ⟨x, h⟩⟩
theorem nonneg_and (x : Nat) (h : x < 256) : ∃ r : Nat, bits .and .u8 (x : Int) 63 = (r : Int) := by
  have : ∀ y : Fin 256, bits .and .u8 ((y.1 : Nat) : Int) 63 = (((bits .and .u8 ((y.1 : Nat) : Int) 63).toNat : Nat) : Int) := by decide +kernel
  exact ⟨_, this ⟨x, h⟩⟩
set_option linter.unusedSimpArgs false in
set_option maxRecDepth 100000 in
set_option maxHeartbeats 8000000 in
theorem clamps_32 (u : Value) (L : List Nat) (w : World) (LD0 : Laid w) (h : BsAt w u L) (hL : L.length = 32) : Calls Tryd.prog 6 #[u] w fun e w' => e = .returned (.bool true) ∧ Below w.heap.size w w' := by
  have HA := hide (hands_clamp h hL)
  have hC : (clampb L).length = 32 := by rw [clamp_len, hL]
  have clamp_twice := clampb_twice hL
  have x0 := clamp_0 hL
  have x31 := clamp_31 hL
  have l0 := h.lim 0
  have l31 := h.lim 31
  obtain ⟨ao, c, rfl, _, hc⟩ := h.len
  have HB0 := hide h
  rw [hL] at HA HB0 ⊢
  obtain ⟨b0, hb0⟩ : ∃ y, L.getD 0 0 = y := ⟨_, rfl⟩
  obtain ⟨b31, hb31⟩ : ∃ y, L.getD 31 0 = y := ⟨_, rfl⟩
  obtain ⟨c0, hc0⟩ : ∃ y, (clampb L).getD 0 0 = y := ⟨_, rfl⟩
  obtain ⟨c31, hc31⟩ : ∃ y, (clampb L).getD 31 0 = y := ⟨_, rfl⟩
  rw [hb0] at x0 l0
  rw [hb31] at x31 l31
  rw [hc0] at x0
  rw [hc31] at x31
  have e1 := and_lo b0 l0
  have e2 := or_lo b0 l0
  have e3 := and_hi b31 l31
  have e4 : hi8 b31 = b31 % 64 + 64 := rfl
  obtain ⟨r0, hr0⟩ := nonneg_or b0 l0
  obtain ⟨r31, hr31⟩ := nonneg_and b31 l31
  rw [← x0] at e1 e2
  rw [← x31] at e3 e4
  rw [hr0] at e2
  rw [hr31] at e3
  have d1 : decide ((c31 : Int) < 64) = false := decide_eq_false (by omega)
  have d2 : decide ((127 : Int) < (c31 : Int)) = false := decide_eq_false (by omega)
  have LD1 := hide LD0
  have HH := hide (And.intro x0 (And.intro x31 e4))
  clear x0 x31 e4 LD0 h l0 l31
  go_enter Tryd.func6, Tryd.ntmps6
  go_wp2_with fail
  refine HA.out.mono ?_
  rintro e w1 ⟨v3, rfl, X1, k3⟩
  have HC : Hid (BsAt w1 v3 (clampb L)) := k3
  have HB := hide (HB0.out.ext X1)
  have LD := hide (LD1.out.step X1)
  have B1 : Hid (Below w.heap.size w w1) := X1
  clear X1 k3 HA HB0 LD1
  go_wp2_with fail
  refine wp_region_typed (tys := fun n => List.getD [isb (clampb L), isv (.int .i64 32), isv (.bool false), isp (c0), isv (.int .u8 ((c0 : Nat) : Int)), isv (.int .u8 0), isp (c31), isv (.int .u8 ((c31 : Nat) : Int)), isb (clampb (clampb L)), isv (.string (sob (clampb (clampb L)))), isv (.string (sob (clampb L))), isv (.int .u8 (r0 : Int)), isb (L), isp (b0), isv (.int .u8 ((b0 : Nat) : Int)), isv (.int .u8 (r31 : Int)), isp (b31), isv (.int .u8 ((b31 : Nat) : Int))] n anyv) (pre := [(0, 12), (3, 0)])
    (plan := [([(3, 0)], 0), ([(19, 0)], 1), ([(20, 1)], 2), ([(21, 2)], 2), ([(22, 2), (3, 0)], 0), ([(22, 2), (23, 0)], 3), ([(22, 2), (24, 3)], 4), ([(22, 2), (25, 4)], 5), ([(22, 2), (26, 5)], 2), ([(22, 2), (27, 2)], 2), ([(28, 2)], 2), ([(29, 2), (3, 0)], 0), ([(29, 2), (30, 0)], 6), ([(29, 2), (31, 6)], 7), ([(29, 2), (32, 7)], 2), ([(29, 2), (33, 2)], 2), ([(34, 2)], 2), ([(35, 2), (3, 0)], 0), ([(35, 2), (36, 0)], 6), ([(35, 2), (37, 6)], 7), ([(35, 2), (38, 7)], 2), ([(35, 2), (39, 2)], 2), ([(40, 2)], 2), ([(41, 2), (3, 0)], 0), ([(41, 2), (42, 0)], 8), ([(41, 2), (43, 8)], 9), ([(41, 2), (3, 0)], 0), ([(41, 2), (45, 0)], 10), ([(41, 2), (44, 9), (46, 10)], 2), ([(41, 2), (47, 2)], 2), ([(48, 2)], 2), ([(49, 2), (3, 0)], 0), ([(49, 2), (50, 0)], 3), ([(49, 2), (51, 3)], 4), ([(49, 2), (52, 4)], 11), ([(49, 2), (0, 12)], 12), ([(49, 2), (54, 12)], 13), ([(49, 2), (55, 13)], 14), ([(49, 2), (56, 14)], 11), ([(49, 2), (53, 11), (57, 11)], 2), ([(49, 2), (58, 2)], 2), ([(59, 2)], 2), ([(60, 2), (3, 0)], 0), ([(60, 2), (61, 0)], 6), ([(60, 2), (62, 6)], 7), ([(60, 2), (63, 7)], 15), ([(60, 2), (0, 12)], 12), ([(60, 2), (65, 12)], 16), ([(60, 2), (66, 16)], 17), ([(60, 2), (67, 17)], 15), ([(60, 2), (64, 15), (68, 15)], 2), ([(60, 2), (69, 2)], 2)])
    (by kernel_rfl) 81 (by kernel_rfl) rfl ⟨HB.out, ⟨HC.out, trivial⟩⟩
      (OkL.cons (fun a w X h => g_move (wanted_none rfl) (.inl rfl) h.1)
      (OkL.cons (fun a w X h => g_lenb (wanted_none rfl) rfl h.1 (by rw [hC]; rfl) rfl)
      (OkL.cons (fun a w X h => g_bin (wanted_none rfl) rfl (v := .bool false) (by rw [show a.eval (.tmp 20) = .int .i64 32 from h.1]; go_simp) rfl)
      (OkL.cons (fun a w X h => g_move (wanted_none rfl) (.inl rfl) h.1)
      (OkL.cons (fun a w X h => g_move (wanted_some rfl rfl h.1) (.inl rfl) h.2.1)
      (OkL.cons (fun a w X h => g_ixb (wanted_some rfl rfl h.1) 0 rfl rfl h.2.1 (by rw [hC]; decide) hc0)
      (OkL.cons (fun a w X h => g_ldb (wanted_some rfl rfl h.1) rfl h.2.1 rfl)
      (OkL.cons (fun a w X h => g_bin (wanted_some rfl rfl h.1) rfl (v := .int .u8 0) (by rw [show a.eval (.tmp 25) = .int .u8 ((c0 : Nat) : Int) from h.2.1]; go_simp) rfl)
      (OkL.cons (fun a w X h => g_bin (wanted_some rfl rfl h.1) rfl (v := .bool false) (by rw [show a.eval (.tmp 26) = .int .u8 0 from h.2.1]; go_simp) rfl)
      (OkL.cons (fun a w X h => g_pick (wanted_none rfl) rfl h.1 h.2.1)
      (OkL.cons (fun a w X h => g_move (wanted_none rfl) (.inl rfl) h.1)
      (OkL.cons (fun a w X h => g_move (wanted_some rfl rfl h.1) (.inl rfl) h.2.1)
      (OkL.cons (fun a w X h => g_ixb (wanted_some rfl rfl h.1) 31 rfl rfl h.2.1 (by rw [hC]; decide) hc31)
      (OkL.cons (fun a w X h => g_ldb (wanted_some rfl rfl h.1) rfl h.2.1 rfl)
      (OkL.cons (fun a w X h => g_bin (wanted_some rfl rfl h.1) rfl (v := .bool false) (by rw [show a.eval (.tmp 32) = .int .u8 ((c31 : Nat) : Int) from h.2.1]; go_simp) rfl)
      (OkL.cons (fun a w X h => g_pick (wanted_none rfl) rfl h.1 h.2.1)
      (OkL.cons (fun a w X h => g_move (wanted_none rfl) (.inl rfl) h.1)
      (OkL.cons (fun a w X h => g_move (wanted_some rfl rfl h.1) (.inl rfl) h.2.1)
      (OkL.cons (fun a w X h => g_ixb (wanted_some rfl rfl h.1) 31 rfl rfl h.2.1 (by rw [hC]; decide) hc31)
      (OkL.cons (fun a w X h => g_ldb (wanted_some rfl rfl h.1) rfl h.2.1 rfl)
      (OkL.cons (fun a w X h => g_bin (wanted_some rfl rfl h.1) rfl (v := .bool false) (by rw [show a.eval (.tmp 38) = .int .u8 ((c31 : Nat) : Int) from h.2.1]; go_simp) rfl)
      (OkL.cons (fun a w X h => g_pick (wanted_none rfl) rfl h.1 h.2.1)
      (OkL.cons (fun a w X h => g_move (wanted_none rfl) (.inl rfl) h.1)
      (OkL.cons (fun a w X h => g_move (wanted_some rfl rfl h.1) (.inl rfl) h.2.1)
      (OkL.cons (fun a w X h => g_call1 (wanted_some rfl rfl h.1) (by kernel_rfl) rfl (hands_clamp (h.2.1) hC))
      (OkL.cons (fun a w X h => g_str (wanted_some rfl rfl h.1) rfl h.2.1 rfl)
      (OkL.cons (fun a w X h => g_move (wanted_some rfl rfl h.1) (.inl rfl) h.2.1)
      (OkL.cons (fun a w X h => g_str (wanted_some rfl rfl h.1) rfl h.2.1 rfl)
      (OkL.cons (fun a w X h => g_nes (wanted_some rfl rfl h.1) rfl h.2.1 h.2.2.1 (sob_nt clamp_twice))
      (OkL.cons (fun a w X h => g_pick (wanted_none rfl) rfl h.1 h.2.1)
      (OkL.cons (fun a w X h => g_move (wanted_none rfl) (.inl rfl) h.1)
      (OkL.cons (fun a w X h => g_move (wanted_some rfl rfl h.1) (.inl rfl) h.2.1)
      (OkL.cons (fun a w X h => g_ixb (wanted_some rfl rfl h.1) 0 rfl rfl h.2.1 (by rw [hC]; decide) hc0)
      (OkL.cons (fun a w X h => g_ldb (wanted_some rfl rfl h.1) rfl h.2.1 rfl)
      (OkL.cons (fun a w X h => g_bin (wanted_some rfl rfl h.1) rfl (v := .int .u8 (r0 : Int)) (by rw [show a.eval (.tmp 52) = .int .u8 ((c0 : Nat) : Int) from h.2.1]; go_simp) rfl)
      (OkL.cons (fun a w X h => g_move (wanted_some rfl rfl h.1) (.inl rfl) h.2.1)
      (OkL.cons (fun a w X h => g_ixb (wanted_some rfl rfl h.1) 0 rfl rfl h.2.1 (by rw [hL]; decide) hb0)
      (OkL.cons (fun a w X h => g_ldb (wanted_some rfl rfl h.1) rfl h.2.1 rfl)
      (OkL.cons (fun a w X h => g_bin (wanted_some rfl rfl h.1) rfl (v := .int .u8 (r0 : Int)) (by rw [show a.eval (.tmp 56) = .int .u8 ((b0 : Nat) : Int) from h.2.1]; go_simp) rfl)
      (OkL.cons (fun a w X h => g_bin (wanted_some rfl rfl h.1) rfl (v := .bool false) (by rw [show a.eval (.tmp 53) = .int .u8 (r0 : Int) from h.2.1, show a.eval (.tmp 57) = .int .u8 (r0 : Int) from h.2.2.1]; go_simp) rfl)
      (OkL.cons (fun a w X h => g_pick (wanted_none rfl) rfl h.1 h.2.1)
      (OkL.cons (fun a w X h => g_move (wanted_none rfl) (.inl rfl) h.1)
      (OkL.cons (fun a w X h => g_move (wanted_some rfl rfl h.1) (.inl rfl) h.2.1)
      (OkL.cons (fun a w X h => g_ixb (wanted_some rfl rfl h.1) 31 rfl rfl h.2.1 (by rw [hC]; decide) hc31)
      (OkL.cons (fun a w X h => g_ldb (wanted_some rfl rfl h.1) rfl h.2.1 rfl)
      (OkL.cons (fun a w X h => g_bin (wanted_some rfl rfl h.1) rfl (v := .int .u8 (r31 : Int)) (by rw [show a.eval (.tmp 63) = .int .u8 ((c31 : Nat) : Int) from h.2.1]; go_simp) rfl)
      (OkL.cons (fun a w X h => g_move (wanted_some rfl rfl h.1) (.inl rfl) h.2.1)
      (OkL.cons (fun a w X h => g_ixb (wanted_some rfl rfl h.1) 31 rfl rfl h.2.1 (by rw [hL]; decide) hb31)
      (OkL.cons (fun a w X h => g_ldb (wanted_some rfl rfl h.1) rfl h.2.1 rfl)
      (OkL.cons (fun a w X h => g_bin (wanted_some rfl rfl h.1) rfl (v := .int .u8 (r31 : Int)) (by rw [show a.eval (.tmp 67) = .int .u8 ((b31 : Nat) : Int) from h.2.1]; go_simp) rfl)
      (OkL.cons (fun a w X h => g_bin (wanted_some rfl rfl h.1) rfl (v := .bool false) (by rw [show a.eval (.tmp 64) = .int .u8 (r31 : Int) from h.2.1, show a.eval (.tmp 68) = .int .u8 (r31 : Int) from h.2.2.1]; go_simp) rfl)
      (OkL.cons (fun a w X h => g_pick (wanted_none rfl) rfl h.1 h.2.1)
      OkL.nil)))))))))))))))))))))))))))))))))))))))))))))))))))) ?_
  rintro w6 X6 v19 - _ rfl _ rfl _ rfl v23 - v24 - _ rfl _ rfl _ rfl _ rfl _ rfl v30 - v31 - _ rfl _ rfl _ rfl _ rfl v36 - v37 - _ rfl _ rfl _ rfl _ rfl v42 - v43 - _ rfl v45 - _ rfl _ rfl _ rfl _ rfl v50 - v51 - _ rfl _ rfl v54 - v55 - _ rfl _ rfl _ rfl _ rfl _ rfl v61 - v62 - _ rfl _ rfl v65 - v66 - _ rfl _ rfl _ rfl _ rfl
  refine FinL.done ?_
  simp only [Act.put, List.setIfInBounds_toArray, List.set_cons_zero, List.set_cons_succ]
  replace HC := hide (HC.out.ext X6)
  replace HB := hide (HB.out.ext X6)
  replace LD := hide (LD.out.step X6)
  replace B1 := hide (Below.chain B1.out X6)
  clear X6
  go_wp2_with fail
  refine wp_region_typed (tys := fun n => List.getD [isb (clampb L), isb (((clampb L).take 31).drop 1), isv (.string (sob (((clampb L).take 31).drop 1))), isb (L), isb (((L).take 31).drop 1), isv (.string (sob (((L).take 31).drop 1))), isv (.bool true)] n anyv) (pre := [(0, 3), (3, 0)])
    (plan := [([(3, 0)], 0), ([(71, 0)], 1), ([(72, 1)], 2), ([(0, 3)], 3), ([(74, 3)], 4), ([(75, 4)], 5), ([(73, 2), (76, 5)], 6), ([(77, 6)], 6), ([(78, 6)], 6), ([(78, 6), (79, 6)], 6), ([(80, 6)], 6)])
    (by kernel_rfl) 81 (by kernel_rfl) rfl ⟨HB.out, ⟨HC.out, trivial⟩⟩
      (OkL.cons (fun a w X h => g_move (wanted_none rfl) (.inl rfl) h.1)
      (OkL.cons (fun a w X h => g_slb (wanted_none rfl) 1 31 rfl rfl rfl h.1 (by decide) (by rw [hC]; decide))
      (OkL.cons (fun a w X h => g_str (wanted_none rfl) rfl h.1 rfl)
      (OkL.cons (fun a w X h => g_move (wanted_none rfl) (.inl rfl) h.1)
      (OkL.cons (fun a w X h => g_slb (wanted_none rfl) 1 31 rfl rfl rfl h.1 (by decide) (by rw [hL]; decide))
      (OkL.cons (fun a w X h => g_str (wanted_none rfl) rfl h.1 rfl)
      (OkL.cons (fun a w X h => g_eqs (wanted_none rfl) rfl h.1 h.2.1 (sob_t (clamp_mid L)))
      (OkL.cons (fun a w X h => g_move (wanted_none rfl) (.inl rfl) h.1)
      (OkL.cons (fun a w X h => g_call0 (wanted_some rfl rfl h.1) (by kernel_rfl) rfl (hands_awake (LD.out.step X)))
      (OkL.cons (fun a w X h => g_pick (wanted_none rfl) rfl h.1 h.2.1)
      (OkL.cons (fun a w X h => g_move (wanted_none rfl) (.inr rfl) h.1)
      OkL.nil))))))))))) ?_
  rintro w8 X8 v71 - v72 - _ rfl v74 - v75 - _ rfl _ rfl _ rfl _ rfl _ rfl _ rfl
  refine FinL.done ?_
  simp only [Act.put, List.setIfInBounds_toArray, List.set_cons_zero, List.set_cons_succ]
  replace B1 := hide (Below.chain B1.out X8)
  clear X8
  go_wp2
  go_ret
  exact ⟨rfl, B1.out⟩
set_option maxRecDepth 100000 in
set_option maxHeartbeats 8000000 in
theorem clamps_any (u : Value) (L : List Nat) (w : World) (LD : Laid w) (h : BsAt w u L) : Calls Tryd.prog 6 #[u] w fun e w' => e = .returned (.bool true) ∧ Below w.heap.size w w' := by
  by_cases hL : L.length = 32
  · exact clamps_32 u L w LD h hL
  · by_cases h100 : L.length ≤ 100
    · have HA := hide (clamp_other u L w h hL)
      have HW := hide LD
      obtain ⟨ao, c, rfl, _, hc⟩ := h.len
      have d0 : decide ((100 : Int) < (L.length : Int)) = false := decide_eq_false (by omega)
      have d1 : ((L.length : Int) == 32) = false := by rw [beq_eq_false_iff_ne]; omega
      clear h hL h100 LD
      go_enter Tryd.func6, Tryd.ntmps6
      go_wp2_with fail
      refine HA.out.mono ?_
      rintro e w1 ⟨rfl, b1⟩
      go_wp2_with fail
      refine (awake_any _ (HW.out.step b1)).mono ?_
      rintro e w2 ⟨rfl, b2⟩
      have HB := hide (Below.chain b1 b2)
      clear b1 b2
      go_wp2
      go_ret
      exact ⟨rfl, HB.out⟩
    · have HW := hide LD
      obtain ⟨ao, c, rfl, _, hc⟩ := h.len
      have d0 : decide ((100 : Int) < (L.length : Int)) = true := decide_eq_true (by omega)
      clear h hL h100 LD
      go_enter Tryd.func6, Tryd.ntmps6
      go_wp2_with fail
      refine (awake_any _ HW.out).mono ?_
      rintro e w2 ⟨rfl, b2⟩
      go_wp2
      go_ret
      exact ⟨rfl, b2⟩
end Go.Proofs.YtmaolpinppnijaaDoor
