/- Of small numbers sums and products are what they are: the law ScalarSmall answers true for all numbers, in any world where the order lies as the program's text lays it. -/
import Derived.Test.YtmaolpinppnijaaDoorLaws
namespace Go.Proofs.YtmaolpinppnijaaDoor
open Go.RowKit
theorem lim2 {a b : Nat} (h : a < 256 ∧ b < 256) : ∀ i, [a, b].getD i 0 < 256 := lim_all (by simp [h.1, h.2])
theorem lim3 {a b c : Nat} (h1 : a < 256) (h2 : b < 256) (h3 : c < 256) : ∀ i, [a, b, c].getD i 0 < 256 := lim_all (by simp [h1, h2, h3])
theorem bval_append (l m : List Nat) : bval (l ++ m) = bval l + 256 ^ l.length * bval m := by
  induction l with
  | nil => simp [bval]
  | cons x t ih => rw [List.cons_append, bval, ih, bval, List.length_cons, Nat.pow_succ, Nat.mul_add, Nat.mul_comm (256 ^ t.length) 256, Nat.mul_assoc, Nat.add_assoc]
theorem bval_zz (k : Nat) : bval (zz k) = 0 := by
  unfold zz
  induction k with
  | zero => rfl
  | succ k ih => rw [List.replicate_succ, bval, ih]
theorem fullb_short {l : List Nat} (h : l.length ≤ 32) : fullb l = l ++ zz (32 - l.length) := by
  unfold fullb zz
  rw [List.take_append, List.take_of_length_le h, List.take_replicate]
  congr 2
  omega
theorem full_val {l : List Nat} (h : l.length ≤ 32) : bval (fullb l) = bval l := by rw [fullb_short h, bval_append, bval_zz, Nat.mul_zero, Nat.add_zero]
theorem bys_list (x : Nat) (l : List Nat) (hl : l.length = 32) (h : ∀ i, i < 32 → l.getD i 0 = byt x i) : l = bys x 32 := by
  refine List.ext_getElem (by rw [hl, bys_len]) fun i h1 h2 => ?_
  have h3 := h i (by omega)
  have h4 := bys_get x 32 i (Nat.le_refl _)
  rw [if_pos (by omega), List.getD_eq_getElem?_getD, List.getElem?_eq_getElem h2] at h4
  rw [List.getD_eq_getElem?_getD, List.getElem?_eq_getElem h1] at h3
  simp only [Option.getD_some] at h3 h4
  rw [h3, h4]
theorem want_eq {p : Nat} (N : Nat) (hN : N < 18446744073709551616) (hq : p % ll = N) : bys (p % ll) 32 = bys N 8 := by
  rw [hq]
  refine (bys_list N _ (bys_len _ _) fun i hi => ?_).symm
  rw [bys_get N 8 i (by decide)]
  split
  · rfl
  · rename_i h
    unfold byt
    rw [Nat.div_eq_of_lt (Nat.lt_of_lt_of_le hN (Nat.le_trans (by decide : 18446744073709551616 ≤ 256 ^ 8) (Nat.pow_le_pow_right (by decide) (by omega)))), Nat.zero_mod]
theorem sum_eq {p t0 t1 t2 : Nat} (s : Nat) (hs : s < 131072) (hr : p % ll = s ∧ t0 = s % 256 ∧ t1 = s / 256 % 256 ∧ t2 = s / 65536) : bys (p % ll) 32 = fullb [t0, t1, t2] := by
  obtain ⟨h0, rfl, rfl, rfl⟩ := hr
  rw [h0]
  refine (bys_list s _ (fullb_len _) fun i hi => ?_).symm
  rw [fullb_short (by simp)]
  match i, hi with
  | 0, _ => simp [byt]
  | 1, _ => simp [byt]
  | 2, _ =>
    show s / 65536 = s / 65536 % 256
    omega
  | i + 3, _ =>
    have : byt s (i + 3) = 0 := by
      unfold byt
      rw [Nat.div_eq_of_lt (Nat.lt_of_lt_of_le hs (Nat.le_trans (by decide : 131072 ≤ 256 ^ 3) (Nat.pow_le_pow_right (by decide) (by omega)))), Nat.zero_mod]
    rw [this]
    simp only [List.cons_append, List.nil_append, List.getD_cons_succ]
    unfold zz
    rw [List.getD_eq_getElem?_getD, List.getElem?_replicate]
    split <;> rfl
set_option linter.unusedSimpArgs false in
set_option maxRecDepth 100000 in
set_option maxHeartbeats 8000000 in
theorem small_walk (a b c n m k : Nat) (ha : bits BinOp.and IntKind.u32 (a : Int) 65535 = (n : Int)) (hb : bits BinOp.and IntKind.u32 (b : Int) 65535 = (m : Int)) (hc : bits BinOp.and IntKind.u32 (c : Int) 65535 = (k : Int)) (hn : n < 65536) (hm : m < 65536) (hk : k < 65536) (w : World) (LD0 : Laid w) :
    Calls Tryd.prog 7 #[.int .u32 (a : Int), .int .u32 (b : Int), .int .u32 (c : Int)] w fun e w' => e = .returned (.bool true) ∧ Below w.heap.size w w' := by
  have LD := hide LD0
  have BB := hide (Below.refl w.heap.size w)
  obtain ⟨n0, en0⟩ : ∃ q, n % 256 = q := ⟨_, rfl⟩
  obtain ⟨n1, en1⟩ : ∃ q, n / 256 = q := ⟨_, rfl⟩
  obtain ⟨m0, em0⟩ : ∃ q, m % 256 = q := ⟨_, rfl⟩
  obtain ⟨m1, em1⟩ : ∃ q, m / 256 = q := ⟨_, rfl⟩
  obtain ⟨j0, ej0⟩ : ∃ q, k % 256 = q := ⟨_, rfl⟩
  obtain ⟨j1, ej1⟩ : ∃ q, k / 256 = q := ⟨_, rfl⟩
  have HL := hide (And.intro (show n0 < 256 ∧ n1 < 256 by omega) (And.intro (show m0 < 256 ∧ m1 < 256 by omega) (show j0 < 256 ∧ j1 < 256 by omega)))
  have vn : bval (fullb [n0, n1]) = n := by rw [full_val (by simp)]; simp [bval]; omega
  have vm : bval (fullb [m0, m1]) = m := by rw [full_val (by simp)]; simp [bval]; omega
  have vk : bval (fullb [j0, j1]) = k := by rw [full_val (by simp)]; simp [bval]; omega
  have f1 : (n : Int) % 256 = (n0 : Int) := by omega
  have f2 : (n : Int) / 256 = (n1 : Int) := by omega
  have f3 : (m : Int) % 256 = (m0 : Int) := by omega
  have f4 : (m : Int) / 256 = (m1 : Int) := by omega
  have f5 : (k : Int) % 256 = (j0 : Int) := by omega
  have f6 : (k : Int) / 256 = (j1 : Int) := by omega
  have hnm : n * m ≤ 65535 * 65535 := Nat.mul_le_mul (by omega) (by omega)
  obtain ⟨q, eq⟩ : ∃ q, n * m = q := ⟨_, rfl⟩
  obtain ⟨N, eN⟩ : ∃ q', q + k = q' := ⟨_, rfl⟩
  obtain ⟨s, es⟩ : ∃ q', n + m = q' := ⟨_, rfl⟩
  have hN : N < 18446744073709551616 := by omega
  have hq : (n * m + k) % ll = N := by rw [eq, eN]; exact Nat.mod_eq_of_lt (by unfold ll; omega)
  obtain ⟨s8, es8⟩ : ∃ q', s / 256 = q' := ⟨_, rfl⟩
  obtain ⟨s16, es16⟩ : ∃ q', s / 65536 = q' := ⟨_, rfl⟩
  obtain ⟨t0, et0⟩ : ∃ q', s % 256 = q' := ⟨_, rfl⟩
  obtain ⟨t1, et1⟩ : ∃ q', s8 % 256 = q' := ⟨_, rfl⟩
  have hs : s < 131072 := by omega
  have hr : (n + m) % ll = s ∧ t0 = s % 256 ∧ t1 = s / 256 % 256 ∧ s16 = s / 65536 := ⟨by rw [es]; exact Nat.mod_eq_of_lt (by unfold ll; omega), by omega, by omega, by omega⟩
  have g1 : IntKind.u64.wrap ((n : Int) * (m : Int)) = (q : Int) := by rw [← Int.natCast_mul, eq, IntKind.wrap_u64]; omega
  have g2 : IntKind.u64.wrap ((q : Int) + (k : Int)) = (N : Int) := by rw [IntKind.wrap_u64]; omega
  have g3 : IntKind.u32.wrap ((n : Int) + (m : Int)) = (s : Int) := by rw [IntKind.wrap_u32]; omega
  have g4 : (s : Int) / 256 = (s8 : Int) := by omega
  have g5 : (s : Int) / 65536 = (s16 : Int) := by omega
  have g6 : (s : Int) % 256 = (t0 : Int) := by omega
  have g7 : (s8 : Int) % 256 = (t1 : Int) := by omega
  have vs : bval (fullb [t0, t1, s16]) = s := by rw [full_val (by simp)]; simp [bval]; omega
  have hT : t0 < 256 ∧ t1 < 256 ∧ s16 < 256 := by omega
  have HS := hide (And.intro hs (And.intro hr (And.intro hq (And.intro hN hT))))
  have hmk := make32
  have hz0 : ba (bys N 0) = ba (List.replicate 32 0) := rfl
  generalize ba (List.replicate 32 0) = ZB at *
  have HZ := hide hz0
  clear hz0
  have hn' : (n : Int) < 65536 := by omega
  have hm' : (m : Int) < 65536 := by omega
  have hk' : (k : Int) < 65536 := by omega
  have hs' : (s : Int) < 131072 := by omega
  have hs8' : (s8 : Int) < 512 := by omega
  have hs16' : (s16 : Int) < 2 := by omega
  clear LD0 en0 en1 em0 em1 ej0 ej1 hn hm hk hnm eq eN es es8 es16 et0 et1 hs hr hq hT
  go_enter Tryd.func7, Tryd.ntmps7
  go_wp2_with fail
  have X0 : Ext w (w.alloc (.cells #[.int .u8 (n0 : Int), .int .u8 (n1 : Int)] 5)) := (Below.refl _ _).alloc (Nat.le_refl _) _
  replace LD := hide (LD.out.step X0)
  replace BB := hide (Below.chain BB.out X0)
  refine (hands_full (l := [n0, n1]) (own_lit (w := w) [n0, n1] (lim2 HL.out.1) (by simp [maxLen])).at (by simp)).mono ?_
  rintro e w1 ⟨u1, rfl, X1, k1⟩
  replace LD := hide (LD.out.step X1)
  replace BB := hide (Below.chain BB.out X1)
  have FX : Hid (BsAt w1 u1 (fullb [n0, n1])) := k1
  clear X0 X1 k1
  go_wp2_with fail
  have X0 : Ext w1 (w1.alloc (.cells #[.int .u8 (m0 : Int), .int .u8 (m1 : Int)] 5)) := (Below.refl _ _).alloc (Nat.le_refl _) _
  replace LD := hide (LD.out.step X0)
  replace BB := hide (Below.chain BB.out X0)
  replace FX := hide (FX.out.ext X0)
  refine (hands_full (l := [m0, m1]) (own_lit (w := w1) [m0, m1] (lim2 HL.out.2.1) (by simp [maxLen])).at (by simp)).mono ?_
  rintro e w2 ⟨u2, rfl, X1, k1⟩
  replace LD := hide (LD.out.step X1)
  replace BB := hide (Below.chain BB.out X1)
  replace FX := hide (FX.out.ext X1)
  have FY : Hid (BsAt w2 u2 (fullb [m0, m1])) := k1
  clear X0 X1 k1
  go_wp2_with fail
  have X0 : Ext w2 (w2.alloc (.cells #[.int .u8 (j0 : Int), .int .u8 (j1 : Int)] 5)) := (Below.refl _ _).alloc (Nat.le_refl _) _
  replace LD := hide (LD.out.step X0)
  replace BB := hide (Below.chain BB.out X0)
  replace FX := hide (FX.out.ext X0)
  replace FY := hide (FY.out.ext X0)
  refine (hands_full (l := [j0, j1]) (own_lit (w := w2) [j0, j1] (lim2 HL.out.2.2) (by simp [maxLen])).at (by simp)).mono ?_
  rintro e w3 ⟨u3, rfl, X1, k1⟩
  replace LD := hide (LD.out.step X1)
  replace BB := hide (Below.chain BB.out X1)
  replace FX := hide (FX.out.ext X1)
  replace FY := hide (FY.out.ext X1)
  have FZ : Hid (BsAt w3 u3 (fullb [j0, j1])) := k1
  clear X0 X1 k1
  go_wp2_with fail
  clear hmk
  have hO : (w3.alloc (.cells ZB 5)).heap[w3.heap.size]? = some (.cells ZB 5 (0, 0)) := heap_alloc_last _ _
  have hS : (w3.alloc (.cells ZB 5)).heap.size = w3.heap.size + 1 := by simp
  have hB := (Below.refl w3.heap.size w3).alloc (Nat.le_refl _) (.cells ZB 5)
  have hO2 : (w3.alloc (.cells ZB 5)).heap[w3.heap.size]? = some (.cells (ba (bys N 0)) 5 (0, 0)) := by rw [HZ.out]; exact hO
  clear hO
  go_loopw [49] (fun i wr => ∃ r : Nat, r ≤ 8 ∧ i = .int .i64 r ∧ wr.heap[w3.heap.size]? = some (.cells (ba (bys N r)) 5 (0, 0)) ∧ wr.heap.size = w3.heap.size + 1 ∧ Below w3.heap.size w3 wr) (fun i _ => 8 - (intOf i).toNat)
  case atStart => exact ⟨0, by omega, rfl, hO2, hS, hB⟩
  case round =>
    clear hO2 hS hB HZ
    obtain ⟨r, hr, rfl, hO, hS, hB⟩ := hrel
    by_cases hlt : r < 8
    · have hc2 := cell_of_row _ _ r _ _ _ hO
      rw [ba_get _ _ (by rw [bys_len]; omega)] at hc2
      have hfro : wr.frozen? ⟨w3.heap.size, r, none⟩ = false := frozen_of_row _ _ _ _ _ hO
      have HO := hide hO
      clear hO
      generalize (bys N r).getD r 0 = zz_ at *
      have b0 : (0 : Int) ≤ (r : Int) := by omega
      have b1 : (r : Int) < 8 := by omega
      clear vn vm vk vs
      go_wp2
      have hv : (N : Int) / 2 ^ (8 * r) % 256 = ((byt N r : Nat) : Int) := by
        unfold byt
        rw [show (256 : Nat) ^ r = 2 ^ (8 * r) by rw [Nat.pow_mul]]
        simp
      rw [hv]
      refine ⟨⟨r + 1, by omega, by go_num, ?_, ?_, ?_⟩, by simp [intOf]; omega⟩
      · rw [heap_setCell_same _ _ _ _ _ _ HO.out, ba_set, bys]
      · simpa using hS
      · exact hB.setCell (by simp) _
    · have hk8 : r = 8 := by omega
      rw [hk8] at hO
      have FW := hide (bytesAt (c := 32) hO (by omega) (fun i => by rw [bys_get N 8 i (by decide)]; split; exact byt_lt _ _; decide) (by rw [bys_len]; exact Nat.le_refl _) (by unfold maxLen; omega))
      rw [bys_len] at FW
      obtain ⟨WB, hWB⟩ : ∃ l, bys N 8 = l := ⟨_, rfl⟩
      rw [hWB] at FW
      have HWB := hide hWB
      clear hWB
      replace FX := hide (FX.out.ext hB)
      replace FY := hide (FY.out.ext hB)
      replace FZ := hide (FZ.out.ext hB)
      replace LD := hide (LD.out.step hB)
      replace BB := hide (Below.chain BB.out hB)
      clear hO hB
      have hnlt : decide ((r : Int) < 8) = false := decide_eq_false (by omega)
      clear hk8 hlt hr
      go_wp2_with fail
      refine wp_region_typed (tys := fun ix_ => List.getD [isb (fullb [n0, n1]), isb (fullb [m0, m1]), isb (fullb [j0, j1]), isb (bys ((n * m + k) % ll) 32), isv (.string (sob (bys ((n * m + k) % ll) 32))), isb (WB), isv (.string (sob (WB))), isv (.bool true), isb (bys ((n + m) % ll) 32), isv (.string (sob (bys ((n + m) % ll) 32))), isv (.int .u32 (n : Int)), isv (.int .u32 (m : Int)), isv (.int .u32 (s : Int)), isv (.int .u8 (t0 : Int)), isv (.int .u32 (s8 : Int)), isv (.int .u8 (t1 : Int)), isv (.int .u32 (s16 : Int)), isv (.int .u8 (s16 : Int)), isb ([t0, t1, s16]), isb (fullb ([t0, t1, s16])), isv (.string (sob (fullb ([t0, t1, s16]))))] ix_ anyv) (pre := [(0, 10), (1, 11), (7, 0), (8, 1), (9, 2), (11, 5)])
        (plan := [([(7, 0)], 0), ([(8, 1)], 1), ([(9, 2)], 2), ([(62, 0), (63, 1), (64, 2)], 3), ([(65, 3)], 4), ([(11, 5)], 5), ([(67, 5)], 6), ([(66, 4), (68, 6)], 7), ([(69, 7)], 7), ([(70, 7), (7, 0)], 0), ([(70, 7), (8, 1)], 1), ([(70, 7), (71, 0), (72, 1)], 8), ([(70, 7), (73, 8)], 9), ([(70, 7), (0, 10)], 10), ([(70, 7), (1, 11)], 11), ([(70, 7), (75, 10), (76, 11)], 12), ([(70, 7), (77, 12)], 13), ([(70, 7), (0, 10)], 10), ([(70, 7), (1, 11)], 11), ([(70, 7), (79, 10), (80, 11)], 12), ([(70, 7), (81, 12)], 14), ([(70, 7), (82, 14)], 15), ([(70, 7), (0, 10)], 10), ([(70, 7), (1, 11)], 11), ([(70, 7), (84, 10), (85, 11)], 12), ([(70, 7), (86, 12)], 16), ([(70, 7), (87, 16)], 17), ([(70, 7), (78, 13), (83, 15), (88, 17)], 18), ([(70, 7), (89, 18)], 19), ([(70, 7), (90, 19)], 20), ([(70, 7), (74, 9), (91, 20)], 7), ([(70, 7), (92, 7)], 7), ([(93, 7)], 7), ([(94, 7)], 7), ([(94, 7), (95, 7)], 7), ([(96, 7)], 7)])
        (by kernel_rfl) 97 (by kernel_rfl) rfl ⟨rfl, ⟨rfl, ⟨FX.out, ⟨FY.out, ⟨FZ.out, ⟨FW.out, trivial⟩⟩⟩⟩⟩⟩
          (OkL.cons (fun a w X_ h => g_move (wanted_none rfl) (.inl rfl) h.1)
          (OkL.cons (fun a w X_ h => g_move (wanted_none rfl) (.inl rfl) h.1)
          (OkL.cons (fun a w X_ h => g_move (wanted_none rfl) (.inl rfl) h.1)
          (OkL.cons (fun a w X_ h => g_call3 (wanted_none rfl) (by kernel_rfl) rfl (hands_mad h.1 h.2.1 h.2.2.1 (LD.out.step X_) (fullb_len _) (fullb_len _) (fullb_len _) (vn) (vm) (vk)))
          (OkL.cons (fun a w X_ h => g_str (wanted_none rfl) rfl h.1 rfl)
          (OkL.cons (fun a w X_ h => g_move (wanted_none rfl) (.inl rfl) h.1)
          (OkL.cons (fun a w X_ h => g_str (wanted_none rfl) rfl h.1 rfl)
          (OkL.cons (fun a w X_ h => g_eqs (wanted_none rfl) rfl h.1 h.2.1 (sob_t ((want_eq _ HS.out.2.2.2.1 HS.out.2.2.1).trans HWB.out)))
          (OkL.cons (fun a w X_ h => g_move (wanted_none rfl) (.inl rfl) h.1)
          (OkL.cons (fun a w X_ h => g_move (wanted_some rfl rfl h.1) (.inl rfl) h.2.1)
          (OkL.cons (fun a w X_ h => g_move (wanted_some rfl rfl h.1) (.inl rfl) h.2.1)
          (OkL.cons (fun a w X_ h => g_call2 (wanted_some rfl rfl h.1) (by kernel_rfl) rfl (hands_add h.2.1 h.2.2.1 (LD.out.step X_) (fullb_len _) (fullb_len _) (vn) (vm)))
          (OkL.cons (fun a w X_ h => g_str (wanted_some rfl rfl h.1) rfl h.2.1 rfl)
          (OkL.cons (fun a w X_ h => g_move (wanted_some rfl rfl h.1) (.inl rfl) h.2.1)
          (OkL.cons (fun a w X_ h => g_move (wanted_some rfl rfl h.1) (.inl rfl) h.2.1)
          (OkL.cons (fun a w X_ h => g_bin (wanted_some rfl rfl h.1) rfl (v := .int .u32 (s : Int)) (by rw [show a.eval (.tmp 75) = .int .u32 (n : Int) from h.2.1, show a.eval (.tmp 76) = .int .u32 (m : Int) from h.2.2.1]; go_simp) rfl)
          (OkL.cons (fun a w X_ h => g_conv (wanted_some rfl rfl h.1) rfl (u := .int .u8 (t0 : Int)) (by rw [show a.eval (.tmp 77) = .int .u32 (s : Int) from h.2.1]; go_simp; try (rw [IntKind.wrap_u8]; omega)) rfl)
          (OkL.cons (fun a w X_ h => g_move (wanted_some rfl rfl h.1) (.inl rfl) h.2.1)
          (OkL.cons (fun a w X_ h => g_move (wanted_some rfl rfl h.1) (.inl rfl) h.2.1)
          (OkL.cons (fun a w X_ h => g_bin (wanted_some rfl rfl h.1) rfl (v := .int .u32 (s : Int)) (by rw [show a.eval (.tmp 79) = .int .u32 (n : Int) from h.2.1, show a.eval (.tmp 80) = .int .u32 (m : Int) from h.2.2.1]; go_simp) rfl)
          (OkL.cons (fun a w X_ h => g_bin (wanted_some rfl rfl h.1) rfl (v := .int .u32 (s8 : Int)) (by rw [show a.eval (.tmp 81) = .int .u32 (s : Int) from h.2.1]; go_simp) rfl)
          (OkL.cons (fun a w X_ h => g_conv (wanted_some rfl rfl h.1) rfl (u := .int .u8 (t1 : Int)) (by rw [show a.eval (.tmp 82) = .int .u32 (s8 : Int) from h.2.1]; go_simp; try (rw [IntKind.wrap_u8]; omega)) rfl)
          (OkL.cons (fun a w X_ h => g_move (wanted_some rfl rfl h.1) (.inl rfl) h.2.1)
          (OkL.cons (fun a w X_ h => g_move (wanted_some rfl rfl h.1) (.inl rfl) h.2.1)
          (OkL.cons (fun a w X_ h => g_bin (wanted_some rfl rfl h.1) rfl (v := .int .u32 (s : Int)) (by rw [show a.eval (.tmp 84) = .int .u32 (n : Int) from h.2.1, show a.eval (.tmp 85) = .int .u32 (m : Int) from h.2.2.1]; go_simp) rfl)
          (OkL.cons (fun a w X_ h => g_bin (wanted_some rfl rfl h.1) rfl (v := .int .u32 (s16 : Int)) (by rw [show a.eval (.tmp 86) = .int .u32 (s : Int) from h.2.1]; go_simp) rfl)
          (OkL.cons (fun a w X_ h => g_conv (wanted_some rfl rfl h.1) rfl (u := .int .u8 (s16 : Int)) (by rw [show a.eval (.tmp 87) = .int .u32 (s16 : Int) from h.2.1]; go_simp; try (rw [IntKind.wrap_u8]; omega)) rfl)
          (OkL.cons (fun a w X_ h => g_news (l := [t0, t1, s16]) (cs := #[.int .u8 (t0 : Int), .int .u8 (t1 : Int), .int .u8 (s16 : Int)]) (n := 3) (wanted_some rfl rfl h.1) (lim3 HS.out.2.2.2.2.1 HS.out.2.2.2.2.2.1 HS.out.2.2.2.2.2.2) (by simp) rfl rfl (by have e78 : a.tmps[78]?.getD undef = .int .u8 (t0 : Int) := (by rw [← Array.getD_eq_getD_getElem?]; exact h.2.1); have e83 : a.tmps[83]?.getD undef = .int .u8 (t1 : Int) := (by rw [← Array.getD_eq_getD_getElem?]; exact h.2.2.1); have e88 : a.tmps[88]?.getD undef = .int .u8 (s16 : Int) := (by rw [← Array.getD_eq_getD_getElem?]; exact h.2.2.2.1); go_simp))
          (OkL.cons (fun a w X_ h => g_call1 (wanted_some rfl rfl h.1) (by kernel_rfl) rfl (hands_full h.2.1 (by simp)))
          (OkL.cons (fun a w X_ h => g_str (wanted_some rfl rfl h.1) rfl h.2.1 rfl)
          (OkL.cons (fun a w X_ h => g_eqs (wanted_some rfl rfl h.1) rfl h.2.1 h.2.2.1 (sob_t (sum_eq _ HS.out.1 HS.out.2.1)))
          (OkL.cons (fun a w X_ h => g_pick (wanted_none rfl) rfl h.1 h.2.1)
          (OkL.cons (fun a w X_ h => g_move (wanted_none rfl) (.inl rfl) h.1)
          (OkL.cons (fun a w X_ h => g_call0 (wanted_some rfl rfl h.1) (by kernel_rfl) rfl (hands_awake (LD.out.step X_)))
          (OkL.cons (fun a w X_ h => g_pick (wanted_none rfl) rfl h.1 h.2.1)
          (OkL.cons (fun a w X_ h => g_move (wanted_none rfl) (.inr rfl) h.1)
          OkL.nil)))))))))))))))))))))))))))))))))))) ?_
      rintro w10 X10 v62 - v63 - v64 - v65 - _ rfl v67 - _ rfl _ rfl _ rfl v71 - v72 - v73 - _ rfl _ rfl _ rfl _ rfl _ rfl _ rfl _ rfl _ rfl _ rfl _ rfl _ rfl _ rfl _ rfl _ rfl _ rfl v89 - v90 - _ rfl _ rfl _ rfl _ rfl _ rfl _ rfl _ rfl
      refine FinL.done ?_
      simp only [Act.put, List.setIfInBounds_toArray, List.set_cons_zero, List.set_cons_succ]
      replace BB := hide (Below.chain BB.out X10)
      clear X10
      go_wp2
      go_ret
      exact ⟨rfl, BB.out⟩
theorem wraps_u32 (n : Int) (h₀ : 0 ≤ n) (h₁ : n < 2 ^ 32) : IntKind.u32.wrap n = n := by rw [IntKind.wrap_u32]; omega
theorem and_u32_16 (a : Nat) (ha : a < 4294967296) : bits .and .u32 (a : Int) 65535 = ((a % 65536 : Nat) : Int) := by
  have h := (bits_nat .u32 32 (by decide) wraps_u32 a 65535 (by omega) (by omega)).1
  rw [show a &&& 65535 = a % 65536 from Nat.and_two_pow_sub_one_eq_mod a 16] at h
  exact h
theorem u32_of_wf {x : Int} (h : (Lit.int .u32 x).wf = true) : 0 ≤ x ∧ x < 4294967296 := by
  simp [Lit.wf, IntKind.min, IntKind.max, IntKind.signed, IntKind.bits] at h
  omega
theorem small_any (a b c : Int) (wa : (Lit.int .u32 a).wf = true) (wb : (Lit.int .u32 b).wf = true) (wc : (Lit.int .u32 c).wf = true) (w : World) (LD : Laid w) :
    Calls Tryd.prog 7 #[.int .u32 a, .int .u32 b, .int .u32 c] w fun e w' => e = .returned (.bool true) ∧ Below w.heap.size w w' := by
  have ha := u32_of_wf wa
  have hb := u32_of_wf wb
  have hc := u32_of_wf wc
  obtain ⟨a', rfl⟩ := Int.eq_ofNat_of_zero_le ha.1
  obtain ⟨b', rfl⟩ := Int.eq_ofNat_of_zero_le hb.1
  obtain ⟨c', rfl⟩ := Int.eq_ofNat_of_zero_le hc.1
  exact small_walk a' b' c' _ _ _ (and_u32_16 a' (by omega)) (and_u32_16 b' (by omega)) (and_u32_16 c' (by omega)) (by omega) (by omega) (by omega) w LD
end Go.Proofs.YtmaolpinppnijaaDoor
