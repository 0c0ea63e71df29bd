/- Any bytes as numbers: sums, differences, products, inverses, as the page's own way has them: the law FieldForms answers true for all bytes of at most 100, in any world where the exponent lies as the program's text lays it. -/
import Derived.Test.YtbaionconnhdiaaDoorTyF
namespace Go.Proofs.YtbaionconnhdiaaDoor
open Go.RowKit
theorem small_lt {n : Nat} (h : n < 4294967296) : n < pp := by unfold pp; omega
set_option linter.unusedSimpArgs false in
set_option maxRecDepth 100000 in
set_option maxHeartbeats 8000000 in
theorem fieldForms_any (u v : Value) (n : Nat) (hn : n < 4294967296) (bs cs : List Nat) (w : World) (LD0 : Laid w) (h0 : BsAt w u bs) (h1 : BsAt w v cs) (hl0 : bs.length ≤ 100) (hl1 : cs.length ≤ 100) :
    Calls Tryd.prog 3 #[u, v, .int .u32 (n : Int)] w fun e w' => e = .returned (.bool true) ∧ Below w.heap.size w w' := by
  have HF0 : Hid (∀ W, BsAt W u bs → Calls Tryd.prog 7 #[u] W fun e w' => e = .returned (.agg (el (bval (bs.take 32) % pp))) ∧ Below W.heap.size W w') := fun W h => from_any u bs hl0 W h
  have HF1 : Hid (∀ W, BsAt W v cs → Calls Tryd.prog 7 #[v] W fun e w' => e = .returned (.agg (el (bval (cs.take 32) % pp))) ∧ Below W.heap.size W w') := fun W h => from_any v cs hl1 W h
  have HG0 : Hid (∀ W, BsAt W u bs → Calls Tryd.prog 8 #[u] W fun e w' => ∃ c, e = .returned (.agg (ia c)) ∧ Rep c (bval (bs.take 32) % pp) ∧ Below W.heap.size W w') := fun W h => rfrom_any u bs hl0 W h
  have HG1 : Hid (∀ W, BsAt W v cs → Calls Tryd.prog 8 #[v] W fun e w' => ∃ c, e = .returned (.agg (ia c)) ∧ Rep c (bval (cs.take 32) % pp) ∧ Below W.heap.size W w') := fun W h => rfrom_any v cs hl1 W h
  have BS0 := hide h0
  have BS1 := hide h1
  have HBx := hide (pp_mod (bval (bs.take 32)))
  have HBy := hide (pp_mod (bval (cs.take 32)))
  generalize bval (bs.take 32) % pp = x at *
  generalize bval (cs.take 32) % pp = y at *
  have szX : (Tryd.prog.info? 29).map (·.size) = some (el x).size := by rw [show (el x).size = 4 from rfl]; kernel_rfl
  have szY : (Tryd.prog.info? 29).map (·.size) = some (el y).size := by rw [show (el y).size = 4 from rfl]; kernel_rfl
  have s4X : (el x).size = 4 := rfl
  have s4Y : (el y).size = 4 := rfl
  have oneX := el_one x
  have oneY := el_one y
  obtain ⟨AX, hAX⟩ : ∃ A, el x = A := ⟨_, rfl⟩
  obtain ⟨AY, hAY⟩ : ∃ A, el y = A := ⟨_, rfl⟩
  rw [hAX] at HF0 szX s4X oneX
  rw [hAY] at HF1 szY s4Y oneY
  have EX := hide hAX.symm
  have EY := hide hAY.symm
  have hz := zeroN
  obtain ⟨ZN, hZN⟩ : ∃ Z, ia z16 = Z := ⟨_, rfl⟩
  rw [hZN] at hz
  have s16 : ZN.size = 16 := by rw [← hZN]; rfl
  obtain ⟨ao0, co0, rfl, _, hm0⟩ := h0.len
  have d0 : decide ((100 : Int) < (bs.length : Int)) = false := decide_eq_false (by omega)
  obtain ⟨ao1, co1, rfl, _, hm1⟩ := h1.len
  have d1 : decide ((100 : Int) < (cs.length : Int)) = false := decide_eq_false (by omega)
  have HN := hide hn
  have LD := hide LD0
  clear LD0 h0 hl0 h1 hl1 hAX hAY hn hZN
  go_enter Tryd.func3, Tryd.ntmps3
  go_wp2_with fail
  refine (HF0.out _ BS0.out).mono ?_
  rintro e w1 ⟨rfl, f0⟩
  have F1 := hide f0
  clear f0
  go_wp2_with fail
  refine (HF1.out _ (BS1.out.ext F1.out)).mono ?_
  rintro e w2 ⟨rfl, f1⟩
  have FB := hide (Below.chain F1.out f1)
  clear f1 F1 HF0 HF1
  obtain ⟨W2, hW2⟩ : ∃ W, ((((w2.alloc (.cells #[.int .u64 0, .int .u64 0, .int .u64 0, .int .u64 0] 29)).alloc (.cells #[.int .u64 0, .int .u64 0, .int .u64 0, .int .u64 0] 29)).setRow w2.heap.size AX).setRow (w2.heap.size + 1) AY) = W := ⟨_, rfl⟩
  have B2 : Hid (Below w.heap.size w W2) := by
    rw [← hW2]
    have hb := FB.out.size
    exact Below.setRow (Below.setRow (Below.chain FB.out (below2 _ _ _)) _ _ (by omega)) _ _ (by omega)
  have R7 : Hid (w2.heap.size < W2.heap.size ∧ W2.heap[w2.heap.size]? = some (.cells AX 29 (0, 0))) := by
    rw [← hW2]
    exact ⟨by simp; omega, (setRow_other _ _ _ _ (by omega)).trans (setRow_heap _ _ _ _ _ _ (heap2_0 _ _ _))⟩
  have R8 : Hid (w2.heap.size + 1 < W2.heap.size ∧ W2.heap[w2.heap.size + 1]? = some (.cells AY 29 (0, 0))) := by
    rw [← hW2]
    exact ⟨by simp, setRow_heap _ _ _ _ _ _ ((setRow_other _ _ _ _ (by omega)).trans (heap2_1 _ _ _))⟩
  have HSX := hide szX
  have HSY := hide szY
  clear FB
  go_wp2_with (first | (refine wpList_store_row rfl 29 (.tmp 7) (.tmp 21) rfl w2.heap.size AX rfl rfl 29 #[.int .u64 0, .int .u64 0, .int .u64 0, .int .u64 0] (heap2_0 _ _ _) szX (by rw [s4X]; rfl) oneX ?_) | (refine wpList_store_row rfl 29 (.tmp 8) (.tmp 23) rfl (w2.heap.size + 1) AY rfl rfl 29 #[.int .u64 0, .int .u64 0, .int .u64 0, .int .u64 0] ((setRow_other _ _ _ _ (by omega)).trans (heap2_1 _ _ _)) szY (by rw [s4Y]; rfl) oneY ?_; rw [hW2]))
  refine (HG0.out _ (BS0.out.ext B2.out)).mono ?_
  rintro e w3 ⟨U, rfl, hU, f0⟩
  have HU := hide hU
  have F3 := hide f0
  clear hU f0 hW2 szX szY s4X s4Y oneX oneY
  go_wp2_with fail
  refine (HG1.out _ (BS1.out.ext (Below.chain B2.out F3.out))).mono ?_
  rintro e w4 ⟨V, rfl, hV, f1⟩
  have HV := hide hV
  have X24 : Hid (Ext W2 w4) := Below.chain F3.out f1
  have sU : (ia U).size = 16 := by rw [ia_size, HU.out.len]
  have sV : (ia V).size = 16 := by rw [ia_size, HV.out.len]
  have oU := ia_one U
  have oV := ia_one V
  clear hV f1 F3 HG0 HG1
  obtain ⟨W4, hW4⟩ : ∃ W, ((((w4.alloc (.cells ZN 32)).alloc (.cells ZN 32)).setRow w4.heap.size (ia U)).setRow (w4.heap.size + 1) (ia V)) = W := ⟨_, rfl⟩
  have X44 : Hid (Ext w4 W4) := by rw [← hW4]; exact Below.setRow (Below.setRow (below2 _ _ _) _ _ (by omega)) _ _ (by omega)
  have R9 : Hid (w4.heap.size < W4.heap.size ∧ W4.heap[w4.heap.size]? = some (.cells (ia U) 32 (0, 0))) := by
    rw [← hW4]
    exact ⟨by simp; omega, (setRow_other _ _ _ _ (by omega)).trans (setRow_heap _ _ _ _ _ _ (heap2_0 _ _ _))⟩
  have R10 : Hid (w4.heap.size + 1 < W4.heap.size ∧ W4.heap[w4.heap.size + 1]? = some (.cells (ia V) 32 (0, 0))) := by
    rw [← hW4]
    exact ⟨by simp, setRow_heap _ _ _ _ _ _ ((setRow_other _ _ _ _ (by omega)).trans (heap2_1 _ _ _))⟩
  go_wp2_with (first | (refine wpList_store_row rfl 32 (.tmp 9) (.tmp 25) rfl w4.heap.size (ia U) rfl rfl 32 ZN (heap2_0 _ _ _) (by rw [sU]; exact sizeN) (by rw [sU]; exact s16) oU ?_) | (refine wpList_store_row rfl 32 (.tmp 10) (.tmp 27) rfl (w4.heap.size + 1) (ia V) rfl rfl 32 ZN ((setRow_other _ _ _ _ (by omega)).trans (heap2_1 _ _ _)) (by rw [sV]; exact sizeN) (by rw [sV]; exact s16) oV ?_; rw [hW4]))
  clear hW4 hz oU oV s16
  have XX : Ext W2 W4 := X24.out.trans X44.out
  replace R7 := hide (And.intro (Nat.lt_of_lt_of_le R7.out.1 (Below.size XX)) ((Below.block XX _ R7.out.1).trans R7.out.2))
  replace R8 := hide (And.intro (Nat.lt_of_lt_of_le R8.out.1 (Below.size XX)) ((Below.block XX _ R8.out.1).trans R8.out.2))
  replace B2 := hide (Below.chain B2.out XX)
  replace LD := hide (LD.out.step B2.out)
  clear XX X24 X44
  have LVX : ∀ (p : Nat) (W : World), W.heap[p]? = some (.cells AX 29 (0, 0)) → (loadVar 29 ⟨p, 0, none⟩).run Tryd.prog W = .ok (.agg AX) W := fun p W h => run_loadVar_row _ _ _ _ _ _ _ h Tryd.underlying29 rfl HSX.out
  have LVY : ∀ (p : Nat) (W : World), W.heap[p]? = some (.cells AY 29 (0, 0)) → (loadVar 29 ⟨p, 0, none⟩).run Tryd.prog W = .ok (.agg AY) W := fun p W h => run_loadVar_row _ _ _ _ _ _ _ h Tryd.underlying29 rfl HSY.out
  have LVU : ∀ (p : Nat) (W : World), W.heap[p]? = some (.cells (ia U) 32 (0, 0)) → (loadVar 32 ⟨p, 0, none⟩).run Tryd.prog W = .ok (.agg (ia U)) W := fun p W h => run_loadVar_row _ _ _ _ _ _ _ h undN rfl (by rw [sU]; exact sizeN)
  have LVV : ∀ (p : Nat) (W : World), W.heap[p]? = some (.cells (ia V) 32 (0, 0)) → (loadVar 32 ⟨p, 0, none⟩).run Tryd.prog W = .ok (.agg (ia V)) W := fun p W h => run_loadVar_row _ _ _ _ _ _ _ h undN rfl (by rw [sV]; exact sizeN)
  have EQX : Value.agg AX = .agg (el x) := congrArg Value.agg EX.out
  have EQY : Value.agg AY = .agg (el y) := congrArg Value.agg EY.out
  generalize w4.heap.size = P9 at *
  simp only [List.append]
  refine wp_region_typed (tys := fun ix_ => List.getD [isv (.pointer (some ⟨w2.heap.size, 0, none⟩)), ise (x), isv (.pointer (some ⟨P9, 0, none⟩)), isn (x), isv (.bool true), isv (.pointer (some ⟨w2.heap.size + 1, 0, none⟩)), ise (y), ise ((x + y) % pp), isv (.pointer (some ⟨P9 + 1, 0, none⟩)), isn (y), isn ((x + y) % pp), ise ((x + (pp - y) % pp) % pp), isn ((x + (pp - y) % pp) % pp), ise (x * y % pp), isn (x * y % pp), ise ((0 + (pp - x) % pp) % pp), isn (0), isn ((0 + (pp - x) % pp) % pp), ise (pw x ex), isn (pw x ex), isv (.int .u32 (n : Int)), ise (n), isn (n), isv (.bool (decide (x = y))), isv (.bool (decide (x = 0))), isv (.bool (decide (x % 2 = 1)))] ix_ anyv) (pre := [(2, 20), (7, 0), (8, 5), (9, 2), (10, 8)])
    (plan := [([(7, 0)], 1), ([(9, 2)], 3), ([(28, 1), (29, 3)], 4), ([(30, 4)], 4), ([(31, 4), (7, 0)], 1), ([(31, 4), (8, 5)], 6), ([(31, 4), (32, 1), (33, 6)], 7), ([(31, 4), (9, 2)], 3), ([(31, 4), (10, 8)], 9), ([(31, 4), (35, 3), (36, 9)], 10), ([(31, 4), (34, 7), (37, 10)], 4), ([(31, 4), (38, 4)], 4), ([(39, 4)], 4), ([(40, 4), (7, 0)], 1), ([(40, 4), (8, 5)], 6), ([(40, 4), (41, 1), (42, 6)], 11), ([(40, 4), (9, 2)], 3), ([(40, 4), (10, 8)], 9), ([(40, 4), (44, 3), (45, 9)], 12), ([(40, 4), (43, 11), (46, 12)], 4), ([(40, 4), (47, 4)], 4), ([(48, 4)], 4), ([(49, 4), (7, 0)], 1), ([(49, 4), (8, 5)], 6), ([(49, 4), (50, 1), (51, 6)], 13), ([(49, 4), (9, 2)], 3), ([(49, 4), (10, 8)], 9), ([(49, 4), (53, 3), (54, 9)], 14), ([(49, 4), (52, 13), (55, 14)], 4), ([(49, 4), (56, 4)], 4), ([(57, 4)], 4), ([(58, 4), (7, 0)], 1), ([(58, 4), (59, 1)], 15), ([(58, 4)], 16), ([(58, 4), (9, 2)], 3), ([(58, 4), (61, 16), (62, 3)], 17), ([(58, 4), (60, 15), (63, 17)], 4), ([(58, 4), (64, 4)], 4), ([(65, 4)], 4), ([(66, 4), (7, 0)], 1), ([(66, 4), (67, 1)], 18), ([(66, 4), (9, 2)], 3), ([(66, 4), (69, 3)], 19), ([(66, 4), (68, 18), (70, 19)], 4), ([(66, 4), (71, 4)], 4), ([(72, 4)], 4), ([(73, 4), (2, 20)], 20), ([(73, 4), (74, 20)], 21), ([(73, 4), (2, 20)], 20), ([(73, 4), (76, 20)], 22), ([(73, 4), (75, 21), (77, 22)], 4), ([(73, 4), (78, 4)], 4), ([(79, 4)], 4), ([(80, 4), (7, 0)], 1), ([(80, 4), (8, 5)], 6), ([(80, 4), (81, 1), (82, 6)], 23), ([(80, 4), (9, 2)], 3), ([(80, 4), (10, 8)], 9), ([(80, 4), (84, 3), (85, 9)], 23), ([(80, 4), (83, 23), (86, 23)], 4), ([(80, 4), (87, 4)], 4), ([(88, 4)], 4), ([(89, 4), (7, 0)], 1), ([(89, 4), (90, 1)], 24), ([(89, 4), (9, 2)], 3), ([(89, 4)], 16), ([(89, 4), (92, 3), (93, 16)], 24), ([(89, 4), (91, 24), (94, 24)], 4), ([(89, 4), (95, 4)], 4), ([(96, 4)], 4), ([(97, 4), (7, 0)], 1), ([(97, 4), (98, 1)], 25), ([(97, 4), (9, 2)], 3), ([(97, 4), (100, 3)], 25), ([(97, 4), (99, 25), (101, 25)], 4), ([(97, 4), (102, 4)], 4), ([(103, 4)], 4), ([(104, 4)], 4), ([(104, 4), (105, 4)], 4), ([(106, 4)], 4)])
    (by kernel_rfl) 107 (by kernel_rfl) rfl ⟨rfl, ⟨rfl, ⟨rfl, ⟨rfl, ⟨rfl, trivial⟩⟩⟩⟩⟩
      (OkL.cons (fun a w X_ h => g_ldr (wanted_none rfl) rfl h.1 R7.out.1 R7.out.2 X_ LVX EQX)
      (OkL.cons (fun a w X_ h => g_ldr (wanted_none rfl) rfl h.1 R9.out.1 R9.out.2 X_ LVU ⟨U, rfl, HU.out⟩)
      (OkL.cons (fun a w X_ h => g_call2 (wanted_none rfl) (by kernel_rfl) rfl (l_same h.1 HBx.out h.2.1))
      (OkL.cons (fun a w X_ h => g_move (wanted_none rfl) (.inl rfl) h.1)
      (OkL.cons (fun a w X_ h => g_ldr (wanted_some rfl rfl h.1) rfl h.2.1 R7.out.1 R7.out.2 X_ LVX EQX)
      (OkL.cons (fun a w X_ h => g_ldr (wanted_some rfl rfl h.1) rfl h.2.1 R8.out.1 R8.out.2 X_ LVY EQY)
      (OkL.cons (fun a w X_ h => g_call2 (wanted_some rfl rfl h.1) (by kernel_rfl) rfl (f_add h.2.1 h.2.2.1 HBx.out HBy.out))
      (OkL.cons (fun a w X_ h => g_ldr (wanted_some rfl rfl h.1) rfl h.2.1 R9.out.1 R9.out.2 X_ LVU ⟨U, rfl, HU.out⟩)
      (OkL.cons (fun a w X_ h => g_ldr (wanted_some rfl rfl h.1) rfl h.2.1 R10.out.1 R10.out.2 X_ LVV ⟨V, rfl, HV.out⟩)
      (OkL.cons (fun a w X_ h => g_call2 (wanted_some rfl rfl h.1) (by kernel_rfl) rfl (n_add h.2.1 h.2.2.1))
      (OkL.cons (fun a w X_ h => g_call2 (wanted_some rfl rfl h.1) (by kernel_rfl) rfl (l_same h.2.1 (pp_mod _) h.2.2.1))
      (OkL.cons (fun a w X_ h => g_pick (wanted_none rfl) rfl h.1 h.2.1)
      (OkL.cons (fun a w X_ h => g_move (wanted_none rfl) (.inl rfl) h.1)
      (OkL.cons (fun a w X_ h => g_ldr (wanted_some rfl rfl h.1) rfl h.2.1 R7.out.1 R7.out.2 X_ LVX EQX)
      (OkL.cons (fun a w X_ h => g_ldr (wanted_some rfl rfl h.1) rfl h.2.1 R8.out.1 R8.out.2 X_ LVY EQY)
      (OkL.cons (fun a w X_ h => g_call2 (wanted_some rfl rfl h.1) (by kernel_rfl) rfl (f_sub h.2.1 h.2.2.1 HBx.out HBy.out))
      (OkL.cons (fun a w X_ h => g_ldr (wanted_some rfl rfl h.1) rfl h.2.1 R9.out.1 R9.out.2 X_ LVU ⟨U, rfl, HU.out⟩)
      (OkL.cons (fun a w X_ h => g_ldr (wanted_some rfl rfl h.1) rfl h.2.1 R10.out.1 R10.out.2 X_ LVV ⟨V, rfl, HV.out⟩)
      (OkL.cons (fun a w X_ h => g_call2 (wanted_some rfl rfl h.1) (by kernel_rfl) rfl (n_sub h.2.1 h.2.2.1))
      (OkL.cons (fun a w X_ h => g_call2 (wanted_some rfl rfl h.1) (by kernel_rfl) rfl (l_same h.2.1 (pp_mod _) h.2.2.1))
      (OkL.cons (fun a w X_ h => g_pick (wanted_none rfl) rfl h.1 h.2.1)
      (OkL.cons (fun a w X_ h => g_move (wanted_none rfl) (.inl rfl) h.1)
      (OkL.cons (fun a w X_ h => g_ldr (wanted_some rfl rfl h.1) rfl h.2.1 R7.out.1 R7.out.2 X_ LVX EQX)
      (OkL.cons (fun a w X_ h => g_ldr (wanted_some rfl rfl h.1) rfl h.2.1 R8.out.1 R8.out.2 X_ LVY EQY)
      (OkL.cons (fun a w X_ h => g_call2 (wanted_some rfl rfl h.1) (by kernel_rfl) rfl (f_mul h.2.1 h.2.2.1 HBx.out HBy.out))
      (OkL.cons (fun a w X_ h => g_ldr (wanted_some rfl rfl h.1) rfl h.2.1 R9.out.1 R9.out.2 X_ LVU ⟨U, rfl, HU.out⟩)
      (OkL.cons (fun a w X_ h => g_ldr (wanted_some rfl rfl h.1) rfl h.2.1 R10.out.1 R10.out.2 X_ LVV ⟨V, rfl, HV.out⟩)
      (OkL.cons (fun a w X_ h => g_call2 (wanted_some rfl rfl h.1) (by kernel_rfl) rfl (n_mul h.2.1 h.2.2.1))
      (OkL.cons (fun a w X_ h => g_call2 (wanted_some rfl rfl h.1) (by kernel_rfl) rfl (l_same h.2.1 (pp_mod _) h.2.2.1))
      (OkL.cons (fun a w X_ h => g_pick (wanted_none rfl) rfl h.1 h.2.1)
      (OkL.cons (fun a w X_ h => g_move (wanted_none rfl) (.inl rfl) h.1)
      (OkL.cons (fun a w X_ h => g_ldr (wanted_some rfl rfl h.1) rfl h.2.1 R7.out.1 R7.out.2 X_ LVX EQX)
      (OkL.cons (fun a w X_ h => g_call1 (wanted_some rfl rfl h.1) (by kernel_rfl) rfl (f_neg h.2.1 HBx.out))
      (OkL.cons (fun a w X_ h => g_zero (wanted_some rfl rfl h.1) rfl)
      (OkL.cons (fun a w X_ h => g_ldr (wanted_some rfl rfl h.1) rfl h.2.1 R9.out.1 R9.out.2 X_ LVU ⟨U, rfl, HU.out⟩)
      (OkL.cons (fun a w X_ h => g_call2 (wanted_some rfl rfl h.1) (by kernel_rfl) rfl (n_sub h.2.1 h.2.2.1))
      (OkL.cons (fun a w X_ h => g_call2 (wanted_some rfl rfl h.1) (by kernel_rfl) rfl (l_same h.2.1 (pp_mod _) h.2.2.1))
      (OkL.cons (fun a w X_ h => g_pick (wanted_none rfl) rfl h.1 h.2.1)
      (OkL.cons (fun a w X_ h => g_move (wanted_none rfl) (.inl rfl) h.1)
      (OkL.cons (fun a w X_ h => g_ldr (wanted_some rfl rfl h.1) rfl h.2.1 R7.out.1 R7.out.2 X_ LVX EQX)
      (OkL.cons (fun a w X_ h => g_call1 (wanted_some rfl rfl h.1) (by kernel_rfl) rfl (f_inv h.2.1 HBx.out (LD.out.step X_)))
      (OkL.cons (fun a w X_ h => g_ldr (wanted_some rfl rfl h.1) rfl h.2.1 R9.out.1 R9.out.2 X_ LVU ⟨U, rfl, HU.out⟩)
      (OkL.cons (fun a w X_ h => g_call1 (wanted_some rfl rfl h.1) (by kernel_rfl) rfl (n_inv h.2.1))
      (OkL.cons (fun a w X_ h => g_call2 (wanted_some rfl rfl h.1) (by kernel_rfl) rfl (l_same h.2.1 (pw_lt _ _) h.2.2.1))
      (OkL.cons (fun a w X_ h => g_pick (wanted_none rfl) rfl h.1 h.2.1)
      (OkL.cons (fun a w X_ h => g_move (wanted_none rfl) (.inl rfl) h.1)
      (OkL.cons (fun a w X_ h => g_move (wanted_some rfl rfl h.1) (.inl rfl) h.2.1)
      (OkL.cons (fun a w X_ h => g_call1 (wanted_some rfl rfl h.1) (by kernel_rfl) rfl (f_small h.2.1 HN.out))
      (OkL.cons (fun a w X_ h => g_move (wanted_some rfl rfl h.1) (.inl rfl) h.2.1)
      (OkL.cons (fun a w X_ h => g_call1 (wanted_some rfl rfl h.1) (by kernel_rfl) rfl (n_small h.2.1 HN.out))
      (OkL.cons (fun a w X_ h => g_call2 (wanted_some rfl rfl h.1) (by kernel_rfl) rfl (l_same h.2.1 (small_lt HN.out) h.2.2.1))
      (OkL.cons (fun a w X_ h => g_pick (wanted_none rfl) rfl h.1 h.2.1)
      (OkL.cons (fun a w X_ h => g_move (wanted_none rfl) (.inl rfl) h.1)
      (OkL.cons (fun a w X_ h => g_ldr (wanted_some rfl rfl h.1) rfl h.2.1 R7.out.1 R7.out.2 X_ LVX EQX)
      (OkL.cons (fun a w X_ h => g_ldr (wanted_some rfl rfl h.1) rfl h.2.1 R8.out.1 R8.out.2 X_ LVY EQY)
      (OkL.cons (fun a w X_ h => g_call2 (wanted_some rfl rfl h.1) (by kernel_rfl) rfl (f_same h.2.1 h.2.2.1 HBx.out HBy.out))
      (OkL.cons (fun a w X_ h => g_ldr (wanted_some rfl rfl h.1) rfl h.2.1 R9.out.1 R9.out.2 X_ LVU ⟨U, rfl, HU.out⟩)
      (OkL.cons (fun a w X_ h => g_ldr (wanted_some rfl rfl h.1) rfl h.2.1 R10.out.1 R10.out.2 X_ LVV ⟨V, rfl, HV.out⟩)
      (OkL.cons (fun a w X_ h => g_call2 (wanted_some rfl rfl h.1) (by kernel_rfl) rfl (n_same h.2.1 h.2.2.1))
      (OkL.cons (fun a w X_ h => g_eqb (wanted_some rfl rfl h.1) rfl h.2.1 h.2.2.1)
      (OkL.cons (fun a w X_ h => g_pick (wanted_none rfl) rfl h.1 h.2.1)
      (OkL.cons (fun a w X_ h => g_move (wanted_none rfl) (.inl rfl) h.1)
      (OkL.cons (fun a w X_ h => g_ldr (wanted_some rfl rfl h.1) rfl h.2.1 R7.out.1 R7.out.2 X_ LVX EQX)
      (OkL.cons (fun a w X_ h => g_call1 (wanted_some rfl rfl h.1) (by kernel_rfl) rfl (f_zero h.2.1 HBx.out))
      (OkL.cons (fun a w X_ h => g_ldr (wanted_some rfl rfl h.1) rfl h.2.1 R9.out.1 R9.out.2 X_ LVU ⟨U, rfl, HU.out⟩)
      (OkL.cons (fun a w X_ h => g_zero (wanted_some rfl rfl h.1) rfl)
      (OkL.cons (fun a w X_ h => g_call2 (wanted_some rfl rfl h.1) (by kernel_rfl) rfl (n_same h.2.1 h.2.2.1))
      (OkL.cons (fun a w X_ h => g_eqb (wanted_some rfl rfl h.1) rfl h.2.1 h.2.2.1)
      (OkL.cons (fun a w X_ h => g_pick (wanted_none rfl) rfl h.1 h.2.1)
      (OkL.cons (fun a w X_ h => g_move (wanted_none rfl) (.inl rfl) h.1)
      (OkL.cons (fun a w X_ h => g_ldr (wanted_some rfl rfl h.1) rfl h.2.1 R7.out.1 R7.out.2 X_ LVX EQX)
      (OkL.cons (fun a w X_ h => g_call1 (wanted_some rfl rfl h.1) (by kernel_rfl) rfl (f_odd h.2.1 HBx.out))
      (OkL.cons (fun a w X_ h => g_ldr (wanted_some rfl rfl h.1) rfl h.2.1 R9.out.1 R9.out.2 X_ LVU ⟨U, rfl, HU.out⟩)
      (OkL.cons (fun a w X_ h => g_call1 (wanted_some rfl rfl h.1) (by kernel_rfl) rfl (n_odd h.2.1))
      (OkL.cons (fun a w X_ h => g_eqb (wanted_some rfl rfl h.1) rfl h.2.1 h.2.2.1)
      (OkL.cons (fun a w X_ h => g_pick (wanted_none rfl) rfl h.1 h.2.1)
      (OkL.cons (fun a w X_ h => g_move (wanted_none rfl) (.inl rfl) h.1)
      (OkL.cons (fun a w X_ h => g_call0 (wanted_some rfl rfl h.1) (by kernel_rfl) rfl (h_awake))
      (OkL.cons (fun a w X_ h => g_pick (wanted_none rfl) rfl h.1 h.2.1)
      (OkL.cons (fun a w X_ h => g_move (wanted_none rfl) (.inr rfl) h.1)
      OkL.nil)))))))))))))))))))))))))))))))))))))))))))))))))))))))))))))))))))))))))))))))) ?_
  rintro w5 X5 v28 - v29 - _ rfl _ rfl v32 - v33 - v34 - v35 - v36 - v37 - _ rfl _ rfl _ rfl v41 - v42 - v43 - v44 - v45 - v46 - _ rfl _ rfl _ rfl v50 - v51 - v52 - v53 - v54 - v55 - _ rfl _ rfl _ rfl v59 - v60 - v61 - v62 - v63 - _ rfl _ rfl _ rfl v67 - v68 - v69 - v70 - _ rfl _ rfl _ rfl _ rfl v75 - _ rfl v77 - _ rfl _ rfl _ rfl v81 - v82 - _ rfl v84 - v85 - _ rfl _ rfl _ rfl _ rfl v90 - _ rfl v92 - v93 - _ rfl _ rfl _ rfl _ rfl v98 - _ rfl v100 - _ rfl _ rfl _ rfl _ rfl _ rfl _ rfl _ rfl
  refine FinL.done ?_
  simp only [Act.put, List.setIfInBounds_toArray, List.set_cons_zero, List.set_cons_succ]
  replace B2 := hide (Below.chain B2.out X5)
  clear X5
  go_wp2
  go_ret
  exact ⟨rfl, B2.out⟩
end Go.Proofs.YtbaionconnhdiaaDoor
