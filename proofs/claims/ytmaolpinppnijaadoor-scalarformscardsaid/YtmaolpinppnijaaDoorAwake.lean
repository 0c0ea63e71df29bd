/- The number that every program must know: the law's own test answers true, in any world where the order lies as the program's text lays it. -/
import Derived.Test.YtmaolpinppnijaaDoorClamp
namespace Go.Proofs.YtmaolpinppnijaaDoor
open Go.RowKit
/-- The order's bytes, and those of the number below it. -/
def l16 : List Nat := [237, 211, 245, 92, 26, 99, 18, 88, 214, 156, 247, 162, 222, 249, 222, 20]
def lbs : List Nat := (l16 ++ zz 16).set 31 16
def lb : List Nat := lbs.set 0 236
theorem lbs_len : lbs.length = 32 := by decide
theorem lb_len : lb.length = 32 := by decide
theorem lbs_val : bval lbs % ll = 0 := by decide +kernel
theorem lb_may : bval lb < ll := by decide +kernel
theorem bys_zero : bys 0 32 = zz 32 := by decide +kernel
theorem l16_lim : ∀ i, l16.getD i 0 < 256 := fun i => by
  rcases Nat.lt_or_ge i 16 with h | h
  · have : ∀ j : Fin 16, l16.getD j.1 0 < 256 := by decide
    exact this ⟨i, h⟩
  · rw [List.getD_eq_getElem?_getD, List.getElem?_eq_none (by simpa [l16] using h)]; decide
set_option maxRecDepth 100000 in
set_option maxHeartbeats 1000000 in
/-- What bytes leave by the order, in new memory. -/
theorem reduce_new (v : Value) (bs : List Nat) (w : World) (h : BsAt w v bs) (hL : Laid w) (hlen : bs.length ≤ 64) :
    Calls Tryd.prog 11 #[v] w fun e w' => ∃ g, e = .returned (.slice (some ⟨g, 0, none⟩) 32 32) ∧ w.heap.size ≤ g ∧ g < w'.heap.size ∧ w'.heap[g]? = some (.cells (ba (bys (bval bs % ll) 32)) 5 (0, 0)) ∧ Below w.heap.size w w' := by
  have HF := hide (from_any v bs hlen w h)
  have HR : Hid (∀ W : World, Laid W → _) := rem_any (bval bs) (bval_64 h.lim hlen)
  have HY := hide (bytes_any (bval bs % ll) (lt_big (ll_mod _)))
  have LD := hide hL
  obtain ⟨ao, c, rfl, _, hc⟩ := h.len
  have hd : decide ((64 : Int) < (bs.length : Int)) = false := decide_eq_false (by omega)
  generalize el8 (bval bs) = E8 at *
  generalize el (bval bs % ll) = E at *
  generalize bys (bval bs % ll) 32 = Y at *
  clear hL h hlen
  go_enter Tryd.func11, Tryd.ntmps11
  go_wp2_with fail
  refine HF.out.mono ?_
  rintro e w1 ⟨rfl, b1⟩
  go_wp2_with fail
  refine (HR.out _ (LD.out.step b1)).mono ?_
  rintro e w2 ⟨rfl, b2⟩
  go_wp2_with fail
  refine (HY.out _).mono ?_
  rintro e w3 ⟨g, rfl, hg1, hg2, hrow, b3⟩
  have HB := hide (Below.chain (Below.chain b1 b2) b3)
  have HU := hide (And.intro (Nat.le_trans (Below.chain b1 b2).size hg1) (And.intro hg2 hrow))
  clear b1 b2 b3 HF HR HY hg1 hg2 hrow
  go_wp2
  go_ret
  exact ⟨_, rfl, HU.out.1, HU.out.2.1, HU.out.2.2, HB.out⟩
theorem hands_may {v : Value} {l : List Nat} {w : World} (h : BsAt w v l) (hL : Laid w) (hm : l.length = 32 ∧ bval l < ll) : Hands Tryd.prog 9 #[v] w (isv (.bool true)) :=
  (may_32 v l w h hL hm.1).mono fun e w' ⟨he, hb⟩ => ⟨_, he, hb, by rw [decide_eq_true hm.2]; rfl⟩
theorem ba_l16 : ba l16 = #[.int .u8 237, .int .u8 211, .int .u8 245, .int .u8 92, .int .u8 26, .int .u8 99, .int .u8 18, .int .u8 88, .int .u8 214, .int .u8 156, .int .u8 247, .int .u8 162, .int .u8 222, .int .u8 249, .int .u8 222, .int .u8 20] := by rfl
theorem keep_block {w : World} {g g' j : Nat} {u : Value} (h : g ≠ g') : (w.setCell ⟨g', j, none⟩ u).heap[g]? = w.heap[g]? := heap_setCell_other _ _ _ _ (by simpa using h)
set_option linter.unusedSimpArgs false in
set_option maxRecDepth 100000 in
set_option maxHeartbeats 4000000 in
theorem awake_any (w : World) (hL : Laid w) : Calls Tryd.prog 8 #[] w fun e w' => e = .returned (.bool true) ∧ Below w.heap.size w w' := by
  have LD := hide hL
  have hcv := fun (W : World) (C : Array Value) => Lib.run_convert_bytes_const (P := Tryd.prog) W 22 5 C 16 16 und22 Tryd.underlying5
  have mayw := And.intro lb_len lb_may
  clear hL
  go_enter Tryd.func8, Tryd.ntmps8
  have O0 : Hid (BsAt (w.alloc (.cells (ba l16) 5 (16, 17))) (.slice (some ⟨w.heap.size, 0, none⟩) 16 16) l16) := marked_at l16 l16_lim (by decide) _
  have B0 := hide ((Below.refl w.heap.size w).alloc (Nat.le_refl _) (.cells (ba l16) 5 (16, 17)))
  rw [ba_l16] at O0 B0
  go_wp2_with (at_builtin; refine wpList_append_zg rfl 16 (by decide) (.tmp 4) _ rfl rfl rfl O0.out (by decide) (by decide) ?_)
  intro v1 w1 o1 g1
  have B1 := hide (B0.out.grown g1 B0.out.size (by simp))
  obtain ⟨g, cap, rfl, hg1, hg2, hcap, hcm⟩ := o1.form (by decide)
  replace hg1 : w.heap.size ≤ g := by omega
  have hle : (l16 ++ zz 16).length = 32 := by decide
  rw [hle] at hcap o1 ⊢
  have f31 := o1.row.frozenAt 31
  have c31 : w1.cell? ⟨g, 31, none⟩ = some (.int .u8 0) := by rw [o1.row.cellAt 31 (by decide)]; rfl
  have O1 := hide (o1.set 31 16 (by decide))
  have B2 := hide (B1.out.setCell (p := ⟨g, 31, none⟩) hg1 (.int .u8 (16 : Int)))
  have S1 : Hid (Below w.heap.size w w1) := B1.out
  clear g1 o1 B0 O0 B1 hle
  go_wp2_with fail
  refine (reduce_new _ lbs _ O1.out.at (LD.out.step B2.out) (by rw [lbs_len]; decide)).mono ?_
  rintro e w3 ⟨gr, rfl, hr1, hr2, hrow, b3⟩
  rw [lbs_val] at hrow
  have o3 := O1.out.ext b3
  have hgr : gr ≠ g := by
    intro e
    subst e
    simp at hr1
    omega
  have f0 := o3.row.frozenAt 0
  have c0 : w3.cell? ⟨g, 0, none⟩ = some (.int .u8 237) := by rw [o3.row.cellAt 0 (by decide)]; rfl
  have O4 := hide (o3.set 0 236 (by decide))
  have B4 := hide ((Below.chain B2.out b3).setCell (p := ⟨g, 0, none⟩) hg1 (.int .u8 (236 : Int)))
  have HROW : Hid ((w3.setCell ⟨g, 0, none⟩ (.int .u8 (236 : Int))).heap[gr]? = some (.cells (ba (bys 0 32)) 5 (0, 0))) := (keep_block hgr).trans hrow
  have HLT : Hid (gr < (w3.setCell ⟨g, 0, none⟩ (.int .u8 (236 : Int))).heap.size) := by show gr < _; simpa using hr2
  clear b3 hrow o3 O1 hr1 hr2 B2 f31 c31
  go_wp2_with fail
  have HR := hide (bytesAt (c := 32) HROW.out HLT.out (bys_lim 0) (by rw [bys_len]; exact Nat.le_refl _) (by unfold maxLen; omega))
  rw [bys_len] at HR
  have HL4 : Hid (BsAt _ _ lb) := O4.out.at
  have LD4 := hide (LD.out.step B4.out)
  clear f0 c0 HROW HLT
  refine wp_region_typed (tys := fun n => List.getD [isb (bys 0 32), isv (.int .i64 32), isv (.bool true), isv (.string (sob (bys 0 32))), isb (zz 32), isv (.string (sob (zz 32))), isb (lb)] n anyv) (pre := [(1, 6), (2, 0)])
    (plan := [([(2, 0)], 0), ([(15, 0)], 1), ([(16, 1)], 2), ([(17, 2)], 2), ([(18, 2), (2, 0)], 0), ([(18, 2), (19, 0)], 3), ([(18, 2)], 4), ([(18, 2), (21, 4)], 5), ([(18, 2), (20, 3), (22, 5)], 2), ([(18, 2), (23, 2)], 2), ([(24, 2)], 2), ([(25, 2), (1, 6)], 6), ([(25, 2), (26, 6)], 2), ([(25, 2), (27, 2)], 2), ([(28, 2)], 2)])
    (by kernel_rfl) 29 (by kernel_rfl) rfl ⟨HL4.out, ⟨HR.out, trivial⟩⟩
      (OkL.cons (fun a w X h => g_move (wanted_none rfl) (.inl rfl) h.1)
      (OkL.cons (fun a w X h => g_lenb (wanted_none rfl) rfl h.1 (by rw [bys_len]; rfl) rfl)
      (OkL.cons (fun a w X h => g_bin (wanted_none rfl) rfl (v := .bool true) (by rw [show a.eval (.tmp 16) = .int .i64 32 from h.1]; go_simp) rfl)
      (OkL.cons (fun a w X h => g_move (wanted_none rfl) (.inl rfl) h.1)
      (OkL.cons (fun a w X h => g_move (wanted_some rfl rfl h.1) (.inl rfl) h.2.1)
      (OkL.cons (fun a w X h => g_str (wanted_some rfl rfl h.1) rfl h.2.1 rfl)
      (OkL.cons (fun a w X h => g_new (l := zz 32) (wanted_some rfl rfl h.1) (zeros_lim 32) (by decide) (by kernel_rfl))
      (OkL.cons (fun a w X h => g_str (wanted_some rfl rfl h.1) rfl h.2.1 rfl)
      (OkL.cons (fun a w X h => g_eqs (wanted_some rfl rfl h.1) rfl h.2.1 h.2.2.1 (sob_t bys_zero))
      (OkL.cons (fun a w X h => g_pick (wanted_none rfl) rfl h.1 h.2.1)
      (OkL.cons (fun a w X h => g_move (wanted_none rfl) (.inl rfl) h.1)
      (OkL.cons (fun a w X h => g_move (wanted_some rfl rfl h.1) (.inl rfl) h.2.1)
      (OkL.cons (fun a w X h => g_call1 (wanted_some rfl rfl h.1) (by kernel_rfl) rfl (hands_may (h.2.1) (LD4.out.step X) mayw))
      (OkL.cons (fun a w X h => g_pick (wanted_none rfl) rfl h.1 h.2.1)
      (OkL.cons (fun a w X h => g_move (wanted_none rfl) (.inr rfl) h.1)
      OkL.nil))))))))))))))) ?_
  rintro w5 X5 v15 - _ rfl _ rfl _ rfl v19 - _ rfl v21 - _ rfl _ rfl _ rfl _ rfl v26 - _ rfl _ rfl _ rfl
  refine FinL.done ?_
  simp only [Act.put, List.setIfInBounds_toArray, List.set_cons_zero, List.set_cons_succ]
  go_wp2
  go_ret
  exact ⟨rfl, Below.chain B4.out X5⟩
end Go.Proofs.YtmaolpinppnijaaDoor
