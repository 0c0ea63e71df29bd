/- Its bytes are a number below p, and it again: the law FieldBytes answers true, in any world, for all bytes. -/
import Derived.Test.YtbaionconnhdiaaByteMath
import Derived.Deep.AppendLies
namespace Go.Proofs.Ytbaionconnhdiaa
open Go.RowKit
set_option linter.unusedSimpArgs false in
set_option maxRecDepth 100000 in
set_option maxHeartbeats 8000000 in
theorem fieldBytes_any (u : Value) (bs : List Nat) (w : World) (h0 : BsAt w u bs) (hl0 : bs.length ≤ 100) :
    Calls Try.prog 3 #[u] w fun e w' => e = .returned (.bool true) ∧ Below w.heap.size w w' := by
  have HF0 : Hid (∀ W, BsAt W u bs → Calls Try.prog 7 #[u] W fun e w' => e = .returned (.agg (el (bval (bs.take 32) % pp))) ∧ Below W.heap.size W w') := fun W h => from_any u bs hl0 W h
  have BS0 := hide h0
  have bx := pp_mod (bval (bs.take 32))
  generalize bval (bs.take 32) % pp = x at *
  obtain ⟨xa0, xa1, xa2, xa3, he0⟩ : ∃ a b c d : Nat, el (x) = #[.int .u64 (a : Int), .int .u64 (b : Int), .int .u64 (c : Int), .int .u64 (d : Int)] := ⟨_, _, _, _, rfl⟩
  have HEx := hide he0.symm
  rw [he0] at HF0
  have HBx := hide bx
  have HB1 : Hid (1 < pp) := by show 1 < pp; decide
  have M1 : Hid (∀ W, Calls Try.prog 8 #[.agg #[.int .u64 (xa0 : Int), .int .u64 (xa1 : Int), .int .u64 (xa2 : Int), .int .u64 (xa3 : Int)]] W fun e w' => ∃ g, e = .returned (.slice (some ⟨g, 0, none⟩) 32 32) ∧ W.heap.size ≤ g ∧ g < w'.heap.size ∧ w'.heap[g]? = some (.cells (ba (bys x 32)) 5 (0, 0)) ∧ Below W.heap.size W w') := fun W => by rw [HEx.out]; exact bytes_any x HBx.out W
  obtain ⟨y31, h31⟩ : ∃ y, byt x 31 = y := ⟨_, rfl⟩
  have hy31 : y31 ≤ 127 := by rw [← h31]; exact top_byte x bx
  have H31 := hide h31
  have d127 : decide ((127 : Int) < (y31 : Int)) = false := decide_eq_false (by omega)
  obtain ⟨ao0, co0, rfl, _, hm0⟩ := h0.len
  have d0 : decide ((100 : Int) < (bs.length : Int)) = false := decide_eq_false (by omega)
  have HLL := hide hl0
  clear h0 he0 hl0 bx h31
  go_enter Try.func3, Try.ntmps3
  go_wp2_with fail
  refine (HF0.out _ BS0.out).mono ?_
  rintro e w1 ⟨rfl, f0⟩
  have T4 := hide ((At.nil f0).alloc #[.int .u64 (xa0 : Int), .int .u64 (xa1 : Int), .int .u64 (xa2 : Int), .int .u64 (xa3 : Int)] 28)
  clear f0
  go_wp2_with fail
  refine (M1.out _).mono ?_
  rintro e w2 ⟨g, rfl, hg1, hg2, hrow, f1⟩
  replace T4 := hide ((T4.out.step f1).more hg2 hrow)
  have hgs : w1.heap.size < g := by simp at hg1; omega
  clear f1 hg1 hg2 hrow M1 HF0
  go_wp2_with fail
  refine wp_region_ext (by kernel_rfl) ?_
  replace T4 := hide T4.out.drew
  have ra := T4.out.grd (p := w1.heap.size) (T := 28) (A := #[.int .u64 (xa0 : Int), .int .u64 (xa1 : Int), .int .u64 (xa2 : Int), .int .u64 (xa3 : Int)]) (by simp)
  have r31 := T4.out.gby (g := g) (x := x) (by simp) 31 (by decide) H31.out
  refine wpE_take (i := 0) (v := ?va1) rfl (by kernel_rfl) (by kernel_rfl) (by kernel_rfl) (fun _ _ _ h => h) rfl ?ya1 ?ra1
  case ya1 => (intro w' hw'; go_simp; try rfl)
  simp only [List.getElem_toArray, List.getElem_cons_zero, List.getElem_cons_succ, Act.put, List.setIfInBounds_toArray, List.set_cons_zero, List.set_cons_succ]
  refine wpE_take (i := 1) (v := ?va2) rfl (by kernel_rfl) (by kernel_rfl) (by kernel_rfl) (fun _ _ _ h => h) rfl ?ya2 ?ra2
  case ya2 => (intro w' hw'; go_simp; try rfl)
  simp only [List.getElem_toArray, List.getElem_cons_zero, List.getElem_cons_succ, Act.put, List.setIfInBounds_toArray, List.set_cons_zero, List.set_cons_succ]
  refine wpE_take (i := 2) (v := ?va3) rfl (by kernel_rfl) (by kernel_rfl) (by kernel_rfl) (fun _ _ _ h => h) rfl ?ya3 ?ra3
  case ya3 => (intro w' hw'; go_simp; try rfl)
  simp only [List.getElem_toArray, List.getElem_cons_zero, List.getElem_cons_succ, Act.put, List.setIfInBounds_toArray, List.set_cons_zero, List.set_cons_succ]
  refine wpE_take (i := 3) (v := ?va4) rfl (by kernel_rfl) (by kernel_rfl) (by kernel_rfl) (fun _ _ _ h => h) rfl ?ya4 ?ra4
  case ya4 => (intro w' hw'; go_simp; try rfl)
  simp only [List.getElem_toArray, List.getElem_cons_zero, List.getElem_cons_succ, Act.put, List.setIfInBounds_toArray, List.set_cons_zero, List.set_cons_succ]
  refine wpE_take (i := 4) (v := ?va5) rfl (by kernel_rfl) (by kernel_rfl) (by kernel_rfl) (fun _ _ _ h => h) rfl ?ya5 ?ra5
  case ya5 => (intro w' hw'; go_simp; try rfl)
  simp only [List.getElem_toArray, List.getElem_cons_zero, List.getElem_cons_succ, Act.put, List.setIfInBounds_toArray, List.set_cons_zero, List.set_cons_succ]
  refine wpE_take (i := 6) (v := ?va6) rfl (by kernel_rfl) (by kernel_rfl) (by kernel_rfl) (fun _ _ _ h => h) rfl ?ya6 ?ra6
  case ya6 => (intro w' hw'; go_simp; try rfl)
  simp only [List.getElem_toArray, List.getElem_cons_zero, List.getElem_cons_succ, Act.put, List.setIfInBounds_toArray, List.set_cons_zero, List.set_cons_succ]
  refine wpE_call (i := 5) (f := 7) (vals := #[.slice (some ⟨g, 0, none⟩) 32 32]) (by kernel_rfl) rfl rfl (by go_simp) (from_bys HBx.out (T4.out.rows g (ba (bys x 32)) 5 (by simp)).2 (T4.out.rows g (ba (bys x 32)) 5 (by simp)).1) ?_
  rintro e w5 ⟨rfl, b5⟩
  refine ⟨_, rfl, b5, ?_⟩
  replace T4 := hide (T4.out.step b5)
  clear b5 ra r31
  have ra := T4.out.grd (p := w1.heap.size) (T := 28) (A := #[.int .u64 (xa0 : Int), .int .u64 (xa1 : Int), .int .u64 (xa2 : Int), .int .u64 (xa3 : Int)]) (by simp)
  have r31 := T4.out.gby (g := g) (x := x) (by simp) 31 (by decide) H31.out
  simp only [List.getElem_toArray, List.getElem_cons_zero, List.getElem_cons_succ, Act.put, List.setIfInBounds_toArray, List.set_cons_zero, List.set_cons_succ]
  refine wpE_call (i := 7) (f := 9) (vals := #[.agg (el x), .agg (#[.int .u64 (xa0 : Int), .int .u64 (xa1 : Int), .int .u64 (xa2 : Int), .int .u64 (xa3 : Int)])]) (by kernel_rfl) rfl rfl (by go_simp) (same_gen rfl HEx.out HBx.out HBx.out rfl _) ?_
  rintro e w5 ⟨rfl, b5⟩
  refine ⟨_, rfl, b5, ?_⟩
  replace T4 := hide (T4.out.step b5)
  clear b5 ra r31
  have ra := T4.out.grd (p := w1.heap.size) (T := 28) (A := #[.int .u64 (xa0 : Int), .int .u64 (xa1 : Int), .int .u64 (xa2 : Int), .int .u64 (xa3 : Int)]) (by simp)
  have r31 := T4.out.gby (g := g) (x := x) (by simp) 31 (by decide) H31.out
  simp only [List.getElem_toArray, List.getElem_cons_zero, List.getElem_cons_succ, Act.put, List.setIfInBounds_toArray, List.set_cons_zero, List.set_cons_succ]
  refine wpE_take (i := 8) (v := ?va7) rfl (by kernel_rfl) (by kernel_rfl) (by kernel_rfl) (fun _ _ _ h => h) rfl ?ya7 ?ra7
  case ya7 => (intro w' hw'; go_simp; try rfl)
  simp only [List.getElem_toArray, List.getElem_cons_zero, List.getElem_cons_succ, Act.put, List.setIfInBounds_toArray, List.set_cons_zero, List.set_cons_succ]
  refine wpE_take (i := 9) (v := ?va8) rfl (by kernel_rfl) (by kernel_rfl) (by kernel_rfl) (fun _ _ _ h => h) rfl ?ya8 ?ra8
  case ya8 => (intro w' hw'; go_simp; try rfl)
  simp only [List.getElem_toArray, List.getElem_cons_zero, List.getElem_cons_succ, Act.put, List.setIfInBounds_toArray, List.set_cons_zero, List.set_cons_succ]
  refine wpE_take (i := 10) (v := ?va9) rfl (by kernel_rfl) (by kernel_rfl) (by kernel_rfl) (fun _ _ _ h => h) rfl ?ya9 ?ra9
  case ya9 => (intro w' hw'; go_simp; try rfl)
  simp only [List.getElem_toArray, List.getElem_cons_zero, List.getElem_cons_succ, Act.put, List.setIfInBounds_toArray, List.set_cons_zero, List.set_cons_succ]
  refine wpE_take (i := 11) (v := ?va10) rfl (by kernel_rfl) (by kernel_rfl) (by kernel_rfl) (fun _ _ _ h => h) rfl ?ya10 ?ra10
  case ya10 => (intro w' hw'; go_simp; try rfl)
  simp only [List.getElem_toArray, List.getElem_cons_zero, List.getElem_cons_succ, Act.put, List.setIfInBounds_toArray, List.set_cons_zero, List.set_cons_succ]
  refine wpE_take (i := 12) (v := ?va11) rfl (by kernel_rfl) (by kernel_rfl) (by kernel_rfl) (fun _ _ _ h => h) rfl ?ya11 ?ra11
  case ya11 => (intro w' hw'; go_simp; try rfl)
  simp only [List.getElem_toArray, List.getElem_cons_zero, List.getElem_cons_succ, Act.put, List.setIfInBounds_toArray, List.set_cons_zero, List.set_cons_succ]
  refine wpE_take (i := 13) (v := ?va12) rfl (by kernel_rfl) (by kernel_rfl) (by kernel_rfl) (fun _ _ _ h => h) rfl ?ya12 ?ra12
  case ya12 => (intro w' hw'; go_simp; try rfl)
  simp only [List.getElem_toArray, List.getElem_cons_zero, List.getElem_cons_succ, Act.put, List.setIfInBounds_toArray, List.set_cons_zero, List.set_cons_succ]
  refine wpE_take (i := 14) (v := ?va13) rfl (by kernel_rfl) (by kernel_rfl) (by kernel_rfl) (fun _ _ _ h => h) rfl ?ya13 ?ra13
  case ya13 => (intro w' hw'; go_simp; try rfl)
  simp only [List.getElem_toArray, List.getElem_cons_zero, List.getElem_cons_succ, Act.put, List.setIfInBounds_toArray, List.set_cons_zero, List.set_cons_succ]
  refine wpE_take (i := 15) (v := ?va14) rfl (by kernel_rfl) (by kernel_rfl) (by kernel_rfl) (fun _ _ _ h => h) rfl ?ya14 ?ra14
  case ya14 => (intro w' hw'; go_simp; try rfl)
  simp only [List.getElem_toArray, List.getElem_cons_zero, List.getElem_cons_succ, Act.put, List.setIfInBounds_toArray, List.set_cons_zero, List.set_cons_succ]
  refine wpE_done (by kernel_rfl) ?_
  clear ra r31
  have hmk := make32
  have hgl : g < w5.heap.size := (T4.out.rows g (ba (bys x 32)) 5 (by simp)).2
  go_wp2_with fail
  clear hmk
  have hne : ∀ p A T, (p, A, T) ∈ ([(g, ba (bys x 32), 5), (w1.heap.size, #[.int .u64 (xa0 : Int), .int .u64 (xa1 : Int), .int .u64 (xa2 : Int), .int .u64 (xa3 : Int)], 28)] : List (Nat × Array Value × TypeId)) → p ≠ w5.heap.size := by
    intro p A T hm
    exact Nat.ne_of_lt (T4.out.rows p A T hm).2
  have HNE := hide hne
  have hw5 : w.heap.size ≤ w5.heap.size := T4.out.below.size
  clear hne
  go_loopw [37] (fun i wr => ∃ k : Nat, k ≤ 32 ∧ i = .int .i64 k ∧ wr.heap[w5.heap.size]? = some (.cells (ba (fil k)) 5 (0, 0)) ∧ w5.heap.size < wr.heap.size ∧ At w wr [(g, ba (bys x 32), 5), (w1.heap.size, #[.int .u64 (xa0 : Int), .int .u64 (xa1 : Int), .int .u64 (xa2 : Int), .int .u64 (xa3 : Int)], 28)]) (fun i _ => 32 - (intOf i).toNat)
  case atStart => exact ⟨0, by omega, rfl, heap_alloc_last _ _, by simp, T4.out.step ((Below.refl _ _).alloc (Nat.le_refl _) _)⟩
  case round =>
    obtain ⟨k, hk, rfl, hO, hS, hAt⟩ := hrel
    by_cases hlt : k < 32
    · have hfro : wr.frozen? ⟨w5.heap.size, k, none⟩ = false := frozen_of_row _ _ _ _ _ hO
      have hc2 := cell_of_row _ _ k _ _ _ hO
      rw [ba_get _ _ (by rw [fil_len]; exact hlt)] at hc2
      generalize (fil k).getD k 0 = z at hc2
      have HO := hide hO
      have AT := hide hAt
      clear hO hAt
      have b0 : (0 : Int) ≤ (k : Int) := by omega
      have b1 : (k : Int) < 32 := by omega
      go_wp2
      refine ⟨⟨k + 1, by omega, by go_num, ?_, ?_, ?_⟩, by simp [intOf]; omega⟩
      · rw [heap_setCell_same _ _ _ _ _ _ HO.out]
        exact congrArg (fun c => some (Obj.cells c 5 (0, 0))) (ba_set (fil k) k 255)
      · simpa using hS
      · exact AT.out.setCell hw5 HNE.out _ _
    · have hk32 : k = 32 := by omega
      subst hk32
      have hfro : ∀ i, wr.frozen? ⟨w5.heap.size, i, none⟩ = false := fun i => frozen_of_row _ _ _ _ _ hO
      have c0 := cell_of_row _ _ 0 _ _ _ hO
      rw [ba_get _ _ (by rw [fil_len]; decide)] at c0
      have c31 := cell_of_row _ _ 31 _ _ _ hO
      rw [ba_get _ _ (by rw [fil_len]; decide)] at c31
      generalize (fil 32).getD 0 0 = z0 at c0
      generalize (fil 32).getD 31 0 = z31 at c31
      have cb := hAt.gby0 (g := g) (x := x) (by simp) 31 (by decide) H31.out
      have hgn : g ≠ w5.heap.size := by omega
      have HO := hide hO
      have AT := hide hAt
      clear hO hAt hlt hk
      have e127 : ((y31 : Int) == 127) = big x 0 := by
        rw [big, H31.out, Bool.eq_iff_iff]; simp; omega
      go_wp2_with fail
      have HP : Hid (((wr.setCell ⟨w5.heap.size, 0, none⟩ (.int .u8 237)).setCell ⟨w5.heap.size, 31, none⟩ (.int .u8 127)).heap[w5.heap.size]? = some (.cells (ba pbs) 5 (0, 0))) := by
        show _ = _
        rw [heap_setCell_same _ _ _ _ _ _ (heap_setCell_same _ _ _ _ _ _ HO.out), ← fil_pbs]
        exact congrArg (fun c => some (Obj.cells c 5 (0, 0))) ((congrArg (fun c => Array.setIfInBounds c 31 (Value.int .u8 127)) (ba_set (fil 32) 0 237)).trans (ba_set ((fil 32).set 0 237) 31 127))
      replace AT := hide ((AT.out.setCell hw5 HNE.out 0 (.int .u8 237)).setCell hw5 HNE.out 31 (.int .u8 127))
      have hS6 : w5.heap.size < ((wr.setCell ⟨w5.heap.size, 0, none⟩ (.int .u8 237)).setCell ⟨w5.heap.size, 31, none⟩ (.int .u8 127)).heap.size := by simpa using hS
      clear c0 c31 cb hfro HO T4 e127
      generalize (wr.setCell ⟨w5.heap.size, 0, none⟩ (.int .u8 237)).setCell ⟨w5.heap.size, 31, none⟩ (.int .u8 127) = W6 at *
      go_loopw [7, 8] (fun bg i wr => ∃ j : Nat, j ≤ 30 ∧ i = .int .i64 ((j : Int) + 1) ∧ bg = .bool (big x j) ∧ wr = W6) (fun _ i _ => 31 - (intOf i).toNat)
      case atStart => exact ⟨0, by omega, rfl, rfl, rfl⟩
      case round =>
        obtain ⟨j, hj, rfl, rfl, rfl⟩ := hrel
        by_cases hlt : j < 30
        · obtain ⟨y, hy⟩ : ∃ y, byt x (j + 1) = y := ⟨_, rfl⟩
          have cb := AT.out.gby0 (g := g) (x := x) (by simp) (j + 1) (by omega) hy
          have HY := hide hy
          have e255 : ((y : Int) == 255) = decide (y = 255) := by rw [Bool.eq_iff_iff]; simp; omega
          have j0 : (0 : Int) ≤ (j : Int) + 1 := by omega
          have j1 : (j : Int) + 1 < 31 := by omega
          have j2 : (j : Int) + 1 < 32 := by omega
          clear hy
          cases hbg : big x j
          · go_wp2
            exact ⟨⟨j + 1, by omega, by go_num, by rw [big, hbg]; rfl, trivial⟩, by simp [intOf]; omega⟩
          · go_wp2
            exact ⟨⟨j + 1, by omega, by go_num, by rw [big, hbg, HY.out]; rfl, trivial⟩, by simp [intOf]; omega⟩
        · have hj30 : j = 30 := by omega
          have hdec : decide ((j : Int) + 1 < 31) = false := decide_eq_false (by omega)
          obtain ⟨v, hv⟩ : ∃ v, big x j = v := ⟨_, rfl⟩
          have HV : Hid (big x 30 = v) := by rw [hj30] at hv; exact hv
          rw [hv]
          clear hv hj30
          obtain ⟨i0, hi, hz0, hz1, hz2⟩ := info_five
          have hnews := news_cells (W := wr.alloc (.cells #[.int .u8 238] 5)) (g := w5.heap.size) ((Below.heap_alloc _ _ _ hS6).trans HP.out)
          have HNW := hide hnews
          have HI := hide (And.intro hi (And.intro hz0 (And.intro hz1 hz2)))
          clear hnews hi hz0 hz1 hz2
          go_wp2_with (at_builtin; refine wpList_append_lies _ rfl _ _ 22 rfl wr.heap.size 5 i0 (.int .u8 0) 1 1 Try.underlying22 HI.out.1 HI.out.2.1 HI.out.2.2.1 HI.out.2.2.2 rfl (by decide) (.slice (some ⟨wr.heap.size, 0, none⟩) 1 1) 1 [.int .u8 238] rfl (own_one wr) ⟨w5.heap.size, 1, none⟩ 31 31 news rfl rfl HNW.out news_one (by decide) (by decide) (by decide) (by simp) (wr.heap.size + 1) (by simp) ?_)
          intro q cap w6 hown hgrow _ hlt6
          have hb6 : Below wr.heap.size wr w6 := grown_below hgrow
          have Q4 := hide (QAt.of hown hlt6)
          have T4 := hide ((AT.out.more hS6 HP.out).step hb6)
          clear hown hgrow hlt6 hb6 HNW HI AT HP hS6 hS hj hlt hdec
          have y0 : ∃ y, byt x 0 = y := ⟨_, rfl⟩
          obtain ⟨y0, hy0⟩ := y0
          have H0 := hide hy0
          have HB0 : Hid (0 < pp) := pp_pos
          have c0 := T4.out.gby0 (g := g) (x := x) (by simp) 0 (by decide) hy0
          cases v
          · clear hy0
            go_wp2_with fail
            refine (from_pbs (T4.out.rows w5.heap.size (ba pbs) 5 (by simp)).2 (T4.out.rows w5.heap.size (ba pbs) 5 (by simp)).1).mono ?_
            rintro e w9 ⟨rfl, b9⟩
            replace T4 := hide (T4.out.step b9)
            replace Q4 := hide (Q4.out.step b9)
            clear b9
            go_wp2_with fail
            refine (isZero_gen rfl HB0.out rfl _).mono ?_
            rintro e w9 ⟨rfl, b9⟩
            replace T4 := hide (T4.out.step b9)
            replace Q4 := hide (Q4.out.step b9)
            clear b9
            go_wp2_with fail
            refine (from_qbs Q4.out).mono ?_
            rintro e w9 ⟨rfl, b9⟩
            replace T4 := hide (T4.out.step b9)
            replace Q4 := hide (Q4.out.step b9)
            clear b9
            go_wp2_with fail
            refine (small_any 1 (by decide) _).mono ?_
            rintro e w9 ⟨rfl, b9⟩
            replace T4 := hide (T4.out.step b9)
            replace Q4 := hide (Q4.out.step b9)
            clear b9
            go_wp2_with fail
            refine (same_gen rfl rfl HB1.out HB1.out rfl _).mono ?_
            rintro e w9 ⟨rfl, b9⟩
            replace T4 := hide (T4.out.step b9)
            replace Q4 := hide (Q4.out.step b9)
            clear b9
            go_wp2_with fail
            refine (isZero_gen zero_el HB0.out rfl _).mono ?_
            rintro e w9 ⟨rfl, b9⟩
            replace T4 := hide (T4.out.step b9)
            replace Q4 := hide (Q4.out.step b9)
            clear b9
            go_wp2_with fail
            refine (awake_any _).mono ?_
            rintro e w9 ⟨rfl, b9⟩
            replace T4 := hide (T4.out.step b9)
            replace Q4 := hide (Q4.out.step b9)
            clear b9
            go_wp2
            go_ret
            exact ⟨rfl, T4.out.below⟩
          · have hl := big_low x HBx.out HV.out
            have d237 : decide ((y0 : Int) < 237) = true := decide_eq_true (by rw [hy0] at hl; omega)
            clear hl hy0
            go_wp2_with fail
            refine (from_pbs (T4.out.rows w5.heap.size (ba pbs) 5 (by simp)).2 (T4.out.rows w5.heap.size (ba pbs) 5 (by simp)).1).mono ?_
            rintro e w9 ⟨rfl, b9⟩
            replace T4 := hide (T4.out.step b9)
            replace Q4 := hide (Q4.out.step b9)
            clear b9
            go_wp2_with fail
            refine (isZero_gen rfl HB0.out rfl _).mono ?_
            rintro e w9 ⟨rfl, b9⟩
            replace T4 := hide (T4.out.step b9)
            replace Q4 := hide (Q4.out.step b9)
            clear b9
            go_wp2_with fail
            refine (from_qbs Q4.out).mono ?_
            rintro e w9 ⟨rfl, b9⟩
            replace T4 := hide (T4.out.step b9)
            replace Q4 := hide (Q4.out.step b9)
            clear b9
            go_wp2_with fail
            refine (small_any 1 (by decide) _).mono ?_
            rintro e w9 ⟨rfl, b9⟩
            replace T4 := hide (T4.out.step b9)
            replace Q4 := hide (Q4.out.step b9)
            clear b9
            go_wp2_with fail
            refine (same_gen rfl rfl HB1.out HB1.out rfl _).mono ?_
            rintro e w9 ⟨rfl, b9⟩
            replace T4 := hide (T4.out.step b9)
            replace Q4 := hide (Q4.out.step b9)
            clear b9
            go_wp2_with fail
            refine (isZero_gen zero_el HB0.out rfl _).mono ?_
            rintro e w9 ⟨rfl, b9⟩
            replace T4 := hide (T4.out.step b9)
            replace Q4 := hide (Q4.out.step b9)
            clear b9
            go_wp2_with fail
            refine (awake_any _).mono ?_
            rintro e w9 ⟨rfl, b9⟩
            replace T4 := hide (T4.out.step b9)
            replace Q4 := hide (Q4.out.step b9)
            clear b9
            go_wp2
            go_ret
            exact ⟨rfl, T4.out.below⟩
end Go.Proofs.Ytbaionconnhdiaa
