/- The page's own powers by the bits of an exponent, and its own one by a number, as its calls answer, in any world. -/
import Derived.Test.YtbaionconnhdiaaDoorRefMul
import Derived.Test.YtbaionconnhdiaaDoorRefSmall
namespace Go.Proofs.YtbaionconnhdiaaDoor
open Go.RowKit
/-- The number of bits, the lowest first. -/
def bex : List Bool → Nat
  | [] => 0
  | b :: t => 2 * bex t + b.toNat
def bv (l : List Bool) : Array Value := (l.map Value.bool).toArray
theorem bv_size (l : List Bool) : (bv l).size = l.length := by simp [bv]
theorem bv_get (l : List Bool) (k : Nat) (h : k < l.length) : (bv l)[k]? = some (.bool (l.getD k false)) := by
  simp [bv, List.getD_eq_getElem?_getD, h]
theorem bv_set (l : List Bool) (k : Nat) (b : Bool) : (bv l).setIfInBounds k (.bool b) = bv (l.set k b) := by
  simp [bv, List.map_set]
theorem bex_drop (l : List Bool) (k : Nat) (h : k < l.length) : bex (l.drop k) = 2 * bex (l.drop (k + 1)) + (l.getD k false).toNat := by
  rw [List.drop_eq_getElem_cons h, bex, List.getD_eq_getElem?_getD, List.getElem?_eq_getElem h]; rfl
theorem undB : Tryd.prog.underlying 58 = some (.array 255 4) := by kernel_rfl
theorem sizeB : (Tryd.prog.info? 58).map (·.size) = some 255 := by kernel_rfl
set_option maxRecDepth 100000 in
set_option maxHeartbeats 2000000 in
theorem rpower_any (a : List Int) (x : Nat) (ha : Rep a x) (bs : List Bool) (hbl : bs.length = 255) (w : World) :
    Calls Tryd.prog 35 #[.agg (ia a), .agg (bv bs)] w fun e w' => ∃ c, e = .returned (.agg (ia c)) ∧ Rep c (pw x (bex bs)) ∧ Below w.heap.size w w' := by
  have hz := zeroN
  have HS : Hid (∀ W : World, Calls Tryd.prog 20 #[.int .u32 1] W fun e w' => e = .returned (.agg (ia (smr 1))) ∧ Below W.heap.size W w') := rsmall_any 1 (by decide)
  have HR1 : Hid (Rep (smr 1) (pw x (bex (bs.drop 255)))) := by
    show Rep _ _
    rw [List.drop_of_length_le (by omega), show pw x (bex []) = 1 from by unfold pw bex; rw [Nat.pow_zero]; rfl]
    exact smr_rep 1 (by decide)
  have hw1 : (ia (smr 1)).size = 16 := rfl
  have HA := hide ha
  generalize smr 1 = s1 at *
  clear ha
  go_enter Tryd.func35, Tryd.ntmps35
  go_wp2_with fail
  refine (HS.out _).mono ?_
  rintro e w1 ⟨rfl, hb1⟩
  have hA1 := Below.heap hb1 (g := w.heap.size) (by simp; omega) (heap3_0 _ _ _ _)
  have hT1 := Below.heap hb1 (g := w.heap.size + 1) (by simp) (heap_alloc_mid3 _ _ _ _)
  have hO1 := Below.heap hb1 (g := w.heap.size + 1 + 1) (by simp) (heap_alloc_last3 _ _ _ _)
  have hB1 := (below3 _ _ _ _).trans (hb1.mono (by simp; omega))
  have hs1 : w.heap.size + 1 + 1 + 1 ≤ w1.heap.size := by have := hb1.size; simpa using this
  have HW1 := hide (And.intro hA1 (And.intro hT1 (And.intro hO1 hB1)))
  clear hb1 hA1 hT1 hO1 hB1 HS
  go_wp2_with (refine wpList_store_row rfl 32 (.tmp 5) (.tmp 7) rfl w1.heap.size (ia s1) rfl rfl 32 (ia z16) (heap_alloc_last _ _) (by rw [hw1]; exact sizeN) (by rw [hw1]; rfl) (ia_one _) ?_)
  obtain ⟨hA1, hT1, hO1, hB1⟩ := HW1.out
  have hX2 := setRow_heap _ _ _ (ia s1) _ _ (heap_alloc_last w1 (.cells (ia z16) 32))
  have hA2 := (setRow_other (w1.alloc (.cells (ia z16) 32)) w1.heap.size w.heap.size (ia s1) (by omega)).trans ((Below.heap_alloc _ _ _ (by omega)).trans hA1)
  have hT2 := (setRow_other (w1.alloc (.cells (ia z16) 32)) w1.heap.size (w.heap.size + 1) (ia s1) (by omega)).trans ((Below.heap_alloc _ _ _ (by omega)).trans hT1)
  have hO2 := (setRow_other (w1.alloc (.cells (ia z16) 32)) w1.heap.size (w.heap.size + 1 + 1) (ia s1) (by omega)).trans ((Below.heap_alloc _ _ _ (by omega)).trans hO1)
  have hB2 := Below.setRow (hB1.alloc (by omega) (.cells (ia z16) 32)) w1.heap.size (ia s1) (by omega)
  have hsz : ((w1.alloc (.cells (ia z16) 32)).setRow w1.heap.size (ia s1)).heap.size = w1.heap.size + 1 := by simp
  clear hA1 hT1 hO1 hB1 HW1 hz
  generalize (w1.alloc (.cells (ia z16) 32)).setRow w1.heap.size (ia s1) = W2 at *
  generalize w1.heap.size = P at *
  go_loopw [6] (fun i wr => ∃ (k : Nat) (c : List Int), k ≤ 255 ∧ i = .int .i64 ((k : Int) - 1) ∧ Rep c (pw x (bex (bs.drop k))) ∧ wr.heap[P]? = some (.cells (ia c) 32 (0, 0)) ∧ wr.heap[w.heap.size]? = some (.cells (ia a) 32 (0, 0)) ∧ wr.heap[w.heap.size + 1]? = some (.cells (bv bs) 58 (0, 0)) ∧ wr.heap[w.heap.size + 1 + 1]? = some (.cells (ia z16) 32 (0, 0)) ∧ P < wr.heap.size ∧ Below w.heap.size w wr) (fun i _ => (intOf i + 1).toNat)
  case atStart => exact ⟨255, s1, Nat.le_refl _, rfl, HR1.out, hX2, hA2, hT2, hO2, by omega, hB2⟩
  case round =>
    clear hX2 hA2 hT2 hO2 hB2 hsz HR1 hw1
    obtain ⟨k, c, hk, hi, hrep, hX, hA, hT, hO, hP, hB⟩ := hrel
    have hc16 : (ia c).size = 16 := by rw [ia_size, hrep.len]
    by_cases h0 : 0 < k
    · obtain ⟨j, rfl⟩ : ∃ j, k = j + 1 := ⟨k - 1, by omega⟩
      rw [show (((j + 1 : Nat) : Int) - 1) = (j : Int) by omega] at hi
      subst hi
      have hj : j < 255 := by omega
      have hdec : decide ((0 : Int) ≤ (j : Int)) = true := decide_eq_true (by omega)
      have b0 : (0 : Int) ≤ (j : Int) := by omega
      have b1 : (j : Int) < 255 := by omega
      have hdr := bex_drop bs j (by omega)
      have hbit := bv_get bs j (by omega)
      obtain ⟨b, hb⟩ : ∃ b, bs.getD j false = b := ⟨_, rfl⟩
      rw [hb] at hdr hbit
      have HD : Hid (pw x (bex (bs.drop j)) = if b then pw x (bex (bs.drop (j + 1))) * pw x (bex (bs.drop (j + 1))) % pp * x % pp else pw x (bex (bs.drop (j + 1))) * pw x (bex (bs.drop (j + 1))) % pp) := by
        show _ = _
        rw [hdr]
        cases b
        · exact pw_even _ _
        · exact pw_odd _ _
      obtain ⟨y, hy⟩ : ∃ y, pw x (bex (bs.drop (j + 1))) = y := ⟨_, rfl⟩
      have HRY : Hid (Rep c y) := by rw [← hy]; exact hrep
      have HDY : Hid (pw x (bex (bs.drop j)) = if b then y * y % pp * x % pp else y * y % pp) := by have := HD.out; rw [hy] at this; exact this
      have HM := hide (rmul_any c c y y HRY.out HRY.out)
      have HW := hide (And.intro hA (And.intro hT hO))
      clear hrep hdr hy HD hb hk h0 hA hT hO
      go_wp2_with (first | (refine wpList_load_row rfl 32 (.tmp 5) rfl P rfl 32 (ia c) (0,0) (.array 16 2) hX undN rfl (by rw [hc16]; exact sizeN) ?_) | fail)
      refine (HM.out _).mono ?_
      rintro e w2 ⟨d, rfl, hd, hb2⟩
      obtain ⟨hA, hT, hO⟩ := HW.out
      have hP2 : P < w2.heap.size := Nat.lt_of_lt_of_le hP hb2.size
      have hX2 := Below.heap hb2 hP hX
      have hA2 := Below.heap hb2 (by omega) hA
      have hT2 := Below.heap hb2 (by omega) hT
      have hO2 := Below.heap hb2 (by omega) hO
      have hB2 := hB.trans (hb2.mono (hB.size))
      have hA3 := (setRow_other w2 P w.heap.size (ia d) (by omega)).trans hA2
      have hT3 := (setRow_other w2 P (w.heap.size + 1) (ia d) (by omega)).trans hT2
      have hO3 := (setRow_other w2 P (w.heap.size + 1 + 1) (ia d) (by omega)).trans hO2
      have hX3 := setRow_heap _ _ _ (ia d) _ _ hX2
      have hB3 := Below.setRow hB2 P (ia d) (by omega)
      have hs3 : P < (w2.setRow P (ia d)).heap.size := by simpa using hP2
      have cb : (w2.setRow P (ia d)).cell? ⟨w.heap.size + 1, j, none⟩ = some (.bool b) := by rw [cell_of_row _ _ _ _ _ _ hT3, hbit]
      have hd16 : (ia d).size = 16 := by rw [ia_size, hd.len]
      have HRD := hide hd
      have HW3 := hide (And.intro hT3 (And.intro hO3 hB3))
      clear hA hT hO hX hA2 hT2 hO2 hB2 hB hb2 HW HM hT3 hO3 hB3 hd
      cases b
      · go_wp2_with (refine wpList_store_row rfl 32 (.tmp 5) (.tmp 14) rfl P (ia d) rfl rfl 32 (ia c) hX2 (by rw [hd16]; exact sizeN) (by rw [hd16, hc16]) (ia_one _) ?_)
        obtain ⟨hT3, hO3, hB3⟩ := HW3.out
        refine ⟨⟨j, d, by omega, rfl, by rw [HDY.out]; exact HRD.out, hX3, hA3, hT3, hO3, hs3, hB3⟩, by simp [intOf]⟩
      · have HM := hide (rmul_any d a (y * y % pp) x HRD.out HA.out)
        have ha16 : (ia a).size = 16 := by rw [ia_size, HA.out.len]
        go_wp2_with (first | (refine wpList_store_row rfl 32 (.tmp 5) (.tmp 14) rfl P (ia d) rfl rfl 32 (ia c) hX2 (by rw [hd16]; exact sizeN) (by rw [hd16, hc16]) (ia_one _) ?_) | (refine wpList_load_row rfl 32 (.tmp 5) rfl P rfl 32 (ia d) (0,0) (.array 16 2) hX3 undN rfl (by rw [hd16]; exact sizeN) ?_) | (refine wpList_load_row rfl 32 (.tmp 2) rfl w.heap.size rfl 32 (ia a) (0,0) (.array 16 2) hA3 undN rfl (by rw [ha16]; exact sizeN) ?_) | fail)
        refine (HM.out _).mono ?_
        rintro e w4 ⟨f, rfl, hf, hb4⟩
        obtain ⟨hT3, hO3, hB3⟩ := HW3.out
        have hX4 := Below.heap hb4 hs3 hX3
        have hA4 := Below.heap hb4 (by omega) hA3
        have hT4 := Below.heap hb4 (by omega) hT3
        have hO4 := Below.heap hb4 (by omega) hO3
        have hB4 := hB3.trans (hb4.mono (hB3.size))
        have hs4 : P < w4.heap.size := Nat.lt_of_lt_of_le hs3 hb4.size
        have hf16 : (ia f).size = 16 := by rw [ia_size, hf.len]
        clear hT3 hO3 hB3 hb4 hX3 hA3 hX2 HW3 cb
        go_wp2_with (refine wpList_store_row rfl 32 (.tmp 5) (.tmp 20) rfl P (ia f) rfl rfl 32 (ia d) hX4 (by rw [hf16]; exact sizeN) (by rw [hf16, hd16]) (ia_one _) ?_)
        refine ⟨⟨j, f, by omega, rfl, by rw [HDY.out]; exact hf, setRow_heap _ _ _ _ _ _ hX4, (setRow_other _ _ _ _ (by omega)).trans hA4, (setRow_other _ _ _ _ (by omega)).trans hT4, (setRow_other _ _ _ _ (by omega)).trans hO4, by simpa using hs4, Below.setRow hB4 _ _ (by omega)⟩, by simp [intOf]⟩
    · obtain rfl : k = 0 := by omega
      rw [show (((0 : Nat) : Int) - 1) = -1 by rfl] at hi
      subst hi
      rw [List.drop_zero] at hrep
      go_wp2_with (first | (refine wpList_load_row rfl 32 (.tmp 5) rfl P rfl 32 (ia c) (0,0) (.array 16 2) hX undN rfl (by rw [hc16]; exact sizeN) ?_) | (refine wpList_store_row rfl 32 (.tmp 4) (.tmp 21) rfl (w.heap.size + 1 + 1) (ia c) rfl rfl 32 (ia z16) hO (by rw [hc16]; exact sizeN) (by rw [hc16]; rfl) (ia_one _) ?_))
      exact bodyPost_ret_by (results_cell_row rfl _ _ (w.heap.size + 1 + 1) 32 (ia c) (0, 0) (.array 16 2) rfl (setRow_heap _ _ _ _ _ _ hO) undN rfl (by rw [hc16]; exact sizeN)) rfl ⟨_, rfl, hrep, Below.setRow hB _ _ (by omega)⟩
end Go.Proofs.YtbaionconnhdiaaDoor
