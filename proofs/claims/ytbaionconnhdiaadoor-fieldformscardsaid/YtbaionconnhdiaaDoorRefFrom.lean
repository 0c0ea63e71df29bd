/- The page's own number of some bytes, as its call answers it, in any world that holds the bytes. -/
import Derived.Test.YtbaionconnhdiaaDoorRefCarry
import Derived.Test.YtbaionconnhdiaaDoorFrom
namespace Go.Proofs.YtbaionconnhdiaaDoor
open Go.RowKit
/-- Rows that hold the first k bytes. -/
structure Fl (l : List Int) (bs : List Nat) (k : Nat) : Prop where
  len : l.length = 16
  ok : ∀ j, 0 ≤ l.getD j 0 ∧ l.getD j 0 ≤ 65535
  nil : ∀ j, k ≤ 2 * j → l.getD j 0 = 0
  low : ∀ j, k ≤ 2 * j + 1 → l.getD j 0 ≤ 255
  val : vi l = ((bval (bs.take k) : Nat) : Int)
theorem z16_get (j : Nat) : z16.getD j 0 = 0 := by
  rw [show z16 = List.replicate 16 0 from rfl, List.getD_eq_getElem?_getD, List.getElem?_replicate]
  split <;> rfl
theorem Fl.start (bs : List Nat) : Fl z16 bs 0 :=
  ⟨rfl, fun j => by rw [z16_get]; decide, fun j _ => z16_get j, fun j _ => by rw [z16_get]; decide, by simp [bval]; decide⟩
theorem Fl.step {l : List Int} {bs : List Nat} {k : Nat} (h : Fl l bs k) (hk : k < bs.length) (hk2 : k < 32) (hb : bs.getD k 0 < 256) (y : Int) (hy : y = l.getD (k / 2) 0 + ((bs.getD k 0 : Nat) : Int) * 256 ^ (k % 2)) : Fl (l.set (k / 2) y) bs (k + 1) := by
  have hv := vi_set l (k / 2) y (by rw [h.len]; omega)
  have h1 := h.ok (k / 2)
  have hyb : 0 ≤ y ∧ y ≤ 65535 ∧ (k % 2 = 0 → y ≤ 255) := by
    by_cases he : k % 2 = 0
    · have h2 := h.nil (k / 2) (by omega)
      rw [he] at hy; omega
    · have h2 := h.low (k / 2) (by omega)
      rw [show k % 2 = 1 by omega] at hy; omega
  refine ⟨by rw [List.length_set, h.len], fun j => ?_, fun j hj => ?_, fun j hj => ?_, ?_⟩
  · by_cases e : k / 2 = j
    · subst e; rw [gset_same _ _ _ (by rw [h.len]; omega)]; omega
    · rw [gset_ne _ _ _ _ e]; exact h.ok j
  · rw [gset_ne _ _ _ _ (by omega)]; exact h.nil j (by omega)
  · by_cases e : k / 2 = j
    · subst e; rw [gset_same _ _ _ (by rw [h.len]; omega)]; exact hyb.2.2 (by omega)
    · rw [gset_ne _ _ _ _ e]; exact h.low j (by omega)
  · rw [hv, bval_take bs k hk, h.val, hy]
    have e1 : (65536 : Int) ^ (k / 2) * 256 ^ (k % 2) = 256 ^ k := by
      rw [show (65536 : Int) = 256 ^ 2 from rfl, ← Int.pow_mul, ← Int.pow_add]; congr 1; omega
    generalize bs.getD k 0 = b
    rw [show l.getD (k / 2) 0 + (b : Int) * 256 ^ (k % 2) - l.getD (k / 2) 0 = 256 ^ (k % 2) * (b : Int) by rw [Int.mul_comm]; omega, ← Int.mul_assoc, e1]
    simp
theorem Fl.rep {l : List Int} {bs : List Nat} (h : Fl l bs 32) : Rep l (bval (bs.take 32) % pp) :=
  ⟨h.len, fun i => by have := h.ok i; omega, by rw [h.val]; unfold pp; omega⟩
set_option maxRecDepth 100000 in
set_option maxHeartbeats 1000000 in
theorem rfrom_any (v : Value) (bs : List Nat) (hlen : bs.length ≤ 100) (w : World) (hbs : BsAt w v bs) :
    Calls Tryd.prog 8 #[v] w fun e w' => ∃ c, e = .returned (.agg (ia c)) ∧ Rep c (bval (bs.take 32) % pp) ∧ Below w.heap.size w w' := by
  have hz := zeroN
  obtain ⟨b, o, c, ao, rfl, hc, hm, hl, hh⟩ := hbs
  obtain ⟨n, hn⟩ : ∃ n, min bs.length 32 = n := ⟨_, rfl⟩
  have hmin : min (bs.length : Int) 32 = (n : Int) := by omega
  have hn1 : n ≤ bs.length := by omega
  have hn2 : n ≤ 32 := by omega
  have i1 : (0 : Int) ≤ (n : Int) := by omega
  have i2 : (n : Int) ≤ (c : Int) := by omega
  unfold maxLen at hm
  by_cases h32 : bs.length ≤ 32
  · have hn3 : bs.length = n := by omega
    go_enter Tryd.func8, Tryd.ntmps8
    go_wp2
    clear hz
    go_loopw [8] (fun i wr => ∃ (k : Nat) (l : List Int), k ≤ n ∧ i = .int .i64 k ∧ Fl l bs k ∧ wr.heap[w.heap.size]? = some (.cells (ia z16) 32 (0, 0)) ∧ wr.heap[w.heap.size + 1]? = some (.cells (ia l) 32 (0, 0)) ∧ wr.heap.size = w.heap.size + 1 + 1 ∧ Below w.heap.size w wr) (fun i _ => n - (intOf i).toNat)
    case atStart => exact ⟨0, z16, by omega, rfl, Fl.start bs, heap2_0 _ _ _, heap2_1 _ _ _, by simp, below2 _ _ _⟩
    case round =>
      obtain ⟨k, l, hk, rfl, hF, hA, hO, hS, hB⟩ := hrel
      by_cases hlt : k < n
      · obtain ⟨rfl, hb, hcells⟩ := hh (fun e => by rw [e] at hn; simp at hn; omega)
        have hcb := (Below.cell (p := ⟨b, o + k, none⟩) hB hb).trans (hcells k (by omega))
        have hcw := cell_of_row _ _ (k / 2) _ _ _ hO
        rw [ia_get _ _ (by rw [hF.len]; omega)] at hcw
        have hfro : wr.frozen? ⟨w.heap.size + 1, k / 2, none⟩ = false := frozen_of_row _ _ _ _ _ hO
        have hx := hl k
        have hy := hF.ok (k / 2)
        have hyn := hF.nil (k / 2)
        have hyl := hF.low (k / 2)
        have HA := hide hA
        have HO := hide hO
        have HF := hide hF
        have HC := hide (And.intro hl (And.intro hcells hb))
        clear hA hO hF hh hl hcells
        obtain ⟨x, hgx⟩ : ∃ x, bs.getD k 0 = x := ⟨_, rfl⟩
        obtain ⟨y, hgy⟩ : ∃ y, l.getD (k / 2) 0 = y := ⟨_, rfl⟩
        rw [hgx] at hcb hx
        rw [hgy] at hcw hy hyn hyl
        have hy2 : y ≤ 255 := hyl (by omega)
        have hy0 : k % 2 = 0 → y = 0 := fun h => hyn (by omega)
        have b0 : (0 : Int) ≤ (k : Int) := by omega
        have b1 : (k : Int) < (bs.length : Int) := by omega
        have b2 : (0 : Int) ≤ (k : Int) / 2 := by omega
        have b3 : (k : Int) / 2 < 16 := by omega
        clear hyn hyl
        rcases Nat.mod_two_eq_zero_or_one k with hpar | hpar
        · have hm2 : (k : Int) % 2 = 0 := by omega
          have hb9 : (0 : Int) ≤ (x : Int) ∧ (x : Int) ≤ 65535 := by omega
          have HE : Hid ((x : Int) = l.getD (k / 2) 0 + ((bs.getD k 0 : Nat) : Int) * 256 ^ (k % 2)) := by
            show _ = _
            rw [hgy, hgx, show k % 2 = 0 by omega]; first | omega | (simp; omega)
          clear hgx hgy
          go_wp2
          go_region
          go_wp2
          go_roundw
          case rel =>
            refine ⟨k + 1, l.set (k / 2) ((x : Int)), by omega, by go_num, HF.out.step (by omega) (by omega) (HC.out.1 k) _ HE.out, ?_, ?_, ?_, ?_⟩
            · rw [heap_drew, heap_setCell_other _ _ _ _ (by simp)]; exact HA.out
            · rw [heap_drew, heap_setCell_same _ _ _ _ _ _ HO.out, ia_set]
            · simpa [heap_drew] using hS
            · exact (hB.setCell (by simp) _).drew
          case measure => simp [intOf]; omega
        · have hm2 : (k : Int) % 2 = 1 := by omega
          have hb9 : (0 : Int) ≤ y + (x : Int) * 256 ∧ y + (x : Int) * 256 ≤ 65535 := by omega
          have HE : Hid (y + (x : Int) * 256 = l.getD (k / 2) 0 + ((bs.getD k 0 : Nat) : Int) * 256 ^ (k % 2)) := by
            show _ = _
            rw [hgy, hgx, show k % 2 = 1 by omega]; first | omega | (simp; omega)
          clear hgx hgy
          go_wp2
          go_region
          go_wp2
          go_roundw
          case rel =>
            refine ⟨k + 1, l.set (k / 2) (y + (x : Int) * 256), by omega, by go_num, HF.out.step (by omega) (by omega) (HC.out.1 k) _ HE.out, ?_, ?_, ?_, ?_⟩
            · rw [heap_drew, heap_setCell_other _ _ _ _ (by simp)]; exact HA.out
            · rw [heap_drew, heap_setCell_same _ _ _ _ _ _ HO.out, ia_set]
            · simpa [heap_drew] using hS
            · exact (hB.setCell (by simp) _).drew
          case measure => simp [intOf]; omega
      · have hF32 : Fl l bs 32 := by
          have hkn : bs.take k = bs.take 32 := by
            by_cases h : bs.length ≤ 32
            · rw [List.take_of_length_le (by omega), List.take_of_length_le h]
            · rw [show k = 32 by omega]
          exact ⟨hF.len, hF.ok, fun j hj => hF.nil j (by omega), fun j hj => hF.low j (by omega), by rw [← hkn]; exact hF.val⟩
        have HR := hide hF32.rep
        have hw : (ia l).size = 16 := by rw [ia_size, hF.len]
        clear hF hF32 hh hl
        go_wp2_with (first | (refine wpList_load_row rfl 32 (.tmp 3) rfl (w.heap.size + 1) rfl 32 (ia l) (0,0) (.array 16 2) hO undN rfl (by rw [hw]; exact sizeN) ?_) | (refine wpList_store_row rfl 32 (.tmp 2) (.tmp 28) rfl w.heap.size (ia l) rfl rfl 32 (ia z16) hA (by rw [hw]; exact sizeN) (by rw [hw]; rfl) (ia_one _) ?_))
        exact bodyPost_ret_by (results_cell_row rfl _ _ w.heap.size 32 (ia l) (0, 0) (.array 16 2) rfl (setRow_heap _ _ _ _ _ _ hA) undN rfl (by rw [hw]; exact sizeN)) rfl ⟨_, rfl, HR.out, Below.setRow hB _ _ (Nat.le_refl _)⟩
  · have hn3 : n = 32 := by omega
    go_enter Tryd.func8, Tryd.ntmps8
    go_wp2
    clear hz
    go_loopw [8] (fun i wr => ∃ (k : Nat) (l : List Int), k ≤ n ∧ i = .int .i64 k ∧ Fl l bs k ∧ wr.heap[w.heap.size]? = some (.cells (ia z16) 32 (0, 0)) ∧ wr.heap[w.heap.size + 1]? = some (.cells (ia l) 32 (0, 0)) ∧ wr.heap.size = w.heap.size + 1 + 1 ∧ Below w.heap.size w wr) (fun i _ => n - (intOf i).toNat)
    case atStart => exact ⟨0, z16, by omega, rfl, Fl.start bs, heap2_0 _ _ _, heap2_1 _ _ _, by simp, below2 _ _ _⟩
    case round =>
      obtain ⟨k, l, hk, rfl, hF, hA, hO, hS, hB⟩ := hrel
      by_cases hlt : k < n
      · obtain ⟨rfl, hb, hcells⟩ := hh (fun e => by rw [e] at hn; simp at hn; omega)
        have hcb := (Below.cell (p := ⟨b, o + k, none⟩) hB hb).trans (hcells k (by omega))
        have hcw := cell_of_row _ _ (k / 2) _ _ _ hO
        rw [ia_get _ _ (by rw [hF.len]; omega)] at hcw
        have hfro : wr.frozen? ⟨w.heap.size + 1, k / 2, none⟩ = false := frozen_of_row _ _ _ _ _ hO
        have hx := hl k
        have hy := hF.ok (k / 2)
        have hyn := hF.nil (k / 2)
        have hyl := hF.low (k / 2)
        have HA := hide hA
        have HO := hide hO
        have HF := hide hF
        have HC := hide (And.intro hl (And.intro hcells hb))
        clear hA hO hF hh hl hcells
        obtain ⟨x, hgx⟩ : ∃ x, bs.getD k 0 = x := ⟨_, rfl⟩
        obtain ⟨y, hgy⟩ : ∃ y, l.getD (k / 2) 0 = y := ⟨_, rfl⟩
        rw [hgx] at hcb hx
        rw [hgy] at hcw hy hyn hyl
        have hy2 : y ≤ 255 := hyl (by omega)
        have hy0 : k % 2 = 0 → y = 0 := fun h => hyn (by omega)
        have b0 : (0 : Int) ≤ (k : Int) := by omega
        have b1 : (k : Int) < (32 : Int) := by omega
        have b2 : (0 : Int) ≤ (k : Int) / 2 := by omega
        have b3 : (k : Int) / 2 < 16 := by omega
        clear hyn hyl
        rcases Nat.mod_two_eq_zero_or_one k with hpar | hpar
        · have hm2 : (k : Int) % 2 = 0 := by omega
          have hb9 : (0 : Int) ≤ (x : Int) ∧ (x : Int) ≤ 65535 := by omega
          have HE : Hid ((x : Int) = l.getD (k / 2) 0 + ((bs.getD k 0 : Nat) : Int) * 256 ^ (k % 2)) := by
            show _ = _
            rw [hgy, hgx, show k % 2 = 0 by omega]; first | omega | (simp; omega)
          clear hgx hgy
          go_wp2
          go_region
          go_wp2
          go_roundw
          case rel =>
            refine ⟨k + 1, l.set (k / 2) ((x : Int)), by omega, by go_num, HF.out.step (by omega) (by omega) (HC.out.1 k) _ HE.out, ?_, ?_, ?_, ?_⟩
            · rw [heap_drew, heap_setCell_other _ _ _ _ (by simp)]; exact HA.out
            · rw [heap_drew, heap_setCell_same _ _ _ _ _ _ HO.out, ia_set]
            · simpa [heap_drew] using hS
            · exact (hB.setCell (by simp) _).drew
          case measure => simp [intOf]; omega
        · have hm2 : (k : Int) % 2 = 1 := by omega
          have hb9 : (0 : Int) ≤ y + (x : Int) * 256 ∧ y + (x : Int) * 256 ≤ 65535 := by omega
          have HE : Hid (y + (x : Int) * 256 = l.getD (k / 2) 0 + ((bs.getD k 0 : Nat) : Int) * 256 ^ (k % 2)) := by
            show _ = _
            rw [hgy, hgx, show k % 2 = 1 by omega]; first | omega | (simp; omega)
          clear hgx hgy
          go_wp2
          go_region
          go_wp2
          go_roundw
          case rel =>
            refine ⟨k + 1, l.set (k / 2) (y + (x : Int) * 256), by omega, by go_num, HF.out.step (by omega) (by omega) (HC.out.1 k) _ HE.out, ?_, ?_, ?_, ?_⟩
            · rw [heap_drew, heap_setCell_other _ _ _ _ (by simp)]; exact HA.out
            · rw [heap_drew, heap_setCell_same _ _ _ _ _ _ HO.out, ia_set]
            · simpa [heap_drew] using hS
            · exact (hB.setCell (by simp) _).drew
          case measure => simp [intOf]; omega
      · have hF32 : Fl l bs 32 := by
          have hkn : bs.take k = bs.take 32 := by
            by_cases h : bs.length ≤ 32
            · rw [List.take_of_length_le (by omega), List.take_of_length_le h]
            · rw [show k = 32 by omega]
          exact ⟨hF.len, hF.ok, fun j hj => hF.nil j (by omega), fun j hj => hF.low j (by omega), by rw [← hkn]; exact hF.val⟩
        have HR := hide hF32.rep
        have hw : (ia l).size = 16 := by rw [ia_size, hF.len]
        clear hF hF32 hh hl
        go_wp2_with (first | (refine wpList_load_row rfl 32 (.tmp 3) rfl (w.heap.size + 1) rfl 32 (ia l) (0,0) (.array 16 2) hO undN rfl (by rw [hw]; exact sizeN) ?_) | (refine wpList_store_row rfl 32 (.tmp 2) (.tmp 28) rfl w.heap.size (ia l) rfl rfl 32 (ia z16) hA (by rw [hw]; exact sizeN) (by rw [hw]; rfl) (ia_one _) ?_))
        exact bodyPost_ret_by (results_cell_row rfl _ _ w.heap.size 32 (ia l) (0, 0) (.array 16 2) rfl (setRow_heap _ _ _ _ _ _ hA) undN rfl (by rw [hw]; exact sizeN)) rfl ⟨_, rfl, HR.out, Below.setRow hB _ _ (Nat.le_refl _)⟩
end Go.Proofs.YtbaionconnhdiaaDoor
