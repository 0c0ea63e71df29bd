/- The page's own product, as its call answers it, in any world. -/
import Derived.Test.YtbaionconnhdiaaDoorRefMulMath
import Derived.Test.YtbaionconnhdiaaDoorRefCarry
namespace Go.Proofs.YtbaionconnhdiaaDoor
open Go.RowKit
theorem und31 : Tryd.prog.underlying 56 = some (.array 31 2) := by kernel_rfl
theorem zero31 (w : World) : (zeroValue 56).run Tryd.prog w = .ok (.agg (ia z31)) w := by kernel_rfl
/-- What lies where while a product is made. -/
structure MulAt (w wr : World) (a b t : List Int) : Prop where
  a : wr.heap[w.heap.size]? = some (.cells (ia a) 32 (0, 0))
  b : wr.heap[w.heap.size + 1]? = some (.cells (ia b) 32 (0, 0))
  o : wr.heap[w.heap.size + 1 + 1]? = some (.cells (ia z16) 32 (0, 0))
  p : wr.heap[w.heap.size + 1 + 1 + 1]? = some (.cells (ia t) 56 (0, 0))
  size : wr.heap.size = w.heap.size + 1 + 1 + 1 + 1
  below : Below w.heap.size w wr
theorem MulAt.set {w wr : World} {a b t : List Int} (h : MulAt w wr a b t) (k : Nat) (n : Int) : MulAt w (wr.setCell ⟨w.heap.size + 1 + 1 + 1, k, none⟩ (.int .i64 n)) a b (t.set k n) where
  a := by rw [heap_setCell_other _ _ _ _ (by simp; omega)]; exact h.a
  b := by rw [heap_setCell_other _ _ _ _ (by simp)]; exact h.b
  o := by rw [heap_setCell_other _ _ _ _ (by simp)]; exact h.o
  p := by rw [heap_setCell_same _ _ _ _ _ _ h.p, ia_set]
  size := by simpa using h.size
  below := h.below.setCell (by simp; omega) _
theorem MulAt.drew {w wr : World} {a b t : List Int} (h : MulAt w wr a b t) : MulAt w wr.drew a b t :=
  ⟨h.a, h.b, h.o, h.p, h.size, h.below.drew⟩
theorem heap_alloc_last4' (w : World) (a b c d : Obj) : ((((w.alloc a).alloc b).alloc c).alloc d).heap[w.heap.size + 1 + 1 + 1]? = some d := by
  have h := heap_alloc_last (((w.alloc a).alloc b).alloc c) d
  simpa using h
set_option maxRecDepth 100000 in
set_option maxHeartbeats 4000000 in
theorem rmul_any (a b : List Int) (x y : Nat) (ha : Rep a x) (hb : Rep b y) (w : World) :
    Calls Tryd.prog 15 #[.agg (ia a), .agg (ia b)] w fun e w' => ∃ c, e = .returned (.agg (ia c)) ∧ Rep c (x * y % pp) ∧ Below w.heap.size w w' := by
  have hz := zeroN
  have hz2 := zero31
  have hin : ∀ j, -17592186044416 ≤ (mall a b 16).getD j 0 ∧ (mall a b 16).getD j 0 ≤ 17592186044416 := fun j => by
    have := mall_in a b ha.ok hb.ok 16 (Nat.le_refl _) j; omega
  have hvi : vi (ol (mall a b 16) 16) % 57896044618658097711785492504343953926634992332820282019728792003956564819949 = ((x * y % pp : Nat) : Int) := by
    rw [ol_val _ (mall_len a b 16), mall_val a b ha.len hb.len 16 (Nat.le_refl _), List.take_of_length_le (by rw [ha.len]; exact Nat.le_refl _)]
    have hm := mul_rep (vi a) (vi b) x y ha.val hb.val
    rw [← hm]
    generalize vi a * vi b = v
    generalize vi ((mall a b 16).drop 16) = u
    omega
  have hrep := rep_cy2 (ol_len (mall a b 16) 16) (ol_in _ hin) hvi
  have HC1 := hide (carry_any (ol (mall a b 16) 16) (ol_len _ _) (fun i => by have := ol_in _ hin i; omega))
  have HC2 := hide (carry_any (cy (ol (mall a b 16) 16)) (by rw [cy_len, ol_len]) hrep.2)
  have HREP := hide hrep.1
  have HIN := hide hin
  have HA := hide ha
  have HB := hide hb
  clear ha hb hin hvi hrep
  go_enter Tryd.func15, Tryd.ntmps15
  go_wp2
  clear hz2
  go_loopw [10] (fun i wr => ∃ m : Nat, m ≤ 16 ∧ i = .int .i64 m ∧ MulAt w wr a b (mall a b m)) (fun i _ => 16 - (intOf i).toNat)
  case atStart =>
    refine ⟨0, by omega, rfl, ⟨?_, ?_, ?_, heap_alloc_last4' _ _ _ _ _, by simp, (below3 _ _ _ _).alloc (by simp; omega) _⟩⟩
    · rw [Below.heap_alloc _ _ _ (by simp; omega)]; exact heap3_0 _ _ _ _
    · rw [Below.heap_alloc _ _ _ (by simp)]; exact heap_alloc_mid3 _ _ _ _
    · rw [Below.heap_alloc _ _ _ (by simp)]; exact heap_alloc_last3 _ _ _ _
  case round =>
    obtain ⟨m, hm, rfl, hat⟩ := hrel
    by_cases hlt : m < 16
    · have hd : decide ((m : Int) < 16) = true := decide_eq_true (by omega)
      obtain ⟨p, hp⟩ : ∃ p, a.getD m 0 = p := ⟨_, rfl⟩
      have HM1 : Hid (mall a b (m + 1) = mrow p b m (mall a b m) 16) := by show _ = _; rw [mall, hp]
      have HP := hide hp
      clear hp
      go_wp2
      clear hd
      go_loopw [13] (fun j wr => ∃ k : Nat, k ≤ 16 ∧ j = .int .i64 k ∧ MulAt w wr a b (mrow p b m (mall a b m) k)) (fun j _ => 16 - (intOf j).toNat)
      case atStart => exact ⟨0, by omega, rfl, hat⟩
      case round =>
        clear hat
        obtain ⟨k, hk, rfl, hat⟩ := hrel
        by_cases hlt2 : k < 16
        · obtain ⟨T, hT⟩ : ∃ T, mrow p b m (mall a b m) k = T := ⟨_, rfl⟩
          have hTl : T.length = 31 := by rw [← hT, mrow_len, mall_len]
          have hz3 := mrow_in a b HA.out.ok HB.out.ok m (by omega) k hk (m + k)
          rw [HP.out] at hz3
          have HN : Hid (mrow p b m (mall a b m) (k + 1) = T.set (m + k) (T.getD (m + k) 0 + p * b.getD k 0)) := by
            show _ = _
            rw [mrow, hT]
          rw [hT] at hat hz3
          have ca := cell_of_row _ _ m _ _ _ hat.a
          rw [ia_get _ _ (by rw [HA.out.len]; omega), HP.out] at ca
          have cb := cell_of_row _ _ k _ _ _ hat.b
          rw [ia_get _ _ (by rw [HB.out.len]; omega)] at cb
          have cp := cell_of_row _ _ (m + k) _ _ _ hat.p
          rw [ia_get _ _ (by omega)] at cp
          have hfro : wr.frozen? ⟨w.heap.size + 1 + 1 + 1, m + k, none⟩ = false := frozen_of_row _ _ _ _ _ hat.p
          have hpr := prod_bound _ _ (HA.out.ok m) (HB.out.ok k)
          rw [HP.out] at hpr
          have HAT := hide hat
          clear hat hT
          generalize b.getD k 0 = q at *
          generalize T.getD (m + k) 0 = z at *
          obtain ⟨pq, hpq⟩ : ∃ pq, p * q = pq := ⟨_, rfl⟩
          rw [hpq] at hpr
          rw [hpq] at HN
          have hpw : IntKind.i64.wrap (p * q) = pq := by rw [hpq, IntKind.wrap_i64]; omega
          generalize hn : m + k = n at *
          have hn1 : (m : Int) + (k : Int) = (n : Int) := by omega
          have hn2 : (n : Int) < 31 := by omega
          have hn3 : (0 : Int) ≤ (n : Int) := by omega
          have hn4 : IntKind.i64.wrap (n : Int) = (n : Int) := by rw [IntKind.wrap_i64]; omega
          have b0 : (0 : Int) ≤ (k : Int) := by omega
          have b1 : (k : Int) < 16 := by omega
          have b2 : (0 : Int) ≤ (m : Int) := by omega
          have b3 : (m : Int) < 16 := by omega
          clear hn
          go_wp2
          go_region
          clear hn1 hn2 hn3 hn4 ca cb cp hpw
          go_wp2
          go_roundw
          case rel =>
            refine ⟨k + 1, by omega, by go_num, ?_⟩
            rw [HN.out]
            exact (HAT.out.set n (z + pq)).drew
          case measure => simp [intOf]; omega
        · have hk16 : k = 16 := by omega
          rw [hk16] at hat
          have dk : decide ((k : Int) < 16) = false := decide_eq_false (by omega)
          have HAT := hide hat
          clear hat hk16 hlt2 hk
          go_wp2
          go_roundw
          case rel =>
            refine ⟨m + 1, by omega, by go_num, ?_⟩
            rw [HM1.out]
            exact HAT.out
          case measure => simp [intOf]; omega
    · have hm16 : m = 16 := by omega
      rw [hm16] at hat
      have dm : decide ((m : Int) < 16) = false := decide_eq_false (by omega)
      have HAT := hide hat
      have hs := hat.size
      clear hat hm16 hlt hm
      go_wp2
      clear hz dm
      obtain ⟨t, ht⟩ : ∃ t, mall a b 16 = t := ⟨_, rfl⟩
      have htl : t.length = 31 := by rw [← ht, mall_len]
      rw [ht] at HC1 HC2 HREP HAT HIN
      go_loopw [32] (fun i wr' => ∃ k : Nat, k ≤ 16 ∧ i = .int .i64 k ∧ wr'.heap[w.heap.size + 1 + 1 + 1 + 1]? = some (.cells (ia (ol t k)) 32 (0, 0)) ∧ wr'.heap[w.heap.size + 1 + 1 + 1]? = some (.cells (ia t) 56 (0, 0)) ∧ wr'.heap[w.heap.size + 1 + 1]? = some (.cells (ia z16) 32 (0, 0)) ∧ wr'.heap.size = w.heap.size + 1 + 1 + 1 + 1 + 1 ∧ Below w.heap.size w wr') (fun i _ => 16 - (intOf i).toNat)
      case atStart =>
        refine ⟨0, by omega, rfl, ?_, ?_, ?_, by simp [hs], HAT.out.below.alloc (by omega) _⟩
        · rw [← hs]; exact heap_alloc_last _ _
        · rw [Below.heap_alloc _ _ _ (by omega)]; exact HAT.out.p
        · rw [Below.heap_alloc _ _ _ (by omega)]; exact HAT.out.o
      case round =>
        clear HAT hs
        obtain ⟨k, hk, rfl, hO, hT, hZ, hS, hB⟩ := hrel
        by_cases hlt : k < 16
        · have ck := cell_of_row _ _ k _ _ _ hT
          rw [ia_get _ _ (by omega)] at ck
          have co := cell_of_row _ _ k _ _ _ hO
          rw [ia_get _ _ (by rw [ol_len]; omega)] at co
          have hfro : ∀ i, wr.frozen? ⟨w.heap.size + 1 + 1 + 1 + 1, i, none⟩ = false := fun i => frozen_of_row _ _ _ _ _ hO
          have hx := HIN.out k
          have HO := hide hO
          have HT := hide hT
          have HZ := hide hZ
          have b0 : (0 : Int) ≤ (k : Int) := by omega
          have b1 : (k : Int) < 16 := by omega
          have b4 : (k : Int) < 31 := by omega
          by_cases h15 : k < 15
          · have ck2 := cell_of_row _ _ (k + 16) _ _ _ hT
            rw [ia_get _ _ (by omega)] at ck2
            have hy := HIN.out (k + 16)
            have HN : Hid (ol t (k + 1) = (ol t k).set k (t.getD k 0 + 38 * t.getD (k + 16) 0)) := by show _ = _; rw [ol, if_pos h15]
            clear hO hT hZ
            generalize t.getD k 0 = u at *
            generalize t.getD (k + 16) 0 = v at *
            generalize (ol t k).getD k 0 = o at *
            have d15 : decide ((k : Int) < 15) = true := decide_eq_true (by omega)
            have b2 : (k : Int) + 16 < 31 := by omega
            have b3 : (0 : Int) ≤ (k : Int) + 16 := by omega
            go_wp2
            go_region
            go_wp2
            go_roundw
            case rel =>
              refine ⟨k + 1, by omega, by go_num, ?_, ?_, ?_, ?_, ?_⟩
              · rw [heap_drew, heap_setCell_same _ _ _ _ _ _ (heap_setCell_same _ _ _ _ _ _ HO.out), ia_set, ia_set, List.set_set, HN.out]
              · rw [heap_drew, heap_setCell_other _ _ _ _ (by simp), heap_setCell_other _ _ _ _ (by simp)]; exact HT.out
              · rw [heap_drew, heap_setCell_other _ _ _ _ (by simp), heap_setCell_other _ _ _ _ (by simp)]; exact HZ.out
              · simpa [heap_drew] using hS
              · exact ((hB.setCell (by simp; omega) _).setCell (by simp; omega) _).drew
            case measure => simp [intOf]; omega
          · have HN : Hid (ol t (k + 1) = (ol t k).set k (t.getD k 0)) := by show _ = _; rw [ol, if_neg h15]
            clear hO hT hZ
            generalize t.getD k 0 = u at *
            generalize (ol t k).getD k 0 = o at *
            have d15 : decide ((k : Int) < 15) = false := decide_eq_false (by omega)
            go_wp2
            refine ⟨⟨k + 1, by omega, by go_num, ?_, ?_, ?_, ?_, ?_⟩, by simp [intOf]; omega⟩
            · rw [heap_setCell_same _ _ _ _ _ _ HO.out, ia_set, HN.out]
            · rw [heap_setCell_other _ _ _ _ (by simp)]; exact HT.out
            · rw [heap_setCell_other _ _ _ _ (by simp)]; exact HZ.out
            · simpa using hS
            · exact hB.setCell (by simp; omega) _
        · have hk16 : k = 16 := by omega
          rw [hk16] at hO
          have hw : (ia (ol t 16)).size = 16 := by rw [ia_size, ol_len]
          have dk : decide ((k : Int) < 16) = false := decide_eq_false (by omega)
          clear hk16 hlt hk
          go_wp2_with (first | (refine wpList_load_row rfl 32 (.tmp 8) rfl (w.heap.size + 1 + 1 + 1 + 1) rfl 32 (ia (ol t 16)) (0,0) (.array 16 2) hO undN rfl (by rw [hw]; exact sizeN) ?_) | fail)
          refine (HC1.out _).mono ?_
          rintro e w5 ⟨rfl, b5⟩
          go_wp2_with fail
          refine (HC2.out _).mono ?_
          rintro e w6 ⟨rfl, b6⟩
          have hZ6 := Below.heap (Below.chain b5 b6) (by omega) hZ
          have hw6 : (ia (cy (cy (ol t 16)))).size = 16 := by rw [ia_size, HREP.out.len]
          have HB6 := hide (hB.trans ((Below.chain b5 b6).mono (by omega)))
          clear b5 b6 hO hT hZ
          go_wp2_with (refine wpList_store_row rfl 32 (.tmp 4) (.tmp 55) rfl (w.heap.size + 1 + 1) (ia (cy (cy (ol t 16)))) rfl rfl 32 (ia z16) hZ6 (by rw [hw6]; exact sizeN) (by rw [hw6]; rfl) (ia_one _) ?_)
          exact bodyPost_ret_by (results_cell_row rfl _ _ (w.heap.size + 1 + 1) 32 (ia (cy (cy (ol t 16)))) (0, 0) (.array 16 2) rfl (setRow_heap _ _ _ _ _ _ hZ6) undN rfl (by rw [hw6]; exact sizeN)) rfl ⟨_, rfl, HREP.out, Below.setRow HB6.out _ _ (by omega)⟩
end Go.Proofs.YtbaionconnhdiaaDoor
