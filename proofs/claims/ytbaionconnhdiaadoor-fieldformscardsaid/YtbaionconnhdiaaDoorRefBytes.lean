/- The page's own bytes of a number, as its call answers them, in any world. -/
import Derived.Test.YtbaionconnhdiaaDoorRefByteMath
import Derived.Test.YtbaionconnhdiaaDoorRefCarry
import Derived.Test.YtbaionconnhdiaaDoorBytes
import Derived.Deep.AppendLies
namespace Go.Proofs.YtbaionconnhdiaaDoor
open Go.RowKit
theorem limb_bytes (t : List Int) (ht : Norm t) (x : Nat) (hv : vi t = (x : Int)) (k : Nat) : IntKind.u8.wrap (t.getD k 0) = ((byt x (2 * k) : Nat) : Int) ∧ IntKind.u8.wrap (t.getD k 0 / 256) = ((byt x (2 * k + 1) : Nat) : Int) := by
  have h := limb t ht.2 k
  rw [hv, show ((x : Int) / 65536 ^ k % 65536) = ((x / 65536 ^ k % 65536 : Nat) : Int) from by simp] at h
  have e1 : (256 : Nat) ^ (2 * k) = 65536 ^ k := by rw [Nat.pow_mul]
  unfold byt
  rw [Nat.pow_succ, e1, ← Nat.div_div_eq_div_mul]
  generalize x / 65536 ^ k = y at *
  rw [h, IntKind.wrap_u8', IntKind.wrap_u8']
  omega
/-- An element of an array that is a value. -/
theorem run_index_arr {P : Program} {t e : TypeId} {len : Nat} {d : TypeDesc} (hu : P.underlying t = some (.array len e)) (he : P.underlying e = some d) (hd : d.isRow = false) (hs : (P.info? e).map (·.size) = some 1)
    (cs : Array Value) (i : Nat) (hi : i < len) (v : Value) (hv : cs[i]? = some v) (w : World) : (Instr.index t (.agg cs) (.int .i64 (i : Int))).run P w = .ok v w := by
  cases hq : P.info? e with
  | none => simp [hq] at hs
  | some ie =>
    have h1 : ie.size = 1 := by simpa [hq] using hs
    have hagg : (isAgg e).run P w = .ok false w := by
      unfold isAgg
      rw [Sem.run_bind, run_underlying he w]
      cases d <;> simp_all
    have h2 : ¬ len ≤ i := by omega
    simp [Instr.index, asIntOf, run_underlying hu, part, hagg, sizeOf, typeInfo, hq, h1, hv, h2]
theorem size2 : (Tryd.prog.info? 2).map (·.size) = some 1 := by kernel_rfl
theorem info5 : (Tryd.prog.info? 5).map (fun i => (i.zero, i.size, i.bytes)) = some (some (.int .u8 0), 1, 1) := by kernel_rfl
theorem info_five : ∃ i, Tryd.prog.info? 5 = some i ∧ i.zero = some (.int .u8 0) ∧ i.size = 1 ∧ i.bytes = 1 := by
  cases h : Tryd.prog.info? 5 with
  | none => have := info5; rw [h] at this; cases this
  | some i =>
    have h2 := info5
    rw [h] at h2
    simp only [Option.map_some, Option.some.injEq, Prod.mk.injEq] at h2
    exact ⟨i, rfl, h2.1, h2.2.1, h2.2.2⟩
/-- The bytes so far, as the model has them. -/
def bvs (x k : Nat) : List Value := (List.range (2 * k)).map fun i => Value.int .u8 ((byt x i : Nat) : Int)
theorem bvs_len (x k : Nat) : (bvs x k).length = 2 * k := by simp [bvs]
theorem bvs_succ (x k : Nat) : bvs x (k + 1) = bvs x k ++ [.int .u8 ((byt x (2 * k) : Nat) : Int), .int .u8 ((byt x (2 * k + 1) : Nat) : Int)] := by
  unfold bvs
  rw [show 2 * (k + 1) = 2 * k + 1 + 1 by omega, List.range_succ, List.range_succ]
  simp
theorem Below.own {B : Nat} {w wa w' : World} {row : Option Nat} (h : Below B w wa) (g : wa.grownBy w' row) (hr : ∀ b, row = some b → B ≤ b) (hB : B ≤ wa.heap.size) : Below B w w' :=
  h.trans ⟨g.os, g.tape, g.output, g.size, fun k hk => g.block k (by omega) (by intro e; have := hr k (by first | exact e | exact e.symm); omega)⟩
set_option maxRecDepth 100000 in
set_option maxHeartbeats 2000000 in
theorem rbytes_any (l : List Int) (x : Nat) (h : Rep l x) (w : World) :
    Calls Tryd.prog 28 #[.agg (ia l)] w fun e w' => ∃ g cap, e = .returned (.slice (some ⟨g, 0, none⟩) 32 cap) ∧ g < w'.heap.size ∧ 32 ≤ cap ∧ cap ≤ maxLen ∧ (∀ i, i < 32 → w'.cell? ⟨g, i, none⟩ = some (.int .u8 ((byt x i : Nat) : Int))) ∧ Below w.heap.size w w' := by
  have hz := zeroN
  obtain ⟨hn, hv, hb0, hb1, hb2⟩ := norm_cy3 h
  have hl := h.len
  have HC1 := hide (carry_any l hl hb0)
  have HC2 := hide (carry_any (cy l) (by rw [cy_len, hl]) hb1)
  have HC3 := hide (carry_any (cy (cy l)) (by rw [cy_len, cy_len, hl]) hb2)
  have htr := tr_all _ hn x hv
  have hlen3 : (cy (cy (cy l))).length = 16 := hn.1
  generalize cy (cy (cy l)) = t at *
  have HTR := hide htr
  have hw0 : (ia l).size = 16 := by rw [ia_size, hl]
  have hwt : (ia t).size = 16 := by rw [ia_size, hlen3]
  clear hn hv hb0 hb1 hb2 hl h htr hlen3
  go_enter Tryd.func28, Tryd.ntmps28
  have hrow0 := heap_alloc_last w (.cells (ia l) 32)
  go_wp2_with (first | (refine wpList_load_row rfl 32 (.tmp 1) rfl w.heap.size rfl 32 (ia l) (0,0) (.array 16 2) hrow0 undN rfl (by rw [hw0]; exact sizeN) ?_) | fail)
  refine (HC1.out _).mono ?_
  rintro e w1 ⟨rfl, b1⟩
  go_wp2_with fail
  refine (HC2.out _).mono ?_
  rintro e w2 ⟨rfl, b2⟩
  go_wp2_with fail
  refine (HC3.out _).mono ?_
  rintro e w3 ⟨rfl, b3⟩
  have HB3 := hide (Below.chain (Below.chain (Below.chain ((Below.refl w.heap.size w).alloc (Nat.le_refl _) (.cells (ia l) 32)) b1) b2) b3)
  clear b1 b2 b3 hrow0 HC1 HC2 HC3
  go_wp2_with (refine wpList_store_row rfl 32 (.tmp 3) (.tmp 12) rfl w3.heap.size (ia t) rfl rfl 32 (ia z16) (heap_alloc_last _ _) (by rw [hwt]; exact sizeN) (by rw [hwt]; rfl) (ia_one _) ?_)
  have hw3 : w.heap.size ≤ w3.heap.size := HB3.out.size
  go_loopw [13] (fun i wr => ∃ j : Nat, j ≤ 3 ∧ i = .int .i64 j ∧ wr.heap[w3.heap.size]? = some (.cells (ia (tr t j)) 32 (0, 0)) ∧ w3.heap.size < wr.heap.size ∧ Below w.heap.size w wr) (fun i _ => 3 - (intOf i).toNat)
  case atStart => exact ⟨0, by omega, rfl, setRow_heap _ _ _ _ _ _ (heap_alloc_last _ _), by simp, Below.setRow (HB3.out.alloc (by omega) _) _ _ (by omega)⟩
  case round =>
    clear HB3 hwt hw0
    obtain ⟨j, hj, rfl, hR, hS, hB⟩ := hrel
    by_cases hlt : j < 3
    · have hN := HTR.out.1 j hj
      have HTS : Hid (tr t (j + 1) = if 0 ≤ (ml (tr t j) 15).getD 15 0 then ml (tr t j) 15 else tr t j) := rfl
      generalize tr t j = T at *
      have hT16 : (ia T).size = 16 := by rw [ia_size, hN.1]
      have hTr : ∀ i, i < 16 → (ia T)[i]? = some (.int .i64 (T.getD i 0)) := fun i hi => ia_get _ _ (by rw [hN.1]; exact hi)
      have HN := hide hN
      have dj : decide ((j : Int) < 3) = true := decide_eq_true (by omega)
      have hR1 : (wr.alloc (.cells (ia z16) 32)).heap[w3.heap.size]? = some (.cells (ia T) 32 (0, 0)) := (Below.heap_alloc _ _ _ hS).trans hR
      have h0 := hN.2 0
      obtain ⟨u0, hu0⟩ : ∃ u, T.getD 0 0 = u := ⟨_, rfl⟩
      have c0 : wr.cell? ⟨w3.heap.size, 0, none⟩ = some (.int .i64 u0) := by rw [cell_of_row _ _ _ _ _ _ hR, hTr 0 (by decide), hu0]
      rw [hu0] at h0
      have hM : ((wr.alloc (.cells (ia z16) 32)).setRow wr.heap.size (ia T)).heap[wr.heap.size]? = some (.cells (ia T) 32 (0, 0)) := setRow_heap _ _ _ _ _ _ (heap_alloc_last _ _)
      have hRM : ((wr.alloc (.cells (ia z16) 32)).setRow wr.heap.size (ia T)).heap[w3.heap.size]? = some (.cells (ia T) 32 (0, 0)) := (setRow_other _ _ _ _ (by omega)).trans hR1
      have hSM : ((wr.alloc (.cells (ia z16) 32)).setRow wr.heap.size (ia T)).heap.size = wr.heap.size + 1 := by simp
      have hBM : Below w.heap.size w ((wr.alloc (.cells (ia z16) 32)).setRow wr.heap.size (ia T)) := Below.setRow (hB.alloc (by omega) _) _ _ (by omega)
      have cA : ((wr.alloc (.cells (ia z16) 32)).setRow wr.heap.size (ia T)).cell? ⟨w3.heap.size, 0, none⟩ = some (.int .i64 u0) := by rw [cell_of_row _ _ _ _ _ _ hRM, hTr 0 (by decide), hu0]
      have cB : ((wr.alloc (.cells (ia z16) 32)).setRow wr.heap.size (ia T)).cell? ⟨wr.heap.size, 0, none⟩ = some (.int .i64 u0) := by rw [cell_of_row _ _ _ _ _ _ hM, hTr 0 (by decide), hu0]
      have fB : ((wr.alloc (.cells (ia z16) 32)).setRow wr.heap.size (ia T)).frozen? ⟨wr.heap.size, 0, none⟩ = false := frozen_of_row _ _ _ _ _ hM
      have HU := hide hu0
      have HM := hide (And.intro hM (And.intro hRM (And.intro hSM hBM)))
      clear hN hTr hM hRM hSM hBM c0 hR1 hu0
      go_wp2_with (first | (refine wpList_load_row rfl 32 (.tmp 3) rfl w3.heap.size rfl 32 (ia T) (0,0) (.array 16 2) hR undN rfl (by rw [hT16]; exact sizeN) ?_) | (refine wpList_store_row rfl 32 (.tmp 4) (.tmp 15) rfl wr.heap.size (ia T) rfl rfl 32 (ia z16) (heap_alloc_last _ _) (by rw [hT16]; exact sizeN) (by rw [hT16]; rfl) (ia_one _) ?_))
      obtain ⟨hM, hRM, hSM, hBM⟩ := HM.out
      have hM0 := heap_setCell_same _ _ 0 _ _ (.int .i64 (u0 - 65517)) hM
      rw [ia_set, ← HU.out, show T.set 0 (T.getD 0 0 - 65517) = ml T 0 from rfl, HU.out] at hM0
      have hRM0 := (heap_setCell_other ((wr.alloc (.cells (ia z16) 32)).setRow wr.heap.size (ia T)) ⟨wr.heap.size, 0, none⟩ w3.heap.size (.int .i64 (u0 - 65517)) (by simp; omega)).trans hRM
      have hSM0 : (((wr.alloc (.cells (ia z16) 32)).setRow wr.heap.size (ia T)).setCell ⟨wr.heap.size, 0, none⟩ (.int .i64 (u0 - 65517))).heap.size = wr.heap.size + 1 := by simp
      have hBM0 := hBM.setCell (p := ⟨wr.heap.size, 0, none⟩) (by simp; omega) (.int .i64 (u0 - 65517))
      clear cA cB fB hM hRM hSM hBM HM
      generalize ((wr.alloc (.cells (ia z16) 32)).setRow wr.heap.size (ia T)).setCell ⟨wr.heap.size, 0, none⟩ (.int .i64 (u0 - 65517)) = W0 at *
      generalize wr.heap.size = P at *
      clear hB hR
      go_loopw [5] (fun i wr' => ∃ k : Nat, k ≤ 15 ∧ i = .int .i64 ((k : Int) + 1) ∧ wr'.heap[P]? = some (.cells (ia (ml T k)) 32 (0, 0)) ∧ wr'.heap[w3.heap.size]? = some (.cells (ia T) 32 (0, 0)) ∧ wr'.heap.size = P + 1 ∧ Below w.heap.size w wr') (fun i _ => 16 - (intOf i).toNat)
      case atStart => exact ⟨0, by omega, rfl, hM0, hRM0, hSM0, hBM0⟩
      case round =>
        clear hM0 hRM0 hSM0 hBM0
        obtain ⟨k, hk, rfl, hM2, hR2, hS2, hB2⟩ := hrel
        have HM2 := hide hM2
        have HR2 := hide hR2
        have hml : (ml T k).length = 16 := by rw [ml_len, HN.out.1]
        by_cases hk15 : k < 15
        · obtain ⟨m1, m2, m3, m4⟩ := ml_all T HN.out k hk
          have hv := HN.out.2 (k + 1)
          have hz0 := HN.out.2 k
          have hgt := ml_gt T k (k + 1) (by omega)
          have cv := cell_of_row _ _ (k + 1) _ _ _ hR2
          rw [ia_get _ _ (by rw [HN.out.1]; omega)] at cv
          have cm := cell_of_row _ _ (k + 1) _ _ _ hM2
          rw [ia_get _ _ (by omega), hgt] at cm
          have cz := cell_of_row _ _ k _ _ _ hM2
          rw [ia_get _ _ (by omega)] at cz
          have hfro : ∀ i, wr.frozen? ⟨P, i, none⟩ = false := fun i => frozen_of_row _ _ _ _ _ hM2
          obtain ⟨v, hgv⟩ : ∃ v, T.getD (k + 1) 0 = v := ⟨_, rfl⟩
          obtain ⟨z, hgz⟩ : ∃ z, (ml T k).getD k 0 = z := ⟨_, rfl⟩
          rw [hgv] at cv cm hv
          rw [hgz] at cz m2 m3
          have hzb : z ≤ 65535 := by
            have : 0 ≤ sv k := by unfold sv; split <;> (try split) <;> decide
            omega
          have b0 : (0 : Int) ≤ (k : Int) + 1 := by omega
          have b1 : (k : Int) + 1 < 16 := by omega
          have b2 : (0 : Int) ≤ (k : Int) := by omega
          have b3 : (k : Int) < 16 := by omega
          have dl : decide ((k : Int) + 1 < 16) = true := decide_eq_true b1
          have hPw : w3.heap.size ≠ P := by omega
          clear hM2 hR2 m1 m3 m4 hz0 hgt hml
          by_cases h14 : k = 14 <;> by_cases hneg : z < 0
          · have hsv : sv (k + 1) = 32767 := by unfold sv; rw [if_neg (by omega), if_pos (by omega)]
            have HST : Hid (ml T (k + 1) = ((ml T k).set (k + 1) (v - 32767 - 1)).set k (z + 65536)) := by
              show _ = _
              rw [ml, mstep, Nat.add_sub_cancel, hgz, hgv, hsv, if_pos hneg]
            have e15 : (((k : Int) + 1) == 15) = true := by rw [show (k : Int) + 1 = 15 by omega]; rfl
            have e15' : decide ((k : Int) + 1 = 15) = true := decide_eq_true (by omega)
            have dz : decide (z < 0) = true := decide_eq_true hneg
            have HG := hide (And.intro hgz hgv)
            clear hsv hgz hgv h14 hneg
            go_wp2
            refine ⟨⟨k + 1, by omega, by go_num, ?_, ?_, ?_, ?_⟩, by simp [intOf]; omega⟩
            · rw [heap_setCell_same _ _ _ _ _ _ (heap_setCell_same _ _ _ _ _ _ (heap_setCell_same _ _ _ _ _ _ (heap_setCell_same _ _ _ _ _ _ HM2.out))), ia_set, ia_set, ia_set, ia_set, List.set_set, List.set_set, HST.out]
            · rw [heap_setCell_other _ _ _ _ (by simp; omega), heap_setCell_other _ _ _ _ (by simp; omega), heap_setCell_other _ _ _ _ (by simp; omega), heap_setCell_other _ _ _ _ (by simp; omega)]; exact HR2.out
            · simpa using hS2
            · exact ((((hB2).setCell (by simp; omega) _).setCell (by simp; omega) _).setCell (by simp; omega) _).setCell (by simp; omega) _
          · have hsv : sv (k + 1) = 32767 := by unfold sv; rw [if_neg (by omega), if_pos (by omega)]
            have HST : Hid (ml T (k + 1) = (ml T k).set (k + 1) (v - 32767)) := by
              show _ = _
              rw [ml, mstep, Nat.add_sub_cancel, hgz, hgv, hsv, if_neg hneg]
            have e15 : (((k : Int) + 1) == 15) = true := by rw [show (k : Int) + 1 = 15 by omega]; rfl
            have e15' : decide ((k : Int) + 1 = 15) = true := decide_eq_true (by omega)
            have dz : decide (z < 0) = false := decide_eq_false hneg
            have HG := hide (And.intro hgz hgv)
            clear hsv hgz hgv h14 hneg
            go_wp2
            refine ⟨⟨k + 1, by omega, by go_num, ?_, ?_, ?_, ?_⟩, by simp [intOf]; omega⟩
            · rw [heap_setCell_same _ _ _ _ _ _ (heap_setCell_same _ _ _ _ _ _ HM2.out), ia_set, ia_set, List.set_set, HST.out]
            · rw [heap_setCell_other _ _ _ _ (by simp; omega), heap_setCell_other _ _ _ _ (by simp; omega)]; exact HR2.out
            · simpa using hS2
            · exact ((hB2).setCell (by simp; omega) _).setCell (by simp; omega) _
          · have hsv : sv (k + 1) = 65535 := by unfold sv; rw [if_neg (by omega), if_neg (by omega)]
            have HST : Hid (ml T (k + 1) = ((ml T k).set (k + 1) (v - 65535 - 1)).set k (z + 65536)) := by
              show _ = _
              rw [ml, mstep, Nat.add_sub_cancel, hgz, hgv, hsv, if_pos hneg]
            have e15 : (((k : Int) + 1) == 15) = false := by simp; omega
            have e15' : decide ((k : Int) + 1 = 15) = false := decide_eq_false (by omega)
            have dz : decide (z < 0) = true := decide_eq_true hneg
            have HG := hide (And.intro hgz hgv)
            clear hsv hgz hgv h14 hneg
            go_wp2
            refine ⟨⟨k + 1, by omega, by go_num, ?_, ?_, ?_, ?_⟩, by simp [intOf]; omega⟩
            · rw [heap_setCell_same _ _ _ _ _ _ (heap_setCell_same _ _ _ _ _ _ (heap_setCell_same _ _ _ _ _ _ HM2.out)), ia_set, ia_set, ia_set, List.set_set, HST.out]
            · rw [heap_setCell_other _ _ _ _ (by simp; omega), heap_setCell_other _ _ _ _ (by simp; omega), heap_setCell_other _ _ _ _ (by simp; omega)]; exact HR2.out
            · simpa using hS2
            · exact (((hB2).setCell (by simp; omega) _).setCell (by simp; omega) _).setCell (by simp; omega) _
          · have hsv : sv (k + 1) = 65535 := by unfold sv; rw [if_neg (by omega), if_neg (by omega)]
            have HST : Hid (ml T (k + 1) = (ml T k).set (k + 1) (v - 65535)) := by
              show _ = _
              rw [ml, mstep, Nat.add_sub_cancel, hgz, hgv, hsv, if_neg hneg]
            have e15 : (((k : Int) + 1) == 15) = false := by simp; omega
            have e15' : decide ((k : Int) + 1 = 15) = false := decide_eq_false (by omega)
            have dz : decide (z < 0) = false := decide_eq_false hneg
            have HG := hide (And.intro hgz hgv)
            clear hsv hgz hgv h14 hneg
            go_wp2
            refine ⟨⟨k + 1, by omega, by go_num, ?_, ?_, ?_, ?_⟩, by simp [intOf]; omega⟩
            · rw [heap_setCell_same _ _ _ _ _ _ HM2.out, ia_set, HST.out]
            · rw [heap_setCell_other _ _ _ _ (by simp; omega)]; exact HR2.out
            · simpa using hS2
            · exact (hB2).setCell (by simp; omega) _
        · have hk' : k = 15 := by omega
          have dl : decide ((k : Int) + 1 < 16) = false := decide_eq_false (by omega)
          rw [hk'] at hM2 hml HM2
          have c15 := cell_of_row _ _ 15 _ _ _ hM2
          rw [ia_get _ _ (by omega)] at c15
          have hw15 : (ia (ml T 15)).size = 16 := by rw [ia_size, hml]
          obtain ⟨z, hgz⟩ : ∃ z, (ml T 15).getD 15 0 = z := ⟨_, rfl⟩
          rw [hgz] at c15
          clear hk' hk15 hk
          by_cases hpos : 0 ≤ z
          · have dz : decide (0 ≤ z) = true := decide_eq_true hpos
            have HST : Hid (tr t (j + 1) = ml T 15) := by show _ = _; rw [HTS.out, hgz, if_pos hpos]
            clear hpos
            go_wp2_with (first | (refine wpList_load_row rfl 32 (.tmp 4) rfl P rfl 32 (ia (ml T 15)) (0,0) (.array 16 2) hM2 undN rfl (by rw [hw15]; exact sizeN) ?_) | (refine wpList_store_row rfl 32 (.tmp 3) (.tmp 57) rfl w3.heap.size (ia (ml T 15)) rfl rfl 32 (ia T) hR2 (by rw [hw15]; exact sizeN) (by rw [hw15, hT16]) (ia_one _) ?_))
            refine ⟨⟨j + 1, by omega, by go_num, by rw [HST.out]; exact setRow_heap _ _ _ _ _ _ HR2.out, by simp; omega, Below.setRow hB2 _ _ hw3⟩, by simp [intOf]; omega⟩
          · have dz : decide (0 ≤ z) = false := decide_eq_false hpos
            have HST : Hid (tr t (j + 1) = T) := by show _ = _; rw [HTS.out, hgz, if_neg hpos]
            clear hpos hM2 hR2
            go_wp2
            refine ⟨⟨j + 1, by omega, by go_num, by rw [HST.out]; exact HR2.out, by omega, hB2⟩, by simp [intOf]; omega⟩
    · have hj3 : j = 3 := by omega
      rw [hj3] at hR
      obtain ⟨hnn, hvx⟩ := HTR.out
      have hN := hnn 3 (Nat.le_refl _)
      have hdj : decide ((j : Int) < 3) = false := decide_eq_false (by omega)
      clear hj3 hnn hlt hj
      generalize tr t 3 = T at *
      have hT16 : (ia T).size = 16 := by rw [ia_size, hN.1]
      have HN := hide (And.intro hN hvx)
      clear hN hvx HTR
      go_wp2_with (refine wpList_load_row rfl 32 (.tmp 3) rfl w3.heap.size rfl 32 (ia T) (0,0) (.array 16 2) hR undN rfl (by rw [hT16]; exact sizeN) ?_)
      clear hz hR hdj
      go_loopw [6, 60] (fun sv i wr' => ∃ k : Nat, k ≤ 16 ∧ i = .int .i64 k ∧ wr'.ownsRow w.heap.size 5 1 sv (2 * k) (bvs x k) ∧ Below w.heap.size w wr') (fun _ i _ => 16 - (intOf i).toNat)
      case atStart => exact ⟨0, by omega, rfl, ⟨rfl, .inl ⟨rfl, rfl⟩⟩, hB⟩
      case round =>
        clear hB hS
        obtain ⟨k, hk, rfl, hown, hB2⟩ := hrel
        obtain ⟨i0, hi, hz0, hz1, hz2⟩ := info_five
        by_cases hk16 : k < 16
        · obtain ⟨e1, e2⟩ := limb_bytes T HN.out.1 x HN.out.2 k
          have hidx : ∀ W, (Instr.index 32 (.agg (ia T)) (.int .i64 (k : Int))).run Tryd.prog W = .ok (.int .i64 (T.getD k 0)) W := fun W => run_index_arr undN Tryd.underlying2 rfl size2 (ia T) k hk16 _ (ia_get _ _ (by rw [HN.out.1.1]; exact hk16)) W
          have HS := hide (bvs_succ x k)
          have hd : decide ((k : Int) < 16) = true := decide_eq_true (by omega)
          obtain ⟨v, hgv⟩ : ∃ v, T.getD k 0 = v := ⟨_, rfl⟩
          obtain ⟨p, hp⟩ : ∃ p, byt x (2 * k) = p := ⟨_, rfl⟩
          obtain ⟨q, hq⟩ : ∃ q, byt x (2 * k + 1) = q := ⟨_, rfl⟩
          rw [hgv] at e1 e2 hidx
          rw [hp] at e1
          rw [hq] at e2
          have HP := hide (And.intro hp hq)
          have hbe := hB2.size
          clear hgv hp hq hk
          have hlo := (hown.alloc (.cells #[.int .u8 (p : Int), .int .u8 (q : Int)] 5)).lt
          have hB3 := hB2.alloc hbe (.cells #[.int .u8 (p : Int), .int .u8 (q : Int)] 5)
          have HL := hide (And.intro hlo hB3)
          have hown2 := hown.alloc (.cells #[.int .u8 (p : Int), .int .u8 (q : Int)] 5)
          clear hlo hB3 hown
          go_wp2_with (at_builtin; refine wpList_append_lies _ rfl _ _ 22 rfl w.heap.size 5 i0 (.int .u8 0) 1 1 Tryd.underlying22 hi hz0 hz1 hz2 rfl (by decide) _ (2 * k) (bvs x k) rfl hown2 ⟨wr.heap.size, 0, none⟩ 2 2 [.int .u8 (p : Int), .int .u8 (q : Int)] rfl rfl (World.news_of_block (heap_alloc_last _ _)) (by intro u hu; simp at hu; rcases hu with rfl | rfl <;> rfl) (by decide) (by unfold maxLen; omega) (by omega) (by simp; omega) _ rfl ?_)
          intro g cap w6 hown6 hgrow _ hlt6
          have hB6 := Below.own HL.out.2 hgrow (fun b hb => (HL.out.1 b hb).1) (by simp; omega)
          rw [← HP.out.1, ← HP.out.2, ← HS.out] at hown6
          clear hgrow HL hown2 hi hz0 hz1 hz2
          go_wp2
          refine ⟨⟨k + 1, by omega, by go_num, hown6, hB6⟩, by simp [intOf]; omega⟩
        · have hd : decide ((k : Int) < 16) = false := decide_eq_false (by omega)
          have hk' : k = 16 := by omega
          rw [hk'] at hown
          clear hk' hk16 hk
          obtain ⟨g, cap, hv, hg1, hg2⟩ := hown.form (by decide)
          subst hv
          have hcell := fun i (hi : i < 32) => hown.cellAt i hi
          rcases hown.2 with ⟨h1, _⟩ | ⟨g', cap', cur, e, _, hr, h1, h2, _, h4⟩
          · cases h1
          · injection e with e1 e2 e3
            injection e1 with e4
            injection e4 with e5
            subst e5 e3
            have hres : ∀ i, i < 32 → wr.cell? ⟨g, i, none⟩ = some (.int .u8 ((byt x i : Nat) : Int)) := fun i hi => by
              rw [hcell i hi]
              unfold bvs
              rw [List.getElem?_map, List.getElem?_range (by omega)]
              rfl
            clear hcell hown hr h4
            go_wp2
            go_ret
            exact ⟨g, cap, rfl, hg2, h1, h2, hres, hB2⟩
end Go.Proofs.YtbaionconnhdiaaDoor
