/- The product of two rows of words, as the program's call answers it, in any world. -/
import Derived.Test.YteplbagjagimdaaDoorScale
namespace Go.Proofs.YteplbagjagimdaaDoor
open Go.RowKit
def z8 : List Nat := [0, 0, 0, 0, 0, 0, 0, 0]
theorem na8 (a b c d e f g i : Nat) : na [a, b, c, d, e, f, g, i] = #[.int .u64 (a : Int), .int .u64 (b : Int), .int .u64 (c : Int), .int .u64 (d : Int), .int .u64 (e : Int), .int .u64 (f : Int), .int .u64 (g : Int), .int .u64 (i : Int)] := rfl
theorem z8_lim : lim z8 := by
  intro i
  match i with
  | 0 | 1 | 2 | 3 | 4 | 5 | 6 | 7 => decide
  | i + 8 => simp [z8]
theorem z8_get (i : Nat) : z8.getD i 0 = 0 := by
  match i with
  | 0 | 1 | 2 | 3 | 4 | 5 | 6 | 7 => rfl
  | i + 8 => simp [z8]
theorem heap_alloc_last4 (w : World) (a b c d : Obj) : ((((w.alloc a).alloc b).alloc c).alloc d).heap[w.heap.size + 1 + 1 + 1]? = some d := by
  have h := heap_alloc_last (((w.alloc a).alloc b).alloc c) d
  simpa using h
/-- What lies where while a product is made. -/
structure TimesAt (w wr : World) (la lb l : List Nat) : Prop where
  a : wr.heap[w.heap.size]? = some (.cells (na la) 26 (0,0))
  b : wr.heap[w.heap.size + 1]? = some (.cells (na lb) 26 (0,0))
  o : wr.heap[w.heap.size + 1 + 1]? = some (.cells (na z8) 82 (0,0))
  p : wr.heap[w.heap.size + 1 + 1 + 1]? = some (.cells (na l) 82 (0,0))
  size : wr.heap.size = w.heap.size + 1 + 1 + 1 + 1
  below : Below w.heap.size w wr
theorem TimesAt.set {w wr : World} {la lb l : List Nat} (h : TimesAt w wr la lb l) (k n : Nat) : TimesAt w (wr.setCell ⟨w.heap.size + 1 + 1 + 1, k, none⟩ (.int .u64 (n : Int))) la lb (l.set k n) where
  a := by rw [heap_setCell_other _ _ _ _ (by simp; omega)]; exact h.a
  b := by rw [heap_setCell_other _ _ _ _ (by simp)]; exact h.b
  o := by rw [heap_setCell_other _ _ _ _ (by simp)]; exact h.o
  p := by rw [heap_setCell_same _ _ _ _ _ _ h.p, na_set]
  size := by simpa using h.size
  below := h.below.setCell (by simp; omega) _
theorem TimesAt.drew {w wr : World} {la lb l : List Nat} (h : TimesAt w wr la lb l) : TimesAt w wr.drew la lb l :=
  ⟨h.a, h.b, h.o, h.p, h.size, h.below.drew⟩
theorem mad_pair (x y m n q r : Nat) (hx : x < 18446744073709551616) (hy : y < 18446744073709551616) (hm : m < 18446744073709551616) (hn : n < 18446744073709551616) (hq : (x * y + m + n) / 18446744073709551616 = q) (hr : (x * y + m + n) % 18446744073709551616 = r) (w : World) :
    Calls Tryd.prog 84 #[.int .u64 x, .int .u64 y, .int .u64 m, .int .u64 n] w fun e w' => e = .returned (.tuple #[.int .u64 (q : Int), .int .u64 (r : Int)]) ∧ w' = w := by
  rw [← hq, ← hr]; exact mad_any x y m n hx hy hm hn w
set_option maxHeartbeats 2000000 in
theorem multiply_list (la lb : List Nat) (ha : la.length = 4) (hb : lb.length = 4) (la' : lim la) (lb' : lim lb) (w : World) :
    Calls Tryd.prog 78 #[.agg (na la), .agg (na lb)] w fun e w' => ∃ (l : List Nat), e = .returned (.agg (na l)) ∧ l.length = 8 ∧ lim l ∧ val l = val la * val lb ∧ Below w.heap.size w w' := by
  go_enter Tryd.func78, Tryd.ntmps78
  go_wp2
  go_loopw [9] (fun i wr => ∃ (m : Nat) (l : List Nat), m ≤ 4 ∧ i = .int .i64 m ∧ l.length = 8 ∧ lim l ∧ val l = val (la.take m) * val lb ∧ (∀ i, m + 4 ≤ i → l.getD i 0 = 0) ∧ TimesAt w wr la lb l) (fun i _ => 4 - (intOf i).toNat)
  case atStart =>
    refine ⟨0, z8, by omega, rfl, rfl, z8_lim, by simp [val, z8], fun i _ => z8_get i, ⟨?_, ?_, ?_, ?_, by simp, ?_⟩⟩
    · rw [Below.heap_alloc _ _ _ (by simp; omega), Below.heap_alloc _ _ _ (by simp; omega), Below.heap_alloc _ _ _ (by simp), heap_alloc_last]
    · rw [Below.heap_alloc _ _ _ (by simp)]; exact heap_alloc_mid3 _ _ _ _
    · rw [Below.heap_alloc _ _ _ (by simp)]; exact heap_alloc_last3 _ _ _ _
    · exact heap_alloc_last4 _ _ _ _ _
    · exact (below3 _ _ _ _).alloc (by simp; omega) _
  case round =>
    obtain ⟨m, l, hm, rfl, hl, hlim, hval, hz, hat⟩ := hrel
    by_cases hlt : m < 4
    · have hlx := la' m
      obtain ⟨x, hgx⟩ : ∃ x, la.getD m 0 = x := ⟨_, rfl⟩
      rw [hgx] at hlx
      have HX := hide hgx
      clear hgx
      have HV := hide hval
      have HZ := hide hz
      have HTA : Hid (val (la.take (m + 1)) = val (la.take m) + 18446744073709551616 ^ m * x) := by have h := val_take la m (by omega); rw [HX.out] at h; exact h
      clear hval hz
      have hd : decide ((m : Int) < 4) = true := decide_eq_true (by omega)
      go_wp2
      clear hd
      go_loopw [7, 12] (fun c j wr => ∃ (k : Nat) (l' : List Nat) (cn : Nat), k ≤ 4 ∧ j = .int .i64 k ∧ c = .int .u64 (cn : Int) ∧ cn < 18446744073709551616 ∧ l'.length = 8 ∧ lim l' ∧ val l' + cn * 18446744073709551616 ^ (m + k) = val l + 18446744073709551616 ^ m * (x * val (lb.take k)) ∧ (∀ i, m + 4 ≤ i → l'.getD i 0 = 0) ∧ TimesAt w wr la lb l') (fun _ j _ => 4 - (intOf j).toNat)
      case atStart => exact ⟨0, l, 0, by omega, rfl, rfl, by omega, hl, hlim, by simp [val], HZ.out, hat⟩
      case round =>
        clear hat hl hlim
        obtain ⟨k, l2, cn, hk, rfl, rfl, hcn, hl, hlim, hval, hz, hat⟩ := hrel
        by_cases hlt2 : k < 4
        · have hca : wr.cell? ⟨w.heap.size, m, none⟩ = some (.int .u64 (x : Int)) := by
            rw [cell_of_row _ _ _ _ _ _ hat.a, na_get _ _ (by omega), HX.out]
          have hcb : wr.cell? ⟨w.heap.size + 1, k, none⟩ = some (.int .u64 ((lb.getD k 0 : Nat) : Int)) := by
            rw [cell_of_row _ _ _ _ _ _ hat.b, na_get _ _ (by omega)]
          have hcp : wr.cell? ⟨w.heap.size + 1 + 1 + 1, m + k, none⟩ = some (.int .u64 ((l2.getD (m + k) 0 : Nat) : Int)) := by
            rw [cell_of_row _ _ _ _ _ _ hat.p, na_get _ _ (by omega)]
          have hfro : wr.frozen? ⟨w.heap.size + 1 + 1 + 1, m + k, none⟩ = false := frozen_of_row _ _ _ _ _ hat.p
          have hly := lb' k
          have hlz := hlim (m + k)
          have HT := hide (val_take lb k (by omega))
          have HA := hide hat
          have HV2 := hide hval
          have HL := hide hlim
          have HN := hide hl
          have HZ2 := hide hz
          have HLA := hide la'
          have HLB := hide lb'
          clear hat hval hlim hl hz la' lb' ha hb
          generalize hgy : lb.getD k 0 = y at *
          generalize hgz : l2.getD (m + k) 0 = z at *
          have HGZ := hide hgz
          clear hgy hgz
          have HM := hide (word_mul hlx hly hlz hcn)
          have b0 : (0 : Int) ≤ (k : Int) := by omega
          have b1 : (k : Int) < 4 := by omega
          have b2 : (0 : Int) ≤ (m : Int) := by omega
          have b3 : (m : Int) < 4 := by omega
          generalize hn : m + k = n at *
          have hn1 : (m : Int) + (k : Int) = (n : Int) := by omega
          have hn2 : (n : Int) < 8 := by omega
          have hn3 : (0 : Int) ≤ (n : Int) := by omega
          have hn4 : IntKind.i64.wrap (n : Int) = (n : Int) := by rw [IntKind.wrap_i64]; omega
          have HNN := hide hn
          clear hn
          obtain ⟨q, hq⟩ : ∃ q, (x * y + z + cn) / 18446744073709551616 = q := ⟨_, rfl⟩
          obtain ⟨r, hr⟩ : ∃ r, (x * y + z + cn) % 18446744073709551616 = r := ⟨_, rfl⟩
          have hcall := mad_pair x y z cn q r hlx hly hlz hcn hq hr
          have HQ := hide hq
          have HR := hide hr
          clear hq hr
          go_wp2
          go_region_with ((go_at_call 84; refine (hcall _).mono ?_; rintro e w' ⟨rfl, rfl⟩))
          clear hca hcb hcp hcall hn1 hn2 hn3 hn4
          all_goals
            go_wp2
            go_roundw
            case rel =>
              refine ⟨k + 1, l2.set n r, q, by omega, by go_num, rfl, ?_, by rw [List.length_set, HN.out], lim_set HL.out _ _ ?_, ?_, ?_, (HA.out.set n r).drew⟩
              · have := HM.out; have := HQ.out; omega
              · have := HR.out; omega
              · exact row_step' HNN.out (by rw [HN.out]; have := HNN.out; omega) HGZ.out HV2.out HT.out HQ.out HR.out
              · intro i hi
                rw [getD_set_ne' (by have := HNN.out; omega), HZ2.out i hi]
            case measure => simp [intOf]; omega
        · have hk4 : k = 4 := by omega
          rw [hk4, List.take_of_length_le (by omega)] at hval
          have hfro : wr.frozen? ⟨w.heap.size + 1 + 1 + 1, m + 4, none⟩ = false := frozen_of_row _ _ _ _ _ hat.p
          have hcp : wr.cell? ⟨w.heap.size + 1 + 1 + 1, m + 4, none⟩ = some (.int .u64 ((l2.getD (m + 4) 0 : Nat) : Int)) := by
            rw [cell_of_row _ _ _ _ _ _ hat.p, na_get _ _ (by omega)]
          generalize l2.getD (m + 4) 0 = z at hcp
          have HA := hide hat
          have HV2 := hide hval
          have HL := hide hlim
          have HN := hide hl
          have HZ2 := hide hz
          clear hat hval hlim hl hz
          have b2 : (0 : Int) ≤ (m : Int) := by omega
          have b3 : (m : Int) < 4 := by omega
          go_wp2
          go_roundw
          case rel =>
            refine ⟨m + 1, l2.set (m + 4) cn, by omega, by go_num, by rw [List.length_set, HN.out], lim_set HL.out _ _ hcn, ?_, ?_, HA.out.set (m + 4) cn⟩
            · rw [row_end (by rw [HN.out]; omega) (HZ2.out _ (Nat.le_refl _)) HV2.out, HTA.out, HV.out, Nat.add_mul, Nat.mul_assoc]
            · intro i hi
              rw [getD_set_ne' (by omega), HZ2.out i (by omega)]
          case measure => simp [intOf]; omega
    · obtain ⟨x0, x1, x2, x3, x4, x5, x6, x7, rfl⟩ := eight hl
      have hm4 : m = 4 := by omega
      rw [hm4, List.take_of_length_le (by omega)] at hval
      have hrow := hat.p
      have hr0 := hat.o
      have hbel := hat.below
      rw [na8] at hrow
      have HV := hide hval
      have HL := hide hlim
      have c0 : ∀ i, wr.cell? ⟨w.heap.size + 1 + 1 + 1, i, none⟩ = (#[.int .u64 (x0 : Int), .int .u64 (x1 : Int), .int .u64 (x2 : Int), .int .u64 (x3 : Int), .int .u64 (x4 : Int), .int .u64 (x5 : Int), .int .u64 (x6 : Int), .int .u64 (x7 : Int)] : Array Value)[i]? := fun i => cell_of_row _ _ _ _ _ _ hrow
      have d0 : ∀ i, wr.cell? ⟨w.heap.size + 1 + 1, i, none⟩ = (#[.int .u64 0, .int .u64 0, .int .u64 0, .int .u64 0, .int .u64 0, .int .u64 0, .int .u64 0, .int .u64 0] : Array Value)[i]? := fun i => cell_of_row _ _ _ _ _ _ hr0
      have hfro : ∀ i, wr.frozen? ⟨w.heap.size + 1 + 1, i, none⟩ = false := fun i => frozen_of_row _ _ _ _ _ hr0
      clear hval hlim hz hat hrow hr0
      go_wp2
      refine bodyPost_ret (v := .agg (na [x0, x1, x2, x3, x4, x5, x6, x7])) (by simp [results, Tryd.results78, go_sem, na8, d0]) rfl ⟨[x0, x1, x2, x3, x4, x5, x6, x7], rfl, rfl, HL.out, HV.out, ?_⟩
      exact (((((((hbel.setCell (by simp; omega) _).setCell (by simp; omega) _).setCell (by simp; omega) _).setCell (by simp; omega) _).setCell (by simp; omega) _).setCell (by simp; omega) _).setCell (by simp; omega) _).setCell (by simp; omega) _
end Go.Proofs.YteplbagjagimdaaDoor
