/- A double row of words modulo p, as the program's call answers it, in any world. -/
import Derived.Test.YteplbagjagimdaaDoorReduce
import Derived.Deep.LoopGhost
import Derived.BigRegion
namespace Go.Proofs.YteplbagjagimdaaDoor
open Go.RowKit
theorem scale_four (a b c d y : Nat) (h : a < 18446744073709551616 ∧ b < 18446744073709551616 ∧ c < 18446744073709551616 ∧ d < 18446744073709551616) (hy : y < 18446744073709551616) (w : World) :
    Calls Tryd.prog 83 #[.agg #[.int .u64 (a : Int), .int .u64 (b : Int), .int .u64 (c : Int), .int .u64 (d : Int)], .int .u64 (y : Int)] w fun e w' =>
      ∃ r s t u k : Nat, e = .returned (.tuple #[.int .u64 (k : Int), .agg #[.int .u64 (r : Int), .int .u64 (s : Int), .int .u64 (t : Int), .int .u64 (u : Int)]]) ∧ (r < 18446744073709551616 ∧ s < 18446744073709551616 ∧ t < 18446744073709551616 ∧ u < 18446744073709551616) ∧
        val [r, s, t, u] + k * 115792089237316195423570985008687907853269984665640564039457584007913129639936 = y * val [a, b, c, d] ∧ Below w.heap.size w w' := by
  refine (scale_list [a, b, c, d] y rfl (lim4_mk h) hy w).mono ?_
  rintro e w' ⟨l, k, rfl, hl, hlim, _, hv, hb⟩
  obtain ⟨r, s, t, u, rfl⟩ := four hl
  exact ⟨r, s, t, u, k, rfl, lim4 hlim, hv, hb⟩
theorem heap4_0 (W : World) (a b : Obj) (g : Nat) (o : Obj) (h : W.heap[g]? = some o) (hg : g < W.heap.size) : ((W.alloc a).alloc b).drew.heap[g]? = some o := by
  show ((W.alloc a).alloc b).heap[g]? = some o
  rw [Below.heap_alloc _ _ _ (by simp; omega), Below.heap_alloc _ _ _ hg]; exact h
set_option maxRecDepth 100000 in
set_option maxHeartbeats 2000000 in
theorem fold_list (l : List Nat) (hl : l.length = 8) (hlim : lim l) (w : World) :
    Calls Tryd.prog 77 #[.agg (na l)] w fun e w' => ∃ (r : List Nat), e = .returned (.agg (na r)) ∧ r.length = 4 ∧ lim r ∧ val r = val l % 57896044618658097711785492504343953926634992332820282019728792003956564819949 ∧ Below w.heap.size w w' := by
  obtain ⟨a, b, c, d, a', b', c', d', rfl⟩ := eight hl
  have h0 := hlim 0
  have h1 := hlim 1
  have h2 := hlim 2
  have h3 := hlim 3
  have h4 := hlim 4
  have h5 := hlim 5
  have h6 := hlim 6
  have h7 := hlim 7
  simp only [List.getD_cons_zero, List.getD_cons_succ] at h0 h1 h2 h3 h4 h5 h6 h7
  rw [na8]
  clear hl hlim
  go_enter Tryd.func77, Tryd.ntmps77
  go_wp2
  have hA := heap2_0 w (.cells #[.int .u64 (a : Int), .int .u64 (b : Int), .int .u64 (c : Int), .int .u64 (d : Int), .int .u64 (a' : Int), .int .u64 (b' : Int), .int .u64 (c' : Int), .int .u64 (d' : Int)] 82) (.cells #[.int .u64 0, .int .u64 0, .int .u64 0, .int .u64 0] 26)
  have hO := heap2_1 w (.cells #[.int .u64 (a : Int), .int .u64 (b : Int), .int .u64 (c : Int), .int .u64 (d : Int), .int .u64 (a' : Int), .int .u64 (b' : Int), .int .u64 (c' : Int), .int .u64 (d' : Int)] 82) (.cells #[.int .u64 0, .int .u64 0, .int .u64 0, .int .u64 0] 26)
  have hB := below2 w (.cells #[.int .u64 (a : Int), .int .u64 (b : Int), .int .u64 (c : Int), .int .u64 (d : Int), .int .u64 (a' : Int), .int .u64 (b' : Int), .int .u64 (c' : Int), .int .u64 (d' : Int)] 82) (.cells #[.int .u64 0, .int .u64 0, .int .u64 0, .int .u64 0] 26)
  have hS : ((w.alloc (.cells #[.int .u64 (a : Int), .int .u64 (b : Int), .int .u64 (c : Int), .int .u64 (d : Int), .int .u64 (a' : Int), .int .u64 (b' : Int), .int .u64 (c' : Int), .int .u64 (d' : Int)] 82)).alloc (.cells #[.int .u64 0, .int .u64 0, .int .u64 0, .int .u64 0] 26)).heap.size = w.heap.size + 1 + 1 := by simp
  generalize (w.alloc (.cells #[.int .u64 (a : Int), .int .u64 (b : Int), .int .u64 (c : Int), .int .u64 (d : Int), .int .u64 (a' : Int), .int .u64 (b' : Int), .int .u64 (c' : Int), .int .u64 (d' : Int)] 82)).alloc (.cells #[.int .u64 0, .int .u64 0, .int .u64 0, .int .u64 0] 26) = W at *
  have k0 : W.cell? ⟨w.heap.size, 0, none⟩ = some (.int .u64 (a : Int)) := by rw [cell_of_row _ _ _ _ _ _ hA]; rfl
  have k1 : W.cell? ⟨w.heap.size, 1, none⟩ = some (.int .u64 (b : Int)) := by rw [cell_of_row _ _ _ _ _ _ hA]; rfl
  have k2 : W.cell? ⟨w.heap.size, 2, none⟩ = some (.int .u64 (c : Int)) := by rw [cell_of_row _ _ _ _ _ _ hA]; rfl
  have k3 : W.cell? ⟨w.heap.size, 3, none⟩ = some (.int .u64 (d : Int)) := by rw [cell_of_row _ _ _ _ _ _ hA]; rfl
  have k4 : W.cell? ⟨w.heap.size, 4, none⟩ = some (.int .u64 (a' : Int)) := by rw [cell_of_row _ _ _ _ _ _ hA]; rfl
  have k5 : W.cell? ⟨w.heap.size, 5, none⟩ = some (.int .u64 (b' : Int)) := by rw [cell_of_row _ _ _ _ _ _ hA]; rfl
  have k6 : W.cell? ⟨w.heap.size, 6, none⟩ = some (.int .u64 (c' : Int)) := by rw [cell_of_row _ _ _ _ _ _ hA]; rfl
  have k7 : W.cell? ⟨w.heap.size, 7, none⟩ = some (.int .u64 (d' : Int)) := by rw [cell_of_row _ _ _ _ _ _ hA]; rfl
  have HA := hide hA
  have HO := hide hO
  have HB := hide hB
  clear hA hO hB
  have n0 := World.new_ne W _ k0
  have n1 := World.new_ne W _ k1
  have n2 := World.new_ne W _ k2
  have n3 := World.new_ne W _ k3
  have n4 := World.new_ne W _ k4
  have n5 := World.new_ne W _ k5
  have n6 := World.new_ne W _ k6
  have n7 := World.new_ne W _ k7
  go_region_held3 (fun w' => w'.cell? ⟨w.heap.size, 0, none⟩ = some (.int .u64 (a : Int)) ∧ w'.cell? ⟨w.heap.size, 1, none⟩ = some (.int .u64 (b : Int)) ∧ w'.cell? ⟨w.heap.size, 2, none⟩ = some (.int .u64 (c : Int)) ∧ w'.cell? ⟨w.heap.size, 3, none⟩ = some (.int .u64 (d : Int)) ∧ w'.cell? ⟨w.heap.size, 4, none⟩ = some (.int .u64 (a' : Int)) ∧ w'.cell? ⟨w.heap.size, 5, none⟩ = some (.int .u64 (b' : Int)) ∧ w'.cell? ⟨w.heap.size, 6, none⟩ = some (.int .u64 (c' : Int)) ∧ w'.cell? ⟨w.heap.size, 7, none⟩ = some (.int .u64 (d' : Int))) (go_keep) (fail)
  · have HLo := hide (show ((W.alloc (.cells #[.int .u64 (a : Int), .int .u64 (b : Int), .int .u64 (c : Int), .int .u64 (d : Int)] 26)).alloc (.cells #[.int .u64 (a' : Int), .int .u64 (b' : Int), .int .u64 (c' : Int), .int .u64 (d' : Int)] 26)).drew.heap[(w.heap.size + 1 + 1)]? = some (.cells #[.int .u64 (a : Int), .int .u64 (b : Int), .int .u64 (c : Int), .int .u64 (d : Int)] 26 (0,0)) from by show ((W.alloc _).alloc _).heap[_]? = _; rw [← hS]; exact heap2_0 _ _ _)
    have HHi := hide (show ((W.alloc (.cells #[.int .u64 (a : Int), .int .u64 (b : Int), .int .u64 (c : Int), .int .u64 (d : Int)] 26)).alloc (.cells #[.int .u64 (a' : Int), .int .u64 (b' : Int), .int .u64 (c' : Int), .int .u64 (d' : Int)] 26)).drew.heap[(w.heap.size + 1 + 1 + 1)]? = some (.cells #[.int .u64 (a' : Int), .int .u64 (b' : Int), .int .u64 (c' : Int), .int .u64 (d' : Int)] 26 (0,0)) from by show ((W.alloc _).alloc _).heap[_]? = _; rw [← hS]; exact heap2_1 _ _ _)
    have HO2 := hide (heap4_0 W (.cells #[.int .u64 (a : Int), .int .u64 (b : Int), .int .u64 (c : Int), .int .u64 (d : Int)] 26) (.cells #[.int .u64 (a' : Int), .int .u64 (b' : Int), .int .u64 (c' : Int), .int .u64 (d' : Int)] 26) _ _ HO.out (by omega))
    have HB2 := hide (((HB.out.alloc (by omega) (.cells #[.int .u64 (a : Int), .int .u64 (b : Int), .int .u64 (c : Int), .int .u64 (d : Int)] 26)).alloc (by simp; omega) (.cells #[.int .u64 (a' : Int), .int .u64 (b' : Int), .int .u64 (c' : Int), .int .u64 (d' : Int)] 26)).drew)
    have hS2 : ((W.alloc (.cells #[.int .u64 (a : Int), .int .u64 (b : Int), .int .u64 (c : Int), .int .u64 (d : Int)] 26)).alloc (.cells #[.int .u64 (a' : Int), .int .u64 (b' : Int), .int .u64 (c' : Int), .int .u64 (d' : Int)] 26)).drew.heap.size = w.heap.size + 1 + 1 + 1 + 1 := by show ((W.alloc _).alloc _).heap.size = _; simp; omega
    clear k0 k1 k2 k3 k4 k5 k6 k7 n0 n1 n2 n3 n4 n5 n6 n7
    rename_i hHeld
    clear hHeld
    generalize ((W.alloc (.cells #[.int .u64 (a : Int), .int .u64 (b : Int), .int .u64 (c : Int), .int .u64 (d : Int)] 26)).alloc (.cells #[.int .u64 (a' : Int), .int .u64 (b' : Int), .int .u64 (c' : Int), .int .u64 (d' : Int)] 26)).drew = W2 at *
    obtain ⟨x1, y1⟩ := row_reads HHi.out
    clear hS HA HO HB
    go_wp2_with fail
    clear x1 y1
    refine (scale_four a' b' c' d' 38 ⟨h4, h5, h6, h7⟩ (by decide) _).mono ?_
    rintro e w3 ⟨r, s, t, u, k, rfl, ⟨hr, hs, ht, hu⟩, hv3, hb3⟩
    have HLo3 := hide (Below.heap hb3 (by omega) HLo.out)
    have HO3 := hide (Below.heap hb3 (by omega) HO2.out)
    have HB3 := hide (HB2.out.trans (hb3.mono (by omega)))
    have hz3 : w.heap.size + 1 + 1 + 1 < w3.heap.size := by have := hb3.size; omega
    have hz3' : w.heap.size + 1 + 1 < w3.heap.size := by omega
    have HV3 := hide hv3
    obtain ⟨x1, y1⟩ := row_reads HLo3.out
    clear hv3 hb3 hS2 HLo HHi HO2 HB2
    go_wp2_with fail
    clear x1 y1
    refine (add_four a b c d r s t u ⟨h0, h1, h2, h3⟩ ⟨hr, hs, ht, hu⟩ _).mono ?_
    rintro e w4 ⟨r', s', t', u', k', rfl, ⟨hr', hs', ht', hu'⟩, hv4, hb4⟩
    have HO4 := hide (Below.heap hb4 (g := w.heap.size + 1) (by simp; omega) ((Below.heap_alloc _ _ _ (by omega)).trans HO3.out))
    have HB4 := hide ((HB3.out.alloc (by omega) _).trans (hb4.mono (by simp; omega)))
    have hz4 : w.heap.size + 1 < w4.heap.size := by have := hb4.size; simp at this; omega
    obtain ⟨A, hA⟩ : ∃ A, k + k' = A := ⟨_, rfl⟩
    have hv3 := HV3.out
    simp only [val4] at hv3 hv4
    have hk : k ≤ 37 := by omega
    have hk' : k' ≤ 1 := by omega
    have eA : IntKind.u64.wrap ((k : Int) + (k' : Int)) = (A : Int) := by rw [IntKind.wrap_u64]; omega
    have HV4 : Hid (val [a, b, c, d, a', b', c', d'] = val [r', s', t', u'] + A * 115792089237316195423570985008687907853269984665640564039457584007913129639936 + 57896044618658097711785492504343953926634992332820282019728792003956564819949 * (2 * val [a', b', c', d']) ∧ A ≤ 38) := by
      show _ ∧ _
      rw [val8]; simp only [val4]; omega
    have hz3a : w.heap.size + 1 + 1 + 1 + 1 ≤ w4.heap.size := by have := hb4.size; simp at this; omega
    clear hv3 hv4 hb4 HV3 hA hk hk' HLo3 HO3 HB3 hz3 hz3'
    go_wp2
    go_loopg [5] 2 (fun gk ab wr => ∃ (A x0 x1 x2 x3 cc : Nat), ab = .int .u64 (A : Int) ∧ A ≤ 38 ∧ (x0 < 18446744073709551616 ∧ x1 < 18446744073709551616 ∧ x2 < 18446744073709551616 ∧ x3 < 18446744073709551616) ∧ val [a, b, c, d, a', b', c', d'] = val [x0, x1, x2, x3] + A * 115792089237316195423570985008687907853269984665640564039457584007913129639936 + 57896044618658097711785492504343953926634992332820282019728792003956564819949 * cc ∧ (gk = 0 → A = 0) ∧ (gk = 1 → A = 0 ∨ val [x0, x1, x2, x3] < 4096) ∧ wr.heap[w4.heap.size]? = some (.cells #[.int .u64 (x0 : Int), .int .u64 (x1 : Int), .int .u64 (x2 : Int), .int .u64 (x3 : Int)] 26 (0,0)) ∧ wr.heap[w.heap.size + 1]? = some (.cells #[.int .u64 0, .int .u64 0, .int .u64 0, .int .u64 0] 26 (0,0)) ∧ w4.heap.size < wr.heap.size ∧ Below w.heap.size w wr)
    case atStart =>
      refine ⟨A, r', s', t', u', _, rfl, HV4.out.2, ⟨hr', hs', ht', hu'⟩, HV4.out.1, by omega, by omega, ?_, ?_, by simp, HB4.out.alloc (by omega) _⟩
      · exact heap_alloc_last _ _
      · rw [Below.heap_alloc _ _ _ (by omega)]; exact HO4.out
    case round =>
      clear HV4 HO4 HB4 eA hr hs ht hu hr' hs' ht' hu'
      obtain ⟨A1, x0, x1, x2, x3, cc, rfl, hA1, hx, hval, hg0, hg1, hrow, ho, hlt, hbe⟩ := hrel
      have HR := hide hrow
      have HO := hide ho
      have HB := hide hbe
      have HV := hide hval
      have HG := hide (And.intro hg0 hg1)
      obtain ⟨z1, z2⟩ := row_reads hrow
      obtain ⟨z3, z4⟩ := row_reads ho
      clear hrow ho hbe hval hg0 hg1
      by_cases hA0 : A1 = 0
      · subst hA0
        go_wp2_with fail
        clear z1 z2 z3 z4
        refine (reduce_four x0 x1 x2 x3 hx _).mono ?_
        rintro e w5 ⟨q0, q1, q2, q3, rfl, hq, hv5, hb5⟩
        have HO5 := hide (Below.heap hb5 (by omega) HO.out)
        have HB5 := hide (HB.out.trans (hb5.mono (by omega)))
        have HV5 := hide hv5
        obtain ⟨z1, z2⟩ := row_reads HO5.out
        clear hv5 hb5
        go_wp2
        refine bodyPost_ret_by (results_cell_row rfl _ _ (w.heap.size + 1) 26 _ (0, 0) (.array 4 24) rfl (set4_row HO5.out) und26 rfl (by kernel_rfl)) rfl ⟨[q0, q1, q2, q3], rfl, rfl, lim4_mk hq, ?_, ?_⟩
        · rw [HV5.out, HV.out, Nat.zero_mul, Nat.add_zero, Nat.add_mul_mod_self_left]
        · exact Below.set4 HB5.out (g := w.heap.size + 1) (by omega) _ _ _ _
      · obtain ⟨m, hm⟩ : ∃ m, 38 * A1 = m := ⟨_, rfl⟩
        have em : IntKind.u64.wrap (38 * (A1 : Int)) = (m : Int) := by rw [IntKind.wrap_u64]; omega
        have hne : ¬ (A1 : Int) = 0 := by omega
        have HM := hide hm
        clear hm
        go_wp2_with fail
        clear z1 z3 z4
        refine (add_four x0 x1 x2 x3 m 0 0 0 hx ⟨by have := HM.out; omega, by decide, by decide, by decide⟩ _).mono ?_
        rintro e w5 ⟨q0, q1, q2, q3, kk, rfl, hq, hv5, hb5⟩
        have HR5 := hide (Below.heap hb5 hlt HR.out)
        have HO5 := hide (Below.heap hb5 (by omega) HO.out)
        have HB5 := hide (HB.out.trans (hb5.mono (by omega)))
        have hz5 : w4.heap.size < w5.heap.size := by have := hb5.size; omega
        have HV5 := hide hv5
        obtain ⟨z1, z2⟩ := row_reads HR5.out
        clear hv5 hb5 em
        go_wp2
        have hgs : gk ≠ 0 := fun h => hA0 (HG.out.1 h)
        have hv := HV5.out
        have hvv := HV.out
        have hm := HM.out
        rw [val8] at hvv
        simp only [val4] at hv hvv
        have hg1 := HG.out.2
        simp only [val4] at hg1
        have hkk : kk ≤ 1 := by omega
        go_roundg (if gk = 1 then 0 else 1)
        case measure => split <;> omega
        case rel =>
          refine ⟨kk, q0, q1, q2, q3, cc + 2 * A1, rfl, by omega, hq, by rw [val8]; simp only [val4]; omega, ?_, ?_, set4_row HR5.out, ?_, by simpa using hz5, Below.set4 HB5.out (by omega) _ _ _ _⟩
          · intro h0
            have : gk = 1 := by split at h0 <;> omega
            rcases hg1 this with h | h <;> omega
          · intro _
            simp only [val4]
            omega
          · rw [set4_other _ _ _ _ (by omega)]; exact HO5.out
  · have HLo := hide (show ((W.alloc (.cells #[.int .u64 (a' : Int), .int .u64 (b' : Int), .int .u64 (c' : Int), .int .u64 (d' : Int)] 26)).alloc (.cells #[.int .u64 (a : Int), .int .u64 (b : Int), .int .u64 (c : Int), .int .u64 (d : Int)] 26)).drew.heap[(w.heap.size + 1 + 1 + 1)]? = some (.cells #[.int .u64 (a : Int), .int .u64 (b : Int), .int .u64 (c : Int), .int .u64 (d : Int)] 26 (0,0)) from by show ((W.alloc _).alloc _).heap[_]? = _; rw [← hS]; exact heap2_1 _ _ _)
    have HHi := hide (show ((W.alloc (.cells #[.int .u64 (a' : Int), .int .u64 (b' : Int), .int .u64 (c' : Int), .int .u64 (d' : Int)] 26)).alloc (.cells #[.int .u64 (a : Int), .int .u64 (b : Int), .int .u64 (c : Int), .int .u64 (d : Int)] 26)).drew.heap[(w.heap.size + 1 + 1)]? = some (.cells #[.int .u64 (a' : Int), .int .u64 (b' : Int), .int .u64 (c' : Int), .int .u64 (d' : Int)] 26 (0,0)) from by show ((W.alloc _).alloc _).heap[_]? = _; rw [← hS]; exact heap2_0 _ _ _)
    have HO2 := hide (heap4_0 W (.cells #[.int .u64 (a' : Int), .int .u64 (b' : Int), .int .u64 (c' : Int), .int .u64 (d' : Int)] 26) (.cells #[.int .u64 (a : Int), .int .u64 (b : Int), .int .u64 (c : Int), .int .u64 (d : Int)] 26) _ _ HO.out (by omega))
    have HB2 := hide (((HB.out.alloc (by omega) (.cells #[.int .u64 (a' : Int), .int .u64 (b' : Int), .int .u64 (c' : Int), .int .u64 (d' : Int)] 26)).alloc (by simp; omega) (.cells #[.int .u64 (a : Int), .int .u64 (b : Int), .int .u64 (c : Int), .int .u64 (d : Int)] 26)).drew)
    have hS2 : ((W.alloc (.cells #[.int .u64 (a' : Int), .int .u64 (b' : Int), .int .u64 (c' : Int), .int .u64 (d' : Int)] 26)).alloc (.cells #[.int .u64 (a : Int), .int .u64 (b : Int), .int .u64 (c : Int), .int .u64 (d : Int)] 26)).drew.heap.size = w.heap.size + 1 + 1 + 1 + 1 := by show ((W.alloc _).alloc _).heap.size = _; simp; omega
    clear k0 k1 k2 k3 k4 k5 k6 k7 n0 n1 n2 n3 n4 n5 n6 n7
    rename_i hHeld
    clear hHeld
    generalize ((W.alloc (.cells #[.int .u64 (a' : Int), .int .u64 (b' : Int), .int .u64 (c' : Int), .int .u64 (d' : Int)] 26)).alloc (.cells #[.int .u64 (a : Int), .int .u64 (b : Int), .int .u64 (c : Int), .int .u64 (d : Int)] 26)).drew = W2 at *
    obtain ⟨x1, y1⟩ := row_reads HHi.out
    clear hS HA HO HB
    go_wp2_with fail
    clear x1 y1
    refine (scale_four a' b' c' d' 38 ⟨h4, h5, h6, h7⟩ (by decide) _).mono ?_
    rintro e w3 ⟨r, s, t, u, k, rfl, ⟨hr, hs, ht, hu⟩, hv3, hb3⟩
    have HLo3 := hide (Below.heap hb3 (by omega) HLo.out)
    have HO3 := hide (Below.heap hb3 (by omega) HO2.out)
    have HB3 := hide (HB2.out.trans (hb3.mono (by omega)))
    have hz3 : w.heap.size + 1 + 1 + 1 < w3.heap.size := by have := hb3.size; omega
    have hz3' : w.heap.size + 1 + 1 < w3.heap.size := by omega
    have HV3 := hide hv3
    obtain ⟨x1, y1⟩ := row_reads HLo3.out
    clear hv3 hb3 hS2 HLo HHi HO2 HB2
    go_wp2_with fail
    clear x1 y1
    refine (add_four a b c d r s t u ⟨h0, h1, h2, h3⟩ ⟨hr, hs, ht, hu⟩ _).mono ?_
    rintro e w4 ⟨r', s', t', u', k', rfl, ⟨hr', hs', ht', hu'⟩, hv4, hb4⟩
    have HO4 := hide (Below.heap hb4 (g := w.heap.size + 1) (by simp; omega) ((Below.heap_alloc _ _ _ (by omega)).trans HO3.out))
    have HB4 := hide ((HB3.out.alloc (by omega) _).trans (hb4.mono (by simp; omega)))
    have hz4 : w.heap.size + 1 < w4.heap.size := by have := hb4.size; simp at this; omega
    obtain ⟨A, hA⟩ : ∃ A, k + k' = A := ⟨_, rfl⟩
    have hv3 := HV3.out
    simp only [val4] at hv3 hv4
    have hk : k ≤ 37 := by omega
    have hk' : k' ≤ 1 := by omega
    have eA : IntKind.u64.wrap ((k : Int) + (k' : Int)) = (A : Int) := by rw [IntKind.wrap_u64]; omega
    have HV4 : Hid (val [a, b, c, d, a', b', c', d'] = val [r', s', t', u'] + A * 115792089237316195423570985008687907853269984665640564039457584007913129639936 + 57896044618658097711785492504343953926634992332820282019728792003956564819949 * (2 * val [a', b', c', d']) ∧ A ≤ 38) := by
      show _ ∧ _
      rw [val8]; simp only [val4]; omega
    have hz3a : w.heap.size + 1 + 1 + 1 + 1 ≤ w4.heap.size := by have := hb4.size; simp at this; omega
    clear hv3 hv4 hb4 HV3 hA hk hk' HLo3 HO3 HB3 hz3 hz3'
    go_wp2
    go_loopg [5] 2 (fun gk ab wr => ∃ (A x0 x1 x2 x3 cc : Nat), ab = .int .u64 (A : Int) ∧ A ≤ 38 ∧ (x0 < 18446744073709551616 ∧ x1 < 18446744073709551616 ∧ x2 < 18446744073709551616 ∧ x3 < 18446744073709551616) ∧ val [a, b, c, d, a', b', c', d'] = val [x0, x1, x2, x3] + A * 115792089237316195423570985008687907853269984665640564039457584007913129639936 + 57896044618658097711785492504343953926634992332820282019728792003956564819949 * cc ∧ (gk = 0 → A = 0) ∧ (gk = 1 → A = 0 ∨ val [x0, x1, x2, x3] < 4096) ∧ wr.heap[w4.heap.size]? = some (.cells #[.int .u64 (x0 : Int), .int .u64 (x1 : Int), .int .u64 (x2 : Int), .int .u64 (x3 : Int)] 26 (0,0)) ∧ wr.heap[w.heap.size + 1]? = some (.cells #[.int .u64 0, .int .u64 0, .int .u64 0, .int .u64 0] 26 (0,0)) ∧ w4.heap.size < wr.heap.size ∧ Below w.heap.size w wr)
    case atStart =>
      refine ⟨A, r', s', t', u', _, rfl, HV4.out.2, ⟨hr', hs', ht', hu'⟩, HV4.out.1, by omega, by omega, ?_, ?_, by simp, HB4.out.alloc (by omega) _⟩
      · exact heap_alloc_last _ _
      · rw [Below.heap_alloc _ _ _ (by omega)]; exact HO4.out
    case round =>
      clear HV4 HO4 HB4 eA hr hs ht hu hr' hs' ht' hu'
      obtain ⟨A1, x0, x1, x2, x3, cc, rfl, hA1, hx, hval, hg0, hg1, hrow, ho, hlt, hbe⟩ := hrel
      have HR := hide hrow
      have HO := hide ho
      have HB := hide hbe
      have HV := hide hval
      have HG := hide (And.intro hg0 hg1)
      obtain ⟨z1, z2⟩ := row_reads hrow
      obtain ⟨z3, z4⟩ := row_reads ho
      clear hrow ho hbe hval hg0 hg1
      by_cases hA0 : A1 = 0
      · subst hA0
        go_wp2_with fail
        clear z1 z2 z3 z4
        refine (reduce_four x0 x1 x2 x3 hx _).mono ?_
        rintro e w5 ⟨q0, q1, q2, q3, rfl, hq, hv5, hb5⟩
        have HO5 := hide (Below.heap hb5 (by omega) HO.out)
        have HB5 := hide (HB.out.trans (hb5.mono (by omega)))
        have HV5 := hide hv5
        obtain ⟨z1, z2⟩ := row_reads HO5.out
        clear hv5 hb5
        go_wp2
        refine bodyPost_ret_by (results_cell_row rfl _ _ (w.heap.size + 1) 26 _ (0, 0) (.array 4 24) rfl (set4_row HO5.out) und26 rfl (by kernel_rfl)) rfl ⟨[q0, q1, q2, q3], rfl, rfl, lim4_mk hq, ?_, ?_⟩
        · rw [HV5.out, HV.out, Nat.zero_mul, Nat.add_zero, Nat.add_mul_mod_self_left]
        · exact Below.set4 HB5.out (g := w.heap.size + 1) (by omega) _ _ _ _
      · obtain ⟨m, hm⟩ : ∃ m, 38 * A1 = m := ⟨_, rfl⟩
        have em : IntKind.u64.wrap (38 * (A1 : Int)) = (m : Int) := by rw [IntKind.wrap_u64]; omega
        have hne : ¬ (A1 : Int) = 0 := by omega
        have HM := hide hm
        clear hm
        go_wp2_with fail
        clear z1 z3 z4
        refine (add_four x0 x1 x2 x3 m 0 0 0 hx ⟨by have := HM.out; omega, by decide, by decide, by decide⟩ _).mono ?_
        rintro e w5 ⟨q0, q1, q2, q3, kk, rfl, hq, hv5, hb5⟩
        have HR5 := hide (Below.heap hb5 hlt HR.out)
        have HO5 := hide (Below.heap hb5 (by omega) HO.out)
        have HB5 := hide (HB.out.trans (hb5.mono (by omega)))
        have hz5 : w4.heap.size < w5.heap.size := by have := hb5.size; omega
        have HV5 := hide hv5
        obtain ⟨z1, z2⟩ := row_reads HR5.out
        clear hv5 hb5 em
        go_wp2
        have hgs : gk ≠ 0 := fun h => hA0 (HG.out.1 h)
        have hv := HV5.out
        have hvv := HV.out
        have hm := HM.out
        rw [val8] at hvv
        simp only [val4] at hv hvv
        have hg1 := HG.out.2
        simp only [val4] at hg1
        have hkk : kk ≤ 1 := by omega
        go_roundg (if gk = 1 then 0 else 1)
        case measure => split <;> omega
        case rel =>
          refine ⟨kk, q0, q1, q2, q3, cc + 2 * A1, rfl, by omega, hq, by rw [val8]; simp only [val4]; omega, ?_, ?_, set4_row HR5.out, ?_, by simpa using hz5, Below.set4 HB5.out (by omega) _ _ _ _⟩
          · intro h0
            have : gk = 1 := by split at h0 <;> omega
            rcases hg1 this with h | h <;> omega
          · intro _
            simp only [val4]
            omega
          · rw [set4_other _ _ _ _ (by omega)]; exact HO5.out
end Go.Proofs.YteplbagjagimdaaDoor
