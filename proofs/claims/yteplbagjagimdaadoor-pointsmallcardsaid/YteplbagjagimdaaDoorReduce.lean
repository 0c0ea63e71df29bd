/- A row of words modulo p, and a double row modulo p: as the program's calls answer them, in any world. -/
import Derived.Test.YteplbagjagimdaaDoorTimes
namespace Go.Proofs.YteplbagjagimdaaDoor
open Go.RowKit
theorem bcell {W w1 : World} (hb : Below W.heap.size W w1) : (∀ b o, b < W.heap.size → w1.cell? ⟨b, o, none⟩ = W.cell? ⟨b, o, none⟩) ∧ (∀ b o, b < W.heap.size → w1.frozen? ⟨b, o, none⟩ = W.frozen? ⟨b, o, none⟩) :=
  ⟨fun b o h => hb.cell (p := ⟨b, o, none⟩) h, fun b o h => hb.frozen (p := ⟨b, o, none⟩) h⟩
theorem Below.row {B : Nat} {W w1 : World} (h : Below B W w1) {g : Nat} {cs : Array Value} {t : TypeId} (hg : g < B) (hr : W.heap[g]? = some (.cells cs t (0, 0))) :
    (∀ i, w1.cell? ⟨g, i, none⟩ = cs[i]?) ∧ (∀ i, w1.frozen? ⟨g, i, none⟩ = false) := by
  have h1 := (h.block g hg).trans hr
  exact ⟨fun i => cell_of_row _ _ _ _ _ _ h1, fun i => frozen_of_row _ _ _ _ _ h1⟩
theorem heap2_0 (w : World) (a b : Obj) : ((w.alloc a).alloc b).heap[w.heap.size]? = some a := by
  rw [Below.heap_alloc _ _ _ (by simp), heap_alloc_last]
theorem heap2_1 (w : World) (a b : Obj) : ((w.alloc a).alloc b).heap[w.heap.size + 1]? = some b := by
  have h := heap_alloc_last (w.alloc a) b
  simpa using h
theorem below2 (w : World) (a b : Obj) : Below w.heap.size w ((w.alloc a).alloc b) :=
  ((Below.refl _ _).alloc (Nat.le_refl _) _).alloc (by simp) _
theorem set4_row {w : World} {g : Nat} {x0 x1 x2 x3 v0 v1 v2 v3 : Value} {t : TypeId} (h : w.heap[g]? = some (.cells #[x0, x1, x2, x3] t (0, 0))) :
    ((((w.setCell ⟨g, 0, none⟩ v0).setCell ⟨g, 1, none⟩ v1).setCell ⟨g, 2, none⟩ v2).setCell ⟨g, 3, none⟩ v3).heap[g]? = some (.cells #[v0, v1, v2, v3] t (0, 0)) := by
  have h1 := heap_setCell_same w g 0 _ t v0 h
  have h2 := heap_setCell_same _ g 1 _ t v1 h1
  have h3 := heap_setCell_same _ g 2 _ t v2 h2
  exact heap_setCell_same _ g 3 _ t v3 h3
theorem set4_other {w : World} {g k : Nat} (v0 v1 v2 v3 : Value) (h : k ≠ g) :
    ((((w.setCell ⟨g, 0, none⟩ v0).setCell ⟨g, 1, none⟩ v1).setCell ⟨g, 2, none⟩ v2).setCell ⟨g, 3, none⟩ v3).heap[k]? = w.heap[k]? := by
  rw [heap_setCell_other _ _ _ _ (by simpa using h), heap_setCell_other _ _ _ _ (by simpa using h), heap_setCell_other _ _ _ _ (by simpa using h), heap_setCell_other _ _ _ _ (by simpa using h)]
theorem Below.set4 {B : Nat} {a w : World} (h : Below B a w) {g : Nat} (hg : B ≤ g) (v0 v1 v2 v3 : Value) :
    Below B a ((((w.setCell ⟨g, 0, none⟩ v0).setCell ⟨g, 1, none⟩ v1).setCell ⟨g, 2, none⟩ v2).setCell ⟨g, 3, none⟩ v3) :=
  (((h.setCell hg _).setCell hg _).setCell hg _).setCell hg _
theorem Below.heap {B : Nat} {W w1 : World} (h : Below B W w1) {g : Nat} {o : Obj} (hg : g < B) (hr : W.heap[g]? = some o) : w1.heap[g]? = some o := (h.block g hg).trans hr
theorem row_reads {w : World} {g : Nat} {cs : Array Value} {t : TypeId} (h : w.heap[g]? = some (.cells cs t (0, 0))) : (∀ i, w.cell? ⟨g, i, none⟩ = cs[i]?) ∧ (∀ i, w.frozen? ⟨g, i, none⟩ = false) :=
  ⟨fun _ => cell_of_row _ _ _ _ _ _ h, fun _ => frozen_of_row _ _ _ _ _ h⟩
/-- What is taken modulo p. -/
theorem reduce_low {V h w1 : Nat} (hV : V = w1 + 57896044618658097711785492504343953926634992332820282019728792003956564819949 * h) (hw : w1 < 57896044618658097711785492504343953926634992332820282019728792003956564819949) : w1 = V % 57896044618658097711785492504343953926634992332820282019728792003956564819949 := by
  rw [hV, Nat.add_mul_mod_self_left, Nat.mod_eq_of_lt hw]
/-- A sum of two rows, word by word. -/
theorem add_four (a b c d a' b' c' d' : Nat) (h : a < 18446744073709551616 ∧ b < 18446744073709551616 ∧ c < 18446744073709551616 ∧ d < 18446744073709551616) (h' : a' < 18446744073709551616 ∧ b' < 18446744073709551616 ∧ c' < 18446744073709551616 ∧ d' < 18446744073709551616) (w : World) :
    Calls Tryd.prog 80 #[.agg #[.int .u64 (a : Int), .int .u64 (b : Int), .int .u64 (c : Int), .int .u64 (d : Int)], .agg #[.int .u64 (a' : Int), .int .u64 (b' : Int), .int .u64 (c' : Int), .int .u64 (d' : Int)]] w fun e w' =>
      ∃ r s t u k : Nat, e = .returned (.tuple #[.agg #[.int .u64 (r : Int), .int .u64 (s : Int), .int .u64 (t : Int), .int .u64 (u : Int)], .int .u64 (k : Int)]) ∧ (r < 18446744073709551616 ∧ s < 18446744073709551616 ∧ t < 18446744073709551616 ∧ u < 18446744073709551616) ∧
        val [r, s, t, u] + k * 115792089237316195423570985008687907853269984665640564039457584007913129639936 = val [a, b, c, d] + val [a', b', c', d'] ∧ Below w.heap.size w w' := by
  refine (add_list [a, b, c, d] [a', b', c', d'] rfl rfl (lim4_mk h) (lim4_mk h') w).mono ?_
  rintro e w' ⟨l, k, rfl, hl, hlim, hv, hb⟩
  obtain ⟨r, s, t, u, rfl⟩ := four hl
  exact ⟨r, s, t, u, k, rfl, lim4 hlim, hv, hb⟩
set_option maxRecDepth 100000 in
set_option maxHeartbeats 2000000 in
theorem reduce_list (l : List Nat) (hl : l.length = 4) (hlim : lim l) (w : World) :
    Calls Tryd.prog 73 #[.agg (na l)] w fun e w' => ∃ (r : List Nat), e = .returned (.agg (na r)) ∧ r.length = 4 ∧ lim r ∧ val r = val l % 57896044618658097711785492504343953926634992332820282019728792003956564819949 ∧ Below w.heap.size w w' := by
  obtain ⟨a, b, c, d, rfl⟩ := four hl
  obtain ⟨ha, hb, hc, hd⟩ := lim4 hlim
  rw [val4, na4]
  clear hlim hl
  obtain ⟨h, hh⟩ : ∃ h, d / 9223372036854775808 = h := ⟨_, rfl⟩
  obtain ⟨m, hm⟩ : ∃ m, d % 9223372036854775808 = m := ⟨_, rfl⟩
  obtain ⟨g, hg⟩ : ∃ g, 19 * h = g := ⟨_, rfl⟩
  have e1 : (d : Int) / 9223372036854775808 = (h : Int) := by omega
  have e2 : (d : Int) % 9223372036854775808 = (m : Int) := by omega
  have e3 : IntKind.u64.wrap (19 * (h : Int)) = (g : Int) := by rw [IntKind.wrap_u64]; omega
  have HH := hide hh
  have HM := hide hm
  have HG := hide hg
  clear hh hm hg
  go_enter Tryd.func73, Tryd.ntmps73
  go_wp2_with fail
  refine (add_four a b c m g 0 0 0 ⟨ha, hb, hc, by have := HM.out; omega⟩ ⟨by have := HG.out; have := HH.out; omega, by decide, by decide, by decide⟩ _).mono ?_
  rintro e w1 ⟨r, s, t, u, k, rfl, ⟨hr, hs, ht, hu⟩, hv1, hb1⟩
  have HB1 := hide ((below2 _ _ _).trans (hb1.mono (by simp; omega)))
  have HA1 := hide (Below.heap hb1 (g := w.heap.size) (by simp; omega) (heap2_0 _ _ _))
  have HO1 := hide (Below.heap hb1 (g := w.heap.size + 1) (by simp) (heap2_1 _ _ _))
  have hz1 : w.heap.size + 1 < w1.heap.size := by have := hb1.size; simp at this; omega
  obtain ⟨x1, y1⟩ := row_reads HA1.out
  have HV1 := hide hv1
  clear hv1 hb1
  go_wp2_with fail
  clear x1 y1
  refine (add_four r s t u 19 0 0 0 ⟨hr, hs, ht, hu⟩ (by decide) _).mono ?_
  rintro e w2 ⟨r', s', t', u', k', rfl, ⟨hr', hs', ht', hu'⟩, hv2, hb2⟩
  simp only [World.size_setCell] at hb2
  have HA2 := hide (Below.heap hb2 (g := w.heap.size) (by omega) (set4_row HA1.out))
  have HO2 := hide (Below.heap hb2 (g := w.heap.size + 1) hz1 ((set4_other _ _ _ _ (by simp)).trans HO1.out))
  have hz2 : w.heap.size + 1 < w2.heap.size := by have := hb2.size; simp at this; omega
  have HB2 := hide ((Below.set4 HB1.out (Nat.le_refl _) _ _ _ _).trans (hb2.mono (by omega)))
  obtain ⟨x1, y1⟩ := row_reads HA2.out
  obtain ⟨x2, y2⟩ := row_reads HO2.out
  have HV2 := hide hv2
  clear hv2 hb2 HA1 HO1
  have HL : Hid _ := And.intro HH.out (And.intro HM.out (And.intro HG.out (And.intro HV1.out HV2.out)))
  clear HH HM HG HV1 HV2 e1 e2 e3
  have hz3 : w.heap.size < w2.heap.size := by omega
  by_cases hlt : u' < 9223372036854775808
  · have hdec : decide ((u' : Int) < 9223372036854775808) = true := decide_eq_true (by omega)
    have HLT := hide hlt
    clear hlt
    go_wp2
    refine bodyPost_ret_by (results_cell_row rfl _ _ (w.heap.size + 1) 26 _ (0, 0) (.array 4 24) rfl (by rw [Below.heap_alloc _ _ _ (by simpa using hz2)]; exact set4_row HO2.out) und26 rfl (by kernel_rfl)) rfl ⟨[r, s, t, u], rfl, rfl, lim4_mk ⟨hr, hs, ht, hu⟩, ?_, ?_⟩
    · obtain ⟨l1, l2, l3, l4, l5⟩ := HL.out
      have := HLT.out
      simp only [val4] at l4 l5 ⊢
      have hh1 : h ≤ 1 := by omega
      have hk0 : k = 0 := by omega
      subst hk0
      have hk1 : k' = 0 := by omega
      subst hk1
      exact reduce_low (h := h) (by omega) (by omega)
    · exact (Below.set4 HB2.out (g := w.heap.size + 1) (by omega) _ _ _ _).alloc (by simp; omega) _
  · have hdec : decide ((u' : Int) < 9223372036854775808) = false := decide_eq_false (by omega)
    obtain ⟨v, hv⟩ : ∃ v, u' = v + 9223372036854775808 := ⟨u' - 9223372036854775808, by omega⟩
    have e4 : IntKind.u64.wrap ((u' : Int) - 9223372036854775808) = (v : Int) := by rw [IntKind.wrap_u64]; omega
    have HVV := hide hv
    clear hlt hv
    go_wp2
    refine bodyPost_ret_by (results_cell_row rfl _ _ (w.heap.size + 1) 26 _ (0, 0) (.array 4 24) rfl (by rw [Below.heap_alloc _ _ _ (by simpa using hz2)]; exact set4_row HO2.out) und26 rfl (by kernel_rfl)) rfl ⟨[r', s', t', v], rfl, rfl, lim4_mk ⟨hr', hs', ht', by have := HVV.out; omega⟩, ?_, ?_⟩
    · obtain ⟨l1, l2, l3, l4, l5⟩ := HL.out
      have := HVV.out
      simp only [val4] at l4 l5 ⊢
      have hh1 : h ≤ 1 := by omega
      have hk0 : k = 0 := by omega
      subst hk0
      have hk1 : k' = 0 := by omega
      subst hk1
      exact reduce_low (h := h + 1) (by omega) (by omega)
    · exact (Below.set4 HB2.out (g := w.heap.size + 1) (by omega) _ _ _ _).alloc (by simp; omega) _
theorem reduce_four (a b c d : Nat) (h : a < 18446744073709551616 ∧ b < 18446744073709551616 ∧ c < 18446744073709551616 ∧ d < 18446744073709551616) (w : World) :
    Calls Tryd.prog 73 #[.agg #[.int .u64 (a : Int), .int .u64 (b : Int), .int .u64 (c : Int), .int .u64 (d : Int)]] w fun e w' =>
      ∃ r s t u : Nat, e = .returned (.agg #[.int .u64 (r : Int), .int .u64 (s : Int), .int .u64 (t : Int), .int .u64 (u : Int)]) ∧ (r < 18446744073709551616 ∧ s < 18446744073709551616 ∧ t < 18446744073709551616 ∧ u < 18446744073709551616) ∧
        val [r, s, t, u] = val [a, b, c, d] % 57896044618658097711785492504343953926634992332820282019728792003956564819949 ∧ Below w.heap.size w w' := by
  refine (reduce_list [a, b, c, d] rfl (lim4_mk h) w).mono ?_
  rintro e w' ⟨l, rfl, hl, hlim, hv, hb⟩
  obtain ⟨r, s, t, u, rfl⟩ := four hl
  exact ⟨r, s, t, u, rfl, lim4 hlim, hv, hb⟩
end Go.Proofs.YteplbagjagimdaaDoor
