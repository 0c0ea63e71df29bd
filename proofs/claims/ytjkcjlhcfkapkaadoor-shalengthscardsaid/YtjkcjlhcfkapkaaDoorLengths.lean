/- ShaLengths' body: it answers true, for any number and byte, with the tables as the text lays them. -/
import Derived.Test.YtjkcjlhcfkapkaaDoorRef
import Derived.Test.YtjkcjlhcfkapkaaDoorDrawn
namespace Go.Proofs.YtjkcjlhcfkapkaaDoor
open Go.RowKit
/-- The bytes that the law lays; the row while it is laid. -/
def lx (x : UInt8) (i : Nat) : UInt8 := x + UInt8.ofNat i
def pre (x : UInt8) (k : Nat) : List UInt8 := (List.range k).map (lx x)
def cur (x : UInt8) (N k : Nat) : List UInt8 := pre x k ++ List.replicate (N - k) 0
theorem pre_len (x : UInt8) (k : Nat) : (pre x k).length = k := by simp [pre]
theorem pre_succ (x : UInt8) (k : Nat) : pre x (k + 1) = pre x k ++ [lx x k] := by simp [pre, List.range_succ]
theorem cur_len (x : UInt8) (N k : Nat) (h : k ≤ N) : (cur x N k).length = N := by simp [cur, pre_len]; omega
theorem cur_zero (x : UInt8) (N : Nat) : cur x N 0 = List.replicate N 0 := by simp [cur, pre]
theorem cur_end (x : UInt8) (N : Nat) : cur x N N = pre x N := by simp [cur]
theorem cur_set (x : UInt8) (N k : Nat) (h : k < N) : (cur x N k).set k (lx x k) = cur x N (k + 1) := by
  obtain ⟨d, rfl⟩ : ∃ d, N = k + 1 + d := ⟨N - (k + 1), by omega⟩
  have e1 : k + 1 + d - k = d + 1 := by omega
  have e2 : k + 1 + d - (k + 1) = d := by omega
  rw [cur, cur, e1, e2, List.set_append_right _ _ (by rw [pre_len]; omega), pre_len, Nat.sub_self, List.replicate_succ, List.set_cons_zero, pre_succ, List.append_assoc]
  rfl
theorem ba_set (l : List UInt8) (i : Nat) (x : UInt8) : (ba l).setIfInBounds i (.int .u8 (bn x)) = ba (l.set i x) := by simp [ba, bc, List.map_set]
theorem lx_mod (x : UInt8) (k : Nat) : (bn x + (k : Int) % 256) % 256 = bn (lx x k) := by
  unfold bn lx; rw [UInt8.toNat_add, UInt8.toNat_ofNat']; omega
theorem lx_get (x : UInt8) (N k : Nat) (h : k < N) : (cur x N (k + 1)).getD k 0 = lx x k := by
  rw [← cur_set x N k h, List.getD_eq_getElem?_getD, List.getElem?_set_self (by rw [cur_len x N k (by omega)]; exact h)]; rfl
set_option linter.unusedSimpArgs false in
set_option maxRecDepth 100000 in
set_option maxHeartbeats 4000000 in
theorem shaLengths_any (n : Int) (x : UInt8) (w : World) (ht : Tabs w) :
    Calls Tryd.prog 6 #[.int .i64 n, .int .u8 (bn x)] w fun e w' => e = .returned (.bool true) ∧ Below w.heap.size w w' := by
  obtain ⟨i0, hi, hz0, hz1, hz5⟩ := info_parts info5
  obtain ⟨N, hN, hN2⟩ : ∃ N : Nat, IntKind.u64.wrap n % 300 = (N : Int) ∧ N < 300 := ⟨(IntKind.u64.wrap n % 300).toNat, by rw [IntKind.wrap_u64]; omega, by rw [IntKind.wrap_u64]; omega⟩
  have hmk : ∀ w, (Instr.makeSlice 22 (.int .i64 (N : Int)) (.int .i64 (N : Int))).run Tryd.prog w = .ok (.slice (some ⟨w.heap.size, 0, none⟩) N N) (w.alloc (.cells (zb N) 5)) := by
    intro w
    have h := run_make (P := Tryd.prog) w 22 5 i0 (.int .u8 0) und22 hi hz0 .i64 .i64 (N : Int) (N : Int) (by omega) (by omega) (by rw [hz5]; omega) (by omega)
    rw [h, hz1, show ((N : Int)).toNat = N by omega, Nat.mul_one]
    show Result.ok _ (w.alloc (.cells (madeCells #[.int .u8 0] N) 5)) = _
    rw [zb_made]
  have hNt : (IntKind.u64.wrap n).tmod 300 = (N : Int) := by rw [Int.tmod_eq_emod_of_nonneg (by rw [IntKind.wrap_u64]; omega)]; exact hN
  have hNw : IntKind.i64.wrap (N : Int) = (N : Int) := by rw [IntKind.wrap_i64]; omega
  have HT := hide ht
  clear ht hi hz0 hz1 hz5
  go_enter Tryd.func6, Tryd.ntmps6
  go_wp2_with fail
  obtain ⟨W0, hW0⟩ : ∃ W0, W0 = w.alloc (.cells (zb N) 5) := ⟨_, rfl⟩
  have r0 : W0.heap[w.heap.size]? = some (.cells (ba (cur x N 0)) 5 (0, 0)) := by rw [hW0, cur_zero]; exact heap_alloc_last _ _
  have s0 : W0.heap.size = w.heap.size + 1 := by rw [hW0]; simp
  have e0 : Ext w W0 := by rw [hW0]; exact below1 _ _
  rw [← hW0]
  clear hW0 hmk hN hNt hNw
  refine (new_any W0).mono ?_
  rintro e w1 ⟨rfl, h1, hb1, hs1⟩
  have r1 : w1.heap[w.heap.size]? = some (.cells (ba (cur x N 0)) 5 (0, 0)) := (hb1.block _ (by omega)).trans r0
  have e1 : Ext w w1 := e0.trans hb1
  have hh1 : Hashed w1 (w.heap.size + 1) [] := by rw [← s0]; exact ⟨_, _, _, h1, HInv.zero⟩
  rw [s0]
  have HI := hide (And.intro r1 (And.intro e1 hh1))
  clear r0 s0 e0 h1 hb1 hs1 r1 e1 hh1
  go_wp2
  go_loopw [18] (fun iv wr => ∃ k : Nat, k ≤ N ∧ iv = .int .i64 k ∧ wr.heap[w.heap.size]? = some (.cells (ba (cur x N k)) 5 (0, 0)) ∧ Ext w wr ∧ Hashed wr (w.heap.size + 1) (pre x k)) (fun i _ => N - (intOf i).toNat)
  case atStart => exact ⟨0, by omega, rfl, HI.out⟩
  case round =>
    clear HI
    obtain ⟨k, hk, rfl, hr, he, hh⟩ := hrel
    by_cases hlt : k < N
    · have hcell : wr.cell? ⟨w.heap.size, k, none⟩ = some (.int .u8 (bn ((cur x N k).getD k 0))) := by
        rw [cell_of_row _ _ _ _ _ _ hr, ba_get _ _ (by rw [cur_len x N k hk]; exact hlt)]
      have hfro : wr.frozen? ⟨w.heap.size, k, none⟩ = false := frozen_of_row _ _ _ _ _ hr
      have HR := hide (And.intro hr (And.intro he hh))
      clear hr he hh
      generalize (cur x N k).getD k 0 = y at hcell
      have hlx := lx_mod x k
      generalize hb : lx x k = b at hlx
      have HB := hide hb
      obtain ⟨r, hrr⟩ : ∃ r : Int, (k : Int) % 256 = r := ⟨_, rfl⟩
      rw [hrr] at hlx
      have hrw : IntKind.u8.wrap (k : Int) = r := by rw [IntKind.wrap_u8']; exact hrr
      have hlw : IntKind.u8.wrap (bn x + r) = bn b := by rw [IntKind.wrap_u8']; exact hlx
      have hk1 : IntKind.i64.wrap ((k : Int) + 1) = ((k + 1 : Nat) : Int) := by rw [i64_wrap _ (by omega)]; omega
      clear hb
      go_wp2_with fail
      obtain ⟨hr, he, hh⟩ := HR.out
      have hB := HB.out
      have hlt0 : w.heap.size < wr.heap.size := (Array.getElem?_eq_some_iff.1 hr).1
      obtain ⟨W2, hW2⟩ : ∃ W2, W2 = wr.setCell ⟨w.heap.size, k, none⟩ (.int .u8 (bn b)) := ⟨_, rfl⟩
      have hr2 : W2.heap[w.heap.size]? = some (.cells (ba (cur x N (k + 1))) 5 (0, 0)) := by
        rw [hW2, heap_setCell_same _ _ _ _ _ _ hr, ba_set, ← hB, cur_set x N k hlt]
      have he2 : Ext w W2 := by rw [hW2]; exact Below.setCell he (by simp) _
      have hs2 : W2.heap.size = wr.heap.size := by rw [hW2]; simp [World.setCell]
      have hh2 : Hashed W2 (w.heap.size + 1) (pre x k) := by
        obtain ⟨st, p, L, q, i⟩ := hh
        exact ⟨st, p, L, ⟨by rw [hW2, heap_setCell_other _ _ _ _ (by simp)]; exact q.row, q.st8, q.p128⟩, i⟩
      have hbs2 : BsAt W2 (w.heap.size + 1) (.slice (some ⟨w.heap.size, k, none⟩) 1 (N - k)) [b] := by
        refine ⟨_, N - k, rfl, by simp; omega, fun _ => ⟨w.heap.size, k, rfl, by omega, by omega, ?_⟩⟩
        intro j u hu
        have hj : j = 0 := by
          have := (List.getElem?_eq_some_iff.1 hu).1
          simp at this; exact this
        subst hj
        simp only [List.map_cons, List.map_nil, List.getElem?_cons_zero, Option.some.injEq] at hu
        rw [Nat.add_zero, cell_of_row _ _ _ _ _ _ hr2, ba_get _ _ (by rw [cur_len x N (k + 1) (by omega)]; omega), lx_get x N k hlt, hB, ← hu, bc]
      try rw [← hW2]
      have HJ := hide (And.intro hr2 (And.intro he2 (And.intro hs2 hlt0)))
      refine (write_any (w.heap.size + 1) (pre x k) [b] _ W2 (by have := HT.out.2.2; omega) hh2 (HT.out.ext he2) hbs2 (by rw [pre_len]; simp; omega)).mono ?_
      rintro e w3 ⟨rfl, hh3, hg3⟩
      have hr3 : w3.heap[w.heap.size]? = some (.cells (ba (cur x N (k + 1))) 5 (0, 0)) := (hg3.block _ (by omega) (by simp)).trans hr2
      have he3 : Ext w w3 := ext_grown he2 hg3 (by omega)
      have hh3' : Hashed w3 (w.heap.size + 1) (pre x (k + 1)) := by rw [pre_succ, hB]; exact hh3
      have HK := hide (And.intro hr3 (And.intro he3 hh3'))
      clear hr he hh hr2 he2 hs2 hh2 hbs2 hW2 hh3 hg3 hr3 he3 hh3' hB hlt0 hcell hfro HJ HR
      go_wp2
      go_roundw
      case rel => exact ⟨k + 1, by omega, by go_num, HK.out⟩
      case measure => simp [intOf]; omega
    · have hkN : k = N := by omega
      rw [hkN] at hr hh
      rw [cur_end] at hr
      have hlt0 : w.heap.size < wr.heap.size := (Array.getElem?_eq_some_iff.1 hr).1
      have hd : decide ((k : Int) < (N : Int)) = false := by simp; omega
      have hold : BsOld wr (.slice (some ⟨w.heap.size, 0, none⟩) N N) (pre x N) := by
        refine ⟨some ⟨w.heap.size, 0, none⟩, N, by rw [pre_len], by rw [pre_len]; omega, by unfold maxLen; omega, (fun h => by (cases h)), fun _ => ⟨w.heap.size, 0, rfl, hlt0, ?_⟩⟩
        intro j u hu
        rw [Nat.zero_add, cell_of_row _ _ _ _ _ _ hr]
        simpa [ba] using hu
      have hXl := pre_len x N
      generalize pre x N = X at *
      have HI := hide (And.intro he (And.intro hh hold))
      clear hr hlt0 hkN he hh hold
      go_wp2_with fail
      refine (shaSum_any X _ wr (HT.out.ext HI.out.1) (HI.out.2.2.at (Ext.refl _) (Nat.le_refl _)) (by omega)).mono ?_
      rintro e w2 ⟨v2, rfl, hown2, hb2⟩
      obtain ⟨g2, c2, hv2, _, _, _, hg2, hr2⟩ := owns_shape hown2 (by omega)
      subst hv2
      have HJ := hide (And.intro hb2 (And.intro hg2 hr2))
      clear hown2 hb2 hg2 hr2 hd
      go_wp2
      refine wp_region_ext (by kernel_rfl) ?_
      obtain ⟨her, hhr, hor⟩ := HI.out
      obtain ⟨hb2, hg2, hr2⟩ := HJ.out
      have hd3 : Ext w2 w2.drew := ⟨rfl, rfl, rfl, Nat.le_refl _, fun _ _ => rfl⟩
      have h23 : Ext wr w2.drew := Ext.trans (b := w2) hb2 hd3
      have he4 := her.trans h23
      have hh4 := hhr.ext h23
      have ho4 := hor.ext h23
      have hr4 : w2.drew.rangeAt g2 0 ((shaB X).map bc) := range_ext hr2 hg2 hd3
      have hg4 : g2 < w2.drew.heap.size := hg2
      clear her hhr hor hb2 hg2 hr2 hd3 h23
      generalize w2.drew = w4 at *
      refine wpE_take (i := 0) (v := ?vc1) rfl (by kernel_rfl) (by kernel_rfl) (by kernel_rfl) (fun _ _ _ h => h) rfl ?yc1 ?rc1
      case yc1 => (intro w' hw'; go_simp; try rfl)
      simp only [List.getElem_toArray, List.getElem_cons_zero, List.getElem_cons_succ, Act.put, List.setIfInBounds_toArray, List.set_cons_zero, List.set_cons_succ]
      refine wpE_take (i := 2) (v := ?vc2) rfl (by kernel_rfl) (by kernel_rfl) (by kernel_rfl) (fun _ _ _ h => h) rfl ?yc2 ?rc2
      case yc2 => (intro w' hw'; go_simp; try rfl)
      simp only [List.getElem_toArray, List.getElem_cons_zero, List.getElem_cons_succ, Act.put, List.setIfInBounds_toArray, List.set_cons_zero, List.set_cons_succ]
      refine wpE_take (i := 1) (v := .string (strOf (shaB X))) rfl (by kernel_rfl) (by kernel_rfl) (by kernel_rfl) (fun _ _ _ h => h) rfl (fun w' hw' => run_op_convert rfl rfl (by rw [← shaB_len X] at *; exact run_str_at c2 hr4 hw' (by simp))) ?_
      simp only [List.getElem_toArray, List.getElem_cons_zero, List.getElem_cons_succ, Act.put, List.setIfInBounds_toArray, List.set_cons_zero, List.set_cons_succ]
      refine wpE_call (i := 3) (f := 10) (vals := #[.slice (some ⟨w.heap.size, 0, none⟩) N N]) (by kernel_rfl) rfl rfl (by go_simp) (ref_any X _ w4 ho4 (by omega)) ?_
      rintro e w5 ⟨v5, rfl, hown5, hb5⟩
      have he5 : Ext w w5 := he4.trans hb5
      have hh5 := hh4.ext hb5
      have hr42 := range_ext hr4 hg4 hb5
      have hg42 : g2 < w5.heap.size := Nat.lt_of_lt_of_le hg4 hb5.size
      obtain ⟨g5, c5, hv5, _, _, _, _, hr5⟩ := owns_shape hown5 (by omega)
      subst hv5
      clear hown5
      refine ⟨_, rfl, hb5, ?_⟩
      simp only [List.getElem_toArray, List.getElem_cons_zero, List.getElem_cons_succ, Act.put, List.setIfInBounds_toArray, List.set_cons_zero, List.set_cons_succ]
      refine wpE_take (i := 4) (v := .string (strOf (shaB X))) rfl (by kernel_rfl) (by kernel_rfl) (by kernel_rfl) (fun _ _ _ h => h) rfl (fun w' hw' => run_op_convert rfl rfl (by rw [← shaB_len X] at *; exact run_str_at c5 hr5 hw' (by simp))) ?_
      simp only [List.getElem_toArray, List.getElem_cons_zero, List.getElem_cons_succ, Act.put, List.setIfInBounds_toArray, List.set_cons_zero, List.set_cons_succ]
      refine wpE_take (i := 5) (v := ?vc3) rfl (by kernel_rfl) (by kernel_rfl) (by kernel_rfl) (fun _ _ _ h => h) rfl ?yc3 ?rc3
      case yc3 => (intro w' hw'; go_simp; try rfl)
      simp only [List.getElem_toArray, List.getElem_cons_zero, List.getElem_cons_succ, Act.put, List.setIfInBounds_toArray, List.set_cons_zero, List.set_cons_succ]
      refine wpE_take (i := 6) (v := ?vc4) rfl (by kernel_rfl) (by kernel_rfl) (by kernel_rfl) (fun _ _ _ h => h) rfl ?yc4 ?rc4
      case yc4 => (intro w' hw'; go_simp; try rfl)
      simp only [List.getElem_toArray, List.getElem_cons_zero, List.getElem_cons_succ, Act.put, List.setIfInBounds_toArray, List.set_cons_zero, List.set_cons_succ]
      refine wpE_take (i := 7) (v := ?vc5) rfl (by kernel_rfl) (by kernel_rfl) (by kernel_rfl) (fun _ _ _ h => h) rfl ?yc5 ?rc5
      case yc5 => (intro w' hw'; go_simp; try rfl)
      simp only [List.getElem_toArray, List.getElem_cons_zero, List.getElem_cons_succ, Act.put, List.setIfInBounds_toArray, List.set_cons_zero, List.set_cons_succ]
      refine wpE_take (i := 10) (v := ?vc6) rfl (by kernel_rfl) (by kernel_rfl) (by kernel_rfl) (fun _ _ _ h => h) rfl ?yc6 ?rc6
      case yc6 => (intro w' hw'; go_simp; try rfl)
      simp only [List.getElem_toArray, List.getElem_cons_zero, List.getElem_cons_succ, Act.put, List.setIfInBounds_toArray, List.set_cons_zero, List.set_cons_succ]
      refine wpE_take (i := 11) (v := .string (strOf (shaB X))) rfl (by kernel_rfl) (by kernel_rfl) (by kernel_rfl) (fun _ _ _ h => h) rfl (fun w' hw' => run_op_convert rfl rfl (by rw [← shaB_len X] at *; exact run_str_at c2 hr42 hw' (by simp))) ?_
      simp only [List.getElem_toArray, List.getElem_cons_zero, List.getElem_cons_succ, Act.put, List.setIfInBounds_toArray, List.set_cons_zero, List.set_cons_succ]
      refine wpE_call (i := 8) (f := 13) (vals := #[.pointer (some ⟨w.heap.size + 1, 0, none⟩)]) (by kernel_rfl) rfl rfl (by go_simp) (sum_any (w.heap.size + 1) X w5 hh5.lt hh5 (HT.out.ext he5) (by omega)) ?_
      rintro e w6 ⟨v6, rfl, hown6, hb6⟩
      have he6 : Ext w w6 := he5.trans hb6
      obtain ⟨g6, c6, hv6, _, _, _, _, hr6⟩ := owns_shape hown6 (by omega)
      subst hv6
      clear hown6
      refine ⟨_, rfl, hb6, ?_⟩
      simp only [List.getElem_toArray, List.getElem_cons_zero, List.getElem_cons_succ, Act.put, List.setIfInBounds_toArray, List.set_cons_zero, List.set_cons_succ]
      refine wpE_take (i := 9) (v := .string (strOf (shaB X))) rfl (by kernel_rfl) (by kernel_rfl) (by kernel_rfl) (fun _ _ _ h => h) rfl (fun w' hw' => run_op_convert rfl rfl (by rw [← shaB_len X] at *; exact run_str_at c6 hr6 hw' (by simp))) ?_
      simp only [List.getElem_toArray, List.getElem_cons_zero, List.getElem_cons_succ, Act.put, List.setIfInBounds_toArray, List.set_cons_zero, List.set_cons_succ]
      refine wpE_take (i := 12) (v := ?vc7) rfl (by kernel_rfl) (by kernel_rfl) (by kernel_rfl) (fun _ _ _ h => h) rfl ?yc7 ?rc7
      case yc7 => (intro w' hw'; go_simp; try rfl)
      simp only [List.getElem_toArray, List.getElem_cons_zero, List.getElem_cons_succ, Act.put, List.setIfInBounds_toArray, List.set_cons_zero, List.set_cons_succ]
      refine wpE_take (i := 13) (v := ?vc8) rfl (by kernel_rfl) (by kernel_rfl) (by kernel_rfl) (fun _ _ _ h => h) rfl ?yc8 ?rc8
      case yc8 => (intro w' hw'; go_simp; try rfl)
      simp only [List.getElem_toArray, List.getElem_cons_zero, List.getElem_cons_succ, Act.put, List.setIfInBounds_toArray, List.set_cons_zero, List.set_cons_succ]
      refine wpE_take (i := 14) (v := ?vc9) rfl (by kernel_rfl) (by kernel_rfl) (by kernel_rfl) (fun _ _ _ h => h) rfl ?yc9 ?rc9
      case yc9 => (intro w' hw'; go_simp; try rfl)
      simp only [List.getElem_toArray, List.getElem_cons_zero, List.getElem_cons_succ, Act.put, List.setIfInBounds_toArray, List.set_cons_zero, List.set_cons_succ]
      refine wpE_call (i := 15) (f := 8) (vals := #[]) (by kernel_rfl) rfl rfl (by go_simp) (awake_any w6 (HT.out.ext he6)) ?_
      rintro e w7 ⟨rfl, hb7⟩
      refine ⟨_, rfl, hb7, ?_⟩
      simp only [List.getElem_toArray, List.getElem_cons_zero, List.getElem_cons_succ, Act.put, List.setIfInBounds_toArray, List.set_cons_zero, List.set_cons_succ]
      refine wpE_take (i := 16) (v := ?vc10) rfl (by kernel_rfl) (by kernel_rfl) (by kernel_rfl) (fun _ _ _ h => h) rfl ?yc10 ?rc10
      case yc10 => (intro w' hw'; go_simp; try rfl)
      simp only [List.getElem_toArray, List.getElem_cons_zero, List.getElem_cons_succ, Act.put, List.setIfInBounds_toArray, List.set_cons_zero, List.set_cons_succ]
      refine wpE_take (i := 17) (v := ?vc11) rfl (by kernel_rfl) (by kernel_rfl) (by kernel_rfl) (fun _ _ _ h => h) rfl ?yc11 ?rc11
      case yc11 => (intro w' hw'; go_simp; try rfl)
      simp only [List.getElem_toArray, List.getElem_cons_zero, List.getElem_cons_succ, Act.put, List.setIfInBounds_toArray, List.set_cons_zero, List.set_cons_succ]
      refine wpE_done (by kernel_rfl) ?_
      have HZ7 := hide (he6.trans hb7)
      clear he4 hh4 ho4 hr4 hg4 he5 hh5 hr42 hg42 hr5 hb5 he6 hr6 hb6 hb7
      go_wp2
      go_ret
      exact ⟨rfl, HZ7.out⟩
theorem shaLengths_walk (n m : Int) (w : World) (ht : Tabs w) (hm : (Lit.int .u8 m).wf = true) :
    Calls Tryd.prog 6 #[.int .i64 n, .int .u8 m] w fun e w' => e = .returned (.bool true) ∧ Below w.heap.size w w' := by
  have h := shaLengths_any n (UInt8.ofNat m.toNat) w ht
  rwa [bn_of m hm] at h
end Go.Proofs.YtjkcjlhcfkapkaaDoor
