/- Up: what is put at the end of a heap goes to its place. -/
import Derived.Test.YteiacgpaocnofaaGreatMe
namespace Go.Proofs.YteiacgpaocnofaaGreat
open Go.RowKit
/-- A heap as what it is handed on as. -/
abbrev hv (P : Nat) : Value := .iface 185 (.pointer (some ⟨P, 0, none⟩))
set_option maxRecDepth 100000 in
set_option maxHeartbeats 1000000 in
theorem up_any {B P g n cap j0 : Nat} {ys : List Tm} {w : World} (h : HP w B P g n cap ys) (hj0 : j0 < n) (hn : n ≤ 100) (hfl : ∀ y ∈ ys, Fl y) (hu : HeapUp ys j0 n) :
    Calls Tryz.prog 213 #[hv P, .int .i64 (j0 : Int)] w fun e w' => e = .returned (.tuple #[]) ∧ ∃ zs, HP w' B P g n cap zs ∧ HeapOk zs n ∧ (∀ t, t ∈ zs ↔ t ∈ ys) ∧ w.grownBy w' (some g) := by
  have H0 := hide (And.intro h (And.intro hu hj0))
  have HF := hide hfl
  clear h hu hfl hj0
  go_enter Tryz.func213, Tryz.ntmps213
  go_wp2
  go_loopw [1] (fun s wr => ∃ (j : Nat) (zs : List Tm), s = .int .i64 (j : Int) ∧ j < n ∧ HP wr B P g n cap zs ∧ HeapUp zs j n ∧ (∀ t, t ∈ zs ↔ t ∈ ys) ∧ w.grownBy wr (some g)) (fun s _ => (intOf s).toNat)
  case atStart => exact ⟨j0, ys, rfl, H0.out.2.2, H0.out.1, H0.out.2.1, fun _ => Iff.rfl, grown_refl _ _⟩
  case round =>
    obtain ⟨j, zs, rfl, hjn, hP, hU, hmem, hgr⟩ := hrel
    have hlen := hP.len
    by_cases hj : j = 0
    · have HX := hide (And.intro hP (And.intro (up_done hU (.inl hj)) (And.intro hmem hgr)))
      have e1 : ((j : Int) - 1).tdiv 2 = (0 : Int) := by subst hj; rfl
      have e2 : ((0 : Int) == (j : Int)) = true := by subst hj; rfl
      have hj1 : (j : Int) ≤ 100 := by omega
      have hj2 : 0 ≤ (j : Int) := by omega
      clear hP hU hmem hgr hj hlen
      generalize (j : Int) = J at *
      go_wp2
      go_end0
      exact ⟨rfl, zs, HX.out.1, HX.out.2.1, HX.out.2.2.1, HX.out.2.2.2⟩
    · obtain ⟨i, hi⟩ : ∃ i, i = (j - 1) / 2 := ⟨_, rfl⟩
      have hin : i < n := by omega
      have e1 : ((j : Int) - 1).tdiv 2 = (i : Int) := by rw [Int.tdiv_eq_ediv_of_nonneg (by omega)]; omega
      have e3 : ((j : Int) - 1) / 2 = (i : Int) := by omega
      have e2 : ((i : Int) == (j : Int)) = false := by simp; omega
      have hj1 : (j : Int) ≤ 100 := by omega
      have hj2 : 0 ≤ (j : Int) := by omega
      have hj3 : 1 ≤ (j : Int) := by omega
      have hxj := at_getD (ys := zs) (k := j) (by omega)
      have hxi := at_getD (ys := zs) (k := i) (by omega)
      have fj := HF.out _ ((hmem _).1 (List.mem_of_getElem? hxj))
      have fi := HF.out _ ((hmem _).1 (List.mem_of_getElem? hxi))
      have HL := hide (Less_any hP.2.1 hjn hin hxj hxi fj fi)
      have c0 := (row_reads hP.1).1 0
      simp only [List.getElem?_toArray, List.getElem?_cons_zero] at c0
      have mc0 := meth_val mLess c0
      have HX := hide (And.intro hP (And.intro hU (And.intro hmem (And.intro hgr (And.intro hi (And.intro hj hlen))))))
      have HJ := hide (And.intro hxi hxj)
      clear hP hU hmem hgr hj hlen hi hxj hxi fj fi
      by_cases hc : cp (zs.getD j default) (zs.getD i default) < 0
      · have hd : decide (cp (zs.getD j default) (zs.getD i default) < 0) = true := decide_eq_true hc
        rw [hd] at HL
        have HC := hide hc
        clear hc hd
        go_wp2_with fail
        refine HL.out.mono ?_
        rintro e w2 ⟨rfl, b2⟩
        have hP2 := HX.out.1.ext b2
        have c1 := (row_reads hP2.1).1 0
        simp only [List.getElem?_toArray, List.getElem?_cons_zero] at c1
        have mc1 := meth_val mSwap c1
        have HS := hide (Swap_any hP2.2.1 hin hjn HJ.out.1 HJ.out.2)
        have HP2 := hide (And.intro hP2 (gr_trans HX.out.2.2.2.1 (Ext.gr b2 (some g)) (fun k hk => .inl hk)))
        clear hP2 b2 HL c0 mc0
        go_wp2_with fail
        refine HS.out.mono ?_
        rintro e w3 ⟨rfl, hr3, g3⟩
        have H3 := hide (And.intro (HP2.out.1.put hr3 g3) (gr_trans HP2.out.2 g3 (fun k hk => .inl hk)))
        clear hr3 g3 HS c1 mc1
        go_wp2
        go_roundw
        case rel =>
          obtain ⟨_, hU, hmem, _, hi, hj, hlen⟩ := HX.out
          exact ⟨i, swp zs i j, rfl, hin, H3.out.1, up_step hU (by omega) hjn (by omega) hi HC.out, fun t => (swp_mem (by omega) (by omega) t).trans (hmem t), H3.out.2⟩
        case measure =>
          obtain ⟨_, _, _, _, hi, hj, _⟩ := HX.out
          simp [intOf]; omega
      · have hd : decide (cp (zs.getD j default) (zs.getD i default) < 0) = false := decide_eq_false hc
        rw [hd] at HL
        have HK := hide (show HeapOk zs n from up_done HX.out.2.1 (.inr (by rw [← HX.out.2.2.2.2.1]; exact hc)))
        clear hc hd
        go_wp2_with fail
        refine HL.out.mono ?_
        rintro e w2 ⟨rfl, b2⟩
        have H3 := hide (And.intro (HX.out.1.ext b2) (gr_trans HX.out.2.2.2.1 (Ext.gr b2 (some g)) (fun k hk => .inl hk)))
        clear b2 HL c0 mc0
        go_wp2
        go_end0
        exact ⟨rfl, zs, H3.out.1, HK.out, HX.out.2.2.1, H3.out.2⟩
end Go.Proofs.YteiacgpaocnofaaGreat
