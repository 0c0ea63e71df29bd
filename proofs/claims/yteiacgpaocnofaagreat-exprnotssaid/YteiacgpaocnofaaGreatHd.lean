/- Down: what is put on top of a heap goes to its place. -/
import Derived.Test.YteiacgpaocnofaaGreatHu
namespace Go.Proofs.YteiacgpaocnofaaGreat
open Go.RowKit
/-- What is told of it. -/
def DnP (w : World) (B P g m cap n : Nat) (ys : List Tm) (e : Ending) (w' : World) : Prop := ∃ (b : Bool) (zs : List Tm), e = .returned (.bool b) ∧ HP w' B P g m cap zs ∧ HeapOk zs n ∧ (∀ t, t ∈ zs ↔ t ∈ ys) ∧ (∀ k, n ≤ k → gt zs k = gt ys k) ∧ w.grownBy w' (some g)
theorem swp_rest {ys : List Tm} {i j n : Nat} (hi : i < n) (hj : j < n) (hn : n ≤ ys.length) (k : Nat) (hk : n ≤ k) : gt (swp ys i j) k = gt ys k := by
  show (swp ys i j).getD k default = _
  rw [swp_get (by omega) (by omega), if_neg (by omega), if_neg (by omega)]
theorem lesser_one' {ys : List Tm} {i n J1 J2 : Nat} (e1 : J1 = 2 * i + 1) (e2 : J2 = J1 + 1) (h1 : J1 < n) (h2 : ¬ J2 < n) : Lesser ys i J1 n := by subst e2; subst e1; exact lesser_one h1 h2
theorem lesser_left' {ys : List Tm} {i n J1 J2 : Nat} (e1 : J1 = 2 * i + 1) (e2 : J2 = J1 + 1) (h1 : J1 < n) (h3 : ¬ cp (gt ys J2) (gt ys J1) < 0) : Lesser ys i J1 n := by subst e2; subst e1; exact lesser_left h1 h3
theorem lesser_right' {ys : List Tm} {i n J1 J2 : Nat} (e1 : J1 = 2 * i + 1) (e2 : J2 = J1 + 1) (h2 : J2 < n) (h3 : cp (gt ys J2) (gt ys J1) < 0) : Lesser ys i J2 n := by subst e2; subst e1; exact lesser_right h2 h3
set_option maxRecDepth 100000 in
set_option maxHeartbeats 2000000 in
theorem down_any {B P g m cap n : Nat} {ys : List Tm} {w : World} (h : HP w B P g m cap ys) (hnm : n ≤ m) (hm : m ≤ 100) (hfl : ∀ y ∈ ys, Fl y) (hd : HeapDn ys 0 n) :
    Calls Tryz.prog 214 #[hv P, .int .i64 0, .int .i64 (n : Int)] w (DnP w B P g m cap n ys) := by
  have H0 := hide (And.intro h hd)
  have HF := hide hfl
  clear h hd hfl
  go_enter Tryz.func214, Tryz.ntmps214
  go_wp2
  go_loopw [7] (fun s wr => ∃ (i : Nat) (zs : List Tm), s = .int .i64 (i : Int) ∧ (i < n ∨ i = 0) ∧ HP wr B P g m cap zs ∧ HeapDn zs i n ∧ (∀ t, t ∈ zs ↔ t ∈ ys) ∧ (∀ k, n ≤ k → gt zs k = gt ys k) ∧ w.grownBy wr (some g)) (fun s _ => n - (intOf s).toNat)
  case atStart => exact ⟨0, ys, rfl, .inr rfl, H0.out.1, H0.out.2, fun _ => Iff.rfl, fun _ _ => rfl, grown_refl _ _⟩
  case round =>
    obtain ⟨i, zs, rfl, hin, hP, hD, hmem, hrest, hgr⟩ := hrel
    have hlen := hP.len
    have hi1 : (i : Int) ≤ 100 := by omega
    have hi2 : 0 ≤ (i : Int) := by omega
    obtain ⟨J1, hJ1⟩ : ∃ J1, J1 = 2 * i + 1 := ⟨_, rfl⟩
    obtain ⟨J2, hJ2⟩ : ∃ J2, J2 = J1 + 1 := ⟨_, rfl⟩
    have eJ1 : 2 * (i : Int) + 1 = (J1 : Int) := by omega
    have eJ2 : (J1 : Int) + 1 = (J2 : Int) := by omega
    have hb1 : (J1 : Int) ≤ 1000 := by omega
    have hb2 : 0 ≤ (J1 : Int) := by omega
    have hb3 : (J2 : Int) ≤ 1000 := by omega
    have hb4 : 0 ≤ (J2 : Int) := by omega
    have HJ := hide (And.intro hJ1 hJ2)
    by_cases hj1 : J1 < n
    · have d1 : decide ((n : Int) ≤ (J1 : Int)) = false := decide_eq_false (by omega)
      have d2 : decide ((J1 : Int) < 0) = false := decide_eq_false (by omega)
      have c0 := (row_reads hP.1).1 0
      simp only [List.getElem?_toArray, List.getElem?_cons_zero] at c0
      have mc0 := meth_val mLess c0
      have fz : ∀ k, k < m → Fl (gt zs k) := fun k hk => HF.out _ ((hmem _).1 (List.mem_of_getElem? (at_getD (by omega))))
      have him : i < m := by omega
      have HX := hide (And.intro hP (And.intro hD (And.intro hmem (And.intro hrest (And.intro hgr (And.intro hlen fz))))))
      clear hP hD hmem hrest hgr hlen hin hJ1 hJ2
      by_cases hj2 : J2 < n
      · have d3 : decide ((J2 : Int) < (n : Int)) = true := decide_eq_true (by omega)
        have HL := hide (Less_any HX.out.1.2.1 (i := J2) (j := J1) (by omega) (by omega) (at_getD (by have := HX.out.2.2.2.2.2.1; omega)) (at_getD (by have := HX.out.2.2.2.2.2.1; omega)) (fz _ (by omega)) (fz _ (by omega)))
        clear fz
        by_cases hc : cp (gt zs J2) (gt zs J1) < 0
        · rw [decide_eq_true hc] at HL
          have HLs := hide (lesser_right' (ys := zs) HJ.out.1 HJ.out.2 hj2 hc)
          clear hc
          go_wp2_with fail
          refine HL.out.mono ?_
          rintro e w2 ⟨rfl, b2⟩
          have hP2 := HX.out.1.ext b2
          have c1 := (row_reads hP2.1).1 0
          simp only [List.getElem?_toArray, List.getElem?_cons_zero] at c1
          have mc1 := meth_val mLess c1
          have HP2 := hide (And.intro hP2 (gr_trans HX.out.2.2.2.2.1 (Ext.gr b2 (some g)) (fun k hk => .inl hk)))
          clear hP2 b2 HL c0 mc0
          have HM := hide (Less_any HP2.out.1.2.1 (i := J2) (j := i) (by omega) him (at_getD (by have := HX.out.2.2.2.2.2.1; omega)) (at_getD (by have := HX.out.2.2.2.2.2.1; omega)) (HX.out.2.2.2.2.2.2 _ (by omega)) (HX.out.2.2.2.2.2.2 _ him))
          by_cases hq : cp (gt zs J2) (gt zs i) < 0
          · rw [decide_eq_true hq] at HM
            have HC := hide hq
            clear hq
            go_wp2_with fail
            refine HM.out.mono ?_
            rintro e w3 ⟨rfl, b3⟩
            have hP3 := HP2.out.1.ext b3
            have c2 := (row_reads hP3.1).1 0
            simp only [List.getElem?_toArray, List.getElem?_cons_zero] at c2
            have mc2 := meth_val mSwap c2
            have HS := hide (Swap_any hP3.2.1 (i := i) (j := J2) him (by omega) (at_getD (by have := HX.out.2.2.2.2.2.1; omega)) (at_getD (by have := HX.out.2.2.2.2.2.1; omega)))
            have HP3 := hide (And.intro hP3 (gr_trans HP2.out.2 (Ext.gr b3 (some g)) (fun k hk => .inl hk)))
            clear hP3 b3 HM HP2 c1 mc1
            go_wp2_with fail
            refine HS.out.mono ?_
            rintro e w4 ⟨rfl, hr4, g4⟩
            have H4 := hide (And.intro (HP3.out.1.put hr4 g4) (gr_trans HP3.out.2 g4 (fun k hk => .inl hk)))
            clear hr4 g4 HS c2 mc2
            go_wp2
            go_roundw
            case rel =>
              obtain ⟨_, hD, hmem, hrest, _, hlen, _⟩ := HX.out
              obtain ⟨hJ1, hJ2⟩ := HJ.out
              exact ⟨J2, swp zs i J2, rfl, .inl (by omega), H4.out.1, dn_step hD HLs.out HC.out (by omega), fun t => (swp_mem (by omega) (by omega) t).trans (hmem t), fun k hk => (swp_rest (by omega) (by omega) (by omega) k hk).trans (hrest k hk), H4.out.2⟩
            case measure =>
              obtain ⟨hJ1, hJ2⟩ := HJ.out
              simp [intOf]; omega
          · rw [decide_eq_false hq] at HM
            have HK := hide (dn_done HX.out.2.1 HLs.out hq)
            clear hq
            go_wp2_with fail
            refine HM.out.mono ?_
            rintro e w3 ⟨rfl, b3⟩
            have HP3 := hide (And.intro (HP2.out.1.ext b3) (gr_trans HP2.out.2 (Ext.gr b3 (some g)) (fun k hk => .inl hk)))
            clear b3 HM HP2 c1 mc1
            go_wp2
            go_ret
            exact ⟨_, zs, rfl, HP3.out.1, HK.out, HX.out.2.2.1, HX.out.2.2.2.1, HP3.out.2⟩
        · rw [decide_eq_false hc] at HL
          have HLs := hide (lesser_left' (ys := zs) HJ.out.1 HJ.out.2 hj1 hc)
          clear hc
          go_wp2_with fail
          refine HL.out.mono ?_
          rintro e w2 ⟨rfl, b2⟩
          have hP2 := HX.out.1.ext b2
          have c1 := (row_reads hP2.1).1 0
          simp only [List.getElem?_toArray, List.getElem?_cons_zero] at c1
          have mc1 := meth_val mLess c1
          have HP2 := hide (And.intro hP2 (gr_trans HX.out.2.2.2.2.1 (Ext.gr b2 (some g)) (fun k hk => .inl hk)))
          clear hP2 b2 HL c0 mc0
          have HM := hide (Less_any HP2.out.1.2.1 (i := J1) (j := i) (by omega) him (at_getD (by have := HX.out.2.2.2.2.2.1; omega)) (at_getD (by have := HX.out.2.2.2.2.2.1; omega)) (HX.out.2.2.2.2.2.2 _ (by omega)) (HX.out.2.2.2.2.2.2 _ him))
          by_cases hq : cp (gt zs J1) (gt zs i) < 0
          · rw [decide_eq_true hq] at HM
            have HC := hide hq
            clear hq
            go_wp2_with fail
            refine HM.out.mono ?_
            rintro e w3 ⟨rfl, b3⟩
            have hP3 := HP2.out.1.ext b3
            have c2 := (row_reads hP3.1).1 0
            simp only [List.getElem?_toArray, List.getElem?_cons_zero] at c2
            have mc2 := meth_val mSwap c2
            have HS := hide (Swap_any hP3.2.1 (i := i) (j := J1) him (by omega) (at_getD (by have := HX.out.2.2.2.2.2.1; omega)) (at_getD (by have := HX.out.2.2.2.2.2.1; omega)))
            have HP3 := hide (And.intro hP3 (gr_trans HP2.out.2 (Ext.gr b3 (some g)) (fun k hk => .inl hk)))
            clear hP3 b3 HM HP2 c1 mc1
            go_wp2_with fail
            refine HS.out.mono ?_
            rintro e w4 ⟨rfl, hr4, g4⟩
            have H4 := hide (And.intro (HP3.out.1.put hr4 g4) (gr_trans HP3.out.2 g4 (fun k hk => .inl hk)))
            clear hr4 g4 HS c2 mc2
            go_wp2
            go_roundw
            case rel =>
              obtain ⟨_, hD, hmem, hrest, _, hlen, _⟩ := HX.out
              obtain ⟨hJ1, hJ2⟩ := HJ.out
              exact ⟨J1, swp zs i J1, rfl, .inl (by omega), H4.out.1, dn_step hD HLs.out HC.out (by omega), fun t => (swp_mem (by omega) (by omega) t).trans (hmem t), fun k hk => (swp_rest (by omega) (by omega) (by omega) k hk).trans (hrest k hk), H4.out.2⟩
            case measure =>
              obtain ⟨hJ1, hJ2⟩ := HJ.out
              simp [intOf]; omega
          · rw [decide_eq_false hq] at HM
            have HK := hide (dn_done HX.out.2.1 HLs.out hq)
            clear hq
            go_wp2_with fail
            refine HM.out.mono ?_
            rintro e w3 ⟨rfl, b3⟩
            have HP3 := hide (And.intro (HP2.out.1.ext b3) (gr_trans HP2.out.2 (Ext.gr b3 (some g)) (fun k hk => .inl hk)))
            clear b3 HM HP2 c1 mc1
            go_wp2
            go_ret
            exact ⟨_, zs, rfl, HP3.out.1, HK.out, HX.out.2.2.1, HX.out.2.2.2.1, HP3.out.2⟩
      · have d3 : decide ((J2 : Int) < (n : Int)) = false := decide_eq_false (by omega)
        have HLs := hide (lesser_one' (ys := zs) HJ.out.1 HJ.out.2 hj1 hj2)
        clear fz
        have HP2 := hide (And.intro HX.out.1 HX.out.2.2.2.2.1)
        have HM := hide (Less_any HP2.out.1.2.1 (i := J1) (j := i) (by omega) him (at_getD (by have := HX.out.2.2.2.2.2.1; omega)) (at_getD (by have := HX.out.2.2.2.2.2.1; omega)) (HX.out.2.2.2.2.2.2 _ (by omega)) (HX.out.2.2.2.2.2.2 _ him))
        by_cases hq : cp (gt zs J1) (gt zs i) < 0
        · rw [decide_eq_true hq] at HM
          have HC := hide hq
          clear hq
          go_wp2_with fail
          refine HM.out.mono ?_
          rintro e w3 ⟨rfl, b3⟩
          have hP3 := HP2.out.1.ext b3
          have c2 := (row_reads hP3.1).1 0
          simp only [List.getElem?_toArray, List.getElem?_cons_zero] at c2
          have mc2 := meth_val mSwap c2
          have HS := hide (Swap_any hP3.2.1 (i := i) (j := J1) him (by omega) (at_getD (by have := HX.out.2.2.2.2.2.1; omega)) (at_getD (by have := HX.out.2.2.2.2.2.1; omega)))
          have HP3 := hide (And.intro hP3 (gr_trans HP2.out.2 (Ext.gr b3 (some g)) (fun k hk => .inl hk)))
          clear hP3 b3 HM HP2 c0 mc0
          go_wp2_with fail
          refine HS.out.mono ?_
          rintro e w4 ⟨rfl, hr4, g4⟩
          have H4 := hide (And.intro (HP3.out.1.put hr4 g4) (gr_trans HP3.out.2 g4 (fun k hk => .inl hk)))
          clear hr4 g4 HS c2 mc2
          go_wp2
          go_roundw
          case rel =>
            obtain ⟨_, hD, hmem, hrest, _, hlen, _⟩ := HX.out
            obtain ⟨hJ1, hJ2⟩ := HJ.out
            exact ⟨J1, swp zs i J1, rfl, .inl (by omega), H4.out.1, dn_step hD HLs.out HC.out (by omega), fun t => (swp_mem (by omega) (by omega) t).trans (hmem t), fun k hk => (swp_rest (by omega) (by omega) (by omega) k hk).trans (hrest k hk), H4.out.2⟩
          case measure =>
            obtain ⟨hJ1, hJ2⟩ := HJ.out
            simp [intOf]; omega
        · rw [decide_eq_false hq] at HM
          have HK := hide (dn_done HX.out.2.1 HLs.out hq)
          clear hq
          go_wp2_with fail
          refine HM.out.mono ?_
          rintro e w3 ⟨rfl, b3⟩
          have HP3 := hide (And.intro (HP2.out.1.ext b3) (gr_trans HP2.out.2 (Ext.gr b3 (some g)) (fun k hk => .inl hk)))
          clear b3 HM HP2 c0 mc0
          go_wp2
          go_ret
          exact ⟨_, zs, rfl, HP3.out.1, HK.out, HX.out.2.2.1, HX.out.2.2.2.1, HP3.out.2⟩
    · have d1 : decide ((n : Int) ≤ (J1 : Int)) = true := decide_eq_true (by omega)
      have HX := hide (And.intro hP (And.intro (dn_end hD (by omega)) (And.intro hmem (And.intro hrest hgr))))
      clear hP hD hmem hrest hgr hlen hin hJ1 hJ2
      go_wp2
      go_ret
      exact ⟨_, zs, rfl, HX.out.1, HX.out.2.1, HX.out.2.2.1, HX.out.2.2.2.1, HX.out.2.2.2.2⟩
end Go.Proofs.YteiacgpaocnofaaGreat
