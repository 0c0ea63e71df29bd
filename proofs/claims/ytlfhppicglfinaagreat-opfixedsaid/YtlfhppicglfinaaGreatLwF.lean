/- OpFixed: the law answers true. -/
import Derived.Test.YtlfhppicglfinaaGreatOp8
import Derived.Test.YtlfhppicglfinaaGreatOl1
namespace Go.Proofs.YtlfhppicglfinaaGreat
open Go.RowKit
/-- What Binary tells beside what Kinds tells. -/
def FixA (v : Bool) (r : Tm) (E : Int) : Prop := GoodR r E ∧ (v = false → E = 1 ∨ E = 7)
theorem FixA.of {r : Tm} {E : Int} (h : GoodR r E) : FixA true r E := ⟨h, fun e => by cases e⟩
theorem fixA_1 (v : Bool) : FixA v zt 1 := ⟨good_zt (by decide), fun _ => .inl rfl⟩
theorem fixA_7 (v : Bool) : FixA v zt 7 := ⟨good_zt (by decide), fun _ => .inr rfl⟩
theorem fix_one {c : Int} {v : Bool} {a b : Tm} {a1 : Option Addr} {c1 : Nat} {a2 : Option Addr} {c2 : Nat} {w : World} (hM : MaxL w) (ha : TAt w a a1 c1) (hb : TAt w b a2 c2) (ht : fixT a = true → fixT b = true → v = false → Calls Tryz.prog 12 #[.int .i64 c, tv a a1 c1, tv b a2 c2] w (OpF zt 7 w)) : Calls Tryz.prog 12 #[.int .i64 c, tv a a1 c1, tv b a2 c2] w (OpA (FixA v) w) := by
  cases v with
  | true => exact OpA.good (bin_good c hM ha hb) fun _ _ h => .of h
  | false =>
    cases fa : fixT a with
    | false => exact OpF.good (bin_a ha hb fa) zt_fl (fixA_1 _)
    | true =>
      cases fb : fixT b with
      | false => exact OpF.good (bin_b ha hb fa fb) zt_fl (fixA_1 _)
      | true => exact OpF.good (ht fa fb rfl) zt_fl (fixA_7 _)
theorem bin_fixed (c : Int) {a b : Tm} {a1 : Option Addr} {c1 : Nat} {a2 : Option Addr} {c2 : Nat} {w : World} (hM : MaxL w) (ha : TAt w a a1 c1) (hb : TAt w b a2 c2) : ∃ v, Says 14 #[.int .i64 c, .int .i64 a.k, .int .i64 b.k] (.bool v) ∧ Calls Tryz.prog 12 #[.int .i64 c, tv a a1 c1, tv b a2 c2] w (OpA (FixA v) w) := by
  by_cases hc : 1 ≤ c ∧ c ≤ 19
  · have hcc : c = 1 ∨ c = 2 ∨ c = 3 ∨ c = 4 ∨ c = 5 ∨ c = 6 ∨ c = 7 ∨ c = 8 ∨ c = 9 ∨ c = 10 ∨ c = 11 ∨ c = 12 ∨ c = 13 ∨ c = 14 ∨ c = 15 ∨ c = 16 ∨ c = 17 ∨ c = 18 ∨ c = 19 := by omega
    rcases hcc with rfl | rfl | rfl | rfl | rfl | rfl | rfl | rfl | rfl | rfl | rfl | rfl | rfl | rfl | rfl | rfl | rfl | rfl | rfl
    · exact ⟨_, kinds1 _ _, fix_one hM ha hb fun fa fb hk => bin1_type ha hb fa fb hk⟩
    · exact ⟨_, kinds2 _ _, fix_one hM ha hb fun fa fb hk => bin2_type ha hb fa fb hk⟩
    · exact ⟨_, kinds3 _ _, fix_one hM ha hb fun fa fb hk => bin3_type ha hb fa fb hk⟩
    · exact ⟨_, kinds4 _ _, fix_one hM ha hb fun fa fb hk => bin4_type ha hb fa fb hk⟩
    · exact ⟨_, kinds5 _ _, fix_one hM ha hb fun fa fb hk => bin5_type ha hb fa fb hk⟩
    · exact ⟨_, kinds6 _ _, fix_one hM ha hb fun fa fb hk => bin6_type ha hb fa fb hk⟩
    · exact ⟨_, kinds7 _ _, fix_one hM ha hb fun fa fb hk => bin7_type ha hb fa fb hk⟩
    · exact ⟨_, kinds8 _ _, fix_one hM ha hb fun fa fb hk => bin8_type ha hb fa fb hk⟩
    · exact ⟨_, kinds9 _ _, fix_one hM ha hb fun fa fb hk => bin9_type ha hb fa fb hk⟩
    · exact ⟨_, kinds10 _ _, fix_one hM ha hb fun fa fb hk => bin10_type ha hb fa fb hk⟩
    · exact ⟨_, kinds11 _ _, fix_one hM ha hb fun fa fb hk => bin11_type ha hb fa fb hk⟩
    · exact ⟨_, kinds12 _ _, fix_one hM ha hb fun fa fb hk => bin12_type ha hb fa fb hk⟩
    · exact ⟨_, kinds13 _ _, fix_one hM ha hb fun fa fb hk => bin13_type ha hb fa fb hk⟩
    · exact ⟨_, kinds14 _ _, fix_one hM ha hb fun fa fb hk => bin14_type ha hb fa fb hk⟩
    · exact ⟨_, kinds15 _ _, fix_one hM ha hb fun fa fb hk => bin15_type ha hb fa fb hk⟩
    · exact ⟨_, kinds16 _ _, fix_one hM ha hb fun fa fb hk => bin16_type ha hb fa fb hk⟩
    · exact ⟨_, kinds17 _ _, fix_one hM ha hb fun fa fb hk => bin17_type ha hb fa fb hk⟩
    · exact ⟨_, kinds18 _ _, fix_one hM ha hb fun fa fb hk => bin18_type ha hb fa fb hk⟩
    · exact ⟨_, kinds19 _ _, fix_one hM ha hb fun fa fb hk => bin19_type ha hb fa fb hk⟩
  · refine ⟨false, kinds_out hc _ _, ?_⟩
    cases fa : fixT a with
    | false => exact OpF.good (bin_a ha hb fa) zt_fl (fixA_1 _)
    | true =>
      cases fb : fixT b with
      | false => exact OpF.good (bin_b ha hb fa fb) zt_fl (fixA_1 _)
      | true => exact OpF.good (bin_c ha hb fa fb hc) zt_fl (fixA_1 _)
theorem ne_b {E k : Int} (h : E ≠ k) : (E == k) = false ∧ (E != k) = true := ⟨by simpa using h, by simpa using h⟩
set_option maxRecDepth 100000 in
set_option maxHeartbeats 8000000 in
theorem OpFixed_any (c : Int) {a b : Tm} {a1 : Option Addr} {c1 : Nat} {a2 : Option Addr} {c2 : Nat} {w : World} (hM : MaxL w) (ha : TAt w a a1 c1) (hb : TAt w b a2 c2) : Calls Tryz.prog 3 #[.int .i64 c, tv a a1 c1, tv b a2 c2] w fun e w' => e = .returned (.bool true) ∧ Below w.heap.size w w' := by
  have HW := hide awake_any
  have HT := hide (And.intro hM (And.intro ha hb))
  have K1 := hide (((KR.nil w).add (w.heap.size) (tvC a a1 c1) (by first | rfl | simp)).add (w.heap.size + 1) (tvC b a2 c2) (by first | rfl | simp))
  have HL := light_any (pair_at (HT.out.2.1.ext K1.out.bel) (HT.out.2.2.ext K1.out.bel))
  rw [show ((w.alloc (.cells (tvC a a1 c1) 24)).alloc (.cells (tvC b a2 c2) 24)).heap.size = w.heap.size + 2 by simp] at HL
  replace HL := hide HL
  have KB := hide (K1.out.ext (alloc_below _ (.cells (s8 a.k a.n a.s a1 a.l.length c1 b.k b.n b.s a2 b.l.length c2) 24)))
  clear hM ha hb
  unfold tv
  simp only [List.length_cons, List.length_nil] at HL
  go_enter Tryz.func3, Tryz.ntmps3
  go_wp2_with fail
  refine HL.out.mono ?_
  rintro e_ w1 ⟨v, rfl, b_⟩
  have K1 := hide (KB.out.ext b_)
  clear b_ HL KB
  cases v with
  | false =>
    go_wp2_with fail
    refine (HW.out _).mono ?_
    rintro e_ w2 ⟨rfl, b_⟩
    have K2 := hide (K1.out.ext b_)
    clear b_
    go_wp2
    go_ret
    exact ⟨rfl, K2.out.bel⟩
  | true =>
    obtain ⟨r, E, hU, hfl, hg⟩ := un_good (w := w1) c (HT.out.2.1.ext K1.out.bel)
    have HU : Hid (Calls Tryz.prog 11 #[.int .i64 c, tv a a1 c1] w1 fun e w2 => e = .returned (.tuple #[tv r none 0, .int .i64 E]) ∧ Below w1.heap.size w1 w2) := hide hU
    have HG := hide (And.intro hfl hg)
    clear hU hfl hg
    unfold tv at HU
    have a_0 : w1.cell? ⟨w.heap.size, 0, none⟩ = _ := K1.out.cell (p := w.heap.size) (cs := (tvC a a1 c1)) (i := 0) (.tail _ (.head _)) rfl
    have a_1 : w1.cell? ⟨w.heap.size, 1, none⟩ = _ := K1.out.cell (p := w.heap.size) (cs := (tvC a a1 c1)) (i := 1) (.tail _ (.head _)) rfl
    have a_2 : w1.cell? ⟨w.heap.size, 2, none⟩ = _ := K1.out.cell (p := w.heap.size) (cs := (tvC a a1 c1)) (i := 2) (.tail _ (.head _)) rfl
    have a_3 : w1.cell? ⟨w.heap.size, 3, none⟩ = _ := K1.out.cell (p := w.heap.size) (cs := (tvC a a1 c1)) (i := 3) (.tail _ (.head _)) rfl
    go_wp2_with fail
    refine (HU.out).mono ?_
    rintro e_ w11 ⟨rfl, b_⟩
    have K11 := hide (K1.out.ext b_)
    clear b_ a_0 a_1 a_2 a_3
    have K12 := hide (K11.out.add (w11.heap.size) (tvC r none 0) (by first | rfl | simp))
    obtain ⟨v, hK, hB⟩ := bin_fixed c (HT.out.1.ext K12.out.bel) (HT.out.2.1.ext K12.out.bel) (HT.out.2.2.ext K12.out.bel)
    have HB := hide hB
    have HK := hide hK
    clear hK hB
    unfold tv at HB
    have a_0 : (w11.alloc (.cells (tvC r none 0) 24)).cell? ⟨w.heap.size, 0, none⟩ = _ := K12.out.cell (p := w.heap.size) (cs := (tvC a a1 c1)) (i := 0) (.tail _ (.tail _ (.head _))) rfl
    have a_1 : (w11.alloc (.cells (tvC r none 0) 24)).cell? ⟨w.heap.size, 1, none⟩ = _ := K12.out.cell (p := w.heap.size) (cs := (tvC a a1 c1)) (i := 1) (.tail _ (.tail _ (.head _))) rfl
    have a_2 : (w11.alloc (.cells (tvC r none 0) 24)).cell? ⟨w.heap.size, 2, none⟩ = _ := K12.out.cell (p := w.heap.size) (cs := (tvC a a1 c1)) (i := 2) (.tail _ (.tail _ (.head _))) rfl
    have a_3 : (w11.alloc (.cells (tvC r none 0) 24)).cell? ⟨w.heap.size, 3, none⟩ = _ := K12.out.cell (p := w.heap.size) (cs := (tvC a a1 c1)) (i := 3) (.tail _ (.tail _ (.head _))) rfl
    have b_0 : (w11.alloc (.cells (tvC r none 0) 24)).cell? ⟨w.heap.size + 1, 0, none⟩ = _ := K12.out.cell (p := w.heap.size + 1) (cs := (tvC b a2 c2)) (i := 0) (.tail _ (.head _)) rfl
    have b_1 : (w11.alloc (.cells (tvC r none 0) 24)).cell? ⟨w.heap.size + 1, 1, none⟩ = _ := K12.out.cell (p := w.heap.size + 1) (cs := (tvC b a2 c2)) (i := 1) (.tail _ (.head _)) rfl
    have b_2 : (w11.alloc (.cells (tvC r none 0) 24)).cell? ⟨w.heap.size + 1, 2, none⟩ = _ := K12.out.cell (p := w.heap.size + 1) (cs := (tvC b a2 c2)) (i := 2) (.tail _ (.head _)) rfl
    have b_3 : (w11.alloc (.cells (tvC r none 0) 24)).cell? ⟨w.heap.size + 1, 3, none⟩ = _ := K12.out.cell (p := w.heap.size + 1) (cs := (tvC b a2 c2)) (i := 3) (.tail _ (.head _)) rfl
    go_wp2_with fail
    refine (HB.out).mono ?_
    rintro e_ w13 ⟨r2, ra, rc, E2, rfl, hr2, hG2, _, b_⟩
    have K13 := hide (K12.out.ext b_)
    clear b_ a_0 a_1 a_2 a_3 b_0 b_1 b_2 b_3
    unfold tv
    have HX := hide hr2
    have HG2 := hide hG2
    clear hr2 hG2
    have K14 := hide (K13.out.add (w13.heap.size) (tvC r2 ra rc) (by first | rfl | simp))
    by_cases e0 : E = 0
    · subst e0
      have hfx := HG.out.2.1 rfl
      have HFX := rFixed_any (HG.out.1.at (w13.alloc (.cells (tvC r2 ra rc) 24)))
      rw [hfx] at HFX
      unfold tv at HFX
      replace HFX := hide HFX
      clear hfx
      have x_0 : (w13.alloc (.cells (tvC r2 ra rc) 24)).cell? ⟨w11.heap.size, 0, none⟩ = _ := K14.out.cell (p := w11.heap.size) (cs := (tvC r none 0)) (i := 0) (.tail _ (.head _)) rfl
      have x_1 : (w13.alloc (.cells (tvC r2 ra rc) 24)).cell? ⟨w11.heap.size, 1, none⟩ = _ := K14.out.cell (p := w11.heap.size) (cs := (tvC r none 0)) (i := 1) (.tail _ (.head _)) rfl
      have x_2 : (w13.alloc (.cells (tvC r2 ra rc) 24)).cell? ⟨w11.heap.size, 2, none⟩ = _ := K14.out.cell (p := w11.heap.size) (cs := (tvC r none 0)) (i := 2) (.tail _ (.head _)) rfl
      have x_3 : (w13.alloc (.cells (tvC r2 ra rc) 24)).cell? ⟨w11.heap.size, 3, none⟩ = _ := K14.out.cell (p := w11.heap.size) (cs := (tvC r none 0)) (i := 3) (.tail _ (.head _)) rfl
      go_wp2_with fail
      refine (HFX.out).mono ?_
      rintro e_ w15 ⟨rfl, b_⟩
      have K15 := hide (K14.out.ext b_)
      have HXE := hide (HX.out.ext (Below.chain (alloc_below _ _) b_))
      clear b_ x_0 x_1 x_2 x_3
      skip
      by_cases e2 : E2 = 0
      · subst e2
        have hfy := HG2.out.1.1 rfl
        have HFY := rFixed_any (HXE.out)
        rw [hfy] at HFY
        unfold tv at HFY
        replace HFY := hide HFY
        clear hfy
        have y_0 : w15.cell? ⟨w13.heap.size, 0, none⟩ = _ := K15.out.cell (p := w13.heap.size) (cs := (tvC r2 ra rc)) (i := 0) (.head _) rfl
        have y_1 : w15.cell? ⟨w13.heap.size, 1, none⟩ = _ := K15.out.cell (p := w13.heap.size) (cs := (tvC r2 ra rc)) (i := 1) (.head _) rfl
        have y_2 : w15.cell? ⟨w13.heap.size, 2, none⟩ = _ := K15.out.cell (p := w13.heap.size) (cs := (tvC r2 ra rc)) (i := 2) (.head _) rfl
        have y_3 : w15.cell? ⟨w13.heap.size, 3, none⟩ = _ := K15.out.cell (p := w13.heap.size) (cs := (tvC r2 ra rc)) (i := 3) (.head _) rfl
        go_wp2_with fail
        refine (HFY.out).mono ?_
        rintro e_ w16 ⟨rfl, b_⟩
        have K16 := hide (K15.out.ext b_)
        clear b_ y_0 y_1 y_2 y_3
        skip
        go_wp2_with fail
        refine (HW.out _).mono ?_
        rintro e_ w17 ⟨rfl, b_⟩
        have K17 := hide (K16.out.ext b_)
        clear b_
        go_wp2
        go_ret
        exact ⟨rfl, K17.out.bel⟩
      · have hky := HG2.out.1.2 e2
        obtain ⟨n0, n1⟩ := ne_b e2
        have hky2 : (r2.k != 0) = false := by rw [hky]; rfl
        clear hky
        by_cases e7 : E2 = 7
        · subst e7
          have y_0 : w15.cell? ⟨w13.heap.size, 0, none⟩ = _ := K15.out.cell (p := w13.heap.size) (cs := (tvC r2 ra rc)) (i := 0) (.head _) rfl
          skip
          go_wp2_with fail
          refine (HW.out _).mono ?_
          rintro e_ w16 ⟨rfl, b_⟩
          have K16 := hide (K15.out.ext b_)
          clear b_
          go_wp2
          go_ret
          exact ⟨rfl, K16.out.bel⟩
        by_cases e1 : E2 = 1
        · subst e1
          have y_0 : w15.cell? ⟨w13.heap.size, 0, none⟩ = _ := K15.out.cell (p := w13.heap.size) (cs := (tvC r2 ra rc)) (i := 0) (.head _) rfl
          skip
          go_wp2_with fail
          refine (HW.out _).mono ?_
          rintro e_ w16 ⟨rfl, b_⟩
          have K16 := hide (K15.out.ext b_)
          clear b_
          go_wp2
          go_ret
          exact ⟨rfl, K16.out.bel⟩
        obtain ⟨m0, m1⟩ := ne_b e7
        obtain ⟨k0, k1⟩ := ne_b e1
        obtain rfl : v = true := by
          cases v with
          | true => rfl
          | false => (rcases HG2.out.2 rfl with h | h; exact absurd h e1; exact absurd h e7)
        clear e1 e7 e2
        have y_0 : w15.cell? ⟨w13.heap.size, 0, none⟩ = _ := K15.out.cell (p := w13.heap.size) (cs := (tvC r2 ra rc)) (i := 0) (.head _) rfl
        have a_0 : w15.cell? ⟨w.heap.size, 0, none⟩ = _ := K15.out.cell (p := w.heap.size) (cs := (tvC a a1 c1)) (i := 0) (.tail _ (.tail _ (.tail _ (.head _)))) rfl
        have b_0 : w15.cell? ⟨w.heap.size + 1, 0, none⟩ = _ := K15.out.cell (p := w.heap.size + 1) (cs := (tvC b a2 c2)) (i := 0) (.tail _ (.tail _ (.head _))) rfl
        go_wp2_with fail
        refine (HK.out _).mono ?_
        rintro e_ w16 ⟨rfl, b_⟩
        have K16 := hide (K15.out.ext b_)
        clear b_ a_0 b_0
        go_wp2_with fail
        refine (HW.out _).mono ?_
        rintro e_ w17 ⟨rfl, b_⟩
        have K17 := hide (K16.out.ext b_)
        clear b_
        go_wp2
        go_ret
        exact ⟨rfl, K17.out.bel⟩
    · have hkx := HG.out.2.2 e0
      obtain ⟨n0, n1⟩ := ne_b e0
      have hkx2 : (r.k != 0) = false := by rw [hkx]; rfl
      clear hkx e0
      have x_0 : (w13.alloc (.cells (tvC r2 ra rc) 24)).cell? ⟨w11.heap.size, 0, none⟩ = _ := K14.out.cell (p := w11.heap.size) (cs := (tvC r none 0)) (i := 0) (.tail _ (.head _)) rfl
      by_cases e2 : E2 = 0
      · subst e2
        have hfy := HG2.out.1.1 rfl
        have HFY := rFixed_any (HX.out.ext (alloc_below w13 (.cells (tvC r2 ra rc) 24)))
        rw [hfy] at HFY
        unfold tv at HFY
        replace HFY := hide HFY
        clear hfy
        have y_0 : (w13.alloc (.cells (tvC r2 ra rc) 24)).cell? ⟨w13.heap.size, 0, none⟩ = _ := K14.out.cell (p := w13.heap.size) (cs := (tvC r2 ra rc)) (i := 0) (.head _) rfl
        have y_1 : (w13.alloc (.cells (tvC r2 ra rc) 24)).cell? ⟨w13.heap.size, 1, none⟩ = _ := K14.out.cell (p := w13.heap.size) (cs := (tvC r2 ra rc)) (i := 1) (.head _) rfl
        have y_2 : (w13.alloc (.cells (tvC r2 ra rc) 24)).cell? ⟨w13.heap.size, 2, none⟩ = _ := K14.out.cell (p := w13.heap.size) (cs := (tvC r2 ra rc)) (i := 2) (.head _) rfl
        have y_3 : (w13.alloc (.cells (tvC r2 ra rc) 24)).cell? ⟨w13.heap.size, 3, none⟩ = _ := K14.out.cell (p := w13.heap.size) (cs := (tvC r2 ra rc)) (i := 3) (.head _) rfl
        go_wp2_with fail
        refine (HFY.out).mono ?_
        rintro e_ w15 ⟨rfl, b_⟩
        have K15 := hide (K14.out.ext b_)
        clear b_ y_0 y_1 y_2 y_3
        skip
        go_wp2_with fail
        refine (HW.out _).mono ?_
        rintro e_ w16 ⟨rfl, b_⟩
        have K16 := hide (K15.out.ext b_)
        clear b_
        go_wp2
        go_ret
        exact ⟨rfl, K16.out.bel⟩
      · have hky := HG2.out.1.2 e2
        obtain ⟨n2, n3⟩ := ne_b e2
        have hky2 : (r2.k != 0) = false := by rw [hky]; rfl
        clear hky
        by_cases e7 : E2 = 7
        · subst e7
          have y_0 : (w13.alloc (.cells (tvC r2 ra rc) 24)).cell? ⟨w13.heap.size, 0, none⟩ = _ := K14.out.cell (p := w13.heap.size) (cs := (tvC r2 ra rc)) (i := 0) (.head _) rfl
          skip
          go_wp2_with fail
          refine (HW.out _).mono ?_
          rintro e_ w15 ⟨rfl, b_⟩
          have K15 := hide (K14.out.ext b_)
          clear b_
          go_wp2
          go_ret
          exact ⟨rfl, K15.out.bel⟩
        by_cases e1 : E2 = 1
        · subst e1
          have y_0 : (w13.alloc (.cells (tvC r2 ra rc) 24)).cell? ⟨w13.heap.size, 0, none⟩ = _ := K14.out.cell (p := w13.heap.size) (cs := (tvC r2 ra rc)) (i := 0) (.head _) rfl
          skip
          go_wp2_with fail
          refine (HW.out _).mono ?_
          rintro e_ w15 ⟨rfl, b_⟩
          have K15 := hide (K14.out.ext b_)
          clear b_
          go_wp2
          go_ret
          exact ⟨rfl, K15.out.bel⟩
        obtain ⟨m0, m1⟩ := ne_b e7
        obtain ⟨k0, k1⟩ := ne_b e1
        obtain rfl : v = true := by
          cases v with
          | true => rfl
          | false => (rcases HG2.out.2 rfl with h | h; exact absurd h e1; exact absurd h e7)
        clear e1 e7 e2
        have y_0 : (w13.alloc (.cells (tvC r2 ra rc) 24)).cell? ⟨w13.heap.size, 0, none⟩ = _ := K14.out.cell (p := w13.heap.size) (cs := (tvC r2 ra rc)) (i := 0) (.head _) rfl
        have a_0 : (w13.alloc (.cells (tvC r2 ra rc) 24)).cell? ⟨w.heap.size, 0, none⟩ = _ := K14.out.cell (p := w.heap.size) (cs := (tvC a a1 c1)) (i := 0) (.tail _ (.tail _ (.tail _ (.head _)))) rfl
        have b_0 : (w13.alloc (.cells (tvC r2 ra rc) 24)).cell? ⟨w.heap.size + 1, 0, none⟩ = _ := K14.out.cell (p := w.heap.size + 1) (cs := (tvC b a2 c2)) (i := 0) (.tail _ (.tail _ (.head _))) rfl
        go_wp2_with fail
        refine (HK.out _).mono ?_
        rintro e_ w15 ⟨rfl, b_⟩
        have K15 := hide (K14.out.ext b_)
        clear b_ a_0 b_0
        go_wp2_with fail
        refine (HW.out _).mono ?_
        rintro e_ w16 ⟨rfl, b_⟩
        have K16 := hide (K15.out.ext b_)
        clear b_
        go_wp2
        go_ret
        exact ⟨rfl, K16.out.bel⟩
end Go.Proofs.YtlfhppicglfinaaGreat
