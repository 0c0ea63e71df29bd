/- ExprOne: the law answers true. -/
import Derived.Deep.RegionHeld
import Derived.Test.YteiacgpaocnofaaGreatXe
import Derived.Test.YteiacgpaocnofaaGreatXn
namespace Go.Proofs.YteiacgpaocnofaaGreat
open Go.RowKit
section
variable {P : Program} {md : Region.Mode} {ops : Array Oper} {Q : Exit → Act → World → Prop} {S : World → Prop}
theorem held_take {i : Nat} {oi : Oper} {d : Option Tmp} {v : Value} {fuel : Nat} {listed : Array Bool} {a : Act} {w : World} (hi : ops[i]? = some oi) (hd : oi.dst = d) (hs : Region.noSelect ops = true) (hf : Region.free md ops listed i = true) (hr : (Region.ready md ops listed).contains i = true)
    (hQ : ∀ c a w, Q (.panic c) (a.put d v) w → Q (.panic c) a w) (hw : Region.wanted oi (yielded ops a.tmps) = true) (hS : S w) (hy : ∀ w', S w' → (execOp a.eval oi).run P w' = .ok (.value v) w')
    (h : wpAnyH P md ops Q S fuel (listed.setIfInBounds i true) (a.put d v) w) : wpAnyH P md ops Q S (fuel + 1) listed a w := by
  subst hd
  exact wpAnyH_take hi hs hf hr hQ (.inl ⟨hw, hy⟩) hS h
theorem held_skip {i : Nat} {oi : Oper} {d : Option Tmp} {fuel : Nat} {listed : Array Bool} {a : Act} {w : World} (hi : ops[i]? = some oi) (hd : oi.dst = d) (hs : Region.noSelect ops = true) (hf : Region.free md ops listed i = true) (hr : (Region.ready md ops listed).contains i = true)
    (hQ : ∀ c a w, Q (.panic c) (a.put d undef) w → Q (.panic c) a w) (hw : Region.wanted oi (yielded ops a.tmps) = false) (hS : S w)
    (h : wpAnyH P md ops Q S fuel (listed.setIfInBounds i true) (a.put d undef) w) : wpAnyH P md ops Q S (fuel + 1) listed a w := by
  subst hd
  exact wpAnyH_take hi hs hf hr hQ (.inr ⟨hw, rfl⟩) hS h
theorem held_call {i : Nat} {oi : Oper} {d : Option Tmp} {fuel : Nat} {listed : Array Bool} {a : Act} {w : World} (hi : ops[i]? = some oi) (hd : oi.dst = d) (hr : Region.ready md ops listed = [i]) (hw : Region.wanted oi (yielded ops a.tmps) = true)
    (h : ∀ K : Act → World → Prop, (∀ v w, S w → wpAnyH P md ops Q S fuel (listed.setIfInBounds i true) (a.put d v) w → K (a.put d v) w) → Oper.wp P oi a w K Q) : wpAnyH P md ops Q S (fuel + 1) listed a w := by
  subst hd
  refine wpAnyH_ready hr (by simp) (AllReadyH.cons hi (fun K hK => ?_) AllReadyH.nil)
  rw [if_pos hw]
  exact h K fun v w hS hW => hK.out _ _ hS fun _ => hW
end
def oneO (t : Tm) : Ox := ⟨1, t, 0, 0⟩
theorem one_may {t : Tm} (h : mayT t = true) : mayE [oneO t] = true := by
  refine may_of (by show 1 ≤ 32; decide) ?_
  rw [hg_cons]
  have hop : isOpB (oneO t) = true := by show (mayT t && ((0 : Int) == 0) && ((0 : Int) == 0)) = true; rw [h]; rfl
  rw [if_pos ⟨hop, by show takesN 1 ≤ 0; decide, by show (0 : Int) ≤ 0; decide, fun h => absurd h (by show ¬ (0 : Int) < 0; decide)⟩]
  rfl
theorem one_term {nl : List ByteArray} {tl : List Tm} {t : Tm} (h : mayT t = true) (hb : mbB nl tl = true) (hk : t.k ≠ 1) : EvalR nl tl [oneO t] t 0 := by
  unfold EvalR
  rw [if_pos ⟨one_may h, hb⟩]
  exact ⟨[t], .go (stepR_term (x := oneO t) rfl hk) (.nil _), by rw [if_pos rfl]⟩
theorem one_var {nl : List ByteArray} {tl : List Tm} {t y : Tm} (h : mayT t = true) (hb : mbB nl tl = true) (hk : t.k = 1) (hl : lookF nl tl t.s = some y) : EvalR nl tl [oneO t] y 0 := by
  unfold EvalR
  rw [if_pos ⟨one_may h, hb⟩]
  unfold lookF at hl
  rw [if_pos hb] at hl
  exact ⟨[y], .go (stepR_var (x := oneO t) rfl hk hl) (.nil _), by rw [if_pos rfl]⟩
theorem one_none {nl : List ByteArray} {tl : List Tm} {t : Tm} (h : mayT t = true) (hb : mbB nl tl = true) (hk : t.k = 1) (hl : lookF nl tl t.s = none) : EvalR nl tl [oneO t] zt 8 := by
  unfold EvalR
  rw [if_pos ⟨one_may h, hb⟩]
  unfold lookF at hl
  rw [if_pos hb] at hl
  exact ⟨[], .err (stepR_none (x := oneO t) rfl hk hl) (by decide), by rw [if_neg (by decide)]⟩
theorem one_names {t : Tm} (hk : t.k = 1) : baL (namesL (varN [oneO t])) = [t.s] := by
  have e : varN [oneO t] = [t.s] := by
    unfold varN
    have hk1 : ((oneO t).t.k == 1) = true := by show (t.k == 1) = true; simpa using hk
    rw [List.filter_cons_of_pos (by simpa using hk1)]
    rfl
  rw [e, namesL_one]
  show [(⟨t.s.data.toList.toArray⟩ : ByteArray)] = [t.s]
  rw [ba_id]
theorem one_names0 {t : Tm} (hk : t.k ≠ 1) : baL (namesL (varN [oneO t])) = [] := by
  have e : varN [oneO t] = [] := by
    unfold varN
    rw [List.filter_cons_of_neg (by show ¬ (t.k == 1) = true; simpa using hk)]
    rfl
  rw [e]
  unfold namesL
  simp [Lib.compact, Lib.compactUpTo, baL]
set_option maxRecDepth 100000 in
set_option maxHeartbeats 16000000 in
theorem ExprOne_any {t : Tm} {a : Option Addr} {c : Nat} {nl : List ByteArray} {na : Option Addr} {nc : Nat} {tl : List Tm} {ta : Option Addr} {tc : Nat} {w : World} (hM : MaxL w) (ht : TAt w t a c) (hb : BAt w nl na nc tl ta tc) (hbig : nl.length ≤ 4611686018427387904) : Calls Tryz.prog 7 #[tv t a c, bv nl na nc tl ta tc] w (Ans true w) := by
  have HMX := hide hM
  have HT := hide ht
  have HBd := hide (And.intro hb hbig)
  have K00 := ((KV.nil w).add w.heap.size (tvC t a c) 33 rfl).add (w.heap.size + 1) (bvC nl na nc tl ta tc) 28 (by simp)
  have K01 := K00.add (w.heap.size + 2) (ovC (oneO t) a c) 48 (by simp)
  have K0 := hide (K01.add (w.heap.size + 3) #[.slice (some ⟨w.heap.size + 2, 0, none⟩) 1 1] 24 (by simp))
  have hO : OAt (((w.alloc (.cells (tvC t a c) 33)).alloc (.cells (bvC nl na nc tl ta tc) 28)).alloc (.cells (ovC (oneO t) a c) 48)) [oneO t] (some ⟨w.heap.size + 2, 0, none⟩) 1 := row_oat (l := [oneO t]) (K01.row _ (.head _)) (by show 1 ≤ 1000; decide) (.one (ht.ext K01.bel) (fl_ofit (by show (-9223372036854775808 : Int) ≤ 1 ∧ (1 : Int) ≤ 9223372036854775807; decide) (by show (-9223372036854775808 : Int) ≤ 0 ∧ (0 : Int) ≤ 9223372036854775807; decide) (by show (-9223372036854775808 : Int) ≤ 0 ∧ (0 : Int) ≤ 9223372036854775807; decide))) (ovC_one _ _ _)
  have HO := hide (hO.ext (alloc_below _ (.cells #[.slice (some ⟨w.heap.size + 2, 0, none⟩) 1 1] 24)))
  clear hO K01
  obtain ⟨u0, u1, u2, u3⟩ : K00.bel.size = K00.bel.size ∧ True ∧ True ∧ True := ⟨rfl, trivial, trivial, trivial⟩
  clear u0 u1 u2 u3
  have t0 := K00.cell (p := w.heap.size) (cs := (tvC t a c)) (t := 33) (i := 0) (by simp) rfl
  have t1 := K00.cell (p := w.heap.size) (cs := (tvC t a c)) (t := 33) (i := 1) (by simp) rfl
  have t2 := K00.cell (p := w.heap.size) (cs := (tvC t a c)) (t := 33) (i := 2) (by simp) rfl
  have t3 := K00.cell (p := w.heap.size) (cs := (tvC t a c)) (t := 33) (i := 3) (by simp) rfl
  clear K00 hM ht hb hbig
  unfold bv tv
  go_enter Tryz.func7, Tryz.ntmps7
  go_upto_region 2 with fail
  clear t0 t1 t2 t3
  obtain ⟨W0, hW0⟩ : ∃ W, (((w.alloc (.cells (tvC t a c) 33)).alloc (.cells (bvC nl na nc tl ta tc) 28)).alloc (.cells (ovC (oneO t) a c) 48)).alloc (.cells #[.slice (some ⟨w.heap.size + 2, 0, none⟩) 1 1] 24) = W := ⟨_, rfl⟩
  replace K0 := hide K0.out
  replace HO := hide HO.out
  rw [hW0] at K0 HO
  show Code.wp _ _ _ _ ((((w.alloc (.cells (tvC t a c) 33)).alloc (.cells (bvC nl na nc tl ta tc) 28)).alloc (.cells (ovC (oneO t) a c) 48)).alloc (.cells #[.slice (some ⟨w.heap.size + 2, 0, none⟩) 1 1] 24))
  rw [hW0]
  clear hW0
  have HL := hide (light_any HO.out)
  have e0 := K0.out.cell (p := (w.heap.size + 3)) (cs := #[.slice (some ⟨w.heap.size + 2, 0, none⟩) 1 1]) (t := 24) (i := 0) (by simp) rfl
  go_wp2_with fail
  refine HL.out.mono ?_
  rintro e_ w1 ⟨v1, rfl, b_⟩
  have K1 := hide (K0.out.ext b_)
  have HO1 := hide (HO.out.ext b_)
  clear b_
  clear e0
  clear HL K0 HO
  cases v1 with
  | false =>
    go_wp2_with fail
    refine (awake12_any (HMX.out.ext K1.out.bel)).mono ?_
    rintro e_ wz ⟨rfl, b_⟩
    have KZ := hide (K1.out.ext b_)
    clear b_
    go_wp2
    go_ret
    exact ⟨rfl, KZ.out.bel⟩
  | true =>
  have HL := hide (lightB_any (HBd.out.1.ext K1.out.bel) HBd.out.2)
  unfold bv at HL
  have b0 := K1.out.cell (p := (w.heap.size + 1)) (cs := (bvC nl na nc tl ta tc)) (t := 28) (i := 0) (by simp) rfl
  have b1 := K1.out.cell (p := (w.heap.size + 1)) (cs := (bvC nl na nc tl ta tc)) (t := 28) (i := 1) (by simp) rfl
  go_wp2_with fail
  refine HL.out.mono ?_
  rintro e_ w2 ⟨v2, rfl, b_⟩
  have K2 := hide (K1.out.ext b_)
  have HO2 := hide (HO1.out.ext b_)
  clear b_
  clear b0 b1
  clear HL K1 HO1
  cases v2 with
  | false =>
    go_wp2_with fail
    refine (awake12_any (HMX.out.ext K2.out.bel)).mono ?_
    rintro e_ wz ⟨rfl, b_⟩
    have KZ := hide (K2.out.ext b_)
    clear b_
    go_wp2
    go_ret
    exact ⟨rfl, KZ.out.bel⟩
  | true =>
  obtain ⟨M, hMM⟩ : ∃ v, mayT t = v := ⟨_, rfl⟩
  have HL := hide (rMay_any (HT.out.ext K2.out.bel))
  rw [hMM] at HL
  replace HL := hide HL.out
  have HMM := hide hMM
  clear hMM
  unfold tv at HL
  have t0 := K2.out.cell (p := w.heap.size) (cs := (tvC t a c)) (t := 33) (i := 0) (by simp) rfl
  have t1 := K2.out.cell (p := w.heap.size) (cs := (tvC t a c)) (t := 33) (i := 1) (by simp) rfl
  have t2 := K2.out.cell (p := w.heap.size) (cs := (tvC t a c)) (t := 33) (i := 2) (by simp) rfl
  have t3 := K2.out.cell (p := w.heap.size) (cs := (tvC t a c)) (t := 33) (i := 3) (by simp) rfl
  go_wp2_with fail
  refine HL.out.mono ?_
  rintro e_ w3 ⟨rfl, b_⟩
  have K3 := hide (K2.out.ext b_)
  have HO3 := hide (HO2.out.ext b_)
  clear b_
  clear t0 t1 t2 t3
  clear HL K2 HO2
  cases M with
  | false =>
    go_wp2_with fail
    refine (awake12_any (HMX.out.ext K3.out.bel)).mono ?_
    rintro e_ wz ⟨rfl, b_⟩
    have KZ := hide (K3.out.ext b_)
    clear b_
    go_wp2
    go_ret
    exact ⟨rfl, KZ.out.bel⟩
  | true =>
  obtain ⟨B, hBB⟩ : ∃ v, mbB nl tl = v := ⟨_, rfl⟩
  have HL := hide (show Calls Tryz.prog 20 #[bv nl na nc tl ta tc] w3 (Ans B w3) from by rw [← hBB]; exact MayBind_any (HBd.out.1.ext K3.out.bel))
  have HMb := hide hBB
  clear hBB
  unfold bv at HL
  have b0 := K3.out.cell (p := (w.heap.size + 1)) (cs := (bvC nl na nc tl ta tc)) (t := 28) (i := 0) (by simp) rfl
  have b1 := K3.out.cell (p := (w.heap.size + 1)) (cs := (bvC nl na nc tl ta tc)) (t := 28) (i := 1) (by simp) rfl
  go_wp2_with fail
  refine HL.out.mono ?_
  rintro e_ w4 ⟨rfl, b_⟩
  have K4 := hide (K3.out.ext b_)
  have HO4 := hide (HO3.out.ext b_)
  clear b_
  clear b0 b1
  clear HL K3 HO3
  cases B with
  | false =>
    go_wp2_with fail
    refine (awake12_any (HMX.out.ext K4.out.bel)).mono ?_
    rintro e_ wz ⟨rfl, b_⟩
    have KZ := hide (K4.out.ext b_)
    clear b_
    go_wp2
    go_ret
    exact ⟨rfl, KZ.out.bel⟩
  | true =>
  have HE := hide (Eval_any (HMX.out.ext K4.out.bel) HO4.out (HBd.out.1.ext K4.out.bel))
  unfold bv at HE
  have e0 := K4.out.cell (p := (w.heap.size + 3)) (cs := #[.slice (some ⟨w.heap.size + 2, 0, none⟩) 1 1]) (t := 24) (i := 0) (by simp) rfl
  have b0 := K4.out.cell (p := (w.heap.size + 1)) (cs := (bvC nl na nc tl ta tc)) (t := 28) (i := 0) (by simp) rfl
  have b1 := K4.out.cell (p := (w.heap.size + 1)) (cs := (bvC nl na nc tl ta tc)) (t := 28) (i := 1) (by simp) rfl
  go_wp2_with fail
  refine HE.out.mono ?_
  rintro e_ w5 ⟨q, qa, qc, E, rfl, hq, hR, _, _, b_⟩
  have bb := Below.chain b_ (alloc_below w5 (.cells (tvC q qa qc) 33))
  have K6 := hide ((K4.out.ext b_).add w5.heap.size (tvC q qa qc) 33 rfl)
  have HQ := hide (hq.ext (alloc_below w5 (.cells (tvC q qa qc) 33)))
  have HO6 := hide (HO4.out.ext bb)
  have HR := hide hR
  clear e0
  clear b0 b1
  clear hq hR b_ bb HE HO4
  unfold tv
  have t0 := K6.out.cell (p := w.heap.size) (cs := (tvC t a c)) (t := 33) (i := 0) (by simp) rfl
  by_cases hk : t.k = 1
  · have dk : (t.k != 1) = false := by simpa using hk
    have HK := hide hk
    have HLk := hide (Look_any (HBd.out.1.ext K6.out.bel) t.s)
    unfold bv at HLk
    clear hk
    have t2 := K6.out.cell (p := w.heap.size) (cs := (tvC t a c)) (t := 33) (i := 2) (by simp) rfl
    have b0 := K6.out.cell (p := (w.heap.size + 1)) (cs := (bvC nl na nc tl ta tc)) (t := 28) (i := 0) (by simp) rfl
    have b1 := K6.out.cell (p := (w.heap.size + 1)) (cs := (bvC nl na nc tl ta tc)) (t := 28) (i := 1) (by simp) rfl
    go_wp2_with fail
    refine HLk.out.mono ?_
    rintro e_ w7 ⟨r, rA, rC, f, rfl, hr, hlk, _, _, b_⟩
    have bb := Below.chain b_ (alloc_below w7 (.cells (tvC r rA rC) 33))
    have K8 := hide ((K6.out.ext b_).add w7.heap.size (tvC r rA rC) 33 rfl)
    have HRr := hide (hr.ext (alloc_below w7 (.cells (tvC r rA rC) 33)))
    have HQ8 := hide (HQ.out.ext bb)
    have HO8 := hide (HO6.out.ext bb)
    have HLK := hide hlk
    clear hr hlk b_ bb HLk t0 t2 b0 b1
    unfold tv
    have HNa := hide (Names_any HO8.out)
    have e0 := K8.out.cell (p := (w.heap.size + 3)) (cs := #[.slice (some ⟨w.heap.size + 2, 0, none⟩) 1 1]) (t := 24) (i := 0) (by simp) rfl
    go_wp2_with fail
    refine HNa.out.mono ?_
    rintro e_ w10 ⟨N, Na, Nc, rfl, hN, hNe, b_⟩
    have K10 := hide (K8.out.ext b_)
    rw [one_may HMM.out, if_pos rfl, one_names HK.out] at hNe
    subst hNe
    obtain ⟨g, o, hao, hbb, hcs⟩ := hN.read (by show 0 < 1; decide)
    subst hao
    have HN := hide (show ∀ W, Below w10.heap.size w10 W → W.cell? ⟨g, o, none⟩ = some (.string t.s) from fun W hW => by have := (hcs 0 t.s rfl).2 W hW; rwa [Nat.add_zero] at this)
    have hix : ∀ w_, (Instr.indexAt 25 (.slice (some ⟨g, o, none⟩) 1 Nc) (.int .i64 0)).run Tryz.prog w_ = .ok (.pointer (some ⟨g, o, none⟩)) w_ := fun w_ => by
      have := ix_names w_ g o 1 Nc 0 (by decide)
      rwa [Nat.add_zero] at this
    have HQ10 := hide (HQ8.out.ext b_)
    have HR10 := hide (HRr.out.ext b_)
    have heq : (t.s.toList == t.s.toList) = true := by simp
    clear hN hcs hbb b_ e0 HNa
    simp only [List.length_cons, List.length_nil, Nat.zero_add]
    cases hlo : lookF nl tl t.s with
    | some y =>
      have h1 := HLK.out
      rw [hlo] at h1
      obtain ⟨rfl, rfl⟩ := h1
      obtain ⟨rfl, rfl⟩ := eval_uniq HR.out (one_var HMM.out HMb.out HK.out hlo)
      clear hlo
      have HS := hide (show ∀ W, Below w10.heap.size w10 W → Calls Tryz.prog 22 #[tv q qa qc, tv q rA rC] W (Ans true W) from fun W hW => by
        have h := rSame_any (HQ10.out.ext hW) (HR10.out.ext hW)
        rwa [cp_refl] at h)
      have HAW := hide (show ∀ W, Below w10.heap.size w10 W → Calls Tryz.prog 11 #[] W (Ans true W) from fun W hW => awake12_any (HMX.out.ext (Below.chain K10.out.bel hW)))
      unfold tv at HS
      have HKS := hide (show ∀ W, Below w10.heap.size w10 W → (fun W => Below w10.heap.size w10 W ∧ W.cell? ⟨w5.heap.size, 0, none⟩ = some (.int .i64 q.k) ∧ W.cell? ⟨w5.heap.size, 1, none⟩ = some (.int .i64 q.n) ∧ W.cell? ⟨w5.heap.size, 2, none⟩ = some (.string q.s) ∧ W.cell? ⟨w5.heap.size, 3, none⟩ = some (.slice qa q.l.length qc) ∧ W.cell? ⟨w7.heap.size, 0, none⟩ = some (.int .i64 q.k) ∧ W.cell? ⟨w7.heap.size, 1, none⟩ = some (.int .i64 q.n) ∧ W.cell? ⟨w7.heap.size, 2, none⟩ = some (.string q.s) ∧ W.cell? ⟨w7.heap.size, 3, none⟩ = some (.slice rA q.l.length rC) ∧ W.cell? ⟨w.heap.size, 2, none⟩ = some (.string t.s) ∧ W.cell? ⟨g, o, none⟩ = some (.string t.s)) W from fun W hW => by
        have k := K10.out.ext hW
        have x0 := k.cell (p := w5.heap.size) (cs := tvC q qa qc) (t := 33) (i := 0) (by simp) rfl
        have x1 := k.cell (p := w5.heap.size) (cs := tvC q qa qc) (t := 33) (i := 1) (by simp) rfl
        have x2 := k.cell (p := w5.heap.size) (cs := tvC q qa qc) (t := 33) (i := 2) (by simp) rfl
        have x3 := k.cell (p := w5.heap.size) (cs := tvC q qa qc) (t := 33) (i := 3) (by simp) rfl
        have y0 := k.cell (p := w7.heap.size) (cs := tvC q rA rC) (t := 33) (i := 0) (by simp) rfl
        have y1 := k.cell (p := w7.heap.size) (cs := tvC q rA rC) (t := 33) (i := 1) (by simp) rfl
        have y2 := k.cell (p := w7.heap.size) (cs := tvC q rA rC) (t := 33) (i := 2) (by simp) rfl
        have y3 := k.cell (p := w7.heap.size) (cs := tvC q rA rC) (t := 33) (i := 3) (by simp) rfl
        have t2 := k.cell (p := w.heap.size) (cs := tvC t a c) (t := 33) (i := 2) (by simp) rfl
        exact ⟨hW, x0, x1, x2, x3, y0, y1, y2, y3, t2, HN.out W hW⟩)
      go_wp2_with fail
      refine wp_region_held_drew (S := (fun W => Below w10.heap.size w10 W ∧ W.cell? ⟨w5.heap.size, 0, none⟩ = some (.int .i64 q.k) ∧ W.cell? ⟨w5.heap.size, 1, none⟩ = some (.int .i64 q.n) ∧ W.cell? ⟨w5.heap.size, 2, none⟩ = some (.string q.s) ∧ W.cell? ⟨w5.heap.size, 3, none⟩ = some (.slice qa q.l.length qc) ∧ W.cell? ⟨w7.heap.size, 0, none⟩ = some (.int .i64 q.k) ∧ W.cell? ⟨w7.heap.size, 1, none⟩ = some (.int .i64 q.n) ∧ W.cell? ⟨w7.heap.size, 2, none⟩ = some (.string q.s) ∧ W.cell? ⟨w7.heap.size, 3, none⟩ = some (.slice rA q.l.length rC) ∧ W.cell? ⟨w.heap.size, 2, none⟩ = some (.string t.s) ∧ W.cell? ⟨g, o, none⟩ = some (.string t.s))) (by kernel_rfl) (HKS.out _ (Below.refl _ _).drew) (fun hHeld => ?_)
      have BB : Below w10.heap.size w10 w10.drew := (Below.refl _ _).drew
      refine held_take (i := 0) (d := some 68) (v := ?va0) rfl rfl (by kernel_rfl) (by kernel_rfl) (by kernel_rfl) (fun _ _ _ h => h) (by rfl) hHeld ?hya0 ?resta0
      case hya0 => (intro w_ hSw; (try dsimp only at hSw); go_simp; try with_reducible rfl)
      simp only [Act.put, List.setIfInBounds_toArray, List.set_cons_zero, List.set_cons_succ]
      refine held_take (i := 1) (d := some 69) (v := ?va1) rfl rfl (by kernel_rfl) (by kernel_rfl) (by kernel_rfl) (fun _ _ _ h => h) (by rfl) hHeld ?hya1 ?resta1
      case hya1 => (intro w_ hSw; (try dsimp only at hSw); go_simp; try with_reducible rfl)
      simp only [Act.put, List.setIfInBounds_toArray, List.set_cons_zero, List.set_cons_succ]
      refine held_take (i := 2) (d := some 70) (v := ?va2) rfl rfl (by kernel_rfl) (by kernel_rfl) (by kernel_rfl) (fun _ _ _ h => h) (by rfl) hHeld ?hya2 ?resta2
      case hya2 => (intro w_ hSw; (try dsimp only at hSw); go_simp; try with_reducible rfl)
      simp only [Act.put, List.setIfInBounds_toArray, List.set_cons_zero, List.set_cons_succ]
      refine held_take (i := 3) (d := some 71) (v := ?va3) rfl rfl (by kernel_rfl) (by kernel_rfl) (by kernel_rfl) (fun _ _ _ h => h) (by rfl) hHeld ?hya3 ?resta3
      case hya3 => (intro w_ hSw; (try dsimp only at hSw); go_simp; try with_reducible rfl)
      simp only [Act.put, List.setIfInBounds_toArray, List.set_cons_zero, List.set_cons_succ]
      refine held_take (i := 4) (d := some 72) (v := ?va4) rfl rfl (by kernel_rfl) (by kernel_rfl) (by kernel_rfl) (fun _ _ _ h => h) (by rfl) hHeld ?hya4 ?resta4
      case hya4 => (intro w_ hSw; (try dsimp only at hSw); go_simp; try with_reducible rfl)
      simp only [Act.put, List.setIfInBounds_toArray, List.set_cons_zero, List.set_cons_succ]
      refine held_take (i := 5) (d := some 73) (v := ?va5) rfl rfl (by kernel_rfl) (by kernel_rfl) (by kernel_rfl) (fun _ _ _ h => h) (by rfl) hHeld ?hya5 ?resta5
      case hya5 => (intro w_ hSw; (try dsimp only at hSw); go_simp; try with_reducible rfl)
      simp only [Act.put, List.setIfInBounds_toArray, List.set_cons_zero, List.set_cons_succ]
      refine held_take (i := 6) (d := some 74) (v := ?va6) rfl rfl (by kernel_rfl) (by kernel_rfl) (by kernel_rfl) (fun _ _ _ h => h) (by rfl) hHeld ?hya6 ?resta6
      case hya6 => (intro w_ hSw; (try dsimp only at hSw); go_simp; try with_reducible rfl)
      simp only [Act.put, List.setIfInBounds_toArray, List.set_cons_zero, List.set_cons_succ]
      refine held_take (i := 7) (d := some 75) (v := ?va7) rfl rfl (by kernel_rfl) (by kernel_rfl) (by kernel_rfl) (fun _ _ _ h => h) (by rfl) hHeld ?hya7 ?resta7
      case hya7 => (intro w_ hSw; (try dsimp only at hSw); go_simp; try with_reducible rfl)
      simp only [Act.put, List.setIfInBounds_toArray, List.set_cons_zero, List.set_cons_succ]
      refine held_skip (i := 8) (d := some 76) rfl rfl (by kernel_rfl) (by kernel_rfl) (by kernel_rfl) (fun _ _ _ h => h) (by rfl) hHeld ?_
      simp only [Act.put, List.setIfInBounds_toArray, List.set_cons_zero, List.set_cons_succ]
      refine held_skip (i := 9) (d := some 77) rfl rfl (by kernel_rfl) (by kernel_rfl) (by kernel_rfl) (fun _ _ _ h => h) (by rfl) hHeld ?_
      simp only [Act.put, List.setIfInBounds_toArray, List.set_cons_zero, List.set_cons_succ]
      refine held_take (i := 10) (d := some 78) (v := ?va10) rfl rfl (by kernel_rfl) (by kernel_rfl) (by kernel_rfl) (fun _ _ _ h => h) (by rfl) hHeld ?hya10 ?resta10
      case hya10 => (intro w_ hSw; (try dsimp only at hSw); go_simp; try with_reducible rfl)
      simp only [Act.put, List.setIfInBounds_toArray, List.set_cons_zero, List.set_cons_succ]
      refine held_take (i := 11) (d := some 79) (v := ?va11) rfl rfl (by kernel_rfl) (by kernel_rfl) (by kernel_rfl) (fun _ _ _ h => h) (by rfl) hHeld ?hya11 ?resta11
      case hya11 => (intro w_ hSw; (try dsimp only at hSw); go_simp; try with_reducible rfl)
      simp only [Act.put, List.setIfInBounds_toArray, List.set_cons_zero, List.set_cons_succ]
      refine held_take (i := 12) (d := some 80) (v := ?va12) rfl rfl (by kernel_rfl) (by kernel_rfl) (by kernel_rfl) (fun _ _ _ h => h) (by rfl) hHeld ?hya12 ?resta12
      case hya12 => (intro w_ hSw; (try dsimp only at hSw); go_simp; try with_reducible rfl)
      simp only [Act.put, List.setIfInBounds_toArray, List.set_cons_zero, List.set_cons_succ]
      refine held_take (i := 13) (d := some 81) (v := ?va13) rfl rfl (by kernel_rfl) (by kernel_rfl) (by kernel_rfl) (fun _ _ _ h => h) (by rfl) hHeld ?hya13 ?resta13
      case hya13 => (intro w_ hSw; (try dsimp only at hSw); go_simp; try with_reducible rfl)
      simp only [Act.put, List.setIfInBounds_toArray, List.set_cons_zero, List.set_cons_succ]
      refine held_take (i := 14) (d := some 82) (v := ?va14) rfl rfl (by kernel_rfl) (by kernel_rfl) (by kernel_rfl) (fun _ _ _ h => h) (by rfl) hHeld ?hya14 ?resta14
      case hya14 => (intro w_ hSw; (try dsimp only at hSw); go_simp; try with_reducible rfl)
      simp only [Act.put, List.setIfInBounds_toArray, List.set_cons_zero, List.set_cons_succ]
      refine held_call (i := 15) (d := some 83) rfl rfl (by kernel_rfl) (by rfl) (fun K hK => ?_)
      go_simp
      go_at_call 22
      refine (HS.out _ BB).mono ?_
      rintro e_ w11 ⟨rfl, b_⟩
      refine hK _ _ (HKS.out _ (Below.chain BB b_)) ?_
      replace BB := Below.chain BB b_
      clear b_ hK K hHeld
      have hHeld := HKS.out _ BB
      simp only [Act.put, List.setIfInBounds_toArray, List.set_cons_zero, List.set_cons_succ]
      refine held_take (i := 16) (d := some 84) (v := ?va16) rfl rfl (by kernel_rfl) (by kernel_rfl) (by kernel_rfl) (fun _ _ _ h => h) (by rfl) hHeld ?hya16 ?resta16
      case hya16 => (intro w_ hSw; (try dsimp only at hSw); go_simp; try with_reducible rfl)
      simp only [Act.put, List.setIfInBounds_toArray, List.set_cons_zero, List.set_cons_succ]
      refine held_take (i := 17) (d := some 85) (v := ?va17) rfl rfl (by kernel_rfl) (by kernel_rfl) (by kernel_rfl) (fun _ _ _ h => h) (by rfl) hHeld ?hya17 ?resta17
      case hya17 => (intro w_ hSw; (try dsimp only at hSw); go_simp; try with_reducible rfl)
      simp only [Act.put, List.setIfInBounds_toArray, List.set_cons_zero, List.set_cons_succ]
      refine held_take (i := 18) (d := some 86) (v := ?va18) rfl rfl (by kernel_rfl) (by kernel_rfl) (by kernel_rfl) (fun _ _ _ h => h) (by rfl) hHeld ?hya18 ?resta18
      case hya18 => (intro w_ hSw; (try dsimp only at hSw); go_simp; try with_reducible rfl)
      simp only [Act.put, List.setIfInBounds_toArray, List.set_cons_zero, List.set_cons_succ]
      refine held_take (i := 19) (d := some 87) (v := ?va19) rfl rfl (by kernel_rfl) (by kernel_rfl) (by kernel_rfl) (fun _ _ _ h => h) (by rfl) hHeld ?hya19 ?resta19
      case hya19 => (intro w_ hSw; (try dsimp only at hSw); go_simp; try with_reducible rfl)
      simp only [Act.put, List.setIfInBounds_toArray, List.set_cons_zero, List.set_cons_succ]
      refine held_take (i := 20) (d := some 88) (v := ?va20) rfl rfl (by kernel_rfl) (by kernel_rfl) (by kernel_rfl) (fun _ _ _ h => h) (by rfl) hHeld ?hya20 ?resta20
      case hya20 => (intro w_ hSw; (try dsimp only at hSw); go_simp; try with_reducible rfl)
      simp only [Act.put, List.setIfInBounds_toArray, List.set_cons_zero, List.set_cons_succ]
      refine held_take (i := 21) (d := some 89) (v := ?va21) rfl rfl (by kernel_rfl) (by kernel_rfl) (by kernel_rfl) (fun _ _ _ h => h) (by rfl) hHeld ?hya21 ?resta21
      case hya21 => (intro w_ hSw; (try dsimp only at hSw); go_simp; try with_reducible rfl)
      simp only [Act.put, List.setIfInBounds_toArray, List.set_cons_zero, List.set_cons_succ]
      refine held_take (i := 22) (d := some 90) (v := ?va22) rfl rfl (by kernel_rfl) (by kernel_rfl) (by kernel_rfl) (fun _ _ _ h => h) (by rfl) hHeld ?hya22 ?resta22
      case hya22 => (intro w_ hSw; (try dsimp only at hSw); go_simp; try with_reducible rfl)
      simp only [Act.put, List.setIfInBounds_toArray, List.set_cons_zero, List.set_cons_succ]
      refine held_take (i := 23) (d := some 91) (v := ?va23) rfl rfl (by kernel_rfl) (by kernel_rfl) (by kernel_rfl) (fun _ _ _ h => h) (by rfl) hHeld ?hya23 ?resta23
      case hya23 => (intro w_ hSw; (try dsimp only at hSw); go_simp; try with_reducible rfl)
      simp only [Act.put, List.setIfInBounds_toArray, List.set_cons_zero, List.set_cons_succ]
      refine held_take (i := 24) (d := some 92) (v := ?va24) rfl rfl (by kernel_rfl) (by kernel_rfl) (by kernel_rfl) (fun _ _ _ h => h) (by rfl) hHeld ?hya24 ?resta24
      case hya24 => (intro w_ hSw; (try dsimp only at hSw); go_simp; try with_reducible rfl)
      simp only [Act.put, List.setIfInBounds_toArray, List.set_cons_zero, List.set_cons_succ]
      refine held_take (i := 25) (d := some 93) (v := ?va25) rfl rfl (by kernel_rfl) (by kernel_rfl) (by kernel_rfl) (fun _ _ _ h => h) (by rfl) hHeld ?hya25 ?resta25
      case hya25 => (intro w_ hSw; (try dsimp only at hSw); go_simp; try with_reducible rfl)
      simp only [Act.put, List.setIfInBounds_toArray, List.set_cons_zero, List.set_cons_succ]
      refine held_take (i := 26) (d := some 94) (v := ?va26) rfl rfl (by kernel_rfl) (by kernel_rfl) (by kernel_rfl) (fun _ _ _ h => h) (by rfl) hHeld ?hya26 ?resta26
      case hya26 => (intro w_ hSw; (try dsimp only at hSw); go_simp; try with_reducible rfl)
      simp only [Act.put, List.setIfInBounds_toArray, List.set_cons_zero, List.set_cons_succ]
      refine held_take (i := 27) (d := some 95) (v := ?va27) rfl rfl (by kernel_rfl) (by kernel_rfl) (by kernel_rfl) (fun _ _ _ h => h) (by rfl) hHeld ?hya27 ?resta27
      case hya27 => (intro w_ hSw; (try dsimp only at hSw); go_simp; try with_reducible rfl)
      simp only [Act.put, List.setIfInBounds_toArray, List.set_cons_zero, List.set_cons_succ]
      refine held_take (i := 28) (d := some 96) (v := ?va28) rfl rfl (by kernel_rfl) (by kernel_rfl) (by kernel_rfl) (fun _ _ _ h => h) (by rfl) hHeld ?hya28 ?resta28
      case hya28 => (intro w_ hSw; (try dsimp only at hSw); go_simp; try with_reducible rfl)
      simp only [Act.put, List.setIfInBounds_toArray, List.set_cons_zero, List.set_cons_succ]
      refine held_take (i := 29) (d := some 97) (v := ?va29) rfl rfl (by kernel_rfl) (by kernel_rfl) (by kernel_rfl) (fun _ _ _ h => h) (by rfl) hHeld ?hya29 ?resta29
      case hya29 => (intro w_ hSw; (try dsimp only at hSw); go_simp; try with_reducible rfl)
      simp only [Act.put, List.setIfInBounds_toArray, List.set_cons_zero, List.set_cons_succ]
      refine held_take (i := 30) (d := some 98) (v := ?va30) rfl rfl (by kernel_rfl) (by kernel_rfl) (by kernel_rfl) (fun _ _ _ h => h) (by rfl) hHeld ?hya30 ?resta30
      case hya30 => (intro w_ hSw; (try dsimp only at hSw); go_simp; try with_reducible rfl)
      simp only [Act.put, List.setIfInBounds_toArray, List.set_cons_zero, List.set_cons_succ]
      refine held_call (i := 31) (d := some 99) rfl rfl (by kernel_rfl) (by rfl) (fun K hK => ?_)
      go_simp
      go_at_call 11
      refine (HAW.out _ BB).mono ?_
      rintro e_ w12 ⟨rfl, b_⟩
      refine hK _ _ (HKS.out _ (Below.chain BB b_)) ?_
      replace BB := Below.chain BB b_
      clear b_ hK K hHeld
      have hHeld := HKS.out _ BB
      simp only [Act.put, List.setIfInBounds_toArray, List.set_cons_zero, List.set_cons_succ]
      refine held_take (i := 32) (d := some 100) (v := ?va32) rfl rfl (by kernel_rfl) (by kernel_rfl) (by kernel_rfl) (fun _ _ _ h => h) (by rfl) hHeld ?hya32 ?resta32
      case hya32 => (intro w_ hSw; (try dsimp only at hSw); go_simp; try with_reducible rfl)
      simp only [Act.put, List.setIfInBounds_toArray, List.set_cons_zero, List.set_cons_succ]
      refine held_take (i := 33) (d := some 4) (v := ?va33) rfl rfl (by kernel_rfl) (by kernel_rfl) (by kernel_rfl) (fun _ _ _ h => h) (by rfl) hHeld ?hya33 ?resta33
      case hya33 => (intro w_ hSw; (try dsimp only at hSw); go_simp; try with_reducible rfl)
      simp only [Act.put, List.setIfInBounds_toArray, List.set_cons_zero, List.set_cons_succ]
      refine wpAnyH_done (by kernel_rfl) ?_ _
      go_wp2
      go_ret
      exact ⟨rfl, Below.chain K10.out.bel BB⟩
    | none =>
      have h1 := HLK.out
      rw [hlo] at h1
      obtain ⟨hz1, rfl⟩ := h1
      obtain ⟨hz2, rfl⟩ := eval_uniq HR.out (one_none HMM.out HMb.out HK.out hlo)
      obtain rfl : q = r := by rw [hz2, hz1]
      clear hlo hz1 hz2
      have HS := hide (show ∀ W, Below w10.heap.size w10 W → Calls Tryz.prog 22 #[tv q qa qc, tv q rA rC] W (Ans true W) from fun W hW => by
        have h := rSame_any (HQ10.out.ext hW) (HR10.out.ext hW)
        rwa [cp_refl] at h)
      have HAW := hide (show ∀ W, Below w10.heap.size w10 W → Calls Tryz.prog 11 #[] W (Ans true W) from fun W hW => awake12_any (HMX.out.ext (Below.chain K10.out.bel hW)))
      unfold tv at HS
      have HKS := hide (show ∀ W, Below w10.heap.size w10 W → (fun W => Below w10.heap.size w10 W ∧ W.cell? ⟨w5.heap.size, 0, none⟩ = some (.int .i64 q.k) ∧ W.cell? ⟨w5.heap.size, 1, none⟩ = some (.int .i64 q.n) ∧ W.cell? ⟨w5.heap.size, 2, none⟩ = some (.string q.s) ∧ W.cell? ⟨w5.heap.size, 3, none⟩ = some (.slice qa q.l.length qc) ∧ W.cell? ⟨w7.heap.size, 0, none⟩ = some (.int .i64 q.k) ∧ W.cell? ⟨w7.heap.size, 1, none⟩ = some (.int .i64 q.n) ∧ W.cell? ⟨w7.heap.size, 2, none⟩ = some (.string q.s) ∧ W.cell? ⟨w7.heap.size, 3, none⟩ = some (.slice rA q.l.length rC) ∧ W.cell? ⟨w.heap.size, 2, none⟩ = some (.string t.s) ∧ W.cell? ⟨g, o, none⟩ = some (.string t.s)) W from fun W hW => by
        have k := K10.out.ext hW
        have x0 := k.cell (p := w5.heap.size) (cs := tvC q qa qc) (t := 33) (i := 0) (by simp) rfl
        have x1 := k.cell (p := w5.heap.size) (cs := tvC q qa qc) (t := 33) (i := 1) (by simp) rfl
        have x2 := k.cell (p := w5.heap.size) (cs := tvC q qa qc) (t := 33) (i := 2) (by simp) rfl
        have x3 := k.cell (p := w5.heap.size) (cs := tvC q qa qc) (t := 33) (i := 3) (by simp) rfl
        have y0 := k.cell (p := w7.heap.size) (cs := tvC q rA rC) (t := 33) (i := 0) (by simp) rfl
        have y1 := k.cell (p := w7.heap.size) (cs := tvC q rA rC) (t := 33) (i := 1) (by simp) rfl
        have y2 := k.cell (p := w7.heap.size) (cs := tvC q rA rC) (t := 33) (i := 2) (by simp) rfl
        have y3 := k.cell (p := w7.heap.size) (cs := tvC q rA rC) (t := 33) (i := 3) (by simp) rfl
        have t2 := k.cell (p := w.heap.size) (cs := tvC t a c) (t := 33) (i := 2) (by simp) rfl
        exact ⟨hW, x0, x1, x2, x3, y0, y1, y2, y3, t2, HN.out W hW⟩)
      go_wp2_with fail
      refine wp_region_held_drew (S := (fun W => Below w10.heap.size w10 W ∧ W.cell? ⟨w5.heap.size, 0, none⟩ = some (.int .i64 q.k) ∧ W.cell? ⟨w5.heap.size, 1, none⟩ = some (.int .i64 q.n) ∧ W.cell? ⟨w5.heap.size, 2, none⟩ = some (.string q.s) ∧ W.cell? ⟨w5.heap.size, 3, none⟩ = some (.slice qa q.l.length qc) ∧ W.cell? ⟨w7.heap.size, 0, none⟩ = some (.int .i64 q.k) ∧ W.cell? ⟨w7.heap.size, 1, none⟩ = some (.int .i64 q.n) ∧ W.cell? ⟨w7.heap.size, 2, none⟩ = some (.string q.s) ∧ W.cell? ⟨w7.heap.size, 3, none⟩ = some (.slice rA q.l.length rC) ∧ W.cell? ⟨w.heap.size, 2, none⟩ = some (.string t.s) ∧ W.cell? ⟨g, o, none⟩ = some (.string t.s))) (by kernel_rfl) (HKS.out _ (Below.refl _ _).drew) (fun hHeld => ?_)
      have BB : Below w10.heap.size w10 w10.drew := (Below.refl _ _).drew
      refine held_take (i := 0) (d := some 68) (v := ?vb0) rfl rfl (by kernel_rfl) (by kernel_rfl) (by kernel_rfl) (fun _ _ _ h => h) (by rfl) hHeld ?hyb0 ?restb0
      case hyb0 => (intro w_ hSw; (try dsimp only at hSw); go_simp; try with_reducible rfl)
      simp only [Act.put, List.setIfInBounds_toArray, List.set_cons_zero, List.set_cons_succ]
      refine held_take (i := 1) (d := some 69) (v := ?vb1) rfl rfl (by kernel_rfl) (by kernel_rfl) (by kernel_rfl) (fun _ _ _ h => h) (by rfl) hHeld ?hyb1 ?restb1
      case hyb1 => (intro w_ hSw; (try dsimp only at hSw); go_simp; try with_reducible rfl)
      simp only [Act.put, List.setIfInBounds_toArray, List.set_cons_zero, List.set_cons_succ]
      refine held_take (i := 2) (d := some 70) (v := ?vb2) rfl rfl (by kernel_rfl) (by kernel_rfl) (by kernel_rfl) (fun _ _ _ h => h) (by rfl) hHeld ?hyb2 ?restb2
      case hyb2 => (intro w_ hSw; (try dsimp only at hSw); go_simp; try with_reducible rfl)
      simp only [Act.put, List.setIfInBounds_toArray, List.set_cons_zero, List.set_cons_succ]
      refine held_take (i := 3) (d := some 71) (v := ?vb3) rfl rfl (by kernel_rfl) (by kernel_rfl) (by kernel_rfl) (fun _ _ _ h => h) (by rfl) hHeld ?hyb3 ?restb3
      case hyb3 => (intro w_ hSw; (try dsimp only at hSw); go_simp; try with_reducible rfl)
      simp only [Act.put, List.setIfInBounds_toArray, List.set_cons_zero, List.set_cons_succ]
      refine held_take (i := 4) (d := some 72) (v := ?vb4) rfl rfl (by kernel_rfl) (by kernel_rfl) (by kernel_rfl) (fun _ _ _ h => h) (by rfl) hHeld ?hyb4 ?restb4
      case hyb4 => (intro w_ hSw; (try dsimp only at hSw); go_simp; try with_reducible rfl)
      simp only [Act.put, List.setIfInBounds_toArray, List.set_cons_zero, List.set_cons_succ]
      refine held_take (i := 5) (d := some 73) (v := ?vb5) rfl rfl (by kernel_rfl) (by kernel_rfl) (by kernel_rfl) (fun _ _ _ h => h) (by rfl) hHeld ?hyb5 ?restb5
      case hyb5 => (intro w_ hSw; (try dsimp only at hSw); go_simp; try with_reducible rfl)
      simp only [Act.put, List.setIfInBounds_toArray, List.set_cons_zero, List.set_cons_succ]
      refine held_take (i := 6) (d := some 74) (v := ?vb6) rfl rfl (by kernel_rfl) (by kernel_rfl) (by kernel_rfl) (fun _ _ _ h => h) (by rfl) hHeld ?hyb6 ?restb6
      case hyb6 => (intro w_ hSw; (try dsimp only at hSw); go_simp; try with_reducible rfl)
      simp only [Act.put, List.setIfInBounds_toArray, List.set_cons_zero, List.set_cons_succ]
      refine held_take (i := 7) (d := some 75) (v := ?vb7) rfl rfl (by kernel_rfl) (by kernel_rfl) (by kernel_rfl) (fun _ _ _ h => h) (by rfl) hHeld ?hyb7 ?restb7
      case hyb7 => (intro w_ hSw; (try dsimp only at hSw); go_simp; try with_reducible rfl)
      simp only [Act.put, List.setIfInBounds_toArray, List.set_cons_zero, List.set_cons_succ]
      refine held_take (i := 8) (d := some 76) (v := ?vb8) rfl rfl (by kernel_rfl) (by kernel_rfl) (by kernel_rfl) (fun _ _ _ h => h) (by rfl) hHeld ?hyb8 ?restb8
      case hyb8 => (intro w_ hSw; (try dsimp only at hSw); go_simp; try with_reducible rfl)
      simp only [Act.put, List.setIfInBounds_toArray, List.set_cons_zero, List.set_cons_succ]
      refine held_take (i := 9) (d := some 77) (v := ?vb9) rfl rfl (by kernel_rfl) (by kernel_rfl) (by kernel_rfl) (fun _ _ _ h => h) (by rfl) hHeld ?hyb9 ?restb9
      case hyb9 => (intro w_ hSw; (try dsimp only at hSw); go_simp; try with_reducible rfl)
      simp only [Act.put, List.setIfInBounds_toArray, List.set_cons_zero, List.set_cons_succ]
      refine held_take (i := 10) (d := some 78) (v := ?vb10) rfl rfl (by kernel_rfl) (by kernel_rfl) (by kernel_rfl) (fun _ _ _ h => h) (by rfl) hHeld ?hyb10 ?restb10
      case hyb10 => (intro w_ hSw; (try dsimp only at hSw); go_simp; try with_reducible rfl)
      simp only [Act.put, List.setIfInBounds_toArray, List.set_cons_zero, List.set_cons_succ]
      refine held_take (i := 11) (d := some 79) (v := ?vb11) rfl rfl (by kernel_rfl) (by kernel_rfl) (by kernel_rfl) (fun _ _ _ h => h) (by rfl) hHeld ?hyb11 ?restb11
      case hyb11 => (intro w_ hSw; (try dsimp only at hSw); go_simp; try with_reducible rfl)
      simp only [Act.put, List.setIfInBounds_toArray, List.set_cons_zero, List.set_cons_succ]
      refine held_take (i := 12) (d := some 80) (v := ?vb12) rfl rfl (by kernel_rfl) (by kernel_rfl) (by kernel_rfl) (fun _ _ _ h => h) (by rfl) hHeld ?hyb12 ?restb12
      case hyb12 => (intro w_ hSw; (try dsimp only at hSw); go_simp; try with_reducible rfl)
      simp only [Act.put, List.setIfInBounds_toArray, List.set_cons_zero, List.set_cons_succ]
      refine held_take (i := 13) (d := some 81) (v := ?vb13) rfl rfl (by kernel_rfl) (by kernel_rfl) (by kernel_rfl) (fun _ _ _ h => h) (by rfl) hHeld ?hyb13 ?restb13
      case hyb13 => (intro w_ hSw; (try dsimp only at hSw); go_simp; try with_reducible rfl)
      simp only [Act.put, List.setIfInBounds_toArray, List.set_cons_zero, List.set_cons_succ]
      refine held_take (i := 14) (d := some 82) (v := ?vb14) rfl rfl (by kernel_rfl) (by kernel_rfl) (by kernel_rfl) (fun _ _ _ h => h) (by rfl) hHeld ?hyb14 ?restb14
      case hyb14 => (intro w_ hSw; (try dsimp only at hSw); go_simp; try with_reducible rfl)
      simp only [Act.put, List.setIfInBounds_toArray, List.set_cons_zero, List.set_cons_succ]
      refine held_call (i := 15) (d := some 83) rfl rfl (by kernel_rfl) (by rfl) (fun K hK => ?_)
      go_simp
      go_at_call 22
      refine (HS.out _ BB).mono ?_
      rintro e_ w11 ⟨rfl, b_⟩
      refine hK _ _ (HKS.out _ (Below.chain BB b_)) ?_
      replace BB := Below.chain BB b_
      clear b_ hK K hHeld
      have hHeld := HKS.out _ BB
      simp only [Act.put, List.setIfInBounds_toArray, List.set_cons_zero, List.set_cons_succ]
      refine held_take (i := 16) (d := some 84) (v := ?vb16) rfl rfl (by kernel_rfl) (by kernel_rfl) (by kernel_rfl) (fun _ _ _ h => h) (by rfl) hHeld ?hyb16 ?restb16
      case hyb16 => (intro w_ hSw; (try dsimp only at hSw); go_simp; try with_reducible rfl)
      simp only [Act.put, List.setIfInBounds_toArray, List.set_cons_zero, List.set_cons_succ]
      refine held_take (i := 17) (d := some 85) (v := ?vb17) rfl rfl (by kernel_rfl) (by kernel_rfl) (by kernel_rfl) (fun _ _ _ h => h) (by rfl) hHeld ?hyb17 ?restb17
      case hyb17 => (intro w_ hSw; (try dsimp only at hSw); go_simp; try with_reducible rfl)
      simp only [Act.put, List.setIfInBounds_toArray, List.set_cons_zero, List.set_cons_succ]
      refine held_take (i := 18) (d := some 86) (v := ?vb18) rfl rfl (by kernel_rfl) (by kernel_rfl) (by kernel_rfl) (fun _ _ _ h => h) (by rfl) hHeld ?hyb18 ?restb18
      case hyb18 => (intro w_ hSw; (try dsimp only at hSw); go_simp; try with_reducible rfl)
      simp only [Act.put, List.setIfInBounds_toArray, List.set_cons_zero, List.set_cons_succ]
      refine held_take (i := 19) (d := some 87) (v := ?vb19) rfl rfl (by kernel_rfl) (by kernel_rfl) (by kernel_rfl) (fun _ _ _ h => h) (by rfl) hHeld ?hyb19 ?restb19
      case hyb19 => (intro w_ hSw; (try dsimp only at hSw); go_simp; try with_reducible rfl)
      simp only [Act.put, List.setIfInBounds_toArray, List.set_cons_zero, List.set_cons_succ]
      refine held_take (i := 20) (d := some 88) (v := ?vb20) rfl rfl (by kernel_rfl) (by kernel_rfl) (by kernel_rfl) (fun _ _ _ h => h) (by rfl) hHeld ?hyb20 ?restb20
      case hyb20 => (intro w_ hSw; (try dsimp only at hSw); go_simp; try with_reducible rfl)
      simp only [Act.put, List.setIfInBounds_toArray, List.set_cons_zero, List.set_cons_succ]
      refine held_take (i := 21) (d := some 89) (v := ?vb21) rfl rfl (by kernel_rfl) (by kernel_rfl) (by kernel_rfl) (fun _ _ _ h => h) (by rfl) hHeld ?hyb21 ?restb21
      case hyb21 => (intro w_ hSw; (try dsimp only at hSw); go_simp; try with_reducible rfl)
      simp only [Act.put, List.setIfInBounds_toArray, List.set_cons_zero, List.set_cons_succ]
      refine held_take (i := 22) (d := some 90) (v := ?vb22) rfl rfl (by kernel_rfl) (by kernel_rfl) (by kernel_rfl) (fun _ _ _ h => h) (by rfl) hHeld ?hyb22 ?restb22
      case hyb22 => (intro w_ hSw; (try dsimp only at hSw); go_simp; try with_reducible rfl)
      simp only [Act.put, List.setIfInBounds_toArray, List.set_cons_zero, List.set_cons_succ]
      refine held_take (i := 23) (d := some 91) (v := ?vb23) rfl rfl (by kernel_rfl) (by kernel_rfl) (by kernel_rfl) (fun _ _ _ h => h) (by rfl) hHeld ?hyb23 ?restb23
      case hyb23 => (intro w_ hSw; (try dsimp only at hSw); go_simp; try with_reducible rfl)
      simp only [Act.put, List.setIfInBounds_toArray, List.set_cons_zero, List.set_cons_succ]
      refine held_take (i := 24) (d := some 92) (v := ?vb24) rfl rfl (by kernel_rfl) (by kernel_rfl) (by kernel_rfl) (fun _ _ _ h => h) (by rfl) hHeld ?hyb24 ?restb24
      case hyb24 => (intro w_ hSw; (try dsimp only at hSw); go_simp; try with_reducible rfl)
      simp only [Act.put, List.setIfInBounds_toArray, List.set_cons_zero, List.set_cons_succ]
      refine held_take (i := 25) (d := some 93) (v := ?vb25) rfl rfl (by kernel_rfl) (by kernel_rfl) (by kernel_rfl) (fun _ _ _ h => h) (by rfl) hHeld ?hyb25 ?restb25
      case hyb25 => (intro w_ hSw; (try dsimp only at hSw); go_simp; try with_reducible rfl)
      simp only [Act.put, List.setIfInBounds_toArray, List.set_cons_zero, List.set_cons_succ]
      refine held_take (i := 26) (d := some 94) (v := ?vb26) rfl rfl (by kernel_rfl) (by kernel_rfl) (by kernel_rfl) (fun _ _ _ h => h) (by rfl) hHeld ?hyb26 ?restb26
      case hyb26 => (intro w_ hSw; (try dsimp only at hSw); go_simp; try with_reducible rfl)
      simp only [Act.put, List.setIfInBounds_toArray, List.set_cons_zero, List.set_cons_succ]
      refine held_take (i := 27) (d := some 95) (v := ?vb27) rfl rfl (by kernel_rfl) (by kernel_rfl) (by kernel_rfl) (fun _ _ _ h => h) (by rfl) hHeld ?hyb27 ?restb27
      case hyb27 => (intro w_ hSw; (try dsimp only at hSw); go_simp; try with_reducible rfl)
      simp only [Act.put, List.setIfInBounds_toArray, List.set_cons_zero, List.set_cons_succ]
      refine held_take (i := 28) (d := some 96) (v := ?vb28) rfl rfl (by kernel_rfl) (by kernel_rfl) (by kernel_rfl) (fun _ _ _ h => h) (by rfl) hHeld ?hyb28 ?restb28
      case hyb28 => (intro w_ hSw; (try dsimp only at hSw); go_simp; try with_reducible rfl)
      simp only [Act.put, List.setIfInBounds_toArray, List.set_cons_zero, List.set_cons_succ]
      refine held_take (i := 29) (d := some 97) (v := ?vb29) rfl rfl (by kernel_rfl) (by kernel_rfl) (by kernel_rfl) (fun _ _ _ h => h) (by rfl) hHeld ?hyb29 ?restb29
      case hyb29 => (intro w_ hSw; (try dsimp only at hSw); go_simp; try with_reducible rfl)
      simp only [Act.put, List.setIfInBounds_toArray, List.set_cons_zero, List.set_cons_succ]
      refine held_take (i := 30) (d := some 98) (v := ?vb30) rfl rfl (by kernel_rfl) (by kernel_rfl) (by kernel_rfl) (fun _ _ _ h => h) (by rfl) hHeld ?hyb30 ?restb30
      case hyb30 => (intro w_ hSw; (try dsimp only at hSw); go_simp; try with_reducible rfl)
      simp only [Act.put, List.setIfInBounds_toArray, List.set_cons_zero, List.set_cons_succ]
      refine held_call (i := 31) (d := some 99) rfl rfl (by kernel_rfl) (by rfl) (fun K hK => ?_)
      go_simp
      go_at_call 11
      refine (HAW.out _ BB).mono ?_
      rintro e_ w12 ⟨rfl, b_⟩
      refine hK _ _ (HKS.out _ (Below.chain BB b_)) ?_
      replace BB := Below.chain BB b_
      clear b_ hK K hHeld
      have hHeld := HKS.out _ BB
      simp only [Act.put, List.setIfInBounds_toArray, List.set_cons_zero, List.set_cons_succ]
      refine held_take (i := 32) (d := some 100) (v := ?vb32) rfl rfl (by kernel_rfl) (by kernel_rfl) (by kernel_rfl) (fun _ _ _ h => h) (by rfl) hHeld ?hyb32 ?restb32
      case hyb32 => (intro w_ hSw; (try dsimp only at hSw); go_simp; try with_reducible rfl)
      simp only [Act.put, List.setIfInBounds_toArray, List.set_cons_zero, List.set_cons_succ]
      refine held_take (i := 33) (d := some 4) (v := ?vb33) rfl rfl (by kernel_rfl) (by kernel_rfl) (by kernel_rfl) (fun _ _ _ h => h) (by rfl) hHeld ?hyb33 ?restb33
      case hyb33 => (intro w_ hSw; (try dsimp only at hSw); go_simp; try with_reducible rfl)
      simp only [Act.put, List.setIfInBounds_toArray, List.set_cons_zero, List.set_cons_succ]
      refine wpAnyH_done (by kernel_rfl) ?_ _
      go_wp2
      go_ret
      exact ⟨rfl, Below.chain K10.out.bel BB⟩
  · obtain ⟨rfl, rfl⟩ := eval_uniq HR.out (one_term HMM.out HMb.out hk)
    have dk : (q.k != 1) = true := by simpa using hk
    have HK := hide hk
    have HS := hide (rSame_any HQ.out (HT.out.ext K6.out.bel))
    rw [cp_refl] at HS
    unfold tv at HS
    clear hk
    clear t0
    have x0 := K6.out.cell (p := w5.heap.size) (cs := (tvC q qa qc)) (t := 33) (i := 0) (by simp) rfl
    have x1 := K6.out.cell (p := w5.heap.size) (cs := (tvC q qa qc)) (t := 33) (i := 1) (by simp) rfl
    have x2 := K6.out.cell (p := w5.heap.size) (cs := (tvC q qa qc)) (t := 33) (i := 2) (by simp) rfl
    have x3 := K6.out.cell (p := w5.heap.size) (cs := (tvC q qa qc)) (t := 33) (i := 3) (by simp) rfl
    have t0 := K6.out.cell (p := w.heap.size) (cs := (tvC q a c)) (t := 33) (i := 0) (by simp) rfl
    have t1 := K6.out.cell (p := w.heap.size) (cs := (tvC q a c)) (t := 33) (i := 1) (by simp) rfl
    have t2 := K6.out.cell (p := w.heap.size) (cs := (tvC q a c)) (t := 33) (i := 2) (by simp) rfl
    have t3 := K6.out.cell (p := w.heap.size) (cs := (tvC q a c)) (t := 33) (i := 3) (by simp) rfl
    go_wp2_with fail
    refine HS.out.mono ?_
    rintro e_ w7 ⟨rfl, b_⟩
    have K7 := hide (K6.out.ext b_)
    have HO7 := hide (HO6.out.ext b_)
    clear b_ x0 x1 x2 x3 t0 t1 t2 t3 HS
    have HNa := hide (Names_any HO7.out)
    have e0 := K7.out.cell (p := (w.heap.size + 3)) (cs := #[.slice (some ⟨w.heap.size + 2, 0, none⟩) 1 1]) (t := 24) (i := 0) (by simp) rfl
    go_wp2_with fail
    refine HNa.out.mono ?_
    rintro e_ w8 ⟨N, Na, Nc, rfl, hN, hNe, b_⟩
    have K8 := hide (K7.out.ext b_)
    rw [one_may HMM.out, if_pos rfl, one_names0 HK.out] at hNe
    subst hNe
    clear b_ hN e0 HNa
    simp only [List.length_nil]
    go_wp2_with fail
    refine (awake12_any (HMX.out.ext K8.out.bel)).mono ?_
    rintro e_ wz ⟨rfl, b_⟩
    have KZ := hide (K8.out.ext b_)
    clear b_
    go_wp2
    go_ret
    exact ⟨rfl, KZ.out.bel⟩
end Go.Proofs.YteiacgpaocnofaaGreat
