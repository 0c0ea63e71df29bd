/- ExprFixed: the law answers true. -/
import Derived.Test.YteiacgpaocnofaaGreatXe
import Derived.Test.YteiacgpaocnofaaGreatXn
namespace Go.Proofs.YteiacgpaocnofaaGreat
open Go.RowKit
/-- What is looked for: so far all is bound. -/
def AllB (nl : List ByteArray) (tl : List Tm) (N : List ByteArray) (k : Nat) (v : Bool) : Prop := v = true → ∀ j s, j < k → N[j]? = some s → lookF nl tl s ≠ none
theorem AllB.next {nl : List ByteArray} {tl : List Tm} {N : List ByteArray} {k : Nat} {v f : Bool} {s : ByteArray} {r : Tm} (h : AllB nl tl N k v) (hs : N[k]? = some s) (hl : lkR (lookF nl tl s) r f) : AllB nl tl N (k + 1) (v && f) := by
  intro hv j u hj hu
  rw [Bool.and_eq_true] at hv
  by_cases e : j = k
  · subst e
    rw [hs] at hu
    injection hu with hu
    subst hu
    intro hn
    rw [hn] at hl
    have := hl.2
    rw [hv.2] at this
    cases this
  · exact h hv.1 j u (by omega) hu
set_option maxRecDepth 100000 in
set_option maxHeartbeats 16000000 in
theorem ExprFixed_any {l : List Ox} {a : Option Addr} {c : Nat} {nl : List ByteArray} {na : Option Addr} {nc : Nat} {tl : List Tm} {ta : Option Addr} {tc : Nat} {w : World} (hM : MaxL w) (h : OAt w l a c) (hb : BAt w nl na nc tl ta tc) (hbig : nl.length ≤ 4611686018427387904) : Calls Tryz.prog 4 #[xv l a c, bv nl na nc tl ta tc] w (Ans true w) := by
  have HMX := hide hM
  have HO := hide h
  have HBd := hide (And.intro hb hbig)
  have K0 := hide (((KV.nil w).add w.heap.size #[.slice a l.length c] 24 rfl).add (w.heap.size + 1) (bvC nl na nc tl ta tc) 28 (by simp))
  clear hM h hb hbig
  have HL := hide (light_any (HO.out.ext K0.out.bel))
  have a0 := K0.out.cell (p := w.heap.size) (cs := #[.slice a l.length c]) (t := 24) (i := 0) (by simp) rfl
  have b0 := K0.out.cell (p := (w.heap.size + 1)) (cs := (bvC nl na nc tl ta tc)) (t := 28) (i := 0) (by simp) rfl
  have b1 := K0.out.cell (p := (w.heap.size + 1)) (cs := (bvC nl na nc tl ta tc)) (t := 28) (i := 1) (by simp) rfl
  unfold bv
  go_enter Tryz.func4, Tryz.ntmps4
  go_wp2_with fail
  refine HL.out.mono ?_
  rintro e_ w1 ⟨v1, rfl, b_⟩
  have K1 := hide (K0.out.ext b_)
  clear b_
  clear a0 b0 b1
  clear HL K0
  cases v1 with
  | false =>
    go_wp2_with fail
    refine (awake12_any (HMX.out.ext K1.out.bel)).mono ?_
    rintro e_ wz ⟨rfl, b_⟩
    have KZ := hide (K1.out.ext b_)
    clear b_
    go_wp2
    go_ret
    exact ⟨rfl, KZ.out.bel⟩
  | true =>
  have HL := hide (lightB_any (HBd.out.1.ext K1.out.bel) HBd.out.2)
  unfold bv at HL
  have a0 := K1.out.cell (p := w.heap.size) (cs := #[.slice a l.length c]) (t := 24) (i := 0) (by simp) rfl
  have b0 := K1.out.cell (p := (w.heap.size + 1)) (cs := (bvC nl na nc tl ta tc)) (t := 28) (i := 0) (by simp) rfl
  have b1 := K1.out.cell (p := (w.heap.size + 1)) (cs := (bvC nl na nc tl ta tc)) (t := 28) (i := 1) (by simp) rfl
  go_wp2_with fail
  refine HL.out.mono ?_
  rintro e_ w2 ⟨v2, rfl, b_⟩
  have K2 := hide (K1.out.ext b_)
  clear b_
  clear a0 b0 b1
  clear HL K1
  cases v2 with
  | false =>
    go_wp2_with fail
    refine (awake12_any (HMX.out.ext K2.out.bel)).mono ?_
    rintro e_ wz ⟨rfl, b_⟩
    have KZ := hide (K2.out.ext b_)
    clear b_
    go_wp2
    go_ret
    exact ⟨rfl, KZ.out.bel⟩
  | true =>
  have a0 := K2.out.cell (p := w.heap.size) (cs := #[.slice a l.length c]) (t := 24) (i := 0) (by simp) rfl
  have b0 := K2.out.cell (p := (w.heap.size + 1)) (cs := (bvC nl na nc tl ta tc)) (t := 28) (i := 0) (by simp) rfl
  have b1 := K2.out.cell (p := (w.heap.size + 1)) (cs := (bvC nl na nc tl ta tc)) (t := 28) (i := 1) (by simp) rfl
  have HE := hide (Eval_any (HMX.out.ext K2.out.bel) (HO.out.ext K2.out.bel) (HBd.out.1.ext K2.out.bel))
  unfold bv at HE
  go_wp2_with fail
  refine HE.out.mono ?_
  rintro e_ w3 ⟨q, qa, qc, E, rfl, hq, hR, _, _, b_⟩
  have K4 := hide ((K2.out.ext b_).add w3.heap.size (tvC q qa qc) 33 rfl)
  have HQ := hide (hq.ext (alloc_below w3 (.cells (tvC q qa qc) 33)))
  have HR := hide hR
  clear a0 b0 b1
  clear hq hR b_ HE K2
  obtain ⟨M, hMM⟩ : ∃ v, mayE l = v := ⟨_, rfl⟩
  obtain ⟨B, hBB⟩ : ∃ v, mbB nl tl = v := ⟨_, rfl⟩
  have HMay := hide (show ∀ W, OAt W l a c → Calls Tryz.prog 18 #[xv l a c] W (Ans M W) from fun W hW => by rw [← hMM]; exact EMay_any hW)
  have HMB := hide (show ∀ W, BAt W nl na nc tl ta tc → Calls Tryz.prog 20 #[bv nl na nc tl ta tc] W (Ans B W) from fun W hW => by rw [← hBB]; exact MayBind_any hW)
  have HMM := hide (And.intro hMM hBB)
  clear hMM hBB
  unfold tv
  by_cases e0 : E = 0
  · subst e0
    have hb2 := eval_both HR.out
    have hm1 : M = true := by rw [← HMM.out.1]; exact hb2.1
    have hm2 : B = true := by rw [← HMM.out.2]; exact hb2.2
    subst hm1; subst hm2
    clear hb2
    have HF := hide (rFixed_any HQ.out)
    rw [(HR.out.fix).1 rfl] at HF
    unfold tv at HF
    have x0 := K4.out.cell (p := w3.heap.size) (cs := (tvC q qa qc)) (t := 33) (i := 0) (by simp) rfl
    have x1 := K4.out.cell (p := w3.heap.size) (cs := (tvC q qa qc)) (t := 33) (i := 1) (by simp) rfl
    have x2 := K4.out.cell (p := w3.heap.size) (cs := (tvC q qa qc)) (t := 33) (i := 2) (by simp) rfl
    have x3 := K4.out.cell (p := w3.heap.size) (cs := (tvC q qa qc)) (t := 33) (i := 3) (by simp) rfl
    go_wp2_with fail
    refine HF.out.mono ?_
    rintro e_ w5 ⟨rfl, b_⟩
    have K5 := hide (K4.out.ext b_)
    clear b_ x0 x1 x2 x3 HF
    have HL := hide (HMay.out w5 (HO.out.ext K5.out.bel))
    have a0 := K5.out.cell (p := w.heap.size) (cs := #[.slice a l.length c]) (t := 24) (i := 0) (by simp) rfl
    have b0 := K5.out.cell (p := (w.heap.size + 1)) (cs := (bvC nl na nc tl ta tc)) (t := 28) (i := 0) (by simp) rfl
    have b1 := K5.out.cell (p := (w.heap.size + 1)) (cs := (bvC nl na nc tl ta tc)) (t := 28) (i := 1) (by simp) rfl
    go_wp2_with fail
    refine HL.out.mono ?_
    rintro e_ w6 ⟨rfl, b_⟩
    have K6 := hide (K5.out.ext b_)
    clear b_
    clear a0 b0 b1
    clear HL
    have HL := hide (HMB.out w6 (HBd.out.1.ext K6.out.bel))
    unfold bv at HL
    have a0 := K6.out.cell (p := w.heap.size) (cs := #[.slice a l.length c]) (t := 24) (i := 0) (by simp) rfl
    have b0 := K6.out.cell (p := (w.heap.size + 1)) (cs := (bvC nl na nc tl ta tc)) (t := 28) (i := 0) (by simp) rfl
    have b1 := K6.out.cell (p := (w.heap.size + 1)) (cs := (bvC nl na nc tl ta tc)) (t := 28) (i := 1) (by simp) rfl
    go_wp2_with fail
    refine HL.out.mono ?_
    rintro e_ w7 ⟨rfl, b_⟩
    have K7 := hide (K6.out.ext b_)
    clear b_
    clear a0 b0 b1
    clear HL
    go_wp2_with fail
    refine (awake12_any (HMX.out.ext K7.out.bel)).mono ?_
    rintro e_ wz ⟨rfl, b_⟩
    have KZ := hide (K7.out.ext b_)
    clear b_
    go_wp2
    go_ret
    exact ⟨rfl, KZ.out.bel⟩
  · have dE : (E == 0) = false := by simpa using e0
    have HE0 := hide e0
    clear e0
    have HL := hide (HMay.out (w3.alloc (.cells (tvC q qa qc) 33)) (HO.out.ext K4.out.bel))
    have a0 := K4.out.cell (p := w.heap.size) (cs := #[.slice a l.length c]) (t := 24) (i := 0) (by simp) rfl
    have b0 := K4.out.cell (p := (w.heap.size + 1)) (cs := (bvC nl na nc tl ta tc)) (t := 28) (i := 0) (by simp) rfl
    have b1 := K4.out.cell (p := (w.heap.size + 1)) (cs := (bvC nl na nc tl ta tc)) (t := 28) (i := 1) (by simp) rfl
    go_wp2_with fail
    refine HL.out.mono ?_
    rintro e_ w6 ⟨rfl, b_⟩
    have K6 := hide (K4.out.ext b_)
    clear b_
    clear a0 b0 b1
    clear HL
    cases M with
    | false =>
      have e1 : E = 1 := eval_arg HR.out (fun h => by rw [HMM.out.1] at h; cases h.1)
      subst e1
      go_wp2_with fail
      refine (awake12_any (HMX.out.ext K6.out.bel)).mono ?_
      rintro e_ wz ⟨rfl, b_⟩
      have KZ := hide (K6.out.ext b_)
      clear b_
      go_wp2
      go_ret
      exact ⟨rfl, KZ.out.bel⟩
    | true =>
    have HL := hide (HMB.out w6 (HBd.out.1.ext K6.out.bel))
    unfold bv at HL
    have a0 := K6.out.cell (p := w.heap.size) (cs := #[.slice a l.length c]) (t := 24) (i := 0) (by simp) rfl
    have b0 := K6.out.cell (p := (w.heap.size + 1)) (cs := (bvC nl na nc tl ta tc)) (t := 28) (i := 0) (by simp) rfl
    have b1 := K6.out.cell (p := (w.heap.size + 1)) (cs := (bvC nl na nc tl ta tc)) (t := 28) (i := 1) (by simp) rfl
    go_wp2_with fail
    refine HL.out.mono ?_
    rintro e_ w7 ⟨rfl, b_⟩
    have K7 := hide (K6.out.ext b_)
    clear b_
    clear a0 b0 b1
    clear HL
    cases B with
    | false =>
      have e1 : E = 1 := eval_arg HR.out (fun h => by rw [HMM.out.2] at h; cases h.2)
      subst e1
      go_wp2_with fail
      refine (awake12_any (HMX.out.ext K7.out.bel)).mono ?_
      rintro e_ wz ⟨rfl, b_⟩
      have KZ := hide (K7.out.ext b_)
      clear b_
      go_wp2
      go_ret
      exact ⟨rfl, KZ.out.bel⟩
    | true =>
    have HNa := hide (Names_any (HO.out.ext K7.out.bel))
    have a0 := K7.out.cell (p := w.heap.size) (cs := #[.slice a l.length c]) (t := 24) (i := 0) (by simp) rfl
    have b0 := K7.out.cell (p := (w.heap.size + 1)) (cs := (bvC nl na nc tl ta tc)) (t := 28) (i := 0) (by simp) rfl
    have b1 := K7.out.cell (p := (w.heap.size + 1)) (cs := (bvC nl na nc tl ta tc)) (t := 28) (i := 1) (by simp) rfl
    go_wp2_with fail
    refine HNa.out.mono ?_
    rintro e_ w8 ⟨N, Na, Nc, rfl, hN, hNe, b_⟩
    have K8 := hide (K7.out.ext b_)
    rw [HMM.out.1, if_pos rfl] at hNe
    have HNN := hide (And.intro hN hNe)
    have hNl := hN.1
    have hNl2 := hN.2.1
    clear a0 b0 b1
    clear hN hNe b_ HNa
    go_wp2
    go_loopw [58, 7] (fun i s wr => ∃ (k : Nat) (v : Bool), k ≤ N.length ∧ i = .int .i64 (k : Int) ∧ s = .bool v ∧ AllB nl tl N k v ∧ KV w [(w3.heap.size, (tvC q qa qc), 33), (w.heap.size + 1, (bvC nl na nc tl ta tc), 28), (w.heap.size, #[.slice a l.length c], 24)] wr ∧ NAt wr N Na Nc) (fun i _ _ => N.length - (intOf i).toNat)
    case atStart => exact ⟨0, true, Nat.zero_le _, rfl, rfl, fun _ j s hj => absurd hj (Nat.not_lt_zero j), K8.out, HNN.out.1⟩
    case round =>
      obtain ⟨k, v, hk, rfl, rfl, hall, hK, hNw⟩ := hrel
      have KK := hide hK
      have HA := hide hall
      have HNw := hide hNw
      clear hK hall K4 K6 K7 K8
      by_cases hlt : k < N.length
      · obtain ⟨s, hs⟩ : ∃ s, N[k]? = some s := ⟨_, List.getElem?_eq_getElem hlt⟩
        obtain ⟨g, o, hao, hbb, hcs⟩ := hNw.read (by omega)
        subst hao
        have hcell := (hcs k s hs).2 wr (Below.refl _ _)
        have hix := fun w_ => ix_names w_ g o N.length Nc k hlt
        have HS := hide hs
        have HLk := hide (Look_any (HBd.out.1.ext KK.out.bel) s)
        unfold bv at HLk
        clear hs hcs hbb hNw
        have a0 := KK.out.cell (p := w.heap.size) (cs := #[.slice a l.length c]) (t := 24) (i := 0) (by simp) rfl
        have b0 := KK.out.cell (p := (w.heap.size + 1)) (cs := (bvC nl na nc tl ta tc)) (t := 28) (i := 0) (by simp) rfl
        have b1 := KK.out.cell (p := (w.heap.size + 1)) (cs := (bvC nl na nc tl ta tc)) (t := 28) (i := 1) (by simp) rfl
        go_wp2_with fail
        refine HLk.out.mono ?_
        rintro e_ w9 ⟨r, rA, rC, f, rfl, _, hlk, _, _, b_⟩
        have bb := Below.chain b_ (alloc_below w9 (.cells (tvC r rA rC) 33))
        have KN := hide (And.intro (KK.out.ext bb) (And.intro (HNw.out.ext bb) (HA.out.next HS.out hlk)))
        clear b_ bb hlk a0 b0 b1 hcell hix HLk
        unfold tv
        cases v with
        | false =>
          go_wp2
          go_roundw
          case rel => exact ⟨k + 1, false, by omega, by go_num, rfl, KN.out.2.2, KN.out.1, KN.out.2.1⟩
          case measure => simp [intOf]; omega
        | true =>
          go_wp2
          go_roundw
          case rel => exact ⟨k + 1, f, by omega, by go_num, rfl, KN.out.2.2, KN.out.1, KN.out.2.1⟩
          case measure => simp [intOf]; omega
      · obtain rfl : k = N.length := by omega
        have hz := (HR.out.fix).2 HE0.out
        subst hz
        have x0 := KK.out.cell (p := w3.heap.size) (cs := (tvC zt qa qc)) (t := 33) (i := 0) (by simp) rfl
        replace x0 : wr.cell? ⟨w3.heap.size, 0, none⟩ = some (.int .i64 0) := x0
        clear hNw
        by_cases h8 : E = 8
        · have hv : v = false := by
            cases v with
            | false => rfl
            | true =>
              have hev := HR.out
              rw [h8] at hev
              obtain ⟨s, hs, hl⟩ := eval_name hev
              rw [← HNN.out.2] at hs
              obtain ⟨j, hj⟩ := List.mem_iff_getElem?.1 hs
              exact absurd hl (HA.out rfl j s (List.getElem?_eq_some_iff.1 hj).1 hj)
          subst hv; subst h8
          go_wp2_with fail
          refine (awake12_any (HMX.out.ext KK.out.bel)).mono ?_
          rintro e_ wz ⟨rfl, b_⟩
          have KZ := hide (KK.out.ext b_)
          clear b_
          go_wp2
          go_ret
          exact ⟨rfl, KZ.out.bel⟩
        · have d8 : (E != 8) = true := by simpa using h8
          have d8' : (E == 8) = false := by simpa using h8
          clear h8
          go_wp2_with fail
          refine (awake12_any (HMX.out.ext KK.out.bel)).mono ?_
          rintro e_ wz ⟨rfl, b_⟩
          have KZ := hide (KK.out.ext b_)
          clear b_
          go_wp2
          go_ret
          exact ⟨rfl, KZ.out.bel⟩
end Go.Proofs.YteiacgpaocnofaaGreat
