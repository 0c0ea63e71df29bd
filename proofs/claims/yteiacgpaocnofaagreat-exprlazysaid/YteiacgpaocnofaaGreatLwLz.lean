/- ExprLazy: the law answers true. -/
import Derived.Test.YteiacgpaocnofaaGreatXe
namespace Go.Proofs.YteiacgpaocnofaaGreat
open Go.RowKit
theorem lz_fit {o : Bool} {n : Nat} (hn : n ≤ 30) : OFit ⟨if o then 5 else 4, zt, 0, (n : Int)⟩ := by
  refine ⟨?_, ?_, ?_⟩
  · cases o
    · show (-9223372036854775808 : Int) ≤ 4 ∧ (4 : Int) ≤ 9223372036854775807; decide
    · show (-9223372036854775808 : Int) ≤ 5 ∧ (5 : Int) ≤ 9223372036854775807; decide
  · show (-9223372036854775808 : Int) ≤ 0 ∧ (0 : Int) ≤ 9223372036854775807; decide
  · show (-9223372036854775808 : Int) ≤ (n : Int) ∧ (n : Int) ≤ 9223372036854775807; omega
set_option maxRecDepth 100000 in
set_option maxHeartbeats 16000000 in
theorem lazy_false_false {l : List Ox} {a : Option Addr} {c : Nat} {nl : List ByteArray} {na : Option Addr} {nc : Nat} {tl : List Tm} {ta : Option Addr} {tc : Nat} {w : World} (hM : MaxL w) (h : OAt w l a c) (hb : BAt w nl na nc tl ta tc) (hbig : nl.length ≤ 4611686018427387904) : Calls Tryz.prog 5 #[.bool false, .bool false, xv l a c, bv nl na nc tl ta tc] w (Ans true w) := by
  have HMX := hide hM
  have HO := hide h
  have HBd := hide (And.intro hb hbig)
  have K0 := hide (((KV.nil w).add w.heap.size #[.slice a l.length c] 24 rfl).add (w.heap.size + 1) (bvC nl na nc tl ta tc) 28 (by simp))
  clear hM h hb hbig
  have HL := hide (light_any (HO.out.ext K0.out.bel))
  have a0 := K0.out.cell (p := w.heap.size) (cs := #[.slice a l.length c]) (t := 24) (i := 0) (by simp) rfl
  have b0 := K0.out.cell (p := (w.heap.size + 1)) (cs := (bvC nl na nc tl ta tc)) (t := 28) (i := 0) (by simp) rfl
  have b1 := K0.out.cell (p := (w.heap.size + 1)) (cs := (bvC nl na nc tl ta tc)) (t := 28) (i := 1) (by simp) rfl
  unfold bv
  go_enter Tryz.func5, Tryz.ntmps5
  go_wp2_with fail
  refine HL.out.mono ?_
  rintro e_ w1 ⟨v1, rfl, b_⟩
  have K1 := hide (K0.out.ext b_)
  clear b_
  clear a0 b0 b1
  clear HL K0
  cases v1 with
  | false =>
    go_wp2_with fail
    refine (awake12_any (HMX.out.ext K1.out.bel)).mono ?_
    rintro e_ wz ⟨rfl, b_⟩
    have KZ := hide (K1.out.ext b_)
    clear b_
    go_wp2
    go_ret
    exact ⟨rfl, KZ.out.bel⟩
  | true =>
  have HL := hide (lightB_any (HBd.out.1.ext K1.out.bel) HBd.out.2)
  unfold bv at HL
  have a0 := K1.out.cell (p := w.heap.size) (cs := #[.slice a l.length c]) (t := 24) (i := 0) (by simp) rfl
  have b0 := K1.out.cell (p := (w.heap.size + 1)) (cs := (bvC nl na nc tl ta tc)) (t := 28) (i := 0) (by simp) rfl
  have b1 := K1.out.cell (p := (w.heap.size + 1)) (cs := (bvC nl na nc tl ta tc)) (t := 28) (i := 1) (by simp) rfl
  go_wp2_with fail
  refine HL.out.mono ?_
  rintro e_ w2 ⟨v2, rfl, b_⟩
  have K2 := hide (K1.out.ext b_)
  clear b_
  clear a0 b0 b1
  clear HL K1
  cases v2 with
  | false =>
    go_wp2_with fail
    refine (awake12_any (HMX.out.ext K2.out.bel)).mono ?_
    rintro e_ wz ⟨rfl, b_⟩
    have KZ := hide (K2.out.ext b_)
    clear b_
    go_wp2
    go_ret
    exact ⟨rfl, KZ.out.bel⟩
  | true =>
  obtain ⟨M, hMM⟩ : ∃ v, mayE l = v := ⟨_, rfl⟩
  have HL := hide (show Calls Tryz.prog 18 #[xv l a c] w2 (Ans M w2) from by rw [← hMM]; exact EMay_any (HO.out.ext K2.out.bel))
  have HMay := hide hMM
  clear hMM
  have a0 := K2.out.cell (p := w.heap.size) (cs := #[.slice a l.length c]) (t := 24) (i := 0) (by simp) rfl
  have b0 := K2.out.cell (p := (w.heap.size + 1)) (cs := (bvC nl na nc tl ta tc)) (t := 28) (i := 0) (by simp) rfl
  have b1 := K2.out.cell (p := (w.heap.size + 1)) (cs := (bvC nl na nc tl ta tc)) (t := 28) (i := 1) (by simp) rfl
  go_wp2_with fail
  refine HL.out.mono ?_
  rintro e_ w3 ⟨rfl, b_⟩
  have K3 := hide (K2.out.ext b_)
  clear b_
  clear a0 b0 b1
  clear HL K2
  cases M with
  | false =>
    go_wp2_with fail
    refine (awake12_any (HMX.out.ext K3.out.bel)).mono ?_
    rintro e_ wz ⟨rfl, b_⟩
    have KZ := hide (K3.out.ext b_)
    clear b_
    go_wp2
    go_ret
    exact ⟨rfl, KZ.out.bel⟩
  | true =>
  by_cases hf : (30 : Int) < (l.length : Int)
  · have d1 : decide ((30 : Int) < (l.length : Int)) = true := decide_eq_true hf
    have d2 : decide (30 < l.length) = true := decide_eq_true (by omega)
    clear hf
    have a0 := K3.out.cell (p := w.heap.size) (cs := #[.slice a l.length c]) (t := 24) (i := 0) (by simp) rfl
    have b0 := K3.out.cell (p := (w.heap.size + 1)) (cs := (bvC nl na nc tl ta tc)) (t := 28) (i := 0) (by simp) rfl
    have b1 := K3.out.cell (p := (w.heap.size + 1)) (cs := (bvC nl na nc tl ta tc)) (t := 28) (i := 1) (by simp) rfl
    go_wp2_with fail
    refine (awake12_any (HMX.out.ext K3.out.bel)).mono ?_
    rintro e_ wz ⟨rfl, b_⟩
    have KZ := hide (K3.out.ext b_)
    clear b_ a0 b0 b1
    go_wp2
    go_ret
    exact ⟨rfl, KZ.out.bel⟩
  have HF := hide (show l.length ≤ 30 by omega)
  have d1 : decide ((30 : Int) < (l.length : Int)) = false := decide_eq_false hf
  have d2 : decide (30 < l.length) = false := decide_eq_false (by have := HF.out; omega)
  clear hf
  obtain ⟨B, hBB⟩ : ∃ v, mbB nl tl = v := ⟨_, rfl⟩
  have HL := hide (show Calls Tryz.prog 20 #[bv nl na nc tl ta tc] w3 (Ans B w3) from by rw [← hBB]; exact MayBind_any (HBd.out.1.ext K3.out.bel))
  have HMb := hide hBB
  clear hBB
  unfold bv at HL
  have a0 := K3.out.cell (p := w.heap.size) (cs := #[.slice a l.length c]) (t := 24) (i := 0) (by simp) rfl
  have b0 := K3.out.cell (p := (w.heap.size + 1)) (cs := (bvC nl na nc tl ta tc)) (t := 28) (i := 0) (by simp) rfl
  have b1 := K3.out.cell (p := (w.heap.size + 1)) (cs := (bvC nl na nc tl ta tc)) (t := 28) (i := 1) (by simp) rfl
  go_wp2_with fail
  refine HL.out.mono ?_
  rintro e_ w5 ⟨rfl, b_⟩
  have K5 := hide (K3.out.ext b_)
  clear b_
  clear a0 b0 b1
  clear HL K3 d1 d2
  cases B with
  | false =>
    go_wp2_with fail
    refine (awake12_any (HMX.out.ext K5.out.bel)).mono ?_
    rintro e_ wz ⟨rfl, b_⟩
    have KZ := hide (K5.out.ext b_)
    clear b_
    go_wp2
    go_ret
    exact ⟨rfl, KZ.out.bel⟩
  | true =>
  have a0 := K5.out.cell (p := w.heap.size) (cs := #[.slice a l.length c]) (t := 24) (i := 0) (by simp) rfl
  have b0 := K5.out.cell (p := (w.heap.size + 1)) (cs := (bvC nl na nc tl ta tc)) (t := 28) (i := 0) (by simp) rfl
  have b1 := K5.out.cell (p := (w.heap.size + 1)) (cs := (bvC nl na nc tl ta tc)) (t := 28) (i := 1) (by simp) rfl
  go_upto_region 4 with fail
  have K6 : Hid (KV w [(w5.heap.size, (tvC (trueT false) none 0), 33), (w.heap.size + 1, (bvC nl na nc tl ta tc), 28), (w.heap.size, #[.slice a l.length c], 24)] (w5.alloc (.cells #[.int .i64 6, .int .i64 0, .string ⟨#[]⟩, .slice none 0 0] 33))) := hide (K5.out.add w5.heap.size (tvC (trueT false) none 0) 33 rfl)
  clear a0 b0 b1
  generalize hG : w5.heap.size = G at *
  have HG := hide hG
  clear hG
  generalize w5.alloc (.cells #[.int .i64 6, .int .i64 0, .string ⟨#[]⟩, .slice none 0 0] 33) = w6 at *
  go_upto_region 6 with fail
  have a0 := K6.out.cell (p := w.heap.size) (cs := #[.slice a l.length c]) (t := 24) (i := 0) (by simp) rfl
  have b0 := K6.out.cell (p := (w.heap.size + 1)) (cs := (bvC nl na nc tl ta tc)) (t := 28) (i := 0) (by simp) rfl
  have b1 := K6.out.cell (p := (w.heap.size + 1)) (cs := (bvC nl na nc tl ta tc)) (t := 28) (i := 1) (by simp) rfl
  go_upto_region 7 with fail
  have K7 : Hid (KV w [(w6.heap.size, (ovC ⟨if false then 5 else 4, zt, 0, (l.length : Int)⟩ none 0), 48), (G, (tvC (trueT false) none 0), 33), (w.heap.size + 1, (bvC nl na nc tl ta tc), 28), (w.heap.size, #[.slice a l.length c], 24)] (w6.alloc (.cells #[.int .i64 4, .int .i64 0, .int .i64 0, .string ⟨#[]⟩, .slice none 0 0, .int .i64 0, .int .i64 (l.length : Int)] 48))) := hide (K6.out.add w6.heap.size (ovC ⟨if false then 5 else 4, zt, 0, (l.length : Int)⟩ none 0) 48 rfl)
  clear a0 b0 b1
  generalize hI : w6.heap.size = I at *
  clear hI
  generalize w6.alloc (.cells #[.int .i64 4, .int .i64 0, .int .i64 0, .string ⟨#[]⟩, .slice none 0 0, .int .i64 0, .int .i64 (l.length : Int)] 48) = w7 at *
  go_upto_region 9 with fail
  have a0 := K7.out.cell (p := w.heap.size) (cs := #[.slice a l.length c]) (t := 24) (i := 0) (by simp) rfl
  have b0 := K7.out.cell (p := (w.heap.size + 1)) (cs := (bvC nl na nc tl ta tc)) (t := 28) (i := 0) (by simp) rfl
  have b1 := K7.out.cell (p := (w.heap.size + 1)) (cs := (bvC nl na nc tl ta tc)) (t := 28) (i := 1) (by simp) rfl
  have g0 := K7.out.cell (p := G) (cs := (tvC (trueT false) none 0)) (t := 33) (i := 0) (by simp) rfl
  have g1 := K7.out.cell (p := G) (cs := (tvC (trueT false) none 0)) (t := 33) (i := 1) (by simp) rfl
  have g2 := K7.out.cell (p := G) (cs := (tvC (trueT false) none 0)) (t := 33) (i := 2) (by simp) rfl
  have g3 := K7.out.cell (p := G) (cs := (tvC (trueT false) none 0)) (t := 33) (i := 3) (by simp) rfl
  have i0 := K7.out.cell (p := I) (cs := (ovC ⟨if false then 5 else 4, zt, 0, (l.length : Int)⟩ none 0)) (t := 48) (i := 0) (by simp) rfl
  have i1 := K7.out.cell (p := I) (cs := (ovC ⟨if false then 5 else 4, zt, 0, (l.length : Int)⟩ none 0)) (t := 48) (i := 1) (by simp) rfl
  have i2 := K7.out.cell (p := I) (cs := (ovC ⟨if false then 5 else 4, zt, 0, (l.length : Int)⟩ none 0)) (t := 48) (i := 2) (by simp) rfl
  have i3 := K7.out.cell (p := I) (cs := (ovC ⟨if false then 5 else 4, zt, 0, (l.length : Int)⟩ none 0)) (t := 48) (i := 3) (by simp) rfl
  have i4 := K7.out.cell (p := I) (cs := (ovC ⟨if false then 5 else 4, zt, 0, (l.length : Int)⟩ none 0)) (t := 48) (i := 4) (by simp) rfl
  have i5 := K7.out.cell (p := I) (cs := (ovC ⟨if false then 5 else 4, zt, 0, (l.length : Int)⟩ none 0)) (t := 48) (i := 5) (by simp) rfl
  have i6 := K7.out.cell (p := I) (cs := (ovC ⟨if false then 5 else 4, zt, 0, (l.length : Int)⟩ none 0)) (t := 48) (i := 6) (by simp) rfl
  replace g0 : w7.cell? ⟨G, 0, none⟩ = some (.int .i64 6) := g0
  replace g1 : w7.cell? ⟨G, 1, none⟩ = some (.int .i64 0) := g1
  replace g2 : w7.cell? ⟨G, 2, none⟩ = some (.string ⟨#[]⟩) := g2
  replace g3 : w7.cell? ⟨G, 3, none⟩ = some (.slice none 0 0) := g3
  replace i0 : w7.cell? ⟨I, 0, none⟩ = some (.int .i64 4) := i0
  replace i1 : w7.cell? ⟨I, 1, none⟩ = some (.int .i64 0) := i1
  replace i2 : w7.cell? ⟨I, 2, none⟩ = some (.int .i64 0) := i2
  replace i3 : w7.cell? ⟨I, 3, none⟩ = some (.string ⟨#[]⟩) := i3
  replace i4 : w7.cell? ⟨I, 4, none⟩ = some (.slice none 0 0) := i4
  replace i5 : w7.cell? ⟨I, 5, none⟩ = some (.int .i64 0) := i5
  replace i6 : w7.cell? ⟨I, 6, none⟩ = some (.int .i64 (l.length : Int)) := i6
  have bR := alloc_below w7 (.cells #[.int .i64 1, .int .i64 6, .int .i64 0, .string ⟨#[]⟩, .slice none 0 0, .int .i64 0, .int .i64 0, .int .i64 4, .int .i64 0, .int .i64 0, .string ⟨#[]⟩, .slice none 0 0, .int .i64 0, .int .i64 (l.length : Int)] 48)
  have rR := heap_alloc_last w7 (.cells #[.int .i64 1, .int .i64 6, .int .i64 0, .string ⟨#[]⟩, .slice none 0 0, .int .i64 0, .int .i64 0, .int .i64 4, .int .i64 0, .int .i64 0, .string ⟨#[]⟩, .slice none 0 0, .int .i64 0, .int .i64 (l.length : Int)] 48)
  have K8 := hide (K7.out.ext bR)
  obtain ⟨ys, hcs, hoc⟩ := HO.out.cs
  have hw7 : w.heap.size ≤ w7.heap.size := K7.out.bel.size
  have HOW := hide (ops_own (n := 2) rR rfl (by decide) (B := w7.heap.size) (Nat.le_refl _))
  have HCS := hide (And.intro (hcs.ext K8.out.bel) hoc)
  have ha8 : (w7.alloc (.cells #[.int .i64 1, .int .i64 6, .int .i64 0, .string ⟨#[]⟩, .slice none 0 0, .int .i64 0, .int .i64 0, .int .i64 4, .int .i64 0, .int .i64 0, .string ⟨#[]⟩, .slice none 0 0, .int .i64 0, .int .i64 (l.length : Int)] 48)).cell? ⟨w.heap.size, 0, none⟩ = _ := K8.out.cell (p := w.heap.size) (cs := #[.slice a l.length c]) (t := 24) (i := 0) (by simp) rfl
  have HNE := hide (show ∀ q ∈ ([(I, (ovC ⟨if false then 5 else 4, zt, 0, (l.length : Int)⟩ none 0), 48), (G, (tvC (trueT false) none 0), 33), (w.heap.size + 1, (bvC nl na nc tl ta tc), 28), (w.heap.size, #[.slice a l.length c], 24)] : List (Nat × Array Value × TypeId)), q.1 ≠ w7.heap.size from fun q hq => by have := (Array.getElem?_eq_some_iff.1 (K7.out.row q hq)).1; omega)
  clear bR hcs hoc rR
  go_wp2_with (at_builtin; refine wpList_append_cs appO rfl (.tmp 53) (.tmp 55) rfl (base := w7.heap.size) (n := 2) (m := l.length) (xs := (#[.int .i64 1, .int .i64 6, .int .i64 0, .string ⟨#[]⟩, .slice none 0 0, .int .i64 0, .int .i64 0, .int .i64 4, .int .i64 0, .int .i64 0, .string ⟨#[]⟩, .slice none 0 0, .int .i64 0, .int .i64 (l.length : Int)] : Array Value).toList) (ys := ys) HOW.out HCS.out.1 (by have := HF.out; omega) (by have := HF.out; omega) (by simp) ?_)
  intro v9 w9 o9 g9
  have K9 := hide (K8.out.grown g9 (fun k hk => by
    have e : k = w7.heap.size := by injection hk with hk; exact hk.symm
    exact ⟨by omega, fun q hq => by rw [e]; exact HNE.out q hq⟩))
  have h1 : OcAt w9 (ovC ⟨1, trueT false, 0, 0⟩ none 0).toList [⟨1, trueT false, 0, 0⟩] := .one ((trueT_fl _).at _) (fl_ofit (by decide) (by decide) (by decide))
  have h2 : OcAt w9 (ovC ⟨if false then 5 else 4, zt, 0, (l.length : Int)⟩ none 0).toList [⟨if false then 5 else 4, zt, 0, (l.length : Int)⟩] := .one (zt_fl.at _) (lz_fit HF.out)
  have h3 : OcAt w9 ys l := HCS.out.2.ext K9.out.bel
  have hone : ∀ u ∈ (#[.int .i64 1, .int .i64 6, .int .i64 0, .string ⟨#[]⟩, .slice none 0 0, .int .i64 0, .int .i64 0, .int .i64 4, .int .i64 0, .int .i64 0, .string ⟨#[]⟩, .slice none 0 0, .int .i64 0, .int .i64 (l.length : Int)] : Array Value).toList ++ ys, u.oneCell' = true := fun u hu => by
    rcases List.mem_append.1 hu with hu | hu
    · simp at hu
      rcases hu with rfl | rfl | rfl | rfl | rfl | rfl | rfl | rfl | rfl | rfl | rfl | rfl | rfl | rfl <;> rfl
    · exact cs_one HCS.out.1 u hu
  have hlen : (lzO false false l.length ++ l).length = 2 + l.length := by rw [List.length_append]; rfl
  have hcs9 := row_cs o9 hone
  rw [← hlen] at hcs9
  obtain ⟨a9, c9, rfl, hOA⟩ := cs_oat (l := lzO false false l.length ++ l) hcs9 ((h1.append h2).append h3)
  obtain ⟨LE, hLE⟩ : ∃ LE, lzO false false l.length ++ l = LE := ⟨_, rfl⟩
  rw [hLE] at hOA ⊢
  have HLE := hide hLE
  have HOA := hide hOA
  clear hOA hLE h1 h2 h3 hone hlen hcs9 o9 g9 HCS HNE ha8 hw7
  clear a0 b0 b1 g0 g1 g2 g3 i0 i1 i2 i3 i4 i5 i6
  have bA := alloc_below w9 (.cells #[.slice a9 LE.length c9] 24)
  have K10 := hide (K9.out.add w9.heap.size #[.slice a9 LE.length c9] 24 rfl)
  have HE := hide (Eval_any (HMX.out.ext K10.out.bel) (HOA.out.ext bA) (HBd.out.1.ext K10.out.bel))
  unfold bv at HE
  have HOA2 := hide (HOA.out.ext bA)
  clear bA
  have e0 := K10.out.cell (p := w9.heap.size) (cs := #[.slice a9 LE.length c9]) (t := 24) (i := 0) (by simp) rfl
  have a0 := K10.out.cell (p := w.heap.size) (cs := #[.slice a l.length c]) (t := 24) (i := 0) (by simp) rfl
  have b0 := K10.out.cell (p := (w.heap.size + 1)) (cs := (bvC nl na nc tl ta tc)) (t := 28) (i := 0) (by simp) rfl
  have b1 := K10.out.cell (p := (w.heap.size + 1)) (cs := (bvC nl na nc tl ta tc)) (t := 28) (i := 1) (by simp) rfl
  go_wp2_with fail
  refine HE.out.mono ?_
  rintro e_ w11 ⟨q, qa, qc, E, rfl, hq, hR, _, _, b_⟩
  have K11 := hide (K10.out.ext b_)
  have K12 := hide (K11.out.add w11.heap.size (tvC q qa qc) 33 rfl)
  have HR := hide hR
  have HQ := hide (hq.ext (alloc_below w11 (.cells (tvC q qa qc) 33)))
  have HMy := hide (show Calls Tryz.prog 18 #[xv LE a9 c9] (w11.alloc (.cells (tvC q qa qc) 33)) (Ans true _) from by
    have h := EMay_any (HOA2.out.ext (Below.chain b_ (alloc_below w11 (.cells (tvC q qa qc) 33))))
    rwa [← HLE.out, lz_may HMay.out HF.out, HLE.out] at h)
  clear hq hR b_ HE e0 a0 b0 b1
  unfold tv
  have e0 := K12.out.cell (p := w9.heap.size) (cs := #[.slice a9 LE.length c9]) (t := 24) (i := 0) (by simp) rfl
  go_wp2_with fail
  refine HMy.out.mono ?_
  rintro e_ w13 ⟨rfl, b_⟩
  have K13 := hide (K12.out.ext b_)
  have HQ13 := hide (HQ.out.ext b_)
  clear b_ e0 HMy HQ
  obtain ⟨rfl, rfl⟩ := eval_uniq HR.out (by rw [← HLE.out]; exact lz_skip (o := false) HMay.out HF.out HMb.out)
  have HS := hide (rSame_any HQ13.out ((trueT_fl false).at w13))
  rw [cp_refl] at HS
  unfold tv at HS
  have x0 := K13.out.cell (p := w11.heap.size) (cs := (tvC (trueT false) qa qc)) (t := 33) (i := 0) (by simp) rfl
  have x1 := K13.out.cell (p := w11.heap.size) (cs := (tvC (trueT false) qa qc)) (t := 33) (i := 1) (by simp) rfl
  have x2 := K13.out.cell (p := w11.heap.size) (cs := (tvC (trueT false) qa qc)) (t := 33) (i := 2) (by simp) rfl
  have x3 := K13.out.cell (p := w11.heap.size) (cs := (tvC (trueT false) qa qc)) (t := 33) (i := 3) (by simp) rfl
  have g0 := K13.out.cell (p := G) (cs := (tvC (trueT false) none 0)) (t := 33) (i := 0) (by simp) rfl
  have g1 := K13.out.cell (p := G) (cs := (tvC (trueT false) none 0)) (t := 33) (i := 1) (by simp) rfl
  have g2 := K13.out.cell (p := G) (cs := (tvC (trueT false) none 0)) (t := 33) (i := 2) (by simp) rfl
  have g3 := K13.out.cell (p := G) (cs := (tvC (trueT false) none 0)) (t := 33) (i := 3) (by simp) rfl
  go_wp2_with fail
  refine HS.out.mono ?_
  rintro e_ w14 ⟨rfl, b_⟩
  have K14 := hide (K13.out.ext b_)
  clear b_ x0 x1 x2 x3 g0 g1 g2 g3 HS
  go_wp2_with fail
  refine (awake12_any (HMX.out.ext K14.out.bel)).mono ?_
  rintro e_ wz ⟨rfl, b_⟩
  have KZ := hide (K14.out.ext b_)
  clear b_
  go_wp2
  go_ret
  exact ⟨rfl, KZ.out.bel⟩
set_option maxRecDepth 100000 in
set_option maxHeartbeats 16000000 in
theorem lazy_true_false {l : List Ox} {a : Option Addr} {c : Nat} {nl : List ByteArray} {na : Option Addr} {nc : Nat} {tl : List Tm} {ta : Option Addr} {tc : Nat} {w : World} (hM : MaxL w) (h : OAt w l a c) (hb : BAt w nl na nc tl ta tc) (hbig : nl.length ≤ 4611686018427387904) : Calls Tryz.prog 5 #[.bool true, .bool false, xv l a c, bv nl na nc tl ta tc] w (Ans true w) := by
  have HMX := hide hM
  have HO := hide h
  have HBd := hide (And.intro hb hbig)
  have K0 := hide (((KV.nil w).add w.heap.size #[.slice a l.length c] 24 rfl).add (w.heap.size + 1) (bvC nl na nc tl ta tc) 28 (by simp))
  clear hM h hb hbig
  have HL := hide (light_any (HO.out.ext K0.out.bel))
  have a0 := K0.out.cell (p := w.heap.size) (cs := #[.slice a l.length c]) (t := 24) (i := 0) (by simp) rfl
  have b0 := K0.out.cell (p := (w.heap.size + 1)) (cs := (bvC nl na nc tl ta tc)) (t := 28) (i := 0) (by simp) rfl
  have b1 := K0.out.cell (p := (w.heap.size + 1)) (cs := (bvC nl na nc tl ta tc)) (t := 28) (i := 1) (by simp) rfl
  unfold bv
  go_enter Tryz.func5, Tryz.ntmps5
  go_wp2_with fail
  refine HL.out.mono ?_
  rintro e_ w1 ⟨v1, rfl, b_⟩
  have K1 := hide (K0.out.ext b_)
  clear b_
  clear a0 b0 b1
  clear HL K0
  cases v1 with
  | false =>
    go_wp2_with fail
    refine (awake12_any (HMX.out.ext K1.out.bel)).mono ?_
    rintro e_ wz ⟨rfl, b_⟩
    have KZ := hide (K1.out.ext b_)
    clear b_
    go_wp2
    go_ret
    exact ⟨rfl, KZ.out.bel⟩
  | true =>
  have HL := hide (lightB_any (HBd.out.1.ext K1.out.bel) HBd.out.2)
  unfold bv at HL
  have a0 := K1.out.cell (p := w.heap.size) (cs := #[.slice a l.length c]) (t := 24) (i := 0) (by simp) rfl
  have b0 := K1.out.cell (p := (w.heap.size + 1)) (cs := (bvC nl na nc tl ta tc)) (t := 28) (i := 0) (by simp) rfl
  have b1 := K1.out.cell (p := (w.heap.size + 1)) (cs := (bvC nl na nc tl ta tc)) (t := 28) (i := 1) (by simp) rfl
  go_wp2_with fail
  refine HL.out.mono ?_
  rintro e_ w2 ⟨v2, rfl, b_⟩
  have K2 := hide (K1.out.ext b_)
  clear b_
  clear a0 b0 b1
  clear HL K1
  cases v2 with
  | false =>
    go_wp2_with fail
    refine (awake12_any (HMX.out.ext K2.out.bel)).mono ?_
    rintro e_ wz ⟨rfl, b_⟩
    have KZ := hide (K2.out.ext b_)
    clear b_
    go_wp2
    go_ret
    exact ⟨rfl, KZ.out.bel⟩
  | true =>
  obtain ⟨M, hMM⟩ : ∃ v, mayE l = v := ⟨_, rfl⟩
  have HL := hide (show Calls Tryz.prog 18 #[xv l a c] w2 (Ans M w2) from by rw [← hMM]; exact EMay_any (HO.out.ext K2.out.bel))
  have HMay := hide hMM
  clear hMM
  have a0 := K2.out.cell (p := w.heap.size) (cs := #[.slice a l.length c]) (t := 24) (i := 0) (by simp) rfl
  have b0 := K2.out.cell (p := (w.heap.size + 1)) (cs := (bvC nl na nc tl ta tc)) (t := 28) (i := 0) (by simp) rfl
  have b1 := K2.out.cell (p := (w.heap.size + 1)) (cs := (bvC nl na nc tl ta tc)) (t := 28) (i := 1) (by simp) rfl
  go_wp2_with fail
  refine HL.out.mono ?_
  rintro e_ w3 ⟨rfl, b_⟩
  have K3 := hide (K2.out.ext b_)
  clear b_
  clear a0 b0 b1
  clear HL K2
  cases M with
  | false =>
    go_wp2_with fail
    refine (awake12_any (HMX.out.ext K3.out.bel)).mono ?_
    rintro e_ wz ⟨rfl, b_⟩
    have KZ := hide (K3.out.ext b_)
    clear b_
    go_wp2
    go_ret
    exact ⟨rfl, KZ.out.bel⟩
  | true =>
  by_cases hf : (30 : Int) < (l.length : Int)
  · have d1 : decide ((30 : Int) < (l.length : Int)) = true := decide_eq_true hf
    have d2 : decide (30 < l.length) = true := decide_eq_true (by omega)
    clear hf
    have a0 := K3.out.cell (p := w.heap.size) (cs := #[.slice a l.length c]) (t := 24) (i := 0) (by simp) rfl
    have b0 := K3.out.cell (p := (w.heap.size + 1)) (cs := (bvC nl na nc tl ta tc)) (t := 28) (i := 0) (by simp) rfl
    have b1 := K3.out.cell (p := (w.heap.size + 1)) (cs := (bvC nl na nc tl ta tc)) (t := 28) (i := 1) (by simp) rfl
    go_wp2_with fail
    refine (awake12_any (HMX.out.ext K3.out.bel)).mono ?_
    rintro e_ wz ⟨rfl, b_⟩
    have KZ := hide (K3.out.ext b_)
    clear b_ a0 b0 b1
    go_wp2
    go_ret
    exact ⟨rfl, KZ.out.bel⟩
  have HF := hide (show l.length ≤ 30 by omega)
  have d1 : decide ((30 : Int) < (l.length : Int)) = false := decide_eq_false hf
  have d2 : decide (30 < l.length) = false := decide_eq_false (by have := HF.out; omega)
  clear hf
  obtain ⟨B, hBB⟩ : ∃ v, mbB nl tl = v := ⟨_, rfl⟩
  have HL := hide (show Calls Tryz.prog 20 #[bv nl na nc tl ta tc] w3 (Ans B w3) from by rw [← hBB]; exact MayBind_any (HBd.out.1.ext K3.out.bel))
  have HMb := hide hBB
  clear hBB
  unfold bv at HL
  have a0 := K3.out.cell (p := w.heap.size) (cs := #[.slice a l.length c]) (t := 24) (i := 0) (by simp) rfl
  have b0 := K3.out.cell (p := (w.heap.size + 1)) (cs := (bvC nl na nc tl ta tc)) (t := 28) (i := 0) (by simp) rfl
  have b1 := K3.out.cell (p := (w.heap.size + 1)) (cs := (bvC nl na nc tl ta tc)) (t := 28) (i := 1) (by simp) rfl
  go_wp2_with fail
  refine HL.out.mono ?_
  rintro e_ w5 ⟨rfl, b_⟩
  have K5 := hide (K3.out.ext b_)
  clear b_
  clear a0 b0 b1
  clear HL K3 d1 d2
  cases B with
  | false =>
    go_wp2_with fail
    refine (awake12_any (HMX.out.ext K5.out.bel)).mono ?_
    rintro e_ wz ⟨rfl, b_⟩
    have KZ := hide (K5.out.ext b_)
    clear b_
    go_wp2
    go_ret
    exact ⟨rfl, KZ.out.bel⟩
  | true =>
  have a0 := K5.out.cell (p := w.heap.size) (cs := #[.slice a l.length c]) (t := 24) (i := 0) (by simp) rfl
  have b0 := K5.out.cell (p := (w.heap.size + 1)) (cs := (bvC nl na nc tl ta tc)) (t := 28) (i := 0) (by simp) rfl
  have b1 := K5.out.cell (p := (w.heap.size + 1)) (cs := (bvC nl na nc tl ta tc)) (t := 28) (i := 1) (by simp) rfl
  go_upto_region 4 with fail
  have K6 : Hid (KV w [(w5.heap.size, (tvC (trueT false) none 0), 33), (w.heap.size + 1, (bvC nl na nc tl ta tc), 28), (w.heap.size, #[.slice a l.length c], 24)] (w5.alloc (.cells #[.int .i64 6, .int .i64 0, .string ⟨#[]⟩, .slice none 0 0] 33))) := hide (K5.out.add w5.heap.size (tvC (trueT false) none 0) 33 rfl)
  clear a0 b0 b1
  generalize hG : w5.heap.size = G at *
  have HG := hide hG
  clear hG
  generalize w5.alloc (.cells #[.int .i64 6, .int .i64 0, .string ⟨#[]⟩, .slice none 0 0] 33) = w6 at *
  go_upto_region 6 with fail
  have a0 := K6.out.cell (p := w.heap.size) (cs := #[.slice a l.length c]) (t := 24) (i := 0) (by simp) rfl
  have b0 := K6.out.cell (p := (w.heap.size + 1)) (cs := (bvC nl na nc tl ta tc)) (t := 28) (i := 0) (by simp) rfl
  have b1 := K6.out.cell (p := (w.heap.size + 1)) (cs := (bvC nl na nc tl ta tc)) (t := 28) (i := 1) (by simp) rfl
  go_upto_region 7 with fail
  have K7 := hide (K6.out.addSet #[.int .i64 4, .int .i64 0, .int .i64 0, .string ⟨#[]⟩, .slice none 0 0, .int .i64 0, .int .i64 (l.length : Int)] 48 0 (.int .i64 5))
  have KA := K6.out.add w6.heap.size #[.int .i64 4, .int .i64 0, .int .i64 0, .string ⟨#[]⟩, .slice none 0 0, .int .i64 0, .int .i64 (l.length : Int)] 48 rfl
  have c1 : (w6.alloc (.cells #[.int .i64 4, .int .i64 0, .int .i64 0, .string ⟨#[]⟩, .slice none 0 0, .int .i64 0, .int .i64 (l.length : Int)] 48)).cell? ⟨w6.heap.size, 0, none⟩ = some (.int .i64 4) := KA.cell (.head _) rfl
  have f1 := (row_reads (KA.row _ (.head _))).2 0
  clear KA a0 b0 b1
  generalize hI : w6.heap.size = I at *
  clear hI
  generalize w6.alloc (.cells #[.int .i64 4, .int .i64 0, .int .i64 0, .string ⟨#[]⟩, .slice none 0 0, .int .i64 0, .int .i64 (l.length : Int)] 48) = wb at *
  go_upto_region 9 with fail
  clear c1 f1
  generalize wb.setCell ⟨I, 0, none⟩ (.int .i64 5) = w7 at *
  replace K7 : Hid (KV w [(I, (ovC ⟨if true then 5 else 4, zt, 0, (l.length : Int)⟩ none 0), 48), (G, (tvC (trueT false) none 0), 33), (w.heap.size + 1, (bvC nl na nc tl ta tc), 28), (w.heap.size, #[.slice a l.length c], 24)] w7) := hide K7.out
  have a0 := K7.out.cell (p := w.heap.size) (cs := #[.slice a l.length c]) (t := 24) (i := 0) (by simp) rfl
  have b0 := K7.out.cell (p := (w.heap.size + 1)) (cs := (bvC nl na nc tl ta tc)) (t := 28) (i := 0) (by simp) rfl
  have b1 := K7.out.cell (p := (w.heap.size + 1)) (cs := (bvC nl na nc tl ta tc)) (t := 28) (i := 1) (by simp) rfl
  have g0 := K7.out.cell (p := G) (cs := (tvC (trueT false) none 0)) (t := 33) (i := 0) (by simp) rfl
  have g1 := K7.out.cell (p := G) (cs := (tvC (trueT false) none 0)) (t := 33) (i := 1) (by simp) rfl
  have g2 := K7.out.cell (p := G) (cs := (tvC (trueT false) none 0)) (t := 33) (i := 2) (by simp) rfl
  have g3 := K7.out.cell (p := G) (cs := (tvC (trueT false) none 0)) (t := 33) (i := 3) (by simp) rfl
  have i0 := K7.out.cell (p := I) (cs := (ovC ⟨if true then 5 else 4, zt, 0, (l.length : Int)⟩ none 0)) (t := 48) (i := 0) (by simp) rfl
  have i1 := K7.out.cell (p := I) (cs := (ovC ⟨if true then 5 else 4, zt, 0, (l.length : Int)⟩ none 0)) (t := 48) (i := 1) (by simp) rfl
  have i2 := K7.out.cell (p := I) (cs := (ovC ⟨if true then 5 else 4, zt, 0, (l.length : Int)⟩ none 0)) (t := 48) (i := 2) (by simp) rfl
  have i3 := K7.out.cell (p := I) (cs := (ovC ⟨if true then 5 else 4, zt, 0, (l.length : Int)⟩ none 0)) (t := 48) (i := 3) (by simp) rfl
  have i4 := K7.out.cell (p := I) (cs := (ovC ⟨if true then 5 else 4, zt, 0, (l.length : Int)⟩ none 0)) (t := 48) (i := 4) (by simp) rfl
  have i5 := K7.out.cell (p := I) (cs := (ovC ⟨if true then 5 else 4, zt, 0, (l.length : Int)⟩ none 0)) (t := 48) (i := 5) (by simp) rfl
  have i6 := K7.out.cell (p := I) (cs := (ovC ⟨if true then 5 else 4, zt, 0, (l.length : Int)⟩ none 0)) (t := 48) (i := 6) (by simp) rfl
  replace g0 : w7.cell? ⟨G, 0, none⟩ = some (.int .i64 6) := g0
  replace g1 : w7.cell? ⟨G, 1, none⟩ = some (.int .i64 0) := g1
  replace g2 : w7.cell? ⟨G, 2, none⟩ = some (.string ⟨#[]⟩) := g2
  replace g3 : w7.cell? ⟨G, 3, none⟩ = some (.slice none 0 0) := g3
  replace i0 : w7.cell? ⟨I, 0, none⟩ = some (.int .i64 5) := i0
  replace i1 : w7.cell? ⟨I, 1, none⟩ = some (.int .i64 0) := i1
  replace i2 : w7.cell? ⟨I, 2, none⟩ = some (.int .i64 0) := i2
  replace i3 : w7.cell? ⟨I, 3, none⟩ = some (.string ⟨#[]⟩) := i3
  replace i4 : w7.cell? ⟨I, 4, none⟩ = some (.slice none 0 0) := i4
  replace i5 : w7.cell? ⟨I, 5, none⟩ = some (.int .i64 0) := i5
  replace i6 : w7.cell? ⟨I, 6, none⟩ = some (.int .i64 (l.length : Int)) := i6
  have bR := alloc_below w7 (.cells #[.int .i64 1, .int .i64 6, .int .i64 0, .string ⟨#[]⟩, .slice none 0 0, .int .i64 0, .int .i64 0, .int .i64 5, .int .i64 0, .int .i64 0, .string ⟨#[]⟩, .slice none 0 0, .int .i64 0, .int .i64 (l.length : Int)] 48)
  have rR := heap_alloc_last w7 (.cells #[.int .i64 1, .int .i64 6, .int .i64 0, .string ⟨#[]⟩, .slice none 0 0, .int .i64 0, .int .i64 0, .int .i64 5, .int .i64 0, .int .i64 0, .string ⟨#[]⟩, .slice none 0 0, .int .i64 0, .int .i64 (l.length : Int)] 48)
  have K8 := hide (K7.out.ext bR)
  obtain ⟨ys, hcs, hoc⟩ := HO.out.cs
  have hw7 : w.heap.size ≤ w7.heap.size := K7.out.bel.size
  have HOW := hide (ops_own (n := 2) rR rfl (by decide) (B := w7.heap.size) (Nat.le_refl _))
  have HCS := hide (And.intro (hcs.ext K8.out.bel) hoc)
  have ha8 : (w7.alloc (.cells #[.int .i64 1, .int .i64 6, .int .i64 0, .string ⟨#[]⟩, .slice none 0 0, .int .i64 0, .int .i64 0, .int .i64 5, .int .i64 0, .int .i64 0, .string ⟨#[]⟩, .slice none 0 0, .int .i64 0, .int .i64 (l.length : Int)] 48)).cell? ⟨w.heap.size, 0, none⟩ = _ := K8.out.cell (p := w.heap.size) (cs := #[.slice a l.length c]) (t := 24) (i := 0) (by simp) rfl
  have HNE := hide (show ∀ q ∈ ([(I, (ovC ⟨if true then 5 else 4, zt, 0, (l.length : Int)⟩ none 0), 48), (G, (tvC (trueT false) none 0), 33), (w.heap.size + 1, (bvC nl na nc tl ta tc), 28), (w.heap.size, #[.slice a l.length c], 24)] : List (Nat × Array Value × TypeId)), q.1 ≠ w7.heap.size from fun q hq => by have := (Array.getElem?_eq_some_iff.1 (K7.out.row q hq)).1; omega)
  clear bR hcs hoc rR
  go_wp2_with (at_builtin; refine wpList_append_cs appO rfl (.tmp 53) (.tmp 55) rfl (base := w7.heap.size) (n := 2) (m := l.length) (xs := (#[.int .i64 1, .int .i64 6, .int .i64 0, .string ⟨#[]⟩, .slice none 0 0, .int .i64 0, .int .i64 0, .int .i64 5, .int .i64 0, .int .i64 0, .string ⟨#[]⟩, .slice none 0 0, .int .i64 0, .int .i64 (l.length : Int)] : Array Value).toList) (ys := ys) HOW.out HCS.out.1 (by have := HF.out; omega) (by have := HF.out; omega) (by simp) ?_)
  intro v9 w9 o9 g9
  have K9 := hide (K8.out.grown g9 (fun k hk => by
    have e : k = w7.heap.size := by injection hk with hk; exact hk.symm
    exact ⟨by omega, fun q hq => by rw [e]; exact HNE.out q hq⟩))
  have h1 : OcAt w9 (ovC ⟨1, trueT false, 0, 0⟩ none 0).toList [⟨1, trueT false, 0, 0⟩] := .one ((trueT_fl _).at _) (fl_ofit (by decide) (by decide) (by decide))
  have h2 : OcAt w9 (ovC ⟨if true then 5 else 4, zt, 0, (l.length : Int)⟩ none 0).toList [⟨if true then 5 else 4, zt, 0, (l.length : Int)⟩] := .one (zt_fl.at _) (lz_fit HF.out)
  have h3 : OcAt w9 ys l := HCS.out.2.ext K9.out.bel
  have hone : ∀ u ∈ (#[.int .i64 1, .int .i64 6, .int .i64 0, .string ⟨#[]⟩, .slice none 0 0, .int .i64 0, .int .i64 0, .int .i64 5, .int .i64 0, .int .i64 0, .string ⟨#[]⟩, .slice none 0 0, .int .i64 0, .int .i64 (l.length : Int)] : Array Value).toList ++ ys, u.oneCell' = true := fun u hu => by
    rcases List.mem_append.1 hu with hu | hu
    · simp at hu
      rcases hu with rfl | rfl | rfl | rfl | rfl | rfl | rfl | rfl | rfl | rfl | rfl | rfl | rfl | rfl <;> rfl
    · exact cs_one HCS.out.1 u hu
  have hlen : (lzO true false l.length ++ l).length = 2 + l.length := by rw [List.length_append]; rfl
  have hcs9 := row_cs o9 hone
  rw [← hlen] at hcs9
  obtain ⟨a9, c9, rfl, hOA⟩ := cs_oat (l := lzO true false l.length ++ l) hcs9 ((h1.append h2).append h3)
  obtain ⟨LE, hLE⟩ : ∃ LE, lzO true false l.length ++ l = LE := ⟨_, rfl⟩
  rw [hLE] at hOA ⊢
  have HLE := hide hLE
  have HOA := hide hOA
  clear hOA hLE h1 h2 h3 hone hlen hcs9 o9 g9 HCS HNE ha8 hw7
  clear a0 b0 b1 g0 g1 g2 g3 i0 i1 i2 i3 i4 i5 i6
  have bA := alloc_below w9 (.cells #[.slice a9 LE.length c9] 24)
  have K10 := hide (K9.out.add w9.heap.size #[.slice a9 LE.length c9] 24 rfl)
  have HE := hide (Eval_any (HMX.out.ext K10.out.bel) (HOA.out.ext bA) (HBd.out.1.ext K10.out.bel))
  unfold bv at HE
  have HOA2 := hide (HOA.out.ext bA)
  clear bA
  have e0 := K10.out.cell (p := w9.heap.size) (cs := #[.slice a9 LE.length c9]) (t := 24) (i := 0) (by simp) rfl
  have a0 := K10.out.cell (p := w.heap.size) (cs := #[.slice a l.length c]) (t := 24) (i := 0) (by simp) rfl
  have b0 := K10.out.cell (p := (w.heap.size + 1)) (cs := (bvC nl na nc tl ta tc)) (t := 28) (i := 0) (by simp) rfl
  have b1 := K10.out.cell (p := (w.heap.size + 1)) (cs := (bvC nl na nc tl ta tc)) (t := 28) (i := 1) (by simp) rfl
  go_wp2_with fail
  refine HE.out.mono ?_
  rintro e_ w11 ⟨q, qa, qc, E, rfl, hq, hR, _, _, b_⟩
  have K11 := hide (K10.out.ext b_)
  have K12 := hide (K11.out.add w11.heap.size (tvC q qa qc) 33 rfl)
  have HR := hide hR
  have HQ := hide (hq.ext (alloc_below w11 (.cells (tvC q qa qc) 33)))
  have HMy := hide (show Calls Tryz.prog 18 #[xv LE a9 c9] (w11.alloc (.cells (tvC q qa qc) 33)) (Ans true _) from by
    have h := EMay_any (HOA2.out.ext (Below.chain b_ (alloc_below w11 (.cells (tvC q qa qc) 33))))
    rwa [← HLE.out, lz_may HMay.out HF.out, HLE.out] at h)
  clear hq hR b_ HE e0 a0 b0 b1
  unfold tv
  have e0 := K12.out.cell (p := w9.heap.size) (cs := #[.slice a9 LE.length c9]) (t := 24) (i := 0) (by simp) rfl
  go_wp2_with fail
  refine HMy.out.mono ?_
  rintro e_ w13 ⟨rfl, b_⟩
  have K13 := hide (K12.out.ext b_)
  have HQ13 := hide (HQ.out.ext b_)
  clear b_ e0 HMy HQ
  have HE := hide (Eval_any (HMX.out.ext K13.out.bel) (HO.out.ext K13.out.bel) (HBd.out.1.ext K13.out.bel))
  unfold bv at HE
  have a0 := K13.out.cell (p := w.heap.size) (cs := #[.slice a l.length c]) (t := 24) (i := 0) (by simp) rfl
  have b0 := K13.out.cell (p := (w.heap.size + 1)) (cs := (bvC nl na nc tl ta tc)) (t := 28) (i := 0) (by simp) rfl
  have b1 := K13.out.cell (p := (w.heap.size + 1)) (cs := (bvC nl na nc tl ta tc)) (t := 28) (i := 1) (by simp) rfl
  go_wp2_with fail
  refine HE.out.mono ?_
  rintro e_ w14 ⟨q2, qa2, qc2, E2, rfl, hq2, hR2, _, _, b_⟩
  obtain ⟨rfl, rfl⟩ := eval_uniq HR.out (by rw [← HLE.out]; exact lz_on (o := true) (f := false) HMay.out HF.out HMb.out (by decide) hR2)
  have bA := Below.chain b_ (alloc_below w14 (.cells (tvC q qa2 qc2) 33))
  have K15 := hide ((K13.out.ext b_).add w14.heap.size (tvC q qa2 qc2) 33 rfl)
  have HS := hide (rSame_any (HQ13.out.ext bA) (hq2.ext (alloc_below w14 (.cells (tvC q qa2 qc2) 33))))
  rw [cp_refl] at HS
  have dE : (E == E) = true := by simp
  clear bA b_ hq2 hR2 HE a0 b0 b1
  unfold tv at HS ⊢
  have x0 := K15.out.cell (p := w11.heap.size) (cs := (tvC q qa qc)) (t := 33) (i := 0) (by simp) rfl
  have x1 := K15.out.cell (p := w11.heap.size) (cs := (tvC q qa qc)) (t := 33) (i := 1) (by simp) rfl
  have x2 := K15.out.cell (p := w11.heap.size) (cs := (tvC q qa qc)) (t := 33) (i := 2) (by simp) rfl
  have x3 := K15.out.cell (p := w11.heap.size) (cs := (tvC q qa qc)) (t := 33) (i := 3) (by simp) rfl
  have y0 := K15.out.cell (p := w14.heap.size) (cs := (tvC q qa2 qc2)) (t := 33) (i := 0) (by simp) rfl
  have y1 := K15.out.cell (p := w14.heap.size) (cs := (tvC q qa2 qc2)) (t := 33) (i := 1) (by simp) rfl
  have y2 := K15.out.cell (p := w14.heap.size) (cs := (tvC q qa2 qc2)) (t := 33) (i := 2) (by simp) rfl
  have y3 := K15.out.cell (p := w14.heap.size) (cs := (tvC q qa2 qc2)) (t := 33) (i := 3) (by simp) rfl
  go_wp2_with fail
  refine HS.out.mono ?_
  rintro e_ w16 ⟨rfl, b_⟩
  have K16 := hide (K15.out.ext b_)
  clear b_ x0 x1 x2 x3 y0 y1 y2 y3 HS
  go_wp2_with fail
  refine (awake12_any (HMX.out.ext K16.out.bel)).mono ?_
  rintro e_ wz ⟨rfl, b_⟩
  have KZ := hide (K16.out.ext b_)
  clear b_
  go_wp2
  go_ret
  exact ⟨rfl, KZ.out.bel⟩
set_option maxRecDepth 100000 in
set_option maxHeartbeats 16000000 in
theorem lazy_false_true {l : List Ox} {a : Option Addr} {c : Nat} {nl : List ByteArray} {na : Option Addr} {nc : Nat} {tl : List Tm} {ta : Option Addr} {tc : Nat} {w : World} (hM : MaxL w) (h : OAt w l a c) (hb : BAt w nl na nc tl ta tc) (hbig : nl.length ≤ 4611686018427387904) : Calls Tryz.prog 5 #[.bool false, .bool true, xv l a c, bv nl na nc tl ta tc] w (Ans true w) := by
  have HMX := hide hM
  have HO := hide h
  have HBd := hide (And.intro hb hbig)
  have K0 := hide (((KV.nil w).add w.heap.size #[.slice a l.length c] 24 rfl).add (w.heap.size + 1) (bvC nl na nc tl ta tc) 28 (by simp))
  clear hM h hb hbig
  have HL := hide (light_any (HO.out.ext K0.out.bel))
  have a0 := K0.out.cell (p := w.heap.size) (cs := #[.slice a l.length c]) (t := 24) (i := 0) (by simp) rfl
  have b0 := K0.out.cell (p := (w.heap.size + 1)) (cs := (bvC nl na nc tl ta tc)) (t := 28) (i := 0) (by simp) rfl
  have b1 := K0.out.cell (p := (w.heap.size + 1)) (cs := (bvC nl na nc tl ta tc)) (t := 28) (i := 1) (by simp) rfl
  unfold bv
  go_enter Tryz.func5, Tryz.ntmps5
  go_wp2_with fail
  refine HL.out.mono ?_
  rintro e_ w1 ⟨v1, rfl, b_⟩
  have K1 := hide (K0.out.ext b_)
  clear b_
  clear a0 b0 b1
  clear HL K0
  cases v1 with
  | false =>
    go_wp2_with fail
    refine (awake12_any (HMX.out.ext K1.out.bel)).mono ?_
    rintro e_ wz ⟨rfl, b_⟩
    have KZ := hide (K1.out.ext b_)
    clear b_
    go_wp2
    go_ret
    exact ⟨rfl, KZ.out.bel⟩
  | true =>
  have HL := hide (lightB_any (HBd.out.1.ext K1.out.bel) HBd.out.2)
  unfold bv at HL
  have a0 := K1.out.cell (p := w.heap.size) (cs := #[.slice a l.length c]) (t := 24) (i := 0) (by simp) rfl
  have b0 := K1.out.cell (p := (w.heap.size + 1)) (cs := (bvC nl na nc tl ta tc)) (t := 28) (i := 0) (by simp) rfl
  have b1 := K1.out.cell (p := (w.heap.size + 1)) (cs := (bvC nl na nc tl ta tc)) (t := 28) (i := 1) (by simp) rfl
  go_wp2_with fail
  refine HL.out.mono ?_
  rintro e_ w2 ⟨v2, rfl, b_⟩
  have K2 := hide (K1.out.ext b_)
  clear b_
  clear a0 b0 b1
  clear HL K1
  cases v2 with
  | false =>
    go_wp2_with fail
    refine (awake12_any (HMX.out.ext K2.out.bel)).mono ?_
    rintro e_ wz ⟨rfl, b_⟩
    have KZ := hide (K2.out.ext b_)
    clear b_
    go_wp2
    go_ret
    exact ⟨rfl, KZ.out.bel⟩
  | true =>
  obtain ⟨M, hMM⟩ : ∃ v, mayE l = v := ⟨_, rfl⟩
  have HL := hide (show Calls Tryz.prog 18 #[xv l a c] w2 (Ans M w2) from by rw [← hMM]; exact EMay_any (HO.out.ext K2.out.bel))
  have HMay := hide hMM
  clear hMM
  have a0 := K2.out.cell (p := w.heap.size) (cs := #[.slice a l.length c]) (t := 24) (i := 0) (by simp) rfl
  have b0 := K2.out.cell (p := (w.heap.size + 1)) (cs := (bvC nl na nc tl ta tc)) (t := 28) (i := 0) (by simp) rfl
  have b1 := K2.out.cell (p := (w.heap.size + 1)) (cs := (bvC nl na nc tl ta tc)) (t := 28) (i := 1) (by simp) rfl
  go_wp2_with fail
  refine HL.out.mono ?_
  rintro e_ w3 ⟨rfl, b_⟩
  have K3 := hide (K2.out.ext b_)
  clear b_
  clear a0 b0 b1
  clear HL K2
  cases M with
  | false =>
    go_wp2_with fail
    refine (awake12_any (HMX.out.ext K3.out.bel)).mono ?_
    rintro e_ wz ⟨rfl, b_⟩
    have KZ := hide (K3.out.ext b_)
    clear b_
    go_wp2
    go_ret
    exact ⟨rfl, KZ.out.bel⟩
  | true =>
  by_cases hf : (30 : Int) < (l.length : Int)
  · have d1 : decide ((30 : Int) < (l.length : Int)) = true := decide_eq_true hf
    have d2 : decide (30 < l.length) = true := decide_eq_true (by omega)
    clear hf
    have a0 := K3.out.cell (p := w.heap.size) (cs := #[.slice a l.length c]) (t := 24) (i := 0) (by simp) rfl
    have b0 := K3.out.cell (p := (w.heap.size + 1)) (cs := (bvC nl na nc tl ta tc)) (t := 28) (i := 0) (by simp) rfl
    have b1 := K3.out.cell (p := (w.heap.size + 1)) (cs := (bvC nl na nc tl ta tc)) (t := 28) (i := 1) (by simp) rfl
    go_wp2_with fail
    refine (awake12_any (HMX.out.ext K3.out.bel)).mono ?_
    rintro e_ wz ⟨rfl, b_⟩
    have KZ := hide (K3.out.ext b_)
    clear b_ a0 b0 b1
    go_wp2
    go_ret
    exact ⟨rfl, KZ.out.bel⟩
  have HF := hide (show l.length ≤ 30 by omega)
  have d1 : decide ((30 : Int) < (l.length : Int)) = false := decide_eq_false hf
  have d2 : decide (30 < l.length) = false := decide_eq_false (by have := HF.out; omega)
  clear hf
  obtain ⟨B, hBB⟩ : ∃ v, mbB nl tl = v := ⟨_, rfl⟩
  have HL := hide (show Calls Tryz.prog 20 #[bv nl na nc tl ta tc] w3 (Ans B w3) from by rw [← hBB]; exact MayBind_any (HBd.out.1.ext K3.out.bel))
  have HMb := hide hBB
  clear hBB
  unfold bv at HL
  have a0 := K3.out.cell (p := w.heap.size) (cs := #[.slice a l.length c]) (t := 24) (i := 0) (by simp) rfl
  have b0 := K3.out.cell (p := (w.heap.size + 1)) (cs := (bvC nl na nc tl ta tc)) (t := 28) (i := 0) (by simp) rfl
  have b1 := K3.out.cell (p := (w.heap.size + 1)) (cs := (bvC nl na nc tl ta tc)) (t := 28) (i := 1) (by simp) rfl
  go_wp2_with fail
  refine HL.out.mono ?_
  rintro e_ w5 ⟨rfl, b_⟩
  have K5 := hide (K3.out.ext b_)
  clear b_
  clear a0 b0 b1
  clear HL K3 d1 d2
  cases B with
  | false =>
    go_wp2_with fail
    refine (awake12_any (HMX.out.ext K5.out.bel)).mono ?_
    rintro e_ wz ⟨rfl, b_⟩
    have KZ := hide (K5.out.ext b_)
    clear b_
    go_wp2
    go_ret
    exact ⟨rfl, KZ.out.bel⟩
  | true =>
  have a0 := K5.out.cell (p := w.heap.size) (cs := #[.slice a l.length c]) (t := 24) (i := 0) (by simp) rfl
  have b0 := K5.out.cell (p := (w.heap.size + 1)) (cs := (bvC nl na nc tl ta tc)) (t := 28) (i := 0) (by simp) rfl
  have b1 := K5.out.cell (p := (w.heap.size + 1)) (cs := (bvC nl na nc tl ta tc)) (t := 28) (i := 1) (by simp) rfl
  go_upto_region 4 with fail
  have K6 := hide (K5.out.addSet #[.int .i64 6, .int .i64 0, .string ⟨#[]⟩, .slice none 0 0] 33 1 (.int .i64 1))
  have KA := K5.out.add w5.heap.size #[.int .i64 6, .int .i64 0, .string ⟨#[]⟩, .slice none 0 0] 33 rfl
  have c1 : (w5.alloc (.cells #[.int .i64 6, .int .i64 0, .string ⟨#[]⟩, .slice none 0 0] 33)).cell? ⟨w5.heap.size, 1, none⟩ = some (.int .i64 0) := KA.cell (.head _) rfl
  have f1 := (row_reads (KA.row _ (.head _))).2 1
  clear KA a0 b0 b1
  generalize hG : w5.heap.size = G at *
  have HG := hide hG
  clear hG
  generalize w5.alloc (.cells #[.int .i64 6, .int .i64 0, .string ⟨#[]⟩, .slice none 0 0] 33) = wa at *
  go_upto_region 6 with fail
  clear c1 f1
  generalize wa.setCell ⟨G, 1, none⟩ (.int .i64 1) = w6 at *
  replace K6 : Hid (KV w [(G, (tvC (trueT true) none 0), 33), (w.heap.size + 1, (bvC nl na nc tl ta tc), 28), (w.heap.size, #[.slice a l.length c], 24)] w6) := hide K6.out
  have a0 := K6.out.cell (p := w.heap.size) (cs := #[.slice a l.length c]) (t := 24) (i := 0) (by simp) rfl
  have b0 := K6.out.cell (p := (w.heap.size + 1)) (cs := (bvC nl na nc tl ta tc)) (t := 28) (i := 0) (by simp) rfl
  have b1 := K6.out.cell (p := (w.heap.size + 1)) (cs := (bvC nl na nc tl ta tc)) (t := 28) (i := 1) (by simp) rfl
  go_upto_region 7 with fail
  have K7 : Hid (KV w [(w6.heap.size, (ovC ⟨if false then 5 else 4, zt, 0, (l.length : Int)⟩ none 0), 48), (G, (tvC (trueT true) none 0), 33), (w.heap.size + 1, (bvC nl na nc tl ta tc), 28), (w.heap.size, #[.slice a l.length c], 24)] (w6.alloc (.cells #[.int .i64 4, .int .i64 0, .int .i64 0, .string ⟨#[]⟩, .slice none 0 0, .int .i64 0, .int .i64 (l.length : Int)] 48))) := hide (K6.out.add w6.heap.size (ovC ⟨if false then 5 else 4, zt, 0, (l.length : Int)⟩ none 0) 48 rfl)
  clear a0 b0 b1
  generalize hI : w6.heap.size = I at *
  clear hI
  generalize w6.alloc (.cells #[.int .i64 4, .int .i64 0, .int .i64 0, .string ⟨#[]⟩, .slice none 0 0, .int .i64 0, .int .i64 (l.length : Int)] 48) = w7 at *
  go_upto_region 9 with fail
  have a0 := K7.out.cell (p := w.heap.size) (cs := #[.slice a l.length c]) (t := 24) (i := 0) (by simp) rfl
  have b0 := K7.out.cell (p := (w.heap.size + 1)) (cs := (bvC nl na nc tl ta tc)) (t := 28) (i := 0) (by simp) rfl
  have b1 := K7.out.cell (p := (w.heap.size + 1)) (cs := (bvC nl na nc tl ta tc)) (t := 28) (i := 1) (by simp) rfl
  have g0 := K7.out.cell (p := G) (cs := (tvC (trueT true) none 0)) (t := 33) (i := 0) (by simp) rfl
  have g1 := K7.out.cell (p := G) (cs := (tvC (trueT true) none 0)) (t := 33) (i := 1) (by simp) rfl
  have g2 := K7.out.cell (p := G) (cs := (tvC (trueT true) none 0)) (t := 33) (i := 2) (by simp) rfl
  have g3 := K7.out.cell (p := G) (cs := (tvC (trueT true) none 0)) (t := 33) (i := 3) (by simp) rfl
  have i0 := K7.out.cell (p := I) (cs := (ovC ⟨if false then 5 else 4, zt, 0, (l.length : Int)⟩ none 0)) (t := 48) (i := 0) (by simp) rfl
  have i1 := K7.out.cell (p := I) (cs := (ovC ⟨if false then 5 else 4, zt, 0, (l.length : Int)⟩ none 0)) (t := 48) (i := 1) (by simp) rfl
  have i2 := K7.out.cell (p := I) (cs := (ovC ⟨if false then 5 else 4, zt, 0, (l.length : Int)⟩ none 0)) (t := 48) (i := 2) (by simp) rfl
  have i3 := K7.out.cell (p := I) (cs := (ovC ⟨if false then 5 else 4, zt, 0, (l.length : Int)⟩ none 0)) (t := 48) (i := 3) (by simp) rfl
  have i4 := K7.out.cell (p := I) (cs := (ovC ⟨if false then 5 else 4, zt, 0, (l.length : Int)⟩ none 0)) (t := 48) (i := 4) (by simp) rfl
  have i5 := K7.out.cell (p := I) (cs := (ovC ⟨if false then 5 else 4, zt, 0, (l.length : Int)⟩ none 0)) (t := 48) (i := 5) (by simp) rfl
  have i6 := K7.out.cell (p := I) (cs := (ovC ⟨if false then 5 else 4, zt, 0, (l.length : Int)⟩ none 0)) (t := 48) (i := 6) (by simp) rfl
  replace g0 : w7.cell? ⟨G, 0, none⟩ = some (.int .i64 6) := g0
  replace g1 : w7.cell? ⟨G, 1, none⟩ = some (.int .i64 1) := g1
  replace g2 : w7.cell? ⟨G, 2, none⟩ = some (.string ⟨#[]⟩) := g2
  replace g3 : w7.cell? ⟨G, 3, none⟩ = some (.slice none 0 0) := g3
  replace i0 : w7.cell? ⟨I, 0, none⟩ = some (.int .i64 4) := i0
  replace i1 : w7.cell? ⟨I, 1, none⟩ = some (.int .i64 0) := i1
  replace i2 : w7.cell? ⟨I, 2, none⟩ = some (.int .i64 0) := i2
  replace i3 : w7.cell? ⟨I, 3, none⟩ = some (.string ⟨#[]⟩) := i3
  replace i4 : w7.cell? ⟨I, 4, none⟩ = some (.slice none 0 0) := i4
  replace i5 : w7.cell? ⟨I, 5, none⟩ = some (.int .i64 0) := i5
  replace i6 : w7.cell? ⟨I, 6, none⟩ = some (.int .i64 (l.length : Int)) := i6
  have bR := alloc_below w7 (.cells #[.int .i64 1, .int .i64 6, .int .i64 1, .string ⟨#[]⟩, .slice none 0 0, .int .i64 0, .int .i64 0, .int .i64 4, .int .i64 0, .int .i64 0, .string ⟨#[]⟩, .slice none 0 0, .int .i64 0, .int .i64 (l.length : Int)] 48)
  have rR := heap_alloc_last w7 (.cells #[.int .i64 1, .int .i64 6, .int .i64 1, .string ⟨#[]⟩, .slice none 0 0, .int .i64 0, .int .i64 0, .int .i64 4, .int .i64 0, .int .i64 0, .string ⟨#[]⟩, .slice none 0 0, .int .i64 0, .int .i64 (l.length : Int)] 48)
  have K8 := hide (K7.out.ext bR)
  obtain ⟨ys, hcs, hoc⟩ := HO.out.cs
  have hw7 : w.heap.size ≤ w7.heap.size := K7.out.bel.size
  have HOW := hide (ops_own (n := 2) rR rfl (by decide) (B := w7.heap.size) (Nat.le_refl _))
  have HCS := hide (And.intro (hcs.ext K8.out.bel) hoc)
  have ha8 : (w7.alloc (.cells #[.int .i64 1, .int .i64 6, .int .i64 1, .string ⟨#[]⟩, .slice none 0 0, .int .i64 0, .int .i64 0, .int .i64 4, .int .i64 0, .int .i64 0, .string ⟨#[]⟩, .slice none 0 0, .int .i64 0, .int .i64 (l.length : Int)] 48)).cell? ⟨w.heap.size, 0, none⟩ = _ := K8.out.cell (p := w.heap.size) (cs := #[.slice a l.length c]) (t := 24) (i := 0) (by simp) rfl
  have HNE := hide (show ∀ q ∈ ([(I, (ovC ⟨if false then 5 else 4, zt, 0, (l.length : Int)⟩ none 0), 48), (G, (tvC (trueT true) none 0), 33), (w.heap.size + 1, (bvC nl na nc tl ta tc), 28), (w.heap.size, #[.slice a l.length c], 24)] : List (Nat × Array Value × TypeId)), q.1 ≠ w7.heap.size from fun q hq => by have := (Array.getElem?_eq_some_iff.1 (K7.out.row q hq)).1; omega)
  clear bR hcs hoc rR
  go_wp2_with (at_builtin; refine wpList_append_cs appO rfl (.tmp 53) (.tmp 55) rfl (base := w7.heap.size) (n := 2) (m := l.length) (xs := (#[.int .i64 1, .int .i64 6, .int .i64 1, .string ⟨#[]⟩, .slice none 0 0, .int .i64 0, .int .i64 0, .int .i64 4, .int .i64 0, .int .i64 0, .string ⟨#[]⟩, .slice none 0 0, .int .i64 0, .int .i64 (l.length : Int)] : Array Value).toList) (ys := ys) HOW.out HCS.out.1 (by have := HF.out; omega) (by have := HF.out; omega) (by simp) ?_)
  intro v9 w9 o9 g9
  have K9 := hide (K8.out.grown g9 (fun k hk => by
    have e : k = w7.heap.size := by injection hk with hk; exact hk.symm
    exact ⟨by omega, fun q hq => by rw [e]; exact HNE.out q hq⟩))
  have h1 : OcAt w9 (ovC ⟨1, trueT true, 0, 0⟩ none 0).toList [⟨1, trueT true, 0, 0⟩] := .one ((trueT_fl _).at _) (fl_ofit (by decide) (by decide) (by decide))
  have h2 : OcAt w9 (ovC ⟨if false then 5 else 4, zt, 0, (l.length : Int)⟩ none 0).toList [⟨if false then 5 else 4, zt, 0, (l.length : Int)⟩] := .one (zt_fl.at _) (lz_fit HF.out)
  have h3 : OcAt w9 ys l := HCS.out.2.ext K9.out.bel
  have hone : ∀ u ∈ (#[.int .i64 1, .int .i64 6, .int .i64 1, .string ⟨#[]⟩, .slice none 0 0, .int .i64 0, .int .i64 0, .int .i64 4, .int .i64 0, .int .i64 0, .string ⟨#[]⟩, .slice none 0 0, .int .i64 0, .int .i64 (l.length : Int)] : Array Value).toList ++ ys, u.oneCell' = true := fun u hu => by
    rcases List.mem_append.1 hu with hu | hu
    · simp at hu
      rcases hu with rfl | rfl | rfl | rfl | rfl | rfl | rfl | rfl | rfl | rfl | rfl | rfl | rfl | rfl <;> rfl
    · exact cs_one HCS.out.1 u hu
  have hlen : (lzO false true l.length ++ l).length = 2 + l.length := by rw [List.length_append]; rfl
  have hcs9 := row_cs o9 hone
  rw [← hlen] at hcs9
  obtain ⟨a9, c9, rfl, hOA⟩ := cs_oat (l := lzO false true l.length ++ l) hcs9 ((h1.append h2).append h3)
  obtain ⟨LE, hLE⟩ : ∃ LE, lzO false true l.length ++ l = LE := ⟨_, rfl⟩
  rw [hLE] at hOA ⊢
  have HLE := hide hLE
  have HOA := hide hOA
  clear hOA hLE h1 h2 h3 hone hlen hcs9 o9 g9 HCS HNE ha8 hw7
  clear a0 b0 b1 g0 g1 g2 g3 i0 i1 i2 i3 i4 i5 i6
  have bA := alloc_below w9 (.cells #[.slice a9 LE.length c9] 24)
  have K10 := hide (K9.out.add w9.heap.size #[.slice a9 LE.length c9] 24 rfl)
  have HE := hide (Eval_any (HMX.out.ext K10.out.bel) (HOA.out.ext bA) (HBd.out.1.ext K10.out.bel))
  unfold bv at HE
  have HOA2 := hide (HOA.out.ext bA)
  clear bA
  have e0 := K10.out.cell (p := w9.heap.size) (cs := #[.slice a9 LE.length c9]) (t := 24) (i := 0) (by simp) rfl
  have a0 := K10.out.cell (p := w.heap.size) (cs := #[.slice a l.length c]) (t := 24) (i := 0) (by simp) rfl
  have b0 := K10.out.cell (p := (w.heap.size + 1)) (cs := (bvC nl na nc tl ta tc)) (t := 28) (i := 0) (by simp) rfl
  have b1 := K10.out.cell (p := (w.heap.size + 1)) (cs := (bvC nl na nc tl ta tc)) (t := 28) (i := 1) (by simp) rfl
  go_wp2_with fail
  refine HE.out.mono ?_
  rintro e_ w11 ⟨q, qa, qc, E, rfl, hq, hR, _, _, b_⟩
  have K11 := hide (K10.out.ext b_)
  have K12 := hide (K11.out.add w11.heap.size (tvC q qa qc) 33 rfl)
  have HR := hide hR
  have HQ := hide (hq.ext (alloc_below w11 (.cells (tvC q qa qc) 33)))
  have HMy := hide (show Calls Tryz.prog 18 #[xv LE a9 c9] (w11.alloc (.cells (tvC q qa qc) 33)) (Ans true _) from by
    have h := EMay_any (HOA2.out.ext (Below.chain b_ (alloc_below w11 (.cells (tvC q qa qc) 33))))
    rwa [← HLE.out, lz_may HMay.out HF.out, HLE.out] at h)
  clear hq hR b_ HE e0 a0 b0 b1
  unfold tv
  have e0 := K12.out.cell (p := w9.heap.size) (cs := #[.slice a9 LE.length c9]) (t := 24) (i := 0) (by simp) rfl
  go_wp2_with fail
  refine HMy.out.mono ?_
  rintro e_ w13 ⟨rfl, b_⟩
  have K13 := hide (K12.out.ext b_)
  have HQ13 := hide (HQ.out.ext b_)
  clear b_ e0 HMy HQ
  have HE := hide (Eval_any (HMX.out.ext K13.out.bel) (HO.out.ext K13.out.bel) (HBd.out.1.ext K13.out.bel))
  unfold bv at HE
  have a0 := K13.out.cell (p := w.heap.size) (cs := #[.slice a l.length c]) (t := 24) (i := 0) (by simp) rfl
  have b0 := K13.out.cell (p := (w.heap.size + 1)) (cs := (bvC nl na nc tl ta tc)) (t := 28) (i := 0) (by simp) rfl
  have b1 := K13.out.cell (p := (w.heap.size + 1)) (cs := (bvC nl na nc tl ta tc)) (t := 28) (i := 1) (by simp) rfl
  go_wp2_with fail
  refine HE.out.mono ?_
  rintro e_ w14 ⟨q2, qa2, qc2, E2, rfl, hq2, hR2, _, _, b_⟩
  obtain ⟨rfl, rfl⟩ := eval_uniq HR.out (by rw [← HLE.out]; exact lz_on (o := false) (f := true) HMay.out HF.out HMb.out (by decide) hR2)
  have bA := Below.chain b_ (alloc_below w14 (.cells (tvC q qa2 qc2) 33))
  have K15 := hide ((K13.out.ext b_).add w14.heap.size (tvC q qa2 qc2) 33 rfl)
  have HS := hide (rSame_any (HQ13.out.ext bA) (hq2.ext (alloc_below w14 (.cells (tvC q qa2 qc2) 33))))
  rw [cp_refl] at HS
  have dE : (E == E) = true := by simp
  clear bA b_ hq2 hR2 HE a0 b0 b1
  unfold tv at HS ⊢
  have x0 := K15.out.cell (p := w11.heap.size) (cs := (tvC q qa qc)) (t := 33) (i := 0) (by simp) rfl
  have x1 := K15.out.cell (p := w11.heap.size) (cs := (tvC q qa qc)) (t := 33) (i := 1) (by simp) rfl
  have x2 := K15.out.cell (p := w11.heap.size) (cs := (tvC q qa qc)) (t := 33) (i := 2) (by simp) rfl
  have x3 := K15.out.cell (p := w11.heap.size) (cs := (tvC q qa qc)) (t := 33) (i := 3) (by simp) rfl
  have y0 := K15.out.cell (p := w14.heap.size) (cs := (tvC q qa2 qc2)) (t := 33) (i := 0) (by simp) rfl
  have y1 := K15.out.cell (p := w14.heap.size) (cs := (tvC q qa2 qc2)) (t := 33) (i := 1) (by simp) rfl
  have y2 := K15.out.cell (p := w14.heap.size) (cs := (tvC q qa2 qc2)) (t := 33) (i := 2) (by simp) rfl
  have y3 := K15.out.cell (p := w14.heap.size) (cs := (tvC q qa2 qc2)) (t := 33) (i := 3) (by simp) rfl
  go_wp2_with fail
  refine HS.out.mono ?_
  rintro e_ w16 ⟨rfl, b_⟩
  have K16 := hide (K15.out.ext b_)
  clear b_ x0 x1 x2 x3 y0 y1 y2 y3 HS
  go_wp2_with fail
  refine (awake12_any (HMX.out.ext K16.out.bel)).mono ?_
  rintro e_ wz ⟨rfl, b_⟩
  have KZ := hide (K16.out.ext b_)
  clear b_
  go_wp2
  go_ret
  exact ⟨rfl, KZ.out.bel⟩
set_option maxRecDepth 100000 in
set_option maxHeartbeats 16000000 in
theorem lazy_true_true {l : List Ox} {a : Option Addr} {c : Nat} {nl : List ByteArray} {na : Option Addr} {nc : Nat} {tl : List Tm} {ta : Option Addr} {tc : Nat} {w : World} (hM : MaxL w) (h : OAt w l a c) (hb : BAt w nl na nc tl ta tc) (hbig : nl.length ≤ 4611686018427387904) : Calls Tryz.prog 5 #[.bool true, .bool true, xv l a c, bv nl na nc tl ta tc] w (Ans true w) := by
  have HMX := hide hM
  have HO := hide h
  have HBd := hide (And.intro hb hbig)
  have K0 := hide (((KV.nil w).add w.heap.size #[.slice a l.length c] 24 rfl).add (w.heap.size + 1) (bvC nl na nc tl ta tc) 28 (by simp))
  clear hM h hb hbig
  have HL := hide (light_any (HO.out.ext K0.out.bel))
  have a0 := K0.out.cell (p := w.heap.size) (cs := #[.slice a l.length c]) (t := 24) (i := 0) (by simp) rfl
  have b0 := K0.out.cell (p := (w.heap.size + 1)) (cs := (bvC nl na nc tl ta tc)) (t := 28) (i := 0) (by simp) rfl
  have b1 := K0.out.cell (p := (w.heap.size + 1)) (cs := (bvC nl na nc tl ta tc)) (t := 28) (i := 1) (by simp) rfl
  unfold bv
  go_enter Tryz.func5, Tryz.ntmps5
  go_wp2_with fail
  refine HL.out.mono ?_
  rintro e_ w1 ⟨v1, rfl, b_⟩
  have K1 := hide (K0.out.ext b_)
  clear b_
  clear a0 b0 b1
  clear HL K0
  cases v1 with
  | false =>
    go_wp2_with fail
    refine (awake12_any (HMX.out.ext K1.out.bel)).mono ?_
    rintro e_ wz ⟨rfl, b_⟩
    have KZ := hide (K1.out.ext b_)
    clear b_
    go_wp2
    go_ret
    exact ⟨rfl, KZ.out.bel⟩
  | true =>
  have HL := hide (lightB_any (HBd.out.1.ext K1.out.bel) HBd.out.2)
  unfold bv at HL
  have a0 := K1.out.cell (p := w.heap.size) (cs := #[.slice a l.length c]) (t := 24) (i := 0) (by simp) rfl
  have b0 := K1.out.cell (p := (w.heap.size + 1)) (cs := (bvC nl na nc tl ta tc)) (t := 28) (i := 0) (by simp) rfl
  have b1 := K1.out.cell (p := (w.heap.size + 1)) (cs := (bvC nl na nc tl ta tc)) (t := 28) (i := 1) (by simp) rfl
  go_wp2_with fail
  refine HL.out.mono ?_
  rintro e_ w2 ⟨v2, rfl, b_⟩
  have K2 := hide (K1.out.ext b_)
  clear b_
  clear a0 b0 b1
  clear HL K1
  cases v2 with
  | false =>
    go_wp2_with fail
    refine (awake12_any (HMX.out.ext K2.out.bel)).mono ?_
    rintro e_ wz ⟨rfl, b_⟩
    have KZ := hide (K2.out.ext b_)
    clear b_
    go_wp2
    go_ret
    exact ⟨rfl, KZ.out.bel⟩
  | true =>
  obtain ⟨M, hMM⟩ : ∃ v, mayE l = v := ⟨_, rfl⟩
  have HL := hide (show Calls Tryz.prog 18 #[xv l a c] w2 (Ans M w2) from by rw [← hMM]; exact EMay_any (HO.out.ext K2.out.bel))
  have HMay := hide hMM
  clear hMM
  have a0 := K2.out.cell (p := w.heap.size) (cs := #[.slice a l.length c]) (t := 24) (i := 0) (by simp) rfl
  have b0 := K2.out.cell (p := (w.heap.size + 1)) (cs := (bvC nl na nc tl ta tc)) (t := 28) (i := 0) (by simp) rfl
  have b1 := K2.out.cell (p := (w.heap.size + 1)) (cs := (bvC nl na nc tl ta tc)) (t := 28) (i := 1) (by simp) rfl
  go_wp2_with fail
  refine HL.out.mono ?_
  rintro e_ w3 ⟨rfl, b_⟩
  have K3 := hide (K2.out.ext b_)
  clear b_
  clear a0 b0 b1
  clear HL K2
  cases M with
  | false =>
    go_wp2_with fail
    refine (awake12_any (HMX.out.ext K3.out.bel)).mono ?_
    rintro e_ wz ⟨rfl, b_⟩
    have KZ := hide (K3.out.ext b_)
    clear b_
    go_wp2
    go_ret
    exact ⟨rfl, KZ.out.bel⟩
  | true =>
  by_cases hf : (30 : Int) < (l.length : Int)
  · have d1 : decide ((30 : Int) < (l.length : Int)) = true := decide_eq_true hf
    have d2 : decide (30 < l.length) = true := decide_eq_true (by omega)
    clear hf
    have a0 := K3.out.cell (p := w.heap.size) (cs := #[.slice a l.length c]) (t := 24) (i := 0) (by simp) rfl
    have b0 := K3.out.cell (p := (w.heap.size + 1)) (cs := (bvC nl na nc tl ta tc)) (t := 28) (i := 0) (by simp) rfl
    have b1 := K3.out.cell (p := (w.heap.size + 1)) (cs := (bvC nl na nc tl ta tc)) (t := 28) (i := 1) (by simp) rfl
    go_wp2_with fail
    refine (awake12_any (HMX.out.ext K3.out.bel)).mono ?_
    rintro e_ wz ⟨rfl, b_⟩
    have KZ := hide (K3.out.ext b_)
    clear b_ a0 b0 b1
    go_wp2
    go_ret
    exact ⟨rfl, KZ.out.bel⟩
  have HF := hide (show l.length ≤ 30 by omega)
  have d1 : decide ((30 : Int) < (l.length : Int)) = false := decide_eq_false hf
  have d2 : decide (30 < l.length) = false := decide_eq_false (by have := HF.out; omega)
  clear hf
  obtain ⟨B, hBB⟩ : ∃ v, mbB nl tl = v := ⟨_, rfl⟩
  have HL := hide (show Calls Tryz.prog 20 #[bv nl na nc tl ta tc] w3 (Ans B w3) from by rw [← hBB]; exact MayBind_any (HBd.out.1.ext K3.out.bel))
  have HMb := hide hBB
  clear hBB
  unfold bv at HL
  have a0 := K3.out.cell (p := w.heap.size) (cs := #[.slice a l.length c]) (t := 24) (i := 0) (by simp) rfl
  have b0 := K3.out.cell (p := (w.heap.size + 1)) (cs := (bvC nl na nc tl ta tc)) (t := 28) (i := 0) (by simp) rfl
  have b1 := K3.out.cell (p := (w.heap.size + 1)) (cs := (bvC nl na nc tl ta tc)) (t := 28) (i := 1) (by simp) rfl
  go_wp2_with fail
  refine HL.out.mono ?_
  rintro e_ w5 ⟨rfl, b_⟩
  have K5 := hide (K3.out.ext b_)
  clear b_
  clear a0 b0 b1
  clear HL K3 d1 d2
  cases B with
  | false =>
    go_wp2_with fail
    refine (awake12_any (HMX.out.ext K5.out.bel)).mono ?_
    rintro e_ wz ⟨rfl, b_⟩
    have KZ := hide (K5.out.ext b_)
    clear b_
    go_wp2
    go_ret
    exact ⟨rfl, KZ.out.bel⟩
  | true =>
  have a0 := K5.out.cell (p := w.heap.size) (cs := #[.slice a l.length c]) (t := 24) (i := 0) (by simp) rfl
  have b0 := K5.out.cell (p := (w.heap.size + 1)) (cs := (bvC nl na nc tl ta tc)) (t := 28) (i := 0) (by simp) rfl
  have b1 := K5.out.cell (p := (w.heap.size + 1)) (cs := (bvC nl na nc tl ta tc)) (t := 28) (i := 1) (by simp) rfl
  go_upto_region 4 with fail
  have K6 := hide (K5.out.addSet #[.int .i64 6, .int .i64 0, .string ⟨#[]⟩, .slice none 0 0] 33 1 (.int .i64 1))
  have KA := K5.out.add w5.heap.size #[.int .i64 6, .int .i64 0, .string ⟨#[]⟩, .slice none 0 0] 33 rfl
  have c1 : (w5.alloc (.cells #[.int .i64 6, .int .i64 0, .string ⟨#[]⟩, .slice none 0 0] 33)).cell? ⟨w5.heap.size, 1, none⟩ = some (.int .i64 0) := KA.cell (.head _) rfl
  have f1 := (row_reads (KA.row _ (.head _))).2 1
  clear KA a0 b0 b1
  generalize hG : w5.heap.size = G at *
  have HG := hide hG
  clear hG
  generalize w5.alloc (.cells #[.int .i64 6, .int .i64 0, .string ⟨#[]⟩, .slice none 0 0] 33) = wa at *
  go_upto_region 6 with fail
  clear c1 f1
  generalize wa.setCell ⟨G, 1, none⟩ (.int .i64 1) = w6 at *
  replace K6 : Hid (KV w [(G, (tvC (trueT true) none 0), 33), (w.heap.size + 1, (bvC nl na nc tl ta tc), 28), (w.heap.size, #[.slice a l.length c], 24)] w6) := hide K6.out
  have a0 := K6.out.cell (p := w.heap.size) (cs := #[.slice a l.length c]) (t := 24) (i := 0) (by simp) rfl
  have b0 := K6.out.cell (p := (w.heap.size + 1)) (cs := (bvC nl na nc tl ta tc)) (t := 28) (i := 0) (by simp) rfl
  have b1 := K6.out.cell (p := (w.heap.size + 1)) (cs := (bvC nl na nc tl ta tc)) (t := 28) (i := 1) (by simp) rfl
  go_upto_region 7 with fail
  have K7 := hide (K6.out.addSet #[.int .i64 4, .int .i64 0, .int .i64 0, .string ⟨#[]⟩, .slice none 0 0, .int .i64 0, .int .i64 (l.length : Int)] 48 0 (.int .i64 5))
  have KA := K6.out.add w6.heap.size #[.int .i64 4, .int .i64 0, .int .i64 0, .string ⟨#[]⟩, .slice none 0 0, .int .i64 0, .int .i64 (l.length : Int)] 48 rfl
  have c1 : (w6.alloc (.cells #[.int .i64 4, .int .i64 0, .int .i64 0, .string ⟨#[]⟩, .slice none 0 0, .int .i64 0, .int .i64 (l.length : Int)] 48)).cell? ⟨w6.heap.size, 0, none⟩ = some (.int .i64 4) := KA.cell (.head _) rfl
  have f1 := (row_reads (KA.row _ (.head _))).2 0
  clear KA a0 b0 b1
  generalize hI : w6.heap.size = I at *
  clear hI
  generalize w6.alloc (.cells #[.int .i64 4, .int .i64 0, .int .i64 0, .string ⟨#[]⟩, .slice none 0 0, .int .i64 0, .int .i64 (l.length : Int)] 48) = wb at *
  go_upto_region 9 with fail
  clear c1 f1
  generalize wb.setCell ⟨I, 0, none⟩ (.int .i64 5) = w7 at *
  replace K7 : Hid (KV w [(I, (ovC ⟨if true then 5 else 4, zt, 0, (l.length : Int)⟩ none 0), 48), (G, (tvC (trueT true) none 0), 33), (w.heap.size + 1, (bvC nl na nc tl ta tc), 28), (w.heap.size, #[.slice a l.length c], 24)] w7) := hide K7.out
  have a0 := K7.out.cell (p := w.heap.size) (cs := #[.slice a l.length c]) (t := 24) (i := 0) (by simp) rfl
  have b0 := K7.out.cell (p := (w.heap.size + 1)) (cs := (bvC nl na nc tl ta tc)) (t := 28) (i := 0) (by simp) rfl
  have b1 := K7.out.cell (p := (w.heap.size + 1)) (cs := (bvC nl na nc tl ta tc)) (t := 28) (i := 1) (by simp) rfl
  have g0 := K7.out.cell (p := G) (cs := (tvC (trueT true) none 0)) (t := 33) (i := 0) (by simp) rfl
  have g1 := K7.out.cell (p := G) (cs := (tvC (trueT true) none 0)) (t := 33) (i := 1) (by simp) rfl
  have g2 := K7.out.cell (p := G) (cs := (tvC (trueT true) none 0)) (t := 33) (i := 2) (by simp) rfl
  have g3 := K7.out.cell (p := G) (cs := (tvC (trueT true) none 0)) (t := 33) (i := 3) (by simp) rfl
  have i0 := K7.out.cell (p := I) (cs := (ovC ⟨if true then 5 else 4, zt, 0, (l.length : Int)⟩ none 0)) (t := 48) (i := 0) (by simp) rfl
  have i1 := K7.out.cell (p := I) (cs := (ovC ⟨if true then 5 else 4, zt, 0, (l.length : Int)⟩ none 0)) (t := 48) (i := 1) (by simp) rfl
  have i2 := K7.out.cell (p := I) (cs := (ovC ⟨if true then 5 else 4, zt, 0, (l.length : Int)⟩ none 0)) (t := 48) (i := 2) (by simp) rfl
  have i3 := K7.out.cell (p := I) (cs := (ovC ⟨if true then 5 else 4, zt, 0, (l.length : Int)⟩ none 0)) (t := 48) (i := 3) (by simp) rfl
  have i4 := K7.out.cell (p := I) (cs := (ovC ⟨if true then 5 else 4, zt, 0, (l.length : Int)⟩ none 0)) (t := 48) (i := 4) (by simp) rfl
  have i5 := K7.out.cell (p := I) (cs := (ovC ⟨if true then 5 else 4, zt, 0, (l.length : Int)⟩ none 0)) (t := 48) (i := 5) (by simp) rfl
  have i6 := K7.out.cell (p := I) (cs := (ovC ⟨if true then 5 else 4, zt, 0, (l.length : Int)⟩ none 0)) (t := 48) (i := 6) (by simp) rfl
  replace g0 : w7.cell? ⟨G, 0, none⟩ = some (.int .i64 6) := g0
  replace g1 : w7.cell? ⟨G, 1, none⟩ = some (.int .i64 1) := g1
  replace g2 : w7.cell? ⟨G, 2, none⟩ = some (.string ⟨#[]⟩) := g2
  replace g3 : w7.cell? ⟨G, 3, none⟩ = some (.slice none 0 0) := g3
  replace i0 : w7.cell? ⟨I, 0, none⟩ = some (.int .i64 5) := i0
  replace i1 : w7.cell? ⟨I, 1, none⟩ = some (.int .i64 0) := i1
  replace i2 : w7.cell? ⟨I, 2, none⟩ = some (.int .i64 0) := i2
  replace i3 : w7.cell? ⟨I, 3, none⟩ = some (.string ⟨#[]⟩) := i3
  replace i4 : w7.cell? ⟨I, 4, none⟩ = some (.slice none 0 0) := i4
  replace i5 : w7.cell? ⟨I, 5, none⟩ = some (.int .i64 0) := i5
  replace i6 : w7.cell? ⟨I, 6, none⟩ = some (.int .i64 (l.length : Int)) := i6
  have bR := alloc_below w7 (.cells #[.int .i64 1, .int .i64 6, .int .i64 1, .string ⟨#[]⟩, .slice none 0 0, .int .i64 0, .int .i64 0, .int .i64 5, .int .i64 0, .int .i64 0, .string ⟨#[]⟩, .slice none 0 0, .int .i64 0, .int .i64 (l.length : Int)] 48)
  have rR := heap_alloc_last w7 (.cells #[.int .i64 1, .int .i64 6, .int .i64 1, .string ⟨#[]⟩, .slice none 0 0, .int .i64 0, .int .i64 0, .int .i64 5, .int .i64 0, .int .i64 0, .string ⟨#[]⟩, .slice none 0 0, .int .i64 0, .int .i64 (l.length : Int)] 48)
  have K8 := hide (K7.out.ext bR)
  obtain ⟨ys, hcs, hoc⟩ := HO.out.cs
  have hw7 : w.heap.size ≤ w7.heap.size := K7.out.bel.size
  have HOW := hide (ops_own (n := 2) rR rfl (by decide) (B := w7.heap.size) (Nat.le_refl _))
  have HCS := hide (And.intro (hcs.ext K8.out.bel) hoc)
  have ha8 : (w7.alloc (.cells #[.int .i64 1, .int .i64 6, .int .i64 1, .string ⟨#[]⟩, .slice none 0 0, .int .i64 0, .int .i64 0, .int .i64 5, .int .i64 0, .int .i64 0, .string ⟨#[]⟩, .slice none 0 0, .int .i64 0, .int .i64 (l.length : Int)] 48)).cell? ⟨w.heap.size, 0, none⟩ = _ := K8.out.cell (p := w.heap.size) (cs := #[.slice a l.length c]) (t := 24) (i := 0) (by simp) rfl
  have HNE := hide (show ∀ q ∈ ([(I, (ovC ⟨if true then 5 else 4, zt, 0, (l.length : Int)⟩ none 0), 48), (G, (tvC (trueT true) none 0), 33), (w.heap.size + 1, (bvC nl na nc tl ta tc), 28), (w.heap.size, #[.slice a l.length c], 24)] : List (Nat × Array Value × TypeId)), q.1 ≠ w7.heap.size from fun q hq => by have := (Array.getElem?_eq_some_iff.1 (K7.out.row q hq)).1; omega)
  clear bR hcs hoc rR
  go_wp2_with (at_builtin; refine wpList_append_cs appO rfl (.tmp 53) (.tmp 55) rfl (base := w7.heap.size) (n := 2) (m := l.length) (xs := (#[.int .i64 1, .int .i64 6, .int .i64 1, .string ⟨#[]⟩, .slice none 0 0, .int .i64 0, .int .i64 0, .int .i64 5, .int .i64 0, .int .i64 0, .string ⟨#[]⟩, .slice none 0 0, .int .i64 0, .int .i64 (l.length : Int)] : Array Value).toList) (ys := ys) HOW.out HCS.out.1 (by have := HF.out; omega) (by have := HF.out; omega) (by simp) ?_)
  intro v9 w9 o9 g9
  have K9 := hide (K8.out.grown g9 (fun k hk => by
    have e : k = w7.heap.size := by injection hk with hk; exact hk.symm
    exact ⟨by omega, fun q hq => by rw [e]; exact HNE.out q hq⟩))
  have h1 : OcAt w9 (ovC ⟨1, trueT true, 0, 0⟩ none 0).toList [⟨1, trueT true, 0, 0⟩] := .one ((trueT_fl _).at _) (fl_ofit (by decide) (by decide) (by decide))
  have h2 : OcAt w9 (ovC ⟨if true then 5 else 4, zt, 0, (l.length : Int)⟩ none 0).toList [⟨if true then 5 else 4, zt, 0, (l.length : Int)⟩] := .one (zt_fl.at _) (lz_fit HF.out)
  have h3 : OcAt w9 ys l := HCS.out.2.ext K9.out.bel
  have hone : ∀ u ∈ (#[.int .i64 1, .int .i64 6, .int .i64 1, .string ⟨#[]⟩, .slice none 0 0, .int .i64 0, .int .i64 0, .int .i64 5, .int .i64 0, .int .i64 0, .string ⟨#[]⟩, .slice none 0 0, .int .i64 0, .int .i64 (l.length : Int)] : Array Value).toList ++ ys, u.oneCell' = true := fun u hu => by
    rcases List.mem_append.1 hu with hu | hu
    · simp at hu
      rcases hu with rfl | rfl | rfl | rfl | rfl | rfl | rfl | rfl | rfl | rfl | rfl | rfl | rfl | rfl <;> rfl
    · exact cs_one HCS.out.1 u hu
  have hlen : (lzO true true l.length ++ l).length = 2 + l.length := by rw [List.length_append]; rfl
  have hcs9 := row_cs o9 hone
  rw [← hlen] at hcs9
  obtain ⟨a9, c9, rfl, hOA⟩ := cs_oat (l := lzO true true l.length ++ l) hcs9 ((h1.append h2).append h3)
  obtain ⟨LE, hLE⟩ : ∃ LE, lzO true true l.length ++ l = LE := ⟨_, rfl⟩
  rw [hLE] at hOA ⊢
  have HLE := hide hLE
  have HOA := hide hOA
  clear hOA hLE h1 h2 h3 hone hlen hcs9 o9 g9 HCS HNE ha8 hw7
  clear a0 b0 b1 g0 g1 g2 g3 i0 i1 i2 i3 i4 i5 i6
  have bA := alloc_below w9 (.cells #[.slice a9 LE.length c9] 24)
  have K10 := hide (K9.out.add w9.heap.size #[.slice a9 LE.length c9] 24 rfl)
  have HE := hide (Eval_any (HMX.out.ext K10.out.bel) (HOA.out.ext bA) (HBd.out.1.ext K10.out.bel))
  unfold bv at HE
  have HOA2 := hide (HOA.out.ext bA)
  clear bA
  have e0 := K10.out.cell (p := w9.heap.size) (cs := #[.slice a9 LE.length c9]) (t := 24) (i := 0) (by simp) rfl
  have a0 := K10.out.cell (p := w.heap.size) (cs := #[.slice a l.length c]) (t := 24) (i := 0) (by simp) rfl
  have b0 := K10.out.cell (p := (w.heap.size + 1)) (cs := (bvC nl na nc tl ta tc)) (t := 28) (i := 0) (by simp) rfl
  have b1 := K10.out.cell (p := (w.heap.size + 1)) (cs := (bvC nl na nc tl ta tc)) (t := 28) (i := 1) (by simp) rfl
  go_wp2_with fail
  refine HE.out.mono ?_
  rintro e_ w11 ⟨q, qa, qc, E, rfl, hq, hR, _, _, b_⟩
  have K11 := hide (K10.out.ext b_)
  have K12 := hide (K11.out.add w11.heap.size (tvC q qa qc) 33 rfl)
  have HR := hide hR
  have HQ := hide (hq.ext (alloc_below w11 (.cells (tvC q qa qc) 33)))
  have HMy := hide (show Calls Tryz.prog 18 #[xv LE a9 c9] (w11.alloc (.cells (tvC q qa qc) 33)) (Ans true _) from by
    have h := EMay_any (HOA2.out.ext (Below.chain b_ (alloc_below w11 (.cells (tvC q qa qc) 33))))
    rwa [← HLE.out, lz_may HMay.out HF.out, HLE.out] at h)
  clear hq hR b_ HE e0 a0 b0 b1
  unfold tv
  have e0 := K12.out.cell (p := w9.heap.size) (cs := #[.slice a9 LE.length c9]) (t := 24) (i := 0) (by simp) rfl
  go_wp2_with fail
  refine HMy.out.mono ?_
  rintro e_ w13 ⟨rfl, b_⟩
  have K13 := hide (K12.out.ext b_)
  have HQ13 := hide (HQ.out.ext b_)
  clear b_ e0 HMy HQ
  obtain ⟨rfl, rfl⟩ := eval_uniq HR.out (by rw [← HLE.out]; exact lz_skip (o := true) HMay.out HF.out HMb.out)
  have HS := hide (rSame_any HQ13.out ((trueT_fl true).at w13))
  rw [cp_refl] at HS
  unfold tv at HS
  have x0 := K13.out.cell (p := w11.heap.size) (cs := (tvC (trueT true) qa qc)) (t := 33) (i := 0) (by simp) rfl
  have x1 := K13.out.cell (p := w11.heap.size) (cs := (tvC (trueT true) qa qc)) (t := 33) (i := 1) (by simp) rfl
  have x2 := K13.out.cell (p := w11.heap.size) (cs := (tvC (trueT true) qa qc)) (t := 33) (i := 2) (by simp) rfl
  have x3 := K13.out.cell (p := w11.heap.size) (cs := (tvC (trueT true) qa qc)) (t := 33) (i := 3) (by simp) rfl
  have g0 := K13.out.cell (p := G) (cs := (tvC (trueT true) none 0)) (t := 33) (i := 0) (by simp) rfl
  have g1 := K13.out.cell (p := G) (cs := (tvC (trueT true) none 0)) (t := 33) (i := 1) (by simp) rfl
  have g2 := K13.out.cell (p := G) (cs := (tvC (trueT true) none 0)) (t := 33) (i := 2) (by simp) rfl
  have g3 := K13.out.cell (p := G) (cs := (tvC (trueT true) none 0)) (t := 33) (i := 3) (by simp) rfl
  go_wp2_with fail
  refine HS.out.mono ?_
  rintro e_ w14 ⟨rfl, b_⟩
  have K14 := hide (K13.out.ext b_)
  clear b_ x0 x1 x2 x3 g0 g1 g2 g3 HS
  go_wp2_with fail
  refine (awake12_any (HMX.out.ext K14.out.bel)).mono ?_
  rintro e_ wz ⟨rfl, b_⟩
  have KZ := hide (K14.out.ext b_)
  clear b_
  go_wp2
  go_ret
  exact ⟨rfl, KZ.out.bel⟩
theorem ExprLazy_any {l : List Ox} {a : Option Addr} {c : Nat} {nl : List ByteArray} {na : Option Addr} {nc : Nat} {tl : List Tm} {ta : Option Addr} {tc : Nat} {w : World} (hM : MaxL w) (h : OAt w l a c) (hb : BAt w nl na nc tl ta tc) (hbig : nl.length ≤ 4611686018427387904) (o f : Bool) : Calls Tryz.prog 5 #[.bool o, .bool f, xv l a c, bv nl na nc tl ta tc] w (Ans true w) := by
  cases o
  · cases f
    · exact lazy_false_false hM h hb hbig
    · exact lazy_false_true hM h hb hbig
  · cases f
    · exact lazy_true_false hM h hb hbig
    · exact lazy_true_true hM h hb hbig
end Go.Proofs.YteiacgpaocnofaaGreat
