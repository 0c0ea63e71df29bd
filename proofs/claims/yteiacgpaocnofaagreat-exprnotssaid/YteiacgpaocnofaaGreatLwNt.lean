/- ExprNots: the law answers true. -/
import Derived.Deep.RegionHeld
import Derived.Test.YteiacgpaocnofaaGreatXe
import Derived.Test.YteiacgpaocnofaaGreatEm5
namespace Go.Proofs.YteiacgpaocnofaaGreat
open Go.RowKit
section
variable {P : Program} {md : Region.Mode} {ops : Array Oper} {Q : Exit → Act → World → Prop} {S : World → Prop}
theorem held_take {i : Nat} {oi : Oper} {d : Option Tmp} {v : Value} {fuel : Nat} {listed : Array Bool} {a : Act} {w : World} (hi : ops[i]? = some oi) (hd : oi.dst = d) (hs : Region.noSelect ops = true) (hf : Region.free md ops listed i = true) (hr : (Region.ready md ops listed).contains i = true)
    (hQ : ∀ c a w, Q (.panic c) (a.put d v) w → Q (.panic c) a w) (hw : Region.wanted oi (yielded ops a.tmps) = true) (hS : S w) (hy : ∀ w', S w' → (execOp a.eval oi).run P w' = .ok (.value v) w')
    (h : wpAnyH P md ops Q S fuel (listed.setIfInBounds i true) (a.put d v) w) : wpAnyH P md ops Q S (fuel + 1) listed a w := by
  subst hd
  exact wpAnyH_take hi hs hf hr hQ (.inl ⟨hw, hy⟩) hS h
theorem held_skip {i : Nat} {oi : Oper} {d : Option Tmp} {fuel : Nat} {listed : Array Bool} {a : Act} {w : World} (hi : ops[i]? = some oi) (hd : oi.dst = d) (hs : Region.noSelect ops = true) (hf : Region.free md ops listed i = true) (hr : (Region.ready md ops listed).contains i = true)
    (hQ : ∀ c a w, Q (.panic c) (a.put d undef) w → Q (.panic c) a w) (hw : Region.wanted oi (yielded ops a.tmps) = false) (hS : S w)
    (h : wpAnyH P md ops Q S fuel (listed.setIfInBounds i true) (a.put d undef) w) : wpAnyH P md ops Q S (fuel + 1) listed a w := by
  subst hd
  exact wpAnyH_take hi hs hf hr hQ (.inr ⟨hw, rfl⟩) hS h
theorem held_call {i : Nat} {oi : Oper} {d : Option Tmp} {fuel : Nat} {listed : Array Bool} {a : Act} {w : World} (hi : ops[i]? = some oi) (hd : oi.dst = d) (hr : Region.ready md ops listed = [i]) (hw : Region.wanted oi (yielded ops a.tmps) = true)
    (h : ∀ K : Act → World → Prop, (∀ v w, S w → wpAnyH P md ops Q S fuel (listed.setIfInBounds i true) (a.put d v) w → K (a.put d v) w) → Oper.wp P oi a w K Q) : wpAnyH P md ops Q S (fuel + 1) listed a w := by
  subst hd
  refine wpAnyH_ready hr (by simp) (AllReadyH.cons hi (fun K hK => ?_) AllReadyH.nil)
  rw [if_pos hw]
  exact h K fun v w hS hW => hK.out _ _ hS fun _ => hW
end
section
variable {P : Program} {md : Region.Mode} {ops : Array Oper} {Q : Exit → Act → World → Prop} {S : World → Prop}
theorem held_op {i : Nat} {oi : Oper} {d : Option Tmp} {fuel : Nat} {listed : Array Bool} {a : Act} {w : World} (hi : ops[i]? = some oi) (hd : oi.dst = d) (hr : Region.ready md ops listed = [i])
    (h : ∀ K : Act → World → Prop, (∀ v w, S w → wpAnyH P md ops Q S fuel (listed.setIfInBounds i true) (a.put d v) w → K (a.put d v) w) → if Region.wanted oi (yielded ops a.tmps) = true then Oper.wp P oi a w K Q else K (a.put d undef) w) : wpAnyH P md ops Q S (fuel + 1) listed a w := by
  subst hd
  exact wpAnyH_ready hr (by simp) (AllReadyH.cons hi (fun K hK => h K fun v w hS hW => hK.out _ _ hS fun _ => hW) AllReadyH.nil)
theorem held_cons {i : Nat} {oi : Oper} {d : Option Tmp} {fuel : Nat} {listed : Array Bool} {a : Act} {w : World} {rs : List Nat} (hi : ops[i]? = some oi) (hd : oi.dst = d)
    (h : ∀ K : Act → World → Prop, (∀ v w, S w → wpAnyH P md ops Q S fuel (listed.setIfInBounds i true) (a.put d v) w → K (a.put d v) w) → if Region.wanted oi (yielded ops a.tmps) = true then Oper.wp P oi a w K Q else K (a.put d undef) w)
    (k : AllReadyH P md ops Q S fuel listed a w rs) : AllReadyH P md ops Q S fuel listed a w (i :: rs) := by
  subst hd
  exact AllReadyH.cons hi (fun K hK => h K fun v w hS hW => hK.out _ _ hS fun _ => hW) k
end
/-- An append of operations, whichever operation of a region it is. -/
theorem app_step {ops : Array Oper} {o : Oper} {a : Act} {w : World} {K : Act → World → Prop} {Q : Exit → Act → World → Prop} {E : Prop} (hg : o.guard = none) (s x : Operand) (hop : o.op = Op.call { callee := Callee.builtin Builtin.append, args := #[s, x], argTypes := #[22, 22] })
    {base n m : Nat} {v sv : Value} {xs ys : List Value} (h : w.ownsRow base 48 7 v n xs) (hs : a.eval s = v) (hx : a.eval x = sv) (hc : CsAt w 7 m sv ys) (hn : n + m ≤ 1000) (hb : base ≤ w.heap.size)
    (hK : ∀ v' w', w'.ownsRow base 48 7 v' (n + m) (xs ++ ys) → w.grownBy w' v.ownBlock → K (a.put o.dst v') w') :
    if Region.wanted o (yielded ops a.tmps) = true then Oper.wp Tryz.prog o a w K Q else E := by
  have hw : Region.wanted o (yielded ops a.tmps) = true := by simp [Region.wanted, hg]
  rw [if_pos hw]
  obtain ⟨v', w', hr, h2, h3⟩ := cs_append appO o.type h hc (by omega) (by omega) hb
  exact Oper.wp_value (run_op_append hop (by rw [hs, hx]; exact hr)) (hK v' w' h2 h3)
theorem row_csat {w : World} {g n : Nat} {cs : Array Value} (h : w.heap[g]? = some (.cells cs 48 (0, 0))) (hs : cs.size = n * 7) (hn : n ≤ 1000) (h1 : ∀ u ∈ cs.toList, u.oneCell' = true) : CsAt w 7 n (.slice (some ⟨g, 0, none⟩) n n) cs.toList :=
  ⟨by rw [Array.length_toList]; exact hs, g, 0, n, _, rfl, Nat.le_refl _, by omega, fun _ => ⟨rfl, (Array.getElem?_eq_some_iff.1 h).1, fun j u hu => by rw [Nat.zero_add, cell_of_row _ _ _ _ _ _ h]; simpa using hu⟩, h1⟩
theorem not_oc (w : World) : OcAt w (ovC notO none 0).toList [notO] := .one (zt_fl.at _) (fl_ofit (by decide) (by decide) (by decide))
theorem nn_one : ∀ u ∈ (#[.int .i64 2, .int .i64 0, .int .i64 0, .string ⟨#[]⟩, .slice none 0 0, .int .i64 1, .int .i64 0, .int .i64 2, .int .i64 0, .int .i64 0, .string ⟨#[]⟩, .slice none 0 0, .int .i64 1, .int .i64 0] : Array Value).toList, u.oneCell' = true := fun u hu => by
  simp at hu
  rcases hu with rfl | rfl | rfl | rfl | rfl | rfl | rfl | rfl | rfl | rfl | rfl | rfl | rfl | rfl <;> rfl
theorem not_own {w : World} {B n : Nat} {v : Value} {xs : List Value} (h : w.ownsRow B 48 7 v n xs) {g : Nat} {cs : Array Value} (hg : w.heap[g]? = some (.cells cs 24 (0, 0))) : some g ≠ v.ownBlock := fun e => by
  rcases h.2 with ⟨rfl, _⟩ | ⟨k, cap, cur, rfl, _, hk, _⟩
  · simp [Value.ownBlock] at e
  · have e2 : g = k := by simpa [Value.ownBlock] using e
    subst e2
    rw [hg] at hk
    injection hk with hk
    injection hk with _ hk
    exact absurd hk (by decide)
theorem nots_oat {W : World} {B : Nat} {v : Value} {l LE : List Ox} {xs : List Value} (hLE : l ++ [notO, notO] = LE) (h : W.ownsRow B 48 7 v (0 + l.length + 2) ([] ++ xs ++ (#[.int .i64 2, .int .i64 0, .int .i64 0, .string ⟨#[]⟩, .slice none 0 0, .int .i64 1, .int .i64 0, .int .i64 2, .int .i64 0, .int .i64 0, .string ⟨#[]⟩, .slice none 0 0, .int .i64 1, .int .i64 0] : Array Value).toList)) (h1 : ∀ u ∈ xs, u.oneCell' = true) (ho : OcAt W xs l) : ∃ a c, v = .slice a LE.length c ∧ OAt W LE a c := by
  subst hLE
  have hlen : (l ++ [notO, notO]).length = 0 + l.length + 2 := by rw [List.length_append, Nat.zero_add]; rfl
  have hcs := row_cs h (fun u hu => by
    rcases List.mem_append.1 hu with hu | hu
    · exact h1 u (by simpa using hu)
    · exact nn_one u hu)
  rw [← hlen] at hcs
  have h3 : OcAt W (xs ++ ((ovC notO none 0).toList ++ (ovC notO none 0).toList)) (l ++ ([notO] ++ [notO])) := ho.append ((not_oc W).append (not_oc W))
  exact cs_oat hcs h3
theorem nrow_set {w : World} {B n : Nat} {v : Value} {xs : List Value} (h : w.ownsRow B 48 7 v n xs) {g : Nat} {cs : Array Value} (hg : w.heap[g]? = some (.cells cs 24 (0, 0))) (u : Value) : (w.setCell ⟨g, 0, none⟩ u).ownsRow B 48 7 v n xs := by
  refine ⟨h.1, ?_⟩
  have hne := not_own h hg
  rcases h.2 with h2 | ⟨k, cap, cur, hv, hb, hk, hr⟩
  · exact .inl h2
  · refine .inr ⟨k, cap, cur, hv, hb, (Below.heap_setCell _ ⟨g, 0, none⟩ u k (fun e => hne ?_)).trans hk, hr⟩
    subst hv
    show some g = some k
    rw [show k = g from e]
theorem KV.ofRow {w0 W : World} {rows : List (Nat × Array Value × TypeId)} (h : KV w0 rows W) {g : Nat} {cs : Array Value} {t : TypeId} (hg : W.heap[g]? = some (.cells cs t (0, 0))) : KV w0 ((g, cs, t) :: rows) W :=
  ⟨h.bel, fun q hq => by
    rcases List.mem_cons.1 hq with rfl | hq
    · exact hg
    · exact h.row q hq⟩
set_option maxRecDepth 100000 in
set_option maxHeartbeats 16000000 in
theorem ExprNots_any {l : List Ox} {a : Option Addr} {c : Nat} {nl : List ByteArray} {na : Option Addr} {nc : Nat} {tl : List Tm} {ta : Option Addr} {tc : Nat} {w : World} (hM : MaxL w) (h : OAt w l a c) (hb : BAt w nl na nc tl ta tc) (hbig : nl.length ≤ 4611686018427387904) : Calls Tryz.prog 8 #[xv l a c, bv nl na nc tl ta tc] w (Ans true w) := by
  unfold xv
  have HMX := hide hM
  have HO := hide h
  have HBd := hide (And.intro hb hbig)
  have K0 := hide (((KV.nil w).add w.heap.size #[.slice a l.length c] 24 rfl).add (w.heap.size + 1) (bvC nl na nc tl ta tc) 28 (by simp))
  clear hM h hb hbig
  have HL := hide (light_any (HO.out.ext K0.out.bel))
  have a0 := K0.out.cell (p := w.heap.size) (cs := #[.slice a l.length c]) (t := 24) (i := 0) (by simp) rfl
  have b0 := K0.out.cell (p := (w.heap.size + 1)) (cs := (bvC nl na nc tl ta tc)) (t := 28) (i := 0) (by simp) rfl
  have b1 := K0.out.cell (p := (w.heap.size + 1)) (cs := (bvC nl na nc tl ta tc)) (t := 28) (i := 1) (by simp) rfl
  unfold bv
  go_enter Tryz.func8, Tryz.ntmps8
  go_wp2_with fail
  refine HL.out.mono ?_
  rintro e_ w1 ⟨v1, rfl, b_⟩
  have K1 := hide (K0.out.ext b_)
  clear b_
  clear a0 b0 b1
  clear HL K0
  cases v1 with
  | false =>
    go_wp2_with fail
    refine (awake12_any (HMX.out.ext K1.out.bel)).mono ?_
    rintro e_ wz ⟨rfl, b_⟩
    have KZ := hide (K1.out.ext b_)
    clear b_
    go_wp2
    go_ret
    exact ⟨rfl, KZ.out.bel⟩
  | true =>
  have HL := hide (lightB_any (HBd.out.1.ext K1.out.bel) HBd.out.2)
  unfold bv at HL
  have a0 := K1.out.cell (p := w.heap.size) (cs := #[.slice a l.length c]) (t := 24) (i := 0) (by simp) rfl
  have b0 := K1.out.cell (p := (w.heap.size + 1)) (cs := (bvC nl na nc tl ta tc)) (t := 28) (i := 0) (by simp) rfl
  have b1 := K1.out.cell (p := (w.heap.size + 1)) (cs := (bvC nl na nc tl ta tc)) (t := 28) (i := 1) (by simp) rfl
  go_wp2_with fail
  refine HL.out.mono ?_
  rintro e_ w2 ⟨v2, rfl, b_⟩
  have K2 := hide (K1.out.ext b_)
  clear b_
  clear a0 b0 b1
  clear HL K1
  cases v2 with
  | false =>
    go_wp2_with fail
    refine (awake12_any (HMX.out.ext K2.out.bel)).mono ?_
    rintro e_ wz ⟨rfl, b_⟩
    have KZ := hide (K2.out.ext b_)
    clear b_
    go_wp2
    go_ret
    exact ⟨rfl, KZ.out.bel⟩
  | true =>
  obtain ⟨M, hMM⟩ : ∃ v, mayE l = v := ⟨_, rfl⟩
  have HL := hide (show Calls Tryz.prog 18 #[xv l a c] w2 (Ans M w2) from by rw [← hMM]; exact EMay_any (HO.out.ext K2.out.bel))
  have HMay := hide hMM
  clear hMM
  have a0 := K2.out.cell (p := w.heap.size) (cs := #[.slice a l.length c]) (t := 24) (i := 0) (by simp) rfl
  have b0 := K2.out.cell (p := (w.heap.size + 1)) (cs := (bvC nl na nc tl ta tc)) (t := 28) (i := 0) (by simp) rfl
  have b1 := K2.out.cell (p := (w.heap.size + 1)) (cs := (bvC nl na nc tl ta tc)) (t := 28) (i := 1) (by simp) rfl
  go_wp2_with fail
  refine HL.out.mono ?_
  rintro e_ w3 ⟨rfl, b_⟩
  have K3 := hide (K2.out.ext b_)
  clear b_
  clear a0 b0 b1
  clear HL K2
  cases M with
  | false =>
    go_wp2_with fail
    refine (awake12_any (HMX.out.ext K3.out.bel)).mono ?_
    rintro e_ wz ⟨rfl, b_⟩
    have KZ := hide (K3.out.ext b_)
    clear b_
    go_wp2
    go_ret
    exact ⟨rfl, KZ.out.bel⟩
  | true =>
  by_cases hf : (30 : Int) < (l.length : Int)
  · have d1 : decide ((30 : Int) < (l.length : Int)) = true := decide_eq_true hf
    have d2 : decide (30 < l.length) = true := decide_eq_true (by omega)
    clear hf
    have a0 := K3.out.cell (p := w.heap.size) (cs := #[.slice a l.length c]) (t := 24) (i := 0) (by simp) rfl
    have b0 := K3.out.cell (p := (w.heap.size + 1)) (cs := (bvC nl na nc tl ta tc)) (t := 28) (i := 0) (by simp) rfl
    have b1 := K3.out.cell (p := (w.heap.size + 1)) (cs := (bvC nl na nc tl ta tc)) (t := 28) (i := 1) (by simp) rfl
    go_wp2_with fail
    refine (awake12_any (HMX.out.ext K3.out.bel)).mono ?_
    rintro e_ wz ⟨rfl, b_⟩
    have KZ := hide (K3.out.ext b_)
    clear b_ a0 b0 b1
    go_wp2
    go_ret
    exact ⟨rfl, KZ.out.bel⟩
  have HF := hide (show l.length ≤ 30 by omega)
  have d1 : decide ((30 : Int) < (l.length : Int)) = false := decide_eq_false hf
  have d2 : decide (30 < l.length) = false := decide_eq_false (by have := HF.out; omega)
  clear hf
  obtain ⟨B, hBB⟩ : ∃ v, mbB nl tl = v := ⟨_, rfl⟩
  have HL := hide (show Calls Tryz.prog 20 #[bv nl na nc tl ta tc] w3 (Ans B w3) from by rw [← hBB]; exact MayBind_any (HBd.out.1.ext K3.out.bel))
  have HMb := hide hBB
  clear hBB
  unfold bv at HL
  have a0 := K3.out.cell (p := w.heap.size) (cs := #[.slice a l.length c]) (t := 24) (i := 0) (by simp) rfl
  have b0 := K3.out.cell (p := (w.heap.size + 1)) (cs := (bvC nl na nc tl ta tc)) (t := 28) (i := 0) (by simp) rfl
  have b1 := K3.out.cell (p := (w.heap.size + 1)) (cs := (bvC nl na nc tl ta tc)) (t := 28) (i := 1) (by simp) rfl
  go_wp2_with fail
  refine HL.out.mono ?_
  rintro e_ w5 ⟨rfl, b_⟩
  have K5 := hide (K3.out.ext b_)
  clear b_
  clear a0 b0 b1
  clear HL K3 d1 d2
  cases B with
  | false =>
    go_wp2_with fail
    refine (awake12_any (HMX.out.ext K5.out.bel)).mono ?_
    rintro e_ wz ⟨rfl, b_⟩
    have KZ := hide (K5.out.ext b_)
    clear b_
    go_wp2
    go_ret
    exact ⟨rfl, KZ.out.bel⟩
  | true =>
  have K6 : Hid (KV w [(w5.heap.size, #[.int .i64 2, .int .i64 0, .int .i64 0, .string ⟨#[]⟩, .slice none 0 0, .int .i64 1, .int .i64 0], 48), (w.heap.size + 1, (bvC nl na nc tl ta tc), 28), (w.heap.size, #[.slice a l.length c], 24)] (w5.alloc (.cells #[.int .i64 2, .int .i64 0, .int .i64 0, .string ⟨#[]⟩, .slice none 0 0, .int .i64 1, .int .i64 0] 48))) := hide (K5.out.add w5.heap.size #[.int .i64 2, .int .i64 0, .int .i64 0, .string ⟨#[]⟩, .slice none 0 0, .int .i64 1, .int .i64 0] 48 rfl)
  go_upto_region 4 with fail
  generalize hG : w5.heap.size = G at *
  clear hG
  generalize w5.alloc (.cells #[.int .i64 2, .int .i64 0, .int .i64 0, .string ⟨#[]⟩, .slice none 0 0, .int .i64 1, .int .i64 0] 48) = wA at *
  obtain ⟨xs, hcs, hoc⟩ := (HO.out.ext K6.out.bel).cs
  obtain ⟨LE, hLE⟩ : ∃ LE, l ++ [notO, notO] = LE := ⟨_, rfl⟩
  have HLE := hide hLE
  have HCS := hide (And.intro hcs hoc)
  clear hcs hoc hLE
  have HKS := hide (show ∀ W, Below wA.heap.size wA W → (fun W => Below wA.heap.size wA W ∧ W.cell? ⟨w.heap.size, 0, none⟩ = some (.slice a l.length c) ∧ W.cell? ⟨G, 0, none⟩ = some (.int .i64 2) ∧ W.cell? ⟨G, 1, none⟩ = some (.int .i64 0) ∧ W.cell? ⟨G, 2, none⟩ = some (.int .i64 0) ∧ W.cell? ⟨G, 3, none⟩ = some (.string ⟨#[]⟩) ∧ W.cell? ⟨G, 4, none⟩ = some (.slice none 0 0) ∧ W.cell? ⟨G, 5, none⟩ = some (.int .i64 1) ∧ W.cell? ⟨G, 6, none⟩ = some (.int .i64 0)) W from fun W hW => by
    have k := K6.out.ext hW
    have a0 := k.cell (p := w.heap.size) (cs := #[.slice a l.length c]) (t := 24) (i := 0) (by simp) rfl
    have n0 := k.cell (p := G) (cs := #[.int .i64 2, .int .i64 0, .int .i64 0, .string ⟨#[]⟩, .slice none 0 0, .int .i64 1, .int .i64 0]) (t := 48) (i := 0) (by simp) rfl
    have n1 := k.cell (p := G) (cs := #[.int .i64 2, .int .i64 0, .int .i64 0, .string ⟨#[]⟩, .slice none 0 0, .int .i64 1, .int .i64 0]) (t := 48) (i := 1) (by simp) rfl
    have n2 := k.cell (p := G) (cs := #[.int .i64 2, .int .i64 0, .int .i64 0, .string ⟨#[]⟩, .slice none 0 0, .int .i64 1, .int .i64 0]) (t := 48) (i := 2) (by simp) rfl
    have n3 := k.cell (p := G) (cs := #[.int .i64 2, .int .i64 0, .int .i64 0, .string ⟨#[]⟩, .slice none 0 0, .int .i64 1, .int .i64 0]) (t := 48) (i := 3) (by simp) rfl
    have n4 := k.cell (p := G) (cs := #[.int .i64 2, .int .i64 0, .int .i64 0, .string ⟨#[]⟩, .slice none 0 0, .int .i64 1, .int .i64 0]) (t := 48) (i := 4) (by simp) rfl
    have n5 := k.cell (p := G) (cs := #[.int .i64 2, .int .i64 0, .int .i64 0, .string ⟨#[]⟩, .slice none 0 0, .int .i64 1, .int .i64 0]) (t := 48) (i := 5) (by simp) rfl
    have n6 := k.cell (p := G) (cs := #[.int .i64 2, .int .i64 0, .int .i64 0, .string ⟨#[]⟩, .slice none 0 0, .int .i64 1, .int .i64 0]) (t := 48) (i := 6) (by simp) rfl
    exact ⟨hW, a0, n0, n1, n2, n3, n4, n5, n6⟩)
  go_cut [6] from 39 (fun p wx => ∃ g a9 c9, p = .pointer (some ⟨g, 0, none⟩) ∧ KV w ((g, #[.slice a9 LE.length c9], 24) :: [(G, #[.int .i64 2, .int .i64 0, .int .i64 0, .string ⟨#[]⟩, .slice none 0 0, .int .i64 1, .int .i64 0], 48), (w.heap.size + 1, (bvC nl na nc tl ta tc), 28), (w.heap.size, #[.slice a l.length c], 24)]) wx ∧ OAt wx LE a9 c9)
  case first =>
    refine wp_region_held_drew (S := (fun W => Below wA.heap.size wA W ∧ W.cell? ⟨w.heap.size, 0, none⟩ = some (.slice a l.length c) ∧ W.cell? ⟨G, 0, none⟩ = some (.int .i64 2) ∧ W.cell? ⟨G, 1, none⟩ = some (.int .i64 0) ∧ W.cell? ⟨G, 2, none⟩ = some (.int .i64 0) ∧ W.cell? ⟨G, 3, none⟩ = some (.string ⟨#[]⟩) ∧ W.cell? ⟨G, 4, none⟩ = some (.slice none 0 0) ∧ W.cell? ⟨G, 5, none⟩ = some (.int .i64 1) ∧ W.cell? ⟨G, 6, none⟩ = some (.int .i64 0))) (by kernel_rfl) (HKS.out _ (Below.refl _ _).drew) (fun hHeld => ?_)
    have BB : Below wA.heap.size wA wA.drew := (Below.refl _ _).drew
    generalize wA.drew = wl0 at BB hHeld ⊢
    refine held_take (i := 1) (d := some 40) (v := ?vx1x1) rfl rfl (by kernel_rfl) (by kernel_rfl) (by kernel_rfl) (fun _ _ _ h => h) (by rfl) hHeld ?hyx1x1 ?restx1x1
    case hyx1x1 => (intro w_ hSw; (try dsimp only at hSw); go_simp; try with_reducible rfl)
    simp only [Act.put, List.setIfInBounds_toArray, List.set_cons_zero, List.set_cons_succ]
    refine held_take (i := 2) (d := some 41) (v := ?vx2x2) rfl rfl (by kernel_rfl) (by kernel_rfl) (by kernel_rfl) (fun _ _ _ h => h) (by rfl) hHeld ?hyx2x2 ?restx2x2
    case hyx2x2 => (intro w_ hSw; (try dsimp only at hSw); go_simp; try with_reducible rfl)
    simp only [Act.put, List.setIfInBounds_toArray, List.set_cons_zero, List.set_cons_succ]
    refine held_take (i := 4) (d := some 43) (v := ?vx3x4) rfl rfl (by kernel_rfl) (by kernel_rfl) (by kernel_rfl) (fun _ _ _ h => h) (by rfl) hHeld ?hyx3x4 ?restx3x4
    case hyx3x4 => (intro w_ hSw; (try dsimp only at hSw); go_simp; try with_reducible rfl)
    simp only [Act.put, List.setIfInBounds_toArray, List.set_cons_zero, List.set_cons_succ]
    refine held_take (i := 5) (d := some 44) (v := ?vx4x5) rfl rfl (by kernel_rfl) (by kernel_rfl) (by kernel_rfl) (fun _ _ _ h => h) (by rfl) hHeld ?hyx4x5 ?restx4x5
    case hyx4x5 => (intro w_ hSw; (try dsimp only at hSw); go_simp; try with_reducible rfl)
    simp only [Act.put, List.setIfInBounds_toArray, List.set_cons_zero, List.set_cons_succ]
    refine wpAnyH_ready (rs := [0, 6, 9]) (by kernel_rfl) (by simp) ?_
    refine held_cons (d := some 39) (i := 0) rfl rfl (fun K hK => ?_) ?_
    · rw [if_pos (by rfl)]
      go_simp
      have bN := alloc_below wl0 (.cells #[] 48)
      have RR := hide (World.ownsRow_made (base := wA.heap.size) (e := 48) (size := 7) wl0 #[] 0 BB.size (by decide) rfl)
      refine hK _ _ (HKS.out _ (Below.chain BB bN)) ?_
      replace BB := Below.chain BB bN
      clear bN hK K hHeld
      have hHeld := HKS.out _ BB
      generalize (wl0.alloc (.cells #[] 48)) = wl5 at BB hHeld RR ⊢
      simp only [Act.put, List.setIfInBounds_toArray, List.set_cons_zero, List.set_cons_succ]
      refine wpAnyH_ready (rs := [3, 6, 9]) (by kernel_rfl) (by simp) ?_
      refine held_cons (d := some 42) (i := 3) rfl rfl (fun K hK => ?_) ?_
      · refine app_step rfl (.tmp 39) (.tmp 41) rfl RR.out (by simp [Act.eval]) (by simp [Act.eval]) (HCS.out.1.ext BB) (by have := HF.out; omega) BB.size ?_
        intro v3 wv oN gN
        have BBn := below_grow BB gN (fun k hk => (RR.out.lt k hk).1) BB.size
        refine hK _ _ (HKS.out _ BBn) ?_
        clear RR
        have RR := hide oN
        clear oN gN hK K hHeld
        replace BB := BBn
        clear BBn
        have hHeld := HKS.out _ BB
        simp only [Act.put, List.setIfInBounds_toArray, List.set_cons_zero, List.set_cons_succ]
        refine wpAnyH_ready (rs := [6, 9]) (by kernel_rfl) (by simp) ?_
        refine held_cons (d := some 45) (i := 6) rfl rfl (fun K hK => ?_) ?_
        · rw [if_pos (by rfl)]
          go_simp
          have bN := alloc_below wv (.cells #[.int .i64 2, .int .i64 0, .int .i64 0, .string ⟨#[]⟩, .slice none 0 0, .int .i64 1, .int .i64 0, .int .i64 2, .int .i64 0, .int .i64 0, .string ⟨#[]⟩, .slice none 0 0, .int .i64 1, .int .i64 0] 48)
          have R0 := RR
          have Rb := hide (row_ext RR.out bN)
          clear RR
          have RR := hide Rb.out
          clear Rb
          have NR := heap_alloc_last wv (.cells #[.int .i64 2, .int .i64 0, .int .i64 0, .string ⟨#[]⟩, .slice none 0 0, .int .i64 1, .int .i64 0, .int .i64 2, .int .i64 0, .int .i64 0, .string ⟨#[]⟩, .slice none 0 0, .int .i64 1, .int .i64 0] 48)
          refine hK _ _ (HKS.out _ (Below.chain BB bN)) ?_
          replace BB := Below.chain BB bN
          clear bN hK K hHeld
          have hHeld := HKS.out _ BB
          generalize (wv.alloc (.cells #[.int .i64 2, .int .i64 0, .int .i64 0, .string ⟨#[]⟩, .slice none 0 0, .int .i64 1, .int .i64 0, .int .i64 2, .int .i64 0, .int .i64 0, .string ⟨#[]⟩, .slice none 0 0, .int .i64 1, .int .i64 0] 48)) = wl6 at BB hHeld RR NR ⊢
          simp only [Act.put, List.setIfInBounds_toArray, List.set_cons_zero, List.set_cons_succ]
          refine wpAnyH_ready (rs := [7, 9]) (by kernel_rfl) (by simp) ?_
          refine held_cons (d := some 46) (i := 7) rfl rfl (fun K hK => ?_) ?_
          · refine app_step rfl (.tmp 42) (.tmp 45) rfl RR.out (by simp [Act.eval]) (by simp [Act.eval]) (row_csat (n := 2) NR rfl (by decide) nn_one) (by have := HF.out; omega) BB.size ?_
            intro v7 wz oN gN
            have BBn := below_grow BB gN (fun k hk => (RR.out.lt k hk).1) BB.size
            obtain ⟨a9, c9, rfl, _⟩ := nots_oat HLE.out oN (cs_one HCS.out.1) (HCS.out.2.ext BBn)
            refine hK _ _ (HKS.out _ BBn) ?_
            clear RR
            have RR := hide oN
            clear oN gN hK K hHeld NR
            replace BB := BBn
            clear BBn
            have hHeld := HKS.out _ BB
            simp only [Act.put, List.setIfInBounds_toArray, List.set_cons_zero, List.set_cons_succ]
            refine held_take (i := 8) (d := some 47) (v := ?vx7x8) rfl rfl (by kernel_rfl) (by kernel_rfl) (by kernel_rfl) (fun _ _ _ h => h) (by rfl) hHeld ?hyx7x8 ?restx7x8
            case hyx7x8 => (intro w_ hSw; (try dsimp only at hSw); go_simp; try with_reducible rfl)
            simp only [Act.put, List.setIfInBounds_toArray, List.set_cons_zero, List.set_cons_succ]
            refine wpAnyH_ready (rs := [9]) (by kernel_rfl) (by simp) ?_
            refine held_cons (d := some 6) (i := 9) rfl rfl (fun K hK => ?_) ?_
            · rw [if_pos (by rfl)]
              go_simp
              have bN := alloc_below wz (.cells #[.slice none 0 0] 24)
              have Rb := hide (row_ext RR.out bN)
              clear RR
              have RR := hide Rb.out
              clear Rb
              have VR := heap_alloc_last wz (.cells #[.slice none 0 0] 24)
              have VB : wA.heap.size ≤ wz.heap.size := BB.size
              refine hK _ _ (HKS.out _ (Below.chain BB bN)) ?_
              replace BB := Below.chain BB bN
              clear bN hK K hHeld
              have hHeld := HKS.out _ BB
              generalize (wz.alloc (.cells #[.slice none 0 0] 24)) = wl8 at BB hHeld RR VR ⊢
              simp only [Act.put, List.setIfInBounds_toArray, List.set_cons_zero, List.set_cons_succ]
              refine held_op (i := 10) (d := none) rfl rfl (by kernel_rfl) (fun K hK => ?_)
              rw [if_pos (by rfl)]
              have c9r := (row_reads VR).1 0
              have f9r := (row_reads VR).2 0
              simp only [List.getElem?_toArray, List.getElem?_cons_zero] at c9r
              try simp at c9r
              try simp at f9r
              go_simp
              have BBn := Below.setCell (p := ⟨wz.heap.size, 0, none⟩) BB VB (.slice a9 LE.length c9)
              refine hK undef _ (HKS.out _ BBn) ?_
              clear hK K hHeld c9r f9r
              have RF := nrow_set RR.out VR (.slice a9 LE.length c9)
              obtain ⟨a8, c8, e8, hOA⟩ := nots_oat HLE.out RF (cs_one HCS.out.1) (HCS.out.2.ext BBn)
              injection e8 with e8 _ e9
              subst e8
              subst e9
              have KF := hide (KV.ofRow (K6.out.ext BBn) (heap_setCell_same _ _ _ _ _ _ VR))
              have HLF := hide hOA
              clear RF hOA VR VB RR BB BBn
              refine wpAnyH_done (by kernel_rfl) ?_ _
              go_wp2_with fail
              go_meet
              exact ⟨_, _, _, rfl, KF.out, HLF.out⟩
            exact AllReadyH.nil
          refine held_cons (d := some 6) (i := 9) rfl rfl (fun K hK => ?_) ?_
          · rw [if_pos (by rfl)]
            go_simp
            have bN := alloc_below wl6 (.cells #[.slice none 0 0] 24)
            have Rb := hide (row_ext RR.out bN)
            clear RR
            have RR := hide Rb.out
            clear Rb
            replace NR := (bN.block _ (Array.getElem?_eq_some_iff.1 NR).1).trans NR
            have VR := heap_alloc_last wl6 (.cells #[.slice none 0 0] 24)
            have VB : wA.heap.size ≤ wl6.heap.size := BB.size
            refine hK _ _ (HKS.out _ (Below.chain BB bN)) ?_
            replace BB := Below.chain BB bN
            clear bN hK K hHeld
            have hHeld := HKS.out _ BB
            generalize (wl6.alloc (.cells #[.slice none 0 0] 24)) = wl9 at BB hHeld RR NR VR ⊢
            simp only [Act.put, List.setIfInBounds_toArray, List.set_cons_zero, List.set_cons_succ]
            refine wpAnyH_ready (rs := [7]) (by kernel_rfl) (by simp) ?_
            refine held_cons (d := some 46) (i := 7) rfl rfl (fun K hK => ?_) ?_
            · refine app_step rfl (.tmp 42) (.tmp 45) rfl RR.out (by simp [Act.eval]) (by simp [Act.eval]) (row_csat (n := 2) NR rfl (by decide) nn_one) (by have := HF.out; omega) BB.size ?_
              intro v7 wz oN gN
              have BBn := below_grow BB gN (fun k hk => (RR.out.lt k hk).1) BB.size
              replace VR := (gN.block _ (Array.getElem?_eq_some_iff.1 VR).1 (not_own RR.out VR)).trans VR
              obtain ⟨a9, c9, rfl, _⟩ := nots_oat HLE.out oN (cs_one HCS.out.1) (HCS.out.2.ext BBn)
              refine hK _ _ (HKS.out _ BBn) ?_
              clear RR
              have RR := hide oN
              clear oN gN hK K hHeld NR
              replace BB := BBn
              clear BBn
              have hHeld := HKS.out _ BB
              simp only [Act.put, List.setIfInBounds_toArray, List.set_cons_zero, List.set_cons_succ]
              refine held_take (i := 8) (d := some 47) (v := ?vx10x8) rfl rfl (by kernel_rfl) (by kernel_rfl) (by kernel_rfl) (fun _ _ _ h => h) (by rfl) hHeld ?hyx10x8 ?restx10x8
              case hyx10x8 => (intro w_ hSw; (try dsimp only at hSw); go_simp; try with_reducible rfl)
              simp only [Act.put, List.setIfInBounds_toArray, List.set_cons_zero, List.set_cons_succ]
              refine held_op (i := 10) (d := none) rfl rfl (by kernel_rfl) (fun K hK => ?_)
              rw [if_pos (by rfl)]
              have c9r := (row_reads VR).1 0
              have f9r := (row_reads VR).2 0
              simp only [List.getElem?_toArray, List.getElem?_cons_zero] at c9r
              try simp at c9r
              try simp at f9r
              go_simp
              have BBn := Below.setCell (p := ⟨wl6.heap.size, 0, none⟩) BB VB (.slice a9 LE.length c9)
              refine hK undef _ (HKS.out _ BBn) ?_
              clear hK K hHeld c9r f9r
              have RF := nrow_set RR.out VR (.slice a9 LE.length c9)
              obtain ⟨a8, c8, e8, hOA⟩ := nots_oat HLE.out RF (cs_one HCS.out.1) (HCS.out.2.ext BBn)
              injection e8 with e8 _ e9
              subst e8
              subst e9
              have KF := hide (KV.ofRow (K6.out.ext BBn) (heap_setCell_same _ _ _ _ _ _ VR))
              have HLF := hide hOA
              clear RF hOA VR VB RR BB BBn
              refine wpAnyH_done (by kernel_rfl) ?_ _
              go_wp2_with fail
              go_meet
              exact ⟨_, _, _, rfl, KF.out, HLF.out⟩
            exact AllReadyH.nil
          exact AllReadyH.nil
        refine held_cons (d := some 6) (i := 9) rfl rfl (fun K hK => ?_) ?_
        · rw [if_pos (by rfl)]
          go_simp
          have bN := alloc_below wv (.cells #[.slice none 0 0] 24)
          have Rb := hide (row_ext RR.out bN)
          clear RR
          have RR := hide Rb.out
          clear Rb
          have VR := heap_alloc_last wv (.cells #[.slice none 0 0] 24)
          have VB : wA.heap.size ≤ wv.heap.size := BB.size
          refine hK _ _ (HKS.out _ (Below.chain BB bN)) ?_
          replace BB := Below.chain BB bN
          clear bN hK K hHeld
          have hHeld := HKS.out _ BB
          generalize (wv.alloc (.cells #[.slice none 0 0] 24)) = wl11 at BB hHeld RR VR ⊢
          simp only [Act.put, List.setIfInBounds_toArray, List.set_cons_zero, List.set_cons_succ]
          refine wpAnyH_ready (rs := [6]) (by kernel_rfl) (by simp) ?_
          refine held_cons (d := some 45) (i := 6) rfl rfl (fun K hK => ?_) ?_
          · rw [if_pos (by rfl)]
            go_simp
            have bN := alloc_below wl11 (.cells #[.int .i64 2, .int .i64 0, .int .i64 0, .string ⟨#[]⟩, .slice none 0 0, .int .i64 1, .int .i64 0, .int .i64 2, .int .i64 0, .int .i64 0, .string ⟨#[]⟩, .slice none 0 0, .int .i64 1, .int .i64 0] 48)
            have R0 := RR
            have Rb := hide (row_ext RR.out bN)
            clear RR
            have RR := hide Rb.out
            clear Rb
            replace VR := (bN.block _ (Array.getElem?_eq_some_iff.1 VR).1).trans VR
            have NR := heap_alloc_last wl11 (.cells #[.int .i64 2, .int .i64 0, .int .i64 0, .string ⟨#[]⟩, .slice none 0 0, .int .i64 1, .int .i64 0, .int .i64 2, .int .i64 0, .int .i64 0, .string ⟨#[]⟩, .slice none 0 0, .int .i64 1, .int .i64 0] 48)
            refine hK _ _ (HKS.out _ (Below.chain BB bN)) ?_
            replace BB := Below.chain BB bN
            clear bN hK K hHeld
            have hHeld := HKS.out _ BB
            generalize (wl11.alloc (.cells #[.int .i64 2, .int .i64 0, .int .i64 0, .string ⟨#[]⟩, .slice none 0 0, .int .i64 1, .int .i64 0, .int .i64 2, .int .i64 0, .int .i64 0, .string ⟨#[]⟩, .slice none 0 0, .int .i64 1, .int .i64 0] 48)) = wl12 at BB hHeld RR NR VR ⊢
            simp only [Act.put, List.setIfInBounds_toArray, List.set_cons_zero, List.set_cons_succ]
            refine wpAnyH_ready (rs := [7]) (by kernel_rfl) (by simp) ?_
            refine held_cons (d := some 46) (i := 7) rfl rfl (fun K hK => ?_) ?_
            · refine app_step rfl (.tmp 42) (.tmp 45) rfl RR.out (by simp [Act.eval]) (by simp [Act.eval]) (row_csat (n := 2) NR rfl (by decide) nn_one) (by have := HF.out; omega) BB.size ?_
              intro v7 wz oN gN
              have BBn := below_grow BB gN (fun k hk => (RR.out.lt k hk).1) BB.size
              replace VR := (gN.block _ (Array.getElem?_eq_some_iff.1 VR).1 (not_own RR.out VR)).trans VR
              obtain ⟨a9, c9, rfl, _⟩ := nots_oat HLE.out oN (cs_one HCS.out.1) (HCS.out.2.ext BBn)
              refine hK _ _ (HKS.out _ BBn) ?_
              clear RR
              have RR := hide oN
              clear oN gN hK K hHeld NR
              replace BB := BBn
              clear BBn
              have hHeld := HKS.out _ BB
              simp only [Act.put, List.setIfInBounds_toArray, List.set_cons_zero, List.set_cons_succ]
              refine held_take (i := 8) (d := some 47) (v := ?vx13x8) rfl rfl (by kernel_rfl) (by kernel_rfl) (by kernel_rfl) (fun _ _ _ h => h) (by rfl) hHeld ?hyx13x8 ?restx13x8
              case hyx13x8 => (intro w_ hSw; (try dsimp only at hSw); go_simp; try with_reducible rfl)
              simp only [Act.put, List.setIfInBounds_toArray, List.set_cons_zero, List.set_cons_succ]
              refine held_op (i := 10) (d := none) rfl rfl (by kernel_rfl) (fun K hK => ?_)
              rw [if_pos (by rfl)]
              have c9r := (row_reads VR).1 0
              have f9r := (row_reads VR).2 0
              simp only [List.getElem?_toArray, List.getElem?_cons_zero] at c9r
              try simp at c9r
              try simp at f9r
              go_simp
              have BBn := Below.setCell (p := ⟨wv.heap.size, 0, none⟩) BB VB (.slice a9 LE.length c9)
              refine hK undef _ (HKS.out _ BBn) ?_
              clear hK K hHeld c9r f9r
              have RF := nrow_set RR.out VR (.slice a9 LE.length c9)
              obtain ⟨a8, c8, e8, hOA⟩ := nots_oat HLE.out RF (cs_one HCS.out.1) (HCS.out.2.ext BBn)
              injection e8 with e8 _ e9
              subst e8
              subst e9
              have KF := hide (KV.ofRow (K6.out.ext BBn) (heap_setCell_same _ _ _ _ _ _ VR))
              have HLF := hide hOA
              clear RF hOA VR VB RR BB BBn
              refine wpAnyH_done (by kernel_rfl) ?_ _
              go_wp2_with fail
              go_meet
              exact ⟨_, _, _, rfl, KF.out, HLF.out⟩
            exact AllReadyH.nil
          exact AllReadyH.nil
        exact AllReadyH.nil
      refine held_cons (d := some 45) (i := 6) rfl rfl (fun K hK => ?_) ?_
      · rw [if_pos (by rfl)]
        go_simp
        have bN := alloc_below wl5 (.cells #[.int .i64 2, .int .i64 0, .int .i64 0, .string ⟨#[]⟩, .slice none 0 0, .int .i64 1, .int .i64 0, .int .i64 2, .int .i64 0, .int .i64 0, .string ⟨#[]⟩, .slice none 0 0, .int .i64 1, .int .i64 0] 48)
        have R0 := RR
        have Rb := hide (row_ext RR.out bN)
        clear RR
        have RR := hide Rb.out
        clear Rb
        have NR := heap_alloc_last wl5 (.cells #[.int .i64 2, .int .i64 0, .int .i64 0, .string ⟨#[]⟩, .slice none 0 0, .int .i64 1, .int .i64 0, .int .i64 2, .int .i64 0, .int .i64 0, .string ⟨#[]⟩, .slice none 0 0, .int .i64 1, .int .i64 0] 48)
        have NE := hide (show ¬ (wl5.heap.size = wl0.heap.size) from fun e => by have hlt : wl0.heap.size < wl5.heap.size := (R0.out.lt _ rfl).2; omega)
        refine hK _ _ (HKS.out _ (Below.chain BB bN)) ?_
        replace BB := Below.chain BB bN
        clear bN hK K hHeld
        have hHeld := HKS.out _ BB
        generalize (wl5.alloc (.cells #[.int .i64 2, .int .i64 0, .int .i64 0, .string ⟨#[]⟩, .slice none 0 0, .int .i64 1, .int .i64 0, .int .i64 2, .int .i64 0, .int .i64 0, .string ⟨#[]⟩, .slice none 0 0, .int .i64 1, .int .i64 0] 48)) = wl14 at BB hHeld RR NR ⊢
        simp only [Act.put, List.setIfInBounds_toArray, List.set_cons_zero, List.set_cons_succ]
        refine wpAnyH_ready (rs := [3, 9]) (by kernel_rfl) (by simp) ?_
        refine held_cons (d := some 42) (i := 3) rfl rfl (fun K hK => ?_) ?_
        · refine app_step rfl (.tmp 39) (.tmp 41) rfl RR.out (by simp [Act.eval]) (by simp [Act.eval]) (HCS.out.1.ext BB) (by have := HF.out; omega) BB.size ?_
          intro v3 wv oN gN
          have BBn := below_grow BB gN (fun k hk => (RR.out.lt k hk).1) BB.size
          replace NR := (gN.block _ (Array.getElem?_eq_some_iff.1 NR).1 (fun e => NE.out (by simpa [Value.ownBlock] using e))).trans NR
          refine hK _ _ (HKS.out _ BBn) ?_
          clear RR
          have RR := hide oN
          clear oN gN hK K hHeld
          replace BB := BBn
          clear BBn
          have hHeld := HKS.out _ BB
          simp only [Act.put, List.setIfInBounds_toArray, List.set_cons_zero, List.set_cons_succ]
          refine wpAnyH_ready (rs := [7, 9]) (by kernel_rfl) (by simp) ?_
          refine held_cons (d := some 46) (i := 7) rfl rfl (fun K hK => ?_) ?_
          · refine app_step rfl (.tmp 42) (.tmp 45) rfl RR.out (by simp [Act.eval]) (by simp [Act.eval]) (row_csat (n := 2) NR rfl (by decide) nn_one) (by have := HF.out; omega) BB.size ?_
            intro v7 wz oN gN
            have BBn := below_grow BB gN (fun k hk => (RR.out.lt k hk).1) BB.size
            obtain ⟨a9, c9, rfl, _⟩ := nots_oat HLE.out oN (cs_one HCS.out.1) (HCS.out.2.ext BBn)
            refine hK _ _ (HKS.out _ BBn) ?_
            clear RR
            have RR := hide oN
            clear oN gN hK K hHeld NR
            replace BB := BBn
            clear BBn
            have hHeld := HKS.out _ BB
            simp only [Act.put, List.setIfInBounds_toArray, List.set_cons_zero, List.set_cons_succ]
            refine held_take (i := 8) (d := some 47) (v := ?vx15x8) rfl rfl (by kernel_rfl) (by kernel_rfl) (by kernel_rfl) (fun _ _ _ h => h) (by rfl) hHeld ?hyx15x8 ?restx15x8
            case hyx15x8 => (intro w_ hSw; (try dsimp only at hSw); go_simp; try with_reducible rfl)
            simp only [Act.put, List.setIfInBounds_toArray, List.set_cons_zero, List.set_cons_succ]
            refine wpAnyH_ready (rs := [9]) (by kernel_rfl) (by simp) ?_
            refine held_cons (d := some 6) (i := 9) rfl rfl (fun K hK => ?_) ?_
            · rw [if_pos (by rfl)]
              go_simp
              have bN := alloc_below wz (.cells #[.slice none 0 0] 24)
              have Rb := hide (row_ext RR.out bN)
              clear RR
              have RR := hide Rb.out
              clear Rb
              have VR := heap_alloc_last wz (.cells #[.slice none 0 0] 24)
              have VB : wA.heap.size ≤ wz.heap.size := BB.size
              refine hK _ _ (HKS.out _ (Below.chain BB bN)) ?_
              replace BB := Below.chain BB bN
              clear bN hK K hHeld
              have hHeld := HKS.out _ BB
              generalize (wz.alloc (.cells #[.slice none 0 0] 24)) = wl16 at BB hHeld RR VR ⊢
              simp only [Act.put, List.setIfInBounds_toArray, List.set_cons_zero, List.set_cons_succ]
              refine held_op (i := 10) (d := none) rfl rfl (by kernel_rfl) (fun K hK => ?_)
              rw [if_pos (by rfl)]
              have c9r := (row_reads VR).1 0
              have f9r := (row_reads VR).2 0
              simp only [List.getElem?_toArray, List.getElem?_cons_zero] at c9r
              try simp at c9r
              try simp at f9r
              go_simp
              have BBn := Below.setCell (p := ⟨wz.heap.size, 0, none⟩) BB VB (.slice a9 LE.length c9)
              refine hK undef _ (HKS.out _ BBn) ?_
              clear hK K hHeld c9r f9r
              have RF := nrow_set RR.out VR (.slice a9 LE.length c9)
              obtain ⟨a8, c8, e8, hOA⟩ := nots_oat HLE.out RF (cs_one HCS.out.1) (HCS.out.2.ext BBn)
              injection e8 with e8 _ e9
              subst e8
              subst e9
              have KF := hide (KV.ofRow (K6.out.ext BBn) (heap_setCell_same _ _ _ _ _ _ VR))
              have HLF := hide hOA
              clear RF hOA VR VB RR BB BBn
              refine wpAnyH_done (by kernel_rfl) ?_ _
              go_wp2_with fail
              go_meet
              exact ⟨_, _, _, rfl, KF.out, HLF.out⟩
            exact AllReadyH.nil
          refine held_cons (d := some 6) (i := 9) rfl rfl (fun K hK => ?_) ?_
          · rw [if_pos (by rfl)]
            go_simp
            have bN := alloc_below wv (.cells #[.slice none 0 0] 24)
            have Rb := hide (row_ext RR.out bN)
            clear RR
            have RR := hide Rb.out
            clear Rb
            replace NR := (bN.block _ (Array.getElem?_eq_some_iff.1 NR).1).trans NR
            have VR := heap_alloc_last wv (.cells #[.slice none 0 0] 24)
            have VB : wA.heap.size ≤ wv.heap.size := BB.size
            refine hK _ _ (HKS.out _ (Below.chain BB bN)) ?_
            replace BB := Below.chain BB bN
            clear bN hK K hHeld
            have hHeld := HKS.out _ BB
            generalize (wv.alloc (.cells #[.slice none 0 0] 24)) = wl17 at BB hHeld RR NR VR ⊢
            simp only [Act.put, List.setIfInBounds_toArray, List.set_cons_zero, List.set_cons_succ]
            refine wpAnyH_ready (rs := [7]) (by kernel_rfl) (by simp) ?_
            refine held_cons (d := some 46) (i := 7) rfl rfl (fun K hK => ?_) ?_
            · refine app_step rfl (.tmp 42) (.tmp 45) rfl RR.out (by simp [Act.eval]) (by simp [Act.eval]) (row_csat (n := 2) NR rfl (by decide) nn_one) (by have := HF.out; omega) BB.size ?_
              intro v7 wz oN gN
              have BBn := below_grow BB gN (fun k hk => (RR.out.lt k hk).1) BB.size
              replace VR := (gN.block _ (Array.getElem?_eq_some_iff.1 VR).1 (not_own RR.out VR)).trans VR
              obtain ⟨a9, c9, rfl, _⟩ := nots_oat HLE.out oN (cs_one HCS.out.1) (HCS.out.2.ext BBn)
              refine hK _ _ (HKS.out _ BBn) ?_
              clear RR
              have RR := hide oN
              clear oN gN hK K hHeld NR
              replace BB := BBn
              clear BBn
              have hHeld := HKS.out _ BB
              simp only [Act.put, List.setIfInBounds_toArray, List.set_cons_zero, List.set_cons_succ]
              refine held_take (i := 8) (d := some 47) (v := ?vx18x8) rfl rfl (by kernel_rfl) (by kernel_rfl) (by kernel_rfl) (fun _ _ _ h => h) (by rfl) hHeld ?hyx18x8 ?restx18x8
              case hyx18x8 => (intro w_ hSw; (try dsimp only at hSw); go_simp; try with_reducible rfl)
              simp only [Act.put, List.setIfInBounds_toArray, List.set_cons_zero, List.set_cons_succ]
              refine held_op (i := 10) (d := none) rfl rfl (by kernel_rfl) (fun K hK => ?_)
              rw [if_pos (by rfl)]
              have c9r := (row_reads VR).1 0
              have f9r := (row_reads VR).2 0
              simp only [List.getElem?_toArray, List.getElem?_cons_zero] at c9r
              try simp at c9r
              try simp at f9r
              go_simp
              have BBn := Below.setCell (p := ⟨wv.heap.size, 0, none⟩) BB VB (.slice a9 LE.length c9)
              refine hK undef _ (HKS.out _ BBn) ?_
              clear hK K hHeld c9r f9r
              have RF := nrow_set RR.out VR (.slice a9 LE.length c9)
              obtain ⟨a8, c8, e8, hOA⟩ := nots_oat HLE.out RF (cs_one HCS.out.1) (HCS.out.2.ext BBn)
              injection e8 with e8 _ e9
              subst e8
              subst e9
              have KF := hide (KV.ofRow (K6.out.ext BBn) (heap_setCell_same _ _ _ _ _ _ VR))
              have HLF := hide hOA
              clear RF hOA VR VB RR BB BBn
              refine wpAnyH_done (by kernel_rfl) ?_ _
              go_wp2_with fail
              go_meet
              exact ⟨_, _, _, rfl, KF.out, HLF.out⟩
            exact AllReadyH.nil
          exact AllReadyH.nil
        refine held_cons (d := some 6) (i := 9) rfl rfl (fun K hK => ?_) ?_
        · rw [if_pos (by rfl)]
          go_simp
          have bN := alloc_below wl14 (.cells #[.slice none 0 0] 24)
          have Rb := hide (row_ext RR.out bN)
          clear RR
          have RR := hide Rb.out
          clear Rb
          replace NR := (bN.block _ (Array.getElem?_eq_some_iff.1 NR).1).trans NR
          have VR := heap_alloc_last wl14 (.cells #[.slice none 0 0] 24)
          have VB : wA.heap.size ≤ wl14.heap.size := BB.size
          refine hK _ _ (HKS.out _ (Below.chain BB bN)) ?_
          replace BB := Below.chain BB bN
          clear bN hK K hHeld
          have hHeld := HKS.out _ BB
          generalize (wl14.alloc (.cells #[.slice none 0 0] 24)) = wl19 at BB hHeld RR NR VR ⊢
          simp only [Act.put, List.setIfInBounds_toArray, List.set_cons_zero, List.set_cons_succ]
          refine wpAnyH_ready (rs := [3]) (by kernel_rfl) (by simp) ?_
          refine held_cons (d := some 42) (i := 3) rfl rfl (fun K hK => ?_) ?_
          · refine app_step rfl (.tmp 39) (.tmp 41) rfl RR.out (by simp [Act.eval]) (by simp [Act.eval]) (HCS.out.1.ext BB) (by have := HF.out; omega) BB.size ?_
            intro v3 wv oN gN
            have BBn := below_grow BB gN (fun k hk => (RR.out.lt k hk).1) BB.size
            replace NR := (gN.block _ (Array.getElem?_eq_some_iff.1 NR).1 (fun e => NE.out (by simpa [Value.ownBlock] using e))).trans NR
            replace VR := (gN.block _ (Array.getElem?_eq_some_iff.1 VR).1 (not_own RR.out VR)).trans VR
            refine hK _ _ (HKS.out _ BBn) ?_
            clear RR
            have RR := hide oN
            clear oN gN hK K hHeld
            replace BB := BBn
            clear BBn
            have hHeld := HKS.out _ BB
            simp only [Act.put, List.setIfInBounds_toArray, List.set_cons_zero, List.set_cons_succ]
            refine wpAnyH_ready (rs := [7]) (by kernel_rfl) (by simp) ?_
            refine held_cons (d := some 46) (i := 7) rfl rfl (fun K hK => ?_) ?_
            · refine app_step rfl (.tmp 42) (.tmp 45) rfl RR.out (by simp [Act.eval]) (by simp [Act.eval]) (row_csat (n := 2) NR rfl (by decide) nn_one) (by have := HF.out; omega) BB.size ?_
              intro v7 wz oN gN
              have BBn := below_grow BB gN (fun k hk => (RR.out.lt k hk).1) BB.size
              replace VR := (gN.block _ (Array.getElem?_eq_some_iff.1 VR).1 (not_own RR.out VR)).trans VR
              obtain ⟨a9, c9, rfl, _⟩ := nots_oat HLE.out oN (cs_one HCS.out.1) (HCS.out.2.ext BBn)
              refine hK _ _ (HKS.out _ BBn) ?_
              clear RR
              have RR := hide oN
              clear oN gN hK K hHeld NR
              replace BB := BBn
              clear BBn
              have hHeld := HKS.out _ BB
              simp only [Act.put, List.setIfInBounds_toArray, List.set_cons_zero, List.set_cons_succ]
              refine held_take (i := 8) (d := some 47) (v := ?vx20x8) rfl rfl (by kernel_rfl) (by kernel_rfl) (by kernel_rfl) (fun _ _ _ h => h) (by rfl) hHeld ?hyx20x8 ?restx20x8
              case hyx20x8 => (intro w_ hSw; (try dsimp only at hSw); go_simp; try with_reducible rfl)
              simp only [Act.put, List.setIfInBounds_toArray, List.set_cons_zero, List.set_cons_succ]
              refine held_op (i := 10) (d := none) rfl rfl (by kernel_rfl) (fun K hK => ?_)
              rw [if_pos (by rfl)]
              have c9r := (row_reads VR).1 0
              have f9r := (row_reads VR).2 0
              simp only [List.getElem?_toArray, List.getElem?_cons_zero] at c9r
              try simp at c9r
              try simp at f9r
              go_simp
              have BBn := Below.setCell (p := ⟨wl14.heap.size, 0, none⟩) BB VB (.slice a9 LE.length c9)
              refine hK undef _ (HKS.out _ BBn) ?_
              clear hK K hHeld c9r f9r
              have RF := nrow_set RR.out VR (.slice a9 LE.length c9)
              obtain ⟨a8, c8, e8, hOA⟩ := nots_oat HLE.out RF (cs_one HCS.out.1) (HCS.out.2.ext BBn)
              injection e8 with e8 _ e9
              subst e8
              subst e9
              have KF := hide (KV.ofRow (K6.out.ext BBn) (heap_setCell_same _ _ _ _ _ _ VR))
              have HLF := hide hOA
              clear RF hOA VR VB RR BB BBn
              refine wpAnyH_done (by kernel_rfl) ?_ _
              go_wp2_with fail
              go_meet
              exact ⟨_, _, _, rfl, KF.out, HLF.out⟩
            exact AllReadyH.nil
          exact AllReadyH.nil
        exact AllReadyH.nil
      refine held_cons (d := some 6) (i := 9) rfl rfl (fun K hK => ?_) ?_
      · rw [if_pos (by rfl)]
        go_simp
        have bN := alloc_below wl5 (.cells #[.slice none 0 0] 24)
        have Rb := hide (row_ext RR.out bN)
        clear RR
        have RR := hide Rb.out
        clear Rb
        have VR := heap_alloc_last wl5 (.cells #[.slice none 0 0] 24)
        have VB : wA.heap.size ≤ wl5.heap.size := BB.size
        refine hK _ _ (HKS.out _ (Below.chain BB bN)) ?_
        replace BB := Below.chain BB bN
        clear bN hK K hHeld
        have hHeld := HKS.out _ BB
        generalize (wl5.alloc (.cells #[.slice none 0 0] 24)) = wl21 at BB hHeld RR VR ⊢
        simp only [Act.put, List.setIfInBounds_toArray, List.set_cons_zero, List.set_cons_succ]
        refine wpAnyH_ready (rs := [3, 6]) (by kernel_rfl) (by simp) ?_
        refine held_cons (d := some 42) (i := 3) rfl rfl (fun K hK => ?_) ?_
        · refine app_step rfl (.tmp 39) (.tmp 41) rfl RR.out (by simp [Act.eval]) (by simp [Act.eval]) (HCS.out.1.ext BB) (by have := HF.out; omega) BB.size ?_
          intro v3 wv oN gN
          have BBn := below_grow BB gN (fun k hk => (RR.out.lt k hk).1) BB.size
          replace VR := (gN.block _ (Array.getElem?_eq_some_iff.1 VR).1 (not_own RR.out VR)).trans VR
          refine hK _ _ (HKS.out _ BBn) ?_
          clear RR
          have RR := hide oN
          clear oN gN hK K hHeld
          replace BB := BBn
          clear BBn
          have hHeld := HKS.out _ BB
          simp only [Act.put, List.setIfInBounds_toArray, List.set_cons_zero, List.set_cons_succ]
          refine wpAnyH_ready (rs := [6]) (by kernel_rfl) (by simp) ?_
          refine held_cons (d := some 45) (i := 6) rfl rfl (fun K hK => ?_) ?_
          · rw [if_pos (by rfl)]
            go_simp
            have bN := alloc_below wv (.cells #[.int .i64 2, .int .i64 0, .int .i64 0, .string ⟨#[]⟩, .slice none 0 0, .int .i64 1, .int .i64 0, .int .i64 2, .int .i64 0, .int .i64 0, .string ⟨#[]⟩, .slice none 0 0, .int .i64 1, .int .i64 0] 48)
            have R0 := RR
            have Rb := hide (row_ext RR.out bN)
            clear RR
            have RR := hide Rb.out
            clear Rb
            replace VR := (bN.block _ (Array.getElem?_eq_some_iff.1 VR).1).trans VR
            have NR := heap_alloc_last wv (.cells #[.int .i64 2, .int .i64 0, .int .i64 0, .string ⟨#[]⟩, .slice none 0 0, .int .i64 1, .int .i64 0, .int .i64 2, .int .i64 0, .int .i64 0, .string ⟨#[]⟩, .slice none 0 0, .int .i64 1, .int .i64 0] 48)
            refine hK _ _ (HKS.out _ (Below.chain BB bN)) ?_
            replace BB := Below.chain BB bN
            clear bN hK K hHeld
            have hHeld := HKS.out _ BB
            generalize (wv.alloc (.cells #[.int .i64 2, .int .i64 0, .int .i64 0, .string ⟨#[]⟩, .slice none 0 0, .int .i64 1, .int .i64 0, .int .i64 2, .int .i64 0, .int .i64 0, .string ⟨#[]⟩, .slice none 0 0, .int .i64 1, .int .i64 0] 48)) = wl22 at BB hHeld RR NR VR ⊢
            simp only [Act.put, List.setIfInBounds_toArray, List.set_cons_zero, List.set_cons_succ]
            refine wpAnyH_ready (rs := [7]) (by kernel_rfl) (by simp) ?_
            refine held_cons (d := some 46) (i := 7) rfl rfl (fun K hK => ?_) ?_
            · refine app_step rfl (.tmp 42) (.tmp 45) rfl RR.out (by simp [Act.eval]) (by simp [Act.eval]) (row_csat (n := 2) NR rfl (by decide) nn_one) (by have := HF.out; omega) BB.size ?_
              intro v7 wz oN gN
              have BBn := below_grow BB gN (fun k hk => (RR.out.lt k hk).1) BB.size
              replace VR := (gN.block _ (Array.getElem?_eq_some_iff.1 VR).1 (not_own RR.out VR)).trans VR
              obtain ⟨a9, c9, rfl, _⟩ := nots_oat HLE.out oN (cs_one HCS.out.1) (HCS.out.2.ext BBn)
              refine hK _ _ (HKS.out _ BBn) ?_
              clear RR
              have RR := hide oN
              clear oN gN hK K hHeld NR
              replace BB := BBn
              clear BBn
              have hHeld := HKS.out _ BB
              simp only [Act.put, List.setIfInBounds_toArray, List.set_cons_zero, List.set_cons_succ]
              refine held_take (i := 8) (d := some 47) (v := ?vx23x8) rfl rfl (by kernel_rfl) (by kernel_rfl) (by kernel_rfl) (fun _ _ _ h => h) (by rfl) hHeld ?hyx23x8 ?restx23x8
              case hyx23x8 => (intro w_ hSw; (try dsimp only at hSw); go_simp; try with_reducible rfl)
              simp only [Act.put, List.setIfInBounds_toArray, List.set_cons_zero, List.set_cons_succ]
              refine held_op (i := 10) (d := none) rfl rfl (by kernel_rfl) (fun K hK => ?_)
              rw [if_pos (by rfl)]
              have c9r := (row_reads VR).1 0
              have f9r := (row_reads VR).2 0
              simp only [List.getElem?_toArray, List.getElem?_cons_zero] at c9r
              try simp at c9r
              try simp at f9r
              go_simp
              have BBn := Below.setCell (p := ⟨wl5.heap.size, 0, none⟩) BB VB (.slice a9 LE.length c9)
              refine hK undef _ (HKS.out _ BBn) ?_
              clear hK K hHeld c9r f9r
              have RF := nrow_set RR.out VR (.slice a9 LE.length c9)
              obtain ⟨a8, c8, e8, hOA⟩ := nots_oat HLE.out RF (cs_one HCS.out.1) (HCS.out.2.ext BBn)
              injection e8 with e8 _ e9
              subst e8
              subst e9
              have KF := hide (KV.ofRow (K6.out.ext BBn) (heap_setCell_same _ _ _ _ _ _ VR))
              have HLF := hide hOA
              clear RF hOA VR VB RR BB BBn
              refine wpAnyH_done (by kernel_rfl) ?_ _
              go_wp2_with fail
              go_meet
              exact ⟨_, _, _, rfl, KF.out, HLF.out⟩
            exact AllReadyH.nil
          exact AllReadyH.nil
        refine held_cons (d := some 45) (i := 6) rfl rfl (fun K hK => ?_) ?_
        · rw [if_pos (by rfl)]
          go_simp
          have bN := alloc_below wl21 (.cells #[.int .i64 2, .int .i64 0, .int .i64 0, .string ⟨#[]⟩, .slice none 0 0, .int .i64 1, .int .i64 0, .int .i64 2, .int .i64 0, .int .i64 0, .string ⟨#[]⟩, .slice none 0 0, .int .i64 1, .int .i64 0] 48)
          have R0 := RR
          have Rb := hide (row_ext RR.out bN)
          clear RR
          have RR := hide Rb.out
          clear Rb
          replace VR := (bN.block _ (Array.getElem?_eq_some_iff.1 VR).1).trans VR
          have NR := heap_alloc_last wl21 (.cells #[.int .i64 2, .int .i64 0, .int .i64 0, .string ⟨#[]⟩, .slice none 0 0, .int .i64 1, .int .i64 0, .int .i64 2, .int .i64 0, .int .i64 0, .string ⟨#[]⟩, .slice none 0 0, .int .i64 1, .int .i64 0] 48)
          have NE := hide (show ¬ (wl21.heap.size = wl0.heap.size) from fun e => by have hlt : wl0.heap.size < wl21.heap.size := (R0.out.lt _ rfl).2; omega)
          refine hK _ _ (HKS.out _ (Below.chain BB bN)) ?_
          replace BB := Below.chain BB bN
          clear bN hK K hHeld
          have hHeld := HKS.out _ BB
          generalize (wl21.alloc (.cells #[.int .i64 2, .int .i64 0, .int .i64 0, .string ⟨#[]⟩, .slice none 0 0, .int .i64 1, .int .i64 0, .int .i64 2, .int .i64 0, .int .i64 0, .string ⟨#[]⟩, .slice none 0 0, .int .i64 1, .int .i64 0] 48)) = wl24 at BB hHeld RR NR VR ⊢
          simp only [Act.put, List.setIfInBounds_toArray, List.set_cons_zero, List.set_cons_succ]
          refine wpAnyH_ready (rs := [3]) (by kernel_rfl) (by simp) ?_
          refine held_cons (d := some 42) (i := 3) rfl rfl (fun K hK => ?_) ?_
          · refine app_step rfl (.tmp 39) (.tmp 41) rfl RR.out (by simp [Act.eval]) (by simp [Act.eval]) (HCS.out.1.ext BB) (by have := HF.out; omega) BB.size ?_
            intro v3 wv oN gN
            have BBn := below_grow BB gN (fun k hk => (RR.out.lt k hk).1) BB.size
            replace NR := (gN.block _ (Array.getElem?_eq_some_iff.1 NR).1 (fun e => NE.out (by simpa [Value.ownBlock] using e))).trans NR
            replace VR := (gN.block _ (Array.getElem?_eq_some_iff.1 VR).1 (not_own RR.out VR)).trans VR
            refine hK _ _ (HKS.out _ BBn) ?_
            clear RR
            have RR := hide oN
            clear oN gN hK K hHeld
            replace BB := BBn
            clear BBn
            have hHeld := HKS.out _ BB
            simp only [Act.put, List.setIfInBounds_toArray, List.set_cons_zero, List.set_cons_succ]
            refine wpAnyH_ready (rs := [7]) (by kernel_rfl) (by simp) ?_
            refine held_cons (d := some 46) (i := 7) rfl rfl (fun K hK => ?_) ?_
            · refine app_step rfl (.tmp 42) (.tmp 45) rfl RR.out (by simp [Act.eval]) (by simp [Act.eval]) (row_csat (n := 2) NR rfl (by decide) nn_one) (by have := HF.out; omega) BB.size ?_
              intro v7 wz oN gN
              have BBn := below_grow BB gN (fun k hk => (RR.out.lt k hk).1) BB.size
              replace VR := (gN.block _ (Array.getElem?_eq_some_iff.1 VR).1 (not_own RR.out VR)).trans VR
              obtain ⟨a9, c9, rfl, _⟩ := nots_oat HLE.out oN (cs_one HCS.out.1) (HCS.out.2.ext BBn)
              refine hK _ _ (HKS.out _ BBn) ?_
              clear RR
              have RR := hide oN
              clear oN gN hK K hHeld NR
              replace BB := BBn
              clear BBn
              have hHeld := HKS.out _ BB
              simp only [Act.put, List.setIfInBounds_toArray, List.set_cons_zero, List.set_cons_succ]
              refine held_take (i := 8) (d := some 47) (v := ?vx25x8) rfl rfl (by kernel_rfl) (by kernel_rfl) (by kernel_rfl) (fun _ _ _ h => h) (by rfl) hHeld ?hyx25x8 ?restx25x8
              case hyx25x8 => (intro w_ hSw; (try dsimp only at hSw); go_simp; try with_reducible rfl)
              simp only [Act.put, List.setIfInBounds_toArray, List.set_cons_zero, List.set_cons_succ]
              refine held_op (i := 10) (d := none) rfl rfl (by kernel_rfl) (fun K hK => ?_)
              rw [if_pos (by rfl)]
              have c9r := (row_reads VR).1 0
              have f9r := (row_reads VR).2 0
              simp only [List.getElem?_toArray, List.getElem?_cons_zero] at c9r
              try simp at c9r
              try simp at f9r
              go_simp
              have BBn := Below.setCell (p := ⟨wl5.heap.size, 0, none⟩) BB VB (.slice a9 LE.length c9)
              refine hK undef _ (HKS.out _ BBn) ?_
              clear hK K hHeld c9r f9r
              have RF := nrow_set RR.out VR (.slice a9 LE.length c9)
              obtain ⟨a8, c8, e8, hOA⟩ := nots_oat HLE.out RF (cs_one HCS.out.1) (HCS.out.2.ext BBn)
              injection e8 with e8 _ e9
              subst e8
              subst e9
              have KF := hide (KV.ofRow (K6.out.ext BBn) (heap_setCell_same _ _ _ _ _ _ VR))
              have HLF := hide hOA
              clear RF hOA VR VB RR BB BBn
              refine wpAnyH_done (by kernel_rfl) ?_ _
              go_wp2_with fail
              go_meet
              exact ⟨_, _, _, rfl, KF.out, HLF.out⟩
            exact AllReadyH.nil
          exact AllReadyH.nil
        exact AllReadyH.nil
      exact AllReadyH.nil
    refine held_cons (d := some 45) (i := 6) rfl rfl (fun K hK => ?_) ?_
    · rw [if_pos (by rfl)]
      go_simp
      have bN := alloc_below wl0 (.cells #[.int .i64 2, .int .i64 0, .int .i64 0, .string ⟨#[]⟩, .slice none 0 0, .int .i64 1, .int .i64 0, .int .i64 2, .int .i64 0, .int .i64 0, .string ⟨#[]⟩, .slice none 0 0, .int .i64 1, .int .i64 0] 48)
      have NR := heap_alloc_last wl0 (.cells #[.int .i64 2, .int .i64 0, .int .i64 0, .string ⟨#[]⟩, .slice none 0 0, .int .i64 1, .int .i64 0, .int .i64 2, .int .i64 0, .int .i64 0, .string ⟨#[]⟩, .slice none 0 0, .int .i64 1, .int .i64 0] 48)
      refine hK _ _ (HKS.out _ (Below.chain BB bN)) ?_
      replace BB := Below.chain BB bN
      clear bN hK K hHeld
      have hHeld := HKS.out _ BB
      generalize (wl0.alloc (.cells #[.int .i64 2, .int .i64 0, .int .i64 0, .string ⟨#[]⟩, .slice none 0 0, .int .i64 1, .int .i64 0, .int .i64 2, .int .i64 0, .int .i64 0, .string ⟨#[]⟩, .slice none 0 0, .int .i64 1, .int .i64 0] 48)) = wl26 at BB hHeld NR ⊢
      simp only [Act.put, List.setIfInBounds_toArray, List.set_cons_zero, List.set_cons_succ]
      refine wpAnyH_ready (rs := [0, 9]) (by kernel_rfl) (by simp) ?_
      refine held_cons (d := some 39) (i := 0) rfl rfl (fun K hK => ?_) ?_
      · rw [if_pos (by rfl)]
        go_simp
        have bN := alloc_below wl26 (.cells #[] 48)
        have N0 := NR
        replace NR := (bN.block _ (Array.getElem?_eq_some_iff.1 NR).1).trans NR
        have RR := hide (World.ownsRow_made (base := wA.heap.size) (e := 48) (size := 7) wl26 #[] 0 BB.size (by decide) rfl)
        have NE := hide (show ¬ (wl0.heap.size = wl26.heap.size) from fun e => by have hlt : wl0.heap.size < wl26.heap.size := (Array.getElem?_eq_some_iff.1 N0).1; omega)
        refine hK _ _ (HKS.out _ (Below.chain BB bN)) ?_
        replace BB := Below.chain BB bN
        clear bN hK K hHeld
        have hHeld := HKS.out _ BB
        generalize (wl26.alloc (.cells #[] 48)) = wl27 at BB hHeld RR NR ⊢
        simp only [Act.put, List.setIfInBounds_toArray, List.set_cons_zero, List.set_cons_succ]
        refine wpAnyH_ready (rs := [3, 9]) (by kernel_rfl) (by simp) ?_
        refine held_cons (d := some 42) (i := 3) rfl rfl (fun K hK => ?_) ?_
        · refine app_step rfl (.tmp 39) (.tmp 41) rfl RR.out (by simp [Act.eval]) (by simp [Act.eval]) (HCS.out.1.ext BB) (by have := HF.out; omega) BB.size ?_
          intro v3 wv oN gN
          have BBn := below_grow BB gN (fun k hk => (RR.out.lt k hk).1) BB.size
          replace NR := (gN.block _ (Array.getElem?_eq_some_iff.1 NR).1 (fun e => NE.out (by simpa [Value.ownBlock] using e))).trans NR
          refine hK _ _ (HKS.out _ BBn) ?_
          clear RR
          have RR := hide oN
          clear oN gN hK K hHeld
          replace BB := BBn
          clear BBn
          have hHeld := HKS.out _ BB
          simp only [Act.put, List.setIfInBounds_toArray, List.set_cons_zero, List.set_cons_succ]
          refine wpAnyH_ready (rs := [7, 9]) (by kernel_rfl) (by simp) ?_
          refine held_cons (d := some 46) (i := 7) rfl rfl (fun K hK => ?_) ?_
          · refine app_step rfl (.tmp 42) (.tmp 45) rfl RR.out (by simp [Act.eval]) (by simp [Act.eval]) (row_csat (n := 2) NR rfl (by decide) nn_one) (by have := HF.out; omega) BB.size ?_
            intro v7 wz oN gN
            have BBn := below_grow BB gN (fun k hk => (RR.out.lt k hk).1) BB.size
            obtain ⟨a9, c9, rfl, _⟩ := nots_oat HLE.out oN (cs_one HCS.out.1) (HCS.out.2.ext BBn)
            refine hK _ _ (HKS.out _ BBn) ?_
            clear RR
            have RR := hide oN
            clear oN gN hK K hHeld NR
            replace BB := BBn
            clear BBn
            have hHeld := HKS.out _ BB
            simp only [Act.put, List.setIfInBounds_toArray, List.set_cons_zero, List.set_cons_succ]
            refine held_take (i := 8) (d := some 47) (v := ?vx28x8) rfl rfl (by kernel_rfl) (by kernel_rfl) (by kernel_rfl) (fun _ _ _ h => h) (by rfl) hHeld ?hyx28x8 ?restx28x8
            case hyx28x8 => (intro w_ hSw; (try dsimp only at hSw); go_simp; try with_reducible rfl)
            simp only [Act.put, List.setIfInBounds_toArray, List.set_cons_zero, List.set_cons_succ]
            refine wpAnyH_ready (rs := [9]) (by kernel_rfl) (by simp) ?_
            refine held_cons (d := some 6) (i := 9) rfl rfl (fun K hK => ?_) ?_
            · rw [if_pos (by rfl)]
              go_simp
              have bN := alloc_below wz (.cells #[.slice none 0 0] 24)
              have Rb := hide (row_ext RR.out bN)
              clear RR
              have RR := hide Rb.out
              clear Rb
              have VR := heap_alloc_last wz (.cells #[.slice none 0 0] 24)
              have VB : wA.heap.size ≤ wz.heap.size := BB.size
              refine hK _ _ (HKS.out _ (Below.chain BB bN)) ?_
              replace BB := Below.chain BB bN
              clear bN hK K hHeld
              have hHeld := HKS.out _ BB
              generalize (wz.alloc (.cells #[.slice none 0 0] 24)) = wl29 at BB hHeld RR VR ⊢
              simp only [Act.put, List.setIfInBounds_toArray, List.set_cons_zero, List.set_cons_succ]
              refine held_op (i := 10) (d := none) rfl rfl (by kernel_rfl) (fun K hK => ?_)
              rw [if_pos (by rfl)]
              have c9r := (row_reads VR).1 0
              have f9r := (row_reads VR).2 0
              simp only [List.getElem?_toArray, List.getElem?_cons_zero] at c9r
              try simp at c9r
              try simp at f9r
              go_simp
              have BBn := Below.setCell (p := ⟨wz.heap.size, 0, none⟩) BB VB (.slice a9 LE.length c9)
              refine hK undef _ (HKS.out _ BBn) ?_
              clear hK K hHeld c9r f9r
              have RF := nrow_set RR.out VR (.slice a9 LE.length c9)
              obtain ⟨a8, c8, e8, hOA⟩ := nots_oat HLE.out RF (cs_one HCS.out.1) (HCS.out.2.ext BBn)
              injection e8 with e8 _ e9
              subst e8
              subst e9
              have KF := hide (KV.ofRow (K6.out.ext BBn) (heap_setCell_same _ _ _ _ _ _ VR))
              have HLF := hide hOA
              clear RF hOA VR VB RR BB BBn
              refine wpAnyH_done (by kernel_rfl) ?_ _
              go_wp2_with fail
              go_meet
              exact ⟨_, _, _, rfl, KF.out, HLF.out⟩
            exact AllReadyH.nil
          refine held_cons (d := some 6) (i := 9) rfl rfl (fun K hK => ?_) ?_
          · rw [if_pos (by rfl)]
            go_simp
            have bN := alloc_below wv (.cells #[.slice none 0 0] 24)
            have Rb := hide (row_ext RR.out bN)
            clear RR
            have RR := hide Rb.out
            clear Rb
            replace NR := (bN.block _ (Array.getElem?_eq_some_iff.1 NR).1).trans NR
            have VR := heap_alloc_last wv (.cells #[.slice none 0 0] 24)
            have VB : wA.heap.size ≤ wv.heap.size := BB.size
            refine hK _ _ (HKS.out _ (Below.chain BB bN)) ?_
            replace BB := Below.chain BB bN
            clear bN hK K hHeld
            have hHeld := HKS.out _ BB
            generalize (wv.alloc (.cells #[.slice none 0 0] 24)) = wl30 at BB hHeld RR NR VR ⊢
            simp only [Act.put, List.setIfInBounds_toArray, List.set_cons_zero, List.set_cons_succ]
            refine wpAnyH_ready (rs := [7]) (by kernel_rfl) (by simp) ?_
            refine held_cons (d := some 46) (i := 7) rfl rfl (fun K hK => ?_) ?_
            · refine app_step rfl (.tmp 42) (.tmp 45) rfl RR.out (by simp [Act.eval]) (by simp [Act.eval]) (row_csat (n := 2) NR rfl (by decide) nn_one) (by have := HF.out; omega) BB.size ?_
              intro v7 wz oN gN
              have BBn := below_grow BB gN (fun k hk => (RR.out.lt k hk).1) BB.size
              replace VR := (gN.block _ (Array.getElem?_eq_some_iff.1 VR).1 (not_own RR.out VR)).trans VR
              obtain ⟨a9, c9, rfl, _⟩ := nots_oat HLE.out oN (cs_one HCS.out.1) (HCS.out.2.ext BBn)
              refine hK _ _ (HKS.out _ BBn) ?_
              clear RR
              have RR := hide oN
              clear oN gN hK K hHeld NR
              replace BB := BBn
              clear BBn
              have hHeld := HKS.out _ BB
              simp only [Act.put, List.setIfInBounds_toArray, List.set_cons_zero, List.set_cons_succ]
              refine held_take (i := 8) (d := some 47) (v := ?vx31x8) rfl rfl (by kernel_rfl) (by kernel_rfl) (by kernel_rfl) (fun _ _ _ h => h) (by rfl) hHeld ?hyx31x8 ?restx31x8
              case hyx31x8 => (intro w_ hSw; (try dsimp only at hSw); go_simp; try with_reducible rfl)
              simp only [Act.put, List.setIfInBounds_toArray, List.set_cons_zero, List.set_cons_succ]
              refine held_op (i := 10) (d := none) rfl rfl (by kernel_rfl) (fun K hK => ?_)
              rw [if_pos (by rfl)]
              have c9r := (row_reads VR).1 0
              have f9r := (row_reads VR).2 0
              simp only [List.getElem?_toArray, List.getElem?_cons_zero] at c9r
              try simp at c9r
              try simp at f9r
              go_simp
              have BBn := Below.setCell (p := ⟨wv.heap.size, 0, none⟩) BB VB (.slice a9 LE.length c9)
              refine hK undef _ (HKS.out _ BBn) ?_
              clear hK K hHeld c9r f9r
              have RF := nrow_set RR.out VR (.slice a9 LE.length c9)
              obtain ⟨a8, c8, e8, hOA⟩ := nots_oat HLE.out RF (cs_one HCS.out.1) (HCS.out.2.ext BBn)
              injection e8 with e8 _ e9
              subst e8
              subst e9
              have KF := hide (KV.ofRow (K6.out.ext BBn) (heap_setCell_same _ _ _ _ _ _ VR))
              have HLF := hide hOA
              clear RF hOA VR VB RR BB BBn
              refine wpAnyH_done (by kernel_rfl) ?_ _
              go_wp2_with fail
              go_meet
              exact ⟨_, _, _, rfl, KF.out, HLF.out⟩
            exact AllReadyH.nil
          exact AllReadyH.nil
        refine held_cons (d := some 6) (i := 9) rfl rfl (fun K hK => ?_) ?_
        · rw [if_pos (by rfl)]
          go_simp
          have bN := alloc_below wl27 (.cells #[.slice none 0 0] 24)
          have Rb := hide (row_ext RR.out bN)
          clear RR
          have RR := hide Rb.out
          clear Rb
          replace NR := (bN.block _ (Array.getElem?_eq_some_iff.1 NR).1).trans NR
          have VR := heap_alloc_last wl27 (.cells #[.slice none 0 0] 24)
          have VB : wA.heap.size ≤ wl27.heap.size := BB.size
          refine hK _ _ (HKS.out _ (Below.chain BB bN)) ?_
          replace BB := Below.chain BB bN
          clear bN hK K hHeld
          have hHeld := HKS.out _ BB
          generalize (wl27.alloc (.cells #[.slice none 0 0] 24)) = wl32 at BB hHeld RR NR VR ⊢
          simp only [Act.put, List.setIfInBounds_toArray, List.set_cons_zero, List.set_cons_succ]
          refine wpAnyH_ready (rs := [3]) (by kernel_rfl) (by simp) ?_
          refine held_cons (d := some 42) (i := 3) rfl rfl (fun K hK => ?_) ?_
          · refine app_step rfl (.tmp 39) (.tmp 41) rfl RR.out (by simp [Act.eval]) (by simp [Act.eval]) (HCS.out.1.ext BB) (by have := HF.out; omega) BB.size ?_
            intro v3 wv oN gN
            have BBn := below_grow BB gN (fun k hk => (RR.out.lt k hk).1) BB.size
            replace NR := (gN.block _ (Array.getElem?_eq_some_iff.1 NR).1 (fun e => NE.out (by simpa [Value.ownBlock] using e))).trans NR
            replace VR := (gN.block _ (Array.getElem?_eq_some_iff.1 VR).1 (not_own RR.out VR)).trans VR
            refine hK _ _ (HKS.out _ BBn) ?_
            clear RR
            have RR := hide oN
            clear oN gN hK K hHeld
            replace BB := BBn
            clear BBn
            have hHeld := HKS.out _ BB
            simp only [Act.put, List.setIfInBounds_toArray, List.set_cons_zero, List.set_cons_succ]
            refine wpAnyH_ready (rs := [7]) (by kernel_rfl) (by simp) ?_
            refine held_cons (d := some 46) (i := 7) rfl rfl (fun K hK => ?_) ?_
            · refine app_step rfl (.tmp 42) (.tmp 45) rfl RR.out (by simp [Act.eval]) (by simp [Act.eval]) (row_csat (n := 2) NR rfl (by decide) nn_one) (by have := HF.out; omega) BB.size ?_
              intro v7 wz oN gN
              have BBn := below_grow BB gN (fun k hk => (RR.out.lt k hk).1) BB.size
              replace VR := (gN.block _ (Array.getElem?_eq_some_iff.1 VR).1 (not_own RR.out VR)).trans VR
              obtain ⟨a9, c9, rfl, _⟩ := nots_oat HLE.out oN (cs_one HCS.out.1) (HCS.out.2.ext BBn)
              refine hK _ _ (HKS.out _ BBn) ?_
              clear RR
              have RR := hide oN
              clear oN gN hK K hHeld NR
              replace BB := BBn
              clear BBn
              have hHeld := HKS.out _ BB
              simp only [Act.put, List.setIfInBounds_toArray, List.set_cons_zero, List.set_cons_succ]
              refine held_take (i := 8) (d := some 47) (v := ?vx33x8) rfl rfl (by kernel_rfl) (by kernel_rfl) (by kernel_rfl) (fun _ _ _ h => h) (by rfl) hHeld ?hyx33x8 ?restx33x8
              case hyx33x8 => (intro w_ hSw; (try dsimp only at hSw); go_simp; try with_reducible rfl)
              simp only [Act.put, List.setIfInBounds_toArray, List.set_cons_zero, List.set_cons_succ]
              refine held_op (i := 10) (d := none) rfl rfl (by kernel_rfl) (fun K hK => ?_)
              rw [if_pos (by rfl)]
              have c9r := (row_reads VR).1 0
              have f9r := (row_reads VR).2 0
              simp only [List.getElem?_toArray, List.getElem?_cons_zero] at c9r
              try simp at c9r
              try simp at f9r
              go_simp
              have BBn := Below.setCell (p := ⟨wl27.heap.size, 0, none⟩) BB VB (.slice a9 LE.length c9)
              refine hK undef _ (HKS.out _ BBn) ?_
              clear hK K hHeld c9r f9r
              have RF := nrow_set RR.out VR (.slice a9 LE.length c9)
              obtain ⟨a8, c8, e8, hOA⟩ := nots_oat HLE.out RF (cs_one HCS.out.1) (HCS.out.2.ext BBn)
              injection e8 with e8 _ e9
              subst e8
              subst e9
              have KF := hide (KV.ofRow (K6.out.ext BBn) (heap_setCell_same _ _ _ _ _ _ VR))
              have HLF := hide hOA
              clear RF hOA VR VB RR BB BBn
              refine wpAnyH_done (by kernel_rfl) ?_ _
              go_wp2_with fail
              go_meet
              exact ⟨_, _, _, rfl, KF.out, HLF.out⟩
            exact AllReadyH.nil
          exact AllReadyH.nil
        exact AllReadyH.nil
      refine held_cons (d := some 6) (i := 9) rfl rfl (fun K hK => ?_) ?_
      · rw [if_pos (by rfl)]
        go_simp
        have bN := alloc_below wl26 (.cells #[.slice none 0 0] 24)
        replace NR := (bN.block _ (Array.getElem?_eq_some_iff.1 NR).1).trans NR
        have VR := heap_alloc_last wl26 (.cells #[.slice none 0 0] 24)
        have VB : wA.heap.size ≤ wl26.heap.size := BB.size
        refine hK _ _ (HKS.out _ (Below.chain BB bN)) ?_
        replace BB := Below.chain BB bN
        clear bN hK K hHeld
        have hHeld := HKS.out _ BB
        generalize (wl26.alloc (.cells #[.slice none 0 0] 24)) = wl34 at BB hHeld NR VR ⊢
        simp only [Act.put, List.setIfInBounds_toArray, List.set_cons_zero, List.set_cons_succ]
        refine wpAnyH_ready (rs := [0]) (by kernel_rfl) (by simp) ?_
        refine held_cons (d := some 39) (i := 0) rfl rfl (fun K hK => ?_) ?_
        · rw [if_pos (by rfl)]
          go_simp
          have bN := alloc_below wl34 (.cells #[] 48)
          have N0 := NR
          replace NR := (bN.block _ (Array.getElem?_eq_some_iff.1 NR).1).trans NR
          replace VR := (bN.block _ (Array.getElem?_eq_some_iff.1 VR).1).trans VR
          have RR := hide (World.ownsRow_made (base := wA.heap.size) (e := 48) (size := 7) wl34 #[] 0 BB.size (by decide) rfl)
          have NE := hide (show ¬ (wl0.heap.size = wl34.heap.size) from fun e => by have hlt : wl0.heap.size < wl34.heap.size := (Array.getElem?_eq_some_iff.1 N0).1; omega)
          refine hK _ _ (HKS.out _ (Below.chain BB bN)) ?_
          replace BB := Below.chain BB bN
          clear bN hK K hHeld
          have hHeld := HKS.out _ BB
          generalize (wl34.alloc (.cells #[] 48)) = wl35 at BB hHeld RR NR VR ⊢
          simp only [Act.put, List.setIfInBounds_toArray, List.set_cons_zero, List.set_cons_succ]
          refine wpAnyH_ready (rs := [3]) (by kernel_rfl) (by simp) ?_
          refine held_cons (d := some 42) (i := 3) rfl rfl (fun K hK => ?_) ?_
          · refine app_step rfl (.tmp 39) (.tmp 41) rfl RR.out (by simp [Act.eval]) (by simp [Act.eval]) (HCS.out.1.ext BB) (by have := HF.out; omega) BB.size ?_
            intro v3 wv oN gN
            have BBn := below_grow BB gN (fun k hk => (RR.out.lt k hk).1) BB.size
            replace NR := (gN.block _ (Array.getElem?_eq_some_iff.1 NR).1 (fun e => NE.out (by simpa [Value.ownBlock] using e))).trans NR
            replace VR := (gN.block _ (Array.getElem?_eq_some_iff.1 VR).1 (not_own RR.out VR)).trans VR
            refine hK _ _ (HKS.out _ BBn) ?_
            clear RR
            have RR := hide oN
            clear oN gN hK K hHeld
            replace BB := BBn
            clear BBn
            have hHeld := HKS.out _ BB
            simp only [Act.put, List.setIfInBounds_toArray, List.set_cons_zero, List.set_cons_succ]
            refine wpAnyH_ready (rs := [7]) (by kernel_rfl) (by simp) ?_
            refine held_cons (d := some 46) (i := 7) rfl rfl (fun K hK => ?_) ?_
            · refine app_step rfl (.tmp 42) (.tmp 45) rfl RR.out (by simp [Act.eval]) (by simp [Act.eval]) (row_csat (n := 2) NR rfl (by decide) nn_one) (by have := HF.out; omega) BB.size ?_
              intro v7 wz oN gN
              have BBn := below_grow BB gN (fun k hk => (RR.out.lt k hk).1) BB.size
              replace VR := (gN.block _ (Array.getElem?_eq_some_iff.1 VR).1 (not_own RR.out VR)).trans VR
              obtain ⟨a9, c9, rfl, _⟩ := nots_oat HLE.out oN (cs_one HCS.out.1) (HCS.out.2.ext BBn)
              refine hK _ _ (HKS.out _ BBn) ?_
              clear RR
              have RR := hide oN
              clear oN gN hK K hHeld NR
              replace BB := BBn
              clear BBn
              have hHeld := HKS.out _ BB
              simp only [Act.put, List.setIfInBounds_toArray, List.set_cons_zero, List.set_cons_succ]
              refine held_take (i := 8) (d := some 47) (v := ?vx36x8) rfl rfl (by kernel_rfl) (by kernel_rfl) (by kernel_rfl) (fun _ _ _ h => h) (by rfl) hHeld ?hyx36x8 ?restx36x8
              case hyx36x8 => (intro w_ hSw; (try dsimp only at hSw); go_simp; try with_reducible rfl)
              simp only [Act.put, List.setIfInBounds_toArray, List.set_cons_zero, List.set_cons_succ]
              refine held_op (i := 10) (d := none) rfl rfl (by kernel_rfl) (fun K hK => ?_)
              rw [if_pos (by rfl)]
              have c9r := (row_reads VR).1 0
              have f9r := (row_reads VR).2 0
              simp only [List.getElem?_toArray, List.getElem?_cons_zero] at c9r
              try simp at c9r
              try simp at f9r
              go_simp
              have BBn := Below.setCell (p := ⟨wl26.heap.size, 0, none⟩) BB VB (.slice a9 LE.length c9)
              refine hK undef _ (HKS.out _ BBn) ?_
              clear hK K hHeld c9r f9r
              have RF := nrow_set RR.out VR (.slice a9 LE.length c9)
              obtain ⟨a8, c8, e8, hOA⟩ := nots_oat HLE.out RF (cs_one HCS.out.1) (HCS.out.2.ext BBn)
              injection e8 with e8 _ e9
              subst e8
              subst e9
              have KF := hide (KV.ofRow (K6.out.ext BBn) (heap_setCell_same _ _ _ _ _ _ VR))
              have HLF := hide hOA
              clear RF hOA VR VB RR BB BBn
              refine wpAnyH_done (by kernel_rfl) ?_ _
              go_wp2_with fail
              go_meet
              exact ⟨_, _, _, rfl, KF.out, HLF.out⟩
            exact AllReadyH.nil
          exact AllReadyH.nil
        exact AllReadyH.nil
      exact AllReadyH.nil
    refine held_cons (d := some 6) (i := 9) rfl rfl (fun K hK => ?_) ?_
    · rw [if_pos (by rfl)]
      go_simp
      have bN := alloc_below wl0 (.cells #[.slice none 0 0] 24)
      have VR := heap_alloc_last wl0 (.cells #[.slice none 0 0] 24)
      have VB : wA.heap.size ≤ wl0.heap.size := BB.size
      refine hK _ _ (HKS.out _ (Below.chain BB bN)) ?_
      replace BB := Below.chain BB bN
      clear bN hK K hHeld
      have hHeld := HKS.out _ BB
      generalize (wl0.alloc (.cells #[.slice none 0 0] 24)) = wl37 at BB hHeld VR ⊢
      simp only [Act.put, List.setIfInBounds_toArray, List.set_cons_zero, List.set_cons_succ]
      refine wpAnyH_ready (rs := [0, 6]) (by kernel_rfl) (by simp) ?_
      refine held_cons (d := some 39) (i := 0) rfl rfl (fun K hK => ?_) ?_
      · rw [if_pos (by rfl)]
        go_simp
        have bN := alloc_below wl37 (.cells #[] 48)
        replace VR := (bN.block _ (Array.getElem?_eq_some_iff.1 VR).1).trans VR
        have RR := hide (World.ownsRow_made (base := wA.heap.size) (e := 48) (size := 7) wl37 #[] 0 BB.size (by decide) rfl)
        refine hK _ _ (HKS.out _ (Below.chain BB bN)) ?_
        replace BB := Below.chain BB bN
        clear bN hK K hHeld
        have hHeld := HKS.out _ BB
        generalize (wl37.alloc (.cells #[] 48)) = wl38 at BB hHeld RR VR ⊢
        simp only [Act.put, List.setIfInBounds_toArray, List.set_cons_zero, List.set_cons_succ]
        refine wpAnyH_ready (rs := [3, 6]) (by kernel_rfl) (by simp) ?_
        refine held_cons (d := some 42) (i := 3) rfl rfl (fun K hK => ?_) ?_
        · refine app_step rfl (.tmp 39) (.tmp 41) rfl RR.out (by simp [Act.eval]) (by simp [Act.eval]) (HCS.out.1.ext BB) (by have := HF.out; omega) BB.size ?_
          intro v3 wv oN gN
          have BBn := below_grow BB gN (fun k hk => (RR.out.lt k hk).1) BB.size
          replace VR := (gN.block _ (Array.getElem?_eq_some_iff.1 VR).1 (not_own RR.out VR)).trans VR
          refine hK _ _ (HKS.out _ BBn) ?_
          clear RR
          have RR := hide oN
          clear oN gN hK K hHeld
          replace BB := BBn
          clear BBn
          have hHeld := HKS.out _ BB
          simp only [Act.put, List.setIfInBounds_toArray, List.set_cons_zero, List.set_cons_succ]
          refine wpAnyH_ready (rs := [6]) (by kernel_rfl) (by simp) ?_
          refine held_cons (d := some 45) (i := 6) rfl rfl (fun K hK => ?_) ?_
          · rw [if_pos (by rfl)]
            go_simp
            have bN := alloc_below wv (.cells #[.int .i64 2, .int .i64 0, .int .i64 0, .string ⟨#[]⟩, .slice none 0 0, .int .i64 1, .int .i64 0, .int .i64 2, .int .i64 0, .int .i64 0, .string ⟨#[]⟩, .slice none 0 0, .int .i64 1, .int .i64 0] 48)
            have R0 := RR
            have Rb := hide (row_ext RR.out bN)
            clear RR
            have RR := hide Rb.out
            clear Rb
            replace VR := (bN.block _ (Array.getElem?_eq_some_iff.1 VR).1).trans VR
            have NR := heap_alloc_last wv (.cells #[.int .i64 2, .int .i64 0, .int .i64 0, .string ⟨#[]⟩, .slice none 0 0, .int .i64 1, .int .i64 0, .int .i64 2, .int .i64 0, .int .i64 0, .string ⟨#[]⟩, .slice none 0 0, .int .i64 1, .int .i64 0] 48)
            refine hK _ _ (HKS.out _ (Below.chain BB bN)) ?_
            replace BB := Below.chain BB bN
            clear bN hK K hHeld
            have hHeld := HKS.out _ BB
            generalize (wv.alloc (.cells #[.int .i64 2, .int .i64 0, .int .i64 0, .string ⟨#[]⟩, .slice none 0 0, .int .i64 1, .int .i64 0, .int .i64 2, .int .i64 0, .int .i64 0, .string ⟨#[]⟩, .slice none 0 0, .int .i64 1, .int .i64 0] 48)) = wl39 at BB hHeld RR NR VR ⊢
            simp only [Act.put, List.setIfInBounds_toArray, List.set_cons_zero, List.set_cons_succ]
            refine wpAnyH_ready (rs := [7]) (by kernel_rfl) (by simp) ?_
            refine held_cons (d := some 46) (i := 7) rfl rfl (fun K hK => ?_) ?_
            · refine app_step rfl (.tmp 42) (.tmp 45) rfl RR.out (by simp [Act.eval]) (by simp [Act.eval]) (row_csat (n := 2) NR rfl (by decide) nn_one) (by have := HF.out; omega) BB.size ?_
              intro v7 wz oN gN
              have BBn := below_grow BB gN (fun k hk => (RR.out.lt k hk).1) BB.size
              replace VR := (gN.block _ (Array.getElem?_eq_some_iff.1 VR).1 (not_own RR.out VR)).trans VR
              obtain ⟨a9, c9, rfl, _⟩ := nots_oat HLE.out oN (cs_one HCS.out.1) (HCS.out.2.ext BBn)
              refine hK _ _ (HKS.out _ BBn) ?_
              clear RR
              have RR := hide oN
              clear oN gN hK K hHeld NR
              replace BB := BBn
              clear BBn
              have hHeld := HKS.out _ BB
              simp only [Act.put, List.setIfInBounds_toArray, List.set_cons_zero, List.set_cons_succ]
              refine held_take (i := 8) (d := some 47) (v := ?vx40x8) rfl rfl (by kernel_rfl) (by kernel_rfl) (by kernel_rfl) (fun _ _ _ h => h) (by rfl) hHeld ?hyx40x8 ?restx40x8
              case hyx40x8 => (intro w_ hSw; (try dsimp only at hSw); go_simp; try with_reducible rfl)
              simp only [Act.put, List.setIfInBounds_toArray, List.set_cons_zero, List.set_cons_succ]
              refine held_op (i := 10) (d := none) rfl rfl (by kernel_rfl) (fun K hK => ?_)
              rw [if_pos (by rfl)]
              have c9r := (row_reads VR).1 0
              have f9r := (row_reads VR).2 0
              simp only [List.getElem?_toArray, List.getElem?_cons_zero] at c9r
              try simp at c9r
              try simp at f9r
              go_simp
              have BBn := Below.setCell (p := ⟨wl0.heap.size, 0, none⟩) BB VB (.slice a9 LE.length c9)
              refine hK undef _ (HKS.out _ BBn) ?_
              clear hK K hHeld c9r f9r
              have RF := nrow_set RR.out VR (.slice a9 LE.length c9)
              obtain ⟨a8, c8, e8, hOA⟩ := nots_oat HLE.out RF (cs_one HCS.out.1) (HCS.out.2.ext BBn)
              injection e8 with e8 _ e9
              subst e8
              subst e9
              have KF := hide (KV.ofRow (K6.out.ext BBn) (heap_setCell_same _ _ _ _ _ _ VR))
              have HLF := hide hOA
              clear RF hOA VR VB RR BB BBn
              refine wpAnyH_done (by kernel_rfl) ?_ _
              go_wp2_with fail
              go_meet
              exact ⟨_, _, _, rfl, KF.out, HLF.out⟩
            exact AllReadyH.nil
          exact AllReadyH.nil
        refine held_cons (d := some 45) (i := 6) rfl rfl (fun K hK => ?_) ?_
        · rw [if_pos (by rfl)]
          go_simp
          have bN := alloc_below wl38 (.cells #[.int .i64 2, .int .i64 0, .int .i64 0, .string ⟨#[]⟩, .slice none 0 0, .int .i64 1, .int .i64 0, .int .i64 2, .int .i64 0, .int .i64 0, .string ⟨#[]⟩, .slice none 0 0, .int .i64 1, .int .i64 0] 48)
          have R0 := RR
          have Rb := hide (row_ext RR.out bN)
          clear RR
          have RR := hide Rb.out
          clear Rb
          replace VR := (bN.block _ (Array.getElem?_eq_some_iff.1 VR).1).trans VR
          have NR := heap_alloc_last wl38 (.cells #[.int .i64 2, .int .i64 0, .int .i64 0, .string ⟨#[]⟩, .slice none 0 0, .int .i64 1, .int .i64 0, .int .i64 2, .int .i64 0, .int .i64 0, .string ⟨#[]⟩, .slice none 0 0, .int .i64 1, .int .i64 0] 48)
          have NE := hide (show ¬ (wl38.heap.size = wl37.heap.size) from fun e => by have hlt : wl37.heap.size < wl38.heap.size := (R0.out.lt _ rfl).2; omega)
          refine hK _ _ (HKS.out _ (Below.chain BB bN)) ?_
          replace BB := Below.chain BB bN
          clear bN hK K hHeld
          have hHeld := HKS.out _ BB
          generalize (wl38.alloc (.cells #[.int .i64 2, .int .i64 0, .int .i64 0, .string ⟨#[]⟩, .slice none 0 0, .int .i64 1, .int .i64 0, .int .i64 2, .int .i64 0, .int .i64 0, .string ⟨#[]⟩, .slice none 0 0, .int .i64 1, .int .i64 0] 48)) = wl41 at BB hHeld RR NR VR ⊢
          simp only [Act.put, List.setIfInBounds_toArray, List.set_cons_zero, List.set_cons_succ]
          refine wpAnyH_ready (rs := [3]) (by kernel_rfl) (by simp) ?_
          refine held_cons (d := some 42) (i := 3) rfl rfl (fun K hK => ?_) ?_
          · refine app_step rfl (.tmp 39) (.tmp 41) rfl RR.out (by simp [Act.eval]) (by simp [Act.eval]) (HCS.out.1.ext BB) (by have := HF.out; omega) BB.size ?_
            intro v3 wv oN gN
            have BBn := below_grow BB gN (fun k hk => (RR.out.lt k hk).1) BB.size
            replace NR := (gN.block _ (Array.getElem?_eq_some_iff.1 NR).1 (fun e => NE.out (by simpa [Value.ownBlock] using e))).trans NR
            replace VR := (gN.block _ (Array.getElem?_eq_some_iff.1 VR).1 (not_own RR.out VR)).trans VR
            refine hK _ _ (HKS.out _ BBn) ?_
            clear RR
            have RR := hide oN
            clear oN gN hK K hHeld
            replace BB := BBn
            clear BBn
            have hHeld := HKS.out _ BB
            simp only [Act.put, List.setIfInBounds_toArray, List.set_cons_zero, List.set_cons_succ]
            refine wpAnyH_ready (rs := [7]) (by kernel_rfl) (by simp) ?_
            refine held_cons (d := some 46) (i := 7) rfl rfl (fun K hK => ?_) ?_
            · refine app_step rfl (.tmp 42) (.tmp 45) rfl RR.out (by simp [Act.eval]) (by simp [Act.eval]) (row_csat (n := 2) NR rfl (by decide) nn_one) (by have := HF.out; omega) BB.size ?_
              intro v7 wz oN gN
              have BBn := below_grow BB gN (fun k hk => (RR.out.lt k hk).1) BB.size
              replace VR := (gN.block _ (Array.getElem?_eq_some_iff.1 VR).1 (not_own RR.out VR)).trans VR
              obtain ⟨a9, c9, rfl, _⟩ := nots_oat HLE.out oN (cs_one HCS.out.1) (HCS.out.2.ext BBn)
              refine hK _ _ (HKS.out _ BBn) ?_
              clear RR
              have RR := hide oN
              clear oN gN hK K hHeld NR
              replace BB := BBn
              clear BBn
              have hHeld := HKS.out _ BB
              simp only [Act.put, List.setIfInBounds_toArray, List.set_cons_zero, List.set_cons_succ]
              refine held_take (i := 8) (d := some 47) (v := ?vx42x8) rfl rfl (by kernel_rfl) (by kernel_rfl) (by kernel_rfl) (fun _ _ _ h => h) (by rfl) hHeld ?hyx42x8 ?restx42x8
              case hyx42x8 => (intro w_ hSw; (try dsimp only at hSw); go_simp; try with_reducible rfl)
              simp only [Act.put, List.setIfInBounds_toArray, List.set_cons_zero, List.set_cons_succ]
              refine held_op (i := 10) (d := none) rfl rfl (by kernel_rfl) (fun K hK => ?_)
              rw [if_pos (by rfl)]
              have c9r := (row_reads VR).1 0
              have f9r := (row_reads VR).2 0
              simp only [List.getElem?_toArray, List.getElem?_cons_zero] at c9r
              try simp at c9r
              try simp at f9r
              go_simp
              have BBn := Below.setCell (p := ⟨wl0.heap.size, 0, none⟩) BB VB (.slice a9 LE.length c9)
              refine hK undef _ (HKS.out _ BBn) ?_
              clear hK K hHeld c9r f9r
              have RF := nrow_set RR.out VR (.slice a9 LE.length c9)
              obtain ⟨a8, c8, e8, hOA⟩ := nots_oat HLE.out RF (cs_one HCS.out.1) (HCS.out.2.ext BBn)
              injection e8 with e8 _ e9
              subst e8
              subst e9
              have KF := hide (KV.ofRow (K6.out.ext BBn) (heap_setCell_same _ _ _ _ _ _ VR))
              have HLF := hide hOA
              clear RF hOA VR VB RR BB BBn
              refine wpAnyH_done (by kernel_rfl) ?_ _
              go_wp2_with fail
              go_meet
              exact ⟨_, _, _, rfl, KF.out, HLF.out⟩
            exact AllReadyH.nil
          exact AllReadyH.nil
        exact AllReadyH.nil
      refine held_cons (d := some 45) (i := 6) rfl rfl (fun K hK => ?_) ?_
      · rw [if_pos (by rfl)]
        go_simp
        have bN := alloc_below wl37 (.cells #[.int .i64 2, .int .i64 0, .int .i64 0, .string ⟨#[]⟩, .slice none 0 0, .int .i64 1, .int .i64 0, .int .i64 2, .int .i64 0, .int .i64 0, .string ⟨#[]⟩, .slice none 0 0, .int .i64 1, .int .i64 0] 48)
        replace VR := (bN.block _ (Array.getElem?_eq_some_iff.1 VR).1).trans VR
        have NR := heap_alloc_last wl37 (.cells #[.int .i64 2, .int .i64 0, .int .i64 0, .string ⟨#[]⟩, .slice none 0 0, .int .i64 1, .int .i64 0, .int .i64 2, .int .i64 0, .int .i64 0, .string ⟨#[]⟩, .slice none 0 0, .int .i64 1, .int .i64 0] 48)
        refine hK _ _ (HKS.out _ (Below.chain BB bN)) ?_
        replace BB := Below.chain BB bN
        clear bN hK K hHeld
        have hHeld := HKS.out _ BB
        generalize (wl37.alloc (.cells #[.int .i64 2, .int .i64 0, .int .i64 0, .string ⟨#[]⟩, .slice none 0 0, .int .i64 1, .int .i64 0, .int .i64 2, .int .i64 0, .int .i64 0, .string ⟨#[]⟩, .slice none 0 0, .int .i64 1, .int .i64 0] 48)) = wl43 at BB hHeld NR VR ⊢
        simp only [Act.put, List.setIfInBounds_toArray, List.set_cons_zero, List.set_cons_succ]
        refine wpAnyH_ready (rs := [0]) (by kernel_rfl) (by simp) ?_
        refine held_cons (d := some 39) (i := 0) rfl rfl (fun K hK => ?_) ?_
        · rw [if_pos (by rfl)]
          go_simp
          have bN := alloc_below wl43 (.cells #[] 48)
          have N0 := NR
          replace NR := (bN.block _ (Array.getElem?_eq_some_iff.1 NR).1).trans NR
          replace VR := (bN.block _ (Array.getElem?_eq_some_iff.1 VR).1).trans VR
          have RR := hide (World.ownsRow_made (base := wA.heap.size) (e := 48) (size := 7) wl43 #[] 0 BB.size (by decide) rfl)
          have NE := hide (show ¬ (wl37.heap.size = wl43.heap.size) from fun e => by have hlt : wl37.heap.size < wl43.heap.size := (Array.getElem?_eq_some_iff.1 N0).1; omega)
          refine hK _ _ (HKS.out _ (Below.chain BB bN)) ?_
          replace BB := Below.chain BB bN
          clear bN hK K hHeld
          have hHeld := HKS.out _ BB
          generalize (wl43.alloc (.cells #[] 48)) = wl44 at BB hHeld RR NR VR ⊢
          simp only [Act.put, List.setIfInBounds_toArray, List.set_cons_zero, List.set_cons_succ]
          refine wpAnyH_ready (rs := [3]) (by kernel_rfl) (by simp) ?_
          refine held_cons (d := some 42) (i := 3) rfl rfl (fun K hK => ?_) ?_
          · refine app_step rfl (.tmp 39) (.tmp 41) rfl RR.out (by simp [Act.eval]) (by simp [Act.eval]) (HCS.out.1.ext BB) (by have := HF.out; omega) BB.size ?_
            intro v3 wv oN gN
            have BBn := below_grow BB gN (fun k hk => (RR.out.lt k hk).1) BB.size
            replace NR := (gN.block _ (Array.getElem?_eq_some_iff.1 NR).1 (fun e => NE.out (by simpa [Value.ownBlock] using e))).trans NR
            replace VR := (gN.block _ (Array.getElem?_eq_some_iff.1 VR).1 (not_own RR.out VR)).trans VR
            refine hK _ _ (HKS.out _ BBn) ?_
            clear RR
            have RR := hide oN
            clear oN gN hK K hHeld
            replace BB := BBn
            clear BBn
            have hHeld := HKS.out _ BB
            simp only [Act.put, List.setIfInBounds_toArray, List.set_cons_zero, List.set_cons_succ]
            refine wpAnyH_ready (rs := [7]) (by kernel_rfl) (by simp) ?_
            refine held_cons (d := some 46) (i := 7) rfl rfl (fun K hK => ?_) ?_
            · refine app_step rfl (.tmp 42) (.tmp 45) rfl RR.out (by simp [Act.eval]) (by simp [Act.eval]) (row_csat (n := 2) NR rfl (by decide) nn_one) (by have := HF.out; omega) BB.size ?_
              intro v7 wz oN gN
              have BBn := below_grow BB gN (fun k hk => (RR.out.lt k hk).1) BB.size
              replace VR := (gN.block _ (Array.getElem?_eq_some_iff.1 VR).1 (not_own RR.out VR)).trans VR
              obtain ⟨a9, c9, rfl, _⟩ := nots_oat HLE.out oN (cs_one HCS.out.1) (HCS.out.2.ext BBn)
              refine hK _ _ (HKS.out _ BBn) ?_
              clear RR
              have RR := hide oN
              clear oN gN hK K hHeld NR
              replace BB := BBn
              clear BBn
              have hHeld := HKS.out _ BB
              simp only [Act.put, List.setIfInBounds_toArray, List.set_cons_zero, List.set_cons_succ]
              refine held_take (i := 8) (d := some 47) (v := ?vx45x8) rfl rfl (by kernel_rfl) (by kernel_rfl) (by kernel_rfl) (fun _ _ _ h => h) (by rfl) hHeld ?hyx45x8 ?restx45x8
              case hyx45x8 => (intro w_ hSw; (try dsimp only at hSw); go_simp; try with_reducible rfl)
              simp only [Act.put, List.setIfInBounds_toArray, List.set_cons_zero, List.set_cons_succ]
              refine held_op (i := 10) (d := none) rfl rfl (by kernel_rfl) (fun K hK => ?_)
              rw [if_pos (by rfl)]
              have c9r := (row_reads VR).1 0
              have f9r := (row_reads VR).2 0
              simp only [List.getElem?_toArray, List.getElem?_cons_zero] at c9r
              try simp at c9r
              try simp at f9r
              go_simp
              have BBn := Below.setCell (p := ⟨wl0.heap.size, 0, none⟩) BB VB (.slice a9 LE.length c9)
              refine hK undef _ (HKS.out _ BBn) ?_
              clear hK K hHeld c9r f9r
              have RF := nrow_set RR.out VR (.slice a9 LE.length c9)
              obtain ⟨a8, c8, e8, hOA⟩ := nots_oat HLE.out RF (cs_one HCS.out.1) (HCS.out.2.ext BBn)
              injection e8 with e8 _ e9
              subst e8
              subst e9
              have KF := hide (KV.ofRow (K6.out.ext BBn) (heap_setCell_same _ _ _ _ _ _ VR))
              have HLF := hide hOA
              clear RF hOA VR VB RR BB BBn
              refine wpAnyH_done (by kernel_rfl) ?_ _
              go_wp2_with fail
              go_meet
              exact ⟨_, _, _, rfl, KF.out, HLF.out⟩
            exact AllReadyH.nil
          exact AllReadyH.nil
        exact AllReadyH.nil
      exact AllReadyH.nil
    exact AllReadyH.nil
  case rest =>
    obtain ⟨g9, a9, c9, rfl, hK9, hO9⟩ := hcut
    have K6 := hide hK9
    have HO9 := hide hO9
    clear hK9 hO9
    have HE := hide (True_any (HMX.out.ext K6.out.bel) (HO.out.ext K6.out.bel) (HBd.out.1.ext K6.out.bel))
    unfold bv xv at HE
    have a0 := K6.out.cell (p := w.heap.size) (cs := #[.slice a l.length c]) (t := 24) (i := 0) (by simp) rfl
    have b0 := K6.out.cell (p := (w.heap.size + 1)) (cs := (bvC nl na nc tl ta tc)) (t := 28) (i := 0) (by simp) rfl
    have b1 := K6.out.cell (p := (w.heap.size + 1)) (cs := (bvC nl na nc tl ta tc)) (t := 28) (i := 1) (by simp) rfl
    go_wp2_with fail
    refine HE.out.mono ?_
    rintro e_ w7 ⟨r, E, v, f, rfl, hR, hT, b_⟩
    have K7 := hide (K6.out.ext b_)
    have HO7 := hide (HO9.out.ext b_)
    have HR := hide (And.intro hR hT)
    clear a0 b0 b1 hR hT b_ HE K6 HO9
    have HE := hide (True_any (HMX.out.ext K7.out.bel) HO7.out (HBd.out.1.ext K7.out.bel))
    unfold bv xv at HE
    have a0 := K7.out.cell (p := g9) (cs := #[.slice a9 LE.length c9]) (t := 24) (i := 0) (by simp) rfl
    have b0 := K7.out.cell (p := (w.heap.size + 1)) (cs := (bvC nl na nc tl ta tc)) (t := 28) (i := 0) (by simp) rfl
    have b1 := K7.out.cell (p := (w.heap.size + 1)) (cs := (bvC nl na nc tl ta tc)) (t := 28) (i := 1) (by simp) rfl
    go_wp2_with fail
    refine HE.out.mono ?_
    rintro e_ w8 ⟨r8, E8, v8, f8, rfl, hR8, hT8, b_⟩
    have K8 := hide (K7.out.ext b_)
    have HR8 := hide (And.intro hR8 hT8)
    clear a0 b0 b1 hR8 hT8 b_ HE K7 HO7
    have HE := hide (Eval_any (HMX.out.ext K8.out.bel) (HO.out.ext K8.out.bel) (HBd.out.1.ext K8.out.bel))
    unfold bv xv at HE
    have a0 := K8.out.cell (p := w.heap.size) (cs := #[.slice a l.length c]) (t := 24) (i := 0) (by simp) rfl
    have b0 := K8.out.cell (p := (w.heap.size + 1)) (cs := (bvC nl na nc tl ta tc)) (t := 28) (i := 0) (by simp) rfl
    have b1 := K8.out.cell (p := (w.heap.size + 1)) (cs := (bvC nl na nc tl ta tc)) (t := 28) (i := 1) (by simp) rfl
    go_wp2_with fail
    refine HE.out.mono ?_
    rintro e_ w9 ⟨r9, ra, rc, E9, rfl, hq, hR9, _, _, b_⟩
    obtain ⟨rfl, rfl⟩ := eval_uniq HR.out.1 hR9
    obtain ⟨rfl, rfl⟩ := nots_true HR.out.1 HMay.out HMb.out HF.out HR.out.2 (by rw [HLE.out]; exact HR8.out.1) HR8.out.2
    have K9 := hide ((K8.out.ext b_).add w9.heap.size (tvC r ra rc) 33 rfl)
    clear a0 b0 b1 b_ HE K8 HR8 hR9 hq
    have hT := HR.out.2
    unfold truR at hT
    unfold tv
    by_cases e0 : E = 0
    · rw [if_pos e0] at hT
      by_cases h6 : r.k = 6
      · rw [if_pos h6] at hT
        obtain ⟨rfl, rfl⟩ := hT
        subst e0
        have d6 : (r.k == 6) = true := by simpa using h6
        have x0 := K9.out.cell (p := w9.heap.size) (cs := (tvC r ra rc)) (t := 33) (i := 0) (by simp) rfl
        have x1 := K9.out.cell (p := w9.heap.size) (cs := (tvC r ra rc)) (t := 33) (i := 1) (by simp) rfl
        have x2 := K9.out.cell (p := w9.heap.size) (cs := (tvC r ra rc)) (t := 33) (i := 2) (by simp) rfl
        have x3 := K9.out.cell (p := w9.heap.size) (cs := (tvC r ra rc)) (t := 33) (i := 3) (by simp) rfl
        clear h6
        obtain ⟨y, hy⟩ : ∃ y, (r.n == 1) = y := ⟨_, rfl⟩
        rw [hy] at HR ⊢
        go_wp2_with (go_at_call 11; refine (awake12_any (HMX.out.ext K9.out.bel)).mono ?_; rintro e_ wz ⟨rfl, b_⟩; have KZ := hide (K9.out.ext b_); clear b_)
        go_ret
        exact ⟨rfl, KZ.out.bel⟩
      · rw [if_neg h6] at hT
        obtain ⟨rfl, rfl⟩ := hT
        subst e0
        clear h6
        go_wp2_with (go_at_call 11; refine (awake12_any (HMX.out.ext K9.out.bel)).mono ?_; rintro e_ wz ⟨rfl, b_⟩; have KZ := hide (K9.out.ext b_); clear b_)
        go_ret
        exact ⟨rfl, KZ.out.bel⟩
    · rw [if_neg e0] at hT
      have dE : (E == 0) = false := by simpa using e0
      have dE2 : (E != 0) = true := by simpa using e0
      clear e0
      obtain ⟨rfl, rfl⟩ := hT
      go_wp2_with (go_at_call 11; refine (awake12_any (HMX.out.ext K9.out.bel)).mono ?_; rintro e_ wz ⟨rfl, b_⟩; have KZ := hide (K9.out.ext b_); clear b_)
      go_ret
      exact ⟨rfl, KZ.out.bel⟩
end Go.Proofs.YteiacgpaocnofaaGreat
