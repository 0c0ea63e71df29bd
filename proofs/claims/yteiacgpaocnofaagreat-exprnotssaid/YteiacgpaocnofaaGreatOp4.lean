/- Sets held against one another, and what is in both, in either: the program's calls. -/
import Derived.Test.YteiacgpaocnofaaGreatOp3
namespace Go.Proofs.YteiacgpaocnofaaGreat
open Go.RowKit
/-- Things behind things of the call's own, as an operation. -/
theorem wpList_append_cs {t e size bytes : Nat} (hA : AppTy t e size bytes) {ops : Array Oper} {rest : List Oper} {o : Oper} {a : Act} {w : World} {Q : Exit → Act → World → Prop} (hgd : o.guard = none) (s x : Operand) (ho : o.op = .call { callee := .builtin .append, args := #[s, x], argTypes := #[t, t] })
    {base n m : Nat} {xs ys : List Value} (h : w.ownsRow base e size (a.eval s) n xs) (hs : CsAt w size m (a.eval x) ys) (hn : n + m ≤ 1000000000000000) (hby : (n + m) * bytes ≤ 140737488355328) (hb : base ≤ w.heap.size)
    (hk : ∀ v' w', w'.ownsRow base e size v' (n + m) (xs ++ ys) → w.grownBy w' (a.eval s).ownBlock → wpList Tryz.prog ops Q rest (a.put o.dst v') w') : wpList Tryz.prog ops Q (o :: rest) a w := by
  refine wpList_plain hgd fun K hK => ?_
  obtain ⟨v', w', hr, h2, h3⟩ := cs_append hA o.type h hs hn hby hb
  exact Oper.wp_value (run_op_append ho hr) (hK _ _ (hk v' w' h2 h3))
theorem cs_one {w : World} {size n : Nat} {v : Value} {xs : List Value} (h : CsAt w size n v xs) : ∀ u ∈ xs, u.oneCell' = true := by
  obtain ⟨_, _, _, _, _, _, _, _, _, h1⟩ := h
  exact h1
/-- Sets whose terms are of one kind, or one of which has none. -/
def likeS (a b : Tm) : Bool :=
  match a.l, b.l with
  | x :: _, y :: _ => x.k == y.k
  | _, _ => true
theorem like_any {a b : Tm} {a1 : Option Addr} {c1 : Nat} {a2 : Option Addr} {c2 : Nat} {w : World} (ha : TAt w a a1 c1) (hb : TAt w b a2 c2) : Calls Tryz.prog 181 #[tv a a1 c1, tv b a2 c2] w fun e w' => e = .returned (.bool (likeS a b)) ∧ Below w.heap.size w w' := by
  unfold likeS
  cases hal : a.l with
  | nil => exact like_nil1 (by rw [hal]; rfl)
  | cons x r =>
    cases hbl : b.l with
    | nil => exact like_nil2 (by rw [hal]; simp) (by rw [hbl]; rfl)
    | cons y s => exact like_heads ha hb (x := x) (y := y) (by rw [hal]; rfl) (by rw [hbl]; rfl)
set_option maxRecDepth 100000 in
set_option maxHeartbeats 4000000 in
theorem contains_set {a b : Tm} {a1 : Option Addr} {c1 : Nat} {a2 : Option Addr} {c2 : Nat} {w : World} (ha : TAt w a a1 c1) (hb : TAt w b a2 c2) (h3 : a.k ≠ 3) (h7 : b.k = 7) (hn : b.l.length ≤ 16) : Calls Tryz.prog 147 #[sv a a1 c1 b a2 c2] w (OpF (trueT (((sel a false b.l).length : Int) == 0)) 0 w) := by
  obtain ⟨b0, r0, q0⟩ := two_alloc w (s8 a.k a.n a.s a1 a.l.length c1 b.k b.n b.s a2 b.l.length c2) 144
  have B0 := hide b0
  have R0 := hide r0
  have HC := hide (without_any (hb.ext b0) (ha.ext b0) hn)
  clear b0 r0 q0 ha hb hn
  unfold tv at HC
  unfold sv
  generalize sel a false b.l = L at *
  generalize a.k = ak at *
  generalize a.n = an at *
  generalize a.s = aS at *
  generalize a.l.length = al at *
  generalize b.k = bk at *
  generalize b.n = bn at *
  generalize b.s = bS at *
  generalize b.l.length = bl at *
  subst h7
  have e3 : (ak == 3) = false := by simpa using h3
  clear h3
  go_enter Tryz.func147, Tryz.ntmps147
  go_wp2_with fail
  refine HC.out.mono ?_
  rintro e_ w1 ⟨v, rfl, o1, b1⟩
  obtain ⟨va, vc, rfl, _⟩ := o1.ts.lat
  have B1 := hide (Below.chain B0.out b1)
  have R1 := hide (Below.heap b1 (Array.getElem?_eq_some_iff.1 R0.out).1 R0.out)
  clear b1 o1 HC
  go_wp2_with fail
  refine (truth_any _ _).mono ?_
  rintro e_ w2 ⟨rfl, b2⟩
  have B2 := hide (Below.chain B1.out b2)
  have R2 := hide (Below.heap b2 (Array.getElem?_eq_some_iff.1 R1.out).1 R1.out)
  clear b2
  go_wp2_with (refine wpList_store_row rfl 33 (.tmp 2) (.tmp 32) rfl (w.heap.size + 1) (tvC (trueT ((L.length : Int) == 0)) none 0) rfl rfl 33 ztC R2.out (by kernel_rfl) rfl (by kernel_rfl) ?_)
  refine bodyPost_ret_by (results_row_tmp rfl _ _ (w.heap.size + 1) 33 _ (0, 0) _ rfl (setRow_heap _ _ _ _ _ _ R2.out) Tryz.underlying33 rfl (by kernel_rfl)) rfl ?_
  exact ⟨rfl, Below.setRow B2.out _ _ (Nat.le_succ _)⟩
set_option maxRecDepth 100000 in
set_option maxHeartbeats 4000000 in
theorem meet_any {a b : Tm} {a1 : Option Addr} {c1 : Nat} {a2 : Option Addr} {c2 : Nat} {w : World} (ha : TAt w a a1 c1) (hb : TAt w b a2 c2) (hn : a.l.length ≤ 16) : Calls Tryz.prog 154 #[sv a a1 c1 b a2 c2] w (OpA (SetR (sel b true a.l)) w) := by
  obtain ⟨b0, r0, q0⟩ := two_alloc w (s8 a.k a.n a.s a1 a.l.length c1 b.k b.n b.s a2 b.l.length c2) 144
  have B0 := hide b0
  have R0 := hide r0
  have HC := hide (within_any (ha.ext b0) (hb.ext b0) hn)
  clear b0 r0 q0 ha hb hn
  unfold tv at HC
  unfold sv
  generalize sel b true a.l = L at *
  generalize a.k = ak at *
  generalize a.n = an at *
  generalize a.s = aS at *
  generalize a.l.length = al at *
  generalize b.k = bk at *
  generalize b.n = bn at *
  generalize b.s = bS at *
  generalize b.l.length = bl at *
  go_enter Tryz.func154, Tryz.ntmps154
  go_wp2_with fail
  refine HC.out.mono ?_
  rintro e_ w1 ⟨v, rfl, o1, b1⟩
  obtain ⟨va, vc, rfl, hL⟩ := o1.ts.lat
  have B1 := hide (Below.chain B0.out b1)
  have R1 := hide (Below.heap b1 (Array.getElem?_eq_some_iff.1 R0.out).1 R0.out)
  have HL := hide hL
  clear b1 o1 HC hL
  go_wp2_with fail
  refine (Set_any (l := L) HL.out).mono ?_
  rintro e_ w2 ⟨r, ra, rc, E, rfl, hr, hR, b2⟩
  have B2 := hide (Below.chain B1.out b2)
  have R2 := hide (Below.heap b2 (Array.getElem?_eq_some_iff.1 R1.out).1 R1.out)
  have HR := hide (And.intro hr hR)
  clear b2 hr hR
  go_wp2_with (refine wpList_store_row rfl 33 (.tmp 2) (.tmp 10) rfl (w.heap.size + 1) (tvC r ra rc) rfl rfl 33 ztC R2.out (by kernel_rfl) rfl (by kernel_rfl) ?_)
  refine bodyPost_ret_by (results_row_tmp rfl _ _ (w.heap.size + 1) 33 _ (0, 0) _ rfl (setRow_heap _ _ _ _ _ _ R2.out) Tryz.underlying33 rfl (by kernel_rfl)) rfl ?_
  exact ⟨r, ra, rc, E, rfl, HR.out.1.put HR.out.2.lo R2.out _, HR.out.2, HR.out.2.lo, Below.setRow B2.out _ _ (Nat.le_succ _)⟩
/-- What is told of what is in either. -/
def JoinR (a b : Tm) (r : Tm) (E : Int) : Prop :=
  (likeS a b = false → r = zt ∧ E = 7) ∧ (likeS a b = true → 16 < (a.l ++ sel a false b.l).length → r = zt ∧ E = 4) ∧ (likeS a b = true → (a.l ++ sel a false b.l).length ≤ 16 → SetR (a.l ++ sel a false b.l) r E)
set_option maxRecDepth 100000 in
set_option maxHeartbeats 4000000 in
theorem join_unlike {a b : Tm} {a1 : Option Addr} {c1 : Nat} {a2 : Option Addr} {c2 : Nat} {w : World} (ha : TAt w a a1 c1) (hb : TAt w b a2 c2) (hl : likeS a b = false) : Calls Tryz.prog 155 #[sv a a1 c1 b a2 c2] w (OpA (JoinR a b) w) := by
  obtain ⟨b0, r0, q0⟩ := two_alloc w (s8 a.k a.n a.s a1 a.l.length c1 b.k b.n b.s a2 b.l.length c2) 144
  have B0 := hide b0
  have R0 := hide r0
  have Q0 := hide q0
  have HC := hide (like_any (ha.ext b0) (hb.ext b0))
  rw [hl] at HC
  have HJ := hide (show JoinR a b zt 7 from ⟨fun _ => ⟨rfl, rfl⟩, fun e => absurd (hl.symm.trans e) (by decide), fun e => absurd (hl.symm.trans e) (by decide)⟩)
  clear b0 r0 q0 ha hb hl
  generalize JoinR a b = J at *
  unfold tv at HC
  unfold sv
  generalize a.k = ak at *
  generalize a.n = an at *
  generalize a.s = aS at *
  generalize a.l.length = al at *
  generalize b.k = bk at *
  generalize b.n = bn at *
  generalize b.s = bS at *
  generalize b.l.length = bl at *
  go_enter Tryz.func155, Tryz.ntmps155
  go_wp2_with fail
  refine HC.out.mono ?_
  rintro e_ w1 ⟨rfl, b1⟩
  have B1 := hide (Below.chain B0.out b1)
  have R1 := hide (Below.heap b1 (Array.getElem?_eq_some_iff.1 R0.out).1 R0.out)
  clear b1
  go_wp2_with (refine wpList_store_row rfl 33 (.tmp 2) (.tmp 11) rfl (w.heap.size + 1) (tvC zt none 0) rfl rfl 33 ztC R1.out (by kernel_rfl) rfl (by kernel_rfl) ?_)
  refine bodyPost_ret_by (results_row_tmp rfl _ _ (w.heap.size + 1) 33 _ (0, 0) _ rfl (setRow_heap _ _ _ _ _ _ R1.out) Tryz.underlying33 rfl (by kernel_rfl)) rfl ?_
  exact OpF.toA (R := J) ⟨rfl, Below.setRow B1.out _ _ (Nat.le_succ _)⟩ zt_fl HJ.out
set_option maxRecDepth 100000 in
set_option maxHeartbeats 4000000 in
theorem join_like {a b : Tm} {a1 : Option Addr} {c1 : Nat} {a2 : Option Addr} {c2 : Nat} {w : World} (ha : TAt w a a1 c1) (hb : TAt w b a2 c2) (hl : likeS a b = true) (hn : a.l.length ≤ 16) (hm : b.l.length ≤ 16) (hfa : ∀ x ∈ a.l, x.l = []) (hfb : ∀ x ∈ b.l, x.l = []) : Calls Tryz.prog 155 #[sv a a1 c1 b a2 c2] w (OpA (JoinR a b) w) := by
  obtain ⟨b0, r0, q0⟩ := two_alloc w (s8 a.k a.n a.s a1 a.l.length c1 b.k b.n b.s a2 b.l.length c2) 144
  have B0 := hide b0
  have R0 := hide r0
  have Q0 := hide q0
  have HC := hide (like_any (ha.ext b0) (hb.ext b0))
  rw [hl] at HC
  obtain ⟨S, hS⟩ : ∃ S, sel a false b.l = S := ⟨_, rfl⟩
  have hSl : S.length ≤ 16 := by rw [← hS]; exact Nat.le_trans (sel_len _ _ _) hm
  have HW := hide (fun (W : World) (hA : TAt W a a1 c1) (hB : TAt W b a2 c2) => without_any hB hA hm)
  rw [hS] at HW
  have HJ4 := hide (show 16 < (a.l ++ S).length → JoinR a b zt 4 from fun h => by subst hS; exact ⟨fun e => absurd (hl.symm.trans e) (by decide), fun _ _ => ⟨rfl, rfl⟩, fun _ h2 => absurd h2 (by omega)⟩)
  have HJS := hide (show (a.l ++ S).length ≤ 16 → ∀ r E, SetR (a.l ++ S) r E → JoinR a b r E from fun h r E hr => by subst hS; exact ⟨fun e => absurd (hl.symm.trans e) (by decide), fun _ h2 => absurd h2 (by omega), fun _ _ => hr⟩)
  have HAB := hide (And.intro (ha.ext b0) (hb.ext b0))
  have HN := hide (And.intro hn hSl)
  have HF := hide (And.intro hfa (show ∀ x ∈ S, x.l = [] from fun x hx => by rw [← hS] at hx; exact hfb x (List.mem_filter.1 hx).1))
  clear b0 r0 q0 ha hb hl hS hSl hn hm hfa hfb
  generalize JoinR a b = J at *
  unfold tv at HC
  go_enter Tryz.func155, Tryz.ntmps155
  go_wp2_with fail
  refine HC.out.mono ?_
  rintro e_ w1 ⟨rfl, b1⟩
  have B1 := hide (Below.chain B0.out b1)
  have R1 := hide (Below.heap b1 (Array.getElem?_eq_some_iff.1 R0.out).1 R0.out)
  have Q1 := hide (Below.heap b1 (Array.getElem?_eq_some_iff.1 Q0.out).1 Q0.out)
  have H1 := hide (And.intro (HAB.out.1.ext b1) (HAB.out.2.ext b1))
  have hw2 : w.heap.size + 2 ≤ w1.heap.size := Nat.le_trans (by simp) b1.size
  have HZ1 := hide hw2
  clear b1 HC HAB hw2
  obtain ⟨z0, _⟩ := row_reads Q1.out
  have y0 := z0 0
  have y1 := z0 1
  have y2 := z0 2
  have y3 := z0 3
  have y4 := z0 4
  have y5 := z0 5
  have y6 := z0 6
  have y7 := z0 7
  simp only [List.getElem?_toArray, List.getElem?_cons_zero, List.getElem?_cons_succ] at y0 y1 y2 y3 y4 y5 y6 y7
  clear z0
  obtain ⟨ys, hcs, htc⟩ := H1.out.1.list.ts
  have HCS := hide (And.intro hcs htc)
  clear hcs htc
  go_wp2_with (at_builtin; refine wpList_append_cs appT rfl (.tmp 12) (.tmp 15) rfl (base := w.heap.size + 2) (n := 0) (m := a.l.length) (xs := []) (ys := ys) (World.ownsRow_nil _ _ _ _) HCS.out.1 (by have := HN.out.1; omega) (by have := HN.out.1; omega) HZ1.out ?_)
  intro v2 w2 o2 g2
  have B2 := hide (below_grow B1.out g2 (fun k hk => by cases hk) (by have := HZ1.out; omega))
  have b2 : Below w1.heap.size w1 w2 := below_of_grown g2 (fun k hk => by cases hk)
  have R2 := hide (Below.heap b2 (Array.getElem?_eq_some_iff.1 R1.out).1 R1.out)
  have Q2 := hide (Below.heap b2 (Array.getElem?_eq_some_iff.1 Q1.out).1 Q1.out)
  have H2 := hide (And.intro (H1.out.1.ext b2) (H1.out.2.ext b2))
  have O2 := hide (And.intro o2 (And.intro (cs_one HCS.out.1) (HCS.out.2.ext b2)))
  have HZ2 := hide (Nat.le_trans HZ1.out b2.size)
  clear o2 g2 b2 H1 y0 y1 y2 y3 y4 y5 y6 y7
  obtain ⟨z0, _⟩ := row_reads Q2.out
  have y0 := z0 0
  have y1 := z0 1
  have y2 := z0 2
  have y3 := z0 3
  have y4 := z0 4
  have y5 := z0 5
  have y6 := z0 6
  have y7 := z0 7
  simp only [List.getElem?_toArray, List.getElem?_cons_zero, List.getElem?_cons_succ] at y0 y1 y2 y3 y4 y5 y6 y7
  clear z0
  have HW2 := hide (HW.out w2 H2.out.1 H2.out.2)
  unfold tv at HW2
  go_wp2_with fail
  refine HW2.out.mono ?_
  rintro e_ w3 ⟨v3, rfl, o3, b3⟩
  have B3 := hide (Below.chain B2.out b3)
  have R3 := hide (Below.heap b3 (Array.getElem?_eq_some_iff.1 R2.out).1 R2.out)
  have O3 := hide (And.intro (row_ext O2.out.1 b3) (And.intro O2.out.2.1 (O2.out.2.2.ext b3)))
  have HZ3 := hide (Nat.le_trans HZ2.out b3.size)
  obtain ⟨us, hcs, htc⟩ := o3.ts
  have HCT := hide (And.intro hcs htc)
  clear o3 b3 hcs htc HW HW2 H2 y0 y1 y2 y3 y4 y5 y6 y7
  go_wp2_with (at_builtin; refine wpList_append_cs appT rfl (.tmp 17) (.tmp 22) rfl (base := w.heap.size + 2) (n := a.l.length) (m := S.length) (xs := ys) (ys := us) O3.out.1 HCT.out.1 (by have := HN.out; omega) (by have := HN.out; omega) HZ3.out ?_)
  intro v4 w4 o4 g4
  have hX := ob_le O3.out.1
  have hB3 := Below.size B3.out
  have B4 := hide (below_grow B3.out g4 (fun k hk => by have := hX k hk; omega) hB3)
  have R4 := hide ((g4.block (w.heap.size + 1) (Array.getElem?_eq_some_iff.1 R3.out).1 (fun e => by have := hX _ e.symm; omega)).trans R3.out)
  have htt : TcAt w4 (ys ++ us) (a.l ++ S) := (O3.out.2.2.flat HF.out.1).append (HCT.out.2.flat HF.out.2)
  have hTs : TsAt w4 v4 (a.l ++ S) := by
    refine ⟨ys ++ us, ?_, htt⟩
    rw [List.length_append]
    exact row_cs o4 (fun u hu => by
      rcases List.mem_append.1 hu with h | h
      · exact O3.out.2.1 u h
      · exact cs_one HCT.out.1 u h)
  obtain ⟨va, vc, rfl, hL⟩ := hTs.lat
  have HL := hide hL
  clear hL htt o4 g4 hX hB3 O3 HCT HCS O2 Q2
  obtain ⟨AL, hAL⟩ : ∃ AL, a.l ++ S = AL := ⟨_, rfl⟩
  rw [hAL] at HL HJ4 HJS
  rw [hAL]
  clear hAL
  by_cases h16 : AL.length ≤ 16
  · have d16 : decide ((16 : Int) < (AL.length : Int)) = false := decide_eq_false (by omega)
    have HJ := hide (HJS.out h16)
    clear h16
    go_wp2_with fail
    refine (Set_any (l := AL) HL.out).mono ?_
    rintro e_ w5 ⟨r, ra, rc, E, rfl, hr, hR, b5⟩
    have B5 := hide (Below.chain B4.out b5)
    have R5 := hide (Below.heap b5 (Array.getElem?_eq_some_iff.1 R4.out).1 R4.out)
    have HR := hide (And.intro hr hR)
    clear b5 hr hR
    go_wp2_with (refine wpList_store_row rfl 33 (.tmp 2) (.tmp 30) rfl (w.heap.size + 1) (tvC r ra rc) rfl rfl 33 ztC R5.out (by kernel_rfl) rfl (by kernel_rfl) ?_)
    refine bodyPost_ret_by (results_row_tmp rfl _ _ (w.heap.size + 1) 33 _ (0, 0) _ rfl (setRow_heap _ _ _ _ _ _ R5.out) Tryz.underlying33 rfl (by kernel_rfl)) rfl ?_
    exact ⟨r, ra, rc, E, rfl, HR.out.1.put HR.out.2.lo R5.out _, HJ.out _ _ HR.out.2, HR.out.2.lo, Below.setRow B5.out _ _ (Nat.le_succ _)⟩
  · have d16 : decide ((16 : Int) < (AL.length : Int)) = true := decide_eq_true (by omega)
    have HJ := hide (HJ4.out (by omega))
    clear h16
    go_wp2_with (refine wpList_store_row rfl 33 (.tmp 2) (.tmp 27) rfl (w.heap.size + 1) (tvC zt none 0) rfl rfl 33 ztC R4.out (by kernel_rfl) rfl (by kernel_rfl) ?_)
    refine bodyPost_ret_by (results_row_tmp rfl _ _ (w.heap.size + 1) 33 _ (0, 0) _ rfl (setRow_heap _ _ _ _ _ _ R4.out) Tryz.underlying33 rfl (by kernel_rfl)) rfl ?_
    exact OpF.toA (R := J) ⟨rfl, Below.setRow B4.out _ _ (Nat.le_succ _)⟩ zt_fl HJ.out
end Go.Proofs.YteiacgpaocnofaaGreat
