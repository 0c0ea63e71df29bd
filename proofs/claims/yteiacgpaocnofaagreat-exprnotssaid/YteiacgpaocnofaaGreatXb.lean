/- What operations tell; what names are bound to; a stack in memory. -/
import Derived.Test.YteiacgpaocnofaaGreatOp8
import Derived.Test.YteiacgpaocnofaaGreatXa
/- Sets that operations make lie in memory of their own. -/
namespace Go.Proofs.YteiacgpaocnofaaGreat
open Go.RowKit
/-- A term's list, if it has one, lies in memory from here on. -/
def FreA (B : Nat) (r : Tm) (a : Option Addr) : Prop := r.l ≠ [] → ∃ b o, a = some ⟨b, o, none⟩ ∧ B ≤ b
theorem FreA.nil {B : Nat} {r : Tm} {a : Option Addr} (h : r.l = []) : FreA B r a := fun e => absurd h e
theorem FreA.low {B C : Nat} {r : Tm} {a : Option Addr} (h : FreA B r a) (hC : C ≤ B) : FreA C r a := fun e => by
  obtain ⟨b, o, h1, h2⟩ := h e
  exact ⟨b, o, h1, Nat.le_trans hC h2⟩
theorem own_fre {w : World} {B : Nat} {a : Option Addr} {c : Nat} {zs : List Tm} {xs : List Value} (h : w.ownsRow B 33 4 (.slice a zs.length c) zs.length xs) (k n : Int) (s : ByteArray) : FreA B (.mk k n s zs) a := fun e => by
  rcases h.2 with ⟨_, h0⟩ | ⟨g, cap, cur, hv, hb, _⟩
  · exact absurd (List.eq_nil_of_length_eq_zero h0) e
  · injection hv with h1
    exact ⟨g, 0, h1, hb⟩
def SetP4 (l : List Tm) (w : World) (e : Ending) (w' : World) : Prop := ∃ r a c E, e = .returned (.tuple #[tv r a c, .int .i64 E]) ∧ TAt w' r a c ∧ SetR l r E ∧ FreA w.heap.size r a ∧ Below w.heap.size w w'
set_option maxRecDepth 100000 in
set_option maxHeartbeats 1000000 in
theorem Set_fre {l : List Tm} {ao : Option Addr} {c : Nat} {w : World} (h : LAt w l ao c) : Calls Tryz.prog 179 #[.slice ao l.length c] w (SetP4 l w) := by
  have b0 := alloc_below w (.cells #[.int .i64 0, .int .i64 0, .string ⟨#[]⟩, .slice none 0 0] 33)
  have r0 := heap_alloc_last w (.cells #[.int .i64 0, .int .i64 0, .string ⟨#[]⟩, .slice none 0 0] 33)
  have HC := hide (fitSet_any (h.ext b0))
  have HX := hide (And.intro b0 (And.intro r0 (h.ext b0)))
  clear h b0 r0
  cases hf : fitB l with
  | false =>
    rw [hf] at HC
    go_enter Tryz.func179, Tryz.ntmps179
    go_wp2_with fail
    refine HC.out.mono ?_
    rintro e w1 ⟨rfl, b1⟩
    have R1 := hide (Below.heap b1 (Array.getElem?_eq_some_iff.1 HX.out.2.1).1 HX.out.2.1)
    have HB := hide (Below.chain HX.out.1 b1)
    clear b1 HC HX
    go_wp2_with (refine wpList_store_row rfl 33 (.tmp 2) (.tmp 7) rfl w.heap.size #[.int .i64 0, .int .i64 0, .string ⟨#[]⟩, .slice none 0 0] rfl rfl 33 #[.int .i64 0, .int .i64 0, .string ⟨#[]⟩, .slice none 0 0] R1.out (by kernel_rfl) rfl (by kernel_rfl) ?_)
    refine bodyPost_ret_by (results_row_tmp rfl _ _ w.heap.size 33 _ (0, 0) _ rfl (setRow_heap _ _ _ _ _ _ R1.out) Tryz.underlying33 rfl (by kernel_rfl)) rfl ?_
    exact ⟨zt, none, 0, 1, rfl, zt_at _, ⟨fun e => absurd (hf.symm.trans e) (by decide), fun _ => ⟨rfl, rfl⟩⟩, FreA.nil rfl, Below.setRow HB.out _ _ (Nat.le_refl _)⟩
  | true =>
    rw [hf] at HC
    have hfl := fit_flat hf
    go_enter Tryz.func179, Tryz.ntmps179
    go_wp2_with fail
    refine HC.out.mono ?_
    rintro e w1 ⟨rfl, b1⟩
    have HS := hide (sorted_any (HX.out.2.2.ext b1) hfl.1 hfl.2)
    have R1 := hide (Below.heap b1 (Array.getElem?_eq_some_iff.1 HX.out.2.1).1 HX.out.2.1)
    have HB := hide (Below.chain HX.out.1 b1)
    have HLT := hide (show w.heap.size < w1.heap.size from (Array.getElem?_eq_some_iff.1 R1.out).1)
    clear b1 HC HX hfl
    go_wp2_with fail
    refine HS.out.mono ?_
    rintro e w2 ⟨a', c', zs, rfl, hL, hset, hzf, b2⟩
    have R2 := hide (Below.heap b2 (Array.getElem?_eq_some_iff.1 R1.out).1 R1.out)
    have HB2 := hide (And.intro (Below.chain HB.out b2) (And.intro hL (And.intro hset hzf)))
    clear b2 HS R1 HB hL hset hzf
    go_wp2_with (refine wpList_store_row rfl 33 (.tmp 2) (.tmp 10) rfl w.heap.size #[.int .i64 7, .int .i64 0, .string ⟨#[]⟩, .slice a' zs.length c'] rfl rfl 33 #[.int .i64 0, .int .i64 0, .string ⟨#[]⟩, .slice none 0 0] R2.out (by kernel_rfl) rfl (by kernel_rfl) ?_)
    refine bodyPost_ret_by (results_row_tmp rfl _ _ w.heap.size 33 _ (0, 0) _ rfl (setRow_heap _ _ _ _ _ _ R2.out) Tryz.underlying33 rfl (by kernel_rfl)) rfl ?_
    refine ⟨.mk 7 0 ⟨#[]⟩ zs, a', c', 0, rfl, ?_, ⟨fun _ => ⟨rfl, zs, rfl, HB2.out.2.2.1, HB2.out.2.2.2⟩, fun e => absurd (hf.symm.trans e) (by decide)⟩, (own_fre HB2.out.2.1 7 0 ⟨#[]⟩).low (Nat.le_of_lt HLT.out), Below.setRow HB2.out.1 _ _ (Nat.le_refl _)⟩
    obtain ⟨a2, c2, e2, hLL⟩ := row_lat (row_set HB2.out.2.1 HLT.out #[.int .i64 7, .int .i64 0, .string ⟨#[]⟩, .slice a' zs.length c']) HB2.out.2.2.2
    injection e2 with e3 _ e4
    rw [← e3, ← e4] at hLL
    exact set_at hLL
/-- As OpA; the term's list lies in memory of its own. -/
def OpB (R : Tm → Int → Prop) (w : World) : Ending → World → Prop := OpA4 (fun r a _ E => R r E ∧ FreA w.heap.size r a) w
theorem OpF.toB {r : Tm} {E : Int} {w w' : World} {e : Ending} {R : Tm → Int → Prop} (h : OpF r E w e w') (hf : Fl r) (hR : R r E) : OpB R w e w' := ⟨r, none, 0, E, h.1, hf.at w', ⟨hR, .nil hf.1⟩, .flat hf, h.2⟩
theorem OpF.goodB {f : FuncId} {args : Array Value} {W : World} {r : Tm} {E : Int} {R : Tm → Int → Prop} (h : Calls Tryz.prog f args W (OpF r E W)) (hf : Fl r) (hR : R r E) : Calls Tryz.prog f args W (OpB R W) := h.mono fun _ _ h => h.toB hf hR
theorem OpB.good {f : FuncId} {args : Array Value} {W : World} {R S : Tm → Int → Prop} (h : Calls Tryz.prog f args W (OpB R W)) (hS : ∀ r E, R r E → S r E) : Calls Tryz.prog f args W (OpB S W) := h.mono fun _ _ ⟨r, a, c, E, h1, h2, h3, h4⟩ => ⟨r, a, c, E, h1, h2, ⟨hS _ _ h3.1, h3.2⟩, h4⟩
set_option maxRecDepth 100000 in
set_option maxHeartbeats 4000000 in
theorem meet_fre {a b : Tm} {a1 : Option Addr} {c1 : Nat} {a2 : Option Addr} {c2 : Nat} {w : World} (ha : TAt w a a1 c1) (hb : TAt w b a2 c2) (hn : a.l.length ≤ 16) : Calls Tryz.prog 154 #[sv a a1 c1 b a2 c2] w (OpB (SetR (sel b true a.l)) w) := by
  obtain ⟨b0, r0, q0⟩ := two_alloc w (s8 a.k a.n a.s a1 a.l.length c1 b.k b.n b.s a2 b.l.length c2) 144
  have B0 := hide b0
  have R0 := hide r0
  have HC := hide (within_any (ha.ext b0) (hb.ext b0) hn)
  clear b0 r0 q0 ha hb hn
  unfold tv at HC
  unfold sv
  generalize sel b true a.l = L at *
  generalize a.k = ak at *
  generalize a.n = an at *
  generalize a.s = aS at *
  generalize a.l.length = al at *
  generalize b.k = bk at *
  generalize b.n = bn at *
  generalize b.s = bS at *
  generalize b.l.length = bl at *
  go_enter Tryz.func154, Tryz.ntmps154
  go_wp2_with fail
  refine HC.out.mono ?_
  rintro e_ w1 ⟨v, rfl, o1, b1⟩
  obtain ⟨va, vc, rfl, hL⟩ := o1.ts.lat
  have B1 := hide (Below.chain B0.out b1)
  have R1 := hide (Below.heap b1 (Array.getElem?_eq_some_iff.1 R0.out).1 R0.out)
  have HL := hide hL
  clear b1 o1 HC hL
  go_wp2_with fail
  refine (Set_fre (l := L) HL.out).mono ?_
  rintro e_ w2 ⟨r, ra, rc, E, rfl, hr, hR, hN, b2⟩
  have B2 := hide (Below.chain B1.out b2)
  have R2 := hide (Below.heap b2 (Array.getElem?_eq_some_iff.1 R1.out).1 R1.out)
  have HR := hide (And.intro hr hR)
  have HN := hide (hN.low (Below.size B1.out))
  clear b2 hr hR hN
  go_wp2_with (refine wpList_store_row rfl 33 (.tmp 2) (.tmp 10) rfl (w.heap.size + 1) (tvC r ra rc) rfl rfl 33 ztC R2.out (by kernel_rfl) rfl (by kernel_rfl) ?_)
  refine bodyPost_ret_by (results_row_tmp rfl _ _ (w.heap.size + 1) 33 _ (0, 0) _ rfl (setRow_heap _ _ _ _ _ _ R2.out) Tryz.underlying33 rfl (by kernel_rfl)) rfl ?_
  exact ⟨r, ra, rc, E, rfl, HR.out.1.put HR.out.2.lo R2.out _, ⟨HR.out.2, HN.out⟩, HR.out.2.lo, Below.setRow B2.out _ _ (Nat.le_succ _)⟩
set_option maxRecDepth 100000 in
set_option maxHeartbeats 4000000 in
theorem join_fre {a b : Tm} {a1 : Option Addr} {c1 : Nat} {a2 : Option Addr} {c2 : Nat} {w : World} (ha : TAt w a a1 c1) (hb : TAt w b a2 c2) (hl : likeS a b = true) (hn : a.l.length ≤ 16) (hm : b.l.length ≤ 16) (hfa : ∀ x ∈ a.l, x.l = []) (hfb : ∀ x ∈ b.l, x.l = []) : Calls Tryz.prog 155 #[sv a a1 c1 b a2 c2] w (OpB (JoinR a b) w) := by
  obtain ⟨b0, r0, q0⟩ := two_alloc w (s8 a.k a.n a.s a1 a.l.length c1 b.k b.n b.s a2 b.l.length c2) 144
  have B0 := hide b0
  have R0 := hide r0
  have Q0 := hide q0
  have HC := hide (like_any (ha.ext b0) (hb.ext b0))
  rw [hl] at HC
  obtain ⟨S, hS⟩ : ∃ S, sel a false b.l = S := ⟨_, rfl⟩
  have hSl : S.length ≤ 16 := by rw [← hS]; exact Nat.le_trans (sel_len _ _ _) hm
  have HW := hide (fun (W : World) (hA : TAt W a a1 c1) (hB : TAt W b a2 c2) => without_any hB hA hm)
  rw [hS] at HW
  have HJ4 := hide (show 16 < (a.l ++ S).length → JoinR a b zt 4 from fun h => by subst hS; exact ⟨fun e => absurd (hl.symm.trans e) (by decide), fun _ _ => ⟨rfl, rfl⟩, fun _ h2 => absurd h2 (by omega)⟩)
  have HJS := hide (show (a.l ++ S).length ≤ 16 → ∀ r E, SetR (a.l ++ S) r E → JoinR a b r E from fun h r E hr => by subst hS; exact ⟨fun e => absurd (hl.symm.trans e) (by decide), fun _ h2 => absurd h2 (by omega), fun _ _ => hr⟩)
  have HAB := hide (And.intro (ha.ext b0) (hb.ext b0))
  have HN := hide (And.intro hn hSl)
  have HF := hide (And.intro hfa (show ∀ x ∈ S, x.l = [] from fun x hx => by rw [← hS] at hx; exact hfb x (List.mem_filter.1 hx).1))
  clear b0 r0 q0 ha hb hl hS hSl hn hm hfa hfb
  generalize JoinR a b = J at *
  unfold tv at HC
  go_enter Tryz.func155, Tryz.ntmps155
  go_wp2_with fail
  refine HC.out.mono ?_
  rintro e_ w1 ⟨rfl, b1⟩
  have B1 := hide (Below.chain B0.out b1)
  have R1 := hide (Below.heap b1 (Array.getElem?_eq_some_iff.1 R0.out).1 R0.out)
  have Q1 := hide (Below.heap b1 (Array.getElem?_eq_some_iff.1 Q0.out).1 Q0.out)
  have H1 := hide (And.intro (HAB.out.1.ext b1) (HAB.out.2.ext b1))
  have hw2 : w.heap.size + 2 ≤ w1.heap.size := Nat.le_trans (by simp) b1.size
  have HZ1 := hide hw2
  clear b1 HC HAB hw2
  obtain ⟨z0, _⟩ := row_reads Q1.out
  have y0 := z0 0
  have y1 := z0 1
  have y2 := z0 2
  have y3 := z0 3
  have y4 := z0 4
  have y5 := z0 5
  have y6 := z0 6
  have y7 := z0 7
  simp only [List.getElem?_toArray, List.getElem?_cons_zero, List.getElem?_cons_succ] at y0 y1 y2 y3 y4 y5 y6 y7
  clear z0
  obtain ⟨ys, hcs, htc⟩ := H1.out.1.list.ts
  have HCS := hide (And.intro hcs htc)
  clear hcs htc
  go_wp2_with (at_builtin; refine wpList_append_cs appT rfl (.tmp 12) (.tmp 15) rfl (base := w.heap.size + 2) (n := 0) (m := a.l.length) (xs := []) (ys := ys) (World.ownsRow_nil _ _ _ _) HCS.out.1 (by have := HN.out.1; omega) (by have := HN.out.1; omega) HZ1.out ?_)
  intro v2 w2 o2 g2
  have B2 := hide (below_grow B1.out g2 (fun k hk => by cases hk) (by have := HZ1.out; omega))
  have b2 : Below w1.heap.size w1 w2 := below_of_grown g2 (fun k hk => by cases hk)
  have R2 := hide (Below.heap b2 (Array.getElem?_eq_some_iff.1 R1.out).1 R1.out)
  have Q2 := hide (Below.heap b2 (Array.getElem?_eq_some_iff.1 Q1.out).1 Q1.out)
  have H2 := hide (And.intro (H1.out.1.ext b2) (H1.out.2.ext b2))
  have O2 := hide (And.intro o2 (And.intro (cs_one HCS.out.1) (HCS.out.2.ext b2)))
  have HZ2 := hide (Nat.le_trans HZ1.out b2.size)
  clear o2 g2 b2 H1 y0 y1 y2 y3 y4 y5 y6 y7
  obtain ⟨z0, _⟩ := row_reads Q2.out
  have y0 := z0 0
  have y1 := z0 1
  have y2 := z0 2
  have y3 := z0 3
  have y4 := z0 4
  have y5 := z0 5
  have y6 := z0 6
  have y7 := z0 7
  simp only [List.getElem?_toArray, List.getElem?_cons_zero, List.getElem?_cons_succ] at y0 y1 y2 y3 y4 y5 y6 y7
  clear z0
  have HW2 := hide (HW.out w2 H2.out.1 H2.out.2)
  unfold tv at HW2
  go_wp2_with fail
  refine HW2.out.mono ?_
  rintro e_ w3 ⟨v3, rfl, o3, b3⟩
  have B3 := hide (Below.chain B2.out b3)
  have R3 := hide (Below.heap b3 (Array.getElem?_eq_some_iff.1 R2.out).1 R2.out)
  have O3 := hide (And.intro (row_ext O2.out.1 b3) (And.intro O2.out.2.1 (O2.out.2.2.ext b3)))
  have HZ3 := hide (Nat.le_trans HZ2.out b3.size)
  obtain ⟨us, hcs, htc⟩ := o3.ts
  have HCT := hide (And.intro hcs htc)
  clear o3 b3 hcs htc HW HW2 H2 y0 y1 y2 y3 y4 y5 y6 y7
  go_wp2_with (at_builtin; refine wpList_append_cs appT rfl (.tmp 17) (.tmp 22) rfl (base := w.heap.size + 2) (n := a.l.length) (m := S.length) (xs := ys) (ys := us) O3.out.1 HCT.out.1 (by have := HN.out; omega) (by have := HN.out; omega) HZ3.out ?_)
  intro v4 w4 o4 g4
  have hX := ob_le O3.out.1
  have hB3 := Below.size B3.out
  have B4 := hide (below_grow B3.out g4 (fun k hk => by have := hX k hk; omega) hB3)
  have R4 := hide ((g4.block (w.heap.size + 1) (Array.getElem?_eq_some_iff.1 R3.out).1 (fun e => by have := hX _ e.symm; omega)).trans R3.out)
  have htt : TcAt w4 (ys ++ us) (a.l ++ S) := (O3.out.2.2.flat HF.out.1).append (HCT.out.2.flat HF.out.2)
  have hTs : TsAt w4 v4 (a.l ++ S) := by
    refine ⟨ys ++ us, ?_, htt⟩
    rw [List.length_append]
    exact row_cs o4 (fun u hu => by
      rcases List.mem_append.1 hu with h | h
      · exact O3.out.2.1 u h
      · exact cs_one HCT.out.1 u h)
  obtain ⟨va, vc, rfl, hL⟩ := hTs.lat
  have HL := hide hL
  clear hL htt o4 g4 hX hB3 O3 HCT HCS O2 Q2
  obtain ⟨AL, hAL⟩ : ∃ AL, a.l ++ S = AL := ⟨_, rfl⟩
  rw [hAL] at HL HJ4 HJS
  rw [hAL]
  clear hAL
  by_cases h16 : AL.length ≤ 16
  · have d16 : decide ((16 : Int) < (AL.length : Int)) = false := decide_eq_false (by omega)
    have HJ := hide (HJS.out h16)
    clear h16
    go_wp2_with fail
    refine (Set_fre (l := AL) HL.out).mono ?_
    rintro e_ w5 ⟨r, ra, rc, E, rfl, hr, hR, hN, b5⟩
    have B5 := hide (Below.chain B4.out b5)
    have R5 := hide (Below.heap b5 (Array.getElem?_eq_some_iff.1 R4.out).1 R4.out)
    have HR := hide (And.intro hr hR)
    have HN := hide (hN.low (Below.size B4.out))
    clear b5 hr hR hN
    go_wp2_with (refine wpList_store_row rfl 33 (.tmp 2) (.tmp 30) rfl (w.heap.size + 1) (tvC r ra rc) rfl rfl 33 ztC R5.out (by kernel_rfl) rfl (by kernel_rfl) ?_)
    refine bodyPost_ret_by (results_row_tmp rfl _ _ (w.heap.size + 1) 33 _ (0, 0) _ rfl (setRow_heap _ _ _ _ _ _ R5.out) Tryz.underlying33 rfl (by kernel_rfl)) rfl ?_
    exact ⟨r, ra, rc, E, rfl, HR.out.1.put HR.out.2.lo R5.out _, ⟨HJ.out _ _ HR.out.2, HN.out⟩, HR.out.2.lo, Below.setRow B5.out _ _ (Nat.le_succ _)⟩
  · have d16 : decide ((16 : Int) < (AL.length : Int)) = true := decide_eq_true (by omega)
    have HJ := hide (HJ4.out (by omega))
    clear h16
    go_wp2_with (refine wpList_store_row rfl 33 (.tmp 2) (.tmp 27) rfl (w.heap.size + 1) (tvC zt none 0) rfl rfl 33 ztC R4.out (by kernel_rfl) rfl (by kernel_rfl) ?_)
    refine bodyPost_ret_by (results_row_tmp rfl _ _ (w.heap.size + 1) 33 _ (0, 0) _ rfl (setRow_heap _ _ _ _ _ _ R4.out) Tryz.underlying33 rfl (by kernel_rfl)) rfl ?_
    exact OpF.toB (R := J) ⟨rfl, Below.setRow B4.out _ _ (Nat.le_succ _)⟩ zt_fl HJ.out
end Go.Proofs.YteiacgpaocnofaaGreat
/- What an operation tells, as a relation that leaves one answer. -/
namespace Go.Proofs.YteiacgpaocnofaaGreat
open Go.RowKit
/-- What a text that is asked for a pattern tells. -/
def MatR (q s : ByteArray) (r : Tm) (E : Int) : Prop :=
  match Rg.mR q s with
  | .ok l _ => E = 0 ∧ ∃ c : Bool, r = trueT c ∧ (c = true ↔ ∃ p0 p1, p1 ≤ s.size ∧ Rg.Fr l (Rg.bl s) p0 p1)
  | .bad n => r = zt ∧ E = (n : Int) ∧ (n = 1 ∨ n = 3 ∨ n = 4)
/-- Which kinds of sides an operation takes. -/
def kindB (c a b : Int) : Bool :=
  if c ≤ 4 then (bothB 2 a b || bothB 4 a b) else if c ≤ 6 then ((a == b) && fixK a) else if c = 7 then (bothB 2 a b || bothB 3 a b) else if c ≤ 10 then bothB 2 a b
  else if c = 11 then (bothB 3 a b || ((a == 7) && fixK b)) else if c ≤ 13 then (bothB 3 a b || bothB 5 a b) else if c = 14 then bothB 3 a b else if c ≤ 16 then bothB 7 a b else bothB 2 a b
def contR (a b : Tm) : Bool := if a.k = 3 then Lib.contains a.s.data.toList b.s.data.toList else if b.k = 7 then (((sel a false b.l).length : Int) == 0) else hasT a b
def addF (a b : Tm) : Tm × Int := if a.k = 3 then (if 256 < a.s.size + b.s.size then (zt, 4) else (textT (a.s ++ b.s), 0)) else (numR (a.n + b.n), numE (a.n + b.n))
def divF (a b : Tm) : Tm × Int := if b.n = 0 then (zt, 6) else (numR (Int.tdiv a.n b.n), numE (Int.tdiv a.n b.n))
/-- What an operation tells of sides of its kinds: where a function of both says it. -/
def opF (c : Int) (a b : Tm) : Tm × Int :=
  if c = 1 then (trueT (decide (a.n < b.n)), 0)
  else if c = 2 then (trueT (decide (b.n < a.n)), 0)
  else if c = 3 then (trueT (decide (a.n ≤ b.n)), 0)
  else if c = 4 then (trueT (decide (b.n ≤ a.n)), 0)
  else if c = 5 then (trueT (cp a b == 0), 0)
  else if c = 6 then (trueT (!(cp a b == 0)), 0)
  else if c = 7 then addF a b
  else if c = 8 then (numR (a.n - b.n), numE (a.n - b.n))
  else if c = 9 then (numR (a.n * b.n), numE (a.n * b.n))
  else if c = 10 then divF a b
  else if c = 11 then (trueT (contR a b), 0)
  else if c = 12 then (trueT (Lib.hasPrefix a.s.data.toList b.s.data.toList), 0)
  else if c = 13 then (trueT (Lib.hasSuffix a.s.data.toList b.s.data.toList), 0)
  else if c = 17 then (numT (bits .and .i64 a.n b.n), 0)
  else if c = 18 then (numT (bits .or .i64 a.n b.n), 0)
  else (numT (bits .xor .i64 a.n b.n), 0)
def opR (c : Int) (a b r : Tm) (E : Int) : Prop :=
  if c = 14 then MatR b.s a.s r E else if c = 15 then SetR (sel b true a.l) r E else if c = 16 then JoinR a b r E else (r, E) = opF c a b
/-- What an operation of two sides tells. -/
def BinR (c : Int) (a b r : Tm) (E : Int) : Prop :=
  if fixT a = true ∧ fixT b = true ∧ 1 ≤ c ∧ c ≤ 19 then (if kindB c a.k b.k = true then opR c a b r E else r = zt ∧ E = 7) else r = zt ∧ E = 1
theorem mat_uniq {q s : ByteArray} {r r2 : Tm} {E E2 : Int} (h : MatR q s r E) (k : MatR q s r2 E2) : r = r2 ∧ E = E2 := by
  unfold MatR at h k
  cases hm : Rg.mR q s with
  | ok l t =>
    rw [hm] at h k
    obtain ⟨rfl, c, rfl, hc⟩ := h
    obtain ⟨rfl, d, rfl, hd⟩ := k
    have : c = d := by
      cases c <;> cases d <;> first | rfl | exact absurd (hd.2 (hc.1 rfl)) (by decide) | exact absurd (hc.2 (hd.1 rfl)) (by decide)
    exact ⟨by rw [this], rfl⟩
  | bad n =>
    rw [hm] at h k
    obtain ⟨rfl, rfl, _⟩ := h
    obtain ⟨rfl, rfl, _⟩ := k
    exact ⟨rfl, rfl⟩
theorem join_uniq {a b r r2 : Tm} {E E2 : Int} (h : JoinR a b r E) (k : JoinR a b r2 E2) : r = r2 ∧ E = E2 := by
  cases hl : likeS a b with
  | false =>
    obtain ⟨rfl, rfl⟩ := h.1 hl
    obtain ⟨rfl, rfl⟩ := k.1 hl
    exact ⟨rfl, rfl⟩
  | true =>
    by_cases h16 : 16 < (a.l ++ sel a false b.l).length
    · obtain ⟨rfl, rfl⟩ := h.2.1 hl h16
      obtain ⟨rfl, rfl⟩ := k.2.1 hl h16
      exact ⟨rfl, rfl⟩
    · exact set_uniq rfl (fun _ => Iff.rfl) (h.2.2 hl (by omega)) (k.2.2 hl (by omega))
theorem and_uniq {r r2 x : Tm} {E E2 y : Int} (h : r = x ∧ E = y) (k : r2 = x ∧ E2 = y) : r = r2 ∧ E = E2 := ⟨h.1.trans k.1.symm, h.2.trans k.2.symm⟩
theorem opR_uniq {c : Int} {a b r r2 : Tm} {E E2 : Int} (h : opR c a b r E) (k : opR c a b r2 E2) : r = r2 ∧ E = E2 := by
  unfold opR at h k
  by_cases h14 : c = 14
  · rw [if_pos h14] at h k; exact mat_uniq h k
  rw [if_neg h14] at h k
  by_cases h15 : c = 15
  · rw [if_pos h15] at h k; exact set_uniq rfl (fun _ => Iff.rfl) h k
  rw [if_neg h15] at h k
  by_cases h16 : c = 16
  · rw [if_pos h16] at h k; exact join_uniq h k
  rw [if_neg h16] at h k
  exact Prod.mk.inj (h.trans k.symm)
/-- What an operation tells is one answer. -/
theorem bin_uniq {c : Int} {a b r r2 : Tm} {E E2 : Int} (h : BinR c a b r E) (k : BinR c a b r2 E2) : r = r2 ∧ E = E2 := by
  unfold BinR at h k
  by_cases h1 : fixT a = true ∧ fixT b = true ∧ 1 ≤ c ∧ c ≤ 19
  · rw [if_pos h1] at h k
    by_cases h2 : kindB c a.k b.k = true
    · rw [if_pos h2] at h k; exact opR_uniq h k
    · rw [if_neg h2] at h k; exact and_uniq h k
  · rw [if_neg h1] at h k; exact and_uniq h k
theorem BinR.val {c : Int} {a b r : Tm} {E : Int} (fa : fixT a = true) (fb : fixT b = true) (hc : 1 ≤ c ∧ c ≤ 19) (hk : kindB c a.k b.k = true) (h : opR c a b r E) : BinR c a b r E := by
  unfold BinR; rw [if_pos ⟨fa, fb, hc.1, hc.2⟩, if_pos hk]; exact h
theorem BinR.type {c : Int} {a b : Tm} (fa : fixT a = true) (fb : fixT b = true) (hc : 1 ≤ c ∧ c ≤ 19) (hk : kindB c a.k b.k = false) : BinR c a b zt 7 := by
  unfold BinR; rw [if_pos ⟨fa, fb, hc.1, hc.2⟩, if_neg (by rw [hk]; decide)]; exact ⟨rfl, rfl⟩
theorem BinR.arg {c : Int} {a b : Tm} (h : ¬ (fixT a = true ∧ fixT b = true ∧ 1 ≤ c ∧ c ≤ 19)) : BinR c a b zt 1 := by
  unfold BinR; rw [if_neg h]; exact ⟨rfl, rfl⟩
set_option maxRecDepth 100000 in
set_option maxHeartbeats 2000000 in
theorem matches_R (ak an : Int) (aS : ByteArray) (aa : Option Addr) (al ac : Nat) (bk bn : Int) (bS : ByteArray) (ba : Option Addr) (bl bc : Nat) (w : World) : Calls Tryz.prog 152 #[.agg (s8 ak an aS aa al ac bk bn bS ba bl bc)] w (OpB (MatR bS aS) w) := by
  obtain ⟨b0, r0, q0⟩ := two_alloc w (s8 ak an aS aa al ac bk bn bS ba bl bc) 144
  have HC := hide (Rg.Find_any bS aS (w := ((w.alloc (.cells (s8 ak an aS aa al ac bk bn bS ba bl bc) 144)).alloc (.cells ztC 33))))
  have B0 := hide b0
  have R0 := hide r0
  clear b0 r0 q0
  cases hm : Rg.mR bS aS with
  | ok l t =>
    rw [hm] at HC
    replace HC := hide HC.out
    have HM := hide hm
    clear hm
    go_enter Tryz.func152, Tryz.ntmps152
    go_wp2_with fail
    refine HC.out.mono ?_
    rintro e_ w1 ⟨⟨c, rfl, hcc⟩, b1⟩
    have B1 := hide (Below.chain B0.out b1)
    have R1 := hide (Below.heap b1 (Array.getElem?_eq_some_iff.1 R0.out).1 R0.out)
    have HCC := hide hcc
    clear b1 hcc
    go_wp2_with fail
    refine (truth_any _ _).mono ?_
    rintro e_ w2 ⟨rfl, b2⟩
    have B2 := hide (Below.chain B1.out b2)
    have R2 := hide (Below.heap b2 (Array.getElem?_eq_some_iff.1 R1.out).1 R1.out)
    clear b2
    go_wp2_with (refine wpList_store_row rfl 33 (.tmp 2) (.tmp 22) rfl (w.heap.size + 1) (tvC (trueT c) none 0) rfl rfl 33 ztC R2.out (by kernel_rfl) rfl (by kernel_rfl) ?_)
    refine bodyPost_ret_by (results_row_tmp rfl _ _ (w.heap.size + 1) 33 _ (0, 0) _ rfl (setRow_heap _ _ _ _ _ _ R2.out) Tryz.underlying33 rfl (by kernel_rfl)) rfl ?_
    exact OpF.toB (R := MatR bS aS) ⟨rfl, Below.setRow B2.out _ _ (Nat.le_succ _)⟩ (trueT_fl c) (by unfold MatR; rw [HM.out]; exact ⟨rfl, c, rfl, HCC.out⟩)
  | bad n =>
    rw [hm] at HC
    replace HC := hide HC.out
    have HM := hide hm
    clear hm
    go_enter Tryz.func152, Tryz.ntmps152
    go_wp2_with fail
    refine HC.out.mono ?_
    rintro e_ w1 ⟨⟨rfl, he⟩, b1⟩
    have B1 := hide (Below.chain B0.out b1)
    have R1 := hide (Below.heap b1 (Array.getElem?_eq_some_iff.1 R0.out).1 R0.out)
    have hn : ((n : Int) != 0) = true := by rcases he with rfl | rfl | rfl <;> rfl
    have HE := hide he
    clear b1 he
    go_wp2_with (refine wpList_store_row rfl 33 (.tmp 2) (.tmp 18) rfl (w.heap.size + 1) (tvC zt none 0) rfl rfl 33 ztC R1.out (by kernel_rfl) rfl (by kernel_rfl) ?_)
    refine bodyPost_ret_by (results_row_tmp rfl _ _ (w.heap.size + 1) 33 _ (0, 0) _ rfl (setRow_heap _ _ _ _ _ _ R1.out) Tryz.underlying33 rfl (by kernel_rfl)) rfl ?_
    exact OpF.toB (R := MatR bS aS) ⟨rfl, Below.setRow B1.out _ _ (Nat.le_succ _)⟩ zt_fl (by unfold MatR; rw [HM.out]; exact ⟨rfl, rfl, HE.out⟩)
variable {a b : Tm} {a1 : Option Addr} {c1 : Nat} {a2 : Option Addr} {c2 : Nat} {w : World}
theorem bin_goB {code : Int} {fm ft : FuncId} {tb : Array Value} (ha : TAt w a a1 c1) (hb : TAt w b a2 c2) (HT0 : Says 121 #[] (.agg tb)) (hix : ∀ w_, (Instr.index 139 (.agg tb) (.int .i64 code)).run Tryz.prog w_ = .ok (.agg #[fv fm, fv ft]) w_) (em : ∀ xs w, (callFunc fm xs).run Tryz.prog w = .ok (.enter fm xs) w) (et : ∀ xs w, (callFunc ft xs).run Tryz.prog w = .ok (.enter ft xs) w) {R : Tm → Int → Prop} (fa : fixT a = true) (fb : fixT b = true) (hc : 1 ≤ code ∧ code ≤ 19) (hm : Says fm #[kv a.k b.k] (.bool true)) (ht : ∀ W, Below w.heap.size w W → TAt W a a1 c1 → TAt W b a2 c2 → Calls Tryz.prog ft #[sv a a1 c1 b a2 c2] W (OpB R W)) : Calls Tryz.prog 106 #[.int .i64 code, tv a a1 c1, tv b a2 c2] w (OpB R w) :=
  bin_go4 (R := fun r a _ E => R r E ∧ FreA w.heap.size r a) ha hb HT0 hix em et fa fb hc hm fun W h1 h2 h3 => (ht W h1 h2 h3).mono fun _ _ ⟨r, x, c, E, e1, e2, e3, e4⟩ => ⟨r, x, c, E, e1, e2, ⟨e3.1, e3.2.low h1.size⟩, e4⟩
theorem bin1B {R : Tm → Int → Prop} (ha : TAt w a a1 c1) (hb : TAt w b a2 c2) (fa : fixT a = true) (fb : fixT b = true) (hk : (bothB 2 a.k b.k || bothB 4 a.k b.k) = true) (ht : ∀ W, Below w.heap.size w W → TAt W a a1 c1 → TAt W b a2 c2 → Calls Tryz.prog 133 #[sv a a1 c1 b a2 c2] W (OpB R W)) : Calls Tryz.prog 106 #[.int .i64 1, tv a a1 c1, tv b a2 c2] w (OpB R w) :=
  bin_goB ha hb binaries_any row1 Tryz.call132 Tryz.call133 fa fb (by decide) (by have h := areMeasures_any a.k b.k; rw [hk] at h; exact h) ht
theorem bin2B {R : Tm → Int → Prop} (ha : TAt w a a1 c1) (hb : TAt w b a2 c2) (fa : fixT a = true) (fb : fixT b = true) (hk : (bothB 2 a.k b.k || bothB 4 a.k b.k) = true) (ht : ∀ W, Below w.heap.size w W → TAt W a a1 c1 → TAt W b a2 c2 → Calls Tryz.prog 134 #[sv a a1 c1 b a2 c2] W (OpB R W)) : Calls Tryz.prog 106 #[.int .i64 2, tv a a1 c1, tv b a2 c2] w (OpB R w) :=
  bin_goB ha hb binaries_any row2 Tryz.call132 Tryz.call134 fa fb (by decide) (by have h := areMeasures_any a.k b.k; rw [hk] at h; exact h) ht
theorem bin3B {R : Tm → Int → Prop} (ha : TAt w a a1 c1) (hb : TAt w b a2 c2) (fa : fixT a = true) (fb : fixT b = true) (hk : (bothB 2 a.k b.k || bothB 4 a.k b.k) = true) (ht : ∀ W, Below w.heap.size w W → TAt W a a1 c1 → TAt W b a2 c2 → Calls Tryz.prog 135 #[sv a a1 c1 b a2 c2] W (OpB R W)) : Calls Tryz.prog 106 #[.int .i64 3, tv a a1 c1, tv b a2 c2] w (OpB R w) :=
  bin_goB ha hb binaries_any row3 Tryz.call132 Tryz.call135 fa fb (by decide) (by have h := areMeasures_any a.k b.k; rw [hk] at h; exact h) ht
theorem bin4B {R : Tm → Int → Prop} (ha : TAt w a a1 c1) (hb : TAt w b a2 c2) (fa : fixT a = true) (fb : fixT b = true) (hk : (bothB 2 a.k b.k || bothB 4 a.k b.k) = true) (ht : ∀ W, Below w.heap.size w W → TAt W a a1 c1 → TAt W b a2 c2 → Calls Tryz.prog 136 #[sv a a1 c1 b a2 c2] W (OpB R W)) : Calls Tryz.prog 106 #[.int .i64 4, tv a a1 c1, tv b a2 c2] w (OpB R w) :=
  bin_goB ha hb binaries_any row4 Tryz.call132 Tryz.call136 fa fb (by decide) (by have h := areMeasures_any a.k b.k; rw [hk] at h; exact h) ht
theorem bin5B {R : Tm → Int → Prop} (ha : TAt w a a1 c1) (hb : TAt w b a2 c2) (fa : fixT a = true) (fb : fixT b = true) (hk : ((a.k == b.k) && fixK a.k) = true) (ht : ∀ W, Below w.heap.size w W → TAt W a a1 c1 → TAt W b a2 c2 → Calls Tryz.prog 138 #[sv a a1 c1 b a2 c2] W (OpB R W)) : Calls Tryz.prog 106 #[.int .i64 5, tv a a1 c1, tv b a2 c2] w (OpB R w) :=
  bin_goB ha hb binaries_any row5 Tryz.call137 Tryz.call138 fa fb (by decide) (by have h := areLike_any a.k b.k; rw [hk] at h; exact h) ht
theorem bin6B {R : Tm → Int → Prop} (ha : TAt w a a1 c1) (hb : TAt w b a2 c2) (fa : fixT a = true) (fb : fixT b = true) (hk : ((a.k == b.k) && fixK a.k) = true) (ht : ∀ W, Below w.heap.size w W → TAt W a a1 c1 → TAt W b a2 c2 → Calls Tryz.prog 139 #[sv a a1 c1 b a2 c2] W (OpB R W)) : Calls Tryz.prog 106 #[.int .i64 6, tv a a1 c1, tv b a2 c2] w (OpB R w) :=
  bin_goB ha hb binaries_any row6 Tryz.call137 Tryz.call139 fa fb (by decide) (by have h := areLike_any a.k b.k; rw [hk] at h; exact h) ht
theorem bin7B {R : Tm → Int → Prop} (ha : TAt w a a1 c1) (hb : TAt w b a2 c2) (fa : fixT a = true) (fb : fixT b = true) (hk : (bothB 2 a.k b.k || bothB 3 a.k b.k) = true) (ht : ∀ W, Below w.heap.size w W → TAt W a a1 c1 → TAt W b a2 c2 → Calls Tryz.prog 141 #[sv a a1 c1 b a2 c2] W (OpB R W)) : Calls Tryz.prog 106 #[.int .i64 7, tv a a1 c1, tv b a2 c2] w (OpB R w) :=
  bin_goB ha hb binaries_any row7 Tryz.call140 Tryz.call141 fa fb (by decide) (by have h := areAddable_any a.k b.k; rw [hk] at h; exact h) ht
theorem bin8B {R : Tm → Int → Prop} (ha : TAt w a a1 c1) (hb : TAt w b a2 c2) (fa : fixT a = true) (fb : fixT b = true) (hk : (bothB 2 a.k b.k) = true) (ht : ∀ W, Below w.heap.size w W → TAt W a a1 c1 → TAt W b a2 c2 → Calls Tryz.prog 143 #[sv a a1 c1 b a2 c2] W (OpB R W)) : Calls Tryz.prog 106 #[.int .i64 8, tv a a1 c1, tv b a2 c2] w (OpB R w) :=
  bin_goB ha hb binaries_any row8 Tryz.call142 Tryz.call143 fa fb (by decide) (by have h := areNumbers_any a.k b.k; rw [hk] at h; exact h) ht
theorem bin9B {R : Tm → Int → Prop} (ha : TAt w a a1 c1) (hb : TAt w b a2 c2) (fa : fixT a = true) (fb : fixT b = true) (hk : (bothB 2 a.k b.k) = true) (ht : ∀ W, Below w.heap.size w W → TAt W a a1 c1 → TAt W b a2 c2 → Calls Tryz.prog 144 #[sv a a1 c1 b a2 c2] W (OpB R W)) : Calls Tryz.prog 106 #[.int .i64 9, tv a a1 c1, tv b a2 c2] w (OpB R w) :=
  bin_goB ha hb binaries_any row9 Tryz.call142 Tryz.call144 fa fb (by decide) (by have h := areNumbers_any a.k b.k; rw [hk] at h; exact h) ht
theorem bin10B {R : Tm → Int → Prop} (ha : TAt w a a1 c1) (hb : TAt w b a2 c2) (fa : fixT a = true) (fb : fixT b = true) (hk : (bothB 2 a.k b.k) = true) (ht : ∀ W, Below w.heap.size w W → TAt W a a1 c1 → TAt W b a2 c2 → Calls Tryz.prog 145 #[sv a a1 c1 b a2 c2] W (OpB R W)) : Calls Tryz.prog 106 #[.int .i64 10, tv a a1 c1, tv b a2 c2] w (OpB R w) :=
  bin_goB ha hb binaries_any row10 Tryz.call142 Tryz.call145 fa fb (by decide) (by have h := areNumbers_any a.k b.k; rw [hk] at h; exact h) ht
theorem bin11B {R : Tm → Int → Prop} (ha : TAt w a a1 c1) (hb : TAt w b a2 c2) (fa : fixT a = true) (fb : fixT b = true) (hk : (bothB 3 a.k b.k || ((a.k == 7) && fixK b.k)) = true) (ht : ∀ W, Below w.heap.size w W → TAt W a a1 c1 → TAt W b a2 c2 → Calls Tryz.prog 147 #[sv a a1 c1 b a2 c2] W (OpB R W)) : Calls Tryz.prog 106 #[.int .i64 11, tv a a1 c1, tv b a2 c2] w (OpB R w) :=
  bin_goB ha hb binaries_any row11 Tryz.call146 Tryz.call147 fa fb (by decide) (by have h := areWholeAndPart_any a.k b.k; rw [hk] at h; exact h) ht
theorem bin12B {R : Tm → Int → Prop} (ha : TAt w a a1 c1) (hb : TAt w b a2 c2) (fa : fixT a = true) (fb : fixT b = true) (hk : (bothB 3 a.k b.k || bothB 5 a.k b.k) = true) (ht : ∀ W, Below w.heap.size w W → TAt W a a1 c1 → TAt W b a2 c2 → Calls Tryz.prog 149 #[sv a a1 c1 b a2 c2] W (OpB R W)) : Calls Tryz.prog 106 #[.int .i64 12, tv a a1 c1, tv b a2 c2] w (OpB R w) :=
  bin_goB ha hb binaries_any row12 Tryz.call148 Tryz.call149 fa fb (by decide) (by have h := areStrings_any a.k b.k; rw [hk] at h; exact h) ht
theorem bin13B {R : Tm → Int → Prop} (ha : TAt w a a1 c1) (hb : TAt w b a2 c2) (fa : fixT a = true) (fb : fixT b = true) (hk : (bothB 3 a.k b.k || bothB 5 a.k b.k) = true) (ht : ∀ W, Below w.heap.size w W → TAt W a a1 c1 → TAt W b a2 c2 → Calls Tryz.prog 150 #[sv a a1 c1 b a2 c2] W (OpB R W)) : Calls Tryz.prog 106 #[.int .i64 13, tv a a1 c1, tv b a2 c2] w (OpB R w) :=
  bin_goB ha hb binaries_any row13 Tryz.call148 Tryz.call150 fa fb (by decide) (by have h := areStrings_any a.k b.k; rw [hk] at h; exact h) ht
theorem bin14B {R : Tm → Int → Prop} (ha : TAt w a a1 c1) (hb : TAt w b a2 c2) (fa : fixT a = true) (fb : fixT b = true) (hk : (bothB 3 a.k b.k) = true) (ht : ∀ W, Below w.heap.size w W → TAt W a a1 c1 → TAt W b a2 c2 → Calls Tryz.prog 152 #[sv a a1 c1 b a2 c2] W (OpB R W)) : Calls Tryz.prog 106 #[.int .i64 14, tv a a1 c1, tv b a2 c2] w (OpB R w) :=
  bin_goB ha hb binaries_any row14 Tryz.call151 Tryz.call152 fa fb (by decide) (by have h := areTexts_any a.k b.k; rw [hk] at h; exact h) ht
theorem bin15B {R : Tm → Int → Prop} (ha : TAt w a a1 c1) (hb : TAt w b a2 c2) (fa : fixT a = true) (fb : fixT b = true) (hk : (bothB 7 a.k b.k) = true) (ht : ∀ W, Below w.heap.size w W → TAt W a a1 c1 → TAt W b a2 c2 → Calls Tryz.prog 154 #[sv a a1 c1 b a2 c2] W (OpB R W)) : Calls Tryz.prog 106 #[.int .i64 15, tv a a1 c1, tv b a2 c2] w (OpB R w) :=
  bin_goB ha hb binaries_any row15 Tryz.call153 Tryz.call154 fa fb (by decide) (by have h := areSets_any a.k b.k; rw [hk] at h; exact h) ht
theorem bin16B {R : Tm → Int → Prop} (ha : TAt w a a1 c1) (hb : TAt w b a2 c2) (fa : fixT a = true) (fb : fixT b = true) (hk : (bothB 7 a.k b.k) = true) (ht : ∀ W, Below w.heap.size w W → TAt W a a1 c1 → TAt W b a2 c2 → Calls Tryz.prog 155 #[sv a a1 c1 b a2 c2] W (OpB R W)) : Calls Tryz.prog 106 #[.int .i64 16, tv a a1 c1, tv b a2 c2] w (OpB R w) :=
  bin_goB ha hb binaries_any row16 Tryz.call153 Tryz.call155 fa fb (by decide) (by have h := areSets_any a.k b.k; rw [hk] at h; exact h) ht
theorem bin17B {R : Tm → Int → Prop} (ha : TAt w a a1 c1) (hb : TAt w b a2 c2) (fa : fixT a = true) (fb : fixT b = true) (hk : (bothB 2 a.k b.k) = true) (ht : ∀ W, Below w.heap.size w W → TAt W a a1 c1 → TAt W b a2 c2 → Calls Tryz.prog 156 #[sv a a1 c1 b a2 c2] W (OpB R W)) : Calls Tryz.prog 106 #[.int .i64 17, tv a a1 c1, tv b a2 c2] w (OpB R w) :=
  bin_goB ha hb binaries_any row17 Tryz.call142 Tryz.call156 fa fb (by decide) (by have h := areNumbers_any a.k b.k; rw [hk] at h; exact h) ht
theorem bin18B {R : Tm → Int → Prop} (ha : TAt w a a1 c1) (hb : TAt w b a2 c2) (fa : fixT a = true) (fb : fixT b = true) (hk : (bothB 2 a.k b.k) = true) (ht : ∀ W, Below w.heap.size w W → TAt W a a1 c1 → TAt W b a2 c2 → Calls Tryz.prog 157 #[sv a a1 c1 b a2 c2] W (OpB R W)) : Calls Tryz.prog 106 #[.int .i64 18, tv a a1 c1, tv b a2 c2] w (OpB R w) :=
  bin_goB ha hb binaries_any row18 Tryz.call142 Tryz.call157 fa fb (by decide) (by have h := areNumbers_any a.k b.k; rw [hk] at h; exact h) ht
theorem bin19B {R : Tm → Int → Prop} (ha : TAt w a a1 c1) (hb : TAt w b a2 c2) (fa : fixT a = true) (fb : fixT b = true) (hk : (bothB 2 a.k b.k) = true) (ht : ∀ W, Below w.heap.size w W → TAt W a a1 c1 → TAt W b a2 c2 → Calls Tryz.prog 158 #[sv a a1 c1 b a2 c2] W (OpB R W)) : Calls Tryz.prog 106 #[.int .i64 19, tv a a1 c1, tv b a2 c2] w (OpB R w) :=
  bin_goB ha hb binaries_any row19 Tryz.call142 Tryz.call158 fa fb (by decide) (by have h := areNumbers_any a.k b.k; rw [hk] at h; exact h) ht
theorem unlike_fre (ha : TAt w a a1 c1) (hb : TAt w b a2 c2) (hl : likeS a b = false) : Calls Tryz.prog 155 #[sv a a1 c1 b a2 c2] w (OpB (JoinR a b) w) :=
  (join_unlike ha hb hl).mono fun _ _ ⟨r, x, c, E, e1, e2, e3, e4⟩ => ⟨r, x, c, E, e1, e2, ⟨e3, .nil (by obtain ⟨rfl, _⟩ := e3.1 hl; rfl)⟩, e4⟩
/-- An operation of two sides, whatever code, whatever terms. -/
theorem Bin_any (c : Int) (hM : MaxL w) (ha : TAt w a a1 c1) (hb : TAt w b a2 c2) : Calls Tryz.prog 106 #[.int .i64 c, tv a a1 c1, tv b a2 c2] w (OpB (BinR c a b) w) := by
  cases fa : fixT a with
  | false => exact OpF.goodB (bin_a ha hb fa) zt_fl (.arg (by rw [fa]; intro h; cases h.1))
  | true =>
  cases fb : fixT b with
  | false => exact OpF.goodB (bin_b ha hb fa fb) zt_fl (.arg (by rw [fb]; intro h; cases h.2.1))
  | true =>
  by_cases hc : 1 ≤ c ∧ c ≤ 19
  · have na := ha.fits.2.1
    have nb := hb.fits.2.1
    have la := fix_list fa
    have lb := fix_list fb
    have hcc : c = 1 ∨ c = 2 ∨ c = 3 ∨ c = 4 ∨ c = 5 ∨ c = 6 ∨ c = 7 ∨ c = 8 ∨ c = 9 ∨ c = 10 ∨ c = 11 ∨ c = 12 ∨ c = 13 ∨ c = 14 ∨ c = 15 ∨ c = 16 ∨ c = 17 ∨ c = 18 ∨ c = 19 := by omega
    rcases hcc with rfl | rfl | rfl | rfl | rfl | rfl | rfl | rfl | rfl | rfl | rfl | rfl | rfl | rfl | rfl | rfl | rfl | rfl | rfl
    · have V : ∀ {r : Tm} {E : Int}, kindB 1 a.k b.k = true → opR 1 a b r E → BinR 1 a b r E := fun h1 h2 => .val fa fb (by decide) h1 h2
      cases hk : (bothB 2 a.k b.k || bothB 4 a.k b.k) with
      | false => exact OpF.goodB (bin1_type ha hb fa fb hk) zt_fl (.type fa fb (by decide) hk)
      | true =>
        refine (bin1B ha hb fa fb hk fun W hW hA hB => ?_)
        exact OpF.goodB (less_any _ _ _ _ _ _ _ _ _ _ _ _ W) (trueT_fl _) (V hk rfl)
    · have V : ∀ {r : Tm} {E : Int}, kindB 2 a.k b.k = true → opR 2 a b r E → BinR 2 a b r E := fun h1 h2 => .val fa fb (by decide) h1 h2
      cases hk : (bothB 2 a.k b.k || bothB 4 a.k b.k) with
      | false => exact OpF.goodB (bin2_type ha hb fa fb hk) zt_fl (.type fa fb (by decide) hk)
      | true =>
        refine (bin2B ha hb fa fb hk fun W hW hA hB => ?_)
        exact OpF.goodB (more_any _ _ _ _ _ _ _ _ _ _ _ _ W) (trueT_fl _) (V hk rfl)
    · have V : ∀ {r : Tm} {E : Int}, kindB 3 a.k b.k = true → opR 3 a b r E → BinR 3 a b r E := fun h1 h2 => .val fa fb (by decide) h1 h2
      cases hk : (bothB 2 a.k b.k || bothB 4 a.k b.k) with
      | false => exact OpF.goodB (bin3_type ha hb fa fb hk) zt_fl (.type fa fb (by decide) hk)
      | true =>
        refine (bin3B ha hb fa fb hk fun W hW hA hB => ?_)
        exact OpF.goodB (atMost_any _ _ _ _ _ _ _ _ _ _ _ _ W) (trueT_fl _) (V hk rfl)
    · have V : ∀ {r : Tm} {E : Int}, kindB 4 a.k b.k = true → opR 4 a b r E → BinR 4 a b r E := fun h1 h2 => .val fa fb (by decide) h1 h2
      cases hk : (bothB 2 a.k b.k || bothB 4 a.k b.k) with
      | false => exact OpF.goodB (bin4_type ha hb fa fb hk) zt_fl (.type fa fb (by decide) hk)
      | true =>
        refine (bin4B ha hb fa fb hk fun W hW hA hB => ?_)
        exact OpF.goodB (atLeast_any _ _ _ _ _ _ _ _ _ _ _ _ W) (trueT_fl _) (V hk rfl)
    · have V : ∀ {r : Tm} {E : Int}, kindB 5 a.k b.k = true → opR 5 a b r E → BinR 5 a b r E := fun h1 h2 => .val fa fb (by decide) h1 h2
      cases hk : ((a.k == b.k) && fixK a.k) with
      | false => exact OpF.goodB (bin5_type ha hb fa fb hk) zt_fl (.type fa fb (by decide) hk)
      | true =>
        refine (bin5B ha hb fa fb hk fun W hW hA hB => ?_)
        exact OpF.goodB (same_any hA hB) (trueT_fl _) (V hk rfl)
    · have V : ∀ {r : Tm} {E : Int}, kindB 6 a.k b.k = true → opR 6 a b r E → BinR 6 a b r E := fun h1 h2 => .val fa fb (by decide) h1 h2
      cases hk : ((a.k == b.k) && fixK a.k) with
      | false => exact OpF.goodB (bin6_type ha hb fa fb hk) zt_fl (.type fa fb (by decide) hk)
      | true =>
        refine (bin6B ha hb fa fb hk fun W hW hA hB => ?_)
        exact OpF.goodB (other_any hA hB) (trueT_fl _) (V hk rfl)
    · have V : ∀ {r : Tm} {E : Int}, kindB 7 a.k b.k = true → opR 7 a b r E → BinR 7 a b r E := fun h1 h2 => .val fa fb (by decide) h1 h2
      cases hk : (bothB 2 a.k b.k || bothB 3 a.k b.k) with
      | false => exact OpF.goodB (bin7_type ha hb fa fb hk) zt_fl (.type fa fb (by decide) hk)
      | true =>
        refine (bin7B ha hb fa fb hk fun W hW hA hB => ?_)
        have V2 : ∀ {r : Tm} {E : Int}, (r, E) = addF a b → BinR 7 a b r E := fun h => V hk h
        by_cases h3 : a.k = 3
        · have hb3 : b.k = 3 := by
            simp only [Bool.or_eq_true, both_iff] at hk
            omega
          have sa := (fix_text fa (.inl h3)).1
          have sb := (fix_text fb (.inl hb3)).1
          unfold sv
          rw [h3]
          by_cases hs : 256 < a.s.size + b.s.size
          · exact OpF.goodB (add_long _ _ _ _ _ _ _ _ _ _ _ sa sb hs W) zt_fl (V2 (by unfold addF; rw [if_pos h3, if_pos hs]))
          · have he : (a.s ++ b.s).size ≤ 256 := by rw [ByteArray.size_append]; omega
            exact OpF.goodB (add_text _ _ _ _ _ _ _ _ _ _ _ sa sb hs W) (textT_fl (by omega)) (V2 (by unfold addF; rw [if_pos h3, if_neg hs]))
        · exact OpF.goodB (add_num _ _ _ _ _ _ _ _ _ _ _ _ na nb h3 W) (numR_fl _) (V2 (by unfold addF; rw [if_neg h3]))
    · have V : ∀ {r : Tm} {E : Int}, kindB 8 a.k b.k = true → opR 8 a b r E → BinR 8 a b r E := fun h1 h2 => .val fa fb (by decide) h1 h2
      cases hk : (bothB 2 a.k b.k) with
      | false => exact OpF.goodB (bin8_type ha hb fa fb hk) zt_fl (.type fa fb (by decide) hk)
      | true =>
        refine (bin8B ha hb fa fb hk fun W hW hA hB => ?_)
        exact OpF.goodB (subtract_any _ _ _ _ _ _ _ _ _ _ _ _ na nb W) (numR_fl _) (V hk rfl)
    · have V : ∀ {r : Tm} {E : Int}, kindB 9 a.k b.k = true → opR 9 a b r E → BinR 9 a b r E := fun h1 h2 => .val fa fb (by decide) h1 h2
      cases hk : (bothB 2 a.k b.k) with
      | false => exact OpF.goodB (bin9_type ha hb fa fb hk) zt_fl (.type fa fb (by decide) hk)
      | true =>
        refine (bin9B ha hb fa fb hk fun W hW hA hB => ?_)
        exact OpF.goodB (multiply_any _ _ _ _ _ _ _ _ _ _ _ _ na nb W) (numR_fl _) (V hk rfl)
    · have V : ∀ {r : Tm} {E : Int}, kindB 10 a.k b.k = true → opR 10 a b r E → BinR 10 a b r E := fun h1 h2 => .val fa fb (by decide) h1 h2
      cases hk : (bothB 2 a.k b.k) with
      | false => exact OpF.goodB (bin10_type ha hb fa fb hk) zt_fl (.type fa fb (by decide) hk)
      | true =>
        refine (bin10B ha hb fa fb hk fun W hW hA hB => ?_)
        have V2 : ∀ {r : Tm} {E : Int}, (r, E) = divF a b → BinR 10 a b r E := fun h => V hk h
        by_cases h0 : b.n = 0
        · unfold sv
          rw [h0]
          exact OpF.goodB (divide_zero _ _ _ _ _ _ _ _ _ _ _ W) zt_fl (V2 (by unfold divF; rw [if_pos h0]))
        · exact OpF.goodB (divide_any _ _ _ _ _ _ _ _ _ _ _ _ na nb h0 W) (numR_fl _) (V2 (by unfold divF; rw [if_neg h0]))
    · have V : ∀ {r : Tm} {E : Int}, kindB 11 a.k b.k = true → opR 11 a b r E → BinR 11 a b r E := fun h1 h2 => .val fa fb (by decide) h1 h2
      cases hk : (bothB 3 a.k b.k || ((a.k == 7) && fixK b.k)) with
      | false => exact OpF.goodB (bin11_type ha hb fa fb hk) zt_fl (.type fa fb (by decide) hk)
      | true =>
        refine (bin11B ha hb fa fb hk fun W hW hA hB => ?_)
        have V2 : ∀ {v : Bool}, v = contR a b → BinR 11 a b (trueT v) 0 := fun h => V hk (by rw [h]; rfl)
        by_cases h3 : a.k = 3
        · have sa := (fix_text fa (.inl h3)).1
          unfold sv
          rw [h3]
          exact OpF.goodB (contains_text _ _ _ _ _ _ _ _ _ _ _ (by omega) (hM.ext hW)) (trueT_fl _) (V2 (by unfold contR; rw [if_pos h3]))
        · by_cases h7 : b.k = 7
          · exact OpF.goodB (contains_set hA hB h3 h7 lb.1) (trueT_fl _) (V2 (by unfold contR; rw [if_neg h3, if_pos h7]))
          · exact OpF.goodB (contains_one hA hB h3 h7) (trueT_fl _) (V2 (by unfold contR; rw [if_neg h3, if_neg h7]))
    · have V : ∀ {r : Tm} {E : Int}, kindB 12 a.k b.k = true → opR 12 a b r E → BinR 12 a b r E := fun h1 h2 => .val fa fb (by decide) h1 h2
      cases hk : (bothB 3 a.k b.k || bothB 5 a.k b.k) with
      | false => exact OpF.goodB (bin12_type ha hb fa fb hk) zt_fl (.type fa fb (by decide) hk)
      | true =>
        refine (bin12B ha hb fa fb hk fun W hW hA hB => ?_)
        exact OpF.goodB (starts_any _ _ _ _ _ _ _ _ _ _ _ _ W) (trueT_fl _) (V hk rfl)
    · have V : ∀ {r : Tm} {E : Int}, kindB 13 a.k b.k = true → opR 13 a b r E → BinR 13 a b r E := fun h1 h2 => .val fa fb (by decide) h1 h2
      cases hk : (bothB 3 a.k b.k || bothB 5 a.k b.k) with
      | false => exact OpF.goodB (bin13_type ha hb fa fb hk) zt_fl (.type fa fb (by decide) hk)
      | true =>
        refine (bin13B ha hb fa fb hk fun W hW hA hB => ?_)
        exact OpF.goodB (ends_any _ _ _ _ _ _ _ _ _ _ _ _ ha.fits.2.2.1 W) (trueT_fl _) (V hk rfl)
    · have V : ∀ {r : Tm} {E : Int}, kindB 14 a.k b.k = true → opR 14 a b r E → BinR 14 a b r E := fun h1 h2 => .val fa fb (by decide) h1 h2
      cases hk : (bothB 3 a.k b.k) with
      | false => exact OpF.goodB (bin14_type ha hb fa fb hk) zt_fl (.type fa fb (by decide) hk)
      | true =>
        refine (bin14B ha hb fa fb hk fun W hW hA hB => ?_)
        exact OpB.good (matches_R _ _ _ _ _ _ _ _ _ _ _ _ W) fun r E h => V hk h
    · have V : ∀ {r : Tm} {E : Int}, kindB 15 a.k b.k = true → opR 15 a b r E → BinR 15 a b r E := fun h1 h2 => .val fa fb (by decide) h1 h2
      cases hk : (bothB 7 a.k b.k) with
      | false => exact OpF.goodB (bin15_type ha hb fa fb hk) zt_fl (.type fa fb (by decide) hk)
      | true =>
        refine (bin15B ha hb fa fb hk fun W hW hA hB => ?_)
        exact OpB.good (meet_fre hA hB la.1) fun r E h => V hk h
    · have V : ∀ {r : Tm} {E : Int}, kindB 16 a.k b.k = true → opR 16 a b r E → BinR 16 a b r E := fun h1 h2 => .val fa fb (by decide) h1 h2
      cases hk : (bothB 7 a.k b.k) with
      | false => exact OpF.goodB (bin16_type ha hb fa fb hk) zt_fl (.type fa fb (by decide) hk)
      | true =>
        refine (bin16B ha hb fa fb hk fun W hW hA hB => ?_)
        have V2 : ∀ {r : Tm} {E : Int}, JoinR a b r E → BinR 16 a b r E := fun h => V hk h
        cases hl : likeS a b with
        | false => exact OpB.good (unlike_fre hA hB hl) fun _ _ h => V2 h
        | true => exact OpB.good (join_fre hA hB hl la.1 lb.1 la.2 lb.2) fun _ _ h => V2 h
    · have V : ∀ {r : Tm} {E : Int}, kindB 17 a.k b.k = true → opR 17 a b r E → BinR 17 a b r E := fun h1 h2 => .val fa fb (by decide) h1 h2
      cases hk : (bothB 2 a.k b.k) with
      | false => exact OpF.goodB (bin17_type ha hb fa fb hk) zt_fl (.type fa fb (by decide) hk)
      | true =>
        refine (bin17B ha hb fa fb hk fun W hW hA hB => ?_)
        exact OpF.goodB (andBits_any _ _ _ _ _ _ _ _ _ _ _ _ W) (numT_fl (bits_in _ _ _)) (V hk rfl)
    · have V : ∀ {r : Tm} {E : Int}, kindB 18 a.k b.k = true → opR 18 a b r E → BinR 18 a b r E := fun h1 h2 => .val fa fb (by decide) h1 h2
      cases hk : (bothB 2 a.k b.k) with
      | false => exact OpF.goodB (bin18_type ha hb fa fb hk) zt_fl (.type fa fb (by decide) hk)
      | true =>
        refine (bin18B ha hb fa fb hk fun W hW hA hB => ?_)
        exact OpF.goodB (orBits_any _ _ _ _ _ _ _ _ _ _ _ _ W) (numT_fl (bits_in _ _ _)) (V hk rfl)
    · have V : ∀ {r : Tm} {E : Int}, kindB 19 a.k b.k = true → opR 19 a b r E → BinR 19 a b r E := fun h1 h2 => .val fa fb (by decide) h1 h2
      cases hk : (bothB 2 a.k b.k) with
      | false => exact OpF.goodB (bin19_type ha hb fa fb hk) zt_fl (.type fa fb (by decide) hk)
      | true =>
        refine (bin19B ha hb fa fb hk fun W hW hA hB => ?_)
        exact OpF.goodB (xorBits_any _ _ _ _ _ _ _ _ _ _ _ _ W) (numT_fl (bits_in _ _ _)) (V hk rfl)
  · exact OpF.goodB (bin_c ha hb fa fb hc) zt_fl (.arg (fun h => hc h.2.2))
/-- What an operation of one side tells. -/
def unF (c : Int) (a : Tm) : Tm × Int :=
  if fixT a = true ∧ 1 ≤ c ∧ c ≤ 3 then
    (if c = 1 then (if a.k = 6 then (trueT (a.n == 0), 0) else (zt, 7))
     else if c = 2 then (if a.k = 2 then (numR (-a.n), numE (-a.n)) else (zt, 7))
     else if a.k = 3 ∨ a.k = 5 then (numT (a.s.size : Int), 0) else if a.k = 7 then (numT (a.l.length : Int), 0) else (zt, 7))
  else (zt, 1)
theorem Un_any (c : Int) (ha : TAt w a a1 c1) : Calls Tryz.prog 105 #[.int .i64 c, tv a a1 c1] w (OpF (unF c a).1 (unF c a).2 w) ∧ Fl (unF c a).1 := by
  have key : ∀ (p : Tm × Int), Calls Tryz.prog 105 #[.int .i64 c, tv a a1 c1] w (OpF p.1 p.2 w) → Fl p.1 → unF c a = p → Calls Tryz.prog 105 #[.int .i64 c, tv a a1 c1] w (OpF (unF c a).1 (unF c a).2 w) ∧ Fl (unF c a).1 := fun p h1 h2 h3 => by rw [h3]; exact ⟨h1, h2⟩
  cases fa : fixT a with
  | false => exact key (zt, 1) (un_unfixed ha c fa) zt_fl (by unfold unF; rw [if_neg (by rw [fa]; intro h; cases h.1)])
  | true =>
  by_cases h1 : c < 1
  · exact key (zt, 1) (un_low ha c fa h1) zt_fl (by unfold unF; rw [if_neg (by omega)])
  by_cases h3 : 3 < c
  · exact key (zt, 1) (un_high ha c fa h3) zt_fl (by unfold unF; rw [if_neg (by omega)])
  have na := ha.fits.2.1
  have hcc : c = 1 ∨ c = 2 ∨ c = 3 := by omega
  have hu : ∀ x, unF x a = if fixT a = true ∧ 1 ≤ x ∧ x ≤ 3 then _ else _ := fun x => rfl
  rcases hcc with rfl | rfl | rfl
  · by_cases h6 : a.k = 6
    · exact key (trueT (a.n == 0), 0) (un_not ha fa fun W => by unfold tv; rw [h6]; exact not_any _ _ _ _ _ W) (trueT_fl _) (by unfold unF; rw [if_pos ⟨fa, by decide⟩, if_pos rfl, if_pos h6])
    · exact key (zt, 7) (un_not ha fa fun W => not_bad _ _ _ _ _ _ h6 W) zt_fl (by unfold unF; rw [if_pos ⟨fa, by decide⟩, if_pos rfl, if_neg h6])
  · by_cases h2 : a.k = 2
    · exact key (numR (-a.n), numE (-a.n)) (un_negative ha fa fun W => by unfold tv; rw [h2]; exact neg_any _ _ _ _ _ na W) (numR_fl _) (by unfold unF; rw [if_pos ⟨fa, by decide⟩, if_neg (by decide), if_pos rfl, if_pos h2])
    · exact key (zt, 7) (un_negative ha fa fun W => neg_bad _ _ _ _ _ _ h2 W) zt_fl (by unfold unF; rw [if_pos ⟨fa, by decide⟩, if_neg (by decide), if_pos rfl, if_neg h2])
  · have hs := ha.fits.2.2.1
    have hl := ha.list.1
    have hl2 := ha.list.2.1
    have e0 : unF 3 a = if a.k = 3 ∨ a.k = 5 then (numT (a.s.size : Int), 0) else if a.k = 7 then (numT (a.l.length : Int), 0) else (zt, 7) := by unfold unF; rw [if_pos ⟨fa, by decide⟩, if_neg (by decide), if_neg (by decide)]
    by_cases e3 : a.k = 3
    · exact key (numT (a.s.size : Int), 0) (un_length ha fa fun W => by unfold tv; rw [e3]; exact len3_any _ _ _ _ _ W) (numT_fl ⟨by omega, by omega⟩) (by rw [e0, if_pos (.inl e3)])
    by_cases e5 : a.k = 5
    · exact key (numT (a.s.size : Int), 0) (un_length ha fa fun W => by unfold tv; rw [e5]; exact len5_any _ _ _ _ _ W) (numT_fl ⟨by omega, by omega⟩) (by rw [e0, if_pos (.inr e5)])
    by_cases e7 : a.k = 7
    · exact key (numT (a.l.length : Int), 0) (un_length ha fa fun W => by unfold tv; rw [e7]; exact len7_any _ _ _ _ _ W) (numT_fl ⟨by omega, by omega⟩) (by rw [e0, if_neg (by omega), if_pos e7])
    · exact key (zt, 7) (un_length ha fa fun W => len_bad _ _ _ _ _ _ e3 e5 e7 W) zt_fl (by rw [e0, if_neg (by omega), if_neg e7])
def GoodP (p : Tm × Int) : Prop := GoodR p.1 p.2
theorem goodP_ite {p : Prop} [Decidable p] {x y : Tm × Int} (h1 : GoodP x) (h2 : GoodP y) : GoodP (if p then x else y) := by
  by_cases h : p
  · rw [if_pos h]; exact h1
  · rw [if_neg h]; exact h2
theorem opR_good {c : Int} {r : Tm} {E : Int} (h : opR c a b r E) : GoodR r E := by
  unfold opR at h
  by_cases h14 : c = 14
  · rw [if_pos h14] at h
    unfold MatR at h
    split at h
    · obtain ⟨rfl, c, rfl, _⟩ := h; exact good_true c
    · obtain ⟨rfl, rfl, h3⟩ := h; exact good_zt (by omega)
  rw [if_neg h14] at h
  by_cases h15 : c = 15
  · rw [if_pos h15] at h; exact good_set h
  rw [if_neg h15] at h
  by_cases h16 : c = 16
  · rw [if_pos h16] at h; exact good_join h
  rw [if_neg h16] at h
  have key : ∀ p : Tm × Int, (r, E) = p → GoodR p.1 p.2 → GoodR r E := fun p h1 h2 => by
    have e1 : r = p.1 := congrArg Prod.fst h1
    have e2 : E = p.2 := congrArg Prod.snd h1
    rw [e1, e2]; exact h2
  refine key _ h ?_
  show GoodP (opF c a b)
  unfold opF
  by_cases e7 : c = 7
  · subst e7
    rw [if_neg (by decide), if_neg (by decide), if_neg (by decide), if_neg (by decide), if_neg (by decide), if_neg (by decide), if_pos rfl]
    unfold addF GoodP
    split
    · split
      · exact good_zt (by decide)
      · refine ⟨fun _ => fix_textT (by rw [ByteArray.size_append]; omega), fun h => absurd rfl h⟩
    · exact good_num _
  by_cases e10 : c = 10
  · subst e10
    rw [if_neg (by decide), if_neg (by decide), if_neg (by decide), if_neg (by decide), if_neg (by decide), if_neg (by decide), if_neg (by decide), if_neg (by decide), if_neg (by decide), if_pos rfl]
    unfold divF GoodP
    split
    · exact good_zt (by decide)
    · exact good_num _
  rw [if_neg e7, if_neg e10]
  repeat' refine goodP_ite ?_ ?_
  all_goals first | exact (good_true _ : GoodR _ _) | exact (good_num _ : GoodR _ _) | exact (good_numT _ : GoodR _ _)
theorem bin_R_good {c : Int} {r : Tm} {E : Int} (h : BinR c a b r E) : GoodR r E := by
  unfold BinR at h
  by_cases h1 : fixT a = true ∧ fixT b = true ∧ 1 ≤ c ∧ c ≤ 19
  · rw [if_pos h1] at h
    by_cases h2 : kindB c a.k b.k = true
    · rw [if_pos h2] at h; exact opR_good h
    · rw [if_neg h2] at h; obtain ⟨rfl, rfl⟩ := h; exact good_zt (by decide)
  · rw [if_neg h1] at h; obtain ⟨rfl, rfl⟩ := h; exact good_zt (by decide)
theorem un_F_good (c : Int) (a : Tm) : GoodR (unF c a).1 (unF c a).2 := by
  unfold unF
  repeat' split
  all_goals first | exact good_zt (by decide) | exact good_true _ | exact good_num _ | exact good_numT _
end Go.Proofs.YteiacgpaocnofaaGreat
/- What a name is bound to: the program's calls find, own, Look. -/
namespace Go.Proofs.YteiacgpaocnofaaGreat
open Go.RowKit
/-- What is found: the term, or none. -/
def lkR (o : Option Tm) (r : Tm) (f : Bool) : Prop := match o with | some t => r = t ∧ f = true | none => r = zt ∧ f = false
/-- A term's list, if it has one, lies in memory that was there. -/
def OldA (w : World) (r : Tm) (a : Option Addr) : Prop := r.l ≠ [] → ∃ b o, a = some ⟨b, o, none⟩ ∧ b < w.heap.size
theorem TAt.old {w : World} {r : Tm} {a : Option Addr} {c : Nat} (h : TAt w r a c) : OldA w r a := fun hne => by
  obtain ⟨_, _, b, o, _, _, hb, _⟩ := h.list
  exact ⟨b, o, (hb hne).1, (hb hne).2⟩
variable {nl : List ByteArray} {na : Option Addr} {nc : Nat} {tl : List Tm} {ta : Option Addr} {tc : Nat} {w : World}
def FindA (o : Option Tm) (W0 w : World) (e : Ending) (w' : World) : Prop := ∃ r a c f, e = .returned (.tuple #[tv r a c, .bool f]) ∧ TAt W0 r a c ∧ lkR o r f ∧ Below w.heap.size w w'
set_option maxRecDepth 100000 in
set_option maxHeartbeats 8000000 in
theorem find_any {W0 : World} (h : BAt W0 nl na nc tl ta tc) (hE : Below W0.heap.size W0 w) (hm : Mb nl tl) (s : ByteArray) : Calls Tryz.prog 37 #[bv nl na nc tl ta tc, .string s] w (FindA (lkT nl tl s) W0 w) := by
  obtain ⟨b0, r1, r0⟩ := two_alloc w (bvC nl na nc tl ta tc) 28
  have HX := hide (And.intro b0 (And.intro r0 (And.intro r1 h)))
  have HM := hide hm
  have HC := hide (BSearch_any s (h.nm.ext (Below.chain hE b0)) hm.rise hm.few)
  have HE := hide hE
  clear b0 r0 r1 h hm hE
  unfold bv
  go_enter Tryz.func37, Tryz.ntmps37
  go_wp2_with fail
  refine HC.out.mono ?_
  rintro e_ w1 ⟨⟨i, f, rfl, hi⟩, b1⟩
  have HF := hide hi
  have R0 := hide (Below.heap b1 (Array.getElem?_eq_some_iff.1 HX.out.2.1).1 HX.out.2.1)
  have R1 := hide (Below.heap b1 (Array.getElem?_eq_some_iff.1 HX.out.2.2.1).1 HX.out.2.2.1)
  have HB := hide (Below.chain HX.out.1 b1)
  clear hi b1 HC
  have q0 := cell_of_row _ _ 0 _ _ _ R0.out
  have q1 := cell_of_row _ _ 1 _ _ _ R0.out
  simp only [List.getElem?_toArray, List.getElem?_cons_zero, List.getElem?_cons_succ] at q0 q1
  cases f with
  | false =>
    go_wp2_with (refine wpList_store_row rfl 33 (.tmp 4) (.tmp 17) rfl (w.heap.size + 1) ztC rfl rfl 33 ztC R1.out (by kernel_rfl) rfl (by kernel_rfl) ?_)
    refine bodyPost_ret_by (results_row_tmp rfl _ _ (w.heap.size + 1) 33 _ (0, 0) _ rfl (setRow_heap _ _ _ _ _ _ R1.out) Tryz.underlying33 rfl (by kernel_rfl)) rfl ?_
    refine ⟨zt, none, 0, false, rfl, zt_fl.at W0, ?_, Below.setRow HB.out _ _ (Nat.le_succ _)⟩
    rw [lk_none (HF.out.2.2 rfl)]
    exact ⟨rfl, rfl⟩
  | true =>
    have hs := HF.out.2.1 rfl
    have hil := (List.getElem?_eq_some_iff.1 hs).1
    have hit : i < tl.length := by rw [← HM.out.len]; exact hil
    obtain ⟨bb, o, rfl, hbb, hcs⟩ := HX.out.2.2.2.tm.read (by omega)
    obtain ⟨x, hx⟩ : ∃ x, tl[i]? = some x := ⟨_, List.getElem?_eq_getElem hit⟩
    obtain ⟨xa, xc, hxt, hx4⟩ := hcs i x hx
    obtain ⟨p0, p1, p2, p3⟩ := hx4 w1 (Below.chain HE.out HB.out)
    have hix := fun w_ => ix_terms w_ bb o tl.length tc i hit
    have HL := hide (lk_at HM.out.rise hs hx)
    have HT := hide hxt
    clear hcs hx4 hxt hx hs hil
    go_wp2_with (refine wpList_store_row rfl 33 (.tmp 4) (.tmp 22) rfl (w.heap.size + 1) (tvC x xa xc) rfl rfl 33 ztC R1.out (by kernel_rfl) rfl (by kernel_rfl) ?_)
    refine bodyPost_ret_by (results_row_tmp rfl _ _ (w.heap.size + 1) 33 _ (0, 0) _ rfl (setRow_heap _ _ _ _ _ _ R1.out) Tryz.underlying33 rfl (by kernel_rfl)) rfl ?_
    refine ⟨x, xa, xc, true, rfl, HT.out, ?_, Below.setRow HB.out _ _ (Nat.le_succ _)⟩
    rw [HL.out]
    exact ⟨rfl, rfl⟩
/-- So many of a term's own row are copied. -/
structure OwS (w : World) (t : Tm) (a : Option Addr) (c : Nat) (k : Nat) (v : Value) (wr : World) : Prop where
  row : wr.ownsRow (w.heap.size + 2) 33 4 v k (tcs (t.l.take k))
  bel : Below w.heap.size w wr
  r0 : wr.heap[w.heap.size]? = some (.cells (tvC t a c) 33 (0, 0))
  r1 : wr.heap[w.heap.size + 1]? = some (.cells ztC 33 (0, 0))
  big : w.heap.size + 2 ≤ wr.heap.size
theorem OwS.ext {w wr w' : World} {t : Tm} {a : Option Addr} {c k : Nat} {v : Value} (h : OwS w t a c k v wr) (he : Below wr.heap.size wr w') : OwS w t a c k v w' :=
  ⟨row_ext h.row he, Below.chain h.bel he, Below.heap he (Array.getElem?_eq_some_iff.1 h.r0).1 h.r0, Below.heap he (Array.getElem?_eq_some_iff.1 h.r1).1 h.r1, Nat.le_trans h.big he.size⟩
theorem OwS.put {w wr w' : World} {t x : Tm} {a : Option Addr} {c k : Nat} {v v' : Value} (h : OwS w t a c k v wr) (hx : t.l[k]? = some x)
    (ho : w'.ownsRow (w.heap.size + 2) 33 4 v' (k + 1) (tcs (t.l.take k) ++ tcs [x])) (hg : wr.grownBy w' v.ownBlock) : OwS w t a c (k + 1) v' w' := by
  have hX : ∀ g, v.ownBlock = some g → w.heap.size + 2 ≤ g := fun g hg => (h.row.lt g hg).1
  have hb := h.big
  refine ⟨?_, below_grow h.bel hg (fun g hg => by have := hX g hg; omega) h.bel.size, (hg.block _ (by omega) (fun e => by have := hX _ e.symm; omega)).trans h.r0, (hg.block _ (by omega) (fun e => by have := hX _ e.symm; omega)).trans h.r1, Nat.le_trans hb hg.size⟩
  have e : t.l.take (k + 1) = t.l.take k ++ [x] := by rw [List.take_add_one, hx]; rfl
  rw [e, tcs_app]
  exact ho
/-- What own tells: the same term, its list in memory of its own. -/
def OwnA (t : Tm) (w : World) (e : Ending) (w' : World) : Prop := ∃ a c, e = .returned (tv t a c) ∧ TAt w' t a c ∧ FreA w.heap.size t a ∧ Below w.heap.size w w'
theorem tcs_one (x : Tm) : tcs [x] = [.int .i64 x.k, .int .i64 x.n, .string x.s, .slice none 0 0] := rfl
theorem row_cell {w : World} {B n : Nat} {v : Value} {xs : List Value} (h : w.ownsRow B 33 4 v n xs) (p : Addr) (hk : p.block < B) (u : Value) : (w.setCell p u).ownsRow B 33 4 v n xs :=
  ⟨h.1, by
    rcases h.2 with h1 | ⟨g, cap, cur, e, hb, hr, hn⟩
    · exact .inl h1
    · exact .inr ⟨g, cap, cur, e, hb, (Below.heap_setCell _ p u g (by omega)).trans hr, hn⟩⟩
theorem flat_one (x : Tm) : ∀ u ∈ tcs [x], u.oneCell' = true := fun u hu => by
  simp [tcs_one] at hu
  rcases hu with rfl | rfl | rfl | rfl <;> rfl
theorem flat_news {W : World} {g : Nat} {x : Tm} (h : W.heap[g]? = some (.cells #[.int .i64 x.k, .int .i64 x.n, .string x.s, .slice none 0 0] 33 (0, 0))) : ∀ j u, (tcs [x])[j]? = some u → W.cell? (Addr.add ⟨g, 0, none⟩ j) = some u := fun j u hu => by
  rw [Addr.add_mid, Nat.zero_add, cell_of_row _ _ _ _ _ _ h]
  simpa [tcs_one] using hu
theorem flat_fl {w : World} {x : Tm} {a : Option Addr} {c : Nat} (h : TAt w x a c) (hl : x.l = []) : Fl x := by
  have := h.fits
  exact ⟨hl, this.1, this.2.1, this.2.2.1, by rw [hl]; exact Nat.le_refl 0, Nat.zero_le _⟩
set_option maxRecDepth 100000 in
set_option maxHeartbeats 8000000 in
theorem own_any {t : Tm} {a : Option Addr} {c : Nat} (h : TAt w t a c) (hfl : ∀ x ∈ t.l, x.l = []) (hn : t.l.length ≤ 16) : Calls Tryz.prog 32 #[tv t a c] w (OwnA t w) := by
  obtain ⟨b0, r1, r0⟩ := two_alloc w (tvC t a c) 33
  have HS0 := hide (show OwS w t a c 0 (.slice none 0 0) ((w.alloc (.cells (tvC t a c) 33)).alloc (.cells ztC 33)) from ⟨World.ownsRow_nil _ _ _ _, b0, r0, r1, by simp⟩)
  have HL := hide (And.intro h.list (And.intro h (And.intro hfl hn)))
  have hm1 : (t.l.length : Int) ≤ 16 := by omega
  unfold tv
  clear b0 r0 r1 h hfl hn
  go_enter Tryz.func32, Tryz.ntmps32
  go_wp2
  go_loopw [9, 3] (fun j s wr => ∃ k : Nat, k ≤ t.l.length ∧ j = .int .i64 (k : Int) ∧ OwS w t a c k s wr) (fun j _ _ => t.l.length - (intOf j).toNat)
  case atStart => exact ⟨0, Nat.zero_le _, rfl, HS0.out⟩
  case round =>
    obtain ⟨k, hk, rfl, hS⟩ := hrel
    by_cases hlt : k < t.l.length
    · obtain ⟨x, hx⟩ : ∃ x, t.l[k]? = some x := ⟨_, List.getElem?_eq_getElem hlt⟩
      obtain ⟨g, o, hao, hbb, hcs⟩ := HL.out.1.read (by omega)
      subst hao
      obtain ⟨xa, xc, hxt, hc4⟩ := hcs k x hx
      obtain ⟨p0, p1, p2, p3⟩ := hc4 wr hS.bel
      have hix := fun w_ => ix_terms w_ g o t.l.length c k hlt
      have HX := hide (And.intro hS hx)
      have hk16 : k ≤ 16 := by omega
      clear hS hcs hc4 hxt hx
      go_upto_region 5 with fail
      have ra := heap_alloc_last wr (.cells (tvC x xa xc) 33)
      have bA := alloc_below wr (.cells (tvC x xa xc) 33)
      have hG : w.heap.size + 2 ≤ wr.heap.size := HX.out.1.big
      have HA := hide (And.intro bA (And.intro ra hG))
      obtain ⟨y0, f0⟩ := row_reads ra
      have c3 := y0 3
      have f3 := f0 3
      simp only [List.getElem?_toArray, List.getElem?_cons_zero, List.getElem?_cons_succ] at c3
      clear y0 f0 ra bA hG p0 p1 p2 p3 hix
      generalize hGE : wr.heap.size = G at *
      have HGE := hide hGE
      clear hGE
      generalize wr.alloc (.cells (tvC x xa xc) 33) = Wa at *
      go_upto_region 6 with fail
      have rb : (Wa.setCell ⟨G, 3, none⟩ (.slice none 0 0)).heap[G]? = some (.cells #[.int .i64 x.k, .int .i64 x.n, .string x.s, .slice none 0 0] 33 (0, 0)) := heap_setCell_same _ _ _ _ _ _ HA.out.2.1
      have bB := Below.setCell (p := ⟨G, 3, none⟩) HA.out.1 (Nat.le_refl G) (.slice none 0 0)
      have SB := HX.out.1.ext (show Below wr.heap.size wr (Wa.setCell ⟨G, 3, none⟩ (.slice none 0 0)) from by rw [HGE.out]; exact bB)
      clear c3 f3
      generalize Wa.setCell ⟨G, 3, none⟩ (.slice none 0 0) = Wb at *
      obtain ⟨y0, _⟩ := row_reads rb
      have A0 := y0 0
      have A1 := y0 1
      have A2 := y0 2
      have A3 := y0 3
      simp only [List.getElem?_toArray, List.getElem?_cons_zero, List.getElem?_cons_succ] at A0 A1 A2 A3
      have SY := SB.ext (alloc_below Wb (.cells #[.int .i64 x.k, .int .i64 x.n, .string x.s, .slice none 0 0] 33))
      have HY := hide SY
      have o1 := SY.row
      have o2 := SY.big
      clear SY SB bB rb y0
      go_wp2_with (at_builtin; refine wpList_append_r appT rfl (.tmp 14) (.tmp 16) rfl (base := w.heap.size + 2) (n := k) (xs := tcs (t.l.take k)) o1 (ad := ⟨_, 0, none⟩) (m := 1) (c := 1) (news := tcs [x]) rfl rfl (flat_news (heap_alloc_last _ _)) (flat_one x) (by unfold maxLen; omega) (by omega) o2 ?_)
      intro v5 w5 o5 g5
      have HN := hide (HY.out.put HX.out.2 o5 g5)
      clear HY o5 g5 o1 o2 A0 A1 A2 A3
      go_wp2
      go_roundw
      case rel => exact ⟨k + 1, by omega, by go_num, HN.out⟩
      case measure => simp [intOf]; omega
    · obtain rfl : k = t.l.length := by omega
      have hrow := hS.row
      rw [List.take_length] at hrow
      have hFl : ∀ z ∈ t.l, Fl z := fun z hz => by
        obtain ⟨i, hi⟩ := List.mem_iff_getElem?.1 hz
        obtain ⟨_, _, _, _, _, _, _, hc⟩ := HL.out.1
        exact flat_fl (hc i z hi).2 (HL.out.2.2.1 z hz)
      obtain ⟨a', c', rfl, _⟩ := row_lat hrow hFl
      have HN := hide (And.intro hS (And.intro hrow hFl))
      obtain ⟨y0, f0⟩ := row_reads hS.r0
      have c3 := y0 3
      have f3 := f0 3
      simp only [List.getElem?_toArray, List.getElem?_cons_zero, List.getElem?_cons_succ] at c3
      clear y0 f0 hS hrow hFl
      go_upto_region 9 with fail
      have rb : (wr.setCell ⟨w.heap.size, 3, none⟩ (.slice a' t.l.length c')).heap[w.heap.size]? = some (.cells (tvC t a' c') 33 (0, 0)) := heap_setCell_same _ _ _ _ _ _ HN.out.1.r0
      have rc : (wr.setCell ⟨w.heap.size, 3, none⟩ (.slice a' t.l.length c')).heap[w.heap.size + 1]? = some (.cells ztC 33 (0, 0)) := (Below.heap_setCell _ ⟨w.heap.size, 3, none⟩ _ (w.heap.size + 1) (by simp)).trans HN.out.1.r1
      have HO := hide (row_cell HN.out.2.1 ⟨w.heap.size, 3, none⟩ (by simp) (.slice a' t.l.length c'))
      have HB := hide (Below.setCell (p := ⟨w.heap.size, 3, none⟩) HN.out.1.bel (Nat.le_refl _) (.slice a' t.l.length c'))
      clear c3 f3
      generalize wr.setCell ⟨w.heap.size, 3, none⟩ (.slice a' t.l.length c') = Wb at *
      obtain ⟨y0, _⟩ := row_reads rb
      have A0 := y0 0
      have A1 := y0 1
      have A2 := y0 2
      have A3 := y0 3
      simp only [List.getElem?_toArray, List.getElem?_cons_zero, List.getElem?_cons_succ] at A0 A1 A2 A3
      clear y0 rb
      go_wp2_with (refine wpList_store_row rfl 33 (.tmp 2) (.tmp 21) rfl (w.heap.size + 1) (tvC t a' c') rfl rfl 33 ztC rc (by kernel_rfl) rfl (by kernel_rfl) ?_)
      refine bodyPost_ret_by (results_cell_row rfl _ _ (w.heap.size + 1) 33 _ (0, 0) _ rfl (setRow_heap _ _ _ _ _ _ rc) Tryz.underlying33 rfl (by kernel_rfl)) rfl ?_
      have hrow := row_set HO.out (k := w.heap.size + 1) (by omega) (tvC t a' c')
      obtain ⟨a2, c2, e2, hL⟩ := row_lat hrow HN.out.2.2
      injection e2 with e3 _ e4
      subst e3; subst e4
      have hf := HL.out.2.1.fits
      exact ⟨a', c', rfl, LAt.term hL ⟨hf.1, hf.2.1, hf.2.2.1, hL.1, hL.2.1⟩, (own_fre hrow t.k t.n t.s).low (by omega), Below.setRow HB.out _ _ (Nat.le_succ _)⟩
end Go.Proofs.YteiacgpaocnofaaGreat
/- What a name is bound to: the program's call Look. -/
namespace Go.Proofs.YteiacgpaocnofaaGreat
open Go.RowKit
variable {nl : List ByteArray} {na : Option Addr} {nc : Nat} {tl : List Tm} {ta : Option Addr} {tc : Nat} {w : World}
/-- What a name is bound to, if the bindings may be. -/
def lookF (nl : List ByteArray) (tl : List Tm) (s : ByteArray) : Option Tm := if mbB nl tl = true then lkT nl tl s else none
theorem look_fix {nl : List ByteArray} {tl : List Tm} {s : ByteArray} {t : Tm} (h : lookF nl tl s = some t) : fixT t = true := by
  unfold lookF at h
  by_cases hm : mbB nl tl = true
  · rw [if_pos hm] at h
    exact (mb_iff.1 hm).fix (lk_mem h).1
  · rw [if_neg hm] at h; cases h
theorem lk_flat {o : Option Tm} {r : Tm} {f : Bool} (ho : ∀ t, o = some t → fixT t = true) (h : lkR o r f) : (∀ x ∈ r.l, x.l = []) ∧ r.l.length ≤ 16 := by
  cases o with
  | none =>
    obtain ⟨rfl, _⟩ := h
    exact ⟨fun x hx => by simp [zt, Tm.l] at hx, by decide⟩
  | some t =>
    obtain ⟨rfl, _⟩ := h
    exact ⟨(fix_list (ho r rfl)).2, (fix_list (ho r rfl)).1⟩
def LookA (o : Option Tm) (w : World) (e : Ending) (w' : World) : Prop := ∃ r a c f, e = .returned (.tuple #[tv r a c, .bool f]) ∧ TAt w' r a c ∧ lkR o r f ∧ FreA w.heap.size r a ∧ Lo r ∧ Below w.heap.size w w'
theorem fix_lo {t : Tm} (h : fixT t = true) : Lo t := fun x hx => by
  refine ⟨(fix_list h).2 x hx, ?_⟩
  by_cases h7 : t.k = 7
  · have h2 := (fix_set h h7).1
    unfold fitB at h2
    simp only [Bool.and_eq_true, List.all_eq_true] at h2
    exact one_k0 (h2.2 x hx)
  · rw [(fix_flat h h7).1] at hx; simp at hx
theorem lk_lo {o : Option Tm} {r : Tm} {f : Bool} (ho : ∀ t, o = some t → fixT t = true) (h : lkR o r f) : Lo r := by
  cases o with
  | none => obtain ⟨rfl, _⟩ := h; exact .flat zt_fl
  | some t => obtain ⟨rfl, _⟩ := h; exact fix_lo (ho r rfl)
set_option maxRecDepth 100000 in
set_option maxHeartbeats 8000000 in
theorem Look_any (h : BAt w nl na nc tl ta tc) (s : ByteArray) : Calls Tryz.prog 16 #[bv nl na nc tl ta tc, .string s] w (LookA (lookF nl tl s) w) := by
  obtain ⟨b0, r1, r0⟩ := two_alloc w (bvC nl na nc tl ta tc) 28
  have HX := hide (And.intro b0 (And.intro r0 (And.intro r1 h)))
  have HC := hide (MayBind_any (h.ext b0))
  have q0 := cell_of_row _ _ 0 _ _ _ r0
  have q1 := cell_of_row _ _ 1 _ _ _ r0
  simp only [List.getElem?_toArray, List.getElem?_cons_zero, List.getElem?_cons_succ] at q0 q1
  clear b0 r0 r1 h
  obtain ⟨M, hM⟩ : ∃ v, mbB nl tl = v := ⟨_, rfl⟩
  have HM := hide hM
  rw [hM] at HC
  replace HC := hide HC.out
  clear hM
  unfold bv at *
  go_enter Tryz.func16, Tryz.ntmps16
  go_wp2_with fail
  refine HC.out.mono ?_
  rintro e_ w1 ⟨rfl, b1⟩
  have R0 := hide (Below.heap b1 (Array.getElem?_eq_some_iff.1 HX.out.2.1).1 HX.out.2.1)
  have R1 := hide (Below.heap b1 (Array.getElem?_eq_some_iff.1 HX.out.2.2.1).1 HX.out.2.2.1)
  have HB := hide (Below.chain HX.out.1 b1)
  clear b1 HC q0 q1
  cases M with
  | false =>
    go_wp2_with (refine wpList_store_row rfl 33 (.tmp 4) (.tmp 11) rfl (w.heap.size + 1) ztC rfl rfl 33 ztC R1.out (by kernel_rfl) rfl (by kernel_rfl) ?_)
    refine bodyPost_ret_by (results_row_tmp rfl _ _ (w.heap.size + 1) 33 _ (0, 0) _ rfl (setRow_heap _ _ _ _ _ _ R1.out) Tryz.underlying33 rfl (by kernel_rfl)) rfl ?_
    refine ⟨zt, none, 0, false, rfl, zt_fl.at _, ?_, .nil rfl, .flat zt_fl, Below.setRow HB.out _ _ (Nat.le_succ _)⟩
    unfold lookF
    rw [HM.out]
    exact ⟨rfl, rfl⟩
  | true =>
    have q0 := cell_of_row _ _ 0 _ _ _ R0.out
    have q1 := cell_of_row _ _ 1 _ _ _ R0.out
    simp only [List.getElem?_toArray, List.getElem?_cons_zero, List.getElem?_cons_succ] at q0 q1
    have hmb := mb_iff.1 HM.out
    have HF := hide (find_any (HX.out.2.2.2.ext HB.out) (Below.refl _ _) hmb s)
    unfold bv at HF
    have HO : Hid (∀ t, lkT nl tl s = some t → fixT t = true) := hide (fun t ht => hmb.fix (lk_mem ht).1)
    have HLK : Hid (lookF nl tl s = lkT nl tl s) := hide (by unfold lookF; rw [HM.out]; rfl)
    clear hmb
    go_wp2_with fail
    refine HF.out.mono ?_
    rintro e_ w2 ⟨r, ra, rc, f, rfl, hr, hlk, b2⟩
    have bA := alloc_below w2 (.cells (tvC r ra rc) 33)
    have RA := heap_alloc_last w2 (.cells (tvC r ra rc) 33)
    have b2A := Below.chain b2 bA
    have R1A := hide (Below.heap b2A (Array.getElem?_eq_some_iff.1 R1.out).1 R1.out)
    have HBA := hide (Below.chain HB.out b2A)
    have hfl := lk_flat HO.out hlk
    have HW := hide (own_any (hr.ext b2A) hfl.1 hfl.2)
    have HL := hide (And.intro hlk (lk_lo HO.out hlk))
    have A0 := cell_of_row _ _ 0 _ _ _ RA
    have A1 := cell_of_row _ _ 1 _ _ _ RA
    have A2 := cell_of_row _ _ 2 _ _ _ RA
    have A3 := cell_of_row _ _ 3 _ _ _ RA
    simp only [List.getElem?_toArray, List.getElem?_cons_zero, List.getElem?_cons_succ] at A0 A1 A2 A3
    unfold tv at HW
    clear hr hlk b2 bA RA b2A hfl HF q0 q1
    unfold tv
    go_wp2_with fail
    refine HW.out.mono ?_
    rintro e_ w3 ⟨a3, c3, rfl, h3, hfre, b3⟩
    have R3 := hide (Below.heap b3 (Array.getElem?_eq_some_iff.1 R1A.out).1 R1A.out)
    have HB3 := hide (And.intro (Below.chain HBA.out b3) (And.intro h3 (hfre.low HBA.out.size)))
    clear b3 h3 hfre HW A0 A1 A2 A3
    unfold tv
    go_wp2_with (refine wpList_store_row rfl 33 (.tmp 4) (.tmp 19) rfl (w.heap.size + 1) (tvC r a3 c3) rfl rfl 33 ztC R3.out (by kernel_rfl) rfl (by kernel_rfl) ?_)
    refine bodyPost_ret_by (results_row_tmp rfl _ _ (w.heap.size + 1) 33 _ (0, 0) _ rfl (setRow_heap _ _ _ _ _ _ R3.out) Tryz.underlying33 rfl (by kernel_rfl)) rfl ?_
    refine ⟨r, a3, c3, f, rfl, HB3.out.2.1.put HL.out.2 R3.out _, ?_, HB3.out.2.2, HL.out.2, Below.setRow HB3.out.1 _ _ (Nat.le_succ _)⟩
    rw [HLK.out]
    exact HL.out.1
end Go.Proofs.YteiacgpaocnofaaGreat
/- The machine: its stack in memory; what a step may change. -/
namespace Go.Proofs.YteiacgpaocnofaaGreat
open Go.RowKit
/-- A term on the stack, and where its list lies. -/
abbrev Zt := Tm × Option Addr × Nat
def zc (z : Zt) : List Value := [.int .i64 z.1.k, .int .i64 z.1.n, .string z.1.s, .slice z.2.1 z.1.l.length z.2.2]
def zcs (Z : List Zt) : List Value := (Z.map zc).flatten
theorem zcs_app (Y Z : List Zt) : zcs (Y ++ Z) = zcs Y ++ zcs Z := by simp [zcs]
theorem zcs_one (z : Zt) : zcs [z] = zc z := by simp [zcs]
theorem zcs_len : ∀ Z : List Zt, (zcs Z).length = Z.length * 4
  | [] => rfl
  | z :: Z => by
    have := zcs_len Z
    show (zc z ++ zcs Z).length = (Z.length + 1) * 4
    rw [List.length_append, this]
    show 4 + Z.length * 4 = _
    omega
theorem zc_one (z : Zt) : ∀ u ∈ zc z, u.oneCell' = true := fun u hu => by
  simp [zc] at hu
  rcases hu with rfl | rfl | rfl | rfl <;> rfl
/-- A term of the stack: its list lies neither in the machine nor in the stack. -/
structure Okz (w : World) (g : Nat) (v : Value) (z : Zt) : Prop where
  at_ : TAt w z.1 z.2.1 z.2.2
  fix : fixT z.1 = true
  sep : z.1.l ≠ [] → ∃ b o, z.2.1 = some ⟨b, o, none⟩ ∧ b < w.heap.size ∧ b ≠ g ∧ v.ownBlock ≠ some b
/-- A term stays where its list's block does. -/
theorem TAt.stay {w w' : World} {t : Tm} {a : Option Addr} {c : Nat} (h : TAt w t a c) (hl : ∀ x ∈ t.l, x.l = []) (hb : t.l ≠ [] → ∃ b o, a = some ⟨b, o, none⟩ ∧ w'.heap[b]? = w.heap[b]?) : TAt w' t a c := by
  have hf := h.fits
  obtain ⟨h1, h2, b, o, A, C, h3, h4⟩ := h.list
  refine LAt.term ⟨h1, h2, b, o, A, C, fun hne => ?_, fun i x hx => ?_⟩ hf
  · obtain ⟨b', o', e1, e2⟩ := hb hne
    obtain ⟨e3, e4⟩ := h3 hne
    rw [e3] at e1
    injection e1 with e1
    injection e1 with e1 _ _
    subst e1
    refine ⟨e3, ?_⟩
    rw [Array.getElem?_eq_getElem e4] at e2
    exact (Array.getElem?_eq_some_iff.1 e2).1
  · have hne : t.l ≠ [] := fun e => by rw [e] at hx; simp at hx
    obtain ⟨b', o', e1, e2⟩ := hb hne
    obtain ⟨e3, e4⟩ := h3 hne
    rw [e3] at e1
    injection e1 with e1
    injection e1 with e1 _ _
    subst e1
    obtain ⟨c4, hx4⟩ := h4 i x hx
    have hc : ∀ j, w'.cell? ⟨b, j, none⟩ = w.cell? ⟨b, j, none⟩ := fun j => World.cell?_of_block e2
    refine ⟨⟨(hc _).trans c4.1, (hc _).trans c4.2.1, (hc _).trans c4.2.2.1, (hc _).trans c4.2.2.2⟩, LAt.term ?_ hx4.fits⟩
    rw [hl x (List.mem_of_getElem? hx)]
    exact LAt.nil _ _ _ hx4.fits.2.2.2.2
/-- What a step of the machine in block g may change: the machine, its stack, new memory. -/
structure Mv (g : Nat) (w : World) (sv : Value) (w' : World) (sv' : Value) : Prop where
  os : w'.os = w.os
  tape : w'.tape = w.tape
  output : w'.output = w.output
  size : w.heap.size ≤ w'.heap.size
  block : ∀ k, k < w.heap.size → k ≠ g → sv.ownBlock ≠ some k → w'.heap[k]? = w.heap[k]?
  own : ∀ q, sv'.ownBlock = some q → sv.ownBlock = some q ∨ w.heap.size ≤ q
theorem Mv.refl (g : Nat) (w : World) (sv : Value) : Mv g w sv w sv := ⟨rfl, rfl, rfl, Nat.le_refl _, fun _ _ _ _ => rfl, fun _ h => .inl h⟩
theorem Mv.trans {g : Nat} {w w1 w2 : World} {s s1 s2 : Value} (h : Mv g w s w1 s1) (k : Mv g w1 s1 w2 s2) : Mv g w s w2 s2 :=
  ⟨k.os.trans h.os, k.tape.trans h.tape, k.output.trans h.output, Nat.le_trans h.size k.size, fun b hb h1 h2 => (k.block b (Nat.lt_of_lt_of_le hb h.size) h1 (fun e => by
    rcases h.own b e with e1 | e1
    · exact h2 e1
    · omega)).trans (h.block b hb h1 h2), fun q hq => by
    rcases k.own q hq with e | e
    · exact h.own q e
    · exact .inr (Nat.le_trans h.size e)⟩
theorem Mv.ext {g : Nat} {w w' : World} {s : Value} (he : Below w.heap.size w w') : Mv g w s w' s := ⟨he.os, he.tape, he.output, he.size, fun k hk _ _ => he.block k hk, fun _ h => .inl h⟩
theorem Mv.below {g B : Nat} {w w' : World} {s s' : Value} (h : Mv g w s w' s') (hg : B ≤ g) (hs : ∀ q, s.ownBlock = some q → B ≤ q) (hB : B ≤ w.heap.size) : Below B w w' :=
  ⟨h.os, h.tape, h.output, h.size, fun k hk => h.block k (by omega) (by omega) (fun e => by have := hs k e; omega)⟩
theorem Okz.mv {g : Nat} {w w' : World} {s s' : Value} {z : Zt} (h : Okz w g s z) (m : Mv g w s w' s') : Okz w' g s' z :=
  ⟨h.at_.stay (fix_list h.fix).2 (fun hne => by
    obtain ⟨b, o, e1, e2, e3, e4⟩ := h.sep hne
    exact ⟨b, o, e1, m.block b e2 e3 e4⟩), h.fix, fun hne => by
    obtain ⟨b, o, e1, e2, e3, e4⟩ := h.sep hne
    refine ⟨b, o, e1, Nat.lt_of_lt_of_le e2 m.size, e3, fun e => ?_⟩
    rcases m.own b e with e5 | e5
    · exact e4 e5
    · omega⟩
/-- The stack in memory, the upmost term last. -/
structure StkAt (B : Nat) (w : World) (g : Nat) (v : Value) (Z : List Zt) : Prop where
  row : w.ownsRow B 33 4 v Z.length (zcs Z)
  ng : v.ownBlock ≠ some g
  ok : ∀ z ∈ Z, Okz w g v z
theorem StkAt.nil (B : Nat) (w : World) (g : Nat) : StkAt B w g (.slice none 0 0) [] := ⟨World.ownsRow_nil _ _ _ _, (fun h => by cases h), fun z hz => by simp at hz⟩
theorem StkAt.le {B g : Nat} {w : World} {v : Value} {Z : List Zt} (h : StkAt B w g v Z) : ∀ q, v.ownBlock = some q → B ≤ q := fun q hq => (h.row.lt q hq).1
/-- The stack stays where its block does. -/
theorem StkAt.mv {B g : Nat} {w w' : World} {v : Value} {Z : List Zt} (h : StkAt B w g v Z) (m : Mv g w v w' v) (hb : ∀ q, v.ownBlock = some q → w'.heap[q]? = w.heap[q]?) : StkAt B w' g v Z :=
  ⟨⟨h.row.1, by
    rcases h.row.2 with h1 | ⟨q, cap, cur, hv, h2, hr, hn⟩
    · exact .inl h1
    · exact .inr ⟨q, cap, cur, hv, h2, (hb q (by rw [hv]; rfl)).trans hr, hn⟩⟩, h.ng, fun z hz => (h.ok z hz).mv m⟩
theorem StkAt.ext {B g : Nat} {w w' : World} {v : Value} {Z : List Zt} (h : StkAt B w g v Z) (he : Below w.heap.size w w') : StkAt B w' g v Z :=
  h.mv (.ext he) fun q hq => he.block q (h.row.lt q hq).2
/-- What lies at a place of the stack. -/
theorem zcs_at : ∀ {Z : List Zt} {i : Nat} {z : Zt} {j : Nat} {u : Value}, Z[i]? = some z → (zc z)[j]? = some u → j < 4 → (zcs Z)[i * 4 + j]? = some u
  | [], _, _, _, _, h, _, _ => by simp at h
  | y :: Z, 0, z, j, u, h, hu, hj => by
    obtain rfl : y = z := by simpa using h
    show (zc y ++ zcs Z)[0 * 4 + j]? = some u
    rw [Nat.zero_mul, Nat.zero_add, List.getElem?_append_left (by exact hj)]
    exact hu
  | y :: Z, i + 1, z, j, u, h, hu, hj => by
    show (zc y ++ zcs Z)[(i + 1) * 4 + j]? = some u
    have h4 : (zc y).length = 4 := rfl
    rw [List.getElem?_append_right (by rw [h4]; omega), h4, show (i + 1) * 4 + j - 4 = i * 4 + j by omega]
    exact zcs_at (by simpa using h) hu hj
end Go.Proofs.YteiacgpaocnofaaGreat
/- What an expression tells: operation by operation, as a relation that leaves one answer. -/
namespace Go.Proofs.YteiacgpaocnofaaGreat
open Go.RowKit
/-- What one operation does: what is then still to be done, the stack (the upmost term first), an error's number. -/
def stepR (lk : ByteArray → Option Tm) (x : Ox) (r : List Ox) (S : List Tm) (r1 : List Ox) (S1 : List Tm) (e : Int) : Prop :=
  if x.kd = 1 then r1 = r ∧ (if x.t.k = 1 then (match lk x.t.s with | some y => S1 = y :: S ∧ e = 0 | none => S1 = [] ∧ e = 8) else S1 = x.t :: S ∧ e = 0)
  else if x.kd = 2 then r1 = r ∧ ∃ a S0, S = a :: S0 ∧ e = (unF x.cd a).2 ∧ S1 = (if e = 0 then (unF x.cd a).1 :: S0 else [])
  else if x.kd = 3 then r1 = r ∧ ∃ b a S0 t, S = b :: a :: S0 ∧ BinR x.cd a b t e ∧ S1 = (if e = 0 then t :: S0 else [])
  else ∃ a S0, S = a :: S0 ∧ (if a.k ≠ 6 then e = 7 ∧ r1 = r ∧ S1 = [] else e = 0 ∧ (if (a.n == 1) = (x.kd == 5) then r1 = r.drop x.sk.toNat ∧ S1 = a :: S0 else r1 = r ∧ S1 = S0))
theorem step_uniq {lk : ByteArray → Option Tm} {x : Ox} {r : List Ox} {S : List Tm} {r1 r2 : List Ox} {S1 S2 : List Tm} {e1 e2 : Int} (h : stepR lk x r S r1 S1 e1) (k : stepR lk x r S r2 S2 e2) : r1 = r2 ∧ S1 = S2 ∧ e1 = e2 := by
  unfold stepR at h k
  by_cases c1 : x.kd = 1
  · rw [if_pos c1] at h k
    obtain ⟨rfl, h⟩ := h
    obtain ⟨rfl, k⟩ := k
    by_cases cv : x.t.k = 1
    · rw [if_pos cv] at h k
      cases hl : lk x.t.s with
      | none => rw [hl] at h k; exact ⟨rfl, h.1.trans k.1.symm, h.2.trans k.2.symm⟩
      | some y => rw [hl] at h k; exact ⟨rfl, h.1.trans k.1.symm, h.2.trans k.2.symm⟩
    · rw [if_neg cv] at h k; exact ⟨rfl, h.1.trans k.1.symm, h.2.trans k.2.symm⟩
  rw [if_neg c1] at h k
  by_cases c2 : x.kd = 2
  · rw [if_pos c2] at h k
    obtain ⟨rfl, a, S0, rfl, rfl, rfl⟩ := h
    obtain ⟨rfl, a', S0', e, rfl, rfl⟩ := k
    injection e with ea es
    subst ea; subst es
    exact ⟨rfl, rfl, rfl⟩
  rw [if_neg c2] at h k
  by_cases c3 : x.kd = 3
  · rw [if_pos c3] at h k
    obtain ⟨rfl, b, a, S0, t, rfl, hb, rfl⟩ := h
    obtain ⟨rfl, b', a', S0', t', e, kb, rfl⟩ := k
    injection e with ea es
    injection es with eb es
    subst ea; subst eb; subst es
    obtain ⟨rfl, rfl⟩ := bin_uniq hb kb
    exact ⟨rfl, rfl, rfl⟩
  rw [if_neg c3] at h k
  obtain ⟨a, S0, rfl, h⟩ := h
  obtain ⟨a', S0', e, k⟩ := k
  injection e with ea es
  subst ea; subst es
  by_cases c6 : a.k ≠ 6
  · rw [if_pos c6] at h k
    obtain ⟨rfl, rfl, rfl⟩ := h
    obtain ⟨rfl, rfl, rfl⟩ := k
    exact ⟨rfl, rfl, rfl⟩
  rw [if_neg c6] at h k
  obtain ⟨rfl, h⟩ := h
  obtain ⟨rfl, k⟩ := k
  by_cases c5 : (a.n == 1) = (x.kd == 5)
  · rw [if_pos c5] at h k
    exact ⟨h.1.trans k.1.symm, h.2.trans k.2.symm, rfl⟩
  · rw [if_neg c5] at h k
    exact ⟨h.1.trans k.1.symm, h.2.trans k.2.symm, rfl⟩
/-- What operations leave of a stack, or an error. -/
inductive EvR (lk : ByteArray → Option Tm) : List Ox → List Tm → List Tm → Int → Prop
  | nil (S : List Tm) : EvR lk [] S S 0
  | err {x : Ox} {r : List Ox} {S : List Tm} {r1 : List Ox} {S1 : List Tm} {e : Int} (h : stepR lk x r S r1 S1 e) (he : e ≠ 0) : EvR lk (x :: r) S [] e
  | go {x : Ox} {r : List Ox} {S : List Tm} {r1 : List Ox} {S1 S2 : List Tm} {E : Int} (h : stepR lk x r S r1 S1 0) (t : EvR lk r1 S1 S2 E) : EvR lk (x :: r) S S2 E
theorem ev_uniq {lk : ByteArray → Option Tm} {l : List Ox} {S S1 : List Tm} {E1 : Int} (h : EvR lk l S S1 E1) : ∀ {S2 : List Tm} {E2 : Int}, EvR lk l S S2 E2 → S1 = S2 ∧ E1 = E2 := by
  induction h with
  | nil S =>
    intro S2 E2 k
    cases k
    exact ⟨rfl, rfl⟩
  | err h he =>
    intro S2 E2 k
    cases k with
    | err h2 he2 => exact ⟨rfl, (step_uniq h h2).2.2⟩
    | go h2 t2 => exact absurd (step_uniq h h2).2.2 he
  | go h t ih =>
    intro S2 E2 k
    cases k with
    | err h2 he2 => exact absurd (step_uniq h h2).2.2.symm he2
    | go h2 t2 =>
      obtain ⟨rfl, rfl, _⟩ := step_uniq h h2
      exact ih t2
/-- What an expression tells, whatever is bound. -/
def EvalR (nl : List ByteArray) (tl : List Tm) (l : List Ox) (r : Tm) (E : Int) : Prop :=
  if mayE l = true ∧ mbB nl tl = true then (∃ S, EvR (lkT nl tl) l [] S E ∧ (if E = 0 then S = [r] else r = zt)) else r = zt ∧ E = 1
theorem eval_uniq {nl : List ByteArray} {tl : List Tm} {l : List Ox} {r s : Tm} {E F : Int} (h : EvalR nl tl l r E) (k : EvalR nl tl l s F) : r = s ∧ E = F := by
  unfold EvalR at h k
  by_cases c : mayE l = true ∧ mbB nl tl = true
  · rw [if_pos c] at h k
    obtain ⟨S, h1, h2⟩ := h
    obtain ⟨S', k1, k2⟩ := k
    obtain ⟨rfl, rfl⟩ := ev_uniq h1 k1
    by_cases e0 : E = 0
    · rw [if_pos e0] at h2 k2
      rw [h2] at k2
      injection k2 with k2 _
      exact ⟨k2, rfl⟩
    · rw [if_neg e0] at h2 k2
      exact ⟨h2.trans k2.symm, rfl⟩
  · rw [if_neg c] at h k
    exact ⟨h.1.trans k.1.symm, h.2.trans k.2.symm⟩
/-- All terms that come onto the stack may be. -/
theorem step_fix {lk : ByteArray → Option Tm} {x : Ox} {r r1 : List Ox} {S S1 : List Tm} {e : Int} (ho : isOpB x = true) (hlk : ∀ s t, lk s = some t → fixT t = true) (hS : ∀ t ∈ S, fixT t = true) (h : stepR lk x r S r1 S1 e) : ∀ t ∈ S1, fixT t = true := by
  unfold stepR at h
  by_cases c1 : x.kd = 1
  · rw [if_pos c1] at h
    obtain ⟨_, h⟩ := h
    by_cases cv : x.t.k = 1
    · rw [if_pos cv] at h
      cases hl : lk x.t.s with
      | none => rw [hl] at h; rw [h.1]; intro t ht; simp at ht
      | some y =>
        rw [hl] at h; rw [h.1]
        intro t ht
        rcases List.mem_cons.1 ht with rfl | ht
        · exact hlk _ _ hl
        · exact hS t ht
    · rw [if_neg cv] at h
      rw [h.1]
      intro t ht
      rcases List.mem_cons.1 ht with rfl | ht
      · unfold fixT
        rw [(op_1 ho c1).1]
        simpa using cv
      · exact hS t ht
  rw [if_neg c1] at h
  by_cases c2 : x.kd = 2
  · rw [if_pos c2] at h
    obtain ⟨_, a, S0, rfl, he, rfl⟩ := h
    by_cases e0 : e = 0
    · rw [if_pos e0]
      intro t ht
      rcases List.mem_cons.1 ht with rfl | ht
      · exact (un_F_good x.cd a).1 (he ▸ e0)
      · exact hS t (List.mem_cons_of_mem _ ht)
    · rw [if_neg e0]; intro t ht; simp at ht
  rw [if_neg c2] at h
  by_cases c3 : x.kd = 3
  · rw [if_pos c3] at h
    obtain ⟨_, b, a, S0, t, rfl, hb, rfl⟩ := h
    by_cases e0 : e = 0
    · rw [if_pos e0]
      intro u hu
      rcases List.mem_cons.1 hu with rfl | hu
      · exact (bin_R_good hb).1 e0
      · exact hS u (List.mem_cons_of_mem _ (List.mem_cons_of_mem _ hu))
    · rw [if_neg e0]; intro u hu; simp at hu
  rw [if_neg c3] at h
  obtain ⟨a, S0, rfl, h⟩ := h
  by_cases c6 : a.k ≠ 6
  · rw [if_pos c6] at h; rw [h.2.2]; intro t ht; simp at ht
  rw [if_neg c6] at h
  obtain ⟨_, h⟩ := h
  by_cases c5 : (a.n == 1) = (x.kd == 5)
  · rw [if_pos c5] at h; rw [h.2]; exact hS
  · rw [if_neg c5] at h; rw [h.2]; exact fun t ht => hS t (List.mem_cons_of_mem _ ht)
end Go.Proofs.YteiacgpaocnofaaGreat
