/- Two terms held against each other: what the program's call tells. -/
import Derived.Test.YteiacgpaocnofaaGreatVl
namespace Go.Proofs.YteiacgpaocnofaaGreat
open Go.RowKit
/-- What is told by lists. -/
def byL (d : Nat) (a b : Tm) : Int := match d with | 0 => 0 | d + 1 => cmpL (cmpT d) a.l b.l
theorem cmpT_byL (d : Nat) (a b : Tm) : cmpT d a b = cmpF (byL d a b) a b := by cases d <;> rfl
set_option maxRecDepth 100000 in
theorem byList_any {d : Nat} (hd : d < 100) (h : ∀ d', d = d' + 1 → CmpC d') {a b : Tm} {a1 : Option Addr} {c1 : Nat} {a2 : Option Addr} {c2 : Nat} {w : World} (ha : TAt w a a1 c1) (hb : TAt w b a2 c2) :
    Calls Tryz.prog 193 #[vw a.k a.n a.s a1 a.l.length c1 (d : Int), vw b.k b.n b.s a2 b.l.length c2 (d : Int)] w fun e w' => e = .returned (.int .i64 (byL d a b)) ∧ Below w.heap.size w w' := by
  have b1 := alloc_below w (.cells #[.int .i64 a.k, .int .i64 a.n, .string a.s, .slice a1 a.l.length c1, .int .i64 (d : Int)] 151)
  have b2 := Below.chain b1 (alloc_below _ (.cells #[.int .i64 b.k, .int .i64 b.n, .string b.s, .slice a2 b.l.length c2, .int .i64 (d : Int)] 151))
  cases d with
  | zero =>
    have HB := hide b2
    clear b1 b2 ha hb h
    show Calls Tryz.prog 193 _ w fun e w' => e = .returned (.int .i64 0) ∧ _
    generalize a.k = ak at *
    generalize a.n = an at *
    generalize a.s = aS at *
    generalize a.l.length = al at *
    generalize b.k = bk at *
    generalize b.n = bn at *
    generalize b.s = bS at *
    generalize b.l.length = bl at *
    go_enter Tryz.func193, Tryz.ntmps193
    go_wp2
    go_ret
    exact ⟨rfl, HB.out⟩
  | succ d =>
    have x1 : (w.alloc (.cells #[.int .i64 a.k, .int .i64 a.n, .string a.s, .slice a1 a.l.length c1, .int .i64 ((d + 1 : Nat) : Int)] 151)).heap[w.heap.size]? = some (.cells #[.int .i64 a.k, .int .i64 a.n, .string a.s, .slice a1 a.l.length c1, .int .i64 ((d + 1 : Nat) : Int)] 151 (0, 0)) := heap_alloc_last _ _
    have x2 : ((w.alloc (.cells #[.int .i64 a.k, .int .i64 a.n, .string a.s, .slice a1 a.l.length c1, .int .i64 ((d + 1 : Nat) : Int)] 151)).alloc (.cells #[.int .i64 b.k, .int .i64 b.n, .string b.s, .slice a2 b.l.length c2, .int .i64 ((d + 1 : Nat) : Int)] 151)).heap[w.heap.size]? = some (.cells #[.int .i64 a.k, .int .i64 a.n, .string a.s, .slice a1 a.l.length c1, .int .i64 ((d + 1 : Nat) : Int)] 151 (0, 0)) := Below.heap (alloc_below _ _) (Array.getElem?_eq_some_iff.1 x1).1 x1
    have x3 : ((w.alloc (.cells #[.int .i64 a.k, .int .i64 a.n, .string a.s, .slice a1 a.l.length c1, .int .i64 ((d + 1 : Nat) : Int)] 151)).alloc (.cells #[.int .i64 b.k, .int .i64 b.n, .string b.s, .slice a2 b.l.length c2, .int .i64 ((d + 1 : Nat) : Int)] 151)).heap[w.heap.size + 1]? = some (.cells #[.int .i64 b.k, .int .i64 b.n, .string b.s, .slice a2 b.l.length c2, .int .i64 ((d + 1 : Nat) : Int)] 151 (0, 0)) := by
      have := heap_alloc_last (w.alloc (.cells #[.int .i64 a.k, .int .i64 a.n, .string a.s, .slice a1 a.l.length c1, .int .i64 ((d + 1 : Nat) : Int)] 151)) (.cells #[.int .i64 b.k, .int .i64 b.n, .string b.s, .slice a2 b.l.length c2, .int .i64 ((d + 1 : Nat) : Int)] 151)
      rwa [show (w.alloc (.cells #[.int .i64 a.k, .int .i64 a.n, .string a.s, .slice a1 a.l.length c1, .int .i64 ((d + 1 : Nat) : Int)] 151)).heap.size = w.heap.size + 1 by simp] at this
    have HC := hide (lists_any (d := d) (by omega) (h d rfl) (ha.ext b2).list (hb.ext b2).list (Array.getElem?_eq_some_iff.1 x2).1 (Array.getElem?_eq_some_iff.1 x3).1 ((row_reads x2).1 4) ((row_reads x3).1 4))
    have hz : (((d + 1 : Nat) : Int) == 0) = false := by simp; omega
    have HB := hide b2
    show Calls Tryz.prog 193 _ w fun e w' => e = .returned (.int .i64 (cmpL (cmpT d) a.l b.l)) ∧ _
    clear x1 x2 x3 b1 b2 ha hb h
    generalize cmpL (cmpT d) a.l b.l = CC at *
    generalize ((d + 1 : Nat) : Int) = D at *
    generalize a.k = ak at *
    generalize a.n = an at *
    generalize a.s = aS at *
    generalize a.l.length = al at *
    generalize b.k = bk at *
    generalize b.n = bn at *
    generalize b.s = bS at *
    generalize b.l.length = bl at *
    go_enter Tryz.func193, Tryz.ntmps193
    go_wp2_with fail
    refine HC.out.mono ?_
    rintro e w' ⟨rfl, hb⟩
    have HR := hide (Below.chain HB.out hb)
    clear hb HC HB
    go_wp2
    go_ret
    exact ⟨rfl, HR.out⟩
set_option maxRecDepth 100000 in
set_option maxHeartbeats 2000000 in
theorem compare_step {d : Nat} (hd : d < 100) (h : ∀ d', d = d' + 1 → CmpC d') : CmpC d := by
  intro a b a1 c1 a2 c2 w ha hb
  rw [cmpT_byL]
  have b1 := alloc_below w (.cells #[.int .i64 a.k, .int .i64 a.n, .string a.s, .slice a1 a.l.length c1, .int .i64 (d : Int)] 151)
  have b2 := Below.chain b1 (alloc_below _ (.cells #[.int .i64 b.k, .int .i64 b.n, .string b.s, .slice a2 b.l.length c2, .int .i64 (d : Int)] 151))
  have HL : Hid (∀ W : World, Below w.heap.size w W → Calls Tryz.prog 193 #[vw a.k a.n a.s a1 a.l.length c1 (d : Int), vw b.k b.n b.s a2 b.l.length c2 (d : Int)] W fun e w' => e = .returned (.int .i64 (byL d a b)) ∧ Below W.heap.size W w') := fun W hW => byList_any hd h (ha.ext hW) (hb.ext hW)
  have HO := hide (order_any ((w.alloc (.cells #[.int .i64 a.k, .int .i64 a.n, .string a.s, .slice a1 a.l.length c1, .int .i64 (d : Int)] 151)).alloc (.cells #[.int .i64 b.k, .int .i64 b.n, .string b.s, .slice a2 b.l.length c2, .int .i64 (d : Int)] 151)))
  have x1 : (w.alloc (.cells #[.int .i64 a.k, .int .i64 a.n, .string a.s, .slice a1 a.l.length c1, .int .i64 (d : Int)] 151)).heap[w.heap.size]? = some (.cells #[.int .i64 a.k, .int .i64 a.n, .string a.s, .slice a1 a.l.length c1, .int .i64 (d : Int)] 151 (0, 0)) := heap_alloc_last _ _
  have x2 := Below.heap (alloc_below _ (.cells #[.int .i64 b.k, .int .i64 b.n, .string b.s, .slice a2 b.l.length c2, .int .i64 (d : Int)] 151)) (Array.getElem?_eq_some_iff.1 x1).1 x1
  have x3 : ((w.alloc (.cells #[.int .i64 a.k, .int .i64 a.n, .string a.s, .slice a1 a.l.length c1, .int .i64 (d : Int)] 151)).alloc (.cells #[.int .i64 b.k, .int .i64 b.n, .string b.s, .slice a2 b.l.length c2, .int .i64 (d : Int)] 151)).heap[w.heap.size + 1]? = some (.cells #[.int .i64 b.k, .int .i64 b.n, .string b.s, .slice a2 b.l.length c2, .int .i64 (d : Int)] 151 (0, 0)) := by
    have := heap_alloc_last (w.alloc (.cells #[.int .i64 a.k, .int .i64 a.n, .string a.s, .slice a1 a.l.length c1, .int .i64 (d : Int)] 151)) (.cells #[.int .i64 b.k, .int .i64 b.n, .string b.s, .slice a2 b.l.length c2, .int .i64 (d : Int)] 151)
    rwa [show (w.alloc (.cells #[.int .i64 a.k, .int .i64 a.n, .string a.s, .slice a1 a.l.length c1, .int .i64 (d : Int)] 151)).heap.size = w.heap.size + 1 by simp] at this
  have HX : Hid (_ ∧ _ ∧ _) := ⟨b2, x2, x3⟩
  obtain ⟨R, hR⟩ : ∃ R, cmpF (byL d a b) a b = R := ⟨_, rfl⟩
  rw [hR]
  unfold cmpF at hR
  clear x1 x2 x3 b1 b2 ha hb h
  generalize byL d a b = LL at *
  generalize (d : Int) = D at *
  generalize a.k = ak at *
  generalize a.n = an at *
  generalize a.s = aS at *
  generalize a.l.length = al at *
  generalize b.k = bk at *
  generalize b.n = bn at *
  generalize b.s = bS at *
  generalize b.l.length = bl at *
  have HR := hide hR
  clear hR
  go_enter Tryz.func159, Tryz.ntmps159
  go_wp2_with fail
  refine HO.out.mono ?_
  rintro e w1 ⟨rfl, b1⟩
  have HW : Hid (Below w.heap.size w w1 ∧ w1.heap[w.heap.size]? = some (.cells #[.int .i64 ak, .int .i64 an, .string aS, .slice a1 al c1, .int .i64 D] 151 (0, 0)) ∧ w1.heap[w.heap.size + 1]? = some (.cells #[.int .i64 bk, .int .i64 bn, .string bS, .slice a2 bl c2, .int .i64 D] 151 (0, 0))) :=
    ⟨Below.chain HX.out.1 b1, Below.heap b1 (Array.getElem?_eq_some_iff.1 HX.out.2.1).1 HX.out.2.1, Below.heap b1 (Array.getElem?_eq_some_iff.1 HX.out.2.2).1 HX.out.2.2⟩
  clear HO HX b1
  go_wp2
  go_loopw [9] (fun i wr => ∃ k : Nat, k ≤ 4 ∧ i = .int .i64 (k : Int) ∧ (0 < k → cmpI ak bk = 0) ∧ (1 < k → cmpI an bn = 0) ∧ (2 < k → cmpS aS bS = 0) ∧ (3 < k → LL = 0) ∧ Below w1.heap.size w1 wr) (fun i _ => 4 - (intOf i).toNat)
  case atStart => exact ⟨0, by decide, rfl, fun h => absurd h (by decide), fun h => absurd h (by decide), fun h => absurd h (by decide), fun h => absurd h (by decide), Below.refl _ _⟩
  case round =>
    obtain ⟨k, hk, rfl, e0, e1, e2, e3, hB⟩ := hrel
    have r1 := Below.heap hB (Array.getElem?_eq_some_iff.1 HW.out.2.1).1 HW.out.2.1
    have r2 := Below.heap hB (Array.getElem?_eq_some_iff.1 HW.out.2.2).1 HW.out.2.2
    have cA := (row_reads r1).1
    have cB := (row_reads r2).1
    have A0 := cA 0
    have A1 := cA 1
    have A2 := cA 2
    have A3 := cA 3
    have A4 := cA 4
    have B0 := cB 0
    have B1 := cB 1
    have B2 := cB 2
    have B3 := cB 3
    have B4 := cB 4
    simp only [List.getElem?_toArray, List.getElem?_cons_zero, List.getElem?_cons_succ] at A0 A1 A2 A3 A4 B0 B1 B2 B3 B4
    have HE := hide (And.intro e0 (And.intro e1 (And.intro e2 (And.intro e3 (Below.chain HW.out.1 hB)))))
    have HBB := hide hB
    clear r1 r2 cA cB e0 e1 e2 e3 hB
    obtain rfl | rfl | rfl | rfl | rfl : k = 0 ∨ k = 1 ∨ k = 2 ∨ k = 3 ∨ k = 4 := by omega
    · have hix : ∀ w_ : World, (Instr.index 165 (.agg fns) (.int .i64 0)).run Tryz.prog w_ = .ok (.func (.func 190) #[] #[]) w_ := fun w_ => by kernel_rfl
      go_wp2_with fail
      refine (byKind_any _ _ _ _ _ _ _ _ _ _ _ _ _ _ _).mono ?_
      rintro e w2 ⟨rfl, b3⟩
      have HY := hide (And.intro (Below.chain HE.out.2.2.2.2 b3) (Below.chain HBB.out b3))
      clear b3
      by_cases hz0 : cmpI ak bk = 0
      · have hz := hide hz0
        have hn : (cmpI ak bk != 0) = false := by simpa using hz0
        clear hz0
        go_wp2
        go_roundw
        case rel => exact ⟨1, by decide, by go_num, fun _ => hz.out, fun h => absurd h (by decide), fun h => absurd h (by decide), fun h => absurd h (by decide), HY.out.2⟩
        case measure => simp [intOf]
      · have hn : (cmpI ak bk != 0) = true := by simpa using hz0
        have hz2 := hz0
        have hq : cmpI ak bk = R := by have := HR.out; unfold lex at this; rw [if_neg hz2] at this; exact this
        have HQ := hide hq
        clear hz0 hz2 hq HR
        generalize cmpI ak bk = CC at *
        go_wp2
        go_ret
        exact ⟨by rw [← HQ.out]; rfl, HY.out.1⟩
    · have hix : ∀ w_ : World, (Instr.index 165 (.agg fns) (.int .i64 1)).run Tryz.prog w_ = .ok (.func (.func 191) #[] #[]) w_ := fun w_ => by kernel_rfl
      go_wp2_with fail
      refine (byNumber_any _ _ _ _ _ _ _ _ _ _ _ _ _ _ _).mono ?_
      rintro e w2 ⟨rfl, b3⟩
      have HY := hide (And.intro (Below.chain HE.out.2.2.2.2 b3) (Below.chain HBB.out b3))
      clear b3
      by_cases hz0 : cmpI an bn = 0
      · have hz := hide hz0
        have hn : (cmpI an bn != 0) = false := by simpa using hz0
        clear hz0
        go_wp2
        go_roundw
        case rel => exact ⟨2, by decide, by go_num, fun _ => HE.out.1 (by decide), fun _ => hz.out, fun h => absurd h (by decide), fun h => absurd h (by decide), HY.out.2⟩
        case measure => simp [intOf]
      · have hn : (cmpI an bn != 0) = true := by simpa using hz0
        have hz2 := hz0
        have hq : cmpI an bn = R := by have := HR.out; unfold lex at this; rw [if_pos (HE.out.1 (by decide)), if_neg hz2] at this; exact this
        have HQ := hide hq
        clear hz0 hz2 hq HR
        generalize cmpI an bn = CC at *
        go_wp2
        go_ret
        exact ⟨by rw [← HQ.out]; rfl, HY.out.1⟩
    · have hix : ∀ w_ : World, (Instr.index 165 (.agg fns) (.int .i64 2)).run Tryz.prog w_ = .ok (.func (.func 192) #[] #[]) w_ := fun w_ => by kernel_rfl
      go_wp2_with fail
      refine (byText_any _ _ _ _ _ _ _ _ _ _ _ _ _ _ _).mono ?_
      rintro e w2 ⟨rfl, b3⟩
      have HY := hide (And.intro (Below.chain HE.out.2.2.2.2 b3) (Below.chain HBB.out b3))
      clear b3
      by_cases hz0 : cmpS aS bS = 0
      · have hz := hide hz0
        have hn : (cmpS aS bS != 0) = false := by simpa using hz0
        clear hz0
        go_wp2
        go_roundw
        case rel => exact ⟨3, by decide, by go_num, fun _ => HE.out.1 (by decide), fun _ => HE.out.2.1 (by decide), fun _ => hz.out, fun h => absurd h (by decide), HY.out.2⟩
        case measure => simp [intOf]
      · have hn : (cmpS aS bS != 0) = true := by simpa using hz0
        have hz2 := hz0
        have hq : cmpS aS bS = R := by have := HR.out; unfold lex at this; rw [if_pos (HE.out.1 (by decide)), if_pos (HE.out.2.1 (by decide)), if_neg hz2] at this; exact this
        have HQ := hide hq
        clear hz0 hz2 hq HR
        generalize cmpS aS bS = CC at *
        go_wp2
        go_ret
        exact ⟨by rw [← HQ.out]; rfl, HY.out.1⟩
    · have hix : ∀ w_ : World, (Instr.index 165 (.agg fns) (.int .i64 3)).run Tryz.prog w_ = .ok (.func (.func 193) #[] #[]) w_ := fun w_ => by kernel_rfl
      go_wp2_with fail
      refine (HL.out _ HE.out.2.2.2.2).mono ?_
      rintro e w2 ⟨rfl, b3⟩
      have HY := hide (And.intro (Below.chain HE.out.2.2.2.2 b3) (Below.chain HBB.out b3))
      clear b3
      by_cases hz0 : LL = 0
      · have hz := hide hz0
        have hn : (LL != 0) = false := by simpa using hz0
        clear hz0
        go_wp2
        go_roundw
        case rel => exact ⟨4, by decide, by go_num, fun _ => HE.out.1 (by decide), fun _ => HE.out.2.1 (by decide), fun _ => HE.out.2.2.1 (by decide), fun _ => hz.out, HY.out.2⟩
        case measure => simp [intOf]
      · have hn : (LL != 0) = true := by simpa using hz0
        have hz2 := hz0
        have hq : LL = R := by have := HR.out; unfold lex at this; rw [if_pos (HE.out.1 (by decide)), if_pos (HE.out.2.1 (by decide)), if_pos (HE.out.2.2.1 (by decide))] at this; exact this
        have HQ := hide hq
        clear hz0 hz2 hq HR
        generalize LL = CC at *
        go_wp2
        go_ret
        exact ⟨by rw [← HQ.out]; rfl, HY.out.1⟩
    · have hq : (0 : Int) = R := by
        have := HR.out
        unfold lex at this
        rw [if_pos (HE.out.1 (by decide)), if_pos (HE.out.2.1 (by decide)), if_pos (HE.out.2.2.1 (by decide)), HE.out.2.2.2.1 (by decide)] at this
        exact this
      have HQ := hide hq
      clear hq HR
      go_wp2
      go_ret
      exact ⟨by rw [← HQ.out]; rfl, HE.out.2.2.2.2⟩
theorem compare_any : ∀ d : Nat, d < 100 → CmpC d := by
  intro d
  induction d with
  | zero => exact fun hd => compare_step hd (fun d' e => by omega)
  | succ d ih => exact fun hd => compare_step hd (fun d' e => by injection e with e; subst e; exact ih (by omega))
end Go.Proofs.YteiacgpaocnofaaGreat
