/- Compare, Same: as the page has them. -/
import Derived.Test.YteiacgpaocnofaaGreatCp
namespace Go.Proofs.YteiacgpaocnofaaGreat
open Go.RowKit
theorem mixed : Tryz.prog.follows .mixedOrders = true := by kernel_rfl
/-- Ahead, or behind. -/
def sg (b : Bool) : Int := if b = true then -1 else 1
set_option maxRecDepth 100000 in
theorem sign_any (b : Bool) (w : World) : Calls Tryz.prog 88 #[.bool b] w fun e w' => e = .returned (.int .i64 (sg b)) ∧ w' = w := by
  cases b with
  | true =>
    go_enter Tryz.func88, Tryz.ntmps88
    go_wp2
    go_ret
    exact ⟨rfl, rfl⟩
  | false =>
    go_enter Tryz.func88, Tryz.ntmps88
    go_wp2
    go_ret
    exact ⟨rfl, rfl⟩
/-- What the page's call tells of two terms. -/
def RcC (d : Nat) : Prop := ∀ (a b : Tm) (a1 : Option Addr) (c1 : Nat) (a2 : Option Addr) (c2 : Nat) (w : World), TAt w a a1 c1 → TAt w b a2 c2 →
  Calls Tryz.prog 66 #[tv a a1 c1, tv b a2 c2, .int .i64 (d : Int)] w fun e w' => e = .returned (.int .i64 (cmpT d a b)) ∧ Below w.heap.size w w'
theorem RcC.hands {d : Nat} (h : RcC d) {a b : Tm} {a1 : Option Addr} {c1 : Nat} {a2 : Option Addr} {c2 : Nat} {w : World} {u v x : Value} (eu : u = tv a a1 c1) (ev : v = tv b a2 c2) (ex : x = .int .i64 (d : Int)) (ha : TAt w a a1 c1) (hb : TAt w b a2 c2) : Hands Tryz.prog 66 #[u, v, x] w (isv (.int .i64 (cmpT d a b))) := by
  subst eu; subst ev; subst ex
  exact (h a b a1 c1 a2 c2 w ha hb).mono fun e w' ⟨he, hb⟩ => ⟨_, he, hb, rfl⟩
theorem cmpF_k {g : Int} {a b : Tm} (h : a.k ≠ b.k) : cmpF g a b = sg (decide (a.k < b.k)) := by
  have h1 : cmpI a.k b.k = if decide (a.k < b.k) = true then -1 else 1 := by
    unfold cmpI
    by_cases h1 : a.k < b.k
    · simp [h1]
    · simp [h1]; omega
  unfold cmpF lex
  rw [if_neg (by rw [h1]; split <;> decide), h1]; rfl
theorem cmpF_n {g : Int} {a b : Tm} (hk : a.k = b.k) (h : a.n ≠ b.n) : cmpF g a b = sg (decide (a.n < b.n)) := by
  have h1 : cmpI a.n b.n = if decide (a.n < b.n) = true then -1 else 1 := by
    unfold cmpI
    by_cases h1 : a.n < b.n
    · simp [h1]
    · simp [h1]; omega
  unfold cmpF lex
  rw [if_pos (by rw [hk]; exact ord_I.refl _), if_neg (by rw [h1]; split <;> decide), h1]; rfl
theorem cmpF_s {g : Int} {a b : Tm} (hk : a.k = b.k) (hn : a.n = b.n) (h : (a.s.toList == b.s.toList) = false) : cmpF g a b = sg (Op.bytesLess a.s.toList b.s.toList) := by
  have h1 : cmpS a.s b.s = if Op.bytesLess a.s.toList b.s.toList = true then -1 else 1 := by
    unfold cmpS
    rw [h]
    simp
  unfold cmpF lex
  rw [if_pos (by rw [hk]; exact ord_I.refl _), if_pos (by rw [hn]; exact ord_I.refl _), if_neg (by rw [h1]; split <;> decide), h1]; rfl
theorem cmpF_l {g : Int} {a b : Tm} (hk : a.k = b.k) (hn : a.n = b.n) (h : (a.s.toList == b.s.toList) = true) : cmpF g a b = g := by
  have e : a.s = b.s := toList_inj (by simpa using h)
  unfold cmpF lex
  rw [if_pos (by rw [hk]; exact ord_I.refl _), if_pos (by rw [hn]; exact ord_I.refl _), if_pos (by rw [e]; exact ord_S.refl _)]
set_option maxRecDepth 100000 in
set_option maxHeartbeats 4000000 in
theorem rcompare_step {d' : Nat} (hd : d' < 100) (h0 : ∀ d, d' = d + 1 → RcC d) : RcC d' := by
  intro a b a1 c1 a2 c2 w ha hb
  have x1 : (w.alloc (.cells #[.int .i64 a.k, .int .i64 a.n, .string a.s, .slice a1 a.l.length c1] 33)).heap[w.heap.size]? = some (.cells #[.int .i64 a.k, .int .i64 a.n, .string a.s, .slice a1 a.l.length c1] 33 (0, 0)) := heap_alloc_last _ _
  have x2 := Below.heap (alloc_below _ (.cells #[.int .i64 b.k, .int .i64 b.n, .string b.s, .slice a2 b.l.length c2] 33)) (Array.getElem?_eq_some_iff.1 x1).1 x1
  have x3 : ((w.alloc (.cells #[.int .i64 a.k, .int .i64 a.n, .string a.s, .slice a1 a.l.length c1] 33)).alloc (.cells #[.int .i64 b.k, .int .i64 b.n, .string b.s, .slice a2 b.l.length c2] 33)).heap[w.heap.size + 1]? = some (.cells #[.int .i64 b.k, .int .i64 b.n, .string b.s, .slice a2 b.l.length c2] 33 (0, 0)) := by
    have := heap_alloc_last (w.alloc (.cells #[.int .i64 a.k, .int .i64 a.n, .string a.s, .slice a1 a.l.length c1] 33)) (.cells #[.int .i64 b.k, .int .i64 b.n, .string b.s, .slice a2 b.l.length c2] 33)
    rwa [show (w.alloc (.cells #[.int .i64 a.k, .int .i64 a.n, .string a.s, .slice a1 a.l.length c1] 33)).heap.size = w.heap.size + 1 by simp] at this
  have HB : Hid (_ ∧ _ ∧ _) := ⟨Below.chain (alloc_below w (.cells #[.int .i64 a.k, .int .i64 a.n, .string a.s, .slice a1 a.l.length c1] 33)) (alloc_below _ (.cells #[.int .i64 b.k, .int .i64 b.n, .string b.s, .slice a2 b.l.length c2] 33)), x2, x3⟩
  have fa := ha.fits
  have fb := hb.fits
  have HAB := hide (And.intro ha hb)
  clear x1 x2 x3 ha hb
  obtain ⟨R, hR⟩ : ∃ R, cmpT d' a b = R := ⟨_, rfl⟩
  rw [hR]
  have hR2 : cmpF (byL d' a b) a b = R := by rw [← hR, cmpT_byL]
  unfold tv
  clear hR
  by_cases hk : a.k = b.k
  · have hkb : (a.k != b.k) = false := by simpa using hk
    by_cases hn : a.n = b.n
    · have hnb : (a.n != b.n) = false := by simpa using hn
      cases hs : (a.s.toList == b.s.toList) with
      | false =>
        rw [cmpF_s hk hn hs] at hR2
        have HQ := hide hR2
        clear hR2 hk hn fa fb HAB h0
        go_enter Tryz.func66, Tryz.ntmps66
        have HSG := hide (fun (b : Bool) (w : World) => sign_any b w)
        go_wp2_with fail
        refine (HSG.out _ _).mono ?_
        rintro e w' ⟨rfl, hw⟩
        replace hw := hw.symm
        subst hw
        go_wp2
        go_ret
        exact ⟨by rw [← HQ.out]; rfl, HB.out.1⟩
      | true =>
        rw [cmpF_l hk hn hs] at hR2
        cases d' with
        | zero =>
          have HQ := hide hR2
          clear hR2 hk hn fa fb HAB h0
          go_enter Tryz.func66, Tryz.ntmps66
          go_wp2
          go_ret
          exact ⟨by rw [← HQ.out]; rfl, HB.out.1⟩
        | succ d =>
          have hR3 : cmpL (cmpT d) a.l b.l = R := hR2
          have hI := h0 d rfl
          have hz : (((d + 1 : Nat) : Int) == 0) = false := by simp; omega
          have hsub : ∀ w_ : World, (do eqGuard .sub 3 (.tmp 68) (.const (.int .i64 1)) (.int .i64 ((d + 1 : Nat) : Int)) (.int .i64 1); binOp .sub 3 (.int .i64 ((d + 1 : Nat) : Int)) (.int .i64 1) : Sem Value).run Tryz.prog w_ = .ok (.int .i64 (d : Int)) w_ := fun w_ => by
            have e : ((d + 1 : Nat) : Int) - 1 = (d : Int) := by omega
            have h1 : ((d + 1 : Nat) : Int) ≤ 100 := by omega
            have h2 : 0 ≤ ((d + 1 : Nat) : Int) := by omega
            have h3 : (d : Int) ≤ 100 := by omega
            have h4 : 0 ≤ (d : Int) := by omega
            generalize ((d + 1 : Nat) : Int) = D at *
            generalize (d : Int) = E at *
            go_simp
            rw [IntKind.wrap_i64]; omega
          obtain ⟨_, _, _, hm1, hm2⟩ := fa
          obtain ⟨_, _, _, hm3, hm4⟩ := fb
          have HQ := hide (And.intro hR3 hR2)
          have HD := hide hd
          clear hR2 hR3 hk hn h0 hd
          go_enter Tryz.func66, Tryz.ntmps66
          go_wp2
          go_loopw [52] (fun i wr => ∃ k : Nat, k ≤ a.l.length ∧ k ≤ b.l.length ∧ i = .int .i64 (k : Int) ∧ cmpL (cmpT d) (a.l.drop k) (b.l.drop k) = R ∧ Below w.heap.size w wr ∧ wr.heap[w.heap.size]? = some (.cells #[.int .i64 a.k, .int .i64 a.n, .string a.s, .slice a1 a.l.length c1] 33 (0, 0)) ∧ wr.heap[w.heap.size + 1]? = some (.cells #[.int .i64 b.k, .int .i64 b.n, .string b.s, .slice a2 b.l.length c2] 33 (0, 0))) (fun i _ => a.l.length - (intOf i).toNat)
          case atStart => exact ⟨0, Nat.zero_le _, Nat.zero_le _, rfl, HQ.out.1, HB.out.1, HB.out.2.1, HB.out.2.2⟩
          case round =>
            obtain ⟨k, hk1, hk2, rfl, hrest, hB, r1, r2⟩ := hrel
            have A3 := (row_reads r1).1 3
            have B3 := (row_reads r2).1 3
            simp only [List.getElem?_toArray, List.getElem?_cons_zero, List.getElem?_cons_succ] at A3 B3
            by_cases hlt : k < a.l.length
            · obtain ⟨x, hx⟩ : ∃ x, a.l[k]? = some x := ⟨_, List.getElem?_eq_getElem hlt⟩
              obtain ⟨b1, o1, hao, hbb, hcs⟩ := HAB.out.1.list.read (by omega)
              subst hao
              obtain ⟨xa, xc, hxt, hc4⟩ := hcs k x hx
              obtain ⟨p0, p1, p2, p3⟩ := hc4 wr hB
              have hix := fun w_ => ix_terms w_ b1 o1 a.l.length c1 k hlt
              have bA := alloc_below wr (.cells #[.int .i64 x.k, .int .i64 x.n, .string x.s, .slice xa x.l.length xc] 33)
              have B3' := (Below.cell (p := ⟨w.heap.size + 1, 3, none⟩) bA (Array.getElem?_eq_some_iff.1 r2).1).trans B3
              rw [drop_at hx] at hrest
              by_cases hlt2 : k < b.l.length
              · obtain ⟨y, hy⟩ : ∃ y, b.l[k]? = some y := ⟨_, List.getElem?_eq_getElem hlt2⟩
                obtain ⟨b2, o2, hao', hbb', hcs'⟩ := HAB.out.2.list.read (by omega)
                subst hao'
                obtain ⟨ya, yc, hyt, hc4'⟩ := hcs' k y hy
                have hge : decide ((b.l.length : Int) ≤ (k : Int)) = false := decide_eq_false (by omega)
                rw [drop_at hy, cmpL] at hrest
                have bb := Below.chain hB bA
                have HX := hide (And.intro hrest (And.intro bb (And.intro (Below.heap bA (Array.getElem?_eq_some_iff.1 r1).1 r1) (And.intro (heap_alloc_last wr (.cells #[.int .i64 x.k, .int .i64 x.n, .string x.s, .slice xa x.l.length xc] 33)) (And.intro (Below.heap bA (Array.getElem?_eq_some_iff.1 r2).1 r2) True.intro)))))
                have HT := hide (And.intro (hxt.ext bb) (And.intro (hyt.ext bb) (And.intro (Nat.lt_of_lt_of_le hbb' bb.size) (fun W (hW : Below _ _ W) => hc4' W (Below.chain bb hW)))))
                clear hrest bb bA hB hcs hcs' hc4 hc4' hxt hyt hx hy r1 r2 B3
                go_wp2_with fail
                refine wp_region_typed (tys := fun ix_ => List.getD [itp x xa xc, isv (tv x xa xc), itp b (some ⟨b2, o2, none⟩) c2, icp (.slice (some ⟨b2, o2, none⟩) b.l.length c2), isv (.slice (some ⟨b2, o2, none⟩) (b.l.length) c2), isv (.int .i64 (k : Int)), itp y ya yc, isv (tv y ya yc), isv (.int .i64 ((d + 1 : Nat) : Int)), isv (.int .i64 (d : Int)), isv (.int .i64 (cmpT d x y))] ix_ anyv) (pre := [(2, 8), (4, 2), (7, 5), (8, 0)])
                  (plan := [([(8, 0)], 1), ([(4, 2)], 3), ([(63, 3)], 4), ([(7, 5)], 5), ([(64, 4), (65, 5)], 6), ([(66, 6)], 7), ([(2, 8)], 8), ([(68, 8)], 9), ([(62, 1), (67, 7), (69, 9)], 10), ([(70, 10)], 10)])
                  (by kernel_rfl) 82 (by kernel_rfl) rfl ⟨rfl, ⟨itp_row HX.out.2.2.2.2.1, ⟨rfl, ⟨itp_row HX.out.2.2.2.1, trivial⟩⟩⟩⟩
                    (OkL.cons (fun a w X_ h => g_ldt (wanted_none rfl) rfl h.1 rfl)
                    (OkL.cons (fun a w X_ h => g_fa3 (wanted_none rfl) rfl h.1)
                    (OkL.cons (fun a w X_ h => g_ld22 (wanted_none rfl) rfl h.1 rfl)
                    (OkL.cons (fun a w X_ h => g_move (wanted_none rfl) (.inl rfl) h.1)
                    (OkL.cons (fun a w X_ h => g_ixt (wanted_none rfl) k rfl h.1 h.2.1 hlt2 ((Nat.lt_of_lt_of_le HT.out.2.2.1 (Below.size X_))) (HT.out.2.2.2 _ X_))
                    (OkL.cons (fun a w X_ h => g_ldt (wanted_none rfl) rfl h.1 rfl)
                    (OkL.cons (fun a w X_ h => g_move (wanted_none rfl) (.inl rfl) h.1)
                    (OkL.cons (fun a w X_ h => g_bin (wanted_none rfl) rfl (v := .int .i64 (d : Int)) (by rw [show a.eval (.tmp 68) = .int .i64 ((d + 1 : Nat) : Int) from h.1]; exact hsub _) rfl)
                    (OkL.cons (fun a w X_ h => g_call3 (wanted_none rfl) (by kernel_rfl) rfl (hI.hands h.1 h.2.1 h.2.2.1 (HT.out.1.ext X_) (HT.out.2.1.ext X_)))
                    (OkL.cons (fun a w X_ h => g_move (wanted_none rfl) (.inr rfl) h.1)
                    OkL.nil)))))))))) ?_
                rintro w2 X2 _ rfl v63 - _ rfl _ rfl v66 - _ rfl _ rfl _ rfl _ rfl _ rfl
                refine FinL.done ?_
                simp only [Act.put, List.setIfInBounds_toArray, List.set_cons_zero, List.set_cons_succ]
                have HY := hide (And.intro (Below.chain HX.out.2.1 X2) (And.intro (Below.heap X2 (Array.getElem?_eq_some_iff.1 HX.out.2.2.1).1 HX.out.2.2.1) (Below.heap X2 (Array.getElem?_eq_some_iff.1 HX.out.2.2.2.2.1).1 HX.out.2.2.2.2.1)))
                have HZ := hide HX.out.1
                clear HX HT X2 p0 p1 p2 p3 hix B3' A3 hI
                generalize cmpT d x y = CC at *
                by_cases hcc : CC = 0
                · subst hcc
                  go_wp2
                  go_roundw
                  case rel => exact ⟨k + 1, by omega, by omega, by go_num, HZ.out, HY.out.1, HY.out.2.1, HY.out.2.2⟩
                  case measure => simp [intOf]; omega
                · have hne : (CC != 0) = true := by simpa using hcc
                  have hz2 := hide (show CC = R by have := HZ.out; unfold lex at this; rw [if_neg hcc] at this; exact this)
                  clear hcc
                  go_wp2
                  go_ret
                  exact ⟨by rw [← hz2.out]; rfl, HY.out.1⟩
              · obtain rfl : k = b.l.length := by omega
                have hge : decide ((b.l.length : Int) ≤ (b.l.length : Int)) = true := decide_eq_true (by omega)
                rw [List.drop_length, cmpL] at hrest
                have HX := hide (And.intro hrest (Below.chain hB bA))
                clear hrest bA hB hcs hc4 hxt hx B3 r1 r2
                go_wp2
                go_ret
                exact ⟨by rw [← HX.out.1]; rfl, HX.out.2⟩
            · obtain rfl : k = a.l.length := by omega
              rw [List.drop_length] at hrest
              have HX := hide hB
              clear hB r1 r2
              by_cases hlt2 : a.l.length < b.l.length
              · obtain ⟨y, hy⟩ : ∃ y, b.l[a.l.length]? = some y := ⟨_, List.getElem?_eq_getElem hlt2⟩
                rw [drop_at hy, cmpL] at hrest
                have hd1 : decide ((a.l.length : Int) < (b.l.length : Int)) = true := decide_eq_true (by omega)
                have HZ := hide hrest
                clear hrest hy
                go_wp2
                go_ret
                exact ⟨by rw [← HZ.out]; rfl, HX.out⟩
              · have e : b.l.drop a.l.length = [] := List.drop_eq_nil_of_le (by omega)
                rw [e, cmpL] at hrest
                have hd1 : decide ((a.l.length : Int) < (b.l.length : Int)) = false := decide_eq_false (by omega)
                have HZ := hide hrest
                clear hrest e
                go_wp2
                go_ret
                exact ⟨by rw [← HZ.out]; rfl, HX.out⟩
    · have hnb : (a.n != b.n) = true := by simpa using hn
      rw [cmpF_n hk hn] at hR2
      have HQ := hide hR2
      clear hR2 hk hn fa fb HAB h0
      go_enter Tryz.func66, Tryz.ntmps66
      have HSG := hide (fun (b : Bool) (w : World) => sign_any b w)
      go_wp2_with fail
      refine (HSG.out _ _).mono ?_
      rintro e w' ⟨rfl, hw⟩
      replace hw := hw.symm
      subst hw
      go_wp2
      go_ret
      exact ⟨by rw [← HQ.out]; rfl, HB.out.1⟩
  · have hkb : (a.k != b.k) = true := by simpa using hk
    rw [cmpF_k hk] at hR2
    have HQ := hide hR2
    clear hR2 hk fa fb HAB h0
    go_enter Tryz.func66, Tryz.ntmps66
    have HSG := hide (fun (b : Bool) (w : World) => sign_any b w)
    go_wp2_with fail
    refine (HSG.out _ _).mono ?_
    rintro e w' ⟨rfl, hw⟩
    replace hw := hw.symm
    subst hw
    go_wp2
    go_ret
    exact ⟨by rw [← HQ.out]; rfl, HB.out.1⟩
theorem rcompare_any : ∀ d : Nat, d < 100 → RcC d := by
  intro d
  induction d with
  | zero => exact fun hd => rcompare_step hd (fun d' e => by omega)
  | succ d ih => exact fun hd => rcompare_step hd (fun d' e => by injection e with e; subst e; exact ih (by omega))
set_option maxRecDepth 100000 in
theorem rCompare_any {a b : Tm} {a1 : Option Addr} {c1 : Nat} {a2 : Option Addr} {c2 : Nat} {w : World} (ha : TAt w a a1 c1) (hb : TAt w b a2 c2) :
    Calls Tryz.prog 42 #[tv a a1 c1, tv b a2 c2] w fun e w' => e = .returned (.int .i64 (cp a b)) ∧ Below w.heap.size w w' := by
  have b2 := Below.chain (alloc_below w (.cells #[.int .i64 a.k, .int .i64 a.n, .string a.s, .slice a1 a.l.length c1] 33)) (alloc_below _ (.cells #[.int .i64 b.k, .int .i64 b.n, .string b.s, .slice a2 b.l.length c2] 33))
  have HC := hide (rcompare_any 3 (by decide) a b a1 c1 a2 c2 _ (ha.ext b2) (hb.ext b2))
  have HB := hide b2
  unfold tv at *
  clear b2 ha hb
  show Calls Tryz.prog 42 _ w fun e w' => e = .returned (.int .i64 (cmpT 3 a b)) ∧ _
  generalize cmpT 3 a b = CC at *
  generalize a.k = ak at *
  generalize a.n = an at *
  generalize a.s = aS at *
  generalize a.l.length = al at *
  generalize b.k = bk at *
  generalize b.n = bn at *
  generalize b.s = bS at *
  generalize b.l.length = bl at *
  go_enter Tryz.func42, Tryz.ntmps42
  go_wp2_with fail
  refine HC.out.mono ?_
  rintro e w' ⟨rfl, hb⟩
  have HR := hide (Below.chain HB.out hb)
  clear hb HC HB
  go_wp2
  go_ret
  exact ⟨rfl, HR.out⟩
set_option maxRecDepth 100000 in
theorem rSame_any {a b : Tm} {a1 : Option Addr} {c1 : Nat} {a2 : Option Addr} {c2 : Nat} {w : World} (ha : TAt w a a1 c1) (hb : TAt w b a2 c2) :
    Calls Tryz.prog 22 #[tv a a1 c1, tv b a2 c2] w fun e w' => e = .returned (.bool (cp a b == 0)) ∧ Below w.heap.size w w' := by
  have b2 := Below.chain (alloc_below w (.cells #[.int .i64 a.k, .int .i64 a.n, .string a.s, .slice a1 a.l.length c1] 33)) (alloc_below _ (.cells #[.int .i64 b.k, .int .i64 b.n, .string b.s, .slice a2 b.l.length c2] 33))
  have HC := hide (rCompare_any (ha.ext b2) (hb.ext b2))
  have HB := hide b2
  unfold tv at *
  clear b2 ha hb
  show Calls Tryz.prog 22 _ w fun e w' => e = .returned (.bool (cmpT 3 a b == 0)) ∧ _
  unfold cp at HC
  generalize cmpT 3 a b = CC at *
  generalize a.k = ak at *
  generalize a.n = an at *
  generalize a.s = aS at *
  generalize a.l.length = al at *
  generalize b.k = bk at *
  generalize b.n = bn at *
  generalize b.s = bS at *
  generalize b.l.length = bl at *
  go_enter Tryz.func22, Tryz.ntmps22
  go_wp2_with fail
  refine HC.out.mono ?_
  rintro e w' ⟨rfl, hb⟩
  have HR := hide (Below.chain HB.out hb)
  clear hb HC HB
  go_wp2
  go_ret
  exact ⟨rfl, HR.out⟩
end Go.Proofs.YteiacgpaocnofaaGreat
