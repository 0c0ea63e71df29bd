/- What rises; May, Fixed, Has: the program's calls. -/
import Derived.Test.YteiacgpaocnofaaGreatFs
namespace Go.Proofs.YteiacgpaocnofaaGreat
open Go.RowKit
theorem h_cmp {a b : Tm} {a1 : Option Addr} {c1 : Nat} {a2 : Option Addr} {c2 : Nat} {w : World} {u v : Value} (eu : u = tv a a1 c1) (ev : v = tv b a2 c2) (ha : TAt w a a1 c1) (hb : TAt w b a2 c2) : Hands Tryz.prog 122 #[u, v] w (isv (.int .i64 (cp a b))) := by
  subst eu; subst ev
  exact (Compare_any ha hb).mono fun e w' ⟨he, hb⟩ => ⟨_, he, hb, rfl⟩
theorem h_same {a b : Tm} {a1 : Option Addr} {c1 : Nat} {a2 : Option Addr} {c2 : Nat} {w : World} {u v : Value} (eu : u = tv a a1 c1) (ev : v = tv b a2 c2) (ha : TAt w a a1 c1) (hb : TAt w b a2 c2) : Hands Tryz.prog 171 #[u, v] w (isv (.bool (cp a b == 0))) := by
  subst eu; subst ev
  exact (Same_any ha hb).mono fun e w' ⟨he, hb⟩ => ⟨_, he, hb, rfl⟩
theorem h_rcmp {a b : Tm} {a1 : Option Addr} {c1 : Nat} {a2 : Option Addr} {c2 : Nat} {w : World} {u v : Value} (eu : u = tv a a1 c1) (ev : v = tv b a2 c2) (ha : TAt w a a1 c1) (hb : TAt w b a2 c2) : Hands Tryz.prog 42 #[u, v] w (isv (.int .i64 (cp a b))) := by
  subst eu; subst ev
  exact (rCompare_any ha hb).mono fun e w' ⟨he, hb⟩ => ⟨_, he, hb, rfl⟩
theorem h_rsame {a b : Tm} {a1 : Option Addr} {c1 : Nat} {a2 : Option Addr} {c2 : Nat} {w : World} {u v : Value} (eu : u = tv a a1 c1) (ev : v = tv b a2 c2) (ha : TAt w a a1 c1) (hb : TAt w b a2 c2) : Hands Tryz.prog 22 #[u, v] w (isv (.bool (cp a b == 0))) := by
  subst eu; subst ev
  exact (rSame_any ha hb).mono fun e w' ⟨he, hb⟩ => ⟨_, he, hb, rfl⟩
/-- Each below the next one. -/
def riseB (l : List Tm) : Bool := (List.range (l.length - 1)).all fun i => decide (cp (l.getD i default) (l.getD (i + 1) default) < 0)
theorem getD_at {l : List Tm} {k : Nat} {x : Tm} (h : l[k]? = some x) : l.getD k default = x := by rw [List.getD_eq_getElem?_getD, h]; rfl
theorem rise_next {l : List Tm} {m : Nat} (h : ∀ j, j + 1 < m + 1 → cp (l.getD j default) (l.getD (j + 1) default) < 0) (h2 : cp (l.getD m default) (l.getD (m + 1) default) < 0) : ∀ j, j + 1 < m + 1 + 1 → cp (l.getD j default) (l.getD (j + 1) default) < 0 := fun j hj => by
  by_cases e : j = m
  · rw [e]; exact h2
  · exact h j (by omega)
theorem rise_no {l : List Tm} {m : Nat} (hm : m + 1 < l.length) (h : ¬ cp (l.getD m default) (l.getD (m + 1) default) < 0) : riseB l = false := by
  unfold riseB
  rw [List.all_eq_false]
  exact ⟨m, List.mem_range.2 (by omega), by simpa using h⟩
theorem rise_yes {l : List Tm} (h : ∀ j, j + 1 < l.length → cp (l.getD j default) (l.getD (j + 1) default) < 0) : riseB l = true := by
  unfold riseB
  exact List.all_eq_true.2 fun i hi => by
    have := List.mem_range.1 hi
    simpa using h i (by omega)
set_option maxRecDepth 100000 in
set_option maxHeartbeats 4000000 in
theorem rises_any {l : List Tm} {ao : Option Addr} {c : Nat} {w : World} (h : LAt w l ao c) : Calls Tryz.prog 110 #[.slice ao l.length c] w fun e w' => e = .returned (.bool (riseB l)) ∧ Below w.heap.size w w' := by
  obtain ⟨R, hR⟩ : ∃ R, riseB l = R := ⟨_, rfl⟩
  rw [hR]
  have hm1 := h.1
  have hm2 := h.2.1
  have HL := hide h
  have HR := hide hR
  clear h hR
  go_enter Tryz.func110, Tryz.ntmps110
  go_wp2
  go_loopw [3] (fun i wr => ∃ k : Nat, (k ≤ l.length ∨ k = 1) ∧ 1 ≤ k ∧ i = .int .i64 (k : Int) ∧ (∀ j, j + 1 < k → cp (l.getD j default) (l.getD (j + 1) default) < 0) ∧ Below w.heap.size w wr) (fun i _ => l.length - (intOf i).toNat)
  case atStart => exact ⟨1, .inr rfl, by decide, rfl, fun j h => by omega, Below.refl _ _⟩
  case round =>
    obtain ⟨k, hk, hk1, rfl, hall, hB⟩ := hrel
    by_cases hlt : k < l.length
    · obtain ⟨m, rfl⟩ : ∃ m, k = m + 1 := ⟨k - 1, by omega⟩
      obtain ⟨x, hx⟩ : ∃ x, l[m]? = some x := ⟨_, List.getElem?_eq_getElem (by omega)⟩
      obtain ⟨y, hy⟩ : ∃ y, l[m + 1]? = some y := ⟨_, List.getElem?_eq_getElem hlt⟩
      obtain ⟨b, o, hao, hbb, hcs⟩ := HL.out.read (by omega)
      subst hao
      obtain ⟨xa, xc, hxt, hx4⟩ := hcs m x hx
      obtain ⟨ya, yc, hyt, hy4⟩ := hcs (m + 1) y hy
      have hmlt : m < l.length := by omega
      have HT := hide (And.intro (hxt.ext hB) (And.intro (hyt.ext hB) (And.intro (Nat.lt_of_lt_of_le hbb hB.size) (And.intro (fun W (hW : Below wr.heap.size wr W) => hx4 W (Below.chain hB hW)) (fun W (hW : Below wr.heap.size wr W) => hy4 W (Below.chain hB hW))))))
      have HX := hide (And.intro hall hB)
      have hsub : ∀ w_ : World, (do eqGuard .sub 3 (.tmp 11) (.const (.int .i64 1)) (.int .i64 ((m + 1 : Nat) : Int)) (.int .i64 1); binOp .sub 3 (.int .i64 ((m + 1 : Nat) : Int)) (.int .i64 1) : Sem Value).run Tryz.prog w_ = .ok (.int .i64 (m : Int)) w_ := fun w_ => by
        have e : ((m + 1 : Nat) : Int) - 1 = (m : Int) := by omega
        have h1 : ((m + 1 : Nat) : Int) ≤ 9223372036854775807 := by omega
        have h2 : 0 ≤ ((m + 1 : Nat) : Int) := by omega
        have h3 : (m : Int) ≤ 9223372036854775807 := by omega
        have h4 : 0 ≤ (m : Int) := by omega
        generalize ((m + 1 : Nat) : Int) = D at *
        generalize (m : Int) = E at *
        clear HT HX HL
        go_simp
        rw [IntKind.wrap_i64]; omega
      have hpx := getD_at hx
      have hpy := getD_at hy
      clear hall hB hcs hx4 hy4 hxt hyt hx hy
      by_cases hc : cp x y < 0
      · have hge : ∀ w_ : World, (do eqGuard .geq 3 (.tmp 19) (.const (.int .i64 0)) (.int .i64 (cp x y)) (.int .i64 0); binOp .geq 3 (.int .i64 (cp x y)) (.int .i64 0) : Sem Value).run Tryz.prog w_ = .ok (.bool false) w_ := fun w_ => by
          have : decide (0 ≤ cp x y) = false := decide_eq_false (by omega)
          generalize cp x y = CC at *
          go_simp
        have HC := hide hc
        clear hc
        go_wp2_with fail
        refine wp_region_typed (tys := fun ix_ => List.getD [isv (.slice (some ⟨b, o, none⟩) (l.length) c), isv (.int .i64 ((m + 1 : Nat) : Int)), isv (.int .i64 (m : Int)), itp x xa xc, isv (tv x xa xc), itp y ya yc, isv (tv y ya yc), isv (.int .i64 (cp x y)), isv (.bool false)] ix_ anyv) (pre := [(0, 0), (3, 1)])
          (plan := [([(0, 0)], 0), ([(3, 1)], 1), ([(11, 1)], 2), ([(10, 0), (12, 2)], 3), ([(13, 3)], 4), ([(0, 0)], 0), ([(3, 1)], 1), ([(15, 0), (16, 1)], 5), ([(17, 5)], 6), ([(14, 4), (18, 6)], 7), ([(19, 7)], 8)])
          (by kernel_rfl) 21 (by kernel_rfl) rfl ⟨rfl, ⟨rfl, trivial⟩⟩
            (OkL.cons (fun a w X_ h => g_move (wanted_none rfl) (.inl rfl) h.1)
            (OkL.cons (fun a w X_ h => g_move (wanted_none rfl) (.inl rfl) h.1)
            (OkL.cons (fun a w X_ h => g_bin (wanted_none rfl) rfl (v := .int .i64 (m : Int)) (by rw [show a.eval (.tmp 11) = .int .i64 ((m + 1 : Nat) : Int) from h.1]; exact hsub _) rfl)
            (OkL.cons (fun a w X_ h => g_ixt (wanted_none rfl) m rfl h.1 h.2.1 hmlt ((Nat.lt_of_lt_of_le HT.out.2.2.1 (Below.size X_))) (HT.out.2.2.2.1 _ X_))
            (OkL.cons (fun a w X_ h => g_ldt (wanted_none rfl) rfl h.1 rfl)
            (OkL.cons (fun a w X_ h => g_move (wanted_none rfl) (.inl rfl) h.1)
            (OkL.cons (fun a w X_ h => g_move (wanted_none rfl) (.inl rfl) h.1)
            (OkL.cons (fun a w X_ h => g_ixt (wanted_none rfl) (m + 1) rfl h.1 h.2.1 hlt ((Nat.lt_of_lt_of_le HT.out.2.2.1 (Below.size X_))) (HT.out.2.2.2.2 _ X_))
            (OkL.cons (fun a w X_ h => g_ldt (wanted_none rfl) rfl h.1 rfl)
            (OkL.cons (fun a w X_ h => g_call2 (wanted_none rfl) (by kernel_rfl) rfl (h_cmp h.1 h.2.1 (HT.out.1.ext X_) (HT.out.2.1.ext X_)))
            (OkL.cons (fun a w X_ h => g_bin (wanted_none rfl) rfl (v := .bool false) (by rw [show a.eval (.tmp 19) = .int .i64 (cp x y) from h.1]; exact hge _) rfl)
            OkL.nil))))))))))) ?_
        rintro w2 X2 _ rfl _ rfl _ rfl v13 - _ rfl _ rfl _ rfl v17 - _ rfl _ rfl _ rfl
        refine FinL.done ?_
        simp only [Act.put, List.setIfInBounds_toArray, List.set_cons_zero, List.set_cons_succ]
        have HY := hide (Below.chain HX.out.2 X2)
        clear X2 hsub hge
        go_wp2
        go_roundw
        case rel => exact ⟨m + 1 + 1, by omega, by omega, by go_num, rise_next HX.out.1 (by rw [hpx, hpy]; exact HC.out), HY.out⟩
        case measure => simp [intOf]; omega
      · have hge : ∀ w_ : World, (do eqGuard .geq 3 (.tmp 19) (.const (.int .i64 0)) (.int .i64 (cp x y)) (.int .i64 0); binOp .geq 3 (.int .i64 (cp x y)) (.int .i64 0) : Sem Value).run Tryz.prog w_ = .ok (.bool true) w_ := fun w_ => by
          have : decide (0 ≤ cp x y) = true := decide_eq_true (by omega)
          generalize cp x y = CC at *
          go_simp
        have HV := hide (show R = false by rw [← HR.out]; exact rise_no hlt (by rw [hpx, hpy]; exact hc))
        clear hc
        go_wp2_with fail
        refine wp_region_typed (tys := fun ix_ => List.getD [isv (.slice (some ⟨b, o, none⟩) (l.length) c), isv (.int .i64 ((m + 1 : Nat) : Int)), isv (.int .i64 (m : Int)), itp x xa xc, isv (tv x xa xc), itp y ya yc, isv (tv y ya yc), isv (.int .i64 (cp x y)), isv (.bool true)] ix_ anyv) (pre := [(0, 0), (3, 1)])
          (plan := [([(0, 0)], 0), ([(3, 1)], 1), ([(11, 1)], 2), ([(10, 0), (12, 2)], 3), ([(13, 3)], 4), ([(0, 0)], 0), ([(3, 1)], 1), ([(15, 0), (16, 1)], 5), ([(17, 5)], 6), ([(14, 4), (18, 6)], 7), ([(19, 7)], 8)])
          (by kernel_rfl) 21 (by kernel_rfl) rfl ⟨rfl, ⟨rfl, trivial⟩⟩
            (OkL.cons (fun a w X_ h => g_move (wanted_none rfl) (.inl rfl) h.1)
            (OkL.cons (fun a w X_ h => g_move (wanted_none rfl) (.inl rfl) h.1)
            (OkL.cons (fun a w X_ h => g_bin (wanted_none rfl) rfl (v := .int .i64 (m : Int)) (by rw [show a.eval (.tmp 11) = .int .i64 ((m + 1 : Nat) : Int) from h.1]; exact hsub _) rfl)
            (OkL.cons (fun a w X_ h => g_ixt (wanted_none rfl) m rfl h.1 h.2.1 hmlt ((Nat.lt_of_lt_of_le HT.out.2.2.1 (Below.size X_))) (HT.out.2.2.2.1 _ X_))
            (OkL.cons (fun a w X_ h => g_ldt (wanted_none rfl) rfl h.1 rfl)
            (OkL.cons (fun a w X_ h => g_move (wanted_none rfl) (.inl rfl) h.1)
            (OkL.cons (fun a w X_ h => g_move (wanted_none rfl) (.inl rfl) h.1)
            (OkL.cons (fun a w X_ h => g_ixt (wanted_none rfl) (m + 1) rfl h.1 h.2.1 hlt ((Nat.lt_of_lt_of_le HT.out.2.2.1 (Below.size X_))) (HT.out.2.2.2.2 _ X_))
            (OkL.cons (fun a w X_ h => g_ldt (wanted_none rfl) rfl h.1 rfl)
            (OkL.cons (fun a w X_ h => g_call2 (wanted_none rfl) (by kernel_rfl) rfl (h_cmp h.1 h.2.1 (HT.out.1.ext X_) (HT.out.2.1.ext X_)))
            (OkL.cons (fun a w X_ h => g_bin (wanted_none rfl) rfl (v := .bool true) (by rw [show a.eval (.tmp 19) = .int .i64 (cp x y) from h.1]; exact hge _) rfl)
            OkL.nil))))))))))) ?_
        rintro w2 X2 _ rfl _ rfl _ rfl v13 - _ rfl _ rfl _ rfl v17 - _ rfl _ rfl _ rfl
        refine FinL.done ?_
        simp only [Act.put, List.setIfInBounds_toArray, List.set_cons_zero, List.set_cons_succ]
        have HY := hide (Below.chain HX.out.2 X2)
        clear X2 hsub hge
        go_wp2
        go_ret
        exact ⟨by rw [HV.out]; rfl, HY.out⟩
    · have HX := hide hB
      have HV := hide (show R = true by rw [← HR.out]; exact rise_yes (fun j hj => hall j (by omega)))
      have hdl : decide ((k : Int) < (l.length : Int)) = false := decide_eq_false (by omega)
      clear hB hall
      go_wp2
      go_ret
      exact ⟨by rw [HV.out]; rfl, HX.out⟩
/-- May it be? -/
def mayT (t : Tm) : Bool := if t.k = 7 then (t.n == 0) && t.s.toList.isEmpty && fitB t.l && riseB t.l else mayV t.k t.n t.s t.l.length
set_option maxRecDepth 100000 in
set_option maxHeartbeats 4000000 in
theorem May_any {t : Tm} {a : Option Addr} {c : Nat} {w : World} (h : TAt w t a c) : Calls Tryz.prog 84 #[tv t a c] w fun e w' => e = .returned (.bool (mayT t)) ∧ Below w.heap.size w w' := by
  unfold mayT tv
  by_cases h7 : t.k = 7
  · rw [if_pos h7, h7]
    have HB : Hid (∀ j, Below w.heap.size w ((w.alloc (.cells #[.int .i64 7, .int .i64 t.n, .string t.s, .slice a t.l.length c] 33)).drewN j)) := fun j => below_drewN (alloc_below w _) j
    have HL := hide h.list
    have hm1 := h.list.1
    have hm2 := h.list.2.1
    obtain ⟨xl, hxl⟩ : ∃ xl, t.l = xl := ⟨_, rfl⟩
    rw [hxl] at HB HL hm1 ⊢
    clear h h7 hxl
    generalize t.n = an at *
    generalize t.s = aS at *
    cases hn : (an == 0) with
    | false =>
      go_enter Tryz.func84, Tryz.ntmps84
      go_wp2_with fail
      go_quiet (fail)
      go_wp2
      go_ret
      exact ⟨rfl, HB.out _⟩
    | true =>
      cases he : aS.toList.isEmpty with
      | false =>
        go_enter Tryz.func84, Tryz.ntmps84
        go_wp2_with fail
        go_quiet (fail)
        go_wp2
        go_ret
        exact ⟨rfl, HB.out _⟩
      | true =>
        cases hf : fitB xl with
        | false =>
          go_enter Tryz.func84, Tryz.ntmps84
          go_wp2_with fail
          go_quiet (fail)
          go_wp2_with fail
          refine (fitSet_any (HL.out.ext (HB.out _))).mono ?_
          rintro e w' ⟨rfl, hw⟩
          have HR := hide (Below.chain (HB.out _) hw)
          rw [hf]
          clear hw
          go_wp2
          go_ret
          exact ⟨rfl, HR.out⟩
        | true =>
          go_enter Tryz.func84, Tryz.ntmps84
          go_wp2_with fail
          go_quiet (fail)
          go_wp2_with fail
          refine (fitSet_any (HL.out.ext (HB.out _))).mono ?_
          rintro e w' ⟨rfl, hw⟩
          have HR := hide (Below.chain (HB.out _) hw)
          have hr := Below.heap hw (by simp) (show (World.drewN _ _).heap[w.heap.size]? = some (.cells #[.int .i64 7, .int .i64 an, .string aS, .slice a xl.length c] 33 (0, 0)) from heap_alloc_last w (.cells #[.int .i64 7, .int .i64 an, .string aS, .slice a xl.length c] 33))
          have A3 := (row_reads hr).1 3
          simp only [List.getElem?_toArray, List.getElem?_cons_zero, List.getElem?_cons_succ] at A3
          rw [hf]
          clear hw hr
          go_wp2_with fail
          refine (rises_any (HL.out.ext HR.out)).mono ?_
          rintro e w2 ⟨rfl, hw⟩
          have HR2 := hide (Below.chain HR.out hw)
          clear hw
          go_wp2
          go_ret
          exact ⟨rfl, HR2.out⟩
  · rw [if_neg h7]
    exact May_flat _ _ _ _ _ _ h7 h.fits.2.2.1 w
/-- May it be, is it no variable? -/
def fixT (t : Tm) : Bool := (t.k != 1) && mayT t
set_option maxRecDepth 100000 in
theorem Fixed_any {t : Tm} {a : Option Addr} {c : Nat} {w : World} (h : TAt w t a c) : Calls Tryz.prog 63 #[tv t a c] w fun e w' => e = .returned (.bool (fixT t)) ∧ Below w.heap.size w w' := by
  have b1 := alloc_below w (.cells #[.int .i64 t.k, .int .i64 t.n, .string t.s, .slice a t.l.length c] 33)
  have HB := hide b1
  have HC := hide (May_any (h.ext b1))
  unfold tv at *
  unfold fixT
  clear h b1
  generalize mayT t = M at *
  generalize t.k = ak at *
  generalize t.n = an at *
  generalize t.s = aS at *
  generalize t.l.length = al at *
  cases hk : (ak != 1) with
  | false =>
    go_enter Tryz.func63, Tryz.ntmps63
    go_wp2
    go_ret
    exact ⟨rfl, HB.out⟩
  | true =>
    go_enter Tryz.func63, Tryz.ntmps63
    go_wp2_with fail
    refine HC.out.mono ?_
    rintro e w' ⟨rfl, hw⟩
    have HR := hide (Below.chain HB.out hw)
    clear hw
    go_wp2
    go_ret
    exact ⟨rfl, HR.out⟩
/-- Is it one of these? -/
def hasL (l : List Tm) (t : Tm) : Bool := l.any fun x => cp x t == 0
def hasT (s t : Tm) : Bool := (s.k == 7) && hasL s.l t
set_option maxRecDepth 100000 in
set_option maxHeartbeats 4000000 in
theorem Has_any {s t : Tm} {a1 : Option Addr} {c1 : Nat} {a2 : Option Addr} {c2 : Nat} {w : World} (hs : TAt w s a1 c1) (ht : TAt w t a2 c2) : Calls Tryz.prog 177 #[tv s a1 c1, tv t a2 c2] w fun e w' => e = .returned (.bool (hasT s t)) ∧ Below w.heap.size w w' := by
  obtain ⟨R, hR⟩ : ∃ R, hasT s t = R := ⟨_, rfl⟩
  rw [hR]
  unfold tv
  have b0 := alloc_below w (.cells #[.int .i64 s.k, .int .i64 s.n, .string s.s, .slice a1 s.l.length c1] 33)
  have b2 := Below.chain b0 (alloc_below _ (.cells #[.int .i64 t.k, .int .i64 t.n, .string t.s, .slice a2 t.l.length c2] 33))
  have x3 : ((w.alloc (.cells #[.int .i64 s.k, .int .i64 s.n, .string s.s, .slice a1 s.l.length c1] 33)).alloc (.cells #[.int .i64 t.k, .int .i64 t.n, .string t.s, .slice a2 t.l.length c2] 33)).heap[w.heap.size + 1]? = some (.cells #[.int .i64 t.k, .int .i64 t.n, .string t.s, .slice a2 t.l.length c2] 33 (0, 0)) := by
    have := heap_alloc_last (w.alloc (.cells #[.int .i64 s.k, .int .i64 s.n, .string s.s, .slice a1 s.l.length c1] 33)) (.cells #[.int .i64 t.k, .int .i64 t.n, .string t.s, .slice a2 t.l.length c2] 33)
    rwa [show (w.alloc (.cells #[.int .i64 s.k, .int .i64 s.n, .string s.s, .slice a1 s.l.length c1] 33)).heap.size = w.heap.size + 1 by simp] at this
  have HB := hide (And.intro b2 x3)
  have hm1 := hs.list.1
  have hm2 := hs.list.2.1
  have HL := hide (And.intro hs.list ht)
  clear hs b0 b2 x3 ht
  by_cases h7 : s.k = 7
  · have e7 : (s.k != 7) = false := by simpa using h7
    have HR := hide (show hasL s.l t = R by rw [← hR]; unfold hasT; simp [h7])
    clear hR h7
    go_enter Tryz.func177, Tryz.ntmps177
    go_wp2
    go_loopw [13] (fun i wr => ∃ k : Nat, k ≤ s.l.length ∧ i = .int .i64 (k : Int) ∧ hasL (s.l.drop k) t = R ∧ Below w.heap.size w wr ∧ wr.heap[w.heap.size + 1]? = some (.cells #[.int .i64 t.k, .int .i64 t.n, .string t.s, .slice a2 t.l.length c2] 33 (0, 0))) (fun i _ => s.l.length - (intOf i).toNat)
    case atStart => exact ⟨0, Nat.zero_le _, rfl, HR.out, HB.out.1, HB.out.2⟩
    case round =>
      obtain ⟨k, hk, rfl, hrest, hB, r2⟩ := hrel
      by_cases hlt : k < s.l.length
      · obtain ⟨x, hx⟩ : ∃ x, s.l[k]? = some x := ⟨_, List.getElem?_eq_getElem hlt⟩
        obtain ⟨b, o, hao, hbb, hcs⟩ := HL.out.1.read (by omega)
        subst hao
        obtain ⟨xa, xc, hxt, hx4⟩ := hcs k x hx
        obtain ⟨p0, p1, p2, p3⟩ := hx4 wr hB
        have hix := fun w_ => ix_terms w_ b o s.l.length c1 k hlt
        have bA := alloc_below wr (.cells #[.int .i64 x.k, .int .i64 x.n, .string x.s, .slice xa x.l.length xc] 33)
        have r3 := Below.heap bA (Array.getElem?_eq_some_iff.1 r2).1 r2
        have q := (row_reads r3).1
        have q0 := q 0
        have q1 := q 1
        have q2 := q 2
        have q3 := q 3
        simp only [List.getElem?_toArray, List.getElem?_cons_zero, List.getElem?_cons_succ] at q0 q1 q2 q3
        have bb := Below.chain hB bA
        have HC := hide (Same_any (hxt.ext bb) (HL.out.2.ext bb))
        unfold tv at HC
        rw [drop_at hx] at hrest
        have HX := hide (And.intro hrest (And.intro bb r3))
        clear hrest hB r2 r3 q bA bb hcs hx4 hxt hx
        cases hc : (cp x t == 0) with
        | true =>
          rw [hc] at HC
          have HV := hide (show R = true by rw [← HX.out.1]; unfold hasL; rw [List.any_cons, hc]; rfl)
          clear hc
          go_wp2_with fail
          refine HC.out.mono ?_
          rintro e w2 ⟨rfl, b3⟩
          have HY := hide (Below.chain HX.out.2.1 b3)
          clear b3
          go_wp2
          go_ret
          exact ⟨by rw [HV.out]; rfl, HY.out⟩
        | false =>
          rw [hc] at HC
          have HV := hide (show hasL (s.l.drop (k + 1)) t = R by rw [← HX.out.1]; unfold hasL; rw [List.any_cons, hc]; rfl)
          clear hc
          go_wp2_with fail
          refine HC.out.mono ?_
          rintro e w2 ⟨rfl, b3⟩
          have HY := hide (And.intro (Below.chain HX.out.2.1 b3) (Below.heap b3 (Array.getElem?_eq_some_iff.1 HX.out.2.2).1 HX.out.2.2))
          clear b3
          go_wp2
          go_roundw
          case rel => exact ⟨k + 1, by omega, by go_num, HV.out, HY.out.1, HY.out.2⟩
          case measure => simp [intOf]; omega
      · obtain rfl : k = s.l.length := by omega
        rw [List.drop_length] at hrest
        have HX := hide (And.intro hrest hB)
        clear hrest hB r2
        go_wp2
        go_ret
        exact ⟨by rw [← HX.out.1]; rfl, HX.out.2⟩
  · have e7 : (s.k != 7) = true := by simpa using h7
    have HR := hide (show R = false by rw [← hR]; unfold hasT; simp [h7])
    clear hR h7
    go_enter Tryz.func177, Tryz.ntmps177
    go_wp2
    go_ret
    exact ⟨by rw [HR.out]; rfl, HB.out.1⟩
set_option maxRecDepth 100000 in
set_option maxHeartbeats 4000000 in
theorem rHas_any {s t : Tm} {a1 : Option Addr} {c1 : Nat} {a2 : Option Addr} {c2 : Nat} {w : World} (hs : TAt w s a1 c1) (ht : TAt w t a2 c2) : Calls Tryz.prog 70 #[tv s a1 c1, tv t a2 c2] w fun e w' => e = .returned (.bool (hasT s t)) ∧ Below w.heap.size w w' := by
  obtain ⟨R, hR⟩ : ∃ R, hasT s t = R := ⟨_, rfl⟩
  rw [hR]
  unfold tv
  have b0 := alloc_below w (.cells #[.int .i64 s.k, .int .i64 s.n, .string s.s, .slice a1 s.l.length c1] 33)
  have b2 := Below.chain b0 (alloc_below _ (.cells #[.int .i64 t.k, .int .i64 t.n, .string t.s, .slice a2 t.l.length c2] 33))
  have x3 : ((w.alloc (.cells #[.int .i64 s.k, .int .i64 s.n, .string s.s, .slice a1 s.l.length c1] 33)).alloc (.cells #[.int .i64 t.k, .int .i64 t.n, .string t.s, .slice a2 t.l.length c2] 33)).heap[w.heap.size + 1]? = some (.cells #[.int .i64 t.k, .int .i64 t.n, .string t.s, .slice a2 t.l.length c2] 33 (0, 0)) := by
    have := heap_alloc_last (w.alloc (.cells #[.int .i64 s.k, .int .i64 s.n, .string s.s, .slice a1 s.l.length c1] 33)) (.cells #[.int .i64 t.k, .int .i64 t.n, .string t.s, .slice a2 t.l.length c2] 33)
    rwa [show (w.alloc (.cells #[.int .i64 s.k, .int .i64 s.n, .string s.s, .slice a1 s.l.length c1] 33)).heap.size = w.heap.size + 1 by simp] at this
  have HB := hide (And.intro b2 x3)
  have hm1 := hs.list.1
  have hm2 := hs.list.2.1
  have HL := hide (And.intro hs.list ht)
  clear hs b0 b2 x3 ht
  by_cases h7 : s.k = 7
  · have e7 : (s.k != 7) = false := by simpa using h7
    have HR := hide (show hasL s.l t = R by rw [← hR]; unfold hasT; simp [h7])
    clear hR h7
    go_enter Tryz.func70, Tryz.ntmps70
    go_wp2
    go_loopw [13] (fun i wr => ∃ k : Nat, k ≤ s.l.length ∧ i = .int .i64 (k : Int) ∧ hasL (s.l.drop k) t = R ∧ Below w.heap.size w wr ∧ wr.heap[w.heap.size + 1]? = some (.cells #[.int .i64 t.k, .int .i64 t.n, .string t.s, .slice a2 t.l.length c2] 33 (0, 0))) (fun i _ => s.l.length - (intOf i).toNat)
    case atStart => exact ⟨0, Nat.zero_le _, rfl, HR.out, HB.out.1, HB.out.2⟩
    case round =>
      obtain ⟨k, hk, rfl, hrest, hB, r2⟩ := hrel
      by_cases hlt : k < s.l.length
      · obtain ⟨x, hx⟩ : ∃ x, s.l[k]? = some x := ⟨_, List.getElem?_eq_getElem hlt⟩
        obtain ⟨b, o, hao, hbb, hcs⟩ := HL.out.1.read (by omega)
        subst hao
        obtain ⟨xa, xc, hxt, hx4⟩ := hcs k x hx
        obtain ⟨p0, p1, p2, p3⟩ := hx4 wr hB
        have hix := fun w_ => ix_terms w_ b o s.l.length c1 k hlt
        have bA := alloc_below wr (.cells #[.int .i64 x.k, .int .i64 x.n, .string x.s, .slice xa x.l.length xc] 33)
        have r3 := Below.heap bA (Array.getElem?_eq_some_iff.1 r2).1 r2
        have q := (row_reads r3).1
        have q0 := q 0
        have q1 := q 1
        have q2 := q 2
        have q3 := q 3
        simp only [List.getElem?_toArray, List.getElem?_cons_zero, List.getElem?_cons_succ] at q0 q1 q2 q3
        have bb := Below.chain hB bA
        have HC := hide (rSame_any (hxt.ext bb) (HL.out.2.ext bb))
        unfold tv at HC
        rw [drop_at hx] at hrest
        have HX := hide (And.intro hrest (And.intro bb r3))
        clear hrest hB r2 r3 q bA bb hcs hx4 hxt hx
        cases hc : (cp x t == 0) with
        | true =>
          rw [hc] at HC
          have HV := hide (show R = true by rw [← HX.out.1]; unfold hasL; rw [List.any_cons, hc]; rfl)
          clear hc
          go_wp2_with fail
          refine HC.out.mono ?_
          rintro e w2 ⟨rfl, b3⟩
          have HY := hide (Below.chain HX.out.2.1 b3)
          clear b3
          go_wp2
          go_ret
          exact ⟨by rw [HV.out]; rfl, HY.out⟩
        | false =>
          rw [hc] at HC
          have HV := hide (show hasL (s.l.drop (k + 1)) t = R by rw [← HX.out.1]; unfold hasL; rw [List.any_cons, hc]; rfl)
          clear hc
          go_wp2_with fail
          refine HC.out.mono ?_
          rintro e w2 ⟨rfl, b3⟩
          have HY := hide (And.intro (Below.chain HX.out.2.1 b3) (Below.heap b3 (Array.getElem?_eq_some_iff.1 HX.out.2.2).1 HX.out.2.2))
          clear b3
          go_wp2
          go_roundw
          case rel => exact ⟨k + 1, by omega, by go_num, HV.out, HY.out.1, HY.out.2⟩
          case measure => simp [intOf]; omega
      · obtain rfl : k = s.l.length := by omega
        rw [List.drop_length] at hrest
        have HX := hide (And.intro hrest hB)
        clear hrest hB r2
        go_wp2
        go_ret
        exact ⟨by rw [← HX.out.1]; rfl, HX.out.2⟩
  · have e7 : (s.k != 7) = true := by simpa using h7
    have HR := hide (show R = false by rw [← hR]; unfold hasT; simp [h7])
    clear hR h7
    go_enter Tryz.func70, Tryz.ntmps70
    go_wp2
    go_ret
    exact ⟨by rw [HR.out]; rfl, HB.out.1⟩
end Go.Proofs.YteiacgpaocnofaaGreat
