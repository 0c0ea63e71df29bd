/- May, Fixed: as the page has them. -/
import Derived.Test.YteiacgpaocnofaaGreatMs
namespace Go.Proofs.YteiacgpaocnofaaGreat
open Go.RowKit
theorem h_rmay {t : Tm} {a : Option Addr} {c : Nat} {w : World} {v : Value} {M : Bool} (e : v = tv t a c) (hM : mayV t.k t.n t.s t.l.length = M) (h7 : t.k ≠ 7) (hs : t.s.size ≤ 9223372036854775807) : Hands Tryz.prog 28 #[v] w (isv (.bool M)) := by
  subst e; subst hM
  exact (rMay_flat t.k t.n t.s a t.l.length c h7 hs w).mono fun e w' ⟨he, hb⟩ => ⟨_, he, hb, rfl⟩
theorem one_yes {k0 : Int} {x : Tm} (h1 : x.k ≠ 1) (h7 : x.k ≠ 7) (hm : mayV x.k x.n x.s x.l.length = true) (hk : x.k = k0) : oneB k0 x = true := by
  subst hk
  unfold oneB fixV
  rw [hm]
  simp [h1, h7]
set_option maxRecDepth 100000 in
set_option maxHeartbeats 8000000 in
theorem maySet_any {t : Tm} {ta : Option Addr} {tc : Nat} {w : World} (h : TAt w t ta tc) : Calls Tryz.prog 55 #[tv t ta tc] w fun e w' => e = .returned (.bool ((t.n == 0) && t.s.toList.isEmpty && fitB t.l && riseB t.l)) ∧ Below w.heap.size w w' := by
  unfold tv
  have HB := hide (And.intro (alloc_below w (.cells #[.int .i64 t.k, .int .i64 t.n, .string t.s, .slice ta t.l.length tc] 33)) (heap_alloc_last w (.cells #[.int .i64 t.k, .int .i64 t.n, .string t.s, .slice ta t.l.length tc] 33)))
  have HL := hide h.list
  have hm1 := h.list.1
  have hm2 := h.list.2.1
  clear h
  cases hn : (t.n == 0) with
  | false =>
    have hn2 : (t.n != 0) = true := by simp at hn; simpa using hn
    clear hn
    go_enter Tryz.func55, Tryz.ntmps55
    go_wp2
    go_ret
    exact ⟨rfl, HB.out.1⟩
  | true =>
    have hn2 : (t.n != 0) = false := by simp at hn; simpa using hn
    clear hn
    cases he : t.s.toList.isEmpty with
    | false =>
      go_enter Tryz.func55, Tryz.ntmps55
      go_wp2
      go_ret
      exact ⟨rfl, HB.out.1⟩
    | true =>
      by_cases h16 : t.l.length ≤ 16
      · have d16 : decide ((16 : Int) < (t.l.length : Int)) = false := decide_eq_false (by omega)
        rw [Bool.true_and, Bool.true_and]
        obtain ⟨R, hR⟩ : ∃ R, (fitB t.l && riseB t.l) = R := ⟨_, rfl⟩
        rw [hR]
        have HR := hide hR
        clear hR
        go_enter Tryz.func55, Tryz.ntmps55
        go_wp2
        go_loopw [22] (fun i wr => ∃ k : Nat, k ≤ t.l.length ∧ i = .int .i64 (k : Int) ∧ (∀ j x, j < k → t.l[j]? = some x → oneB (t.l.headD default).k x = true) ∧ (∀ j, j + 1 < k → cp (t.l.getD j default) (t.l.getD (j + 1) default) < 0) ∧ Below w.heap.size w wr ∧ wr.heap[w.heap.size]? = some (.cells #[.int .i64 t.k, .int .i64 t.n, .string t.s, .slice ta t.l.length tc] 33 (0, 0))) (fun i _ => t.l.length - (intOf i).toNat)
        case atStart => exact ⟨0, Nat.zero_le _, rfl, fun j x h => absurd h (Nat.not_lt_zero _), fun j h => absurd h (by omega), HB.out.1, HB.out.2⟩
        case round =>
          obtain ⟨k, hk, rfl, hall, hris, hB, r1⟩ := hrel
          by_cases hlt : k < t.l.length
          · have HA := hide (And.intro hall hris)
            obtain ⟨x, hx⟩ : ∃ x, t.l[k]? = some x := ⟨_, List.getElem?_eq_getElem hlt⟩
            have hl0 : 0 < t.l.length := by omega
            obtain ⟨y, hy⟩ : ∃ y, t.l[0]? = some y := ⟨_, List.getElem?_eq_getElem hl0⟩
            obtain ⟨b, o, hao, hbb, hcs⟩ := HL.out.read hl0
            subst hao
            obtain ⟨xa, xc, hxt, hc4⟩ := hcs k x hx
            obtain ⟨ya, yc, hyt, hy4⟩ := hcs 0 y hy
            obtain ⟨p0, p1, p2, p3⟩ := hc4 wr hB
            have hix := fun w_ => ix_terms w_ b o t.l.length tc k hlt
            have b1 := alloc_below wr (.cells #[.int .i64 x.k, .int .i64 x.n, .string x.s, .slice xa x.l.length xc] 33)
            have bb := Below.chain hB b1
            have hfs := hxt.fits.2.2.1
            have hhd := head_at hy
            have hpx := getD_at hx
            have HX := hide (And.intro (heap_alloc_last wr (.cells #[.int .i64 x.k, .int .i64 x.n, .string x.s, .slice xa x.l.length xc] 33)) (And.intro bb (And.intro (Below.heap b1 (Array.getElem?_eq_some_iff.1 r1).1 r1) True.intro)))
            by_cases h1 : x.k = 1
            · have HK1 := hide h1
              have e1 : (x.k == 1) = true := by simpa using h1
              clear h1 bb b1 hB hcs hc4 hy4 hxt hyt hy r1 hall hris
              have hq1 : ∀ w_ : World, (do eqGuard .eql 3 (.tmp 28) (.const (.int .i64 1)) (.int .i64 x.k) (.int .i64 1); binOp .eql 3 (.int .i64 x.k) (.int .i64 1) : Sem Value).run Tryz.prog w_ = .ok (.bool true) w_ := fun w_ => by go_simp
              go_wp2_with fail
              refine wp_region_typed (tys := fun ix_ => List.getD [itp x xa xc, icp (.int .i64 x.k), isv (.int .i64 x.k), isv (.bool true), isv (undef)] ix_ anyv) (pre := [(4, 0)])
                (plan := [([(4, 0)], 1), ([(27, 1)], 2), ([(28, 2)], 3), ([(29, 3)], 3), ([(30, 3)], 4), ([(30, 3)], 4), ([(30, 3)], 4), ([(30, 3)], 3), ([(34, 3)], 3), ([(35, 3)], 4), ([(35, 3)], 4), ([(35, 3)], 4), ([(35, 3)], 3), ([(39, 3)], 3), ([(40, 3)], 4), ([(40, 3)], 4), ([(40, 3)], 4), ([(43, 4)], 4), ([(43, 4)], 4), ([(43, 4)], 4), ([(43, 4)], 4), ([(43, 4)], 4), ([(43, 4)], 4), ([(43, 4)], 4), ([(43, 4)], 4), ([(43, 4)], 4), ([(52, 4)], 4), ([(52, 4)], 4), ([(52, 4)], 4), ([(52, 4)], 4), ([(52, 4)], 4), ([(52, 4)], 4), ([(52, 4)], 4), ([(52, 4)], 4), ([(52, 4)], 4), ([(43, 4)], 4), ([(40, 3)], 4), ([(40, 3)], 3)])
                (by kernel_rfl) 66 (by kernel_rfl) rfl ⟨itp_row HX.out.1, trivial⟩
                  (OkL.cons (fun a w X_ h => g_fa0 (wanted_none rfl) rfl h.1)
                  (OkL.cons (fun a w X_ h => g_ld3 (wanted_none rfl) rfl h.1 rfl)
                  (OkL.cons (fun a w X_ h => g_bin (wanted_none rfl) rfl (v := .bool true) (by rw [show a.eval (.tmp 28) = .int .i64 x.k from h.1]; exact hq1 _) rfl)
                  (OkL.cons (fun a w X_ h => g_move (wanted_none rfl) (.inl rfl) h.1)
                  (OkL.cons (fun a w X_ h => g_skip rfl rfl h.1 rfl)
                  (OkL.cons (fun a w X_ h => g_skip rfl rfl h.1 rfl)
                  (OkL.cons (fun a w X_ h => g_skip rfl rfl h.1 rfl)
                  (OkL.cons (fun a w X_ h => g_pick (wanted_none rfl) rfl h.1 rfl)
                  (OkL.cons (fun a w X_ h => g_move (wanted_none rfl) (.inl rfl) h.1)
                  (OkL.cons (fun a w X_ h => g_skip rfl rfl h.1 rfl)
                  (OkL.cons (fun a w X_ h => g_skip rfl rfl h.1 rfl)
                  (OkL.cons (fun a w X_ h => g_skip rfl rfl h.1 rfl)
                  (OkL.cons (fun a w X_ h => g_pick (wanted_none rfl) rfl h.1 rfl)
                  (OkL.cons (fun a w X_ h => g_move (wanted_none rfl) (.inl rfl) h.1)
                  (OkL.cons (fun a w X_ h => g_skip rfl rfl h.1 rfl)
                  (OkL.cons (fun a w X_ h => g_skip rfl rfl h.1 rfl)
                  (OkL.cons (fun a w X_ h => g_skip rfl rfl h.1 rfl)
                  (OkL.cons (fun a w X_ h => g_skipu rfl rfl h.1 rfl)
                  (OkL.cons (fun a w X_ h => g_skipu rfl rfl h.1 rfl)
                  (OkL.cons (fun a w X_ h => g_skipu rfl rfl h.1 rfl)
                  (OkL.cons (fun a w X_ h => g_skipu rfl rfl h.1 rfl)
                  (OkL.cons (fun a w X_ h => g_skipu rfl rfl h.1 rfl)
                  (OkL.cons (fun a w X_ h => g_skipu rfl rfl h.1 rfl)
                  (OkL.cons (fun a w X_ h => g_skipu rfl rfl h.1 rfl)
                  (OkL.cons (fun a w X_ h => g_skipu rfl rfl h.1 rfl)
                  (OkL.cons (fun a w X_ h => g_skipu rfl rfl h.1 rfl)
                  (OkL.cons (fun a w X_ h => g_skipu rfl rfl h.1 rfl)
                  (OkL.cons (fun a w X_ h => g_skipu rfl rfl h.1 rfl)
                  (OkL.cons (fun a w X_ h => g_skipu rfl rfl h.1 rfl)
                  (OkL.cons (fun a w X_ h => g_skipu rfl rfl h.1 rfl)
                  (OkL.cons (fun a w X_ h => g_skipu rfl rfl h.1 rfl)
                  (OkL.cons (fun a w X_ h => g_skipu rfl rfl h.1 rfl)
                  (OkL.cons (fun a w X_ h => g_skipu rfl rfl h.1 rfl)
                  (OkL.cons (fun a w X_ h => g_skipu rfl rfl h.1 rfl)
                  (OkL.cons (fun a w X_ h => g_skipu rfl rfl h.1 rfl)
                  (OkL.cons (fun a w X_ h => g_skipu rfl rfl h.1 rfl)
                  (OkL.cons (fun a w X_ h => g_skip rfl rfl h.1 rfl)
                  (OkL.cons (fun a w X_ h => g_pick (wanted_none rfl) rfl h.1 rfl)
                  OkL.nil)))))))))))))))))))))))))))))))))))))) ?_
              rintro w2 X2 v27 - _ rfl _ rfl _ rfl _ rfl _ rfl _ rfl _ rfl _ rfl _ rfl _ rfl _ rfl _ rfl _ rfl _ rfl _ rfl _ rfl _ rfl _ rfl _ rfl _ rfl _ rfl _ rfl _ rfl _ rfl _ rfl _ rfl _ rfl _ rfl _ rfl _ rfl _ rfl _ rfl _ rfl _ rfl _ rfl _ rfl _ rfl
              refine FinL.done ?_
              simp only [Act.put, List.setIfInBounds_toArray, List.set_cons_zero, List.set_cons_succ]
              have HY := hide (And.intro (Below.chain HX.out.2.1 X2) (Below.heap X2 (Array.getElem?_eq_some_iff.1 HX.out.2.2.1).1 HX.out.2.2.1))
              have HV := hide (show R = false by rw [← HR.out, fit_no hx (by unfold oneB fixV; rw [HK1.out]; simp), Bool.false_and])
              clear HX X2
              go_wp2
              go_ret
              exact ⟨by rw [HV.out]; rfl, HY.out.1⟩
            · have e1 : (x.k == 1) = false := by simpa using h1
              have h1n : x.k ≠ 1 := h1
              by_cases h7 : x.k = 7
              · have HK7 := hide h7
                have e7 : (x.k == 7) = true := by simpa using h7
                clear h7 bb b1 hB hcs hc4 hy4 hxt hyt hy r1 hall hris h1 h1n
                have hq1 : ∀ w_ : World, (do eqGuard .eql 3 (.tmp 28) (.const (.int .i64 1)) (.int .i64 x.k) (.int .i64 1); binOp .eql 3 (.int .i64 x.k) (.int .i64 1) : Sem Value).run Tryz.prog w_ = .ok (.bool false) w_ := fun w_ => by go_simp
                have hq7 : ∀ w_ : World, (do eqGuard .eql 3 (.tmp 32) (.const (.int .i64 7)) (.int .i64 x.k) (.int .i64 7); binOp .eql 3 (.int .i64 x.k) (.int .i64 7) : Sem Value).run Tryz.prog w_ = .ok (.bool true) w_ := fun w_ => by go_simp
                go_wp2_with fail
                refine wp_region_typed (tys := fun ix_ => List.getD [itp x xa xc, icp (.int .i64 x.k), isv (.int .i64 x.k), isv (.bool false), isv (.bool true), isv (undef)] ix_ anyv) (pre := [(4, 0)])
                  (plan := [([(4, 0)], 1), ([(27, 1)], 2), ([(28, 2)], 3), ([(29, 3)], 3), ([(30, 3), (4, 0)], 1), ([(30, 3), (31, 1)], 2), ([(30, 3), (32, 2)], 4), ([(30, 3), (33, 4)], 4), ([(34, 4)], 4), ([(35, 4)], 5), ([(35, 4)], 5), ([(35, 4)], 5), ([(35, 4)], 4), ([(39, 4)], 4), ([(40, 4)], 5), ([(40, 4)], 5), ([(40, 4)], 5), ([(43, 5)], 5), ([(43, 5)], 5), ([(43, 5)], 5), ([(43, 5)], 5), ([(43, 5)], 5), ([(43, 5)], 5), ([(43, 5)], 5), ([(43, 5)], 5), ([(43, 5)], 5), ([(52, 5)], 5), ([(52, 5)], 5), ([(52, 5)], 5), ([(52, 5)], 5), ([(52, 5)], 5), ([(52, 5)], 5), ([(52, 5)], 5), ([(52, 5)], 5), ([(52, 5)], 5), ([(43, 5)], 5), ([(40, 4)], 5), ([(40, 4)], 4)])
                  (by kernel_rfl) 66 (by kernel_rfl) rfl ⟨itp_row HX.out.1, trivial⟩
                    (OkL.cons (fun a w X_ h => g_fa0 (wanted_none rfl) rfl h.1)
                    (OkL.cons (fun a w X_ h => g_ld3 (wanted_none rfl) rfl h.1 rfl)
                    (OkL.cons (fun a w X_ h => g_bin (wanted_none rfl) rfl (v := .bool false) (by rw [show a.eval (.tmp 28) = .int .i64 x.k from h.1]; exact hq1 _) rfl)
                    (OkL.cons (fun a w X_ h => g_move (wanted_none rfl) (.inl rfl) h.1)
                    (OkL.cons (fun a w X_ h => g_fa0 (wanted_some rfl rfl h.1) rfl h.2.1)
                    (OkL.cons (fun a w X_ h => g_ld3 (wanted_some rfl rfl h.1) rfl h.2.1 rfl)
                    (OkL.cons (fun a w X_ h => g_bin (wanted_some rfl rfl h.1) rfl (v := .bool true) (by rw [show a.eval (.tmp 32) = .int .i64 x.k from h.2.1]; exact hq7 _) rfl)
                    (OkL.cons (fun a w X_ h => g_pick (wanted_none rfl) rfl h.1 h.2.1)
                    (OkL.cons (fun a w X_ h => g_move (wanted_none rfl) (.inl rfl) h.1)
                    (OkL.cons (fun a w X_ h => g_skip rfl rfl h.1 rfl)
                    (OkL.cons (fun a w X_ h => g_skip rfl rfl h.1 rfl)
                    (OkL.cons (fun a w X_ h => g_skip rfl rfl h.1 rfl)
                    (OkL.cons (fun a w X_ h => g_pick (wanted_none rfl) rfl h.1 rfl)
                    (OkL.cons (fun a w X_ h => g_move (wanted_none rfl) (.inl rfl) h.1)
                    (OkL.cons (fun a w X_ h => g_skip rfl rfl h.1 rfl)
                    (OkL.cons (fun a w X_ h => g_skip rfl rfl h.1 rfl)
                    (OkL.cons (fun a w X_ h => g_skip rfl rfl h.1 rfl)
                    (OkL.cons (fun a w X_ h => g_skipu rfl rfl h.1 rfl)
                    (OkL.cons (fun a w X_ h => g_skipu rfl rfl h.1 rfl)
                    (OkL.cons (fun a w X_ h => g_skipu rfl rfl h.1 rfl)
                    (OkL.cons (fun a w X_ h => g_skipu rfl rfl h.1 rfl)
                    (OkL.cons (fun a w X_ h => g_skipu rfl rfl h.1 rfl)
                    (OkL.cons (fun a w X_ h => g_skipu rfl rfl h.1 rfl)
                    (OkL.cons (fun a w X_ h => g_skipu rfl rfl h.1 rfl)
                    (OkL.cons (fun a w X_ h => g_skipu rfl rfl h.1 rfl)
                    (OkL.cons (fun a w X_ h => g_skipu rfl rfl h.1 rfl)
                    (OkL.cons (fun a w X_ h => g_skipu rfl rfl h.1 rfl)
                    (OkL.cons (fun a w X_ h => g_skipu rfl rfl h.1 rfl)
                    (OkL.cons (fun a w X_ h => g_skipu rfl rfl h.1 rfl)
                    (OkL.cons (fun a w X_ h => g_skipu rfl rfl h.1 rfl)
                    (OkL.cons (fun a w X_ h => g_skipu rfl rfl h.1 rfl)
                    (OkL.cons (fun a w X_ h => g_skipu rfl rfl h.1 rfl)
                    (OkL.cons (fun a w X_ h => g_skipu rfl rfl h.1 rfl)
                    (OkL.cons (fun a w X_ h => g_skipu rfl rfl h.1 rfl)
                    (OkL.cons (fun a w X_ h => g_skipu rfl rfl h.1 rfl)
                    (OkL.cons (fun a w X_ h => g_skipu rfl rfl h.1 rfl)
                    (OkL.cons (fun a w X_ h => g_skip rfl rfl h.1 rfl)
                    (OkL.cons (fun a w X_ h => g_pick (wanted_none rfl) rfl h.1 rfl)
                    OkL.nil)))))))))))))))))))))))))))))))))))))) ?_
                rintro w2 X2 v27 - _ rfl _ rfl _ rfl v31 - _ rfl _ rfl _ rfl _ rfl _ rfl _ rfl _ rfl _ rfl _ rfl _ rfl _ rfl _ rfl _ rfl _ rfl _ rfl _ rfl _ rfl _ rfl _ rfl _ rfl _ rfl _ rfl _ rfl _ rfl _ rfl _ rfl _ rfl _ rfl _ rfl _ rfl _ rfl _ rfl _ rfl
                refine FinL.done ?_
                simp only [Act.put, List.setIfInBounds_toArray, List.set_cons_zero, List.set_cons_succ]
                have HY := hide (And.intro (Below.chain HX.out.2.1 X2) (Below.heap X2 (Array.getElem?_eq_some_iff.1 HX.out.2.2.1).1 HX.out.2.2.1))
                have HV := hide (show R = false by rw [← HR.out, fit_no hx (by unfold oneB; rw [HK7.out]; simp), Bool.false_and])
                clear HX X2
                go_wp2
                go_ret
                exact ⟨by rw [HV.out]; rfl, HY.out.1⟩
              · have e7 : (x.k == 7) = false := by simpa using h7
                have h7n : x.k ≠ 7 := h7
                cases hmv : mayV x.k x.n x.s x.l.length with
                | false =>
                  clear bb b1 hB hcs hc4 hy4 hxt hyt hy r1 hall hris
                  have hq1 : ∀ w_ : World, (do eqGuard .eql 3 (.tmp 28) (.const (.int .i64 1)) (.int .i64 x.k) (.int .i64 1); binOp .eql 3 (.int .i64 x.k) (.int .i64 1) : Sem Value).run Tryz.prog w_ = .ok (.bool false) w_ := fun w_ => by go_simp
                  have hq7 : ∀ w_ : World, (do eqGuard .eql 3 (.tmp 32) (.const (.int .i64 7)) (.int .i64 x.k) (.int .i64 7); binOp .eql 3 (.int .i64 x.k) (.int .i64 7) : Sem Value).run Tryz.prog w_ = .ok (.bool false) w_ := fun w_ => by go_simp
                  go_wp2_with fail
                  refine wp_region_typed (tys := fun ix_ => List.getD [itp x xa xc, icp (.int .i64 x.k), isv (.int .i64 x.k), isv (.bool false), isv (tv x xa xc), isv (.bool true), isv (undef)] ix_ anyv) (pre := [(4, 0)])
                    (plan := [([(4, 0)], 1), ([(27, 1)], 2), ([(28, 2)], 3), ([(29, 3)], 3), ([(30, 3), (4, 0)], 1), ([(30, 3), (31, 1)], 2), ([(30, 3), (32, 2)], 3), ([(30, 3), (33, 3)], 3), ([(34, 3)], 3), ([(35, 3), (4, 0)], 4), ([(35, 3), (36, 4)], 3), ([(35, 3), (37, 3)], 5), ([(35, 3), (38, 5)], 5), ([(39, 5)], 5), ([(40, 5)], 6), ([(40, 5)], 6), ([(40, 5)], 6), ([(43, 6)], 6), ([(43, 6)], 6), ([(43, 6)], 6), ([(43, 6)], 6), ([(43, 6)], 6), ([(43, 6)], 6), ([(43, 6)], 6), ([(43, 6)], 6), ([(43, 6)], 6), ([(52, 6)], 6), ([(52, 6)], 6), ([(52, 6)], 6), ([(52, 6)], 6), ([(52, 6)], 6), ([(52, 6)], 6), ([(52, 6)], 6), ([(52, 6)], 6), ([(52, 6)], 6), ([(43, 6)], 6), ([(40, 5)], 6), ([(40, 5)], 5)])
                    (by kernel_rfl) 66 (by kernel_rfl) rfl ⟨itp_row HX.out.1, trivial⟩
                      (OkL.cons (fun a w X_ h => g_fa0 (wanted_none rfl) rfl h.1)
                      (OkL.cons (fun a w X_ h => g_ld3 (wanted_none rfl) rfl h.1 rfl)
                      (OkL.cons (fun a w X_ h => g_bin (wanted_none rfl) rfl (v := .bool false) (by rw [show a.eval (.tmp 28) = .int .i64 x.k from h.1]; exact hq1 _) rfl)
                      (OkL.cons (fun a w X_ h => g_move (wanted_none rfl) (.inl rfl) h.1)
                      (OkL.cons (fun a w X_ h => g_fa0 (wanted_some rfl rfl h.1) rfl h.2.1)
                      (OkL.cons (fun a w X_ h => g_ld3 (wanted_some rfl rfl h.1) rfl h.2.1 rfl)
                      (OkL.cons (fun a w X_ h => g_bin (wanted_some rfl rfl h.1) rfl (v := .bool false) (by rw [show a.eval (.tmp 32) = .int .i64 x.k from h.2.1]; exact hq7 _) rfl)
                      (OkL.cons (fun a w X_ h => g_pick (wanted_none rfl) rfl h.1 h.2.1)
                      (OkL.cons (fun a w X_ h => g_move (wanted_none rfl) (.inl rfl) h.1)
                      (OkL.cons (fun a w X_ h => g_ldt (wanted_some rfl rfl h.1) rfl h.2.1 rfl)
                      (OkL.cons (fun a w X_ h => g_call1 (wanted_some rfl rfl h.1) (by kernel_rfl) rfl (h_rmay h.2.1 hmv h7n hfs))
                      (OkL.cons (fun a w X_ h => g_not (wanted_some rfl rfl h.1) rfl h.2.1 rfl)
                      (OkL.cons (fun a w X_ h => g_pick (wanted_none rfl) rfl h.1 h.2.1)
                      (OkL.cons (fun a w X_ h => g_move (wanted_none rfl) (.inl rfl) h.1)
                      (OkL.cons (fun a w X_ h => g_skip rfl rfl h.1 rfl)
                      (OkL.cons (fun a w X_ h => g_skip rfl rfl h.1 rfl)
                      (OkL.cons (fun a w X_ h => g_skip rfl rfl h.1 rfl)
                      (OkL.cons (fun a w X_ h => g_skipu rfl rfl h.1 rfl)
                      (OkL.cons (fun a w X_ h => g_skipu rfl rfl h.1 rfl)
                      (OkL.cons (fun a w X_ h => g_skipu rfl rfl h.1 rfl)
                      (OkL.cons (fun a w X_ h => g_skipu rfl rfl h.1 rfl)
                      (OkL.cons (fun a w X_ h => g_skipu rfl rfl h.1 rfl)
                      (OkL.cons (fun a w X_ h => g_skipu rfl rfl h.1 rfl)
                      (OkL.cons (fun a w X_ h => g_skipu rfl rfl h.1 rfl)
                      (OkL.cons (fun a w X_ h => g_skipu rfl rfl h.1 rfl)
                      (OkL.cons (fun a w X_ h => g_skipu rfl rfl h.1 rfl)
                      (OkL.cons (fun a w X_ h => g_skipu rfl rfl h.1 rfl)
                      (OkL.cons (fun a w X_ h => g_skipu rfl rfl h.1 rfl)
                      (OkL.cons (fun a w X_ h => g_skipu rfl rfl h.1 rfl)
                      (OkL.cons (fun a w X_ h => g_skipu rfl rfl h.1 rfl)
                      (OkL.cons (fun a w X_ h => g_skipu rfl rfl h.1 rfl)
                      (OkL.cons (fun a w X_ h => g_skipu rfl rfl h.1 rfl)
                      (OkL.cons (fun a w X_ h => g_skipu rfl rfl h.1 rfl)
                      (OkL.cons (fun a w X_ h => g_skipu rfl rfl h.1 rfl)
                      (OkL.cons (fun a w X_ h => g_skipu rfl rfl h.1 rfl)
                      (OkL.cons (fun a w X_ h => g_skipu rfl rfl h.1 rfl)
                      (OkL.cons (fun a w X_ h => g_skip rfl rfl h.1 rfl)
                      (OkL.cons (fun a w X_ h => g_pick (wanted_none rfl) rfl h.1 rfl)
                      OkL.nil)))))))))))))))))))))))))))))))))))))) ?_
                  rintro w2 X2 v27 - _ rfl _ rfl _ rfl v31 - _ rfl _ rfl _ rfl _ rfl _ rfl _ rfl _ rfl _ rfl _ rfl _ rfl _ rfl _ rfl _ rfl _ rfl _ rfl _ rfl _ rfl _ rfl _ rfl _ rfl _ rfl _ rfl _ rfl _ rfl _ rfl _ rfl _ rfl _ rfl _ rfl _ rfl _ rfl _ rfl _ rfl
                  refine FinL.done ?_
                  simp only [Act.put, List.setIfInBounds_toArray, List.set_cons_zero, List.set_cons_succ]
                  have HY := hide (And.intro (Below.chain HX.out.2.1 X2) (Below.heap X2 (Array.getElem?_eq_some_iff.1 HX.out.2.2.1).1 HX.out.2.2.1))
                  have HV := hide (show R = false by rw [← HR.out, fit_no hx (by unfold oneB fixV; rw [hmv]; simp), Bool.false_and])
                  clear HX X2
                  go_wp2
                  go_ret
                  exact ⟨by rw [HV.out]; rfl, HY.out.1⟩
                | true =>
                  by_cases hz0 : k = 0
                  · have hxy : x.k = y.k := by rw [hz0] at hx; rw [hx] at hy; injection hy with hy; rw [hy]
                    have HZ0 := hide hz0
                    clear bb b1 hB hcs hc4 hy4 hxt hyt hy r1 hall hris hz0
                    have HXY := hide hxy
                    clear hxy
                    have hq1 : ∀ w_ : World, (do eqGuard .eql 3 (.tmp 28) (.const (.int .i64 1)) (.int .i64 x.k) (.int .i64 1); binOp .eql 3 (.int .i64 x.k) (.int .i64 1) : Sem Value).run Tryz.prog w_ = .ok (.bool false) w_ := fun w_ => by go_simp
                    have hq7 : ∀ w_ : World, (do eqGuard .eql 3 (.tmp 32) (.const (.int .i64 7)) (.int .i64 x.k) (.int .i64 7); binOp .eql 3 (.int .i64 x.k) (.int .i64 7) : Sem Value).run Tryz.prog w_ = .ok (.bool false) w_ := fun w_ => by go_simp
                    have hgt : ∀ w_ : World, (do eqGuard .gtr 3 (.tmp 41) (.const (.int .i64 0)) (.int .i64 (k : Int)) (.int .i64 0); binOp .gtr 3 (.int .i64 (k : Int)) (.int .i64 0) : Sem Value).run Tryz.prog w_ = .ok (.bool false) w_ := fun w_ => by
                      have hz0 := HZ0.out
                      have : decide ((0 : Int) < (k : Int)) = false := decide_eq_false (by omega)
                      clear hz0 HX HL HA hlt hk HZ0
                      generalize (k : Int) = D at *
                      go_simp
                    go_wp2_with fail
                    refine wp_region_typed (tys := fun ix_ => List.getD [itp x xa xc, icp (.int .i64 x.k), isv (.int .i64 x.k), isv (.bool false), isv (tv x xa xc), isv (.bool true), isv (.int .i64 (k : Int)), isv (undef)] ix_ anyv) (pre := [(3, 6), (4, 0)])
                      (plan := [([(4, 0)], 1), ([(27, 1)], 2), ([(28, 2)], 3), ([(29, 3)], 3), ([(30, 3), (4, 0)], 1), ([(30, 3), (31, 1)], 2), ([(30, 3), (32, 2)], 3), ([(30, 3), (33, 3)], 3), ([(34, 3)], 3), ([(35, 3), (4, 0)], 4), ([(35, 3), (36, 4)], 5), ([(35, 3), (37, 5)], 3), ([(35, 3), (38, 3)], 3), ([(39, 3)], 3), ([(40, 3), (3, 6)], 6), ([(40, 3), (41, 6)], 3), ([(40, 3), (42, 3)], 3), ([(43, 3)], 7), ([(43, 3)], 7), ([(43, 3)], 7), ([(43, 3)], 7), ([(43, 3)], 7), ([(43, 3)], 7), ([(43, 3)], 7), ([(43, 3)], 7), ([(43, 3)], 7), ([(52, 7)], 7), ([(52, 7)], 7), ([(52, 7)], 7), ([(52, 7)], 7), ([(52, 7)], 7), ([(52, 7)], 7), ([(52, 7)], 7), ([(52, 7)], 7), ([(52, 7)], 7), ([(43, 3)], 7), ([(40, 3), (43, 3)], 3), ([(40, 3), (63, 3)], 3)])
                      (by kernel_rfl) 66 (by kernel_rfl) rfl ⟨rfl, ⟨itp_row HX.out.1, trivial⟩⟩
                        (OkL.cons (fun a w X_ h => g_fa0 (wanted_none rfl) rfl h.1)
                        (OkL.cons (fun a w X_ h => g_ld3 (wanted_none rfl) rfl h.1 rfl)
                        (OkL.cons (fun a w X_ h => g_bin (wanted_none rfl) rfl (v := .bool false) (by rw [show a.eval (.tmp 28) = .int .i64 x.k from h.1]; exact hq1 _) rfl)
                        (OkL.cons (fun a w X_ h => g_move (wanted_none rfl) (.inl rfl) h.1)
                        (OkL.cons (fun a w X_ h => g_fa0 (wanted_some rfl rfl h.1) rfl h.2.1)
                        (OkL.cons (fun a w X_ h => g_ld3 (wanted_some rfl rfl h.1) rfl h.2.1 rfl)
                        (OkL.cons (fun a w X_ h => g_bin (wanted_some rfl rfl h.1) rfl (v := .bool false) (by rw [show a.eval (.tmp 32) = .int .i64 x.k from h.2.1]; exact hq7 _) rfl)
                        (OkL.cons (fun a w X_ h => g_pick (wanted_none rfl) rfl h.1 h.2.1)
                        (OkL.cons (fun a w X_ h => g_move (wanted_none rfl) (.inl rfl) h.1)
                        (OkL.cons (fun a w X_ h => g_ldt (wanted_some rfl rfl h.1) rfl h.2.1 rfl)
                        (OkL.cons (fun a w X_ h => g_call1 (wanted_some rfl rfl h.1) (by kernel_rfl) rfl (h_rmay h.2.1 hmv h7n hfs))
                        (OkL.cons (fun a w X_ h => g_not (wanted_some rfl rfl h.1) rfl h.2.1 rfl)
                        (OkL.cons (fun a w X_ h => g_pick (wanted_none rfl) rfl h.1 h.2.1)
                        (OkL.cons (fun a w X_ h => g_move (wanted_none rfl) (.inl rfl) h.1)
                        (OkL.cons (fun a w X_ h => g_move (wanted_some rfl rfl h.1) (.inl rfl) h.2.1)
                        (OkL.cons (fun a w X_ h => g_bin (wanted_some rfl rfl h.1) rfl (v := .bool false) (by rw [show a.eval (.tmp 41) = .int .i64 (k : Int) from h.2.1]; exact hgt _) rfl)
                        (OkL.cons (fun a w X_ h => g_move (wanted_some rfl rfl h.1) (.inl rfl) h.2.1)
                        (OkL.cons (fun a w X_ h => g_skip rfl rfl h.1 rfl)
                        (OkL.cons (fun a w X_ h => g_skip rfl rfl h.1 rfl)
                        (OkL.cons (fun a w X_ h => g_skip rfl rfl h.1 rfl)
                        (OkL.cons (fun a w X_ h => g_skip rfl rfl h.1 rfl)
                        (OkL.cons (fun a w X_ h => g_skip rfl rfl h.1 rfl)
                        (OkL.cons (fun a w X_ h => g_skip rfl rfl h.1 rfl)
                        (OkL.cons (fun a w X_ h => g_skip rfl rfl h.1 rfl)
                        (OkL.cons (fun a w X_ h => g_skip rfl rfl h.1 rfl)
                        (OkL.cons (fun a w X_ h => g_skip rfl rfl h.1 rfl)
                        (OkL.cons (fun a w X_ h => g_skipu rfl rfl h.1 rfl)
                        (OkL.cons (fun a w X_ h => g_skipu rfl rfl h.1 rfl)
                        (OkL.cons (fun a w X_ h => g_skipu rfl rfl h.1 rfl)
                        (OkL.cons (fun a w X_ h => g_skipu rfl rfl h.1 rfl)
                        (OkL.cons (fun a w X_ h => g_skipu rfl rfl h.1 rfl)
                        (OkL.cons (fun a w X_ h => g_skipu rfl rfl h.1 rfl)
                        (OkL.cons (fun a w X_ h => g_skipu rfl rfl h.1 rfl)
                        (OkL.cons (fun a w X_ h => g_skipu rfl rfl h.1 rfl)
                        (OkL.cons (fun a w X_ h => g_skipu rfl rfl h.1 rfl)
                        (OkL.cons (fun a w X_ h => g_skip rfl rfl h.1 rfl)
                        (OkL.cons (fun a w X_ h => g_pick (wanted_some rfl rfl h.1) rfl h.2.1 rfl)
                        (OkL.cons (fun a w X_ h => g_pick (wanted_none rfl) rfl h.1 h.2.1)
                        OkL.nil)))))))))))))))))))))))))))))))))))))) ?_
                    rintro w2 X2 v27 - _ rfl _ rfl _ rfl v31 - _ rfl _ rfl _ rfl _ rfl _ rfl _ rfl _ rfl _ rfl _ rfl _ rfl _ rfl _ rfl _ rfl _ rfl _ rfl _ rfl _ rfl _ rfl _ rfl _ rfl _ rfl _ rfl _ rfl _ rfl _ rfl _ rfl _ rfl _ rfl _ rfl _ rfl _ rfl _ rfl _ rfl
                    refine FinL.done ?_
                    simp only [Act.put, List.setIfInBounds_toArray, List.set_cons_zero, List.set_cons_succ]
                    have HY := hide (And.intro (Below.chain HX.out.2.1 X2) (Below.heap X2 (Array.getElem?_eq_some_iff.1 HX.out.2.2.1).1 HX.out.2.2.1))
                    have HO := hide (show oneB (t.l.headD default).k x = true from one_yes h1n h7n hmv (by rw [hhd]; exact HXY.out))
                    have HXX := hide hx
                    clear HX X2 hx
                    go_wp2
                    go_roundw
                    case rel => exact ⟨k + 1, by omega, by go_num, fit_next HA.out.1 HXX.out HO.out, fun j hj => absurd hj (by have := HZ0.out; omega), HY.out.1, HY.out.2⟩
                    case measure => simp [intOf]; omega
                  · obtain ⟨m, rfl⟩ : ∃ m, k = m + 1 := ⟨k - 1, by omega⟩
                    obtain ⟨z, hz⟩ : ∃ z, t.l[m]? = some z := ⟨_, List.getElem?_eq_getElem (by omega)⟩
                    obtain ⟨za, zc, hzt, hz4⟩ := hcs m z hz
                    have hpz := getD_at hz
                    have hmlt : m < t.l.length := by omega
                    have HT := hide (And.intro (hzt.ext bb) (And.intro (hxt.ext bb) (And.intro (Nat.lt_of_lt_of_le hbb bb.size) (And.intro (fun W (hW : Below _ _ W) => hy4 W (Below.chain bb hW)) (fun W (hW : Below _ _ W) => hz4 W (Below.chain bb hW))))))
                    clear bb b1 hB hcs hc4 hy4 hz4 hxt hyt hzt hy hz r1 hall hris
                    by_cases hk0 : x.k = y.k
                    · by_cases hcc : cp z x < 0
                      · have hq1 : ∀ w_ : World, (do eqGuard .eql 3 (.tmp 28) (.const (.int .i64 1)) (.int .i64 x.k) (.int .i64 1); binOp .eql 3 (.int .i64 x.k) (.int .i64 1) : Sem Value).run Tryz.prog w_ = .ok (.bool false) w_ := fun w_ => by clear hk0; go_simp
                        have hq7 : ∀ w_ : World, (do eqGuard .eql 3 (.tmp 32) (.const (.int .i64 7)) (.int .i64 x.k) (.int .i64 7); binOp .eql 3 (.int .i64 x.k) (.int .i64 7) : Sem Value).run Tryz.prog w_ = .ok (.bool false) w_ := fun w_ => by clear hk0; go_simp
                        have hgt : ∀ w_ : World, (do eqGuard .gtr 3 (.tmp 41) (.const (.int .i64 0)) (.int .i64 ((m + 1 : Nat) : Int)) (.int .i64 0); binOp .gtr 3 (.int .i64 ((m + 1 : Nat) : Int)) (.int .i64 0) : Sem Value).run Tryz.prog w_ = .ok (.bool true) w_ := fun w_ => by
                          have : decide ((0 : Int) < ((m + 1 : Nat) : Int)) = true := decide_eq_true (by omega)
                          generalize ((m + 1 : Nat) : Int) = D at *
                          clear HT HX HL HA hk0 hlt hk
                          go_simp
                        have ek : (x.k != y.k) = false := by simpa using hk0
                        have HK0 := hide hk0
                        clear hk0
                        have hqk : ∀ w_ : World, (do eqGuard .neq 3 (.tmp 45) (.tmp 50) (.int .i64 x.k) (.int .i64 y.k); binOp .neq 3 (.int .i64 x.k) (.int .i64 y.k) : Sem Value).run Tryz.prog w_ = .ok (.bool false) w_ := fun w_ => by go_simp
                        have hsub : ∀ w_ : World, (do eqGuard .sub 3 (.tmp 55) (.const (.int .i64 1)) (.int .i64 ((m + 1 : Nat) : Int)) (.int .i64 1); binOp .sub 3 (.int .i64 ((m + 1 : Nat) : Int)) (.int .i64 1) : Sem Value).run Tryz.prog w_ = .ok (.int .i64 (m : Int)) w_ := fun w_ => by
                          have e : ((m + 1 : Nat) : Int) - 1 = (m : Int) := by omega
                          have h1 : ((m + 1 : Nat) : Int) ≤ 9223372036854775807 := by omega
                          have h2 : 0 ≤ ((m + 1 : Nat) : Int) := by omega
                          have h3 : (m : Int) ≤ 9223372036854775807 := by omega
                          have h4 : 0 ≤ (m : Int) := by omega
                          generalize ((m + 1 : Nat) : Int) = D at *
                          generalize (m : Int) = E at *
                          clear HT HX HL HA hgt
                          go_simp
                          rw [IntKind.wrap_i64]; omega
                        have hge : ∀ w_ : World, (do eqGuard .geq 3 (.tmp 60) (.const (.int .i64 0)) (.int .i64 (cp z x)) (.int .i64 0); binOp .geq 3 (.int .i64 (cp z x)) (.int .i64 0) : Sem Value).run Tryz.prog w_ = .ok (.bool false) w_ := fun w_ => by
                          have : decide (0 ≤ cp z x) = false := decide_eq_false (by omega)
                          generalize cp z x = CC at *
                          go_simp
                        have HCC := hide hcc
                        clear hcc
                        go_wp2_with fail
                        refine wp_region_typed (tys := fun ix_ => List.getD [itp x xa xc, icp (.int .i64 x.k), isv (.int .i64 x.k), isv (.bool false), isv (tv x xa xc), isv (.bool true), isv (.int .i64 ((m + 1 : Nat) : Int)), itp t (some ⟨b, o, none⟩) tc, icp (.slice (some ⟨b, o, none⟩) t.l.length tc), isv (.slice (some ⟨b, o, none⟩) (t.l.length) tc), itp y ya yc, icp (.int .i64 y.k), isv (.int .i64 y.k), isv (.int .i64 (m : Int)), itp z za zc, isv (tv z za zc), isv (.int .i64 (cp z x))] ix_ anyv) (pre := [(1, 7), (3, 6), (4, 0)])
                          (plan := [([(4, 0)], 1), ([(27, 1)], 2), ([(28, 2)], 3), ([(29, 3)], 3), ([(30, 3), (4, 0)], 1), ([(30, 3), (31, 1)], 2), ([(30, 3), (32, 2)], 3), ([(30, 3), (33, 3)], 3), ([(34, 3)], 3), ([(35, 3), (4, 0)], 4), ([(35, 3), (36, 4)], 5), ([(35, 3), (37, 5)], 3), ([(35, 3), (38, 3)], 3), ([(39, 3)], 3), ([(40, 3), (3, 6)], 6), ([(40, 3), (41, 6)], 5), ([(40, 3), (42, 5)], 5), ([(43, 5), (4, 0)], 1), ([(43, 5), (44, 1)], 2), ([(43, 5), (1, 7)], 8), ([(43, 5), (46, 8)], 9), ([(43, 5), (47, 9)], 10), ([(43, 5), (48, 10)], 11), ([(43, 5), (49, 11)], 12), ([(43, 5), (45, 2), (50, 12)], 3), ([(43, 5), (51, 3)], 3), ([(52, 3), (1, 7)], 8), ([(52, 3), (53, 8)], 9), ([(52, 3), (3, 6)], 6), ([(52, 3), (55, 6)], 13), ([(52, 3), (54, 9), (56, 13)], 14), ([(52, 3), (57, 14)], 15), ([(52, 3), (4, 0)], 4), ([(52, 3), (58, 15), (59, 4)], 16), ([(52, 3), (60, 16)], 3), ([(43, 5), (52, 3), (61, 3)], 3), ([(40, 3), (43, 5), (62, 3)], 3), ([(40, 3), (63, 3)], 3)])
                          (by kernel_rfl) 66 (by kernel_rfl) rfl ⟨itp_row HX.out.2.2.1, ⟨rfl, ⟨itp_row HX.out.1, trivial⟩⟩⟩
                            (OkL.cons (fun a w X_ h => g_fa0 (wanted_none rfl) rfl h.1)
                            (OkL.cons (fun a w X_ h => g_ld3 (wanted_none rfl) rfl h.1 rfl)
                            (OkL.cons (fun a w X_ h => g_bin (wanted_none rfl) rfl (v := .bool false) (by rw [show a.eval (.tmp 28) = .int .i64 x.k from h.1]; exact hq1 _) rfl)
                            (OkL.cons (fun a w X_ h => g_move (wanted_none rfl) (.inl rfl) h.1)
                            (OkL.cons (fun a w X_ h => g_fa0 (wanted_some rfl rfl h.1) rfl h.2.1)
                            (OkL.cons (fun a w X_ h => g_ld3 (wanted_some rfl rfl h.1) rfl h.2.1 rfl)
                            (OkL.cons (fun a w X_ h => g_bin (wanted_some rfl rfl h.1) rfl (v := .bool false) (by rw [show a.eval (.tmp 32) = .int .i64 x.k from h.2.1]; exact hq7 _) rfl)
                            (OkL.cons (fun a w X_ h => g_pick (wanted_none rfl) rfl h.1 h.2.1)
                            (OkL.cons (fun a w X_ h => g_move (wanted_none rfl) (.inl rfl) h.1)
                            (OkL.cons (fun a w X_ h => g_ldt (wanted_some rfl rfl h.1) rfl h.2.1 rfl)
                            (OkL.cons (fun a w X_ h => g_call1 (wanted_some rfl rfl h.1) (by kernel_rfl) rfl (h_rmay h.2.1 hmv h7n hfs))
                            (OkL.cons (fun a w X_ h => g_not (wanted_some rfl rfl h.1) rfl h.2.1 rfl)
                            (OkL.cons (fun a w X_ h => g_pick (wanted_none rfl) rfl h.1 h.2.1)
                            (OkL.cons (fun a w X_ h => g_move (wanted_none rfl) (.inl rfl) h.1)
                            (OkL.cons (fun a w X_ h => g_move (wanted_some rfl rfl h.1) (.inl rfl) h.2.1)
                            (OkL.cons (fun a w X_ h => g_bin (wanted_some rfl rfl h.1) rfl (v := .bool true) (by rw [show a.eval (.tmp 41) = .int .i64 ((m + 1 : Nat) : Int) from h.2.1]; exact hgt _) rfl)
                            (OkL.cons (fun a w X_ h => g_move (wanted_some rfl rfl h.1) (.inl rfl) h.2.1)
                            (OkL.cons (fun a w X_ h => g_fa0 (wanted_some rfl rfl h.1) rfl h.2.1)
                            (OkL.cons (fun a w X_ h => g_ld3 (wanted_some rfl rfl h.1) rfl h.2.1 rfl)
                            (OkL.cons (fun a w X_ h => g_fa3 (wanted_some rfl rfl h.1) rfl h.2.1)
                            (OkL.cons (fun a w X_ h => g_ld22 (wanted_some rfl rfl h.1) rfl h.2.1 rfl)
                            (OkL.cons (fun a w X_ h => g_ixt (wanted_some rfl rfl h.1) 0 rfl h.2.1 rfl hl0 ((Nat.lt_of_lt_of_le HT.out.2.2.1 (Below.size X_))) (HT.out.2.2.2.1 _ X_))
                            (OkL.cons (fun a w X_ h => g_fa0 (wanted_some rfl rfl h.1) rfl h.2.1)
                            (OkL.cons (fun a w X_ h => g_ld3 (wanted_some rfl rfl h.1) rfl h.2.1 rfl)
                            (OkL.cons (fun a w X_ h => g_bin (wanted_some rfl rfl h.1) rfl (v := .bool false) (by rw [show a.eval (.tmp 45) = .int .i64 x.k from h.2.1, show a.eval (.tmp 50) = .int .i64 y.k from h.2.2.1]; exact hqk _) rfl)
                            (OkL.cons (fun a w X_ h => g_move (wanted_some rfl rfl h.1) (.inl rfl) h.2.1)
                            (OkL.cons (fun a w X_ h => g_fa3 (wanted_some rfl rfl h.1) rfl h.2.1)
                            (OkL.cons (fun a w X_ h => g_ld22 (wanted_some rfl rfl h.1) rfl h.2.1 rfl)
                            (OkL.cons (fun a w X_ h => g_move (wanted_some rfl rfl h.1) (.inl rfl) h.2.1)
                            (OkL.cons (fun a w X_ h => g_bin (wanted_some rfl rfl h.1) rfl (v := .int .i64 (m : Int)) (by rw [show a.eval (.tmp 55) = .int .i64 ((m + 1 : Nat) : Int) from h.2.1]; exact hsub _) rfl)
                            (OkL.cons (fun a w X_ h => g_ixt (wanted_some rfl rfl h.1) m rfl h.2.1 h.2.2.1 hmlt ((Nat.lt_of_lt_of_le HT.out.2.2.1 (Below.size X_))) (HT.out.2.2.2.2 _ X_))
                            (OkL.cons (fun a w X_ h => g_ldt (wanted_some rfl rfl h.1) rfl h.2.1 rfl)
                            (OkL.cons (fun a w X_ h => g_ldt (wanted_some rfl rfl h.1) rfl h.2.1 rfl)
                            (OkL.cons (fun a w X_ h => g_call2 (wanted_some rfl rfl h.1) (by kernel_rfl) rfl (h_rcmp h.2.1 h.2.2.1 (HT.out.1.ext X_) (HT.out.2.1.ext X_)))
                            (OkL.cons (fun a w X_ h => g_bin (wanted_some rfl rfl h.1) rfl (v := .bool false) (by rw [show a.eval (.tmp 60) = .int .i64 (cp z x) from h.2.1]; exact hge _) rfl)
                            (OkL.cons (fun a w X_ h => g_pick (wanted_some rfl rfl h.1) rfl h.2.1 h.2.2.1)
                            (OkL.cons (fun a w X_ h => g_pick (wanted_some rfl rfl h.1) rfl h.2.1 h.2.2.1)
                            (OkL.cons (fun a w X_ h => g_pick (wanted_none rfl) rfl h.1 h.2.1)
                            OkL.nil)))))))))))))))))))))))))))))))))))))) ?_
                        rintro w2 X2 v27 - _ rfl _ rfl _ rfl v31 - _ rfl _ rfl _ rfl _ rfl _ rfl _ rfl _ rfl _ rfl _ rfl _ rfl _ rfl _ rfl v44 - _ rfl v46 - _ rfl v48 - v49 - _ rfl _ rfl _ rfl v53 - _ rfl _ rfl _ rfl v57 - _ rfl _ rfl _ rfl _ rfl _ rfl _ rfl _ rfl
                        refine FinL.done ?_
                        simp only [Act.put, List.setIfInBounds_toArray, List.set_cons_zero, List.set_cons_succ]
                        have HY := hide (And.intro (Below.chain HX.out.2.1 X2) (Below.heap X2 (Array.getElem?_eq_some_iff.1 HX.out.2.2.1).1 HX.out.2.2.1))
                        have HO := hide (show oneB (t.l.headD default).k x = true from one_yes h1n h7n hmv (by rw [hhd]; exact HK0.out))
                        have HXX := hide hx
                        clear HX X2 hx
                        go_wp2
                        go_roundw
                        case rel => exact ⟨m + 1 + 1, by omega, by go_num, fit_next HA.out.1 HXX.out HO.out, rise_next HA.out.2 (by rw [hpz, hpx]; exact HCC.out), HY.out.1, HY.out.2⟩
                        case measure => simp [intOf]; omega
                      · have hq1 : ∀ w_ : World, (do eqGuard .eql 3 (.tmp 28) (.const (.int .i64 1)) (.int .i64 x.k) (.int .i64 1); binOp .eql 3 (.int .i64 x.k) (.int .i64 1) : Sem Value).run Tryz.prog w_ = .ok (.bool false) w_ := fun w_ => by clear hk0; go_simp
                        have hq7 : ∀ w_ : World, (do eqGuard .eql 3 (.tmp 32) (.const (.int .i64 7)) (.int .i64 x.k) (.int .i64 7); binOp .eql 3 (.int .i64 x.k) (.int .i64 7) : Sem Value).run Tryz.prog w_ = .ok (.bool false) w_ := fun w_ => by clear hk0; go_simp
                        have hgt : ∀ w_ : World, (do eqGuard .gtr 3 (.tmp 41) (.const (.int .i64 0)) (.int .i64 ((m + 1 : Nat) : Int)) (.int .i64 0); binOp .gtr 3 (.int .i64 ((m + 1 : Nat) : Int)) (.int .i64 0) : Sem Value).run Tryz.prog w_ = .ok (.bool true) w_ := fun w_ => by
                          have : decide ((0 : Int) < ((m + 1 : Nat) : Int)) = true := decide_eq_true (by omega)
                          generalize ((m + 1 : Nat) : Int) = D at *
                          clear HT HX HL HA hk0 hlt hk
                          go_simp
                        have ek : (x.k != y.k) = false := by simpa using hk0
                        have HK0 := hide hk0
                        clear hk0
                        have hqk : ∀ w_ : World, (do eqGuard .neq 3 (.tmp 45) (.tmp 50) (.int .i64 x.k) (.int .i64 y.k); binOp .neq 3 (.int .i64 x.k) (.int .i64 y.k) : Sem Value).run Tryz.prog w_ = .ok (.bool false) w_ := fun w_ => by go_simp
                        have hsub : ∀ w_ : World, (do eqGuard .sub 3 (.tmp 55) (.const (.int .i64 1)) (.int .i64 ((m + 1 : Nat) : Int)) (.int .i64 1); binOp .sub 3 (.int .i64 ((m + 1 : Nat) : Int)) (.int .i64 1) : Sem Value).run Tryz.prog w_ = .ok (.int .i64 (m : Int)) w_ := fun w_ => by
                          have e : ((m + 1 : Nat) : Int) - 1 = (m : Int) := by omega
                          have h1 : ((m + 1 : Nat) : Int) ≤ 9223372036854775807 := by omega
                          have h2 : 0 ≤ ((m + 1 : Nat) : Int) := by omega
                          have h3 : (m : Int) ≤ 9223372036854775807 := by omega
                          have h4 : 0 ≤ (m : Int) := by omega
                          generalize ((m + 1 : Nat) : Int) = D at *
                          generalize (m : Int) = E at *
                          clear HT HX HL HA hgt
                          go_simp
                          rw [IntKind.wrap_i64]; omega
                        have hge : ∀ w_ : World, (do eqGuard .geq 3 (.tmp 60) (.const (.int .i64 0)) (.int .i64 (cp z x)) (.int .i64 0); binOp .geq 3 (.int .i64 (cp z x)) (.int .i64 0) : Sem Value).run Tryz.prog w_ = .ok (.bool true) w_ := fun w_ => by
                          have : decide (0 ≤ cp z x) = true := decide_eq_true (by omega)
                          generalize cp z x = CC at *
                          go_simp
                        have HCC := hide hcc
                        clear hcc
                        go_wp2_with fail
                        refine wp_region_typed (tys := fun ix_ => List.getD [itp x xa xc, icp (.int .i64 x.k), isv (.int .i64 x.k), isv (.bool false), isv (tv x xa xc), isv (.bool true), isv (.int .i64 ((m + 1 : Nat) : Int)), itp t (some ⟨b, o, none⟩) tc, icp (.slice (some ⟨b, o, none⟩) t.l.length tc), isv (.slice (some ⟨b, o, none⟩) (t.l.length) tc), itp y ya yc, icp (.int .i64 y.k), isv (.int .i64 y.k), isv (.int .i64 (m : Int)), itp z za zc, isv (tv z za zc), isv (.int .i64 (cp z x))] ix_ anyv) (pre := [(1, 7), (3, 6), (4, 0)])
                          (plan := [([(4, 0)], 1), ([(27, 1)], 2), ([(28, 2)], 3), ([(29, 3)], 3), ([(30, 3), (4, 0)], 1), ([(30, 3), (31, 1)], 2), ([(30, 3), (32, 2)], 3), ([(30, 3), (33, 3)], 3), ([(34, 3)], 3), ([(35, 3), (4, 0)], 4), ([(35, 3), (36, 4)], 5), ([(35, 3), (37, 5)], 3), ([(35, 3), (38, 3)], 3), ([(39, 3)], 3), ([(40, 3), (3, 6)], 6), ([(40, 3), (41, 6)], 5), ([(40, 3), (42, 5)], 5), ([(43, 5), (4, 0)], 1), ([(43, 5), (44, 1)], 2), ([(43, 5), (1, 7)], 8), ([(43, 5), (46, 8)], 9), ([(43, 5), (47, 9)], 10), ([(43, 5), (48, 10)], 11), ([(43, 5), (49, 11)], 12), ([(43, 5), (45, 2), (50, 12)], 3), ([(43, 5), (51, 3)], 3), ([(52, 3), (1, 7)], 8), ([(52, 3), (53, 8)], 9), ([(52, 3), (3, 6)], 6), ([(52, 3), (55, 6)], 13), ([(52, 3), (54, 9), (56, 13)], 14), ([(52, 3), (57, 14)], 15), ([(52, 3), (4, 0)], 4), ([(52, 3), (58, 15), (59, 4)], 16), ([(52, 3), (60, 16)], 5), ([(43, 5), (52, 3), (61, 5)], 5), ([(40, 3), (43, 5), (62, 5)], 5), ([(40, 3), (63, 5)], 5)])
                          (by kernel_rfl) 66 (by kernel_rfl) rfl ⟨itp_row HX.out.2.2.1, ⟨rfl, ⟨itp_row HX.out.1, trivial⟩⟩⟩
                            (OkL.cons (fun a w X_ h => g_fa0 (wanted_none rfl) rfl h.1)
                            (OkL.cons (fun a w X_ h => g_ld3 (wanted_none rfl) rfl h.1 rfl)
                            (OkL.cons (fun a w X_ h => g_bin (wanted_none rfl) rfl (v := .bool false) (by rw [show a.eval (.tmp 28) = .int .i64 x.k from h.1]; exact hq1 _) rfl)
                            (OkL.cons (fun a w X_ h => g_move (wanted_none rfl) (.inl rfl) h.1)
                            (OkL.cons (fun a w X_ h => g_fa0 (wanted_some rfl rfl h.1) rfl h.2.1)
                            (OkL.cons (fun a w X_ h => g_ld3 (wanted_some rfl rfl h.1) rfl h.2.1 rfl)
                            (OkL.cons (fun a w X_ h => g_bin (wanted_some rfl rfl h.1) rfl (v := .bool false) (by rw [show a.eval (.tmp 32) = .int .i64 x.k from h.2.1]; exact hq7 _) rfl)
                            (OkL.cons (fun a w X_ h => g_pick (wanted_none rfl) rfl h.1 h.2.1)
                            (OkL.cons (fun a w X_ h => g_move (wanted_none rfl) (.inl rfl) h.1)
                            (OkL.cons (fun a w X_ h => g_ldt (wanted_some rfl rfl h.1) rfl h.2.1 rfl)
                            (OkL.cons (fun a w X_ h => g_call1 (wanted_some rfl rfl h.1) (by kernel_rfl) rfl (h_rmay h.2.1 hmv h7n hfs))
                            (OkL.cons (fun a w X_ h => g_not (wanted_some rfl rfl h.1) rfl h.2.1 rfl)
                            (OkL.cons (fun a w X_ h => g_pick (wanted_none rfl) rfl h.1 h.2.1)
                            (OkL.cons (fun a w X_ h => g_move (wanted_none rfl) (.inl rfl) h.1)
                            (OkL.cons (fun a w X_ h => g_move (wanted_some rfl rfl h.1) (.inl rfl) h.2.1)
                            (OkL.cons (fun a w X_ h => g_bin (wanted_some rfl rfl h.1) rfl (v := .bool true) (by rw [show a.eval (.tmp 41) = .int .i64 ((m + 1 : Nat) : Int) from h.2.1]; exact hgt _) rfl)
                            (OkL.cons (fun a w X_ h => g_move (wanted_some rfl rfl h.1) (.inl rfl) h.2.1)
                            (OkL.cons (fun a w X_ h => g_fa0 (wanted_some rfl rfl h.1) rfl h.2.1)
                            (OkL.cons (fun a w X_ h => g_ld3 (wanted_some rfl rfl h.1) rfl h.2.1 rfl)
                            (OkL.cons (fun a w X_ h => g_fa3 (wanted_some rfl rfl h.1) rfl h.2.1)
                            (OkL.cons (fun a w X_ h => g_ld22 (wanted_some rfl rfl h.1) rfl h.2.1 rfl)
                            (OkL.cons (fun a w X_ h => g_ixt (wanted_some rfl rfl h.1) 0 rfl h.2.1 rfl hl0 ((Nat.lt_of_lt_of_le HT.out.2.2.1 (Below.size X_))) (HT.out.2.2.2.1 _ X_))
                            (OkL.cons (fun a w X_ h => g_fa0 (wanted_some rfl rfl h.1) rfl h.2.1)
                            (OkL.cons (fun a w X_ h => g_ld3 (wanted_some rfl rfl h.1) rfl h.2.1 rfl)
                            (OkL.cons (fun a w X_ h => g_bin (wanted_some rfl rfl h.1) rfl (v := .bool false) (by rw [show a.eval (.tmp 45) = .int .i64 x.k from h.2.1, show a.eval (.tmp 50) = .int .i64 y.k from h.2.2.1]; exact hqk _) rfl)
                            (OkL.cons (fun a w X_ h => g_move (wanted_some rfl rfl h.1) (.inl rfl) h.2.1)
                            (OkL.cons (fun a w X_ h => g_fa3 (wanted_some rfl rfl h.1) rfl h.2.1)
                            (OkL.cons (fun a w X_ h => g_ld22 (wanted_some rfl rfl h.1) rfl h.2.1 rfl)
                            (OkL.cons (fun a w X_ h => g_move (wanted_some rfl rfl h.1) (.inl rfl) h.2.1)
                            (OkL.cons (fun a w X_ h => g_bin (wanted_some rfl rfl h.1) rfl (v := .int .i64 (m : Int)) (by rw [show a.eval (.tmp 55) = .int .i64 ((m + 1 : Nat) : Int) from h.2.1]; exact hsub _) rfl)
                            (OkL.cons (fun a w X_ h => g_ixt (wanted_some rfl rfl h.1) m rfl h.2.1 h.2.2.1 hmlt ((Nat.lt_of_lt_of_le HT.out.2.2.1 (Below.size X_))) (HT.out.2.2.2.2 _ X_))
                            (OkL.cons (fun a w X_ h => g_ldt (wanted_some rfl rfl h.1) rfl h.2.1 rfl)
                            (OkL.cons (fun a w X_ h => g_ldt (wanted_some rfl rfl h.1) rfl h.2.1 rfl)
                            (OkL.cons (fun a w X_ h => g_call2 (wanted_some rfl rfl h.1) (by kernel_rfl) rfl (h_rcmp h.2.1 h.2.2.1 (HT.out.1.ext X_) (HT.out.2.1.ext X_)))
                            (OkL.cons (fun a w X_ h => g_bin (wanted_some rfl rfl h.1) rfl (v := .bool true) (by rw [show a.eval (.tmp 60) = .int .i64 (cp z x) from h.2.1]; exact hge _) rfl)
                            (OkL.cons (fun a w X_ h => g_pick (wanted_some rfl rfl h.1) rfl h.2.1 h.2.2.1)
                            (OkL.cons (fun a w X_ h => g_pick (wanted_some rfl rfl h.1) rfl h.2.1 h.2.2.1)
                            (OkL.cons (fun a w X_ h => g_pick (wanted_none rfl) rfl h.1 h.2.1)
                            OkL.nil)))))))))))))))))))))))))))))))))))))) ?_
                        rintro w2 X2 v27 - _ rfl _ rfl _ rfl v31 - _ rfl _ rfl _ rfl _ rfl _ rfl _ rfl _ rfl _ rfl _ rfl _ rfl _ rfl _ rfl v44 - _ rfl v46 - _ rfl v48 - v49 - _ rfl _ rfl _ rfl v53 - _ rfl _ rfl _ rfl v57 - _ rfl _ rfl _ rfl _ rfl _ rfl _ rfl _ rfl
                        refine FinL.done ?_
                        simp only [Act.put, List.setIfInBounds_toArray, List.set_cons_zero, List.set_cons_succ]
                        have HY := hide (And.intro (Below.chain HX.out.2.1 X2) (Below.heap X2 (Array.getElem?_eq_some_iff.1 HX.out.2.2.1).1 HX.out.2.2.1))
                        have HV := hide (show R = false by rw [← HR.out, rise_no (m := m) hlt (by rw [hpz, hpx]; have := HCC.out; omega), Bool.and_false])
                        clear HX X2
                        go_wp2
                        go_ret
                        exact ⟨by rw [HV.out]; rfl, HY.out.1⟩
                    · have hq1 : ∀ w_ : World, (do eqGuard .eql 3 (.tmp 28) (.const (.int .i64 1)) (.int .i64 x.k) (.int .i64 1); binOp .eql 3 (.int .i64 x.k) (.int .i64 1) : Sem Value).run Tryz.prog w_ = .ok (.bool false) w_ := fun w_ => by clear hk0; go_simp
                      have hq7 : ∀ w_ : World, (do eqGuard .eql 3 (.tmp 32) (.const (.int .i64 7)) (.int .i64 x.k) (.int .i64 7); binOp .eql 3 (.int .i64 x.k) (.int .i64 7) : Sem Value).run Tryz.prog w_ = .ok (.bool false) w_ := fun w_ => by clear hk0; go_simp
                      have hgt : ∀ w_ : World, (do eqGuard .gtr 3 (.tmp 41) (.const (.int .i64 0)) (.int .i64 ((m + 1 : Nat) : Int)) (.int .i64 0); binOp .gtr 3 (.int .i64 ((m + 1 : Nat) : Int)) (.int .i64 0) : Sem Value).run Tryz.prog w_ = .ok (.bool true) w_ := fun w_ => by
                        have : decide ((0 : Int) < ((m + 1 : Nat) : Int)) = true := decide_eq_true (by omega)
                        generalize ((m + 1 : Nat) : Int) = D at *
                        clear HT HX HL HA hk0 hlt hk
                        go_simp
                      have ek : (x.k != y.k) = true := by simpa using hk0
                      have HK0 := hide hk0
                      clear hk0
                      have hqk : ∀ w_ : World, (do eqGuard .neq 3 (.tmp 45) (.tmp 50) (.int .i64 x.k) (.int .i64 y.k); binOp .neq 3 (.int .i64 x.k) (.int .i64 y.k) : Sem Value).run Tryz.prog w_ = .ok (.bool true) w_ := fun w_ => by go_simp
                      go_wp2_with fail
                      refine wp_region_typed (tys := fun ix_ => List.getD [itp x xa xc, icp (.int .i64 x.k), isv (.int .i64 x.k), isv (.bool false), isv (tv x xa xc), isv (.bool true), isv (.int .i64 ((m + 1 : Nat) : Int)), itp t (some ⟨b, o, none⟩) tc, icp (.slice (some ⟨b, o, none⟩) t.l.length tc), isv (.slice (some ⟨b, o, none⟩) (t.l.length) tc), itp y ya yc, icp (.int .i64 y.k), isv (.int .i64 y.k), isv (undef)] ix_ anyv) (pre := [(1, 7), (3, 6), (4, 0)])
                        (plan := [([(4, 0)], 1), ([(27, 1)], 2), ([(28, 2)], 3), ([(29, 3)], 3), ([(30, 3), (4, 0)], 1), ([(30, 3), (31, 1)], 2), ([(30, 3), (32, 2)], 3), ([(30, 3), (33, 3)], 3), ([(34, 3)], 3), ([(35, 3), (4, 0)], 4), ([(35, 3), (36, 4)], 5), ([(35, 3), (37, 5)], 3), ([(35, 3), (38, 3)], 3), ([(39, 3)], 3), ([(40, 3), (3, 6)], 6), ([(40, 3), (41, 6)], 5), ([(40, 3), (42, 5)], 5), ([(43, 5), (4, 0)], 1), ([(43, 5), (44, 1)], 2), ([(43, 5), (1, 7)], 8), ([(43, 5), (46, 8)], 9), ([(43, 5), (47, 9)], 10), ([(43, 5), (48, 10)], 11), ([(43, 5), (49, 11)], 12), ([(43, 5), (45, 2), (50, 12)], 5), ([(43, 5), (51, 5)], 5), ([(52, 5)], 13), ([(52, 5)], 13), ([(52, 5)], 13), ([(52, 5)], 13), ([(52, 5)], 13), ([(52, 5)], 13), ([(52, 5)], 13), ([(52, 5)], 13), ([(52, 5)], 13), ([(43, 5), (52, 5)], 5), ([(40, 3), (43, 5), (62, 5)], 5), ([(40, 3), (63, 5)], 5)])
                        (by kernel_rfl) 66 (by kernel_rfl) rfl ⟨itp_row HX.out.2.2.1, ⟨rfl, ⟨itp_row HX.out.1, trivial⟩⟩⟩
                          (OkL.cons (fun a w X_ h => g_fa0 (wanted_none rfl) rfl h.1)
                          (OkL.cons (fun a w X_ h => g_ld3 (wanted_none rfl) rfl h.1 rfl)
                          (OkL.cons (fun a w X_ h => g_bin (wanted_none rfl) rfl (v := .bool false) (by rw [show a.eval (.tmp 28) = .int .i64 x.k from h.1]; exact hq1 _) rfl)
                          (OkL.cons (fun a w X_ h => g_move (wanted_none rfl) (.inl rfl) h.1)
                          (OkL.cons (fun a w X_ h => g_fa0 (wanted_some rfl rfl h.1) rfl h.2.1)
                          (OkL.cons (fun a w X_ h => g_ld3 (wanted_some rfl rfl h.1) rfl h.2.1 rfl)
                          (OkL.cons (fun a w X_ h => g_bin (wanted_some rfl rfl h.1) rfl (v := .bool false) (by rw [show a.eval (.tmp 32) = .int .i64 x.k from h.2.1]; exact hq7 _) rfl)
                          (OkL.cons (fun a w X_ h => g_pick (wanted_none rfl) rfl h.1 h.2.1)
                          (OkL.cons (fun a w X_ h => g_move (wanted_none rfl) (.inl rfl) h.1)
                          (OkL.cons (fun a w X_ h => g_ldt (wanted_some rfl rfl h.1) rfl h.2.1 rfl)
                          (OkL.cons (fun a w X_ h => g_call1 (wanted_some rfl rfl h.1) (by kernel_rfl) rfl (h_rmay h.2.1 hmv h7n hfs))
                          (OkL.cons (fun a w X_ h => g_not (wanted_some rfl rfl h.1) rfl h.2.1 rfl)
                          (OkL.cons (fun a w X_ h => g_pick (wanted_none rfl) rfl h.1 h.2.1)
                          (OkL.cons (fun a w X_ h => g_move (wanted_none rfl) (.inl rfl) h.1)
                          (OkL.cons (fun a w X_ h => g_move (wanted_some rfl rfl h.1) (.inl rfl) h.2.1)
                          (OkL.cons (fun a w X_ h => g_bin (wanted_some rfl rfl h.1) rfl (v := .bool true) (by rw [show a.eval (.tmp 41) = .int .i64 ((m + 1 : Nat) : Int) from h.2.1]; exact hgt _) rfl)
                          (OkL.cons (fun a w X_ h => g_move (wanted_some rfl rfl h.1) (.inl rfl) h.2.1)
                          (OkL.cons (fun a w X_ h => g_fa0 (wanted_some rfl rfl h.1) rfl h.2.1)
                          (OkL.cons (fun a w X_ h => g_ld3 (wanted_some rfl rfl h.1) rfl h.2.1 rfl)
                          (OkL.cons (fun a w X_ h => g_fa3 (wanted_some rfl rfl h.1) rfl h.2.1)
                          (OkL.cons (fun a w X_ h => g_ld22 (wanted_some rfl rfl h.1) rfl h.2.1 rfl)
                          (OkL.cons (fun a w X_ h => g_ixt (wanted_some rfl rfl h.1) 0 rfl h.2.1 rfl hl0 ((Nat.lt_of_lt_of_le HT.out.2.2.1 (Below.size X_))) (HT.out.2.2.2.1 _ X_))
                          (OkL.cons (fun a w X_ h => g_fa0 (wanted_some rfl rfl h.1) rfl h.2.1)
                          (OkL.cons (fun a w X_ h => g_ld3 (wanted_some rfl rfl h.1) rfl h.2.1 rfl)
                          (OkL.cons (fun a w X_ h => g_bin (wanted_some rfl rfl h.1) rfl (v := .bool true) (by rw [show a.eval (.tmp 45) = .int .i64 x.k from h.2.1, show a.eval (.tmp 50) = .int .i64 y.k from h.2.2.1]; exact hqk _) rfl)
                          (OkL.cons (fun a w X_ h => g_move (wanted_some rfl rfl h.1) (.inl rfl) h.2.1)
                          (OkL.cons (fun a w X_ h => g_skip rfl rfl h.1 rfl)
                          (OkL.cons (fun a w X_ h => g_skip rfl rfl h.1 rfl)
                          (OkL.cons (fun a w X_ h => g_skip rfl rfl h.1 rfl)
                          (OkL.cons (fun a w X_ h => g_skip rfl rfl h.1 rfl)
                          (OkL.cons (fun a w X_ h => g_skip rfl rfl h.1 rfl)
                          (OkL.cons (fun a w X_ h => g_skip rfl rfl h.1 rfl)
                          (OkL.cons (fun a w X_ h => g_skip rfl rfl h.1 rfl)
                          (OkL.cons (fun a w X_ h => g_skip rfl rfl h.1 rfl)
                          (OkL.cons (fun a w X_ h => g_skip rfl rfl h.1 rfl)
                          (OkL.cons (fun a w X_ h => g_pick (wanted_some rfl rfl h.1) rfl h.2.1 rfl)
                          (OkL.cons (fun a w X_ h => g_pick (wanted_some rfl rfl h.1) rfl h.2.1 h.2.2.1)
                          (OkL.cons (fun a w X_ h => g_pick (wanted_none rfl) rfl h.1 h.2.1)
                          OkL.nil)))))))))))))))))))))))))))))))))))))) ?_
                      rintro w2 X2 v27 - _ rfl _ rfl _ rfl v31 - _ rfl _ rfl _ rfl _ rfl _ rfl _ rfl _ rfl _ rfl _ rfl _ rfl _ rfl _ rfl v44 - _ rfl v46 - _ rfl v48 - v49 - _ rfl _ rfl _ rfl _ rfl _ rfl _ rfl _ rfl _ rfl _ rfl _ rfl _ rfl _ rfl _ rfl _ rfl _ rfl
                      refine FinL.done ?_
                      simp only [Act.put, List.setIfInBounds_toArray, List.set_cons_zero, List.set_cons_succ]
                      have HY := hide (And.intro (Below.chain HX.out.2.1 X2) (Below.heap X2 (Array.getElem?_eq_some_iff.1 HX.out.2.2.1).1 HX.out.2.2.1))
                      have HV := hide (show R = false by rw [← HR.out, fit_no hx (by unfold oneB; rw [hhd]; simp [HK0.out]), Bool.false_and])
                      clear HX X2
                      go_wp2
                      go_ret
                      exact ⟨by rw [HV.out]; rfl, HY.out.1⟩
          · obtain rfl : k = t.l.length := by omega
            have HX := hide hB
            have HV := hide (show R = true by rw [← HR.out, fit_yes h16 hall, rise_yes hris]; rfl)
            clear hB hall hris r1
            go_wp2
            go_ret
            exact ⟨by rw [HV.out]; rfl, HX.out⟩
      · have d16 : decide ((16 : Int) < (t.l.length : Int)) = true := decide_eq_true (by omega)
        rw [show fitB t.l = false by unfold fitB; simp [h16]]
        go_enter Tryz.func55, Tryz.ntmps55
        go_wp2
        go_ret
        exact ⟨rfl, HB.out.1⟩
set_option maxRecDepth 100000 in
theorem rMay_any {t : Tm} {a : Option Addr} {c : Nat} {w : World} (h : TAt w t a c) : Calls Tryz.prog 28 #[tv t a c] w fun e w' => e = .returned (.bool (mayT t)) ∧ Below w.heap.size w w' := by
  unfold mayT
  by_cases h7 : t.k = 7
  · rw [if_pos h7]
    have b1 := alloc_below w (.cells #[.int .i64 t.k, .int .i64 t.n, .string t.s, .slice a t.l.length c] 33)
    have HB := hide b1
    have HC := hide (maySet_any (h.ext b1))
    unfold tv at *
    rw [h7] at HB HC ⊢
    generalize ((t.n == 0) && t.s.toList.isEmpty && fitB t.l && riseB t.l) = M at *
    clear h b1 h7
    go_enter Tryz.func28, Tryz.ntmps28
    go_wp2_with fail
    refine HC.out.mono ?_
    rintro e w' ⟨rfl, hw⟩
    have HR := hide (Below.chain HB.out hw)
    clear hw
    go_wp2
    go_ret
    exact ⟨rfl, HR.out⟩
  · rw [if_neg h7]
    exact rMay_flat _ _ _ _ _ _ h7 h.fits.2.2.1 w
set_option maxRecDepth 100000 in
theorem rFixed_any {t : Tm} {a : Option Addr} {c : Nat} {w : World} (h : TAt w t a c) : Calls Tryz.prog 26 #[tv t a c] w fun e w' => e = .returned (.bool (fixT t)) ∧ Below w.heap.size w w' := by
  have b1 := alloc_below w (.cells #[.int .i64 t.k, .int .i64 t.n, .string t.s, .slice a t.l.length c] 33)
  have HB := hide (And.intro b1 (heap_alloc_last w (.cells #[.int .i64 t.k, .int .i64 t.n, .string t.s, .slice a t.l.length c] 33)))
  have HC := hide (rMay_any (h.ext b1))
  unfold tv at *
  unfold fixT
  clear h b1
  generalize mayT t = M at *
  generalize t.k = ak at *
  generalize t.n = an at *
  generalize t.s = aS at *
  generalize t.l.length = al at *
  cases M with
  | false =>
    rw [Bool.and_false]
    go_enter Tryz.func26, Tryz.ntmps26
    go_wp2_with fail
    refine HC.out.mono ?_
    rintro e w' ⟨rfl, hw⟩
    have HR := hide (Below.chain HB.out.1 hw)
    clear hw
    go_wp2
    go_ret
    exact ⟨rfl, HR.out⟩
  | true =>
    rw [Bool.and_true]
    go_enter Tryz.func26, Tryz.ntmps26
    go_wp2_with fail
    refine HC.out.mono ?_
    rintro e w' ⟨rfl, hw⟩
    have HR := hide (Below.chain HB.out.1 hw)
    have hr := Below.heap hw (Array.getElem?_eq_some_iff.1 HB.out.2).1 HB.out.2
    have A0 := (row_reads hr).1 0
    simp only [List.getElem?_toArray, List.getElem?_cons_zero] at A0
    clear hw hr
    go_wp2
    go_ret
    exact ⟨rfl, HR.out⟩
end Go.Proofs.YteiacgpaocnofaaGreat
