/- Fixed, and terms of which a set can be made: the program's calls. -/
import Derived.Test.YteiacgpaocnofaaGreatMy
namespace Go.Proofs.YteiacgpaocnofaaGreat
open Go.RowKit
/-- May it be, is it no variable? What is no set. -/
def fixV (t : Tm) : Bool := (t.k != 1) && mayV t.k t.n t.s t.l.length
set_option maxRecDepth 100000 in
theorem Fixed_flat {t : Tm} {a : Option Addr} {c : Nat} {w : World} (h7 : t.k ≠ 7) (hs : t.s.size ≤ 9223372036854775807) : Calls Tryz.prog 63 #[tv t a c] w fun e w' => e = .returned (.bool (fixV t)) ∧ Below w.heap.size w w' := by
  unfold tv fixV
  have HB := hide (alloc_below w (.cells #[.int .i64 t.k, .int .i64 t.n, .string t.s, .slice a t.l.length c] 33))
  have HC := hide (fun W => May_flat t.k t.n t.s a t.l.length c h7 hs W)
  generalize mayV t.k t.n t.s t.l.length = M at *
  generalize t.k = ak at *
  generalize t.n = an at *
  generalize t.s = aS at *
  generalize t.l.length = al at *
  cases hk : (ak != 1) with
  | false =>
    go_enter Tryz.func63, Tryz.ntmps63
    go_wp2
    go_ret
    exact ⟨rfl, HB.out⟩
  | true =>
    go_enter Tryz.func63, Tryz.ntmps63
    go_wp2_with fail
    refine (HC.out _).mono ?_
    rintro e w' ⟨rfl, hw⟩
    have HR := hide (Below.chain HB.out hw)
    clear hw
    go_wp2
    go_ret
    exact ⟨rfl, HR.out⟩
/-- A term of a set whose first one has this kind. -/
def oneB (k0 : Int) (t : Tm) : Bool := !(t.k == 7) && (t.k == k0) && fixV t
/-- Terms of which a set can be made. -/
def fitB (l : List Tm) : Bool := decide (l.length ≤ 16) && l.all (oneB (l.headD default).k)
theorem fit_no {l : List Tm} {k : Nat} {x : Tm} (hx : l[k]? = some x) (h : oneB (l.headD default).k x = false) : fitB l = false := by
  have : l.all (oneB (l.headD default).k) = false := by
    rw [List.all_eq_false]
    exact ⟨x, List.mem_of_getElem? hx, by rw [h]; decide⟩
  unfold fitB
  rw [this, Bool.and_false]
theorem fit_yes {l : List Tm} (h1 : l.length ≤ 16) (h : ∀ j x, j < l.length → l[j]? = some x → oneB (l.headD default).k x = true) : fitB l = true := by
  unfold fitB
  rw [List.all_eq_true.2 fun x hx => by
    obtain ⟨j, hj⟩ := List.getElem?_of_mem hx
    exact h j x (List.getElem?_eq_some_iff.1 hj).1 hj]
  simp [h1]
theorem head_at {l : List Tm} {x : Tm} (h : l[0]? = some x) : l.headD default = x := by
  cases l with
  | nil => simp at h
  | cons y r => simpa using h
theorem fit_next {l : List Tm} {k : Nat} {x : Tm} {P : Tm → Prop} (h : ∀ j x, j < k → l[j]? = some x → P x) (hx : l[k]? = some x) (hp : P x) : ∀ j x, j < k + 1 → l[j]? = some x → P x := fun j y hj hy => by
  by_cases e : j = k
  · subst e; rw [hx] at hy; injection hy with hy; subst hy; exact hp
  · exact h j y (by omega) hy
set_option maxRecDepth 100000 in
set_option maxHeartbeats 4000000 in
theorem fitSet_any {l : List Tm} {ao : Option Addr} {c : Nat} {w : World} (h : LAt w l ao c) : Calls Tryz.prog 109 #[.slice ao l.length c] w fun e w' => e = .returned (.bool (fitB l)) ∧ Below w.heap.size w w' := by
  obtain ⟨R, hR⟩ : ∃ R, fitB l = R := ⟨_, rfl⟩
  rw [hR]
  have hm1 := h.1
  have hm2 := h.2.1
  have HL := hide h
  by_cases h16 : l.length ≤ 16
  · have d16 : decide ((16 : Int) < (l.length : Int)) = false := decide_eq_false (by omega)
    have HR := hide hR
    clear hR h
    go_enter Tryz.func109, Tryz.ntmps109
    go_wp2
    go_loopw [10] (fun i wr => ∃ k : Nat, k ≤ l.length ∧ i = .int .i64 (k : Int) ∧ (∀ j x, j < k → l[j]? = some x → oneB (l.headD default).k x = true) ∧ Below w.heap.size w wr) (fun i _ => l.length - (intOf i).toNat)
    case atStart => exact ⟨0, Nat.zero_le _, rfl, fun j x h => absurd h (Nat.not_lt_zero _), Below.refl _ _⟩
    case round =>
      obtain ⟨k, hk, rfl, hall, hB⟩ := hrel
      have HA := hide hall
      clear hall
      by_cases hlt : k < l.length
      · obtain ⟨x, hx⟩ : ∃ x, l[k]? = some x := ⟨_, List.getElem?_eq_getElem hlt⟩
        have hl0 : 0 < l.length := by omega
        obtain ⟨y, hy⟩ : ∃ y, l[0]? = some y := ⟨_, List.getElem?_eq_getElem hl0⟩
        obtain ⟨b, o, hao, hbb, hcs⟩ := HL.out.read hl0
        subst hao
        obtain ⟨xa, xc, hxt, hc4⟩ := hcs k x hx
        obtain ⟨ya, yc, hyt, hy4⟩ := hcs 0 y hy
        obtain ⟨p0, p1, p2, p3⟩ := hc4 wr hB
        have hix := fun w_ => ix_terms w_ b o l.length c k hlt
        have b1 := alloc_below wr (.cells #[.int .i64 x.k, .int .i64 x.n, .string x.s, .slice xa x.l.length xc] 33)
        have bb := Below.chain hB b1
        have hfs := hxt.fits.2.2.1
        have hhd := head_at hy
        have HX := hide (And.intro (heap_alloc_last wr (.cells #[.int .i64 x.k, .int .i64 x.n, .string x.s, .slice xa x.l.length xc] 33)) (And.intro bb (And.intro (Nat.lt_of_lt_of_le hbb bb.size) (fun W (hW : Below _ _ W) => hy4 W (Below.chain bb hW)))))
        clear bb b1 hB hcs hc4 hy4 hxt hyt hy
        by_cases h7 : x.k = 7
        · have e7 : (x.k == 7) = true := by simpa using h7
          have hq7 : ∀ w_ : World, (do eqGuard .eql 3 (.tmp 15) (.const (.int .i64 7)) (.int .i64 x.k) (.int .i64 7); binOp .eql 3 (.int .i64 x.k) (.int .i64 7) : Sem Value).run Tryz.prog w_ = .ok (.bool true) w_ := fun w_ => by go_simp
          have HK := hide h7
          clear h7
          go_wp2_with fail
          refine wp_region_typed (tys := fun ix_ => List.getD [itp x xa xc, icp (.int .i64 x.k), isv (.int .i64 x.k), isv (.bool true), isv (undef)] ix_ anyv) (pre := [(4, 0)])
            (plan := [([(4, 0)], 1), ([(14, 1)], 2), ([(15, 2)], 3), ([(16, 3)], 3), ([(17, 3)], 4), ([(17, 3)], 4), ([(17, 3)], 4), ([(17, 3)], 4), ([(17, 3)], 4), ([(17, 3)], 4), ([(17, 3)], 4), ([(17, 3)], 3)])
            (by kernel_rfl) 30 (by kernel_rfl) rfl ⟨itp_row HX.out.1, trivial⟩
              (OkL.cons (fun a w X_ h => g_fa0 (wanted_none rfl) rfl h.1)
              (OkL.cons (fun a w X_ h => g_ld3 (wanted_none rfl) rfl h.1 rfl)
              (OkL.cons (fun a w X_ h => g_bin (wanted_none rfl) rfl (v := .bool true) (by rw [show a.eval (.tmp 15) = .int .i64 x.k from h.1]; exact hq7 _) rfl)
              (OkL.cons (fun a w X_ h => g_move (wanted_none rfl) (.inl rfl) h.1)
              (OkL.cons (fun a w X_ h => g_skip rfl rfl h.1 rfl)
              (OkL.cons (fun a w X_ h => g_skip rfl rfl h.1 rfl)
              (OkL.cons (fun a w X_ h => g_skip rfl rfl h.1 rfl)
              (OkL.cons (fun a w X_ h => g_skip rfl rfl h.1 rfl)
              (OkL.cons (fun a w X_ h => g_skip rfl rfl h.1 rfl)
              (OkL.cons (fun a w X_ h => g_skip rfl rfl h.1 rfl)
              (OkL.cons (fun a w X_ h => g_skip rfl rfl h.1 rfl)
              (OkL.cons (fun a w X_ h => g_pick (wanted_none rfl) rfl h.1 rfl)
              OkL.nil)))))))))))) ?_
          rintro w2 X2 v14 - _ rfl _ rfl _ rfl _ rfl _ rfl _ rfl _ rfl _ rfl _ rfl _ rfl _ rfl
          refine FinL.done ?_
          simp only [Act.put, List.setIfInBounds_toArray, List.set_cons_zero, List.set_cons_succ]
          have HY := hide (Below.chain HX.out.2.1 X2)
          have HV := hide (show R = false by rw [← HR.out]; exact fit_no hx (by unfold oneB; simp [HK.out]))
          clear HX X2
          go_wp2
          go_ret
          exact ⟨by rw [HV.out]; rfl, HY.out⟩
        · by_cases hk0 : x.k = y.k
          · have e7 : (x.k == 7) = false := by simpa using h7
            have hq7 : ∀ w_ : World, (do eqGuard .eql 3 (.tmp 15) (.const (.int .i64 7)) (.int .i64 x.k) (.int .i64 7); binOp .eql 3 (.int .i64 x.k) (.int .i64 7) : Sem Value).run Tryz.prog w_ = .ok (.bool false) w_ := fun w_ => by clear hk0; go_simp
            have ek : (x.k != y.k) = false := by simpa using hk0
            have hqk : ∀ w_ : World, (do eqGuard .neq 3 (.tmp 19) (.tmp 23) (.int .i64 x.k) (.int .i64 y.k); binOp .neq 3 (.int .i64 x.k) (.int .i64 y.k) : Sem Value).run Tryz.prog w_ = .ok (.bool false) w_ := fun w_ => by go_simp
            have HK := hide (And.intro h7 hk0)
            clear h7 hk0
            go_wp2_with fail
            refine wp_region_typed (tys := fun ix_ => List.getD [itp x xa xc, icp (.int .i64 x.k), isv (.int .i64 x.k), isv (.bool false), isv (.slice (some ⟨b, o, none⟩) (l.length) c), itp y ya yc, icp (.int .i64 y.k), isv (.int .i64 y.k)] ix_ anyv) (pre := [(0, 4), (4, 0)])
              (plan := [([(4, 0)], 1), ([(14, 1)], 2), ([(15, 2)], 3), ([(16, 3)], 3), ([(17, 3), (4, 0)], 1), ([(17, 3), (18, 1)], 2), ([(17, 3), (0, 4)], 4), ([(17, 3), (20, 4)], 5), ([(17, 3), (21, 5)], 6), ([(17, 3), (22, 6)], 7), ([(17, 3), (19, 2), (23, 7)], 3), ([(17, 3), (24, 3)], 3)])
              (by kernel_rfl) 30 (by kernel_rfl) rfl ⟨rfl, ⟨itp_row HX.out.1, trivial⟩⟩
                (OkL.cons (fun a w X_ h => g_fa0 (wanted_none rfl) rfl h.1)
                (OkL.cons (fun a w X_ h => g_ld3 (wanted_none rfl) rfl h.1 rfl)
                (OkL.cons (fun a w X_ h => g_bin (wanted_none rfl) rfl (v := .bool false) (by rw [show a.eval (.tmp 15) = .int .i64 x.k from h.1]; exact hq7 _) rfl)
                (OkL.cons (fun a w X_ h => g_move (wanted_none rfl) (.inl rfl) h.1)
                (OkL.cons (fun a w X_ h => g_fa0 (wanted_some rfl rfl h.1) rfl h.2.1)
                (OkL.cons (fun a w X_ h => g_ld3 (wanted_some rfl rfl h.1) rfl h.2.1 rfl)
                (OkL.cons (fun a w X_ h => g_move (wanted_some rfl rfl h.1) (.inl rfl) h.2.1)
                (OkL.cons (fun a w X_ h => g_ixt (wanted_some rfl rfl h.1) 0 rfl h.2.1 rfl hl0 ((Nat.lt_of_lt_of_le HX.out.2.2.1 (Below.size X_))) (HX.out.2.2.2 _ X_))
                (OkL.cons (fun a w X_ h => g_fa0 (wanted_some rfl rfl h.1) rfl h.2.1)
                (OkL.cons (fun a w X_ h => g_ld3 (wanted_some rfl rfl h.1) rfl h.2.1 rfl)
                (OkL.cons (fun a w X_ h => g_bin (wanted_some rfl rfl h.1) rfl (v := .bool false) (by rw [show a.eval (.tmp 19) = .int .i64 x.k from h.2.1, show a.eval (.tmp 23) = .int .i64 y.k from h.2.2.1]; exact hqk _) rfl)
                (OkL.cons (fun a w X_ h => g_pick (wanted_none rfl) rfl h.1 h.2.1)
                OkL.nil)))))))))))) ?_
            rintro w2 X2 v14 - _ rfl _ rfl _ rfl v18 - _ rfl _ rfl v21 - v22 - _ rfl _ rfl _ rfl
            refine FinL.done ?_
            simp only [Act.put, List.setIfInBounds_toArray, List.set_cons_zero, List.set_cons_succ]
            have HY := hide (Below.chain HX.out.2.1 X2)
            have hrow := Below.heap X2 (Array.getElem?_eq_some_iff.1 HX.out.1).1 HX.out.1
            have A0 := (row_reads hrow).1 0
            have A1 := (row_reads hrow).1 1
            have A2 := (row_reads hrow).1 2
            have A3 := (row_reads hrow).1 3
            simp only [List.getElem?_toArray, List.getElem?_cons_zero, List.getElem?_cons_succ] at A0 A1 A2 A3
            have HF := hide (Fixed_flat (a := xa) (c := xc) (w := w2) HK.out.1 hfs)
            unfold tv at HF
            have ho : oneB (l.headD default).k x = fixV x := by unfold oneB; rw [hhd, e7, show (x.k == y.k) = true by simpa using HK.out.2]; simp
            clear HX X2 hrow
            cases hfx : fixV x with
            | false =>
              have HV := hide (show R = false by rw [← HR.out]; exact fit_no hx (by rw [ho]; exact hfx))
              rw [hfx] at HF
              clear hfx ho
              go_wp2_with fail
              refine HF.out.mono ?_
              rintro e w3 ⟨rfl, b3⟩
              have HZ := hide (Below.chain HY.out b3)
              clear b3 HF
              go_wp2
              go_ret
              exact ⟨by rw [HV.out]; rfl, HZ.out⟩
            | true =>
              have HO := hide (show oneB (l.headD default).k x = true by rw [ho]; exact hfx)
              rw [hfx] at HF
              clear hfx ho
              go_wp2_with fail
              refine HF.out.mono ?_
              rintro e w3 ⟨rfl, b3⟩
              have HZ := hide (Below.chain HY.out b3)
              have HXX := hide hx
              clear b3 HF hx
              go_wp2
              go_roundw
              case rel => exact ⟨k + 1, by omega, by go_num, fit_next HA.out HXX.out HO.out, HZ.out⟩
              case measure => simp [intOf]; omega
          · have e7 : (x.k == 7) = false := by simpa using h7
            have hq7 : ∀ w_ : World, (do eqGuard .eql 3 (.tmp 15) (.const (.int .i64 7)) (.int .i64 x.k) (.int .i64 7); binOp .eql 3 (.int .i64 x.k) (.int .i64 7) : Sem Value).run Tryz.prog w_ = .ok (.bool false) w_ := fun w_ => by clear hk0; go_simp
            have ek : (x.k != y.k) = true := by simpa using hk0
            have hqk : ∀ w_ : World, (do eqGuard .neq 3 (.tmp 19) (.tmp 23) (.int .i64 x.k) (.int .i64 y.k); binOp .neq 3 (.int .i64 x.k) (.int .i64 y.k) : Sem Value).run Tryz.prog w_ = .ok (.bool true) w_ := fun w_ => by go_simp
            have HK := hide (And.intro h7 hk0)
            clear h7 hk0
            go_wp2_with fail
            refine wp_region_typed (tys := fun ix_ => List.getD [itp x xa xc, icp (.int .i64 x.k), isv (.int .i64 x.k), isv (.bool false), isv (.slice (some ⟨b, o, none⟩) (l.length) c), itp y ya yc, icp (.int .i64 y.k), isv (.int .i64 y.k), isv (.bool true)] ix_ anyv) (pre := [(0, 4), (4, 0)])
              (plan := [([(4, 0)], 1), ([(14, 1)], 2), ([(15, 2)], 3), ([(16, 3)], 3), ([(17, 3), (4, 0)], 1), ([(17, 3), (18, 1)], 2), ([(17, 3), (0, 4)], 4), ([(17, 3), (20, 4)], 5), ([(17, 3), (21, 5)], 6), ([(17, 3), (22, 6)], 7), ([(17, 3), (19, 2), (23, 7)], 8), ([(17, 3), (24, 8)], 8)])
              (by kernel_rfl) 30 (by kernel_rfl) rfl ⟨rfl, ⟨itp_row HX.out.1, trivial⟩⟩
                (OkL.cons (fun a w X_ h => g_fa0 (wanted_none rfl) rfl h.1)
                (OkL.cons (fun a w X_ h => g_ld3 (wanted_none rfl) rfl h.1 rfl)
                (OkL.cons (fun a w X_ h => g_bin (wanted_none rfl) rfl (v := .bool false) (by rw [show a.eval (.tmp 15) = .int .i64 x.k from h.1]; exact hq7 _) rfl)
                (OkL.cons (fun a w X_ h => g_move (wanted_none rfl) (.inl rfl) h.1)
                (OkL.cons (fun a w X_ h => g_fa0 (wanted_some rfl rfl h.1) rfl h.2.1)
                (OkL.cons (fun a w X_ h => g_ld3 (wanted_some rfl rfl h.1) rfl h.2.1 rfl)
                (OkL.cons (fun a w X_ h => g_move (wanted_some rfl rfl h.1) (.inl rfl) h.2.1)
                (OkL.cons (fun a w X_ h => g_ixt (wanted_some rfl rfl h.1) 0 rfl h.2.1 rfl hl0 ((Nat.lt_of_lt_of_le HX.out.2.2.1 (Below.size X_))) (HX.out.2.2.2 _ X_))
                (OkL.cons (fun a w X_ h => g_fa0 (wanted_some rfl rfl h.1) rfl h.2.1)
                (OkL.cons (fun a w X_ h => g_ld3 (wanted_some rfl rfl h.1) rfl h.2.1 rfl)
                (OkL.cons (fun a w X_ h => g_bin (wanted_some rfl rfl h.1) rfl (v := .bool true) (by rw [show a.eval (.tmp 19) = .int .i64 x.k from h.2.1, show a.eval (.tmp 23) = .int .i64 y.k from h.2.2.1]; exact hqk _) rfl)
                (OkL.cons (fun a w X_ h => g_pick (wanted_none rfl) rfl h.1 h.2.1)
                OkL.nil)))))))))))) ?_
            rintro w2 X2 v14 - _ rfl _ rfl _ rfl v18 - _ rfl _ rfl v21 - v22 - _ rfl _ rfl _ rfl
            refine FinL.done ?_
            simp only [Act.put, List.setIfInBounds_toArray, List.set_cons_zero, List.set_cons_succ]
            have HY := hide (Below.chain HX.out.2.1 X2)
            have HV := hide (show R = false by rw [← HR.out]; exact fit_no hx (by unfold oneB; rw [hhd]; simp [HK.out.2]))
            clear HX X2
            go_wp2
            go_ret
            exact ⟨by rw [HV.out]; rfl, HY.out⟩
      · obtain rfl : k = l.length := by omega
        have HX := hide hB
        have HV := hide (show R = true by rw [← HR.out]; exact fit_yes h16 HA.out)
        clear hB
        go_wp2
        go_ret
        exact ⟨by rw [HV.out]; rfl, HX.out⟩
  · have d16 : decide ((16 : Int) < (l.length : Int)) = true := decide_eq_true (by omega)
    have HR := hide (show R = false by rw [← hR]; unfold fitB; simp [h16])
    clear hR h
    go_enter Tryz.func109, Tryz.ntmps109
    go_wp2
    go_ret
    exact ⟨by rw [HR.out]; rfl, Below.refl _ _⟩
end Go.Proofs.YteiacgpaocnofaaGreat
