/- TermTurned: the law's call answers true. -/
import Derived.Test.YtgadglpbbcapcaaLk
namespace Go.Proofs.Ytgadglpbbcapcaa
open Go.RowKit
theorem rot_at (n : Int) {len : Nat} (h0 : 0 < len) (h1 : len ≤ 9223372036854775807) : ∃ k : Nat, wrap64 ((IntKind.u64.wrap n).tmod (len : Int)) = (k : Int) ∧ k < len := by
  have hw : 0 ≤ IntKind.u64.wrap n := by
    simp [IntKind.wrap, IntKind.bits, IntKind.signed]
    omega
  have h2 : (IntKind.u64.wrap n).tmod (len : Int) = (IntKind.u64.wrap n) % (len : Int) := Int.tmod_eq_emod_of_nonneg hw
  have h3 := Int.emod_nonneg (IntKind.u64.wrap n) (show (len : Int) ≠ 0 by omega)
  have h4 := Int.emod_lt_of_pos (IntKind.u64.wrap n) (show (0 : Int) < (len : Int) by omega)
  rw [h2]
  generalize IntKind.u64.wrap n % (len : Int) = v at *
  refine ⟨v.toNat, ?_, by omega⟩
  unfold wrap64
  omega
theorem rot_mem (l : List Tm) (k : Nat) (t : Tm) : t ∈ [] ++ l.drop k ++ l.take k ↔ t ∈ l := by
  rw [List.nil_append, List.mem_append, Or.comm, ← List.mem_append, List.take_append_drop]
theorem set_facts {l : List Tm} {r : Tm} {E : Int} (hf : fitB l = true) (h : SetR l r E) : (∀ t ∈ l, hasT r t = true) ∧ mayT r = true ∧ (r.l.length : Int) ≤ (l.length : Int) ∧ ∀ s F, SetR r.l s F → F = 0 ∧ r = s := by
  obtain ⟨_, zs, rfl, hz, _⟩ := h.1 hf
  refine ⟨fun t ht => set_has hz ht, set_may hf hz, Int.ofNat_le.2 hz.2.2, fun s F h2 => ?_⟩
  obtain ⟨e, e2⟩ := set_again hf hz h2
  exact ⟨e, e2.symm⟩
set_option maxRecDepth 100000 in
set_option maxHeartbeats 4000000 in
theorem turned_walk {l : List Tm} {ao : Option Addr} {c : Nat} {n : Int} {w : World} (hl : LAt w l ao c) (hz : l.length * 56 ≤ reachBytes) :
    Calls Try.prog 6 #[.slice ao l.length c, .int .i64 n] w (Yes w) := by
  have hm1 := hl.1
  have hm2 := hl.2.1
  have HB := hide (Below.refl w.heap.size w)
  have HL := hide hl
  clear hl
  have S := hide (size_any 6 (by decide) l ao c 0 _ HL.out (by decide) (by decide))
  go_enter Try.func6, Try.ntmps6
  go_wp2_with fail
  refine S.out.mono ?_
  rintro e ws ⟨z, rfl, _, bs⟩
  clear S
  replace HB := hide (Below.chain HB.out bs)
  replace HL := hide (HL.out.ext bs)
  clear bs
  by_cases hge : (100 : Int) ≤ z
  · have dn : decide ((100 : Int) ≤ z) = true := decide_eq_true hge
    go_wp2_with fail
    refine (awake_any _).mono ?_
    rintro e wk ⟨rfl, bk⟩
    replace HB := hide (Below.chain HB.out bk)
    clear bk
    go_wp2
    go_ret
    exact ⟨rfl, HB.out⟩
  · have dn : decide ((100 : Int) ≤ z) = false := decide_eq_false hge
    have S := hide (Set_any HL.out)
    go_wp2_with fail
    refine S.out.mono ?_
    rintro e wtr ⟨r, ra, rc, E, rfl, hr, hs1, bs⟩
    clear S
    replace HB := hide (Below.chain HB.out bs)
    replace HL := hide (HL.out.ext bs)
    have bx := alloc_below wtr (.cells #[.int .i64 r.k, .int .i64 r.n, .string r.s, .slice ra r.l.length rc] 24)
    have HVr := hide (VarT.new (g := wtr.heap.size) hr rfl)
    replace HB := hide (Below.chain HB.out bx)
    replace HL := hide (HL.out.ext bx)
    clear bs bx hr
    unfold tv
    have HS1 := hide hs1
    cases hf : fitB l with
    | true =>
      have hE : E = 0 := (hs1.1 hf).1
      have HF := hide (set_facts hf hs1)
      subst hE
      clear hs1 hf
      by_cases hlen : 0 < l.length
      · skip
        obtain ⟨k, hk, hkl⟩ : ∃ k : Nat, wrap64 ((IntKind.u64.wrap n).tmod (l.length : Int)) = (k : Int) ∧ k < l.length := rot_at n (by omega) (by omega)
        have HK := hide (show k ≤ l.length ∧ l.length * 56 ≤ 140737488351232 from ⟨Nat.le_of_lt hkl, hz⟩)
        have d3 : decide ((0 : Int) < (l.length : Int)) = true := decide_eq_true (by omega)
        go_upto_region 6 with fail
        rw [hk]
        generalize wtr.alloc (.cells #[.int .i64 r.k, .int .i64 r.n, .string r.s, .slice ra r.l.length rc] 24) = W1 at HVr HB HL ⊢
        generalize wtr.heap.size = ga at HVr ⊢
        refine wp_region_typed2 (tys := fun ix_ => List.getD [ownT W1 ([]), oldT W1 l, isv (.int .i64 (k : Int)), oldT W1 (l.drop k), ownT W1 ([] ++ (l.drop k)), oldT W1 (l.take k), ownT W1 ([] ++ (l.drop k) ++ (l.take k))] ix_ anyv) (pre := [(0, 1), (7, 2)])
          (plan := [([], 0, []), ([(0, 1)], 1, []), ([(7, 2)], 2, []), ([(35, 1), (36, 2)], 3, []), ([(34, 0), (37, 3)], 4, [0]), ([(0, 1)], 1, []), ([(7, 2)], 2, []), ([(39, 1), (40, 2)], 5, []), ([(38, 4), (41, 5)], 6, [0, 4]), ([(42, 6)], 6, [])])
          (by kernel_rfl) [1, 2, 3, 5] 107 (by kernel_rfl) rfl
          (fun c hc => by
            have hc : c = 1 ∨ c = 2 ∨ c = 3 ∨ c = 5 := by simpa using hc
            rcases hc with rfl | rfl | rfl | rfl
            · exact oldT_old _ _
            · exact isv_old _ _
            · exact oldT_old _ _
            · exact oldT_old _ _)
          ⟨oldT_mk HL.out.ts (Ext.refl _), ⟨rfl, trivial⟩⟩
            (OkL2.cons (fun a w_ X_ h => g_oT0 (wanted_none rfl) rfl X_)
            (OkL2.cons (fun a w_ X_ h => g_move (wanted_none rfl) (.inl rfl) h.1)
            (OkL2.cons (fun a w_ X_ h => g_move (wanted_none rfl) (.inl rfl) h.1)
            (OkL2.cons (fun a w_ X_ h => g_slTf (wanted_none rfl) k rfl h.1 h.2.1 (HK.out.1))
            (OkL2.wcons (fun a w_ X_ h => g_apT (wanted_none rfl) rfl X_ h.1 (oldT_cs h.2.1) (by have := HK.out.2; rw [List.length_nil, List.length_drop]; omega))
            (OkL2.cons (fun a w_ X_ h => g_move (wanted_none rfl) (.inl rfl) h.1)
            (OkL2.cons (fun a w_ X_ h => g_move (wanted_none rfl) (.inl rfl) h.1)
            (OkL2.cons (fun a w_ X_ h => g_slTu (wanted_none rfl) k rfl h.1 h.2.1 (HK.out.1))
            (OkL2.wcons (fun a w_ X_ h => g_apT (wanted_none rfl) rfl X_ h.1 (oldT_cs h.2.1) (by have := HK.out; rw [List.length_append, List.length_nil, List.length_drop, List.length_take]; omega))
            (OkL2.cons (fun a w_ X_ h => g_move (wanted_none rfl) (.inr rfl) h.1)
            OkL2.nil)))))))))) ?_
        rintro W2 X2 v34 - v35 - _ rfl v37 - v38 - v39 - _ rfl v41 - v42 - v8 k8
        refine FinL.done ?_
        simp only [Act.put, List.setIfInBounds_toArray, List.set_cons_zero, List.set_cons_succ]
        obtain ⟨ma, mc, hv8, hLM⟩ := k8.at.lat
        have HM := hide hLM
        have hmm := fun t => rot_mem l k t
        have hml : ([] ++ l.drop k ++ l.take k).length = l.length := by rw [List.length_append, List.length_append, List.length_nil, List.length_drop, List.length_take]; omega
        rw [hv8]
        clear k8 hLM hv8
        replace HB := hide (Below.chain HB.out X2)
        replace HVr := hide (HVr.out.ext X2)
        replace HL := hide (HL.out.ext X2)
        clear X2
        generalize [] ++ l.drop k ++ l.take k = m at HM hmm hml ⊢
        have HMM := hide (And.intro hml hmm)
        clear hml hmm
        have S := hide (Set_any HM.out)
        go_wp2_with fail
        refine S.out.mono ?_
        rintro e wts ⟨s, sa, sc, F, rfl, hr, hs2, bs⟩
        clear S
        replace HB := hide (Below.chain HB.out bs)
        replace HVr := hide (HVr.out.ext bs)
        replace HL := hide (HL.out.ext bs)
        have bx := alloc_below wts (.cells #[.int .i64 s.k, .int .i64 s.n, .string s.s, .slice sa s.l.length sc] 24)
        have HVs := hide (VarT.new (g := wts.heap.size) hr rfl)
        replace HB := hide (Below.chain HB.out bx)
        replace HVr := hide (HVr.out.ext bx)
        replace HL := hide (HL.out.ext bx)
        clear bs bx hr
        unfold tv
        obtain ⟨rfl, e0⟩ := set_uniq HMM.out.1.symm (fun t => (HMM.out.2 t).symm) HS1.out hs2
        subst e0
        clear hs2 HMM HM
        go_upto_region 8 with fail
        generalize wts.alloc (.cells #[.int .i64 r.k, .int .i64 r.n, .string r.s, .slice sa r.l.length sc] 24) = W3 at HVr HVs HB HL ⊢
        generalize wts.heap.size = gs at HVs ⊢
        refine wp_region_lined (tys := fun ix_ => List.getD [isv (.int .i64 0), isv (.bool true), isv (.bool false), itp r ra rc, isv (tv r ra rc), itp r sa sc, isv (tv r sa sc)] ix_ anyv) (pre := [(5, 3), (6, 0), (9, 5), (10, 0)])
          (plan := [([(6, 0)], 0), ([(48, 0)], 1), ([(10, 0)], 0), ([(50, 0)], 1), ([(49, 1), (51, 1)], 2), ([(52, 2)], 2), ([(53, 2), (5, 3)], 4), ([(53, 2), (9, 5)], 6), ([(53, 2), (54, 4), (55, 6)], 1), ([(53, 2), (56, 1)], 2), ([(53, 2), (57, 2)], 2)])
          107 (by kernel_rfl) rfl ⟨HVr.out.itp, ⟨rfl, ⟨HVs.out.itp, ⟨rfl, trivial⟩⟩⟩⟩
            (OkL.cons (fun a w_ X_ h => g_move (wanted_none rfl) (.inl rfl) h.1)
            (OkL.cons (fun a w_ X_ h => g_bin (wanted_none rfl) rfl (v := .bool true) (by rw [show a.eval (.tmp 48) = .int .i64 0 from h.1]; go_simp) rfl)
            (OkL.cons (fun a w_ X_ h => g_move (wanted_none rfl) (.inl rfl) h.1)
            (OkL.cons (fun a w_ X_ h => g_bin (wanted_none rfl) rfl (v := .bool true) (by rw [show a.eval (.tmp 50) = .int .i64 0 from h.1]; go_simp) rfl)
            (OkL.cons (fun a w_ X_ h => g_neb (wanted_none rfl) rfl h.1 h.2.1 rfl)
            (OkL.cons (fun a w_ X_ h => g_move (wanted_none rfl) (.inl rfl) h.1)
            (OkL.cons (fun a w_ X_ h => g_ldt (wanted_some rfl rfl h.1) rfl h.2.1 rfl)
            (OkL.cons (fun a w_ X_ h => g_ldt (wanted_some rfl rfl h.1) rfl h.2.1 rfl)
            (OkL.cons (fun a w_ X_ h => g_call2 (wanted_some rfl rfl h.1) (by kernel_rfl) rfl (h_rsameM h.2.1 h.2.2.1 (HVr.out.2.ext X_) (HVs.out.2.ext X_) (cp_same _)))
            (OkL.cons (fun a w_ X_ h => g_not (wanted_some rfl rfl h.1) rfl h.2.1 rfl)
            (OkL.cons (fun a w_ X_ h => g_pick (wanted_none rfl) rfl h.1 h.2.1)
            OkL.nil))))))))))) ?_
        rintro W4 X4 _ rfl _ rfl _ rfl _ rfl _ rfl _ rfl _ rfl _ rfl _ rfl _ rfl _ rfl
        refine FinL.done ?_
        simp only [Act.put, List.setIfInBounds_toArray, List.set_cons_zero, List.set_cons_succ]
        replace HB := hide (Below.chain HB.out X4)
        replace HVr := hide (HVr.out.ext X4)
        replace HL := hide (HL.out.ext X4)
        clear X4 HVs
        go_wp2
        go_loopw [70] (fun i wr => ∃ k : Nat, k ≤ l.length ∧ i = .int .i64 (k : Int) ∧ Hid (Below w.heap.size w wr) ∧ Hid (VarT wr ga r ra rc) ∧ Hid (LAt wr l ao c)) (fun i _ => l.length - (intOf i).toNat)
        case atStart => exact ⟨0, Nat.zero_le _, rfl, HB, HVr, HL⟩
        case round =>
          clear HB HVr HL
          obtain ⟨k, hk, rfl, HB, HVr, HL⟩ := hrel
          by_cases hlt : k < l.length
          · obtain ⟨x, hx⟩ : ∃ x, l[k]? = some x := ⟨_, List.getElem?_eq_getElem hlt⟩
            obtain ⟨b, o, hao, hbb, hcs⟩ := HL.out.read (by omega)
            subst hao
            obtain ⟨xa, xc, hxt, hx4⟩ := hcs k x hx
            obtain ⟨p0, p1, p2, p3⟩ := hx4 wr (Below.refl _ _)
            have hix := fun w_ => ix_terms w_ b o l.length c k hlt
            have bA := alloc_below wr (.cells #[.int .i64 x.k, .int .i64 x.n, .string x.s, .slice xa x.l.length xc] 24)
            have S := hide (Has_any (HVr.out.2.ext bA) (hxt.ext bA))
            rw [HF.out.1 x (List.mem_of_getElem? hx)] at S
            unfold tv at S
            replace HB := hide (Below.chain HB.out bA)
            replace HVr := hide (HVr.out.ext bA)
            replace HL := hide (HL.out.ext bA)
            obtain ⟨q0, q1, q2, q3⟩ := HVr.out.q
            clear bA hcs hx4 hxt hx hbb
            go_wp2_with fail
            refine S.out.mono ?_
            rintro e w2 ⟨rfl, bs⟩
            clear S q0 q1 q2 q3
            replace HB := hide (Below.chain HB.out bs)
            replace HVr := hide (HVr.out.ext bs)
            replace HL := hide (HL.out.ext bs)
            clear bs
            go_wp2
            go_roundw
            case rel => exact ⟨k + 1, by omega, by go_num, HB, HVr, HL⟩
            case measure => simp [intOf]; omega
          · have hke : k = l.length := by omega
            subst hke
            have d5 : decide ((l.length : Int) < (l.length : Int)) = false := decide_eq_false (by omega)
            obtain ⟨q0, q1, q2, q3⟩ := HVr.out.q
            have S := hide (Set_any HVr.out.2.list)
            go_wp2_with fail
            refine S.out.mono ?_
            rintro e wtu ⟨u, ua, uc, G, rfl, hr, hs3, bs⟩
            clear S q0 q1 q2 q3
            replace HB := hide (Below.chain HB.out bs)
            replace HVr := hide (HVr.out.ext bs)
            replace HL := hide (HL.out.ext bs)
            have bx := alloc_below wtu (.cells #[.int .i64 u.k, .int .i64 u.n, .string u.s, .slice ua u.l.length uc] 24)
            have HVu := hide (VarT.new (g := wtu.heap.size) hr rfl)
            replace HB := hide (Below.chain HB.out bx)
            replace HVr := hide (HVr.out.ext bx)
            replace HL := hide (HL.out.ext bx)
            clear bs bx hr
            unfold tv
            obtain ⟨e1, e2⟩ := HF.out.2.2.2 u G hs3
            subst e1; subst e2
            clear hs3
            go_upto_region 19 with fail
            generalize wtu.alloc (.cells #[.int .i64 r.k, .int .i64 r.n, .string r.s, .slice ua r.l.length uc] 24) = W5 at HVr HVu HB HL ⊢
            generalize wtu.heap.size = gu at HVu ⊢
            refine wp_region_lined (tys := fun ix_ => List.getD [itp r ra rc, isv (tv r ra rc), isv (.bool true), icp (.slice ra r.l.length rc), isv (.slice ra (r.l.length) rc), isv (.int .i64 (r.l.length : Int)), isv (.slice ao (l.length) c), isv (.int .i64 (l.length : Int)), isv (.int .i64 0), itp r ua uc, isv (tv r ua uc)] ix_ anyv) (pre := [(0, 6), (5, 0), (13, 9), (14, 8)])
              (plan := [([(5, 0)], 1), ([(85, 1)], 2), ([(86, 2)], 2), ([(87, 2), (5, 0)], 3), ([(87, 2), (88, 3)], 4), ([(87, 2), (89, 4)], 5), ([(87, 2), (0, 6)], 6), ([(87, 2), (91, 6)], 7), ([(87, 2), (90, 5), (92, 7)], 2), ([(87, 2), (93, 2)], 2), ([(94, 2)], 2), ([(95, 2), (14, 8)], 8), ([(95, 2), (96, 8)], 2), ([(95, 2), (97, 2)], 2), ([(98, 2)], 2), ([(99, 2), (13, 9)], 10), ([(99, 2), (5, 0)], 1), ([(99, 2), (100, 10), (101, 1)], 2), ([(99, 2), (102, 2)], 2), ([(103, 2)], 2), ([(104, 2)], 2), ([(104, 2), (105, 2)], 2), ([(106, 2)], 2)])
              107 (by kernel_rfl) rfl ⟨rfl, ⟨HVr.out.itp, ⟨HVu.out.itp, ⟨rfl, trivial⟩⟩⟩⟩
                (OkL.cons (fun a w_ X_ h => g_ldt (wanted_none rfl) rfl h.1 rfl)
                (OkL.cons (fun a w_ X_ h => g_call1 (wanted_none rfl) (by kernel_rfl) rfl (h_mayM h.1 (HVr.out.2.ext X_) HF.out.2.1))
                (OkL.cons (fun a w_ X_ h => g_move (wanted_none rfl) (.inl rfl) h.1)
                (OkL.cons (fun a w_ X_ h => g_fa3 (wanted_some rfl rfl h.1) rfl h.2.1)
                (OkL.cons (fun a w_ X_ h => g_ld22 (wanted_some rfl rfl h.1) rfl h.2.1 rfl)
                (OkL.cons (fun a w_ X_ h => g_lens (wanted_some rfl rfl h.1) rfl h.2.1 rfl)
                (OkL.cons (fun a w_ X_ h => g_move (wanted_some rfl rfl h.1) (.inl rfl) h.2.1)
                (OkL.cons (fun a w_ X_ h => g_lens (wanted_some rfl rfl h.1) rfl h.2.1 rfl)
                (OkL.cons (fun a w_ X_ h => g_cI (wanted_some rfl rfl h.1) rfl rfl h.2.1 h.2.2.1 (decide_eq_true (HF.out.2.2.1)))
                (OkL.cons (fun a w_ X_ h => g_pick (wanted_none rfl) rfl h.1 h.2.1)
                (OkL.cons (fun a w_ X_ h => g_move (wanted_none rfl) (.inl rfl) h.1)
                (OkL.cons (fun a w_ X_ h => g_move (wanted_some rfl rfl h.1) (.inl rfl) h.2.1)
                (OkL.cons (fun a w_ X_ h => g_bin (wanted_some rfl rfl h.1) rfl (v := .bool true) (by rw [show a.eval (.tmp 96) = .int .i64 0 from h.2.1]; go_simp) rfl)
                (OkL.cons (fun a w_ X_ h => g_pick (wanted_none rfl) rfl h.1 h.2.1)
                (OkL.cons (fun a w_ X_ h => g_move (wanted_none rfl) (.inl rfl) h.1)
                (OkL.cons (fun a w_ X_ h => g_ldt (wanted_some rfl rfl h.1) rfl h.2.1 rfl)
                (OkL.cons (fun a w_ X_ h => g_ldt (wanted_some rfl rfl h.1) rfl h.2.1 rfl)
                (OkL.cons (fun a w_ X_ h => g_call2 (wanted_some rfl rfl h.1) (by kernel_rfl) rfl (h_rsameM h.2.1 h.2.2.1 (HVu.out.2.ext X_) (HVr.out.2.ext X_) (cp_same _)))
                (OkL.cons (fun a w_ X_ h => g_pick (wanted_none rfl) rfl h.1 h.2.1)
                (OkL.cons (fun a w_ X_ h => g_move (wanted_none rfl) (.inl rfl) h.1)
                (OkL.cons (fun a w_ X_ h => g_call0 (wanted_some rfl rfl h.1) (by kernel_rfl) rfl (h_awake))
                (OkL.cons (fun a w_ X_ h => g_pick (wanted_none rfl) rfl h.1 h.2.1)
                (OkL.cons (fun a w_ X_ h => g_move (wanted_none rfl) (.inr rfl) h.1)
                OkL.nil))))))))))))))))))))))) ?_
            rintro W6 X6 _ rfl _ rfl _ rfl v88 - _ rfl _ rfl _ rfl _ rfl _ rfl _ rfl _ rfl _ rfl _ rfl _ rfl _ rfl _ rfl _ rfl _ rfl _ rfl _ rfl _ rfl _ rfl _ rfl
            refine FinL.done ?_
            simp only [Act.put, List.setIfInBounds_toArray, List.set_cons_zero, List.set_cons_succ]
            replace HB := hide (Below.chain HB.out X6)
            clear X6
            go_wp2
            go_ret
            exact ⟨rfl, HB.out⟩
      · have d3 : decide ((0 : Int) < (l.length : Int)) = false := decide_eq_false (by omega)
        go_upto_region 10 with fail
        clear d3 hlen
        generalize wtr.alloc (.cells #[.int .i64 r.k, .int .i64 r.n, .string r.s, .slice ra r.l.length rc] 24) = W1 at HVr HB HL ⊢
        generalize wtr.heap.size = ga at HVr ⊢
        go_wp2
        go_loopw [70] (fun i wr => ∃ k : Nat, k ≤ l.length ∧ i = .int .i64 (k : Int) ∧ Hid (Below w.heap.size w wr) ∧ Hid (VarT wr ga r ra rc) ∧ Hid (LAt wr l ao c)) (fun i _ => l.length - (intOf i).toNat)
        case atStart => exact ⟨0, Nat.zero_le _, rfl, HB, HVr, HL⟩
        case round =>
          clear HB HVr HL
          obtain ⟨k, hk, rfl, HB, HVr, HL⟩ := hrel
          by_cases hlt : k < l.length
          · obtain ⟨x, hx⟩ : ∃ x, l[k]? = some x := ⟨_, List.getElem?_eq_getElem hlt⟩
            obtain ⟨b, o, hao, hbb, hcs⟩ := HL.out.read (by omega)
            subst hao
            obtain ⟨xa, xc, hxt, hx4⟩ := hcs k x hx
            obtain ⟨p0, p1, p2, p3⟩ := hx4 wr (Below.refl _ _)
            have hix := fun w_ => ix_terms w_ b o l.length c k hlt
            have bA := alloc_below wr (.cells #[.int .i64 x.k, .int .i64 x.n, .string x.s, .slice xa x.l.length xc] 24)
            have S := hide (Has_any (HVr.out.2.ext bA) (hxt.ext bA))
            rw [HF.out.1 x (List.mem_of_getElem? hx)] at S
            unfold tv at S
            replace HB := hide (Below.chain HB.out bA)
            replace HVr := hide (HVr.out.ext bA)
            replace HL := hide (HL.out.ext bA)
            obtain ⟨q0, q1, q2, q3⟩ := HVr.out.q
            clear bA hcs hx4 hxt hx hbb
            go_wp2_with fail
            refine S.out.mono ?_
            rintro e w2 ⟨rfl, bs⟩
            clear S q0 q1 q2 q3
            replace HB := hide (Below.chain HB.out bs)
            replace HVr := hide (HVr.out.ext bs)
            replace HL := hide (HL.out.ext bs)
            clear bs
            go_wp2
            go_roundw
            case rel => exact ⟨k + 1, by omega, by go_num, HB, HVr, HL⟩
            case measure => simp [intOf]; omega
          · have hke : k = l.length := by omega
            subst hke
            have d5 : decide ((l.length : Int) < (l.length : Int)) = false := decide_eq_false (by omega)
            obtain ⟨q0, q1, q2, q3⟩ := HVr.out.q
            have S := hide (Set_any HVr.out.2.list)
            go_wp2_with fail
            refine S.out.mono ?_
            rintro e wtu ⟨u, ua, uc, G, rfl, hr, hs3, bs⟩
            clear S q0 q1 q2 q3
            replace HB := hide (Below.chain HB.out bs)
            replace HVr := hide (HVr.out.ext bs)
            replace HL := hide (HL.out.ext bs)
            have bx := alloc_below wtu (.cells #[.int .i64 u.k, .int .i64 u.n, .string u.s, .slice ua u.l.length uc] 24)
            have HVu := hide (VarT.new (g := wtu.heap.size) hr rfl)
            replace HB := hide (Below.chain HB.out bx)
            replace HVr := hide (HVr.out.ext bx)
            replace HL := hide (HL.out.ext bx)
            clear bs bx hr
            unfold tv
            obtain ⟨e1, e2⟩ := HF.out.2.2.2 u G hs3
            subst e1; subst e2
            clear hs3
            go_upto_region 19 with fail
            generalize wtu.alloc (.cells #[.int .i64 r.k, .int .i64 r.n, .string r.s, .slice ua r.l.length uc] 24) = W5 at HVr HVu HB HL ⊢
            generalize wtu.heap.size = gu at HVu ⊢
            refine wp_region_lined (tys := fun ix_ => List.getD [itp r ra rc, isv (tv r ra rc), isv (.bool true), icp (.slice ra r.l.length rc), isv (.slice ra (r.l.length) rc), isv (.int .i64 (r.l.length : Int)), isv (.slice ao (l.length) c), isv (.int .i64 (l.length : Int)), isv (.int .i64 0), itp r ua uc, isv (tv r ua uc)] ix_ anyv) (pre := [(0, 6), (5, 0), (13, 9), (14, 8)])
              (plan := [([(5, 0)], 1), ([(85, 1)], 2), ([(86, 2)], 2), ([(87, 2), (5, 0)], 3), ([(87, 2), (88, 3)], 4), ([(87, 2), (89, 4)], 5), ([(87, 2), (0, 6)], 6), ([(87, 2), (91, 6)], 7), ([(87, 2), (90, 5), (92, 7)], 2), ([(87, 2), (93, 2)], 2), ([(94, 2)], 2), ([(95, 2), (14, 8)], 8), ([(95, 2), (96, 8)], 2), ([(95, 2), (97, 2)], 2), ([(98, 2)], 2), ([(99, 2), (13, 9)], 10), ([(99, 2), (5, 0)], 1), ([(99, 2), (100, 10), (101, 1)], 2), ([(99, 2), (102, 2)], 2), ([(103, 2)], 2), ([(104, 2)], 2), ([(104, 2), (105, 2)], 2), ([(106, 2)], 2)])
              107 (by kernel_rfl) rfl ⟨rfl, ⟨HVr.out.itp, ⟨HVu.out.itp, ⟨rfl, trivial⟩⟩⟩⟩
                (OkL.cons (fun a w_ X_ h => g_ldt (wanted_none rfl) rfl h.1 rfl)
                (OkL.cons (fun a w_ X_ h => g_call1 (wanted_none rfl) (by kernel_rfl) rfl (h_mayM h.1 (HVr.out.2.ext X_) HF.out.2.1))
                (OkL.cons (fun a w_ X_ h => g_move (wanted_none rfl) (.inl rfl) h.1)
                (OkL.cons (fun a w_ X_ h => g_fa3 (wanted_some rfl rfl h.1) rfl h.2.1)
                (OkL.cons (fun a w_ X_ h => g_ld22 (wanted_some rfl rfl h.1) rfl h.2.1 rfl)
                (OkL.cons (fun a w_ X_ h => g_lens (wanted_some rfl rfl h.1) rfl h.2.1 rfl)
                (OkL.cons (fun a w_ X_ h => g_move (wanted_some rfl rfl h.1) (.inl rfl) h.2.1)
                (OkL.cons (fun a w_ X_ h => g_lens (wanted_some rfl rfl h.1) rfl h.2.1 rfl)
                (OkL.cons (fun a w_ X_ h => g_cI (wanted_some rfl rfl h.1) rfl rfl h.2.1 h.2.2.1 (decide_eq_true (HF.out.2.2.1)))
                (OkL.cons (fun a w_ X_ h => g_pick (wanted_none rfl) rfl h.1 h.2.1)
                (OkL.cons (fun a w_ X_ h => g_move (wanted_none rfl) (.inl rfl) h.1)
                (OkL.cons (fun a w_ X_ h => g_move (wanted_some rfl rfl h.1) (.inl rfl) h.2.1)
                (OkL.cons (fun a w_ X_ h => g_bin (wanted_some rfl rfl h.1) rfl (v := .bool true) (by rw [show a.eval (.tmp 96) = .int .i64 0 from h.2.1]; go_simp) rfl)
                (OkL.cons (fun a w_ X_ h => g_pick (wanted_none rfl) rfl h.1 h.2.1)
                (OkL.cons (fun a w_ X_ h => g_move (wanted_none rfl) (.inl rfl) h.1)
                (OkL.cons (fun a w_ X_ h => g_ldt (wanted_some rfl rfl h.1) rfl h.2.1 rfl)
                (OkL.cons (fun a w_ X_ h => g_ldt (wanted_some rfl rfl h.1) rfl h.2.1 rfl)
                (OkL.cons (fun a w_ X_ h => g_call2 (wanted_some rfl rfl h.1) (by kernel_rfl) rfl (h_rsameM h.2.1 h.2.2.1 (HVu.out.2.ext X_) (HVr.out.2.ext X_) (cp_same _)))
                (OkL.cons (fun a w_ X_ h => g_pick (wanted_none rfl) rfl h.1 h.2.1)
                (OkL.cons (fun a w_ X_ h => g_move (wanted_none rfl) (.inl rfl) h.1)
                (OkL.cons (fun a w_ X_ h => g_call0 (wanted_some rfl rfl h.1) (by kernel_rfl) rfl (h_awake))
                (OkL.cons (fun a w_ X_ h => g_pick (wanted_none rfl) rfl h.1 h.2.1)
                (OkL.cons (fun a w_ X_ h => g_move (wanted_none rfl) (.inr rfl) h.1)
                OkL.nil))))))))))))))))))))))) ?_
            rintro W6 X6 _ rfl _ rfl _ rfl v88 - _ rfl _ rfl _ rfl _ rfl _ rfl _ rfl _ rfl _ rfl _ rfl _ rfl _ rfl _ rfl _ rfl _ rfl _ rfl _ rfl _ rfl _ rfl _ rfl
            refine FinL.done ?_
            simp only [Act.put, List.setIfInBounds_toArray, List.set_cons_zero, List.set_cons_succ]
            replace HB := hide (Below.chain HB.out X6)
            clear X6
            go_wp2
            go_ret
            exact ⟨rfl, HB.out⟩
    | false =>
      have hE : E = 1 := (hs1.2 hf).1
      have HF := hide (show r.l.length = 0 by rw [(hs1.2 hf).2]; rfl)
      have hlen : 0 < l.length := by
        rcases Nat.eq_zero_or_pos l.length with h | h
        · rw [List.eq_nil_of_length_eq_zero h] at hf; cases hf
        · exact h
      subst hE
      clear hs1 hf
      obtain ⟨k, hk, hkl⟩ : ∃ k : Nat, wrap64 ((IntKind.u64.wrap n).tmod (l.length : Int)) = (k : Int) ∧ k < l.length := rot_at n (by omega) (by omega)
      have HK := hide (show k ≤ l.length ∧ l.length * 56 ≤ 140737488351232 from ⟨Nat.le_of_lt hkl, hz⟩)
      have d3 : decide ((0 : Int) < (l.length : Int)) = true := decide_eq_true (by omega)
      go_upto_region 6 with fail
      rw [hk]
      generalize wtr.alloc (.cells #[.int .i64 r.k, .int .i64 r.n, .string r.s, .slice ra r.l.length rc] 24) = W1 at HVr HB HL ⊢
      generalize wtr.heap.size = ga at HVr ⊢
      refine wp_region_typed2 (tys := fun ix_ => List.getD [ownT W1 ([]), oldT W1 l, isv (.int .i64 (k : Int)), oldT W1 (l.drop k), ownT W1 ([] ++ (l.drop k)), oldT W1 (l.take k), ownT W1 ([] ++ (l.drop k) ++ (l.take k))] ix_ anyv) (pre := [(0, 1), (7, 2)])
        (plan := [([], 0, []), ([(0, 1)], 1, []), ([(7, 2)], 2, []), ([(35, 1), (36, 2)], 3, []), ([(34, 0), (37, 3)], 4, [0]), ([(0, 1)], 1, []), ([(7, 2)], 2, []), ([(39, 1), (40, 2)], 5, []), ([(38, 4), (41, 5)], 6, [0, 4]), ([(42, 6)], 6, [])])
        (by kernel_rfl) [1, 2, 3, 5] 107 (by kernel_rfl) rfl
        (fun c hc => by
          have hc : c = 1 ∨ c = 2 ∨ c = 3 ∨ c = 5 := by simpa using hc
          rcases hc with rfl | rfl | rfl | rfl
          · exact oldT_old _ _
          · exact isv_old _ _
          · exact oldT_old _ _
          · exact oldT_old _ _)
        ⟨oldT_mk HL.out.ts (Ext.refl _), ⟨rfl, trivial⟩⟩
          (OkL2.cons (fun a w_ X_ h => g_oT0 (wanted_none rfl) rfl X_)
          (OkL2.cons (fun a w_ X_ h => g_move (wanted_none rfl) (.inl rfl) h.1)
          (OkL2.cons (fun a w_ X_ h => g_move (wanted_none rfl) (.inl rfl) h.1)
          (OkL2.cons (fun a w_ X_ h => g_slTf (wanted_none rfl) k rfl h.1 h.2.1 (HK.out.1))
          (OkL2.wcons (fun a w_ X_ h => g_apT (wanted_none rfl) rfl X_ h.1 (oldT_cs h.2.1) (by have := HK.out.2; rw [List.length_nil, List.length_drop]; omega))
          (OkL2.cons (fun a w_ X_ h => g_move (wanted_none rfl) (.inl rfl) h.1)
          (OkL2.cons (fun a w_ X_ h => g_move (wanted_none rfl) (.inl rfl) h.1)
          (OkL2.cons (fun a w_ X_ h => g_slTu (wanted_none rfl) k rfl h.1 h.2.1 (HK.out.1))
          (OkL2.wcons (fun a w_ X_ h => g_apT (wanted_none rfl) rfl X_ h.1 (oldT_cs h.2.1) (by have := HK.out; rw [List.length_append, List.length_nil, List.length_drop, List.length_take]; omega))
          (OkL2.cons (fun a w_ X_ h => g_move (wanted_none rfl) (.inr rfl) h.1)
          OkL2.nil)))))))))) ?_
      rintro W2 X2 v34 - v35 - _ rfl v37 - v38 - v39 - _ rfl v41 - v42 - v8 k8
      refine FinL.done ?_
      simp only [Act.put, List.setIfInBounds_toArray, List.set_cons_zero, List.set_cons_succ]
      obtain ⟨ma, mc, hv8, hLM⟩ := k8.at.lat
      have HM := hide hLM
      have hmm := fun t => rot_mem l k t
      have hml : ([] ++ l.drop k ++ l.take k).length = l.length := by rw [List.length_append, List.length_append, List.length_nil, List.length_drop, List.length_take]; omega
      rw [hv8]
      clear k8 hLM hv8
      replace HB := hide (Below.chain HB.out X2)
      replace HVr := hide (HVr.out.ext X2)
      replace HL := hide (HL.out.ext X2)
      clear X2
      generalize [] ++ l.drop k ++ l.take k = m at HM hmm hml ⊢
      have HMM := hide (And.intro hml hmm)
      clear hml hmm
      have S := hide (Set_any HM.out)
      go_wp2_with fail
      refine S.out.mono ?_
      rintro e wts ⟨s, sa, sc, F, rfl, hr, hs2, bs⟩
      clear S
      replace HB := hide (Below.chain HB.out bs)
      replace HVr := hide (HVr.out.ext bs)
      replace HL := hide (HL.out.ext bs)
      have bx := alloc_below wts (.cells #[.int .i64 s.k, .int .i64 s.n, .string s.s, .slice sa s.l.length sc] 24)
      have HVs := hide (VarT.new (g := wts.heap.size) hr rfl)
      replace HB := hide (Below.chain HB.out bx)
      replace HVr := hide (HVr.out.ext bx)
      replace HL := hide (HL.out.ext bx)
      clear bs bx hr
      unfold tv
      obtain ⟨rfl, e0⟩ := set_uniq HMM.out.1.symm (fun t => (HMM.out.2 t).symm) HS1.out hs2
      subst e0
      clear hs2 HMM HM
      go_upto_region 8 with fail
      generalize wts.alloc (.cells #[.int .i64 r.k, .int .i64 r.n, .string r.s, .slice sa r.l.length sc] 24) = W3 at HVr HVs HB HL ⊢
      generalize wts.heap.size = gs at HVs ⊢
      refine wp_region_lined (tys := fun ix_ => List.getD [isv (.int .i64 1), isv (.bool false), itp r ra rc, isv (tv r ra rc), itp r sa sc, isv (tv r sa sc), isv (.bool true)] ix_ anyv) (pre := [(5, 2), (6, 0), (9, 4), (10, 0)])
        (plan := [([(6, 0)], 0), ([(48, 0)], 1), ([(10, 0)], 0), ([(50, 0)], 1), ([(49, 1), (51, 1)], 1), ([(52, 1)], 1), ([(53, 1), (5, 2)], 3), ([(53, 1), (9, 4)], 5), ([(53, 1), (54, 3), (55, 5)], 6), ([(53, 1), (56, 6)], 1), ([(53, 1), (57, 1)], 1)])
        107 (by kernel_rfl) rfl ⟨HVr.out.itp, ⟨rfl, ⟨HVs.out.itp, ⟨rfl, trivial⟩⟩⟩⟩
          (OkL.cons (fun a w_ X_ h => g_move (wanted_none rfl) (.inl rfl) h.1)
          (OkL.cons (fun a w_ X_ h => g_bin (wanted_none rfl) rfl (v := .bool false) (by rw [show a.eval (.tmp 48) = .int .i64 1 from h.1]; go_simp) rfl)
          (OkL.cons (fun a w_ X_ h => g_move (wanted_none rfl) (.inl rfl) h.1)
          (OkL.cons (fun a w_ X_ h => g_bin (wanted_none rfl) rfl (v := .bool false) (by rw [show a.eval (.tmp 50) = .int .i64 1 from h.1]; go_simp) rfl)
          (OkL.cons (fun a w_ X_ h => g_neb (wanted_none rfl) rfl h.1 h.2.1 rfl)
          (OkL.cons (fun a w_ X_ h => g_move (wanted_none rfl) (.inl rfl) h.1)
          (OkL.cons (fun a w_ X_ h => g_ldt (wanted_some rfl rfl h.1) rfl h.2.1 rfl)
          (OkL.cons (fun a w_ X_ h => g_ldt (wanted_some rfl rfl h.1) rfl h.2.1 rfl)
          (OkL.cons (fun a w_ X_ h => g_call2 (wanted_some rfl rfl h.1) (by kernel_rfl) rfl (h_rsameM h.2.1 h.2.2.1 (HVr.out.2.ext X_) (HVs.out.2.ext X_) (cp_same _)))
          (OkL.cons (fun a w_ X_ h => g_not (wanted_some rfl rfl h.1) rfl h.2.1 rfl)
          (OkL.cons (fun a w_ X_ h => g_pick (wanted_none rfl) rfl h.1 h.2.1)
          OkL.nil))))))))))) ?_
      rintro W4 X4 _ rfl _ rfl _ rfl _ rfl _ rfl _ rfl _ rfl _ rfl _ rfl _ rfl _ rfl
      refine FinL.done ?_
      simp only [Act.put, List.setIfInBounds_toArray, List.set_cons_zero, List.set_cons_succ]
      replace HB := hide (Below.chain HB.out X4)
      replace HVr := hide (HVr.out.ext X4)
      replace HL := hide (HL.out.ext X4)
      clear X4 HVs
      obtain ⟨q0, q1, q2, q3⟩ := HVr.out.q
      have hl0 : (r.l.length : Int) = 0 := by have := HF.out; omega
      rw [HF.out] at q3
      go_wp2_with fail
      refine (awake_any _).mono ?_
      rintro e wk ⟨rfl, bk⟩
      replace HB := hide (Below.chain HB.out bk)
      clear bk
      go_wp2
      go_ret
      exact ⟨rfl, HB.out⟩
end Go.Proofs.Ytgadglpbbcapcaa
