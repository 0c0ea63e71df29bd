/- Set: as the page has it. -/
import Derived.Test.YtlfhppicglfinaaGreatTz
namespace Go.Proofs.YtlfhppicglfinaaGreat
set_option maxRecDepth 100000
open Go.RowKit
theorem h_rfix {t : Tm} {a : Option Addr} {c : Nat} {w : World} {v : Value} {M : Bool} (e : v = tv t a c) (hM : fixT t = M) (h : TAt w t a c) : Hands Tryz.prog 13 #[v] w (isv (.bool M)) := by
  subst e; subst hM
  exact (rFixed_any h).mono fun e w' ⟨he, hb⟩ => ⟨_, he, hb, rfl⟩
theorem h_rcmpM {a b : Tm} {a1 : Option Addr} {c1 : Nat} {a2 : Option Addr} {c2 : Nat} {w : World} {u v : Value} {M : Int} (eu : u = tv a a1 c1) (ev : v = tv b a2 c2) (ha : TAt w a a1 c1) (hb : TAt w b a2 c2) (hM : cp a b = M) : Hands Tryz.prog 24 #[u, v] w (isv (.int .i64 M)) := by
  subst hM
  exact h_rcmp eu ev ha hb
theorem h_rsameM {a b : Tm} {a1 : Option Addr} {c1 : Nat} {a2 : Option Addr} {c2 : Nat} {w : World} {u v : Value} {M : Bool} (eu : u = tv a a1 c1) (ev : v = tv b a2 c2) (ha : TAt w a a1 c1) (hb : TAt w b a2 c2) (hM : (cp a b == 0) = M) : Hands Tryz.prog 17 #[u, v] w (isv (.bool M)) := by
  subst hM
  exact h_rsame eu ev ha hb
theorem one_no {k0 : Int} {x : Tm} (h : fixT x = false ∨ x.k = 7 ∨ ¬ x.k = k0) : oneB k0 x = false := by
  unfold oneB
  rcases h with h | h | h
  · by_cases h7 : x.k = 7
    · simp [h7]
    · unfold fixT mayT at h
      rw [if_neg h7] at h
      unfold fixV
      rw [h]; simp
  · simp [h]
  · simp [h]
theorem one_ok {k0 : Int} {x : Tm} (h : fixT x = true) (h7 : ¬ x.k = 7) (hk : x.k = k0) : oneB k0 x = true := by
  unfold fixT mayT at h
  rw [if_neg h7] at h
  unfold oneB fixV
  rw [h]
  simp only [Bool.and_true, Bool.and_eq_true, Bool.not_eq_true', beq_iff_eq, beq_eq_false_iff_ne]
  exact ⟨h7, hk⟩
set_option maxRecDepth 100000 in
set_option maxHeartbeats 8000000 in
theorem rSet_any {l : List Tm} {ao : Option Addr} {c : Nat} {w : World} (h : LAt w l ao c) : Calls Tryz.prog 15 #[.slice ao l.length c] w (SetP l w) := by
  have b0 := alloc_below w (.cells #[.int .i64 0, .int .i64 0, .string ⟨#[]⟩, .slice none 0 0] 24)
  have r0 := heap_alloc_last w (.cells #[.int .i64 0, .int .i64 0, .string ⟨#[]⟩, .slice none 0 0] 24)
  have hm1 := h.1
  have hm2 := h.2.1
  have HL := hide h
  have HX := hide (And.intro b0 r0)
  clear b0 r0 h
  by_cases hn : l.length ≤ 16
  · have d1 : decide ((16 : Int) < (l.length : Int)) = false := decide_eq_false (by omega)
    go_enter Tryz.func15, Tryz.ntmps15
    go_wp2
    go_loopw [15] (fun i wr => ∃ (k : Nat) (zs : List Tm) (sa : Option Addr) (sc : Nat), k ≤ l.length ∧ i = .int .i64 (k : Int) ∧ RSt l w k zs sa sc wr) (fun i _ => l.length - (intOf i).toNat)
    case atStart =>
      have b1 := alloc_below (w.alloc (.cells #[.int .i64 0, .int .i64 0, .string ⟨#[]⟩, .slice none 0 0] 24)) (.cells #[.int .i64 7, .int .i64 0, .string ⟨#[]⟩, .slice none 0 0] 24)
      have r1 := heap_alloc_last (w.alloc (.cells #[.int .i64 0, .int .i64 0, .string ⟨#[]⟩, .slice none 0 0] 24)) (.cells #[.int .i64 7, .int .i64 0, .string ⟨#[]⟩, .slice none 0 0] 24)
      refine ⟨0, [], none, 0, Nat.zero_le _, rfl, ⟨Below.heap b1 (Array.getElem?_eq_some_iff.1 HX.out.2).1 HX.out.2, ?_, ⟨[], World.ownsRow_nil _ _ _ _, fun u hu => by simp at hu, TcAt.nil _⟩, ⟨fun j hj => by simp at hj, fun t => by simp, by simp⟩, fun j x hj => absurd hj (Nat.not_lt_zero j), Below.chain HX.out.1 b1⟩⟩
      rw [show w.heap.size + 1 = (w.alloc (.cells #[.int .i64 0, .int .i64 0, .string ⟨#[]⟩, .slice none 0 0] 24)).heap.size by simp]
      exact r1
    case round =>
      obtain ⟨k, zs, sa, sc, hk, rfl, hS⟩ := hrel
      by_cases hlt : k < l.length
      · obtain ⟨x, hx⟩ : ∃ x, l[k]? = some x := ⟨_, List.getElem?_eq_getElem hlt⟩
        obtain ⟨y, hy⟩ : ∃ y, l[0]? = some y := ⟨_, List.getElem?_eq_getElem (by omega)⟩
        obtain ⟨b, o, hao, hbb, hcs⟩ := HL.out.read (by omega)
        subst hao
        obtain ⟨xa, xc, hxt, hx4⟩ := hcs k x hx
        obtain ⟨ya, yc, hyt, hy4⟩ := hcs 0 y hy
        obtain ⟨p0, p1, p2, p3⟩ := hx4 wr hS.bel
        have hix := fun w_ => ix_terms w_ b o l.length c k hlt
        have bA := alloc_below wr (.cells #[.int .i64 x.k, .int .i64 x.n, .string x.s, .slice xa x.l.length xc] 24)
        have rA := heap_alloc_last wr (.cells #[.int .i64 x.k, .int .i64 x.n, .string x.s, .slice xa x.l.length xc] 24)
        have bB := Below.chain hS.bel bA
        have H6 := hide (And.intro rA (And.intro (hxt.ext bB) (And.intro (Nat.lt_of_lt_of_le hbb bB.size) (fun W (hW : Below (wr.alloc (.cells #[.int .i64 x.k, .int .i64 x.n, .string x.s, .slice xa x.l.length xc] 24)).heap.size (wr.alloc (.cells #[.int .i64 x.k, .int .i64 x.n, .string x.s, .slice xa x.l.length xc] 24)) W) => hy4 W (Below.chain bB hW)))))
        have HSA := hide (hS.ext bA)
        have HX0a := hide hx
        have hhd : (l.headD default).k = y.k := by rw [head_at hy]
        have HG := hide (show zs.length ≤ 16 by have := hS.set.2.2; rw [List.length_take] at this; omega)
        have hlt0 : 0 < l.length := by omega
        clear hcs hx4 hy4 hxt hyt bA rA bB hS hy hbb
        cases hfx : fixT x with
        | false =>
          have HV0 := hide (one_no (k0 := (l.headD default).k) (x := x) (.inl hfx))
          go_wp2_with fail
          refine wp_region_typed (tys := fun ix_ => List.getD [itp x xa xc, isv (tv x xa xc), isv (.bool false), isv (.bool true), isv (undef)] ix_ anyv) (pre := [(6, 0)])
            (plan := [([(6, 0)], 1), ([(19, 1)], 2), ([(20, 2)], 3), ([(21, 3)], 3), ([(22, 3)], 4), ([(22, 3)], 4), ([(22, 3)], 4), ([(22, 3)], 3), ([(26, 3)], 3), ([(27, 3)], 4), ([(27, 3)], 4), ([(27, 3)], 4), ([(27, 3)], 4), ([(27, 3)], 4), ([(27, 3)], 4), ([(27, 3)], 4), ([(27, 3)], 3)])
            (by kernel_rfl) 84 (by kernel_rfl) rfl ⟨itp_row H6.out.1, trivial⟩
              (OkL.cons (fun a w_ X_ h => g_ldt (wanted_none rfl) rfl h.1 rfl)
              (OkL.cons (fun a w_ X_ h => g_call1 (wanted_none rfl) (by kernel_rfl) rfl (h_rfix h.1 hfx (H6.out.2.1.ext X_)))
              (OkL.cons (fun a w_ X_ h => g_not (wanted_none rfl) rfl h.1 rfl)
              (OkL.cons (fun a w_ X_ h => g_move (wanted_none rfl) (.inl rfl) h.1)
              (OkL.cons (fun a w_ X_ h => g_skip rfl rfl h.1 rfl)
              (OkL.cons (fun a w_ X_ h => g_skip rfl rfl h.1 rfl)
              (OkL.cons (fun a w_ X_ h => g_skip rfl rfl h.1 rfl)
              (OkL.cons (fun a w_ X_ h => g_pick (wanted_none rfl) rfl h.1 rfl)
              (OkL.cons (fun a w_ X_ h => g_move (wanted_none rfl) (.inl rfl) h.1)
              (OkL.cons (fun a w_ X_ h => g_skip rfl rfl h.1 rfl)
              (OkL.cons (fun a w_ X_ h => g_skip rfl rfl h.1 rfl)
              (OkL.cons (fun a w_ X_ h => g_skip rfl rfl h.1 rfl)
              (OkL.cons (fun a w_ X_ h => g_skip rfl rfl h.1 rfl)
              (OkL.cons (fun a w_ X_ h => g_skip rfl rfl h.1 rfl)
              (OkL.cons (fun a w_ X_ h => g_skip rfl rfl h.1 rfl)
              (OkL.cons (fun a w_ X_ h => g_skip rfl rfl h.1 rfl)
              (OkL.cons (fun a w_ X_ h => g_pick (wanted_none rfl) rfl h.1 rfl)
              OkL.nil))))))))))))))))) ?_
          rintro w7 X7 _ rfl _ rfl _ rfl _ rfl _ rfl _ rfl _ rfl _ rfl _ rfl _ rfl _ rfl _ rfl _ rfl _ rfl _ rfl _ rfl _ rfl
          refine FinL.done ?_
          simp only [Act.put, List.setIfInBounds_toArray, List.set_cons_zero, List.set_cons_succ]
          have HV := hide (show fitB l = false from fit_no hx (by exact HV0.out))
          have v2 := Below.heap X7 (Array.getElem?_eq_some_iff.1 HSA.out.v2).1 HSA.out.v2
          have HB := hide (Below.chain HSA.out.bel X7)
          clear HSA H6 HX X7
          go_wp2_with (refine wpList_store_row rfl 24 (.tmp 2) (.tmp 36) rfl w.heap.size #[.int .i64 0, .int .i64 0, .string ⟨#[]⟩, .slice none 0 0] rfl rfl 24 #[.int .i64 0, .int .i64 0, .string ⟨#[]⟩, .slice none 0 0] v2 (by kernel_rfl) rfl (by kernel_rfl) ?_)
          refine bodyPost_ret_by (results_row_tmp rfl _ _ w.heap.size 24 _ (0, 0) _ rfl (setRow_heap _ _ _ _ _ _ v2) Tryz.underlying24 rfl (by kernel_rfl)) rfl ?_
          exact ⟨zt, none, 0, 1, rfl, zt_at _, ⟨fun e => absurd (HV.out.symm.trans e) (by decide), fun _ => ⟨rfl, rfl⟩⟩, Below.setRow HB.out _ _ (Nat.le_refl _)⟩
        | true =>
          by_cases h7 : x.k = 7
          · have HV0 := hide (one_no (k0 := (l.headD default).k) (x := x) (.inr (.inl h7)))
            have H7 := hide h7
            clear h7
            go_wp2_with fail
            refine wp_region_typed (tys := fun ix_ => List.getD [itp x xa xc, isv (tv x xa xc), isv (.bool true), isv (.bool false), icp (.int .i64 x.k), isv (.int .i64 x.k), isv (undef)] ix_ anyv) (pre := [(6, 0)])
              (plan := [([(6, 0)], 1), ([(19, 1)], 2), ([(20, 2)], 3), ([(21, 3)], 3), ([(22, 3), (6, 0)], 4), ([(22, 3), (23, 4)], 5), ([(22, 3), (24, 5)], 2), ([(22, 3), (25, 2)], 2), ([(26, 2)], 2), ([(27, 2)], 6), ([(27, 2)], 6), ([(27, 2)], 6), ([(27, 2)], 6), ([(27, 2)], 6), ([(27, 2)], 6), ([(27, 2)], 6), ([(27, 2)], 2)])
              (by kernel_rfl) 84 (by kernel_rfl) rfl ⟨itp_row H6.out.1, trivial⟩
                (OkL.cons (fun a w_ X_ h => g_ldt (wanted_none rfl) rfl h.1 rfl)
                (OkL.cons (fun a w_ X_ h => g_call1 (wanted_none rfl) (by kernel_rfl) rfl (h_rfix h.1 hfx (H6.out.2.1.ext X_)))
                (OkL.cons (fun a w_ X_ h => g_not (wanted_none rfl) rfl h.1 rfl)
                (OkL.cons (fun a w_ X_ h => g_move (wanted_none rfl) (.inl rfl) h.1)
                (OkL.cons (fun a w_ X_ h => g_fa0 (wanted_some rfl rfl h.1) rfl h.2.1)
                (OkL.cons (fun a w_ X_ h => g_ld3 (wanted_some rfl rfl h.1) rfl h.2.1 rfl)
                (OkL.cons (fun a w_ X_ h => g_cI (wanted_some rfl rfl h.1) rfl rfl h.2.1 rfl (decide_eq_true (H7.out)))
                (OkL.cons (fun a w_ X_ h => g_pick (wanted_none rfl) rfl h.1 h.2.1)
                (OkL.cons (fun a w_ X_ h => g_move (wanted_none rfl) (.inl rfl) h.1)
                (OkL.cons (fun a w_ X_ h => g_skip rfl rfl h.1 rfl)
                (OkL.cons (fun a w_ X_ h => g_skip rfl rfl h.1 rfl)
                (OkL.cons (fun a w_ X_ h => g_skip rfl rfl h.1 rfl)
                (OkL.cons (fun a w_ X_ h => g_skip rfl rfl h.1 rfl)
                (OkL.cons (fun a w_ X_ h => g_skip rfl rfl h.1 rfl)
                (OkL.cons (fun a w_ X_ h => g_skip rfl rfl h.1 rfl)
                (OkL.cons (fun a w_ X_ h => g_skip rfl rfl h.1 rfl)
                (OkL.cons (fun a w_ X_ h => g_pick (wanted_none rfl) rfl h.1 rfl)
                OkL.nil))))))))))))))))) ?_
            rintro w7 X7 _ rfl _ rfl _ rfl _ rfl v23 - _ rfl _ rfl _ rfl _ rfl _ rfl _ rfl _ rfl _ rfl _ rfl _ rfl _ rfl _ rfl
            refine FinL.done ?_
            simp only [Act.put, List.setIfInBounds_toArray, List.set_cons_zero, List.set_cons_succ]
            have HV := hide (show fitB l = false from fit_no hx (by exact HV0.out))
            have v2 := Below.heap X7 (Array.getElem?_eq_some_iff.1 HSA.out.v2).1 HSA.out.v2
            have HB := hide (Below.chain HSA.out.bel X7)
            clear HSA H6 HX X7
            go_wp2_with (refine wpList_store_row rfl 24 (.tmp 2) (.tmp 36) rfl w.heap.size #[.int .i64 0, .int .i64 0, .string ⟨#[]⟩, .slice none 0 0] rfl rfl 24 #[.int .i64 0, .int .i64 0, .string ⟨#[]⟩, .slice none 0 0] v2 (by kernel_rfl) rfl (by kernel_rfl) ?_)
            refine bodyPost_ret_by (results_row_tmp rfl _ _ w.heap.size 24 _ (0, 0) _ rfl (setRow_heap _ _ _ _ _ _ v2) Tryz.underlying24 rfl (by kernel_rfl)) rfl ?_
            exact ⟨zt, none, 0, 1, rfl, zt_at _, ⟨fun e => absurd (HV.out.symm.trans e) (by decide), fun _ => ⟨rfl, rfl⟩⟩, Below.setRow HB.out _ _ (Nat.le_refl _)⟩
          · have H7 := hide h7
            by_cases hky : x.k = y.k
            · have HX0 := hide (And.intro hx (one_ok (k0 := (l.headD default).k) hfx h7 (by rw [hhd]; exact hky)))
              have HK := hide hky
              clear hky h7
              go_wp2_with fail
              refine wp_region_typed (tys := fun ix_ => List.getD [itp x xa xc, isv (tv x xa xc), isv (.bool true), isv (.bool false), icp (.int .i64 x.k), isv (.int .i64 x.k), isv (.slice (some ⟨b, o, none⟩) (l.length) c), itp y ya yc, icp (.int .i64 y.k), isv (.int .i64 y.k)] ix_ anyv) (pre := [(0, 6), (6, 0)])
                (plan := [([(6, 0)], 1), ([(19, 1)], 2), ([(20, 2)], 3), ([(21, 3)], 3), ([(22, 3), (6, 0)], 4), ([(22, 3), (23, 4)], 5), ([(22, 3), (24, 5)], 3), ([(22, 3), (25, 3)], 3), ([(26, 3)], 3), ([(27, 3), (6, 0)], 4), ([(27, 3), (28, 4)], 5), ([(27, 3), (0, 6)], 6), ([(27, 3), (30, 6)], 7), ([(27, 3), (31, 7)], 8), ([(27, 3), (32, 8)], 9), ([(27, 3), (29, 5), (33, 9)], 3), ([(27, 3), (34, 3)], 3)])
                (by kernel_rfl) 84 (by kernel_rfl) rfl ⟨rfl, ⟨itp_row H6.out.1, trivial⟩⟩
                  (OkL.cons (fun a w_ X_ h => g_ldt (wanted_none rfl) rfl h.1 rfl)
                  (OkL.cons (fun a w_ X_ h => g_call1 (wanted_none rfl) (by kernel_rfl) rfl (h_rfix h.1 hfx (H6.out.2.1.ext X_)))
                  (OkL.cons (fun a w_ X_ h => g_not (wanted_none rfl) rfl h.1 rfl)
                  (OkL.cons (fun a w_ X_ h => g_move (wanted_none rfl) (.inl rfl) h.1)
                  (OkL.cons (fun a w_ X_ h => g_fa0 (wanted_some rfl rfl h.1) rfl h.2.1)
                  (OkL.cons (fun a w_ X_ h => g_ld3 (wanted_some rfl rfl h.1) rfl h.2.1 rfl)
                  (OkL.cons (fun a w_ X_ h => g_cI (wanted_some rfl rfl h.1) rfl rfl h.2.1 rfl (decide_eq_false (H7.out)))
                  (OkL.cons (fun a w_ X_ h => g_pick (wanted_none rfl) rfl h.1 h.2.1)
                  (OkL.cons (fun a w_ X_ h => g_move (wanted_none rfl) (.inl rfl) h.1)
                  (OkL.cons (fun a w_ X_ h => g_fa0 (wanted_some rfl rfl h.1) rfl h.2.1)
                  (OkL.cons (fun a w_ X_ h => g_ld3 (wanted_some rfl rfl h.1) rfl h.2.1 rfl)
                  (OkL.cons (fun a w_ X_ h => g_move (wanted_some rfl rfl h.1) (.inl rfl) h.2.1)
                  (OkL.cons (fun a w_ X_ h => g_ixt (wanted_some rfl rfl h.1) 0 rfl h.2.1 rfl (by omega) ((Nat.lt_of_lt_of_le H6.out.2.2.1 (Below.size X_))) ((H6.out.2.2.2 _ X_)))
                  (OkL.cons (fun a w_ X_ h => g_fa0 (wanted_some rfl rfl h.1) rfl h.2.1)
                  (OkL.cons (fun a w_ X_ h => g_ld3 (wanted_some rfl rfl h.1) rfl h.2.1 rfl)
                  (OkL.cons (fun a w_ X_ h => g_cI (wanted_some rfl rfl h.1) rfl rfl h.2.1 h.2.2.1 (neq_f (HK.out)))
                  (OkL.cons (fun a w_ X_ h => g_pick (wanted_none rfl) rfl h.1 h.2.1)
                  OkL.nil))))))))))))))))) ?_
              rintro w7 X7 _ rfl _ rfl _ rfl _ rfl v23 - _ rfl _ rfl _ rfl _ rfl v28 - _ rfl _ rfl v31 - v32 - _ rfl _ rfl _ rfl
              refine FinL.done ?_
              simp only [Act.put, List.setIfInBounds_toArray, List.set_cons_zero, List.set_cons_succ]
              have HS := hide (And.intro (HSA.out.ext X7) (And.intro (Below.heap X7 (Array.getElem?_eq_some_iff.1 H6.out.1).1 H6.out.1) (H6.out.2.1.ext X7)))
              clear HSA H6 HX X7 p0 p1 p2 p3 hix hx HX0a
              go_wp2
              generalize wr.heap.size = g6 at HS ⊢
              go_loopw [7] (fun i wq => ∃ j : Nat, j ≤ zs.length ∧ i = .int .i64 (j : Int) ∧ (∀ i, i < j → cp (gt zs i) x < 0) ∧ Below w7.heap.size w7 wq) (fun i _ => zs.length - (intOf i).toNat)
              case atStart => exact ⟨0, Nat.zero_le _, rfl, fun i h => absurd h (Nat.not_lt_zero i), Below.refl _ _⟩
              case round =>
                obtain ⟨j, hj, rfl, hlo, hB⟩ := hrel
                have HLO := hide hlo
                have hz16 : zs.length ≤ 16 := HG.out
                have hSq := HS.out.1.ext hB
                have h6q := Below.heap hB (Array.getElem?_eq_some_iff.1 HS.out.2.1).1 HS.out.2.1
                have htq := HS.out.2.2.ext hB
                by_cases hjl : j < zs.length
                · obtain ⟨z, hz⟩ : ∃ z, zs[j]? = some z := ⟨_, List.getElem?_eq_getElem hjl⟩
                  obtain ⟨zb, zo, hsa, hzb, hzs⟩ := hSq.lat.read (by omega)
                  obtain ⟨za, zc, hzt, hz4⟩ := hzs j z hz
                  have hSq0 := hSq
                  rw [hsa] at hSq
                  have HQ := hide (And.intro hSq (And.intro (And.intro h6q htq) (And.intro hzb (And.intro hz4 hzt))))
                  have HHB := hide hB
                  obtain ⟨CZ, hCZ⟩ : ∃ C, cp z x = C := ⟨_, rfl⟩
                  have hji : (j : Int) < (zs.length : Int) := by omega
                  clear hlo hSq0 h6q htq hzs hz4 hzt hB hSq
                  subst hsa
                  by_cases hcc : CZ < 0
                  · have HCC := hide hcc
                    clear hcc
                    go_wp2_with fail
                    refine wp_region_typed (tys := fun ix_ => List.getD [isv (.int .i64 (j : Int)), itp (Tm.mk 7 0 ⟨#[]⟩ zs) (some ⟨zb, zo, none⟩) sc, icp (.slice (some ⟨zb, zo, none⟩) (Tm.mk 7 0 ⟨#[]⟩ zs).l.length sc), isv (.slice (some ⟨zb, zo, none⟩) (zs.length) sc), isv (.int .i64 (zs.length : Int)), isv (.bool true), itp z za zc, isv (tv z za zc), itp x xa xc, isv (tv x xa xc), isv (.int .i64 CZ)] ix_ anyv) (pre := [(4, 1), (6, 8), (7, 0)])
                      (plan := [([(7, 0)], 0), ([(4, 1)], 2), ([(38, 2)], 3), ([(39, 3)], 4), ([(37, 0), (40, 4)], 5), ([(41, 5)], 5), ([(42, 5), (4, 1)], 2), ([(42, 5), (43, 2)], 3), ([(42, 5), (7, 0)], 0), ([(42, 5), (44, 3), (45, 0)], 6), ([(42, 5), (46, 6)], 7), ([(42, 5), (6, 8)], 9), ([(42, 5), (47, 7), (48, 9)], 10), ([(42, 5), (49, 10)], 5), ([(42, 5), (50, 5)], 5)])
                      (by kernel_rfl) 84 (by kernel_rfl) rfl ⟨itp_row (t := (Tm.mk 7 0 ⟨#[]⟩ zs)) HQ.out.1.v4, ⟨itp_row HQ.out.2.1.1, ⟨rfl, trivial⟩⟩⟩
                        (OkL.cons (fun a w_ X_ h => g_move (wanted_none rfl) (.inl rfl) h.1)
                        (OkL.cons (fun a w_ X_ h => g_fa3 (wanted_none rfl) rfl h.1)
                        (OkL.cons (fun a w_ X_ h => g_ld22 (wanted_none rfl) rfl h.1 rfl)
                        (OkL.cons (fun a w_ X_ h => g_lens (wanted_none rfl) rfl h.1 rfl)
                        (OkL.cons (fun a w_ X_ h => g_cI (wanted_none rfl) rfl rfl h.1 h.2.1 (decide_eq_true hji))
                        (OkL.cons (fun a w_ X_ h => g_move (wanted_none rfl) (.inl rfl) h.1)
                        (OkL.cons (fun a w_ X_ h => g_fa3 (wanted_some rfl rfl h.1) rfl h.2.1)
                        (OkL.cons (fun a w_ X_ h => g_ld22 (wanted_some rfl rfl h.1) rfl h.2.1 rfl)
                        (OkL.cons (fun a w_ X_ h => g_move (wanted_some rfl rfl h.1) (.inl rfl) h.2.1)
                        (OkL.cons (fun a w_ X_ h => g_ixt (wanted_some rfl rfl h.1) j rfl h.2.1 h.2.2.1 hjl ((Nat.lt_of_lt_of_le HQ.out.2.2.1 (Below.size X_))) ((HQ.out.2.2.2.1 _ X_)))
                        (OkL.cons (fun a w_ X_ h => g_ldt (wanted_some rfl rfl h.1) rfl h.2.1 rfl)
                        (OkL.cons (fun a w_ X_ h => g_ldt (wanted_some rfl rfl h.1) rfl h.2.1 rfl)
                        (OkL.cons (fun a w_ X_ h => g_call2 (wanted_some rfl rfl h.1) (by kernel_rfl) rfl (h_rcmpM h.2.1 h.2.2.1 (HQ.out.2.2.2.2.ext X_) (HQ.out.2.1.2.ext X_) hCZ))
                        (OkL.cons (fun a w_ X_ h => g_cI (wanted_some rfl rfl h.1) rfl rfl h.2.1 rfl (decide_eq_true (HCC.out)))
                        (OkL.cons (fun a w_ X_ h => g_pick (wanted_none rfl) rfl h.1 h.2.1)
                        OkL.nil))))))))))))))) ?_
                    rintro w8 X8 _ rfl v38 - _ rfl _ rfl _ rfl _ rfl v43 - _ rfl _ rfl v46 - _ rfl _ rfl _ rfl _ rfl _ rfl
                    refine FinL.done ?_
                    simp only [Act.put, List.setIfInBounds_toArray, List.set_cons_zero, List.set_cons_succ]
                    have HR := hide (And.intro (Below.chain HHB.out X8) (show ∀ i, i < j + 1 → cp (gt zs i) x < 0 from fun i hi => by
                      rcases Nat.lt_or_ge i j with h | h
                      · exact HLO.out i h
                      · have : i = j := by omega
                        subst this
                        rw [show gt zs i = z from getD_at hz, hCZ]; exact HCC.out))
                    clear X8 HHB HLO HQ
                    go_wp2
                    go_roundw
                    case rel => exact ⟨j + 1, by omega, by go_num, HR.out.2, HR.out.1⟩
                    case measure => simp [intOf]; omega
                  · have HCC := hide (Int.not_lt.1 hcc)
                    clear hcc
                    go_wp2_with fail
                    refine wp_region_typed (tys := fun ix_ => List.getD [isv (.int .i64 (j : Int)), itp (Tm.mk 7 0 ⟨#[]⟩ zs) (some ⟨zb, zo, none⟩) sc, icp (.slice (some ⟨zb, zo, none⟩) (Tm.mk 7 0 ⟨#[]⟩ zs).l.length sc), isv (.slice (some ⟨zb, zo, none⟩) (zs.length) sc), isv (.int .i64 (zs.length : Int)), isv (.bool true), itp z za zc, isv (tv z za zc), itp x xa xc, isv (tv x xa xc), isv (.int .i64 CZ), isv (.bool false)] ix_ anyv) (pre := [(4, 1), (6, 8), (7, 0)])
                      (plan := [([(7, 0)], 0), ([(4, 1)], 2), ([(38, 2)], 3), ([(39, 3)], 4), ([(37, 0), (40, 4)], 5), ([(41, 5)], 5), ([(42, 5), (4, 1)], 2), ([(42, 5), (43, 2)], 3), ([(42, 5), (7, 0)], 0), ([(42, 5), (44, 3), (45, 0)], 6), ([(42, 5), (46, 6)], 7), ([(42, 5), (6, 8)], 9), ([(42, 5), (47, 7), (48, 9)], 10), ([(42, 5), (49, 10)], 11), ([(42, 5), (50, 11)], 11)])
                      (by kernel_rfl) 84 (by kernel_rfl) rfl ⟨itp_row (t := (Tm.mk 7 0 ⟨#[]⟩ zs)) HQ.out.1.v4, ⟨itp_row HQ.out.2.1.1, ⟨rfl, trivial⟩⟩⟩
                        (OkL.cons (fun a w_ X_ h => g_move (wanted_none rfl) (.inl rfl) h.1)
                        (OkL.cons (fun a w_ X_ h => g_fa3 (wanted_none rfl) rfl h.1)
                        (OkL.cons (fun a w_ X_ h => g_ld22 (wanted_none rfl) rfl h.1 rfl)
                        (OkL.cons (fun a w_ X_ h => g_lens (wanted_none rfl) rfl h.1 rfl)
                        (OkL.cons (fun a w_ X_ h => g_cI (wanted_none rfl) rfl rfl h.1 h.2.1 (decide_eq_true hji))
                        (OkL.cons (fun a w_ X_ h => g_move (wanted_none rfl) (.inl rfl) h.1)
                        (OkL.cons (fun a w_ X_ h => g_fa3 (wanted_some rfl rfl h.1) rfl h.2.1)
                        (OkL.cons (fun a w_ X_ h => g_ld22 (wanted_some rfl rfl h.1) rfl h.2.1 rfl)
                        (OkL.cons (fun a w_ X_ h => g_move (wanted_some rfl rfl h.1) (.inl rfl) h.2.1)
                        (OkL.cons (fun a w_ X_ h => g_ixt (wanted_some rfl rfl h.1) j rfl h.2.1 h.2.2.1 hjl ((Nat.lt_of_lt_of_le HQ.out.2.2.1 (Below.size X_))) ((HQ.out.2.2.2.1 _ X_)))
                        (OkL.cons (fun a w_ X_ h => g_ldt (wanted_some rfl rfl h.1) rfl h.2.1 rfl)
                        (OkL.cons (fun a w_ X_ h => g_ldt (wanted_some rfl rfl h.1) rfl h.2.1 rfl)
                        (OkL.cons (fun a w_ X_ h => g_call2 (wanted_some rfl rfl h.1) (by kernel_rfl) rfl (h_rcmpM h.2.1 h.2.2.1 (HQ.out.2.2.2.2.ext X_) (HQ.out.2.1.2.ext X_) hCZ))
                        (OkL.cons (fun a w_ X_ h => g_cI (wanted_some rfl rfl h.1) rfl rfl h.2.1 rfl (decide_eq_false (Int.not_lt.2 HCC.out)))
                        (OkL.cons (fun a w_ X_ h => g_pick (wanted_none rfl) rfl h.1 h.2.1)
                        OkL.nil))))))))))))))) ?_
                    rintro w8 X8 _ rfl v38 - _ rfl _ rfl _ rfl _ rfl v43 - _ rfl _ rfl v46 - _ rfl _ rfl _ rfl _ rfl _ rfl
                    refine FinL.done ?_
                    simp only [Act.put, List.setIfInBounds_toArray, List.set_cons_zero, List.set_cons_succ]
                    replace HQ := hide (And.intro (HQ.out.1.ext X8) (And.intro (And.intro (Below.heap X8 (Array.getElem?_eq_some_iff.1 HQ.out.2.1.1).1 HQ.out.2.1.1) (HQ.out.2.1.2.ext X8)) (And.intro (Nat.lt_of_lt_of_le HQ.out.2.2.1 (Below.size X8)) (And.intro (fun W (hW : Below w8.heap.size w8 W) => HQ.out.2.2.2.1 W (Below.chain X8 hW)) (HQ.out.2.2.2.2.ext X8)))))
                    clear X8 HHB
                    cases hsm : (cp z x == 0) with
                    | true =>
                      go_wp2_with fail
                      refine wp_region_typed (tys := fun ix_ => List.getD [isv (.int .i64 (j : Int)), itp (Tm.mk 7 0 ⟨#[]⟩ zs) (some ⟨zb, zo, none⟩) sc, icp (.slice (some ⟨zb, zo, none⟩) (Tm.mk 7 0 ⟨#[]⟩ zs).l.length sc), isv (.slice (some ⟨zb, zo, none⟩) (zs.length) sc), isv (.int .i64 (zs.length : Int)), isv (.bool true), itp z za zc, isv (tv z za zc), itp x xa xc, isv (tv x xa xc)] ix_ anyv) (pre := [(4, 1), (6, 8), (7, 0)])
                        (plan := [([(7, 0)], 0), ([(4, 1)], 2), ([(55, 2)], 3), ([(56, 3)], 4), ([(54, 0), (57, 4)], 5), ([(58, 5)], 5), ([(59, 5), (4, 1)], 2), ([(59, 5), (60, 2)], 3), ([(59, 5), (7, 0)], 0), ([(59, 5), (61, 3), (62, 0)], 6), ([(59, 5), (63, 6)], 7), ([(59, 5), (6, 8)], 9), ([(59, 5), (64, 7), (65, 9)], 5), ([(59, 5), (66, 5)], 5)])
                        (by kernel_rfl) 84 (by kernel_rfl) rfl ⟨itp_row (t := (Tm.mk 7 0 ⟨#[]⟩ zs)) HQ.out.1.v4, ⟨itp_row HQ.out.2.1.1, ⟨rfl, trivial⟩⟩⟩
                          (OkL.cons (fun a w_ X_ h => g_move (wanted_none rfl) (.inl rfl) h.1)
                          (OkL.cons (fun a w_ X_ h => g_fa3 (wanted_none rfl) rfl h.1)
                          (OkL.cons (fun a w_ X_ h => g_ld22 (wanted_none rfl) rfl h.1 rfl)
                          (OkL.cons (fun a w_ X_ h => g_lens (wanted_none rfl) rfl h.1 rfl)
                          (OkL.cons (fun a w_ X_ h => g_cI (wanted_none rfl) rfl rfl h.1 h.2.1 (decide_eq_true hji))
                          (OkL.cons (fun a w_ X_ h => g_move (wanted_none rfl) (.inl rfl) h.1)
                          (OkL.cons (fun a w_ X_ h => g_fa3 (wanted_some rfl rfl h.1) rfl h.2.1)
                          (OkL.cons (fun a w_ X_ h => g_ld22 (wanted_some rfl rfl h.1) rfl h.2.1 rfl)
                          (OkL.cons (fun a w_ X_ h => g_move (wanted_some rfl rfl h.1) (.inl rfl) h.2.1)
                          (OkL.cons (fun a w_ X_ h => g_ixt (wanted_some rfl rfl h.1) j rfl h.2.1 h.2.2.1 hjl ((Nat.lt_of_lt_of_le HQ.out.2.2.1 (Below.size X_))) ((HQ.out.2.2.2.1 _ X_)))
                          (OkL.cons (fun a w_ X_ h => g_ldt (wanted_some rfl rfl h.1) rfl h.2.1 rfl)
                          (OkL.cons (fun a w_ X_ h => g_ldt (wanted_some rfl rfl h.1) rfl h.2.1 rfl)
                          (OkL.cons (fun a w_ X_ h => g_call2 (wanted_some rfl rfl h.1) (by kernel_rfl) rfl (h_rsameM h.2.1 h.2.2.1 (HQ.out.2.2.2.2.ext X_) (HQ.out.2.1.2.ext X_) hsm))
                          (OkL.cons (fun a w_ X_ h => g_pick (wanted_none rfl) rfl h.1 h.2.1)
                          OkL.nil)))))))))))))) ?_
                      rintro w9 X9 _ rfl v55 - _ rfl _ rfl _ rfl _ rfl v60 - _ rfl _ rfl v63 - _ rfl _ rfl _ rfl _ rfl
                      refine FinL.done ?_
                      simp only [Act.put, List.setIfInBounds_toArray, List.set_cons_zero, List.set_cons_succ]
                      have HR := hide (show RSt l w (k + 1) zs (some ⟨zb, zo, none⟩) sc w9 from
                        { HQ.out.1.ext X9 with
                          set := dup_set HX0.out.1 HQ.out.1.set (by
                            have e : z = x := flat_eq (HQ.out.1.flat z (List.mem_of_getElem? hz)) (one_flat HX0.out.2) (by simpa using hsm)
                            rw [← e]; exact List.mem_of_getElem? hz)
                          fit := fit_next HQ.out.1.fit HX0.out.1 HX0.out.2 })
                      clear X9 HQ HLO hz
                      go_wp2
                      go_roundw
                      case rel => exact ⟨k + 1, _, _, _, by omega, by go_num, HR.out⟩
                      case measure => simp [intOf]; omega
                    | false =>
                      go_wp2_with fail
                      refine wp_region_typed (tys := fun ix_ => List.getD [isv (.int .i64 (j : Int)), itp (Tm.mk 7 0 ⟨#[]⟩ zs) (some ⟨zb, zo, none⟩) sc, icp (.slice (some ⟨zb, zo, none⟩) (Tm.mk 7 0 ⟨#[]⟩ zs).l.length sc), isv (.slice (some ⟨zb, zo, none⟩) (zs.length) sc), isv (.int .i64 (zs.length : Int)), isv (.bool true), itp z za zc, isv (tv z za zc), itp x xa xc, isv (tv x xa xc), isv (.bool false)] ix_ anyv) (pre := [(4, 1), (6, 8), (7, 0)])
                        (plan := [([(7, 0)], 0), ([(4, 1)], 2), ([(55, 2)], 3), ([(56, 3)], 4), ([(54, 0), (57, 4)], 5), ([(58, 5)], 5), ([(59, 5), (4, 1)], 2), ([(59, 5), (60, 2)], 3), ([(59, 5), (7, 0)], 0), ([(59, 5), (61, 3), (62, 0)], 6), ([(59, 5), (63, 6)], 7), ([(59, 5), (6, 8)], 9), ([(59, 5), (64, 7), (65, 9)], 10), ([(59, 5), (66, 10)], 10)])
                        (by kernel_rfl) 84 (by kernel_rfl) rfl ⟨itp_row (t := (Tm.mk 7 0 ⟨#[]⟩ zs)) HQ.out.1.v4, ⟨itp_row HQ.out.2.1.1, ⟨rfl, trivial⟩⟩⟩
                          (OkL.cons (fun a w_ X_ h => g_move (wanted_none rfl) (.inl rfl) h.1)
                          (OkL.cons (fun a w_ X_ h => g_fa3 (wanted_none rfl) rfl h.1)
                          (OkL.cons (fun a w_ X_ h => g_ld22 (wanted_none rfl) rfl h.1 rfl)
                          (OkL.cons (fun a w_ X_ h => g_lens (wanted_none rfl) rfl h.1 rfl)
                          (OkL.cons (fun a w_ X_ h => g_cI (wanted_none rfl) rfl rfl h.1 h.2.1 (decide_eq_true hji))
                          (OkL.cons (fun a w_ X_ h => g_move (wanted_none rfl) (.inl rfl) h.1)
                          (OkL.cons (fun a w_ X_ h => g_fa3 (wanted_some rfl rfl h.1) rfl h.2.1)
                          (OkL.cons (fun a w_ X_ h => g_ld22 (wanted_some rfl rfl h.1) rfl h.2.1 rfl)
                          (OkL.cons (fun a w_ X_ h => g_move (wanted_some rfl rfl h.1) (.inl rfl) h.2.1)
                          (OkL.cons (fun a w_ X_ h => g_ixt (wanted_some rfl rfl h.1) j rfl h.2.1 h.2.2.1 hjl ((Nat.lt_of_lt_of_le HQ.out.2.2.1 (Below.size X_))) ((HQ.out.2.2.2.1 _ X_)))
                          (OkL.cons (fun a w_ X_ h => g_ldt (wanted_some rfl rfl h.1) rfl h.2.1 rfl)
                          (OkL.cons (fun a w_ X_ h => g_ldt (wanted_some rfl rfl h.1) rfl h.2.1 rfl)
                          (OkL.cons (fun a w_ X_ h => g_call2 (wanted_some rfl rfl h.1) (by kernel_rfl) rfl (h_rsameM h.2.1 h.2.2.1 (HQ.out.2.2.2.2.ext X_) (HQ.out.2.1.2.ext X_) hsm))
                          (OkL.cons (fun a w_ X_ h => g_pick (wanted_none rfl) rfl h.1 h.2.1)
                          OkL.nil)))))))))))))) ?_
                      rintro w9 X9 _ rfl v55 - _ rfl _ rfl _ rfl _ rfl v60 - _ rfl _ rfl v63 - _ rfl _ rfl _ rfl _ rfl
                      refine FinL.done ?_
                      simp only [Act.put, List.setIfInBounds_toArray, List.set_cons_zero, List.set_cons_succ]
                      have HF := hide (And.intro (HQ.out.1.ext X9) (And.intro (Below.heap X9 (Array.getElem?_eq_some_iff.1 HQ.out.2.1.1).1 HQ.out.2.1.1) (HQ.out.2.1.2.ext X9)))
                      have HI := hide (ins_set HX0.out.1 HF.out.1.set hj HLO.out (fun _ => by
                        rw [show gt zs j = z from getD_at hz]
                        exact ⟨fun h => Int.not_lt.2 HCC.out (hCZ ▸ h), by simpa using hsm⟩))
                      clear X9 HQ HLO hz
                      have l4 : w.heap.size + 1 < w9.heap.size := (Array.getElem?_eq_some_iff.1 HF.out.1.v4).1
                      have c3 : w9.cell? ⟨w.heap.size + 1, 3, none⟩ = some (.slice (some ⟨zb, zo, none⟩) zs.length sc) := ((row_reads HF.out.1.v4).1 3).trans rfl
                      have l6 : g6 < w9.heap.size := (Array.getElem?_eq_some_iff.1 HF.out.2.1).1
                      have HP := hide (And.intro HF.out.1 (And.intro l4 (And.intro c3 (And.intro l6 (And.intro (C4.of_row HF.out.2.1) HF.out.2.2)))))
                      have HN := hide (show j ≤ zs.length ∧ zs.length ≤ 16 from ⟨hj, HG.out⟩)
                      clear l4 c3 l6
                      go_wp2_with fail
                      refine wp_region_typed4s (tys := fun ix_ => List.getD [isv (.pointer (some ⟨(w.heap.size + 1), 0, none⟩)), isv (.pointer (some ⟨(w.heap.size + 1), 0 + 3, none⟩)), oldT w9 zs, isv (.int .i64 (j : Int)), oldT w9 (zs.take j), ownT w9 (zs.take j), isv (.pointer (some ⟨g6, 0, none⟩)), isv (tv x xa xc), ownT w9 ([x]), ownT w9 (zs.take j ++ ([x])), oldT w9 (zs.drop j), ownT w9 (zs.take j ++ ([x]) ++ (zs.drop j))] ix_ anyv) (pre := [(4, 0), (6, 6), (7, 3)])
                        (plan := [([(4, 0)], 1, []), ([(68, 1)], 2, []), ([(7, 3)], 3, []), ([(69, 2), (70, 3)], 4, []), ([(71, 4)], 5, []), ([(6, 6)], 7, []), ([(73, 7)], 8, []), ([(72, 5), (74, 8)], 9, [4, 6]), ([(4, 0)], 1, []), ([(76, 1)], 2, []), ([(7, 3)], 3, []), ([(77, 2), (78, 3)], 10, []), ([(75, 9), (79, 10)], 11, [4, 6, 7]), ([(4, 0)], 1, [])])
                        (Snoc.cons (Snoc.cons (Snoc.cons (Snoc.cons (Snoc.cons (Snoc.cons (Snoc.cons (Snoc.cons (Snoc.cons (Snoc.cons (Snoc.cons (Snoc.cons (Snoc.cons (Snoc.cons (Snoc.last _)))))))))))))))
                        (by kernel_rfl) [0, 1, 2, 3, 4, 6, 7, 10] 84 (by kernel_rfl) rfl
                        (fun c hc => by
                          have hc : c = 0 ∨ c = 1 ∨ c = 2 ∨ c = 3 ∨ c = 4 ∨ c = 6 ∨ c = 7 ∨ c = 10 := by simpa using hc
                          rcases hc with rfl | rfl | rfl | rfl | rfl | rfl | rfl | rfl
                          · exact isv_old _ _
                          · exact isv_old _ _
                          · exact oldT_old _ _
                          · exact isv_old _ _
                          · exact oldT_old _ _
                          · exact isv_old _ _
                          · exact isv_old _ _
                          · exact oldT_old _ _)
                        ⟨rfl, ⟨rfl, ⟨rfl, trivial⟩⟩⟩
                        (fun Q_ =>
                          (OkL2.cons (fun a w_ X_ h => g_fap (wanted_none rfl) rfl h.1)
                          (OkL2.cons (fun a w_ X_ h => g_ldl (wanted_none rfl) rfl h.1 ((Below.cell (p := ⟨w.heap.size + 1, 3, none⟩) X_ HP.out.2.1).trans HP.out.2.2.1) (oldT_mk HP.out.1.ts X_))
                          (OkL2.cons (fun a w_ X_ h => g_move (wanted_none rfl) (.inl rfl) h.1)
                          (OkL2.cons (fun a w_ X_ h => g_slTu (wanted_none rfl) j rfl h.1 h.2.1 (HN.out.1))
                          (OkL2.cons (fun a w_ X_ h => g_apN (wanted_none rfl) rfl X_ (oldT_cs h.1) (by have := HN.out.2; rw [List.length_take]; omega))
                          (OkL2.cons (fun a w_ X_ h => g_ldv (wanted_none rfl) rfl h.1 (Nat.lt_of_lt_of_le HP.out.2.2.2.1 (Below.size X_)) (HP.out.2.2.2.2.1.ext HP.out.2.2.2.1 X_) rfl)
                          (OkL2.cons (fun a w_ X_ h => g_oT1 (wanted_none rfl) rfl h.1 (HP.out.2.2.2.2.2) X_)
                          (OkL2.wcons (fun a w_ X_ h => g_apT (wanted_none rfl) rfl X_ h.1 (OwT.ts h.2.1) (by have := HN.out.2; rw [List.length_take, List.length_singleton]; omega))
                          (OkL2.cons (fun a w_ X_ h => g_fap (wanted_none rfl) rfl h.1)
                          (OkL2.cons (fun a w_ X_ h => g_ldl (wanted_none rfl) rfl h.1 ((Below.cell (p := ⟨w.heap.size + 1, 3, none⟩) X_ HP.out.2.1).trans HP.out.2.2.1) (oldT_mk HP.out.1.ts X_))
                          (OkL2.cons (fun a w_ X_ h => g_move (wanted_none rfl) (.inl rfl) h.1)
                          (OkL2.cons (fun a w_ X_ h => g_slTf (wanted_none rfl) j rfl h.1 h.2.1 (HN.out.1))
                          (OkL2.wcons (fun a w_ X_ h => g_apT (wanted_none rfl) rfl X_ h.1 (oldT_cs h.2.1) (by have := HN.out.2; rw [List.length_append, List.length_take, List.length_drop, List.length_singleton]; omega))
                          (OkL2.cons (fun a w_ X_ h => g_fap (wanted_none rfl) rfl h.1)
                          OkL2.nil))))))))))))))) ?_
                      rintro w13 X13 _ rfl v69 - _ rfl v71 - v72 - _ rfl v74 - v75 - _ rfl v77 - _ rfl v79 - v80 k80 _ rfl
                      refine FinL.done ?_
                      simp only [Act.put, List.setIfInBounds_toArray, List.set_cons_zero, List.set_cons_succ]
                      obtain ⟨qa, qc, hq, _⟩ := k80.at.lat
                      rw [hq] at k80 ⊢
                      have v4 := Below.heap k80.bel HP.out.2.1 HP.out.1.v4
                      have c4 := (row_reads v4).1 3
                      have f4 := (row_reads v4).2 3
                      simp only [List.getElem?_toArray, List.getElem?_cons_zero, List.getElem?_cons_succ] at c4
                      have HR := hide (RSt.put HP.out.1 k80 HI.out HX0.out.1 HX0.out.2)
                      clear k80 X13 v4 HP HF HI
                      generalize zs.take j ++ [x] ++ zs.drop j = ZS at HR ⊢
                      go_wp2
                      go_roundw
                      case rel => exact ⟨k + 1, _, _, _, by omega, by go_num, HR.out⟩
                      case measure => simp [intOf]; omega
                · have hje : (zs.length : Int) ≤ (j : Int) := by omega
                  have HQ := hide (And.intro hSq (And.intro h6q htq))
                  clear hlo h6q htq hB hSq
                  go_wp2_with fail
                  refine wp_region_typed (tys := fun ix_ => List.getD [isv (.int .i64 (j : Int)), itp (Tm.mk 7 0 ⟨#[]⟩ zs) sa sc, icp (.slice sa (Tm.mk 7 0 ⟨#[]⟩ zs).l.length sc), isv (.slice sa (zs.length) sc), isv (.int .i64 (zs.length : Int)), isv (.bool false), isv (undef)] ix_ anyv) (pre := [(4, 1), (7, 0)])
                    (plan := [([(7, 0)], 0), ([(4, 1)], 2), ([(38, 2)], 3), ([(39, 3)], 4), ([(37, 0), (40, 4)], 5), ([(41, 5)], 5), ([(42, 5)], 6), ([(42, 5)], 6), ([(42, 5)], 6), ([(42, 5)], 6), ([(42, 5)], 6), ([(42, 5)], 6), ([(42, 5)], 6), ([(42, 5)], 6), ([(42, 5)], 5)])
                    (by kernel_rfl) 84 (by kernel_rfl) rfl ⟨itp_row (t := (Tm.mk 7 0 ⟨#[]⟩ zs)) HQ.out.1.v4, ⟨rfl, trivial⟩⟩
                      (OkL.cons (fun a w_ X_ h => g_move (wanted_none rfl) (.inl rfl) h.1)
                      (OkL.cons (fun a w_ X_ h => g_fa3 (wanted_none rfl) rfl h.1)
                      (OkL.cons (fun a w_ X_ h => g_ld22 (wanted_none rfl) rfl h.1 rfl)
                      (OkL.cons (fun a w_ X_ h => g_lens (wanted_none rfl) rfl h.1 rfl)
                      (OkL.cons (fun a w_ X_ h => g_cI (wanted_none rfl) rfl rfl h.1 h.2.1 (decide_eq_false (Int.not_lt.2 hje)))
                      (OkL.cons (fun a w_ X_ h => g_move (wanted_none rfl) (.inl rfl) h.1)
                      (OkL.cons (fun a w_ X_ h => g_skip rfl rfl h.1 rfl)
                      (OkL.cons (fun a w_ X_ h => g_skip rfl rfl h.1 rfl)
                      (OkL.cons (fun a w_ X_ h => g_skip rfl rfl h.1 rfl)
                      (OkL.cons (fun a w_ X_ h => g_skip rfl rfl h.1 rfl)
                      (OkL.cons (fun a w_ X_ h => g_skip rfl rfl h.1 rfl)
                      (OkL.cons (fun a w_ X_ h => g_skip rfl rfl h.1 rfl)
                      (OkL.cons (fun a w_ X_ h => g_skip rfl rfl h.1 rfl)
                      (OkL.cons (fun a w_ X_ h => g_skip rfl rfl h.1 rfl)
                      (OkL.cons (fun a w_ X_ h => g_pick (wanted_none rfl) rfl h.1 rfl)
                      OkL.nil))))))))))))))) ?_
                  rintro w8 X8 _ rfl v38 - _ rfl _ rfl _ rfl _ rfl _ rfl _ rfl _ rfl _ rfl _ rfl _ rfl _ rfl _ rfl _ rfl
                  refine FinL.done ?_
                  simp only [Act.put, List.setIfInBounds_toArray, List.set_cons_zero, List.set_cons_succ]
                  replace HQ := hide (And.intro (HQ.out.1.ext X8) (And.intro (And.intro (Below.heap X8 (Array.getElem?_eq_some_iff.1 HQ.out.2.1).1 HQ.out.2.1) (HQ.out.2.2.ext X8)) trivial))
                  clear X8
                  go_wp2_with fail
                  refine wp_region_typed (tys := fun ix_ => List.getD [isv (.int .i64 (j : Int)), itp (Tm.mk 7 0 ⟨#[]⟩ zs) sa sc, icp (.slice sa (Tm.mk 7 0 ⟨#[]⟩ zs).l.length sc), isv (.slice sa (zs.length) sc), isv (.int .i64 (zs.length : Int)), isv (.bool false), isv (undef)] ix_ anyv) (pre := [(4, 1), (7, 0)])
                    (plan := [([(7, 0)], 0), ([(4, 1)], 2), ([(55, 2)], 3), ([(56, 3)], 4), ([(54, 0), (57, 4)], 5), ([(58, 5)], 5), ([(59, 5)], 6), ([(59, 5)], 6), ([(59, 5)], 6), ([(59, 5)], 6), ([(59, 5)], 6), ([(59, 5)], 6), ([(59, 5)], 6), ([(59, 5)], 5)])
                    (by kernel_rfl) 84 (by kernel_rfl) rfl ⟨itp_row (t := (Tm.mk 7 0 ⟨#[]⟩ zs)) HQ.out.1.v4, ⟨rfl, trivial⟩⟩
                      (OkL.cons (fun a w_ X_ h => g_move (wanted_none rfl) (.inl rfl) h.1)
                      (OkL.cons (fun a w_ X_ h => g_fa3 (wanted_none rfl) rfl h.1)
                      (OkL.cons (fun a w_ X_ h => g_ld22 (wanted_none rfl) rfl h.1 rfl)
                      (OkL.cons (fun a w_ X_ h => g_lens (wanted_none rfl) rfl h.1 rfl)
                      (OkL.cons (fun a w_ X_ h => g_cI (wanted_none rfl) rfl rfl h.1 h.2.1 (decide_eq_false (Int.not_lt.2 hje)))
                      (OkL.cons (fun a w_ X_ h => g_move (wanted_none rfl) (.inl rfl) h.1)
                      (OkL.cons (fun a w_ X_ h => g_skip rfl rfl h.1 rfl)
                      (OkL.cons (fun a w_ X_ h => g_skip rfl rfl h.1 rfl)
                      (OkL.cons (fun a w_ X_ h => g_skip rfl rfl h.1 rfl)
                      (OkL.cons (fun a w_ X_ h => g_skip rfl rfl h.1 rfl)
                      (OkL.cons (fun a w_ X_ h => g_skip rfl rfl h.1 rfl)
                      (OkL.cons (fun a w_ X_ h => g_skip rfl rfl h.1 rfl)
                      (OkL.cons (fun a w_ X_ h => g_skip rfl rfl h.1 rfl)
                      (OkL.cons (fun a w_ X_ h => g_pick (wanted_none rfl) rfl h.1 rfl)
                      OkL.nil)))))))))))))) ?_
                  rintro w9 X9 _ rfl v55 - _ rfl _ rfl _ rfl _ rfl _ rfl _ rfl _ rfl _ rfl _ rfl _ rfl _ rfl _ rfl
                  refine FinL.done ?_
                  simp only [Act.put, List.setIfInBounds_toArray, List.set_cons_zero, List.set_cons_succ]
                  have HF := hide (And.intro (HQ.out.1.ext X9) (And.intro (Below.heap X9 (Array.getElem?_eq_some_iff.1 HQ.out.2.1.1).1 HQ.out.2.1.1) (HQ.out.2.1.2.ext X9)))
                  have HI := hide (ins_set HX0.out.1 HF.out.1.set hj HLO.out (fun h => absurd h hjl))
                  clear X9 HQ HLO
                  have l4 : w.heap.size + 1 < w9.heap.size := (Array.getElem?_eq_some_iff.1 HF.out.1.v4).1
                  have c3 : w9.cell? ⟨w.heap.size + 1, 3, none⟩ = some (.slice sa zs.length sc) := ((row_reads HF.out.1.v4).1 3).trans rfl
                  have l6 : g6 < w9.heap.size := (Array.getElem?_eq_some_iff.1 HF.out.2.1).1
                  have HP := hide (And.intro HF.out.1 (And.intro l4 (And.intro c3 (And.intro l6 (And.intro (C4.of_row HF.out.2.1) HF.out.2.2)))))
                  have HN := hide (show j ≤ zs.length ∧ zs.length ≤ 16 from ⟨hj, HG.out⟩)
                  clear l4 c3 l6
                  go_wp2_with fail
                  refine wp_region_typed4s (tys := fun ix_ => List.getD [isv (.pointer (some ⟨(w.heap.size + 1), 0, none⟩)), isv (.pointer (some ⟨(w.heap.size + 1), 0 + 3, none⟩)), oldT w9 zs, isv (.int .i64 (j : Int)), oldT w9 (zs.take j), ownT w9 (zs.take j), isv (.pointer (some ⟨g6, 0, none⟩)), isv (tv x xa xc), ownT w9 ([x]), ownT w9 (zs.take j ++ ([x])), oldT w9 (zs.drop j), ownT w9 (zs.take j ++ ([x]) ++ (zs.drop j))] ix_ anyv) (pre := [(4, 0), (6, 6), (7, 3)])
                    (plan := [([(4, 0)], 1, []), ([(68, 1)], 2, []), ([(7, 3)], 3, []), ([(69, 2), (70, 3)], 4, []), ([(71, 4)], 5, []), ([(6, 6)], 7, []), ([(73, 7)], 8, []), ([(72, 5), (74, 8)], 9, [4, 6]), ([(4, 0)], 1, []), ([(76, 1)], 2, []), ([(7, 3)], 3, []), ([(77, 2), (78, 3)], 10, []), ([(75, 9), (79, 10)], 11, [4, 6, 7]), ([(4, 0)], 1, [])])
                    (Snoc.cons (Snoc.cons (Snoc.cons (Snoc.cons (Snoc.cons (Snoc.cons (Snoc.cons (Snoc.cons (Snoc.cons (Snoc.cons (Snoc.cons (Snoc.cons (Snoc.cons (Snoc.cons (Snoc.last _)))))))))))))))
                    (by kernel_rfl) [0, 1, 2, 3, 4, 6, 7, 10] 84 (by kernel_rfl) rfl
                    (fun c hc => by
                      have hc : c = 0 ∨ c = 1 ∨ c = 2 ∨ c = 3 ∨ c = 4 ∨ c = 6 ∨ c = 7 ∨ c = 10 := by simpa using hc
                      rcases hc with rfl | rfl | rfl | rfl | rfl | rfl | rfl | rfl
                      · exact isv_old _ _
                      · exact isv_old _ _
                      · exact oldT_old _ _
                      · exact isv_old _ _
                      · exact oldT_old _ _
                      · exact isv_old _ _
                      · exact isv_old _ _
                      · exact oldT_old _ _)
                    ⟨rfl, ⟨rfl, ⟨rfl, trivial⟩⟩⟩
                    (fun Q_ =>
                      (OkL2.cons (fun a w_ X_ h => g_fap (wanted_none rfl) rfl h.1)
                      (OkL2.cons (fun a w_ X_ h => g_ldl (wanted_none rfl) rfl h.1 ((Below.cell (p := ⟨w.heap.size + 1, 3, none⟩) X_ HP.out.2.1).trans HP.out.2.2.1) (oldT_mk HP.out.1.ts X_))
                      (OkL2.cons (fun a w_ X_ h => g_move (wanted_none rfl) (.inl rfl) h.1)
                      (OkL2.cons (fun a w_ X_ h => g_slTu (wanted_none rfl) j rfl h.1 h.2.1 (HN.out.1))
                      (OkL2.cons (fun a w_ X_ h => g_apN (wanted_none rfl) rfl X_ (oldT_cs h.1) (by have := HN.out.2; rw [List.length_take]; omega))
                      (OkL2.cons (fun a w_ X_ h => g_ldv (wanted_none rfl) rfl h.1 (Nat.lt_of_lt_of_le HP.out.2.2.2.1 (Below.size X_)) (HP.out.2.2.2.2.1.ext HP.out.2.2.2.1 X_) rfl)
                      (OkL2.cons (fun a w_ X_ h => g_oT1 (wanted_none rfl) rfl h.1 (HP.out.2.2.2.2.2) X_)
                      (OkL2.wcons (fun a w_ X_ h => g_apT (wanted_none rfl) rfl X_ h.1 (OwT.ts h.2.1) (by have := HN.out.2; rw [List.length_take, List.length_singleton]; omega))
                      (OkL2.cons (fun a w_ X_ h => g_fap (wanted_none rfl) rfl h.1)
                      (OkL2.cons (fun a w_ X_ h => g_ldl (wanted_none rfl) rfl h.1 ((Below.cell (p := ⟨w.heap.size + 1, 3, none⟩) X_ HP.out.2.1).trans HP.out.2.2.1) (oldT_mk HP.out.1.ts X_))
                      (OkL2.cons (fun a w_ X_ h => g_move (wanted_none rfl) (.inl rfl) h.1)
                      (OkL2.cons (fun a w_ X_ h => g_slTf (wanted_none rfl) j rfl h.1 h.2.1 (HN.out.1))
                      (OkL2.wcons (fun a w_ X_ h => g_apT (wanted_none rfl) rfl X_ h.1 (oldT_cs h.2.1) (by have := HN.out.2; rw [List.length_append, List.length_take, List.length_drop, List.length_singleton]; omega))
                      (OkL2.cons (fun a w_ X_ h => g_fap (wanted_none rfl) rfl h.1)
                      OkL2.nil))))))))))))))) ?_
                  rintro w13 X13 _ rfl v69 - _ rfl v71 - v72 - _ rfl v74 - v75 - _ rfl v77 - _ rfl v79 - v80 k80 _ rfl
                  refine FinL.done ?_
                  simp only [Act.put, List.setIfInBounds_toArray, List.set_cons_zero, List.set_cons_succ]
                  obtain ⟨qa, qc, hq, _⟩ := k80.at.lat
                  rw [hq] at k80 ⊢
                  have v4 := Below.heap k80.bel HP.out.2.1 HP.out.1.v4
                  have c4 := (row_reads v4).1 3
                  have f4 := (row_reads v4).2 3
                  simp only [List.getElem?_toArray, List.getElem?_cons_zero, List.getElem?_cons_succ] at c4
                  have HR := hide (RSt.put HP.out.1 k80 HI.out HX0.out.1 HX0.out.2)
                  clear k80 X13 v4 HP HF HI
                  generalize zs.take j ++ [x] ++ zs.drop j = ZS at HR ⊢
                  go_wp2
                  go_roundw
                  case rel => exact ⟨k + 1, _, _, _, by omega, by go_num, HR.out⟩
                  case measure => simp [intOf]; omega
            · have HV0 := hide (one_no (k0 := (l.headD default).k) (x := x) (.inr (.inr (by rw [hhd]; exact hky))))
              have HK := hide hky
              clear hky h7
              go_wp2_with fail
              refine wp_region_typed (tys := fun ix_ => List.getD [itp x xa xc, isv (tv x xa xc), isv (.bool true), isv (.bool false), icp (.int .i64 x.k), isv (.int .i64 x.k), isv (.slice (some ⟨b, o, none⟩) (l.length) c), itp y ya yc, icp (.int .i64 y.k), isv (.int .i64 y.k)] ix_ anyv) (pre := [(0, 6), (6, 0)])
                (plan := [([(6, 0)], 1), ([(19, 1)], 2), ([(20, 2)], 3), ([(21, 3)], 3), ([(22, 3), (6, 0)], 4), ([(22, 3), (23, 4)], 5), ([(22, 3), (24, 5)], 3), ([(22, 3), (25, 3)], 3), ([(26, 3)], 3), ([(27, 3), (6, 0)], 4), ([(27, 3), (28, 4)], 5), ([(27, 3), (0, 6)], 6), ([(27, 3), (30, 6)], 7), ([(27, 3), (31, 7)], 8), ([(27, 3), (32, 8)], 9), ([(27, 3), (29, 5), (33, 9)], 2), ([(27, 3), (34, 2)], 2)])
                (by kernel_rfl) 84 (by kernel_rfl) rfl ⟨rfl, ⟨itp_row H6.out.1, trivial⟩⟩
                  (OkL.cons (fun a w_ X_ h => g_ldt (wanted_none rfl) rfl h.1 rfl)
                  (OkL.cons (fun a w_ X_ h => g_call1 (wanted_none rfl) (by kernel_rfl) rfl (h_rfix h.1 hfx (H6.out.2.1.ext X_)))
                  (OkL.cons (fun a w_ X_ h => g_not (wanted_none rfl) rfl h.1 rfl)
                  (OkL.cons (fun a w_ X_ h => g_move (wanted_none rfl) (.inl rfl) h.1)
                  (OkL.cons (fun a w_ X_ h => g_fa0 (wanted_some rfl rfl h.1) rfl h.2.1)
                  (OkL.cons (fun a w_ X_ h => g_ld3 (wanted_some rfl rfl h.1) rfl h.2.1 rfl)
                  (OkL.cons (fun a w_ X_ h => g_cI (wanted_some rfl rfl h.1) rfl rfl h.2.1 rfl (decide_eq_false (H7.out)))
                  (OkL.cons (fun a w_ X_ h => g_pick (wanted_none rfl) rfl h.1 h.2.1)
                  (OkL.cons (fun a w_ X_ h => g_move (wanted_none rfl) (.inl rfl) h.1)
                  (OkL.cons (fun a w_ X_ h => g_fa0 (wanted_some rfl rfl h.1) rfl h.2.1)
                  (OkL.cons (fun a w_ X_ h => g_ld3 (wanted_some rfl rfl h.1) rfl h.2.1 rfl)
                  (OkL.cons (fun a w_ X_ h => g_move (wanted_some rfl rfl h.1) (.inl rfl) h.2.1)
                  (OkL.cons (fun a w_ X_ h => g_ixt (wanted_some rfl rfl h.1) 0 rfl h.2.1 rfl (by omega) ((Nat.lt_of_lt_of_le H6.out.2.2.1 (Below.size X_))) ((H6.out.2.2.2 _ X_)))
                  (OkL.cons (fun a w_ X_ h => g_fa0 (wanted_some rfl rfl h.1) rfl h.2.1)
                  (OkL.cons (fun a w_ X_ h => g_ld3 (wanted_some rfl rfl h.1) rfl h.2.1 rfl)
                  (OkL.cons (fun a w_ X_ h => g_cI (wanted_some rfl rfl h.1) rfl rfl h.2.1 h.2.2.1 (neq_t (HK.out)))
                  (OkL.cons (fun a w_ X_ h => g_pick (wanted_none rfl) rfl h.1 h.2.1)
                  OkL.nil))))))))))))))))) ?_
              rintro w7 X7 _ rfl _ rfl _ rfl _ rfl v23 - _ rfl _ rfl _ rfl _ rfl v28 - _ rfl _ rfl v31 - v32 - _ rfl _ rfl _ rfl
              refine FinL.done ?_
              simp only [Act.put, List.setIfInBounds_toArray, List.set_cons_zero, List.set_cons_succ]
              have HV := hide (show fitB l = false from fit_no hx (by exact HV0.out))
              have v2 := Below.heap X7 (Array.getElem?_eq_some_iff.1 HSA.out.v2).1 HSA.out.v2
              have HB := hide (Below.chain HSA.out.bel X7)
              clear HSA H6 HX X7
              go_wp2_with (refine wpList_store_row rfl 24 (.tmp 2) (.tmp 36) rfl w.heap.size #[.int .i64 0, .int .i64 0, .string ⟨#[]⟩, .slice none 0 0] rfl rfl 24 #[.int .i64 0, .int .i64 0, .string ⟨#[]⟩, .slice none 0 0] v2 (by kernel_rfl) rfl (by kernel_rfl) ?_)
              refine bodyPost_ret_by (results_row_tmp rfl _ _ w.heap.size 24 _ (0, 0) _ rfl (setRow_heap _ _ _ _ _ _ v2) Tryz.underlying24 rfl (by kernel_rfl)) rfl ?_
              exact ⟨zt, none, 0, 1, rfl, zt_at _, ⟨fun e => absurd (HV.out.symm.trans e) (by decide), fun _ => ⟨rfl, rfl⟩⟩, Below.setRow HB.out _ _ (Nat.le_refl _)⟩
      · have hke : k = l.length := by omega
        subst hke
        have hfit : fitB l = true := fit_yes hn (fun j x hj hx => hS.fit j x hj hx)
        have HZ := hide (And.intro hS hfit)
        have v4 := hS.v4
        have v2 := hS.v2
        have c := (row_reads v4).1
        have c0 := c 0
        have c1 := c 1
        have c2 := c 2
        have c3 := c 3
        simp only [List.getElem?_toArray, List.getElem?_cons_zero, List.getElem?_cons_succ] at c0 c1 c2 c3
        have d5 : decide ((l.length : Int) < (l.length : Int)) = false := decide_eq_false (by omega)
        clear hS c v4 hfit
        go_wp2_with (refine wpList_store_row rfl 24 (.tmp 2) (.tmp 83) rfl w.heap.size #[.int .i64 7, .int .i64 0, .string ⟨#[]⟩, .slice sa zs.length sc] rfl rfl 24 #[.int .i64 0, .int .i64 0, .string ⟨#[]⟩, .slice none 0 0] v2 (by kernel_rfl) rfl (by kernel_rfl) ?_)
        refine bodyPost_ret_by (results_row_tmp rfl _ _ w.heap.size 24 _ (0, 0) _ rfl (setRow_heap _ _ _ _ _ _ v2) Tryz.underlying24 rfl (by kernel_rfl)) rfl ?_
        have hset := HZ.out.1.set
        rw [List.take_length] at hset
        obtain ⟨xs, r1, r2, r3⟩ := HZ.out.1.row
        refine ⟨.mk 7 0 ⟨#[]⟩ zs, sa, sc, 0, rfl, ?_, ⟨fun _ => ⟨rfl, zs, rfl, hset, fun z hz => ?_⟩, fun e => absurd (HZ.out.2.symm.trans e) (by decide)⟩, Below.setRow HZ.out.1.bel _ _ (Nat.le_refl _)⟩
        · have hts : TsAt (wr.setRow w.heap.size #[.int .i64 7, .int .i64 0, .string ⟨#[]⟩, .slice sa zs.length sc]) (.slice sa zs.length sc) zs := ⟨xs, row_cs (row_set r1 (by omega) _) r2, r3.flat HZ.out.1.flat⟩
          obtain ⟨qa, qc, e, hL⟩ := hts.lat
          injection e with e1 _ e2
          rw [← e1, ← e2] at hL
          exact set_at hL
        · obtain ⟨i, hi, rfl⟩ := List.getElem_of_mem hz
          obtain ⟨q1, q2, _, _, _, _, q3⟩ := r3.2 i _ (List.getElem?_eq_getElem hi)
          exact q3.fits.flat (HZ.out.1.flat _ hz)
  · have d1 : decide ((16 : Int) < (l.length : Int)) = true := decide_eq_true (by omega)
    have hf : fitB l = false := by unfold fitB; simp [hn]
    clear hn
    go_enter Tryz.func15, Tryz.ntmps15
    go_wp2_with (refine wpList_store_row rfl 24 (.tmp 2) (.tmp 11) rfl w.heap.size #[.int .i64 0, .int .i64 0, .string ⟨#[]⟩, .slice none 0 0] rfl rfl 24 #[.int .i64 0, .int .i64 0, .string ⟨#[]⟩, .slice none 0 0] HX.out.2 (by kernel_rfl) rfl (by kernel_rfl) ?_)
    refine bodyPost_ret_by (results_row_tmp rfl _ _ w.heap.size 24 _ (0, 0) _ rfl (setRow_heap _ _ _ _ _ _ HX.out.2) Tryz.underlying24 rfl (by kernel_rfl)) rfl ?_
    exact ⟨zt, none, 0, 1, rfl, zt_at _, ⟨fun e => absurd (hf.symm.trans e) (by decide), fun _ => ⟨rfl, rfl⟩⟩, Below.setRow HX.out.1 _ _ (Nat.le_refl _)⟩
end Go.Proofs.YtlfhppicglfinaaGreat
