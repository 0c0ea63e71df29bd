/- Keys and signatures are as the page has them: the law SignForms answers true for all bytes, in any world where the variables lie as the program's text lays them. -/
import Derived.Test.YtobgimpkkjaolaaGreatDoorSp3
import Derived.Test.YtobgimpkkjaolaaGreatDoorSg6
namespace Go.Proofs.YtobgimpkkjaolaaGreatDoor
open Go.RowKit
theorem h_pub {v : Value} {l : List Nat} {w : World} (h : BsAt w v l) (LDi : LaidW 2 exw w) (ht : Sh.Tabs w) : Hands Tryz.prog 7 #[v] w (isb (pubB l)) :=
  (Public_any h LDi ht).mono fun _ _ ⟨v, he, ho, hb⟩ => ⟨v, he, hb, ho.at⟩
theorem h_sign {v mv : Value} {l m : List Nat} {w : World} (h : BsAt w v l) (hmv : BsAt w mv m) (hm : m.length ≤ 1000000) (LDi : LaidW 2 exw w) (ht : Sh.Tabs w) (hL : Sc.Laid w) : Hands Tryz.prog 9 #[v, mv] w (isb (sigB l m)) :=
  (Sign_any h hmv hm LDi ht hL).mono fun _ _ ⟨v, he, ho, hb⟩ => ⟨v, he, hb, ho.at⟩
set_option linter.unusedSimpArgs false in
set_option maxRecDepth 100000 in
set_option maxHeartbeats 4000000 in
theorem forms_in {u v : Value} {l m : List Nat} {w : World} (h : BsAt w u l) (hv : BsAt w v m) (hl : l.length ≤ 100) (hm : m.length ≤ 500) (LDi : LaidW 2 exw w) (ht : Sh.Tabs w) (hL : Sc.Laid w) :
    Calls Tryz.prog 3 #[u, v] w fun e w' => e = .returned (.bool true) ∧ Below w.heap.size w w' := by
  have HM : Hid (m.length ≤ 1000000) := by show _ ≤ _; omega
  replace LDi := hide LDi
  have HT := hide ht
  have HO := hide hL
  have H0 := hide h
  have H1 := hide hv
  obtain ⟨ao, c, rfl, _, _⟩ := h.len
  obtain ⟨am, cm, rfl, _, _⟩ := hv.len
  have d0 : decide ((100 : Int) < (l.length : Int)) = false := decide_eq_false (by omega)
  have d1 : decide ((500 : Int) < (m.length : Int)) = false := decide_eq_false (by omega)
  have BEL := hide (Below.refl w.heap.size w)
  have SZ := hide BEL.out.size
  clear h hv hl hm ht hL
  go_enter Tryz.func3, Tryz.ntmps3
  go_upto_region 3 with fail
  refine wp_region_typed3 (tl := [isb l, isb (pubB l), isv (.string (sob (pubB l))), isv (.bool true), isb m, isb (sigB l m), isv (.string (sob (sigB l m)))]) (pre := [(0, 0), (1, 4)])
    (plan := (Pk.val [(0, 0)] 0 :: Pk.val [(14, 0)] 1 :: Pk.val [(15, 1)] 2 :: Pk.val [(0, 0)] 0 :: Pk.val [(17, 0)] 1 :: Pk.val [(18, 1)] 2 :: Pk.val [(16, 2), (19, 2)] 3 :: Pk.val [(20, 3)] 3 :: Pk.val [(21, 3), (0, 0)] 0 :: Pk.val [(21, 3), (1, 4)] 4 :: Pk.val [(21, 3), (22, 0), (23, 4)] 5 :: Pk.val [(21, 3), (24, 5)] 6 :: Pk.val [(21, 3), (0, 0)] 0 :: Pk.val [(21, 3), (1, 4)] 4 :: Pk.val [(21, 3), (26, 0), (27, 4)] 5 :: Pk.val [(21, 3), (28, 5)] 6 :: Pk.val [(21, 3), (25, 6), (29, 6)] 3 :: Pk.val [(21, 3), (30, 3)] 3 :: Pk.val [(31, 3)] 3 :: Pk.val [(32, 3)] 3 :: Pk.val [(32, 3), (33, 3)] 3 :: Pk.val [(34, 3)] 3 :: []))
    [0, 1, 4, 5] [] [] (by kernel_rfl) 35 (by kernel_rfl) rfl (by kernel_rfl) ⟨.inl rfl, ⟨.inl rfl, ⟨.inr (lull_isv _ _ _), ⟨.inr (lull_isv _ _ _), ⟨.inl rfl, ⟨.inl rfl, ⟨.inr (lull_isv _ _ _), trivial⟩⟩⟩⟩⟩⟩⟩
    snkAt0 snk0 ⟨H0.out, ⟨H1.out, trivial⟩⟩
      (OkL3.cons (fun a w X_ h => g_move (wanted_none rfl) (.inl rfl) h.1)
      (OkL3.cons (fun a w X_ h => g_call1 (wanted_none rfl) (by kernel_rfl) rfl (h_pub h.1 (LDi.out.step (X_.on BEL.out SZ.out none_le)) (HT.out.below (X_.on BEL.out SZ.out none_le) HT.out.2.2)))
      (OkL3.cons (fun a w X_ h => g_str (wanted_none rfl) rfl h.1 rfl)
      (OkL3.cons (fun a w X_ h => g_move (wanted_none rfl) (.inl rfl) h.1)
      (OkL3.cons (fun a w X_ h => g_call1 (wanted_none rfl) (by kernel_rfl) rfl (rPublic h.1))
      (OkL3.cons (fun a w X_ h => g_str (wanted_none rfl) rfl h.1 rfl)
      (OkL3.cons (fun a w X_ h => g_eqs (wanted_none rfl) rfl h.1 h.2.1 (sob_t rfl))
      (OkL3.cons (fun a w X_ h => g_move (wanted_none rfl) (.inl rfl) h.1)
      (OkL3.cons (fun a w X_ h => g_move (wanted_some rfl rfl h.1) (.inl rfl) h.2.1)
      (OkL3.cons (fun a w X_ h => g_move (wanted_some rfl rfl h.1) (.inl rfl) h.2.1)
      (OkL3.cons (fun a w X_ h => g_call2 (wanted_some rfl rfl h.1) (by kernel_rfl) rfl (h_sign h.2.1 h.2.2.1 HM.out (LDi.out.step (X_.on BEL.out SZ.out none_le)) (HT.out.below (X_.on BEL.out SZ.out none_le) HT.out.2.2) (HO.out.step (X_.on BEL.out SZ.out none_le))))
      (OkL3.cons (fun a w X_ h => g_str (wanted_some rfl rfl h.1) rfl h.2.1 rfl)
      (OkL3.cons (fun a w X_ h => g_move (wanted_some rfl rfl h.1) (.inl rfl) h.2.1)
      (OkL3.cons (fun a w X_ h => g_move (wanted_some rfl rfl h.1) (.inl rfl) h.2.1)
      (OkL3.cons (fun a w X_ h => g_call2 (wanted_some rfl rfl h.1) (by kernel_rfl) rfl (rSign h.2.1 h.2.2.1 HM.out))
      (OkL3.cons (fun a w X_ h => g_str (wanted_some rfl rfl h.1) rfl h.2.1 rfl)
      (OkL3.cons (fun a w X_ h => g_eqs (wanted_some rfl rfl h.1) rfl h.2.1 h.2.2.1 (sob_t rfl))
      (OkL3.cons (fun a w X_ h => g_pick (wanted_none rfl) rfl h.1 h.2.1)
      (OkL3.cons (fun a w X_ h => g_move (wanted_none rfl) (.inl rfl) h.1)
      (OkL3.cons (fun a w X_ h => g_call0 (wanted_some rfl rfl h.1) (by kernel_rfl) rfl (awake_hh (LDi.out.step (X_.on BEL.out SZ.out none_le)) (HT.out.below (X_.on BEL.out SZ.out none_le) HT.out.2.2)))
      (OkL3.cons (fun a w X_ h => g_pick (wanted_none rfl) rfl h.1 h.2.1)
      (OkL3.cons (fun a w X_ h => g_move (wanted_none rfl) (.inr rfl) h.1)
      OkL3.nil)))))))))))))))))))))) ?_
  rintro W3 X3 v14 - v15 - _ rfl v17 - v18 - _ rfl _ rfl _ rfl v22 - v23 - v24 - _ rfl v26 - v27 - v28 - _ rfl _ rfl _ rfl _ rfl _ rfl _ rfl _ rfl
  refine FinL3.done ?_
  simp only [Act.put, List.setIfInBounds_toArray, List.set_cons_zero, List.set_cons_succ]
  replace BEL := hide (X3.on BEL.out SZ.out none_le)
  replace SZ := hide BEL.out.size
  have SW3 := X3.size
  clear X3
  go_wp2
  go_ret
  exact ⟨rfl, BEL.out⟩
set_option maxRecDepth 100000 in
set_option maxHeartbeats 1000000 in
theorem signForms_walk (u v : Value) (l m : List Nat) {w : World} (h : BsAt w u l) (hv : BsAt w v m) (LDi : LaidW 2 exw w) (ht : Sh.Tabs w) (hL : Sc.Laid w) :
    Calls Tryz.prog 3 #[u, v] w fun e w' => e = .returned (.bool true) ∧ Below w.heap.size w w' := by
  have HW := hide (awake_any LDi ht)
  by_cases hl : l.length ≤ 100
  · by_cases hm : m.length ≤ 500
    · exact forms_in h hv hl hm LDi ht hL
    · obtain ⟨ao, c, rfl, _, _⟩ := h.len
      obtain ⟨am, cm, rfl, _, _⟩ := hv.len
      have d0 : decide ((100 : Int) < (l.length : Int)) = false := decide_eq_false (by omega)
      have d1 : decide ((500 : Int) < (m.length : Int)) = true := decide_eq_true (by omega)
      clear h hv hl hm LDi ht hL
      go_enter Tryz.func3, Tryz.ntmps3
      go_wp2_with fail
      refine HW.out.mono ?_
      rintro e w1 ⟨rfl, b1⟩
      go_wp2
      go_ret
      exact ⟨rfl, b1⟩
  · obtain ⟨ao, c, rfl, _, _⟩ := h.len
    have d0 : decide ((100 : Int) < (l.length : Int)) = true := decide_eq_true (by omega)
    clear h hv hl LDi ht hL
    go_enter Tryz.func3, Tryz.ntmps3
    go_wp2_with fail
    refine HW.out.mono ?_
    rintro e w1 ⟨rfl, b1⟩
    go_wp2
    go_ret
    exact ⟨rfl, b1⟩
end Go.Proofs.YtobgimpkkjaolaaGreatDoor
