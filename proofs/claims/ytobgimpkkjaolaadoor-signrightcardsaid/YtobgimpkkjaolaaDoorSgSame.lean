/- Of one seed and one message all is the same: the law SignSame answers true for all bytes, in any world where the order, the exponent and the hash's tables lie as the program's text lays them. -/
import Derived.Test.YtobgimpkkjaolaaDoorSg6
namespace Go.Proofs.YtobgimpkkjaolaaDoor
open Go.RowKit
theorem len_pubB {l : List Nat} (h : l.length = 32) : (pubB l).length = 32 := by unfold pubB; rw [if_pos h]; exact pubOf_len _
theorem len_sigB {l : List Nat} (m : List Nat) (h : l.length = 32) : (sigB l m).length = 64 := by unfold sigB; rw [if_pos h]; exact sigOf_len _ _ _ (scn_len l)
theorem no_pubB {l : List Nat} (h : l.length ≠ 32) : pubB l = [] := if_neg h
theorem no_sigB {l : List Nat} (m : List Nat) (h : l.length ≠ 32) : sigB l m = [] := if_neg h
theorem nil_bs (w : World) : BsAt w (.slice none 0 0) [] := ⟨0, 0, 0, none, rfl, Nat.le_refl _, by unfold maxLen; omega, by simp, fun h => absurd rfl h⟩
theorem Own.nilv {w : World} {b : Nat} {v : Value} (h : Own w b v []) : ∃ ao c, v = .slice ao 0 c := by
  obtain ⟨ao, c, e, _, _⟩ := h.at.len
  exact ⟨ao, c, e⟩
set_option maxRecDepth 100000 in
set_option maxHeartbeats 2000000 in
theorem same_in {u v : Value} {l m : List Nat} {w : World} (h : BsAt w u l) (hv : BsAt w v m) (hl : l.length ≤ 100) (hm : m.length ≤ 300) (LDi : LaidW 2 exw w) (ht : Sh.Tabs w) (hL : Sc.Laid w) :
    Calls Tryd.prog 4 #[u, v] w fun e w' => e = .returned (.bool true) ∧ Below w.heap.size w w' := by
  obtain ⟨K, hK⟩ : ∃ K, fullb l = K := ⟨_, rfl⟩
  have hKl : K.length = 32 := by rw [← hK]; exact fullb_len l
  obtain ⟨A, hA⟩ : ∃ A, sigB K m = A := ⟨_, rfl⟩
  have hAl : A.length = 64 := by rw [← hA]; exact len_sigB m hKl
  obtain ⟨P, hP⟩ : ∃ P, pubB K = P := ⟨_, rfl⟩
  have hPl : P.length = 32 := by rw [← hP]; exact len_pubB hKl
  have hT : ∀ {W}, Below w.heap.size w W → Sh.Tabs W := fun hW => ht.below hW ht.2.2
  have HS := hide (seed_any h hl)
  rw [hK] at HS
  have HG : Hid (∀ (W : World) (x y : Value), Below w.heap.size w W → BsAt W x K → BsAt W y m → Calls Tryd.prog 8 #[x, y] W fun e w' => ∃ v, e = .returned v ∧ Own w' W.heap.size v A ∧ Below W.heap.size W w') := fun W x y hW hx hy => by
    have h := Sign_any hx hy (by omega) (LDi.step hW) (hT hW) (hL.step hW); rw [hA] at h; exact h
  have HG1 : Hid (∀ (W : World) (x y : Value), Below w.heap.size w W → BsAt W x (K ++ [1]) → BsAt W y m → Calls Tryd.prog 8 #[x, y] W fun e w' => ∃ v, e = .returned v ∧ Own w' W.heap.size v [] ∧ Below W.heap.size W w') := fun W x y hW hx hy => by
    have h := Sign_any hx hy (by omega) (LDi.step hW) (hT hW) (hL.step hW); rw [no_sigB m (by simp; omega)] at h; exact h
  have HU : Hid (∀ (W : World) (x : Value), Below w.heap.size w W → BsAt W x K → Calls Tryd.prog 7 #[x] W fun e w' => ∃ v, e = .returned v ∧ Own w' W.heap.size v P ∧ Below W.heap.size W w') := fun W x hW hx => by
    have h := Public_any hx (LDi.step hW) (hT hW); rw [hP] at h; exact h
  have HU0 : Hid (∀ (W : World), Below w.heap.size w W → Calls Tryd.prog 7 #[.slice none 0 0] W fun e w' => ∃ v, e = .returned v ∧ Own w' W.heap.size v [] ∧ Below W.heap.size W w') := fun W hW => by
    have h := Public_any (nil_bs W) (LDi.step hW) (hT hW); rw [no_pubB (by simp)] at h; exact h
  have HW : Hid (∀ (W : World), Below w.heap.size w W → Calls Tryd.prog 5 #[] W fun e w' => e = .returned (.bool true) ∧ Below W.heap.size W w') := fun W hW => awake_any (LDi.step hW) (hT hW)
  have HV := hide hv
  have HN := hide (And.intro hKl (And.intro hAl (And.intro hPl hm)))
  obtain ⟨ao, c, rfl, _, _⟩ := h.len
  obtain ⟨am, cm, rfl, _, _⟩ := hv.len
  have d0 : decide ((100 : Int) < (l.length : Int)) = false := decide_eq_false (by omega)
  have d1 : decide ((300 : Int) < (m.length : Int)) = false := decide_eq_false (by omega)
  clear h hv hl hm LDi ht hL hK hA hP hKl hAl hPl hT
  go_enter Tryd.func4, Tryd.ntmps4
  go_wp2_with fail
  refine HS.out.mono ?_
  rintro e w1 ⟨v1, rfl, o1, b1⟩
  obtain ⟨gk, ck, rfl, hgk, _, hck, _⟩ := o1.form (by rw [HN.out.1]; decide)
  rw [HN.out.1] at o1 hck ⊢
  have B1 := hide b1
  have O1 := hide o1
  have G1 := hide hgk
  clear b1 o1 HS d0 d1 hgk
  go_wp2_with fail
  refine (HG.out _ _ _ B1.out O1.out.at (HV.out.ext B1.out)).mono ?_
  rintro e w2 ⟨v2, rfl, o2, b2⟩
  obtain ⟨ga, ca, rfl, hga, _, hca, _⟩ := o2.form (by rw [HN.out.2.1]; decide)
  rw [HN.out.2.1] at o2 hca ⊢
  have B2 := hide (Below.chain B1.out b2)
  have O2 := hide (O1.out.ext b2)
  have A2 := hide (o2.low B1.out.size)
  clear b2 o2 O1 B1 hga
  have B2e := hide ((Below.refl w2.heap.size w2).alloc (Nat.le_refl _) (.cells #[] 5))
  go_wp2_with (at_builtin; refine wpList_append_b rfl (.tmp 23) (.tmp 24) rfl (base := w2.heap.size) (l := []) (m := m) own_none0 ((HV.out.ext B2.out).ext B2e.out) (by have := HN.out.2.2.2; simp; omega) (by simp) ?_)
  intro v3 w3 o3 g3
  have b3 := below_gr B2e.out own_none0 (Nat.le_refl _) g3
  have B3 := hide (Below.chain B2.out b3)
  have O3 := hide (O2.out.ext b3)
  have A3 := hide (A2.out.ext b3)
  have M3 : Hid (BsAt w3 v3 m) := o3.at
  clear b3 g3 o3 B2e B2 O2 A2
  go_wp2_with fail
  refine (HG.out _ _ _ B3.out O3.out.at M3.out).mono ?_
  rintro e w4 ⟨v4, rfl, o4, b4⟩
  obtain ⟨gb, cb, rfl, hgb, _, hcb, _⟩ := o4.form (by rw [HN.out.2.1]; decide)
  rw [HN.out.2.1] at o4 hcb ⊢
  have B4 := hide (Below.chain B3.out b4)
  have O4 := hide (O3.out.ext b4)
  have sa := run_sob (A3.out.ext b4).at
  have sb := run_sob o4.at
  obtain ⟨S, hS⟩ : ∃ S, sob A = S := ⟨_, rfl⟩
  rw [hS] at sa sb
  clear b4 o4 A3 B3 O3 M3 hS hgb
  go_wp2_with fail
  refine (HU.out _ _ B4.out O4.out.at).mono ?_
  rintro e w5 ⟨v5, rfl, o5, b5⟩
  obtain ⟨gp, cp, rfl, _, _, hcp, _⟩ := o5.form (by rw [HN.out.2.2.1]; decide)
  rw [HN.out.2.2.1] at o5 hcp ⊢
  have B5 := hide (Below.chain B4.out b5)
  have O5 := hide (O4.out.ext b5)
  clear b5 o5 B4 O4 sa sb
  go_wp2_with fail
  refine (HU0.out _ B5.out).mono ?_
  rintro e w6 ⟨v6, rfl, o6, b6⟩
  obtain ⟨an, cn, rfl⟩ := o6.nilv
  have B6 := hide (Below.chain B5.out b6)
  have O6 := hide (O5.out.ext b6)
  clear b6 o6 B5 O5
  have b6e := (Below.refl w6.heap.size w6).alloc (Nat.le_refl _) (.cells #[.int .u8 1] 5)
  have B6e := hide b6e
  have L1 : Hid (BsAt (w6.alloc (.cells #[.int .u8 1] 5)) (.slice (some ⟨w6.heap.size, 0, none⟩) 1 1) [1]) := marked_at (w := w6) [1] (lim_list (by decide)) (by decide) (0, 0)
  clear b6e
  go_wp2_with (at_builtin; refine wpList_append_bw (by rfl) (.tmp 49) (.tmp 50) rfl (base := w.heap.size) (l := K) (m := [1]) (O6.out.ext B6e.out) L1.out (by rw [HN.out.1]; decide) (Nat.le_trans B6.out.size B6e.out.size) ?_)
  intro v7 w7 o7 g7
  have B7 := hide (below_gr (Below.chain B6.out B6e.out) (O6.out.ext B6e.out) (Nat.le_refl _) g7)
  have K7 := hide o7.at
  clear o7 g7 B6 O6 B6e L1
  go_wp2_with fail
  refine (HG1.out _ _ _ B7.out K7.out (HV.out.ext B7.out)).mono ?_
  rintro e w8 ⟨v8, rfl, o8, b8⟩
  obtain ⟨an8, cn8, rfl⟩ := o8.nilv
  have B8 := hide (Below.chain B7.out b8)
  clear b8 o8 B7 K7
  go_wp2_with fail
  refine (HW.out _ B8.out).mono ?_
  rintro e w9 ⟨rfl, b9⟩
  have B9 := hide (Below.chain B8.out b9)
  clear b9 B8
  go_wp2
  go_ret
  exact ⟨rfl, B9.out⟩
set_option maxRecDepth 100000 in
set_option maxHeartbeats 1000000 in
theorem signSame_walk (u v : Value) (l m : List Nat) {w : World} (h : BsAt w u l) (hv : BsAt w v m) (LDi : LaidW 2 exw w) (ht : Sh.Tabs w) (hL : Sc.Laid w) :
    Calls Tryd.prog 4 #[u, v] w fun e w' => e = .returned (.bool true) ∧ Below w.heap.size w w' := by
  by_cases hl : l.length ≤ 100
  · by_cases hm : m.length ≤ 300
    · exact same_in h hv hl hm LDi ht hL
    · have HW := hide (awake_any LDi ht)
      obtain ⟨ao, c, rfl, _, _⟩ := h.len
      obtain ⟨am, cm, rfl, _, _⟩ := hv.len
      have d0 : decide ((100 : Int) < (l.length : Int)) = false := decide_eq_false (by omega)
      have d1 : decide ((300 : Int) < (m.length : Int)) = true := decide_eq_true (by omega)
      clear h hv hl hm LDi ht hL
      go_enter Tryd.func4, Tryd.ntmps4
      go_wp2_with fail
      refine HW.out.mono ?_
      rintro e w1 ⟨rfl, b1⟩
      go_wp2
      go_ret
      exact ⟨rfl, b1⟩
  · have HW := hide (awake_any LDi ht)
    obtain ⟨ao, c, rfl, _, _⟩ := h.len
    have d0 : decide ((100 : Int) < (l.length : Int)) = true := decide_eq_true (by omega)
    clear h hv hl LDi ht hL
    go_enter Tryd.func4, Tryd.ntmps4
    go_wp2_with fail
    refine HW.out.mono ?_
    rintro e w1 ⟨rfl, b1⟩
    go_wp2
    go_ret
    exact ⟨rfl, b1⟩
end Go.Proofs.YtobgimpkkjaolaaDoor
