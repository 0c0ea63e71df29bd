/- What is signed verifies: the law SignRight answers true for all bytes, in any world where the variables lie as the program's text lays them. -/
import Derived.Test.YtobgimpkkjaolaaDoorSgR1
import Derived.Test.YtobgimpkkjaolaaDoorSgSame
namespace Go.Proofs.YtobgimpkkjaolaaDoor
open Go.RowKit
set_option maxRecDepth 100000 in
set_option maxHeartbeats 2000000 in
theorem right_e {u v t : Value} {l m n : List Nat} {w : World} (h : BsAt w u l) (hv : BsAt w v m) (hn : BsAt w t n) (hl : l.length ≤ 100) (hm : m.length ≤ 500) (hnl : n.length ≤ 100) (hn0 : n.length = 0) (LDi : LaidW 2 exw w) (LDe : LaidW 3 eiw w) (LDm : LaidW 1 rmw w) (ht : Sh.Tabs w) (hL : Sc.Laid w) :
    Calls Tryd.prog 3 #[u, v, t] w fun e w' => e = .returned (.bool true) ∧ Below w.heap.size w w' := by
  obtain ⟨K, hK⟩ : ∃ K, fullb l = K := ⟨_, rfl⟩
  have hKl : K.length = 32 := by rw [← hK]; exact fullb_len l
  have hver := ver_seed K m hKl
  obtain ⟨A, hA⟩ : ∃ A, sigB K m = A := ⟨_, rfl⟩
  have hAl : A.length = 64 := by rw [← hA]; exact len_sigB m hKl
  obtain ⟨P, hP⟩ : ∃ P, pubB K = P := ⟨_, rfl⟩
  have hPl : P.length = 32 := by rw [← hP]; exact len_pubB hKl
  rw [hA, hP] at hver
  have hT : ∀ {W}, Below w.heap.size w W → Sh.Tabs W := fun hW => ht.below hW ht.2.2
  have HS := hide (seed_any h hl)
  rw [hK] at HS
  have HG : Hid (∀ (W : World) (x y : Value), Below w.heap.size w W → BsAt W x K → BsAt W y m → Calls Tryd.prog 8 #[x, y] W fun e w' => ∃ v, e = .returned v ∧ Own w' W.heap.size v A ∧ Below W.heap.size W w') := fun W x y hW hx hy => by
    have h := Sign_any hx hy (by omega) (LDi.step hW) (hT hW) (hL.step hW); rw [hA] at h; exact h
  have HU : Hid (∀ (W : World) (x : Value), Below w.heap.size w W → BsAt W x K → Calls Tryd.prog 7 #[x] W fun e w' => ∃ v, e = .returned v ∧ Own w' W.heap.size v P ∧ Below W.heap.size W w') := fun W x hW hx => by
    have h := Public_any hx (LDi.step hW) (hT hW); rw [hP] at h; exact h
  have HY : Hid (∀ (W : World) (x y z : Value), Below w.heap.size w W → BsAt W x P → BsAt W y m → BsAt W z A → Calls Tryd.prog 9 #[x, y, z] W fun e w' => e = .returned (.bool true) ∧ Below W.heap.size W w') := fun W x y z hW hx hy hz => by
    have h := Verify_any hx hy hz (by omega) (LDi.step hW) (LDe.step hW) (LDm.step hW) (hT hW) (hL.step hW); rw [hver] at h; exact h
  have HN : Hid (∀ (W : World) (x y z : Value) (s : List Nat), Below w.heap.size w W → BsAt W x P → BsAt W y m → BsAt W z s → s.length ≠ 64 → Calls Tryd.prog 9 #[x, y, z] W fun e w' => e = .returned (.bool false) ∧ Below W.heap.size W w') := fun W x y z s hW hx hy hz hs => by
    have h := Verify_any hx hy hz (by omega) (LDi.step hW) (LDe.step hW) (LDm.step hW) (hT hW) (hL.step hW); rw [ver_len P m s hs] at h; exact h
  have HW : Hid (∀ (W : World), Below w.heap.size w W → Calls Tryd.prog 5 #[] W fun e w' => e = .returned (.bool true) ∧ Below W.heap.size W w') := fun W hW => awake_any (LDi.step hW) (hT hW)
  have HV := hide (And.intro hv hn)
  have HL := hide (And.intro hKl (And.intro hAl (And.intro hPl (And.intro hm (And.intro hnl hn0)))))
  obtain ⟨ao, c, rfl, _, _⟩ := h.len
  obtain ⟨am, cm, rfl, _, _⟩ := hv.len
  obtain ⟨an, cn, rfl, _, _⟩ := hn.len
  have d0 : decide ((100 : Int) < (l.length : Int)) = false := decide_eq_false (by omega)
  have d1 : decide ((500 : Int) < (m.length : Int)) = false := decide_eq_false (by omega)
  have d2 : decide ((100 : Int) < (n.length : Int)) = false := decide_eq_false (by omega)
  have d3 : ((n.length : Int) == 0) = true := by rw [beq_iff_eq]; omega
  clear h hv hn hl hm hnl hn0 LDi LDe LDm ht hL hK hA hP hKl hAl hPl hT hver
  go_enter Tryd.func3, Tryd.ntmps3
  go_wp2_with fail
  refine HS.out.mono ?_
  rintro e w1 ⟨v1, rfl, o1, b1⟩
  have B1 := hide b1
  have O1 := hide o1
  clear b1 o1 HS d0 d1 d2
  go_wp2_with fail
  refine (HU.out _ _ B1.out O1.out.at).mono ?_
  rintro e w2 ⟨v2, rfl, o2, b2⟩
  have B2 := hide (Below.chain B1.out b2)
  have O2 := hide (O1.out.ext b2)
  have P2 := hide (o2.low B1.out.size)
  clear b2 o2 O1 B1
  go_wp2_with fail
  refine (HG.out _ _ _ B2.out O2.out.at (HV.out.1.ext B2.out)).mono ?_
  rintro e w3 ⟨v3, rfl, o3, b3⟩
  obtain ⟨ga, ca, rfl, hga, _, hca, _⟩ := o3.form (by rw [HL.out.2.1]; decide)
  rw [HL.out.2.1] at o3 hca ⊢
  have B3 := hide (Below.chain B2.out b3)
  have P3 := hide (P2.out.ext b3)
  have A3 := hide (o3.low B2.out.size)
  clear b3 o3 O2 B2 P2 hga
  have s63 : ∀ W : World, (Instr.sliceAt 22 (.slice (some ⟨ga, 0, none⟩) 64 ca) none (some (.int .i64 63)) none).run Tryd.prog W = .ok (.slice (some ⟨ga, 0, none⟩) 63 ca) W := fun W => Sh.run_slice_to W ⟨ga, 0, none⟩ 64 ca 63 (by omega)
  go_wp2_with fail
  refine (HY.out _ _ _ _ B3.out P3.out.at (HV.out.1.ext B3.out) A3.out.at).mono ?_
  rintro e w4 ⟨rfl, b4⟩
  have B4 := hide (Below.chain B3.out b4)
  have P4 := hide (P3.out.ext b4)
  have A4 := hide (A3.out.ext b4)
  clear b4 B3 P3 A3
  go_wp2_with fail
  refine (HN.out _ _ _ _ _ B4.out P4.out.at (HV.out.1.ext B4.out) (Own.cut (k := 63) A4.out (by rw [HL.out.2.1]; decide)).at (by rw [List.length_take, HL.out.2.1]; decide)).mono ?_
  rintro e w7 ⟨rfl, b7⟩
  have B7 := hide (Below.chain B4.out b7)
  clear b7 B4 P4 A4
  go_wp2_with fail
  refine (HW.out _ B7.out).mono ?_
  rintro e w9 ⟨rfl, b9⟩
  have B9 := hide (Below.chain B7.out b9)
  clear b9 B7
  go_wp2
  go_ret
  exact ⟨rfl, B9.out⟩
set_option maxRecDepth 100000 in
set_option maxHeartbeats 2000000 in
theorem right_m {u v t : Value} {l m n : List Nat} {w : World} (h : BsAt w u l) (hv : BsAt w v m) (hn : BsAt w t n) (hl : l.length ≤ 100) (hm : m.length ≤ 500) (hnl : n.length ≤ 100) (hn0 : ¬ n.length = 0) (LDi : LaidW 2 exw w) (LDe : LaidW 3 eiw w) (LDm : LaidW 1 rmw w) (ht : Sh.Tabs w) (hL : Sc.Laid w) :
    Calls Tryd.prog 3 #[u, v, t] w fun e w' => e = .returned (.bool true) ∧ Below w.heap.size w w' := by
  obtain ⟨K, hK⟩ : ∃ K, fullb l = K := ⟨_, rfl⟩
  have hKl : K.length = 32 := by rw [← hK]; exact fullb_len l
  have hver := ver_seed K m hKl
  obtain ⟨A, hA⟩ : ∃ A, sigB K m = A := ⟨_, rfl⟩
  have hAl : A.length = 64 := by rw [← hA]; exact len_sigB m hKl
  obtain ⟨P, hP⟩ : ∃ P, pubB K = P := ⟨_, rfl⟩
  have hPl : P.length = 32 := by rw [← hP]; exact len_pubB hKl
  rw [hA, hP] at hver
  have hT : ∀ {W}, Below w.heap.size w W → Sh.Tabs W := fun hW => ht.below hW ht.2.2
  have HS := hide (seed_any h hl)
  rw [hK] at HS
  have HG : Hid (∀ (W : World) (x y : Value), Below w.heap.size w W → BsAt W x K → BsAt W y m → Calls Tryd.prog 8 #[x, y] W fun e w' => ∃ v, e = .returned v ∧ Own w' W.heap.size v A ∧ Below W.heap.size W w') := fun W x y hW hx hy => by
    have h := Sign_any hx hy (by omega) (LDi.step hW) (hT hW) (hL.step hW); rw [hA] at h; exact h
  have HU : Hid (∀ (W : World) (x : Value), Below w.heap.size w W → BsAt W x K → Calls Tryd.prog 7 #[x] W fun e w' => ∃ v, e = .returned v ∧ Own w' W.heap.size v P ∧ Below W.heap.size W w') := fun W x hW hx => by
    have h := Public_any hx (LDi.step hW) (hT hW); rw [hP] at h; exact h
  have HY : Hid (∀ (W : World) (x y z : Value), Below w.heap.size w W → BsAt W x P → BsAt W y m → BsAt W z A → Calls Tryd.prog 9 #[x, y, z] W fun e w' => e = .returned (.bool true) ∧ Below W.heap.size W w') := fun W x y z hW hx hy hz => by
    have h := Verify_any hx hy hz (by omega) (LDi.step hW) (LDe.step hW) (LDm.step hW) (hT hW) (hL.step hW); rw [hver] at h; exact h
  have HN : Hid (∀ (W : World) (x y z : Value) (s : List Nat), Below w.heap.size w W → BsAt W x P → BsAt W y m → BsAt W z s → s.length ≠ 64 → Calls Tryd.prog 9 #[x, y, z] W fun e w' => e = .returned (.bool false) ∧ Below W.heap.size W w') := fun W x y z s hW hx hy hz hs => by
    have h := Verify_any hx hy hz (by omega) (LDi.step hW) (LDe.step hW) (LDm.step hW) (hT hW) (hL.step hW); rw [ver_len P m s hs] at h; exact h
  have HW : Hid (∀ (W : World), Below w.heap.size w W → Calls Tryd.prog 5 #[] W fun e w' => e = .returned (.bool true) ∧ Below W.heap.size W w') := fun W hW => awake_any (LDi.step hW) (hT hW)
  have HV := hide (And.intro hv hn)
  have HL := hide (And.intro hKl (And.intro hAl (And.intro hPl (And.intro hm (And.intro hnl hn0)))))
  obtain ⟨ao, c, rfl, _, _⟩ := h.len
  obtain ⟨am, cm, rfl, _, _⟩ := hv.len
  obtain ⟨an, cn, rfl, _, _⟩ := hn.len
  have d0 : decide ((100 : Int) < (l.length : Int)) = false := decide_eq_false (by omega)
  have d1 : decide ((500 : Int) < (m.length : Int)) = false := decide_eq_false (by omega)
  have d2 : decide ((100 : Int) < (n.length : Int)) = false := decide_eq_false (by omega)
  have d3 : ((n.length : Int) == 0) = false := by rw [beq_eq_false_iff_ne]; omega
  clear h hv hn hl hm hnl hn0 LDi LDe LDm ht hL hK hA hP hKl hAl hPl hT hver
  go_enter Tryd.func3, Tryd.ntmps3
  go_wp2_with fail
  refine HS.out.mono ?_
  rintro e w1 ⟨v1, rfl, o1, b1⟩
  have B1 := hide b1
  have O1 := hide o1
  clear b1 o1 HS d0 d1 d2
  go_wp2_with fail
  refine (HU.out _ _ B1.out O1.out.at).mono ?_
  rintro e w2 ⟨v2, rfl, o2, b2⟩
  have B2 := hide (Below.chain B1.out b2)
  have O2 := hide (O1.out.ext b2)
  have P2 := hide (o2.low B1.out.size)
  clear b2 o2 O1 B1
  go_wp2_with fail
  refine (HG.out _ _ _ B2.out O2.out.at (HV.out.1.ext B2.out)).mono ?_
  rintro e w3 ⟨v3, rfl, o3, b3⟩
  obtain ⟨ga, ca, rfl, hga, _, hca, _⟩ := o3.form (by rw [HL.out.2.1]; decide)
  rw [HL.out.2.1] at o3 hca ⊢
  have B3 := hide (Below.chain B2.out b3)
  have P3 := hide (P2.out.ext b3)
  have A3 := hide (o3.low B2.out.size)
  clear b3 o3 O2 B2 P2 hga
  have s63 : ∀ W : World, (Instr.sliceAt 22 (.slice (some ⟨ga, 0, none⟩) 64 ca) none (some (.int .i64 63)) none).run Tryd.prog W = .ok (.slice (some ⟨ga, 0, none⟩) 63 ca) W := fun W => Sh.run_slice_to W ⟨ga, 0, none⟩ 64 ca 63 (by omega)
  go_wp2_with fail
  refine (HY.out _ _ _ _ B3.out P3.out.at (HV.out.1.ext B3.out) A3.out.at).mono ?_
  rintro e w4 ⟨rfl, b4⟩
  have B4 := hide (Below.chain B3.out b4)
  have P4 := hide (P3.out.ext b4)
  have A4 := hide (A3.out.ext b4)
  clear b4 B3 P3 A3
  have B4e := hide ((Below.refl w4.heap.size w4).alloc (Nat.le_refl _) (.cells #[] 5))
  go_wp2_with (at_builtin; refine wpList_append_bw (by rfl) (.tmp 47) (.tmp 48) rfl (base := w4.heap.size) (l := []) (m := A) own_none0 (A4.out.ext B4e.out).at (by rw [HL.out.2.1]; decide) (by simp) ?_)
  intro v5 w5 o5 g5
  have b5 := below_gr B4e.out own_none0 (Nat.le_refl _) g5
  have B5 := hide (Below.chain B4.out b5)
  have X5 : Hid (Own w5 w4.heap.size v5 A) := o5
  have Z5 := hide b5
  clear b5 g5 o5 B4e
  go_wp2_with (at_builtin; refine wpList_append_bw (by rfl) (.tmp 49) (.tmp 50) rfl (base := w4.heap.size) (l := A) (m := n) X5.out (HV.out.2.ext B5.out) (by have := HL.out.2.2.2.2.1; rw [HL.out.2.1]; omega) Z5.out.size ?_)
  intro v6 w6 o6 g6
  have b6 := below_gr Z5.out X5.out (Nat.le_refl _) g6
  have B6 := hide (Below.chain B4.out b6)
  have P6 := hide (P4.out.ext b6)
  have A6 := hide (A4.out.ext b6)
  have X6 := hide o6.at
  clear b6 g6 o6 B4 P4 A4 B5 X5 Z5
  go_wp2_with fail
  refine (HN.out _ _ _ _ _ B6.out P6.out.at (HV.out.1.ext B6.out) X6.out (by have := HL.out.2.2.2.2.2; rw [List.length_append, HL.out.2.1]; omega)).mono ?_
  rintro e w8 ⟨rfl, b8⟩
  have B4 := hide (Below.chain B6.out b8)
  have P4 := hide (P6.out.ext b8)
  have A4 := hide (A6.out.ext b8)
  clear b8 B6 P6 A6 X6
  go_wp2_with fail
  refine (HN.out _ _ _ _ _ B4.out P4.out.at (HV.out.1.ext B4.out) (Own.cut (k := 63) A4.out (by rw [HL.out.2.1]; decide)).at (by rw [List.length_take, HL.out.2.1]; decide)).mono ?_
  rintro e w7 ⟨rfl, b7⟩
  have B7 := hide (Below.chain B4.out b7)
  clear b7 B4 P4 A4
  go_wp2_with fail
  refine (HW.out _ B7.out).mono ?_
  rintro e w9 ⟨rfl, b9⟩
  have B9 := hide (Below.chain B7.out b9)
  clear b9 B7
  go_wp2
  go_ret
  exact ⟨rfl, B9.out⟩
set_option maxRecDepth 100000 in
set_option maxHeartbeats 1000000 in
theorem signRight_walk (u v t : Value) (l m n : List Nat) {w : World} (h : BsAt w u l) (hv : BsAt w v m) (hn : BsAt w t n) (LDi : LaidW 2 exw w) (LDe : LaidW 3 eiw w) (LDm : LaidW 1 rmw w) (ht : Sh.Tabs w) (hL : Sc.Laid w) :
    Calls Tryd.prog 3 #[u, v, t] w fun e w' => e = .returned (.bool true) ∧ Below w.heap.size w w' := by
  by_cases hc : l.length ≤ 100 ∧ m.length ≤ 500 ∧ n.length ≤ 100
  · obtain ⟨hl, hm, hnl⟩ := hc
    by_cases h0 : n.length = 0
    · exact right_e h hv hn hl hm hnl h0 LDi LDe LDm ht hL
    · exact right_m h hv hn hl hm hnl h0 LDi LDe LDm ht hL
  have HW := hide (awake_any LDi ht)
  obtain ⟨ao, c, rfl, _, _⟩ := h.len
  obtain ⟨am, cm, rfl, _, _⟩ := hv.len
  obtain ⟨an, cn, rfl, _, _⟩ := hn.len
  by_cases hl : l.length ≤ 100
  · have d0 : decide ((100 : Int) < (l.length : Int)) = false := decide_eq_false (by omega)
    by_cases hm : m.length ≤ 500
    · have d1 : decide ((500 : Int) < (m.length : Int)) = false := decide_eq_false (by omega)
      have d2 : decide ((100 : Int) < (n.length : Int)) = true := decide_eq_true (by omega)
      clear h hv hn hl hm LDi LDe LDm ht hL hc
      go_enter Tryd.func3, Tryd.ntmps3
      go_wp2_with fail
      refine HW.out.mono ?_
      rintro e w1 ⟨rfl, b1⟩
      go_wp2
      go_ret
      exact ⟨rfl, b1⟩
    · have d1 : decide ((500 : Int) < (m.length : Int)) = true := decide_eq_true (by omega)
      clear h hv hn hl hm LDi LDe LDm ht hL hc
      go_enter Tryd.func3, Tryd.ntmps3
      go_wp2_with fail
      refine HW.out.mono ?_
      rintro e w1 ⟨rfl, b1⟩
      go_wp2
      go_ret
      exact ⟨rfl, b1⟩
  · have d0 : decide ((100 : Int) < (l.length : Int)) = true := decide_eq_true (by omega)
    clear h hv hn hl LDi LDe LDm ht hL hc
    go_enter Tryd.func3, Tryd.ntmps3
    go_wp2_with fail
    refine HW.out.mono ?_
    rintro e w1 ⟨rfl, b1⟩
    go_wp2
    go_ret
    exact ⟨rfl, b1⟩
end Go.Proofs.YtobgimpkkjaolaaDoor
