/- Any key, any message, any signature: the law SignVerifies answers true, in any world where the variables lie as the program's text lays them. -/
import Derived.Test.YtobgimpkkjaolaaGreatDoorSp5
import Derived.Test.YtobgimpkkjaolaaGreatDoorSgSame
namespace Go.Proofs.YtobgimpkkjaolaaGreatDoor
open Go.RowKit
theorem u64_rem (a : Int) (n : Nat) (hn : 0 < n) : ∃ k : Nat, k < n ∧ (IntKind.u64.wrap a).tmod (n : Int) = (k : Int) := by
  have hw : IntKind.u64.wrap a = a % 18446744073709551616 := rfl
  have h0 : 0 ≤ IntKind.u64.wrap a := by rw [hw]; omega
  refine ⟨((IntKind.u64.wrap a).tmod n).toNat, ?_, ?_⟩
  · rw [Int.tmod_eq_emod_of_nonneg h0]
    have := Int.emod_lt_of_pos (IntKind.u64.wrap a) (show (0 : Int) < n by omega)
    have := Int.emod_nonneg (IntKind.u64.wrap a) (show (n : Int) ≠ 0 by omega)
    omega
  · rw [Int.tmod_eq_emod_of_nonneg h0]
    have := Int.emod_nonneg (IntKind.u64.wrap a) (show (n : Int) ≠ 0 by omega)
    omega
theorem i64_small {k : Nat} (h : k < 1000) : IntKind.i64.wrap (k : Int) = (k : Int) := by
  have e : (k : Int) % (2 ^ IntKind.i64.bits : Int) = k := by show (k : Int) % 18446744073709551616 = k; omega
  have g : ¬ (k : Int) ≥ (2 ^ (IntKind.i64.bits - 1) : Int) := by show ¬ (k : Int) ≥ 9223372036854775808; omega
  unfold IntKind.wrap
  simp only [e]
  rw [if_neg (by rw [decide_eq_false g, Bool.and_false]; decide)]
theorem lim_one {x : Nat} (h : x < 256) : ∀ i, [x].getD i 0 < 256 := fun i => by
  match i with
  | 0 => simpa using h
  | j + 1 => simp
theorem bs_far {w : World} {b o n c g i : Nat} {l : List Nat} {x : Value} (h : BsAt w (.slice (some ⟨b, o, none⟩) n c) l) (hne : b ≠ g) : BsAt (w.setCell ⟨g, i, none⟩ x) (.slice (some ⟨b, o, none⟩) n c) l := by
  obtain ⟨b', o', c', ao, e, hc, hm, hl, hh⟩ := h
  refine ⟨b', o', c', ao, e, hc, hm, hl, fun hn => ?_⟩
  obtain ⟨e1, hb, h2⟩ := hh hn
  injection e with e2 e3 e4
  rw [e1] at e2
  injection e2 with e2
  injection e2 with e5 e6 _
  subst e5
  refine ⟨e1, Nat.lt_of_lt_of_le hb (by simp), fun k hk => ?_⟩
  rw [World.cell?_setCell_far _ _ _ _ (by simpa using Ne.symm hne)]
  exact h2 k hk
theorem bs_own {w : World} {base g i : Nat} {v x : Value} {l : List Nat} (h : Own w base v l) (hg : g < base) : BsAt (w.setCell ⟨g, i, none⟩ x) v l := by
  have h2 := h.at
  rcases h.row.2 with ⟨rfl, h0⟩ | ⟨b, cap, cur, rfl, hb, _⟩
  · have : l = [] := List.eq_nil_of_length_eq_zero h0
    subst this
    exact nil_bs _
  · exact bs_far h2 (by omega)
set_option maxRecDepth 100000 in
set_option maxHeartbeats 2000000 in
theorem ver_0 {u v t : Value} {l m n : List Nat} {a e : Int} {x : Nat} {w : World} (h : BsAt w u l) (hv : BsAt w v m) (hn : BsAt w t n) (hx : x < 256) (hl : l.length ≤ 100) (hm : m.length ≤ 500) (hnl : n.length ≤ 100) (LDi : LaidW 2 exw w) (LDe : LaidW 3 eiw w) (LDm : LaidW 1 rmw w) (ht : Sh.Tabs w) (hL : Sc.Laid w) (he : (IntKind.u64.wrap e).tmod 5 = 0) :
    Calls Tryz.prog 4 #[u, v, .int .i64 a, .int .u8 (x : Int), t, .int .i64 e] w fun e w' => e = .returned (.bool true) ∧ Below w.heap.size w w' := by
  obtain ⟨K, hK⟩ : ∃ K, fullb l = K := ⟨_, rfl⟩
  have hKl : K.length = 32 := by rw [← hK]; exact fullb_len l
  obtain ⟨A, hA⟩ : ∃ A, sigB K m = A := ⟨_, rfl⟩
  have hAl : A.length = 64 := by rw [← hA]; exact len_sigB m hKl
  obtain ⟨P, hP⟩ : ∃ P, pubB K = P := ⟨_, rfl⟩
  have hPl : P.length = 32 := by rw [← hP]; exact len_pubB hKl
  have hT : ∀ {W}, Below w.heap.size w W → Sh.Tabs W := fun hW => ht.below hW ht.2.2
  have HS := hide (seed_any h hl)
  rw [hK] at HS
  have HG : Hid (∀ (W : World) (x y : Value), Below w.heap.size w W → BsAt W x K → BsAt W y m → Calls Tryz.prog 9 #[x, y] W fun e w' => ∃ v, e = .returned v ∧ Own w' W.heap.size v A ∧ Below W.heap.size W w') := fun W x y hW hx hy => by
    have h := Sign_any hx hy (by omega) (LDi.step hW) (hT hW) (hL.step hW); rw [hA] at h; exact h
  have HU : Hid (∀ (W : World) (x : Value), Below w.heap.size w W → BsAt W x K → Calls Tryz.prog 7 #[x] W fun e w' => ∃ v, e = .returned v ∧ Own w' W.heap.size v P ∧ Below W.heap.size W w') := fun W x hW hx => by
    have h := Public_any hx (LDi.step hW) (hT hW); rw [hP] at h; exact h
  have HY : Hid (∀ (W : World) (x y z : Value) (p q s : List Nat), Below w.heap.size w W → BsAt W x p → BsAt W y q → BsAt W z s → q.length ≤ 1000000 → Calls Tryz.prog 12 #[x, y, z] W fun e w' => e = .returned (.bool (verB p q s)) ∧ Below W.heap.size W w') := fun W x y z p q s hW hx hy hz hq => Verify_any hx hy hz hq (LDi.step hW) (LDe.step hW) (LDm.step hW) (hT hW) (hL.step hW)
  have HZ : Hid (∀ (W : World) (x y z : Value) (p q s : List Nat), BsAt W x p → BsAt W y q → BsAt W z s → q.length ≤ 1000000 → Calls Tryz.prog 13 #[x, y, z] W fun e w' => e = .returned (.bool (verB p q s)) ∧ Below W.heap.size W w') := fun W x y z p q s hx hy hz hq => rVerify hx hy hz hq
  have HW : Hid (∀ (W : World), Below w.heap.size w W → Calls Tryz.prog 6 #[] W fun e w' => e = .returned (.bool true) ∧ Below W.heap.size W w') := fun W hW => awake_any (LDi.step hW) (hT hW)
  have HV := hide (And.intro hv hn)
  have HL := hide (And.intro hKl (And.intro hAl (And.intro hPl (And.intro hm hnl))))
  obtain ⟨ao, c, rfl, _, _⟩ := h.len
  obtain ⟨am, cm, rfl, _, _⟩ := hv.len
  obtain ⟨an, cn, rfl, _, _⟩ := hn.len
  have d0 : decide ((100 : Int) < (l.length : Int)) = false := decide_eq_false (by omega)
  have d1 : decide ((500 : Int) < (m.length : Int)) = false := decide_eq_false (by omega)
  have d2 : decide ((100 : Int) < (n.length : Int)) = false := decide_eq_false (by omega)
  clear h hv hn hl hm hnl LDi LDe LDm ht hL hK hA hP hKl hAl hPl hT
  go_enter Tryz.func4, Tryz.ntmps4
  go_wp2_with fail
  refine HS.out.mono ?_
  rintro e w1 ⟨v1, rfl, o1, b1⟩
  have B1 := hide b1
  have O1 := hide o1
  clear b1 o1 HS d0 d1 d2
  go_wp2_with fail
  refine (HU.out _ _ B1.out O1.out.at).mono ?_
  rintro e w2 ⟨v2, rfl, o2, b2⟩
  obtain ⟨gp, cp, rfl, hgp, _, hcp, _⟩ := o2.form (by rw [HL.out.2.2.1]; decide)
  rw [HL.out.2.2.1] at o2 hcp ⊢
  have B2 := hide (Below.chain B1.out b2)
  have O2 := hide (O1.out.ext b2)
  have P2 := hide (o2.low B1.out.size)
  replace hgp := Nat.le_trans B1.out.size hgp
  clear b2 o2 O1 B1
  go_wp2_with fail
  refine (HG.out _ _ _ B2.out O2.out.at (HV.out.1.ext B2.out)).mono ?_
  rintro e w3 ⟨v3, rfl, o3, b3⟩
  obtain ⟨ga, ca, rfl, hga, _, hca, _⟩ := o3.form (by rw [HL.out.2.1]; decide)
  rw [HL.out.2.1] at o3 hca ⊢
  have hne : gp < ga := by
    have := P2.out.row.lt gp rfl
    have := hga
    omega
  have B3 := hide (Below.chain B2.out b3)
  have P3 := hide (P2.out.ext b3)
  have A3 := hide (o3.low B2.out.size)
  have hga3 := (A3.out.row.lt ga rfl).2
  replace hga := Nat.le_trans B2.out.size hga
  clear b3 o3 O2 B2 P2
  have B3e := hide ((Below.refl w3.heap.size w3).alloc (Nat.le_refl _) (.cells #[] 5))
  go_wp2_with (at_builtin; refine wpList_append_b rfl (.tmp 46) (.tmp 47) rfl (base := w3.heap.size) (l := []) (m := m) own_none0 ((HV.out.1.ext B3.out).ext B3e.out) (by have := HL.out.2.2.2.1; simp; omega) (by simp) ?_)
  intro v4 w4 o4 g4
  have b4 := below_gr B3e.out own_none0 (Nat.le_refl _) g4
  have B4 := hide (Below.chain B3.out b4)
  have P4 := hide (P3.out.ext b4)
  have A4 := hide (A3.out.ext b4)
  have M4 : Hid (Own w4 w3.heap.size v4 m) := o4
  have Y4 := hide b4
  have Z4 := hide b4.size
  clear b4 g4 o4 B3e
  obtain ⟨k, hk, hka⟩ : ∃ k : Nat, k < 64 ∧ (IntKind.u64.wrap a).tmod 64 = (k : Int) := u64_rem a 64 (by decide)
  have hkw : IntKind.i64.wrap (k : Int) = (k : Int) := i64_small (by omega)
  have hix : ∀ W : World, (Instr.indexAt 22 (.slice (some ⟨ga, 0, none⟩) 64 ca) (.int .i64 (k : Int))).run Tryz.prog W = .ok (.pointer (some ⟨ga, k, none⟩)) W := fun W => by simpa using run_ix W ga 0 64 ca k hk
  have hll : A.length = 64 := HL.out.2.1
  have R4 : Own w4 w.heap.size (.slice (some ⟨ga, 0, none⟩) A.length ca) A := by rw [hll]; exact A4.out
  have ck : w4.cell? ⟨ga, k, none⟩ = some (.int .u8 ((A.getD k 0 : Nat) : Int)) := by rw [R4.row.cellAt k (by rw [hll, Nat.mul_one]; exact hk), nv_get A k (by rw [hll]; exact hk)]
  have fk := R4.row.frozenAt k
  have hxx := u8_xor_nat (A.getD k 0) x (A4.out.lim k) hx
  have hzz : (A.getD k 0 ^^^ x) < 256 := Nat.xor_lt_two_pow (n := 8) (A4.out.lim k) hx
  have r4 := R4.set k _ hzz
  rw [hll] at r4
  have E4 := hide r4
  obtain ⟨z, hz⟩ : ∃ z, A.getD k 0 ^^^ x = z := ⟨_, rfl⟩
  rw [hz] at hxx E4
  clear r4 R4
  have PV := hide (bs_far (g := ga) (i := k) (x := .int .u8 (z : Int)) P4.out.at (by omega))
  have MV := hide (bs_own (g := ga) (i := k) (x := .int .u8 (z : Int)) M4.out hga3)
  have SV := hide E4.out.at
  have BW := hide (Below.setCell (p := ⟨ga, k, none⟩) B4.out hga (.int .u8 (z : Int)))
  generalize hG : A.getD k 0 = y at *
  have DW : Hid (m.length ≤ 1000000) := by show _ ≤ _; have := HL.out.2.2.2.1; omega
  clear E4 hz hzz hG hll
  go_wp2_with fail
  generalize w4.setCell ⟨ga, k, none⟩ (.int .u8 (z : Int)) = W9 at *
  refine (HY.out _ _ _ _ _ _ _ BW.out PV.out MV.out SV.out DW.out).mono ?_
  rintro e w10 ⟨rfl, b10⟩
  have BX := hide (Below.chain BW.out b10)
  have HZ2 := hide (HZ.out _ _ _ _ _ _ _ (PV.out.ext b10) (MV.out.ext b10) (SV.out.ext b10) DW.out)
  clear b10
  generalize verB _ _ _ = d at *
  go_wp2_with fail
  refine HZ2.out.mono ?_
  rintro e w11 ⟨rfl, b11⟩
  have BY := hide (Below.chain BX.out b11)
  clear b11 HZ2
  go_wp2_with fail
  refine (HW.out _ BY.out).mono ?_
  rintro e w12 ⟨rfl, b12⟩
  have BZ := hide (Below.chain BY.out b12)
  clear b12
  go_wp2
  go_ret
  exact ⟨rfl, BZ.out⟩
set_option maxRecDepth 100000 in
set_option maxHeartbeats 2000000 in
theorem ver_1 {u v t : Value} {l m n : List Nat} {a e : Int} {x : Nat} {w : World} (h : BsAt w u l) (hv : BsAt w v m) (hn : BsAt w t n) (hx : x < 256) (hl : l.length ≤ 100) (hm : m.length ≤ 500) (hnl : n.length ≤ 100) (LDi : LaidW 2 exw w) (LDe : LaidW 3 eiw w) (LDm : LaidW 1 rmw w) (ht : Sh.Tabs w) (hL : Sc.Laid w) (he : (IntKind.u64.wrap e).tmod 5 = 1) :
    Calls Tryz.prog 4 #[u, v, .int .i64 a, .int .u8 (x : Int), t, .int .i64 e] w fun e w' => e = .returned (.bool true) ∧ Below w.heap.size w w' := by
  obtain ⟨K, hK⟩ : ∃ K, fullb l = K := ⟨_, rfl⟩
  have hKl : K.length = 32 := by rw [← hK]; exact fullb_len l
  obtain ⟨A, hA⟩ : ∃ A, sigB K m = A := ⟨_, rfl⟩
  have hAl : A.length = 64 := by rw [← hA]; exact len_sigB m hKl
  obtain ⟨P, hP⟩ : ∃ P, pubB K = P := ⟨_, rfl⟩
  have hPl : P.length = 32 := by rw [← hP]; exact len_pubB hKl
  have hT : ∀ {W}, Below w.heap.size w W → Sh.Tabs W := fun hW => ht.below hW ht.2.2
  have HS := hide (seed_any h hl)
  rw [hK] at HS
  have HG : Hid (∀ (W : World) (x y : Value), Below w.heap.size w W → BsAt W x K → BsAt W y m → Calls Tryz.prog 9 #[x, y] W fun e w' => ∃ v, e = .returned v ∧ Own w' W.heap.size v A ∧ Below W.heap.size W w') := fun W x y hW hx hy => by
    have h := Sign_any hx hy (by omega) (LDi.step hW) (hT hW) (hL.step hW); rw [hA] at h; exact h
  have HU : Hid (∀ (W : World) (x : Value), Below w.heap.size w W → BsAt W x K → Calls Tryz.prog 7 #[x] W fun e w' => ∃ v, e = .returned v ∧ Own w' W.heap.size v P ∧ Below W.heap.size W w') := fun W x hW hx => by
    have h := Public_any hx (LDi.step hW) (hT hW); rw [hP] at h; exact h
  have HY : Hid (∀ (W : World) (x y z : Value) (p q s : List Nat), Below w.heap.size w W → BsAt W x p → BsAt W y q → BsAt W z s → q.length ≤ 1000000 → Calls Tryz.prog 12 #[x, y, z] W fun e w' => e = .returned (.bool (verB p q s)) ∧ Below W.heap.size W w') := fun W x y z p q s hW hx hy hz hq => Verify_any hx hy hz hq (LDi.step hW) (LDe.step hW) (LDm.step hW) (hT hW) (hL.step hW)
  have HZ : Hid (∀ (W : World) (x y z : Value) (p q s : List Nat), BsAt W x p → BsAt W y q → BsAt W z s → q.length ≤ 1000000 → Calls Tryz.prog 13 #[x, y, z] W fun e w' => e = .returned (.bool (verB p q s)) ∧ Below W.heap.size W w') := fun W x y z p q s hx hy hz hq => rVerify hx hy hz hq
  have HW : Hid (∀ (W : World), Below w.heap.size w W → Calls Tryz.prog 6 #[] W fun e w' => e = .returned (.bool true) ∧ Below W.heap.size W w') := fun W hW => awake_any (LDi.step hW) (hT hW)
  have HV := hide (And.intro hv hn)
  have HL := hide (And.intro hKl (And.intro hAl (And.intro hPl (And.intro hm hnl))))
  obtain ⟨ao, c, rfl, _, _⟩ := h.len
  obtain ⟨am, cm, rfl, _, _⟩ := hv.len
  obtain ⟨an, cn, rfl, _, _⟩ := hn.len
  have d0 : decide ((100 : Int) < (l.length : Int)) = false := decide_eq_false (by omega)
  have d1 : decide ((500 : Int) < (m.length : Int)) = false := decide_eq_false (by omega)
  have d2 : decide ((100 : Int) < (n.length : Int)) = false := decide_eq_false (by omega)
  clear h hv hn hl hm hnl LDi LDe LDm ht hL hK hA hP hKl hAl hPl hT
  go_enter Tryz.func4, Tryz.ntmps4
  go_wp2_with fail
  refine HS.out.mono ?_
  rintro e w1 ⟨v1, rfl, o1, b1⟩
  have B1 := hide b1
  have O1 := hide o1
  clear b1 o1 HS d0 d1 d2
  go_wp2_with fail
  refine (HU.out _ _ B1.out O1.out.at).mono ?_
  rintro e w2 ⟨v2, rfl, o2, b2⟩
  obtain ⟨gp, cp, rfl, hgp, _, hcp, _⟩ := o2.form (by rw [HL.out.2.2.1]; decide)
  rw [HL.out.2.2.1] at o2 hcp ⊢
  have B2 := hide (Below.chain B1.out b2)
  have O2 := hide (O1.out.ext b2)
  have P2 := hide (o2.low B1.out.size)
  replace hgp := Nat.le_trans B1.out.size hgp
  clear b2 o2 O1 B1
  go_wp2_with fail
  refine (HG.out _ _ _ B2.out O2.out.at (HV.out.1.ext B2.out)).mono ?_
  rintro e w3 ⟨v3, rfl, o3, b3⟩
  obtain ⟨ga, ca, rfl, hga, _, hca, _⟩ := o3.form (by rw [HL.out.2.1]; decide)
  rw [HL.out.2.1] at o3 hca ⊢
  have hne : gp < ga := by
    have := P2.out.row.lt gp rfl
    have := hga
    omega
  have B3 := hide (Below.chain B2.out b3)
  have P3 := hide (P2.out.ext b3)
  have A3 := hide (o3.low B2.out.size)
  have hga3 := (A3.out.row.lt ga rfl).2
  replace hga := Nat.le_trans B2.out.size hga
  clear b3 o3 O2 B2 P2
  have B3e := hide ((Below.refl w3.heap.size w3).alloc (Nat.le_refl _) (.cells #[] 5))
  go_wp2_with (at_builtin; refine wpList_append_b rfl (.tmp 46) (.tmp 47) rfl (base := w3.heap.size) (l := []) (m := m) own_none0 ((HV.out.1.ext B3.out).ext B3e.out) (by have := HL.out.2.2.2.1; simp; omega) (by simp) ?_)
  intro v4 w4 o4 g4
  have b4 := below_gr B3e.out own_none0 (Nat.le_refl _) g4
  have B4 := hide (Below.chain B3.out b4)
  have P4 := hide (P3.out.ext b4)
  have A4 := hide (A3.out.ext b4)
  have M4 : Hid (Own w4 w3.heap.size v4 m) := o4
  have Y4 := hide b4
  have Z4 := hide b4.size
  clear b4 g4 o4 B3e
  obtain ⟨k, hk, hka⟩ : ∃ k : Nat, k < 32 ∧ (IntKind.u64.wrap a).tmod 32 = (k : Int) := u64_rem a 32 (by decide)
  have hkw : IntKind.i64.wrap (k : Int) = (k : Int) := i64_small (by omega)
  have hix : ∀ W : World, (Instr.indexAt 22 (.slice (some ⟨gp, 0, none⟩) 32 cp) (.int .i64 (k : Int))).run Tryz.prog W = .ok (.pointer (some ⟨gp, k, none⟩)) W := fun W => by simpa using run_ix W gp 0 32 cp k hk
  have hll : P.length = 32 := HL.out.2.2.1
  have R4 : Own w4 w.heap.size (.slice (some ⟨gp, 0, none⟩) P.length cp) P := by rw [hll]; exact P4.out
  have ck : w4.cell? ⟨gp, k, none⟩ = some (.int .u8 ((P.getD k 0 : Nat) : Int)) := by rw [R4.row.cellAt k (by rw [hll, Nat.mul_one]; exact hk), nv_get P k (by rw [hll]; exact hk)]
  have fk := R4.row.frozenAt k
  have hxx := u8_xor_nat (P.getD k 0) x (P4.out.lim k) hx
  have hzz : (P.getD k 0 ^^^ x) < 256 := Nat.xor_lt_two_pow (n := 8) (P4.out.lim k) hx
  have r4 := R4.set k _ hzz
  rw [hll] at r4
  have E4 := hide r4
  obtain ⟨z, hz⟩ : ∃ z, P.getD k 0 ^^^ x = z := ⟨_, rfl⟩
  rw [hz] at hxx E4
  clear r4 R4
  have PV := hide E4.out.at
  have MV := hide (bs_own (g := gp) (i := k) (x := .int .u8 (z : Int)) M4.out (Nat.lt_trans hne hga3))
  have SV := hide (bs_far (g := gp) (i := k) (x := .int .u8 (z : Int)) A4.out.at (by omega))
  have BW := hide (Below.setCell (p := ⟨gp, k, none⟩) B4.out hgp (.int .u8 (z : Int)))
  generalize hG : P.getD k 0 = y at *
  have DW : Hid (m.length ≤ 1000000) := by show _ ≤ _; have := HL.out.2.2.2.1; omega
  clear E4 hz hzz hG hll
  go_wp2_with fail
  generalize w4.setCell ⟨gp, k, none⟩ (.int .u8 (z : Int)) = W9 at *
  refine (HY.out _ _ _ _ _ _ _ BW.out PV.out MV.out SV.out DW.out).mono ?_
  rintro e w10 ⟨rfl, b10⟩
  have BX := hide (Below.chain BW.out b10)
  have HZ2 := hide (HZ.out _ _ _ _ _ _ _ (PV.out.ext b10) (MV.out.ext b10) (SV.out.ext b10) DW.out)
  clear b10
  generalize verB _ _ _ = d at *
  go_wp2_with fail
  refine HZ2.out.mono ?_
  rintro e w11 ⟨rfl, b11⟩
  have BY := hide (Below.chain BX.out b11)
  clear b11 HZ2
  go_wp2_with fail
  refine (HW.out _ BY.out).mono ?_
  rintro e w12 ⟨rfl, b12⟩
  have BZ := hide (Below.chain BY.out b12)
  clear b12
  go_wp2
  go_ret
  exact ⟨rfl, BZ.out⟩
set_option maxRecDepth 100000 in
set_option maxHeartbeats 2000000 in
theorem ver_2 {u v t : Value} {l m n : List Nat} {a e : Int} {x : Nat} {w : World} (h : BsAt w u l) (hv : BsAt w v m) (hn : BsAt w t n) (hx : x < 256) (hl : l.length ≤ 100) (hm : m.length ≤ 500) (hnl : n.length ≤ 100) (LDi : LaidW 2 exw w) (LDe : LaidW 3 eiw w) (LDm : LaidW 1 rmw w) (ht : Sh.Tabs w) (hL : Sc.Laid w) (he : (IntKind.u64.wrap e).tmod 5 = 2) :
    Calls Tryz.prog 4 #[u, v, .int .i64 a, .int .u8 (x : Int), t, .int .i64 e] w fun e w' => e = .returned (.bool true) ∧ Below w.heap.size w w' := by
  obtain ⟨K, hK⟩ : ∃ K, fullb l = K := ⟨_, rfl⟩
  have hKl : K.length = 32 := by rw [← hK]; exact fullb_len l
  obtain ⟨A, hA⟩ : ∃ A, sigB K m = A := ⟨_, rfl⟩
  have hAl : A.length = 64 := by rw [← hA]; exact len_sigB m hKl
  obtain ⟨P, hP⟩ : ∃ P, pubB K = P := ⟨_, rfl⟩
  have hPl : P.length = 32 := by rw [← hP]; exact len_pubB hKl
  have hT : ∀ {W}, Below w.heap.size w W → Sh.Tabs W := fun hW => ht.below hW ht.2.2
  have HS := hide (seed_any h hl)
  rw [hK] at HS
  have HG : Hid (∀ (W : World) (x y : Value), Below w.heap.size w W → BsAt W x K → BsAt W y m → Calls Tryz.prog 9 #[x, y] W fun e w' => ∃ v, e = .returned v ∧ Own w' W.heap.size v A ∧ Below W.heap.size W w') := fun W x y hW hx hy => by
    have h := Sign_any hx hy (by omega) (LDi.step hW) (hT hW) (hL.step hW); rw [hA] at h; exact h
  have HU : Hid (∀ (W : World) (x : Value), Below w.heap.size w W → BsAt W x K → Calls Tryz.prog 7 #[x] W fun e w' => ∃ v, e = .returned v ∧ Own w' W.heap.size v P ∧ Below W.heap.size W w') := fun W x hW hx => by
    have h := Public_any hx (LDi.step hW) (hT hW); rw [hP] at h; exact h
  have HY : Hid (∀ (W : World) (x y z : Value) (p q s : List Nat), Below w.heap.size w W → BsAt W x p → BsAt W y q → BsAt W z s → q.length ≤ 1000000 → Calls Tryz.prog 12 #[x, y, z] W fun e w' => e = .returned (.bool (verB p q s)) ∧ Below W.heap.size W w') := fun W x y z p q s hW hx hy hz hq => Verify_any hx hy hz hq (LDi.step hW) (LDe.step hW) (LDm.step hW) (hT hW) (hL.step hW)
  have HZ : Hid (∀ (W : World) (x y z : Value) (p q s : List Nat), BsAt W x p → BsAt W y q → BsAt W z s → q.length ≤ 1000000 → Calls Tryz.prog 13 #[x, y, z] W fun e w' => e = .returned (.bool (verB p q s)) ∧ Below W.heap.size W w') := fun W x y z p q s hx hy hz hq => rVerify hx hy hz hq
  have HW : Hid (∀ (W : World), Below w.heap.size w W → Calls Tryz.prog 6 #[] W fun e w' => e = .returned (.bool true) ∧ Below W.heap.size W w') := fun W hW => awake_any (LDi.step hW) (hT hW)
  have HV := hide (And.intro hv hn)
  have HL := hide (And.intro hKl (And.intro hAl (And.intro hPl (And.intro hm hnl))))
  obtain ⟨ao, c, rfl, _, _⟩ := h.len
  obtain ⟨am, cm, rfl, _, _⟩ := hv.len
  obtain ⟨an, cn, rfl, _, _⟩ := hn.len
  have d0 : decide ((100 : Int) < (l.length : Int)) = false := decide_eq_false (by omega)
  have d1 : decide ((500 : Int) < (m.length : Int)) = false := decide_eq_false (by omega)
  have d2 : decide ((100 : Int) < (n.length : Int)) = false := decide_eq_false (by omega)
  clear h hv hn hl hm hnl LDi LDe LDm ht hL hK hA hP hKl hAl hPl hT
  go_enter Tryz.func4, Tryz.ntmps4
  go_wp2_with fail
  refine HS.out.mono ?_
  rintro e w1 ⟨v1, rfl, o1, b1⟩
  have B1 := hide b1
  have O1 := hide o1
  clear b1 o1 HS d0 d1 d2
  go_wp2_with fail
  refine (HU.out _ _ B1.out O1.out.at).mono ?_
  rintro e w2 ⟨v2, rfl, o2, b2⟩
  obtain ⟨gp, cp, rfl, hgp, _, hcp, _⟩ := o2.form (by rw [HL.out.2.2.1]; decide)
  rw [HL.out.2.2.1] at o2 hcp ⊢
  have B2 := hide (Below.chain B1.out b2)
  have O2 := hide (O1.out.ext b2)
  have P2 := hide (o2.low B1.out.size)
  replace hgp := Nat.le_trans B1.out.size hgp
  clear b2 o2 O1 B1
  go_wp2_with fail
  refine (HG.out _ _ _ B2.out O2.out.at (HV.out.1.ext B2.out)).mono ?_
  rintro e w3 ⟨v3, rfl, o3, b3⟩
  obtain ⟨ga, ca, rfl, hga, _, hca, _⟩ := o3.form (by rw [HL.out.2.1]; decide)
  rw [HL.out.2.1] at o3 hca ⊢
  have hne : gp < ga := by
    have := P2.out.row.lt gp rfl
    have := hga
    omega
  have B3 := hide (Below.chain B2.out b3)
  have P3 := hide (P2.out.ext b3)
  have A3 := hide (o3.low B2.out.size)
  have hga3 := (A3.out.row.lt ga rfl).2
  replace hga := Nat.le_trans B2.out.size hga
  clear b3 o3 O2 B2 P2
  have B3e := hide ((Below.refl w3.heap.size w3).alloc (Nat.le_refl _) (.cells #[] 5))
  go_wp2_with (at_builtin; refine wpList_append_b rfl (.tmp 46) (.tmp 47) rfl (base := w3.heap.size) (l := []) (m := m) own_none0 ((HV.out.1.ext B3.out).ext B3e.out) (by have := HL.out.2.2.2.1; simp; omega) (by simp) ?_)
  intro v4 w4 o4 g4
  have b4 := below_gr B3e.out own_none0 (Nat.le_refl _) g4
  have B4 := hide (Below.chain B3.out b4)
  have P4 := hide (P3.out.ext b4)
  have A4 := hide (A3.out.ext b4)
  have M4 : Hid (Own w4 w3.heap.size v4 m) := o4
  have Y4 := hide b4
  have Z4 := hide b4.size
  clear b4 g4 o4 B3e
  have b4e := (Below.refl w4.heap.size w4).alloc (Nat.le_refl _) (.cells #[.int .u8 (x : Int)] 5)
  have B4e := hide b4e
  have L1 : Hid (BsAt (w4.alloc (.cells #[.int .u8 (x : Int)] 5)) (.slice (some ⟨w4.heap.size, 0, none⟩) 1 1) [x]) := marked_at (w := w4) [x] (lim_one hx) (by show 1 ≤ maxLen; decide) (0, 0)
  clear b4e
  go_wp2_with (at_builtin; refine wpList_append_b rfl (.tmp 79) (.tmp 81) rfl (base := w3.heap.size) (l := m) (m := [x]) (M4.out.ext B4e.out) L1.out (by have := HL.out.2.2.2.1; simp; omega) (Nat.le_trans Z4.out B4e.out.size) ?_)
  intro v5 w5 o5 g5
  have b5 := below_gr (w := w3) (Below.trans Y4.out (B4e.out.mono Z4.out)) (M4.out.ext B4e.out) (Nat.le_refl _) g5
  have PV := hide (P3.out.ext b5).at
  have SV := hide (A3.out.ext b5).at
  have MV : Hid (BsAt w5 v5 (m ++ [x])) := o5.at
  have BW := hide (Below.chain B3.out b5)
  have DW : Hid ((m ++ [x]).length ≤ 1000000) := by show _ ≤ _; have := HL.out.2.2.2.1; rw [List.length_append]; simp; omega
  clear b5 g5 o5 B4e L1
  go_wp2_with fail
  refine (HY.out _ _ _ _ _ _ _ BW.out PV.out MV.out SV.out DW.out).mono ?_
  rintro e w10 ⟨rfl, b10⟩
  have BX := hide (Below.chain BW.out b10)
  have HZ2 := hide (HZ.out _ _ _ _ _ _ _ (PV.out.ext b10) (MV.out.ext b10) (SV.out.ext b10) DW.out)
  clear b10
  generalize verB _ _ _ = d at *
  go_wp2_with fail
  refine HZ2.out.mono ?_
  rintro e w11 ⟨rfl, b11⟩
  have BY := hide (Below.chain BX.out b11)
  clear b11 HZ2
  go_wp2_with fail
  refine (HW.out _ BY.out).mono ?_
  rintro e w12 ⟨rfl, b12⟩
  have BZ := hide (Below.chain BY.out b12)
  clear b12
  go_wp2
  go_ret
  exact ⟨rfl, BZ.out⟩
set_option maxRecDepth 100000 in
set_option maxHeartbeats 2000000 in
theorem ver_3 {u v t : Value} {l m n : List Nat} {a e : Int} {x : Nat} {w : World} (h : BsAt w u l) (hv : BsAt w v m) (hn : BsAt w t n) (hl : l.length ≤ 100) (hm : m.length ≤ 500) (hnl : n.length ≤ 100) (LDi : LaidW 2 exw w) (LDe : LaidW 3 eiw w) (LDm : LaidW 1 rmw w) (ht : Sh.Tabs w) (hL : Sc.Laid w) (he : (IntKind.u64.wrap e).tmod 5 = 3) :
    Calls Tryz.prog 4 #[u, v, .int .i64 a, .int .u8 (x : Int), t, .int .i64 e] w fun e w' => e = .returned (.bool true) ∧ Below w.heap.size w w' := by
  obtain ⟨K, hK⟩ : ∃ K, fullb l = K := ⟨_, rfl⟩
  have hKl : K.length = 32 := by rw [← hK]; exact fullb_len l
  obtain ⟨A, hA⟩ : ∃ A, sigB K m = A := ⟨_, rfl⟩
  have hAl : A.length = 64 := by rw [← hA]; exact len_sigB m hKl
  obtain ⟨P, hP⟩ : ∃ P, pubB K = P := ⟨_, rfl⟩
  have hPl : P.length = 32 := by rw [← hP]; exact len_pubB hKl
  have hT : ∀ {W}, Below w.heap.size w W → Sh.Tabs W := fun hW => ht.below hW ht.2.2
  have HS := hide (seed_any h hl)
  rw [hK] at HS
  have HG : Hid (∀ (W : World) (x y : Value), Below w.heap.size w W → BsAt W x K → BsAt W y m → Calls Tryz.prog 9 #[x, y] W fun e w' => ∃ v, e = .returned v ∧ Own w' W.heap.size v A ∧ Below W.heap.size W w') := fun W x y hW hx hy => by
    have h := Sign_any hx hy (by omega) (LDi.step hW) (hT hW) (hL.step hW); rw [hA] at h; exact h
  have HU : Hid (∀ (W : World) (x : Value), Below w.heap.size w W → BsAt W x K → Calls Tryz.prog 7 #[x] W fun e w' => ∃ v, e = .returned v ∧ Own w' W.heap.size v P ∧ Below W.heap.size W w') := fun W x hW hx => by
    have h := Public_any hx (LDi.step hW) (hT hW); rw [hP] at h; exact h
  have HY : Hid (∀ (W : World) (x y z : Value) (p q s : List Nat), Below w.heap.size w W → BsAt W x p → BsAt W y q → BsAt W z s → q.length ≤ 1000000 → Calls Tryz.prog 12 #[x, y, z] W fun e w' => e = .returned (.bool (verB p q s)) ∧ Below W.heap.size W w') := fun W x y z p q s hW hx hy hz hq => Verify_any hx hy hz hq (LDi.step hW) (LDe.step hW) (LDm.step hW) (hT hW) (hL.step hW)
  have HZ : Hid (∀ (W : World) (x y z : Value) (p q s : List Nat), BsAt W x p → BsAt W y q → BsAt W z s → q.length ≤ 1000000 → Calls Tryz.prog 13 #[x, y, z] W fun e w' => e = .returned (.bool (verB p q s)) ∧ Below W.heap.size W w') := fun W x y z p q s hx hy hz hq => rVerify hx hy hz hq
  have HW : Hid (∀ (W : World), Below w.heap.size w W → Calls Tryz.prog 6 #[] W fun e w' => e = .returned (.bool true) ∧ Below W.heap.size W w') := fun W hW => awake_any (LDi.step hW) (hT hW)
  have HV := hide (And.intro hv hn)
  have HL := hide (And.intro hKl (And.intro hAl (And.intro hPl (And.intro hm hnl))))
  obtain ⟨ao, c, rfl, _, _⟩ := h.len
  obtain ⟨am, cm, rfl, _, _⟩ := hv.len
  obtain ⟨an, cn, rfl, _, _⟩ := hn.len
  have d0 : decide ((100 : Int) < (l.length : Int)) = false := decide_eq_false (by omega)
  have d1 : decide ((500 : Int) < (m.length : Int)) = false := decide_eq_false (by omega)
  have d2 : decide ((100 : Int) < (n.length : Int)) = false := decide_eq_false (by omega)
  clear h hv hn hl hm hnl LDi LDe LDm ht hL hK hA hP hKl hAl hPl hT
  go_enter Tryz.func4, Tryz.ntmps4
  go_wp2_with fail
  refine HS.out.mono ?_
  rintro e w1 ⟨v1, rfl, o1, b1⟩
  have B1 := hide b1
  have O1 := hide o1
  clear b1 o1 HS d0 d1 d2
  go_wp2_with fail
  refine (HU.out _ _ B1.out O1.out.at).mono ?_
  rintro e w2 ⟨v2, rfl, o2, b2⟩
  obtain ⟨gp, cp, rfl, hgp, _, hcp, _⟩ := o2.form (by rw [HL.out.2.2.1]; decide)
  rw [HL.out.2.2.1] at o2 hcp ⊢
  have B2 := hide (Below.chain B1.out b2)
  have O2 := hide (O1.out.ext b2)
  have P2 := hide (o2.low B1.out.size)
  replace hgp := Nat.le_trans B1.out.size hgp
  clear b2 o2 O1 B1
  go_wp2_with fail
  refine (HG.out _ _ _ B2.out O2.out.at (HV.out.1.ext B2.out)).mono ?_
  rintro e w3 ⟨v3, rfl, o3, b3⟩
  obtain ⟨ga, ca, rfl, hga, _, hca, _⟩ := o3.form (by rw [HL.out.2.1]; decide)
  rw [HL.out.2.1] at o3 hca ⊢
  have hne : gp < ga := by
    have := P2.out.row.lt gp rfl
    have := hga
    omega
  have B3 := hide (Below.chain B2.out b3)
  have P3 := hide (P2.out.ext b3)
  have A3 := hide (o3.low B2.out.size)
  have hga3 := (A3.out.row.lt ga rfl).2
  replace hga := Nat.le_trans B2.out.size hga
  clear b3 o3 O2 B2 P2
  have B3e := hide ((Below.refl w3.heap.size w3).alloc (Nat.le_refl _) (.cells #[] 5))
  go_wp2_with (at_builtin; refine wpList_append_b rfl (.tmp 46) (.tmp 47) rfl (base := w3.heap.size) (l := []) (m := m) own_none0 ((HV.out.1.ext B3.out).ext B3e.out) (by have := HL.out.2.2.2.1; simp; omega) (by simp) ?_)
  intro v4 w4 o4 g4
  have b4 := below_gr B3e.out own_none0 (Nat.le_refl _) g4
  have B4 := hide (Below.chain B3.out b4)
  have P4 := hide (P3.out.ext b4)
  have A4 := hide (A3.out.ext b4)
  have M4 : Hid (Own w4 w3.heap.size v4 m) := o4
  have Y4 := hide b4
  have Z4 := hide b4.size
  clear b4 g4 o4 B3e
  have PV := hide P4.out.at
  have SV := hide (HV.out.2.ext B4.out)
  have MV := hide M4.out.at
  have BW := hide B4.out
  have DW : Hid (m.length ≤ 1000000) := by show _ ≤ _; have := HL.out.2.2.2.1; omega
  go_wp2_with fail
  refine (HY.out _ _ _ _ _ _ _ BW.out PV.out MV.out SV.out DW.out).mono ?_
  rintro e w10 ⟨rfl, b10⟩
  have BX := hide (Below.chain BW.out b10)
  have HZ2 := hide (HZ.out _ _ _ _ _ _ _ (PV.out.ext b10) (MV.out.ext b10) (SV.out.ext b10) DW.out)
  clear b10
  generalize verB _ _ _ = d at *
  go_wp2_with fail
  refine HZ2.out.mono ?_
  rintro e w11 ⟨rfl, b11⟩
  have BY := hide (Below.chain BX.out b11)
  clear b11 HZ2
  go_wp2_with fail
  refine (HW.out _ BY.out).mono ?_
  rintro e w12 ⟨rfl, b12⟩
  have BZ := hide (Below.chain BY.out b12)
  clear b12
  go_wp2
  go_ret
  exact ⟨rfl, BZ.out⟩
set_option maxRecDepth 100000 in
set_option maxHeartbeats 2000000 in
theorem ver_4 {u v t : Value} {l m n : List Nat} {a e : Int} {x : Nat} {w : World} (h : BsAt w u l) (hv : BsAt w v m) (hn : BsAt w t n) (hl : l.length ≤ 100) (hm : m.length ≤ 500) (hnl : n.length ≤ 100) (LDi : LaidW 2 exw w) (LDe : LaidW 3 eiw w) (LDm : LaidW 1 rmw w) (ht : Sh.Tabs w) (hL : Sc.Laid w) (he : (IntKind.u64.wrap e).tmod 5 = 4) :
    Calls Tryz.prog 4 #[u, v, .int .i64 a, .int .u8 (x : Int), t, .int .i64 e] w fun e w' => e = .returned (.bool true) ∧ Below w.heap.size w w' := by
  obtain ⟨K, hK⟩ : ∃ K, fullb l = K := ⟨_, rfl⟩
  have hKl : K.length = 32 := by rw [← hK]; exact fullb_len l
  obtain ⟨A, hA⟩ : ∃ A, sigB K m = A := ⟨_, rfl⟩
  have hAl : A.length = 64 := by rw [← hA]; exact len_sigB m hKl
  obtain ⟨P, hP⟩ : ∃ P, pubB K = P := ⟨_, rfl⟩
  have hPl : P.length = 32 := by rw [← hP]; exact len_pubB hKl
  have hT : ∀ {W}, Below w.heap.size w W → Sh.Tabs W := fun hW => ht.below hW ht.2.2
  have HS := hide (seed_any h hl)
  rw [hK] at HS
  have HG : Hid (∀ (W : World) (x y : Value), Below w.heap.size w W → BsAt W x K → BsAt W y m → Calls Tryz.prog 9 #[x, y] W fun e w' => ∃ v, e = .returned v ∧ Own w' W.heap.size v A ∧ Below W.heap.size W w') := fun W x y hW hx hy => by
    have h := Sign_any hx hy (by omega) (LDi.step hW) (hT hW) (hL.step hW); rw [hA] at h; exact h
  have HU : Hid (∀ (W : World) (x : Value), Below w.heap.size w W → BsAt W x K → Calls Tryz.prog 7 #[x] W fun e w' => ∃ v, e = .returned v ∧ Own w' W.heap.size v P ∧ Below W.heap.size W w') := fun W x hW hx => by
    have h := Public_any hx (LDi.step hW) (hT hW); rw [hP] at h; exact h
  have HY : Hid (∀ (W : World) (x y z : Value) (p q s : List Nat), Below w.heap.size w W → BsAt W x p → BsAt W y q → BsAt W z s → q.length ≤ 1000000 → Calls Tryz.prog 12 #[x, y, z] W fun e w' => e = .returned (.bool (verB p q s)) ∧ Below W.heap.size W w') := fun W x y z p q s hW hx hy hz hq => Verify_any hx hy hz hq (LDi.step hW) (LDe.step hW) (LDm.step hW) (hT hW) (hL.step hW)
  have HZ : Hid (∀ (W : World) (x y z : Value) (p q s : List Nat), BsAt W x p → BsAt W y q → BsAt W z s → q.length ≤ 1000000 → Calls Tryz.prog 13 #[x, y, z] W fun e w' => e = .returned (.bool (verB p q s)) ∧ Below W.heap.size W w') := fun W x y z p q s hx hy hz hq => rVerify hx hy hz hq
  have HW : Hid (∀ (W : World), Below w.heap.size w W → Calls Tryz.prog 6 #[] W fun e w' => e = .returned (.bool true) ∧ Below W.heap.size W w') := fun W hW => awake_any (LDi.step hW) (hT hW)
  have HV := hide (And.intro hv hn)
  have HL := hide (And.intro hKl (And.intro hAl (And.intro hPl (And.intro hm hnl))))
  obtain ⟨ao, c, rfl, _, _⟩ := h.len
  obtain ⟨am, cm, rfl, _, _⟩ := hv.len
  obtain ⟨an, cn, rfl, _, _⟩ := hn.len
  have d0 : decide ((100 : Int) < (l.length : Int)) = false := decide_eq_false (by omega)
  have d1 : decide ((500 : Int) < (m.length : Int)) = false := decide_eq_false (by omega)
  have d2 : decide ((100 : Int) < (n.length : Int)) = false := decide_eq_false (by omega)
  clear h hv hn hl hm hnl LDi LDe LDm ht hL hK hA hP hKl hAl hPl hT
  go_enter Tryz.func4, Tryz.ntmps4
  go_wp2_with fail
  refine HS.out.mono ?_
  rintro e w1 ⟨v1, rfl, o1, b1⟩
  have B1 := hide b1
  have O1 := hide o1
  clear b1 o1 HS d0 d1 d2
  go_wp2_with fail
  refine (HU.out _ _ B1.out O1.out.at).mono ?_
  rintro e w2 ⟨v2, rfl, o2, b2⟩
  obtain ⟨gp, cp, rfl, hgp, _, hcp, _⟩ := o2.form (by rw [HL.out.2.2.1]; decide)
  rw [HL.out.2.2.1] at o2 hcp ⊢
  have B2 := hide (Below.chain B1.out b2)
  have O2 := hide (O1.out.ext b2)
  have P2 := hide (o2.low B1.out.size)
  replace hgp := Nat.le_trans B1.out.size hgp
  clear b2 o2 O1 B1
  go_wp2_with fail
  refine (HG.out _ _ _ B2.out O2.out.at (HV.out.1.ext B2.out)).mono ?_
  rintro e w3 ⟨v3, rfl, o3, b3⟩
  obtain ⟨ga, ca, rfl, hga, _, hca, _⟩ := o3.form (by rw [HL.out.2.1]; decide)
  rw [HL.out.2.1] at o3 hca ⊢
  have hne : gp < ga := by
    have := P2.out.row.lt gp rfl
    have := hga
    omega
  have B3 := hide (Below.chain B2.out b3)
  have P3 := hide (P2.out.ext b3)
  have A3 := hide (o3.low B2.out.size)
  have hga3 := (A3.out.row.lt ga rfl).2
  replace hga := Nat.le_trans B2.out.size hga
  clear b3 o3 O2 B2 P2
  have B3e := hide ((Below.refl w3.heap.size w3).alloc (Nat.le_refl _) (.cells #[] 5))
  go_wp2_with (at_builtin; refine wpList_append_b rfl (.tmp 46) (.tmp 47) rfl (base := w3.heap.size) (l := []) (m := m) own_none0 ((HV.out.1.ext B3.out).ext B3e.out) (by have := HL.out.2.2.2.1; simp; omega) (by simp) ?_)
  intro v4 w4 o4 g4
  have b4 := below_gr B3e.out own_none0 (Nat.le_refl _) g4
  have B4 := hide (Below.chain B3.out b4)
  have P4 := hide (P3.out.ext b4)
  have A4 := hide (A3.out.ext b4)
  have M4 : Hid (Own w4 w3.heap.size v4 m) := o4
  have Y4 := hide b4
  have Z4 := hide b4.size
  clear b4 g4 o4 B3e
  have PV := hide (HV.out.2.ext B4.out)
  have SV := hide A4.out.at
  have MV := hide M4.out.at
  have BW := hide B4.out
  have DW : Hid (m.length ≤ 1000000) := by show _ ≤ _; have := HL.out.2.2.2.1; omega
  go_wp2_with fail
  refine (HY.out _ _ _ _ _ _ _ BW.out PV.out MV.out SV.out DW.out).mono ?_
  rintro e w10 ⟨rfl, b10⟩
  have BX := hide (Below.chain BW.out b10)
  have HZ2 := hide (HZ.out _ _ _ _ _ _ _ (PV.out.ext b10) (MV.out.ext b10) (SV.out.ext b10) DW.out)
  clear b10
  generalize verB _ _ _ = d at *
  go_wp2_with fail
  refine HZ2.out.mono ?_
  rintro e w11 ⟨rfl, b11⟩
  have BY := hide (Below.chain BX.out b11)
  clear b11 HZ2
  go_wp2_with fail
  refine (HW.out _ BY.out).mono ?_
  rintro e w12 ⟨rfl, b12⟩
  have BZ := hide (Below.chain BY.out b12)
  clear b12
  go_wp2
  go_ret
  exact ⟨rfl, BZ.out⟩
set_option maxRecDepth 100000 in
set_option maxHeartbeats 1000000 in
theorem signVerifies_walk (u v t : Value) (l m n : List Nat) (a e : Int) (x : Nat) {w : World} (h : BsAt w u l) (hv : BsAt w v m) (hn : BsAt w t n) (hx : x < 256) (LDi : LaidW 2 exw w) (LDe : LaidW 3 eiw w) (LDm : LaidW 1 rmw w) (ht : Sh.Tabs w) (hL : Sc.Laid w) :
    Calls Tryz.prog 4 #[u, v, .int .i64 a, .int .u8 (x : Int), t, .int .i64 e] w fun e w' => e = .returned (.bool true) ∧ Below w.heap.size w w' := by
  by_cases hc : l.length ≤ 100 ∧ m.length ≤ 500 ∧ n.length ≤ 100
  · obtain ⟨hl, hm, hnl⟩ := hc
    obtain ⟨k, hk, he⟩ := u64_rem e 5 (by decide)
    match k, hk with
    | 0, _ => exact ver_0 h hv hn hx hl hm hnl LDi LDe LDm ht hL he
    | 1, _ => exact ver_1 h hv hn hx hl hm hnl LDi LDe LDm ht hL he
    | 2, _ => exact ver_2 h hv hn hx hl hm hnl LDi LDe LDm ht hL he
    | 3, _ => exact ver_3 h hv hn hl hm hnl LDi LDe LDm ht hL he
    | 4, _ => exact ver_4 h hv hn hl hm hnl LDi LDe LDm ht hL he
  have HW := hide (awake_any LDi ht)
  obtain ⟨ao, c, rfl, _, _⟩ := h.len
  obtain ⟨am, cm, rfl, _, _⟩ := hv.len
  obtain ⟨an, cn, rfl, _, _⟩ := hn.len
  by_cases hl : l.length ≤ 100
  · have d0 : decide ((100 : Int) < (l.length : Int)) = false := decide_eq_false (by omega)
    by_cases hm : m.length ≤ 500
    · have d1 : decide ((500 : Int) < (m.length : Int)) = false := decide_eq_false (by omega)
      have d2 : decide ((100 : Int) < (n.length : Int)) = true := decide_eq_true (by omega)
      clear h hv hn hl hm hx LDi LDe LDm ht hL hc
      go_enter Tryz.func4, Tryz.ntmps4
      go_wp2_with fail
      refine HW.out.mono ?_
      rintro e w1 ⟨rfl, b1⟩
      go_wp2
      go_ret
      exact ⟨rfl, b1⟩
    · have d1 : decide ((500 : Int) < (m.length : Int)) = true := decide_eq_true (by omega)
      clear h hv hn hl hm hx LDi LDe LDm ht hL hc
      go_enter Tryz.func4, Tryz.ntmps4
      go_wp2_with fail
      refine HW.out.mono ?_
      rintro e w1 ⟨rfl, b1⟩
      go_wp2
      go_ret
      exact ⟨rfl, b1⟩
  · have d0 : decide ((100 : Int) < (l.length : Int)) = true := decide_eq_true (by omega)
    clear h hv hn hl hx LDi LDe LDm ht hL hc
    go_enter Tryz.func4, Tryz.ntmps4
    go_wp2_with fail
    refine HW.out.mono ?_
    rintro e w1 ⟨rfl, b1⟩
    go_wp2
    go_ret
    exact ⟨rfl, b1⟩
end Go.Proofs.YtobgimpkkjaolaaGreatDoor
