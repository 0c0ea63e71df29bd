/- A number that is the order more is none; a key that is two is as the page has it; without a seed there is nothing: the law SignStrict answers true for all bytes, in any world where the variables lie as the program's text lays them. -/
import Derived.Test.YtobgimpkkjaolaaGreatDoorSp5
import Derived.Test.YtobgimpkkjaolaaGreatDoorSgSame
import Derived.Test.YtobgimpkkjaolaaGreatDoorSpS1
import Derived.BigQuiet
namespace Go.Proofs.YtobgimpkkjaolaaGreatDoor
open Go.RowKit
theorem shr8_run (x : Operand) (X : Nat) (w : World) : (do eqGuard BinOp.shr 3 x (.const (.int .u64 8)) (Value.int .i64 (X : Int)) (.int .u64 8); binOp BinOp.shr 3 (Value.int .i64 (X : Int)) (.int .u64 8) : Sem Value).run Tryz.prog w = .ok (.int .i64 ((X / 256 : Nat) : Int)) w := by
  rw [Int.natCast_ediv]
  go_simp
theorem wpList_shr8 {ops : Array Oper} {rest : List Oper} {o : Oper} {a : Act} {w : World} {Q : Exit → Act → World → Prop} (hgd : o.guard = none) (x : Operand) {X c : Nat} (ho : o.op = .binOp .shr 3 x (.const (.int .u64 8)) 30) (hx : a.eval x = .int .i64 (X : Int)) (hc : X / 256 = c)
    (hk : wpList Tryz.prog ops Q rest (a.put o.dst (.int .i64 (c : Int))) w) : wpList Tryz.prog ops Q (o :: rest) a w := by
  refine wpList_plain hgd fun K hK => ?_
  subst hc
  refine Oper.wp_value (v := .int .i64 ((X / 256 : Nat) : Int)) ?_ (hK _ _ hk)
  have hr := shr8_run x X w
  unfold execOp
  simp only [ho]
  rw [hx]
  exact (by rw [Sem.run_bind]; show Result.andThen _ _ = _; rw [show (do eqGuard BinOp.shr 3 x (.const (.int .u64 8)) (Value.int .i64 (X : Int)) (a.eval (.const (.int .u64 8))); binOp BinOp.shr 3 (Value.int .i64 (X : Int)) (a.eval (.const (.int .u64 8))) : Sem Value).run Tryz.prog w = _ from hr]; rfl)
theorem make32q (w : World) : (Instr.makeSlice 22 (.int .i64 32) (.int .i64 32)).run Tryz.prog w = .ok (.slice (some ⟨w.heap.size, 0, none⟩) 32 32) (w.alloc (.cells (ba (zz 32)) 5)) := by kernel_rfl
theorem sig_may {k : List Nat} (m : List Nat) (hk : k.length = 32) : Sc.mayb ((sigB k m).drop 32) = true := by
  unfold sigB
  rw [if_pos hk]
  have hR := pubOf_len (sgr (scp k) m)
  have e2 : (sigOf (scn k) (scp k) m).drop 32 = sgs (scn k) (scp k) m := by unfold sigOf; rw [List.drop_append_of_le_length (by omega), List.drop_of_length_le (by omega), List.nil_append]
  rw [e2]
  exact (sgs_val _ _ _ (scn_len k)).2
set_option maxRecDepth 100000 in
set_option maxHeartbeats 4000000 in
theorem strict_in {u v : Value} {l m : List Nat} {w : World} (h : BsAt w u l) (hv : BsAt w v m) (hl : l.length ≤ 100) (hm : m.length ≤ 500) (LDi : LaidW 2 exw w) (LDe : LaidW 3 eiw w) (LDm : LaidW 1 rmw w) (ht : Sh.Tabs w) (hL : Sc.Laid w) :
    Calls Tryz.prog 5 #[u, v] w fun e w' => e = .returned (.bool true) ∧ Below w.heap.size w w' := by
  obtain ⟨K, hK⟩ : ∃ K, fullb l = K := ⟨_, rfl⟩
  have hKl : K.length = 32 := by rw [← hK]; exact fullb_len l
  obtain ⟨A, hA⟩ : ∃ A, sigB K m = A := ⟨_, rfl⟩
  have hAl : A.length = 64 := by rw [← hA]; exact len_sigB m hKl
  obtain ⟨P, hP⟩ : ∃ P, pubB K = P := ⟨_, rfl⟩
  have hPl : P.length = 32 := by rw [← hP]; exact len_pubB hKl
  have hT : ∀ {W}, Below w.heap.size w W → Sh.Tabs W := fun hW => ht.below hW ht.2.2
  have HS := hide (seed_any h hl)
  rw [hK] at HS
  have HG : Hid (∀ (W : World) (x y : Value), Below w.heap.size w W → BsAt W x K → BsAt W y m → Calls Tryz.prog 9 #[x, y] W fun e w' => ∃ v, e = .returned v ∧ Own w' W.heap.size v A ∧ Below W.heap.size W w') := fun W x y hW hx hy => by
    have h := Sign_any hx hy (by omega) (LDi.step hW) (hT hW) (hL.step hW); rw [hA] at h; exact h
  have HU : Hid (∀ (W : World) (x : Value), Below w.heap.size w W → BsAt W x K → Calls Tryz.prog 7 #[x] W fun e w' => ∃ v, e = .returned v ∧ Own w' W.heap.size v P ∧ Below W.heap.size W w') := fun W x hW hx => by
    have h := Public_any hx (LDi.step hW) (hT hW); rw [hP] at h; exact h
  have HY : Hid (∀ (W : World) (x y z : Value) (p q s : List Nat), Below w.heap.size w W → BsAt W x p → BsAt W y q → BsAt W z s → q.length ≤ 1000000 → Calls Tryz.prog 12 #[x, y, z] W fun e w' => e = .returned (.bool (verB p q s)) ∧ Below W.heap.size W w') := fun W x y z p q s hW hx hy hz hq => Verify_any hx hy hz hq (LDi.step hW) (LDe.step hW) (LDm.step hW) (hT hW) (hL.step hW)
  have HZ : Hid (∀ (W : World) (x y z : Value) (p q s : List Nat), BsAt W x p → BsAt W y q → BsAt W z s → q.length ≤ 1000000 → Calls Tryz.prog 13 #[x, y, z] W fun e w' => e = .returned (.bool (verB p q s)) ∧ Below W.heap.size W w') := fun W x y z p q s hx hy hz hq => rVerify hx hy hz hq
  have HW : Hid (∀ (W : World), Below w.heap.size w W → Calls Tryz.prog 6 #[] W fun e w' => e = .returned (.bool true) ∧ Below W.heap.size W w') := fun W hW => awake_any (LDi.step hW) (hT hW)
  have hmay := sig_may m hKl
  rw [hA] at hmay
  have hsum := sum_over (A.drop 32) (by rw [List.length_drop, hAl]) hmay
  have HL := hide (And.intro hKl (And.intro hAl (And.intro hPl (And.intro hm hsum))))
  have HV := hide hv
  have HG0 : Hid (∀ (W : World) (x y : Value) (s : List Nat), Below w.heap.size w W → BsAt W x s → BsAt W y m → s.length ≠ 32 → Calls Tryz.prog 9 #[x, y] W fun e w' => ∃ v, e = .returned v ∧ Own w' W.heap.size v [] ∧ Below W.heap.size W w') := fun W x y s hW hx hy hs => by
    have h := Sign_any hx hy (by omega) (LDi.step hW) (hT hW) (hL.step hW); rw [no_sigB m hs] at h; exact h
  have HU0 : Hid (∀ (W : World) (x : Value) (s : List Nat), Below w.heap.size w W → BsAt W x s → s.length ≠ 32 → Calls Tryz.prog 7 #[x] W fun e w' => ∃ v, e = .returned v ∧ Own w' W.heap.size v [] ∧ Below W.heap.size W w') := fun W x s hW hx hs => by
    have h := Public_any hx (LDi.step hW) (hT hW); rw [no_pubB hs] at h; exact h
  obtain ⟨ao, c, rfl, _, _⟩ := h.len
  obtain ⟨am, cm, rfl, _, _⟩ := hv.len
  have d0 : decide ((100 : Int) < (l.length : Int)) = false := decide_eq_false (by omega)
  have d1 : decide ((500 : Int) < (m.length : Int)) = false := decide_eq_false (by omega)
  have hcv := fun (W : World) (C : Array Value) => Lib.run_convert_bytes_const (P := Tryz.prog) W 22 5 C 16 16 und22 Tryz.underlying5
  clear h hv hl hm LDi LDe LDm ht hL hK hA hP hKl hAl hPl hT hmay hsum
  go_enter Tryz.func5, Tryz.ntmps5
  go_wp2_with fail
  refine HS.out.mono ?_
  rintro e w1 ⟨v1, rfl, o1, b1⟩
  obtain ⟨gk, ck, rfl, _, _, hck, _⟩ := o1.form (by rw [HL.out.1]; decide)
  rw [HL.out.1] at o1 hck ⊢
  have B1 := hide b1
  have O1 := hide o1
  clear b1 o1 HS d0 d1
  go_wp2_with fail
  refine (HU.out _ _ B1.out O1.out.at).mono ?_
  rintro e w2 ⟨v2, rfl, o2, b2⟩
  have B2 := hide (Below.chain B1.out b2)
  have O2 := hide (O1.out.ext b2)
  have P2 := hide (o2.low B1.out.size)
  clear b2 o2 O1 B1
  go_wp2_with fail
  refine (HG.out _ _ _ B2.out O2.out.at (HV.out.ext B2.out)).mono ?_
  rintro e w3 ⟨v3, rfl, o3, b3⟩
  obtain ⟨ga, ca, rfl, hga, _, hca, _⟩ := o3.form (by rw [HL.out.2.1]; decide)
  rw [HL.out.2.1] at o3 hca ⊢
  have B3 := hide (Below.chain B2.out b3)
  have O3 := hide (O2.out.ext b3)
  have P3 := hide (P2.out.ext b3)
  have A3 := hide (o3.low B2.out.size)
  clear b3 o3 O2 B2 P2 hga
  have J0 : Hid (BsAt (w3.alloc (.cells (ba l16) 5 (16, 17))) (.slice (some ⟨w3.heap.size, 0, none⟩) 16 16) l16) := marked_at l16 l16_lim (by decide) _
  have B0 := hide ((Below.refl w3.heap.size w3).alloc (Nat.le_refl _) (.cells (ba l16) 5 (16, 17)))
  rw [ba_l16] at J0 B0
  go_wp2_with (at_builtin; refine wpList_append_zg rfl 16 (by decide) (.tmp 33) _ rfl rfl rfl J0.out (by decide) (by decide) ?_)
  intro v4 w4 o4 q4
  have b4 := B0.out.grown q4 B0.out.size (by simp)
  obtain ⟨gl, cl, rfl, hg1, hg2, hcl, hcm⟩ := o4.form (by decide)
  have hle : (l16 ++ zz 16).length = 32 := by decide
  rw [hle] at hcl o4 ⊢
  have f31 := o4.row.frozenAt 31
  have c31 : w4.cell? ⟨gl, 31, none⟩ = some (.int .u8 0) := by rw [o4.row.cellAt 31 (by decide)]; rfl
  have hgl : w3.heap.size ≤ gl := Nat.le_trans (by simp) hg1
  have L4 : Hid (Own (w4.setCell ⟨gl, 31, none⟩ (.int .u8 16)) w3.heap.size (.slice (some ⟨gl, 0, none⟩) 32 cl) lbs) := (o4.set 31 16 (by decide)).low (by simp)
  have Y4 : Hid (Below w3.heap.size w3 (w4.setCell ⟨gl, 31, none⟩ (.int .u8 16))) := b4.setCell (p := ⟨gl, 31, none⟩) hgl (.int .u8 (16 : Int))
  clear q4 o4 B0 J0 hle b4 hg1 hg2 hcm hcv
  go_upto_region 9 with fail
  generalize w4.setCell ⟨gl, 31, none⟩ (.int .u8 16) = W5 at *
  clear f31 c31
  have B5 := hide (Below.chain B3.out Y4.out)
  have O5 := hide (O3.out.ext Y4.out)
  have P5 := hide (P3.out.ext Y4.out)
  have A5 := hide (A3.out.ext Y4.out)
  clear Y4 B3 O3 P3 A3
  have B5e := hide ((Below.refl W5.heap.size W5).alloc (Nat.le_refl _) (.cells #[] 5))
  go_wp2_with (at_builtin; refine wpList_append_b rfl (.tmp 37) (.tmp 38) rfl (base := W5.heap.size) (l := []) (m := A) own_none0 (A5.out.ext B5e.out).at (by rw [HL.out.2.1]; decide) (by simp) ?_)
  intro v6 w6 o6 g6
  have b6 := below_gr B5e.out own_none0 (Nat.le_refl _) g6
  have o6' : Own w6 W5.heap.size v6 A := o6
  obtain ⟨gb, cb, rfl, hgb, _, hcb, _⟩ := o6'.form (by rw [HL.out.2.1]; decide)
  rw [HL.out.2.1] at o6' hcb ⊢
  have o60 : Own w6 W5.heap.size (.slice (some ⟨gb, 0, none⟩) 64 cb) (bigk A lbs 0) := by rw [bigk_zero]; exact o6'
  have HI := hide (And.intro o60 b6)
  clear o6 o6' g6 b6 o60 B5e
  go_wp2
  go_loopw [10, 40] (fun cv iv wr => ∃ k : Nat, k ≤ 32 ∧ iv = .int .i64 (k : Int) ∧ cv = .int .i64 ((cyq (A.drop 32) lbs k : Nat) : Int) ∧ Own wr W5.heap.size (.slice (some ⟨gb, 0, none⟩) 64 cb) (bigk A lbs k) ∧ Below W5.heap.size W5 wr) (fun _ i _ => 32 - (intOf i).toNat)
  case atStart => exact ⟨0, by decide, rfl, rfl, HI.out.1, HI.out.2⟩
  case round =>
    obtain ⟨k, hk, rfl, rfl, hob, hbb⟩ := hrel
    by_cases hlt : k < 32
    · have hd : decide ((k : Int) < 32) = true := decide_eq_true (by omega)
      have hAl := HL.out.2.1
      have i1 : ∀ W : World, (Instr.indexAt 22 (.slice (some ⟨ga, 0, none⟩) 64 ca) (.int .i64 (32 + (k : Int)))).run Tryz.prog W = .ok (.pointer (some ⟨ga, 32 + k, none⟩)) W := fun W => by
        have h2 := run_ix W ga 0 64 ca (32 + k) (by omega)
        rw [Nat.zero_add] at h2
        exact h2
      have i2 : ∀ W : World, (Instr.indexAt 22 (.slice (some ⟨gl, 0, none⟩) 32 cl) (.int .i64 (k : Int))).run Tryz.prog W = .ok (.pointer (some ⟨gl, k, none⟩)) W := fun W => by
        have h2 := run_ix W gl 0 32 cl k hlt
        rw [Nat.zero_add] at h2
        exact h2
      have i3 : ∀ W : World, (Instr.indexAt 22 (.slice (some ⟨gb, 0, none⟩) 64 cb) (.int .i64 (32 + (k : Int)))).run Tryz.prog W = .ok (.pointer (some ⟨gb, 32 + k, none⟩)) W := fun W => by
        have h2 := run_ix W gb 0 64 cb (32 + k) (by omega)
        rw [Nat.zero_add] at h2
        exact h2
      have oA : Own wr w.heap.size (.slice (some ⟨ga, 0, none⟩) A.length ca) A := by rw [hAl]; exact A5.out.ext hbb
      have oL : Own wr w3.heap.size (.slice (some ⟨gl, 0, none⟩) lbs.length cl) lbs := L4.out.ext hbb
      have hbl := bigk_len A lbs hAl k hk
      have oB : Own wr W5.heap.size (.slice (some ⟨gb, 0, none⟩) (bigk A lbs k).length cb) (bigk A lbs k) := by rw [hbl]; exact hob
      have c1 : wr.cell? ⟨ga, 32 + k, none⟩ = some (.int .u8 ((A.getD (32 + k) 0 : Nat) : Int)) := by rw [oA.row.cellAt (32 + k) (by rw [hAl]; omega), nv_get A (32 + k) (by omega)]
      have c2 : wr.cell? ⟨gl, k, none⟩ = some (.int .u8 ((lbs.getD k 0 : Nat) : Int)) := by rw [oL.row.cellAt k (by rw [lbs_len]; omega), nv_get lbs k (by rw [lbs_len]; omega)]
      have c3 : wr.cell? ⟨gb, 32 + k, none⟩ = some (.int .u8 (((bigk A lbs k).getD (32 + k) 0 : Nat) : Int)) := by rw [oB.row.cellAt (32 + k) (by rw [hbl]; omega), nv_get _ (32 + k) (by omega)]
      have f3 := oB.row.frozenAt (32 + k)
      have y1 := oA.lim (32 + k)
      have y2 := oL.lim k
      have y3 := cyq_le (S := A.drop 32) (L := lbs) (fun i => by rw [List.getD_eq_getElem?_getD, List.getElem?_drop, ← List.getD_eq_getElem?_getD]; exact oA.lim _) lbs_lim k
      have hzl : (cyq (A.drop 32) lbs k + (A.getD (32 + k) 0 + lbs.getD k 0)) % 256 < 256 := Nat.mod_lt _ (by decide)
      have HN : Hid (∀ n : Nat, Own ((wr.drewN n).setCell ⟨gb, 32 + k, none⟩ (.int .u8 (((cyq (A.drop 32) lbs k + (A.getD (32 + k) 0 + lbs.getD k 0)) % 256 : Nat) : Int))) W5.heap.size (.slice (some ⟨gb, 0, none⟩) 64 cb) (bigk A lbs (k + 1))) := fun n => by
        have oN := (oB.ext (below_dn (Below.refl wr.heap.size wr) n)).set (32 + k) ((cyq (A.drop 32) lbs k + (A.getD (32 + k) 0 + lbs.getD k 0)) % 256) hzl
        rw [bigk_step A lbs hAl k hlt, hbl] at oN
        exact oN
      have hcs := cyq_step A lbs k
      have HB := hide hbb
      generalize A.getD (32 + k) 0 = p1 at *
      generalize lbs.getD k 0 = p2 at *
      generalize (bigk A lbs k).getD (32 + k) 0 = p3 at *
      generalize cyq (A.drop 32) lbs k = q at *
      have HC := hide hcs
      clear hbb hob oA oL oB hbl hcs hAl hzl
      go_upto_region 14 with fail
      go_quiet (fail)
      go_upto_region 15 with fail
      obtain ⟨W9, hW9⟩ : ∃ W9, wr.drewN nq = W9 := ⟨_, rfl⟩
      have c9 : W9.cell? ⟨gb, 32 + k, none⟩ = some (.int .u8 (p3 : Int)) := by rw [← hW9]; exact c3
      have f9 : W9.frozen? ⟨gb, 32 + k, none⟩ = false := by rw [← hW9]; exact f3
      obtain ⟨X, hX⟩ : ∃ X : Nat, q + (p1 + p2) = X := ⟨_, rfl⟩
      have hXi : (q : Int) + ((p1 : Int) + (p2 : Int)) = (X : Int) := by omega
      rw [hX] at HN HC
      rw [hXi]
      have x1 : (0 : Int) ≤ (X : Int) := by omega
      have x2 : (X : Int) ≤ 1000 := by omega
      obtain ⟨cn, hcn⟩ : ∃ n, X / 256 = n := ⟨_, rfl⟩
      have e2 : (X : Int) / 256 = (cn : Int) := by omega
      rw [hcn] at HC
      have e5 : IntKind.u8.wrap (X : Int) = ((X % 256 : Nat) : Int) := by
        show (X : Int) % 256 = _
        omega
      have HD : Hid (Own (W9.setCell ⟨gb, 32 + k, none⟩ (.int .u8 ((X % 256 : Nat) : Int))) W5.heap.size (.slice (some ⟨gb, 0, none⟩) 64 cb) (bigk A lbs (k + 1)) ∧ Below W5.heap.size W5 (W9.setCell ⟨gb, 32 + k, none⟩ (.int .u8 ((X % 256 : Nat) : Int)))) := by
        show _ ∧ _
        rw [← hW9]
        exact ⟨HN.out nq, Below.setCell (p := ⟨gb, 32 + k, none⟩) (below_dn HB.out nq) hgb _⟩
      rw [hW9]
      generalize hZ : X % 256 = z at *
      have HZQ := hide hZ
      clear hW9 c1 c2 c3 f3 HB HN i1 i2 hZ
      go_upto_region 16 with fail
      clear e5 c9 f9 hd i3 hX hXi y1 y2 y3
      go_wp2_with (refine wpList_shr8 rfl (.tmp 63) rfl rfl hcn ?_)
      go_roundw
      case rel => exact ⟨k + 1, by omega, by go_num, by rw [HC.out], HD.out.1, HD.out.2⟩
      case measure => simp [intOf]; omega
    · obtain rfl : k = 32 := by omega
      have hd : decide (((32 : Nat) : Int) < 32) = false := by decide
      have hz0 := HL.out.2.2.2.2.1
      have hvb : ∀ p : List Nat, verB p m (bigk A lbs 32) = false := fun p => ver_may (by rw [bigk_end A lbs HL.out.2.1]; exact HL.out.2.2.2.2.2)
      rw [hz0]
      have s31 : ∀ W : World, (Instr.sliceAt 22 (.slice (some ⟨gk, 0, none⟩) 32 ck) none (some (.int .i64 31)) none).run Tryz.prog W = .ok (.slice (some ⟨gk, 0, none⟩) 31 ck) W := fun W => Sh.run_slice_to W ⟨gk, 0, none⟩ 32 ck 31 (by omega)
      have hmk := make32q
      have B7 := hide (Below.chain B5.out hbb)
      have O7 := hide (O5.out.ext hbb)
      have P7 := hide (P5.out.ext hbb)
      have A7 := hide (A5.out.ext hbb)
      have G7 := hide hob.at
      generalize bigk A lbs 32 = G at *
      have HVB := hide hvb
      clear hob hbb B5 O5 P5 A5 hvb hz0 L4 HI
      have b8 := (Below.refl wr.heap.size wr).alloc (Nat.le_refl _) (.cells (ba (zz 32)) 5)
      have o8 : Own (wr.alloc (.cells (ba (zz 32)) 5)) wr.heap.size (.slice (some ⟨wr.heap.size, 0, none⟩) 32 32) (zz 32) := own_lit (zz 32) (lim_list (by decide)) (by decide)
      have f8 := o8.row.frozenAt 0
      have c8 : (wr.alloc (.cells (ba (zz 32)) 5)).cell? ⟨wr.heap.size, 0, none⟩ = some (.int .u8 0) := by rw [o8.row.cellAt 0 (by decide)]; rfl
      have T8 : Hid (Own ((wr.alloc (.cells (ba (zz 32)) 5)).setCell ⟨wr.heap.size, 0, none⟩ (.int .u8 2)) wr.heap.size (.slice (some ⟨wr.heap.size, 0, none⟩) 32 32) ((zz 32).set 0 2)) := o8.set 0 2 (by decide)
      have Y8 : Hid (Below wr.heap.size wr ((wr.alloc (.cells (ba (zz 32)) 5)).setCell ⟨wr.heap.size, 0, none⟩ (.int .u8 2))) := b8.setCell (p := ⟨wr.heap.size, 0, none⟩) (Nat.le_refl _) _
      clear o8 b8
      generalize (zz 32).set 0 2 = T2 at *
      obtain ⟨W8, hW8⟩ : ∃ W8, wr.alloc (.cells (ba (zz 32)) 5) = W8 := ⟨_, rfl⟩
      rw [hW8] at f8 c8 T8 Y8
      have hmk8 : (Instr.makeSlice 22 (.int .i64 32) (.int .i64 32)).run Tryz.prog wr = .ok (.slice (some ⟨wr.heap.size, 0, none⟩) 32 32) W8 := by rw [← hW8]; exact hmk wr
      clear hW8 hmk
      go_upto_region 20 with fail
      generalize W8.setCell ⟨wr.heap.size, 0, none⟩ (.int .u8 2) = W9 at *
      clear hmk8 f8 c8
      have B9 := hide (Below.chain B7.out Y8.out)
      have O9 := hide (O7.out.ext Y8.out)
      have P9 := hide (P7.out.ext Y8.out)
      have A9 := hide (A7.out.ext Y8.out)
      have G9 := hide (G7.out.ext Y8.out)
      have T9 := hide T8.out.at
      clear B7 O7 P7 A7 G7 T8 Y8 hd
      have hml := HL.out.2.2.2.1
      have DW : Hid (m.length ≤ 1000000) := by show _ ≤ _; omega
      clear hml
      go_wp2_with fail
      have V1 := hide (HY.out _ _ _ _ _ _ _ B9.out P9.out.at (HV.out.ext B9.out) G9.out DW.out)
      rw [HVB.out] at V1
      refine V1.out.mono ?_
      rintro e w10 ⟨rfl, b10⟩
      have B10 := hide (Below.chain B9.out b10)
      have O10 := hide (O9.out.ext b10)
      have A10 := hide (A9.out.ext b10)
      have T10 := hide (T9.out.ext b10)
      clear b10 B9 O9 P9 A9 G9 T9 V1
      go_wp2_with fail
      have V2 := hide (HY.out _ _ _ _ _ _ _ B10.out T10.out (HV.out.ext B10.out) A10.out.at DW.out)
      have V3 : Hid (∀ W : World, Below w10.heap.size w10 W → Calls Tryz.prog 13 #[.slice (some ⟨wr.heap.size, 0, none⟩) 32 32, .slice am m.length cm, .slice (some ⟨ga, 0, none⟩) 64 ca] W fun e w' => e = .returned (.bool (verB T2 m A)) ∧ Below W.heap.size W w') := fun W hW => HZ.out _ _ _ _ _ _ _ (T10.out.ext hW) ((HV.out.ext B10.out).ext hW) (A10.out.ext hW).at DW.out
      generalize verB T2 m A = d at *
      refine V2.out.mono ?_
      rintro e w11 ⟨rfl, b11⟩
      have B11 := hide (Below.chain B10.out b11)
      have O11 := hide (O10.out.ext b11)
      have A11 := hide (A10.out.ext b11)
      have V4 := hide (V3.out _ b11)
      clear b11 B10 O10 A10 T10 V2 V3
      go_wp2_with fail
      refine V4.out.mono ?_
      rintro e w12 ⟨rfl, b12⟩
      have B12 := hide (Below.chain B11.out b12)
      have O12 := hide (O11.out.ext b12)
      have A12 := hide (A11.out.ext b12)
      clear b12 B11 O11 A11 V4
      go_wp2_with fail
      have V5 := hide (HY.out _ _ _ _ _ _ _ B12.out (nil_bs w12) (HV.out.ext B12.out) A12.out.at DW.out)
      rw [verB_none m A (by decide : dec [] = none)] at V5
      refine V5.out.mono ?_
      rintro e w13 ⟨rfl, b13⟩
      have B13 := hide (Below.chain B12.out b13)
      have O13 := hide (O12.out.ext b13)
      clear b13 B12 O12 A12 V5
      go_wp2_with fail
      refine (HG0.out _ _ _ _ B13.out (Own.cut (k := 31) O13.out (by rw [HL.out.1]; decide)).at (HV.out.ext B13.out) (by rw [List.length_take, HL.out.1]; decide)).mono ?_
      rintro e w14 ⟨v14, rfl, o14, b14⟩
      obtain ⟨a14, c14, rfl⟩ := o14.nilv
      have B14 := hide (Below.chain B13.out b14)
      have O14 := hide (O13.out.ext b14)
      clear b14 o14 B13 O13
      go_wp2_with fail
      refine (HU0.out _ _ _ B14.out (Own.cut (k := 31) O14.out (by rw [HL.out.1]; decide)).at (by rw [List.length_take, HL.out.1]; decide)).mono ?_
      rintro e w15 ⟨v15, rfl, o15, b15⟩
      obtain ⟨a15, c15, rfl⟩ := o15.nilv
      have B15 := hide (Below.chain B14.out b15)
      clear b15 o15 B14 O14
      go_wp2_with fail
      refine (HW.out _ B15.out).mono ?_
      rintro e w16 ⟨rfl, b16⟩
      have B16 := hide (Below.chain B15.out b16)
      clear b16 B15
      go_wp2
      go_ret
      exact ⟨rfl, B16.out⟩
set_option maxRecDepth 100000 in
set_option maxHeartbeats 1000000 in
theorem signStrict_walk (u v : Value) (l m : List Nat) {w : World} (h : BsAt w u l) (hv : BsAt w v m) (LDi : LaidW 2 exw w) (LDe : LaidW 3 eiw w) (LDm : LaidW 1 rmw w) (ht : Sh.Tabs w) (hL : Sc.Laid w) :
    Calls Tryz.prog 5 #[u, v] w fun e w' => e = .returned (.bool true) ∧ Below w.heap.size w w' := by
  have HW := hide (awake_any LDi ht)
  by_cases hl : l.length ≤ 100
  · by_cases hm : m.length ≤ 500
    · exact strict_in h hv hl hm LDi LDe LDm ht hL
    · obtain ⟨ao, c, rfl, _, _⟩ := h.len
      obtain ⟨am, cm, rfl, _, _⟩ := hv.len
      have d0 : decide ((100 : Int) < (l.length : Int)) = false := decide_eq_false (by omega)
      have d1 : decide ((500 : Int) < (m.length : Int)) = true := decide_eq_true (by omega)
      clear h hv hl hm LDi LDe LDm ht hL
      go_enter Tryz.func5, Tryz.ntmps5
      go_wp2_with fail
      refine HW.out.mono ?_
      rintro e w1 ⟨rfl, b1⟩
      go_wp2
      go_ret
      exact ⟨rfl, b1⟩
  · obtain ⟨ao, c, rfl, _, _⟩ := h.len
    have d0 : decide ((100 : Int) < (l.length : Int)) = true := decide_eq_true (by omega)
    clear h hv hl LDi LDe LDm ht hL
    go_enter Tryz.func5, Tryz.ntmps5
    go_wp2_with fail
    refine HW.out.mono ?_
    rintro e w1 ⟨rfl, b1⟩
    go_wp2
    go_ret
    exact ⟨rfl, b1⟩
end Go.Proofs.YtobgimpkkjaolaaGreatDoor
