/- Multiples by numbers that are alike modulo l are the same, and a multiple of a multiple is one: the law PointScalars answers true for all numbers, in any world where the listed variables lie as the program's text lays them. -/
import Derived.Test.YteplbagjagimdaaDoorLaw1
import Derived.Test.YteplbagjagimdaaDoorFrame
import Derived.Test.YteplbagjagimdaaDoorMc
namespace Go.Proofs.YteplbagjagimdaaDoor
open Go.RowKit
/-- A slice of 32. -/
def sl32 : STy := ⟨fun _ v => ∃ ad c, v = .slice ad 32 c ∧ 32 ≤ c ∧ c ≤ 9223372036854775807, fun _ h => h⟩
theorem lull_sl32 (B : Nat) (S : List Nat) : LullT B S sl32 := fun _ _ _ _ h => h
theorem red_h {u : Value} {l : List Nat} {w : World} (h : BsAt w u l) (hl : l.length ≤ 64) (LDo : LaidW 2 orw w) : Hands Tryd.prog 27 #[u] w sl32 :=
  (Sc.reduce_new u l w h ⟨LDo.cell, LDo.lt⟩ hl).mono fun e w' ⟨g, he, _, _, _, hb⟩ => ⟨_, he, hb, _, 32, rfl, Nat.le_refl _, by decide⟩
section
variable {ops : Array Oper} {Q : Exit → Act → World → Prop} {o : Oper} {a : Act} {w : World} {x : Operand}
theorem g_len32 (hw : Region.wanted o (yielded ops a.tmps) = true) (ho : o.op = .call { callee := .builtin .len, args := #[x], argTypes := #[22] }) (h : sl32.p w (a.eval x)) : Gives Tryd.prog ops Q o (isv (.int .i64 32)) a w := by
  obtain ⟨ad, c, e, h1, h2⟩ := h
  refine g_run hw (v := .int .i64 32) ?_ (Ext.refl w) rfl
  unfold execOp
  simp only [ho]
  unfold resolve invoke
  simp [e]
  go_simp
theorem g_cv8i {n : Int} {N : Nat} (hw : Region.wanted o (yielded ops a.tmps) = true) (ho : o.op = .convert 3 5 x) (hx : a.eval x = .int .i64 n) (hN : n % 256 = (N : Int)) : Gives Tryd.prog ops Q o (isv (.int .u8 ((N : Nat) : Int))) a w := by
  refine g_conv hw ho (u := .int .u8 ((N : Nat) : Int)) ?_ rfl
  rw [hx]
  go_simp
  unfold IntKind.wrap
  simp [IntKind.bits, IntKind.signed]
  exact hN
end
/-- A number's low bytes, so many. -/
def nmb (x k : Nat) : List Nat := (List.range k).map (byt x)
theorem own_nil (w : World) : Own w w.heap.size (.slice none 0 0) [] := ⟨World.ownsRow_nil _ _ _ _, by simp⟩
theorem nmb_succ (x k : Nat) : nmb x k ++ [byt x k] = nmb x (k + 1) := by simp [nmb, List.range_succ]
/-- The order and a small number, byte by byte: what is carried on. -/
def kq (N j : Nat) : Nat := (lq % 256 ^ (j + 1) + N) / 256 ^ j
def bg (N i : Nat) : List Nat := nmb (lq + N) i ++ lbs.drop i
theorem kq_zero (N : Nat) : kq N 0 = 237 + N := by
  unfold kq
  rw [show lq % 256 ^ (0 + 1) = 237 by decide +kernel, Nat.pow_zero, Nat.div_one]
theorem lbs_get : ∀ j, j < 32 → lbs.getD j 0 = byt lq j := by
  have h : lbs = bys lq 32 := by decide +kernel
  intro j hj
  rw [h, bys_get _ _ _ (Nat.le_refl _), if_pos hj]
theorem kq_succ (N j : Nat) : kq N (j + 1) = kq N j / 256 + byt lq (j + 1) := by
  unfold kq byt
  rw [Nat.pow_succ 256 (j + 1), Nat.mod_mul, Nat.div_div_eq_div_mul, ← Nat.pow_succ]
  have e : lq % 256 ^ (j + 1) + 256 ^ (j + 1) * (lq / 256 ^ (j + 1) % 256) + N = (lq % 256 ^ (j + 1) + N) + 256 ^ (j + 1) * (lq / 256 ^ (j + 1) % 256) := by omega
  rw [e, Nat.add_mul_div_left _ _ (Nat.pow_pos (by decide))]
theorem kq_byt (N j : Nat) : byt (lq + N) j = kq N j % 256 := by
  unfold kq byt
  have e : lq + N = (lq % 256 ^ (j + 1) + N) + 256 ^ (j + 1) * (lq / 256 ^ (j + 1)) := by
    have := Nat.mod_add_div lq (256 ^ (j + 1)); omega
  rw [e, Nat.pow_succ, Nat.mul_assoc, Nat.add_mul_div_left _ _ (Nat.pow_pos (by decide)), Nat.add_mul_mod_self_left]
theorem nmb_len (x k : Nat) : (nmb x k).length = k := by simp [nmb]
theorem bg_step (N i : Nat) (h : i < 32) : (bg N i).set i (byt (lq + N) i) = bg N (i + 1) := by
  unfold bg
  rw [← nmb_succ, List.set_append_right _ _ (by rw [nmb_len]; exact Nat.le_refl _), nmb_len, Nat.sub_self, List.append_assoc]
  congr 1
  rw [List.drop_eq_getElem_cons (by rw [lbs_len]; exact h), List.set_cons_zero]
  rfl
theorem bg_one (N : Nat) : lbs.set 0 (byt (lq + N) 0) = bg N 1 := bg_step N 0 (by decide)
theorem bg_len (N i : Nat) (h : i ≤ 32) : (bg N i).length = 32 := by
  unfold bg
  rw [List.length_append, nmb_len, List.length_drop, lbs_len]; omega
theorem bg_get (N i : Nat) (h : i < 32) : (bg N i).getD i 0 = byt lq i := by
  unfold bg
  rw [List.getD_eq_getElem?_getD, List.getElem?_append_right (by rw [nmb_len]; exact Nat.le_refl _), nmb_len, Nat.sub_self, List.getElem?_drop, Nat.add_zero, ← List.getD_eq_getElem?_getD]
  exact lbs_get i h
theorem nmb_val (x : Nat) : ∀ k, bval (nmb x k) = x % 256 ^ k
  | 0 => by simp [nmb, bval, Nat.mod_one]
  | k + 1 => by
    have h := bval_take (nmb x (k + 1)) k (by rw [nmb_len]; omega)
    rw [List.take_of_length_le (by rw [nmb_len]; exact Nat.le_refl _), ← nmb_succ, List.take_left' (nmb_len x k), nmb_val x k] at h
    rw [← nmb_succ, h, Nat.mod_pow_succ]
    have e : (nmb x k ++ [byt x k]).getD k 0 = byt x k := by
      rw [List.getD_eq_getElem?_getD, List.getElem?_append_right (by rw [nmb_len]; exact Nat.le_refl _), nmb_len, Nat.sub_self]; rfl
    rw [e]; rfl
theorem bg_val {N : Nat} (h : N < 256) : bval ((bg N 32).take 32) = lq + N := by
  rw [List.take_of_length_le (by rw [bg_len N 32 (Nat.le_refl _)]; exact Nat.le_refl _)]
  unfold bg
  rw [List.drop_of_length_le (by rw [lbs_len]; exact Nat.le_refl _), List.append_nil, nmb_val]
  refine Nat.mod_eq_of_lt (Nat.lt_of_lt_of_le (Nat.add_lt_add_left h lq) (by decide +kernel))
theorem kq_lt {N : Nat} (h : N < 256) (j : Nat) : kq N j < 1000 := by
  unfold kq
  rw [Nat.div_lt_iff_lt_mul (Nat.pow_pos (by decide))]
  have h1 : lq % 256 ^ (j + 1) < 256 ^ (j + 1) := Nat.mod_lt _ (Nat.pow_pos (by decide))
  rw [Nat.pow_succ] at h1 ⊢
  have h2 : 0 < 256 ^ j := Nat.pow_pos (by decide)
  generalize 256 ^ j = q at *
  omega
theorem own_len {w : World} {base g cap k : Nat} {l : List Nat} (h : Own w base (.slice (some ⟨g, 0, none⟩) k cap) l) : k = l.length := by
  rcases h.row.2 with ⟨e, _⟩ | ⟨_, _, _, e, _⟩
  · cases e
  · injection e
theorem own_cell {w : World} {base g cap k : Nat} {l : List Nat} (h : Own w base (.slice (some ⟨g, 0, none⟩) k cap) l) (j : Nat) (hj : j < l.length) : w.cell? ⟨g, j, none⟩ = some (.int .u8 ((l.getD j 0 : Nat) : Int)) := by
  have e := own_len h
  subst e
  rw [h.row.cellAt j (by omega), nv_get l j hj]
theorem own_frz {w : World} {base g cap k : Nat} {l : List Nat} (h : Own w base (.slice (some ⟨g, 0, none⟩) k cap) l) (j : Nat) : w.frozen? ⟨g, j, none⟩ = false := by
  have e := own_len h
  subst e
  exact h.row.frozenAt j
theorem shr_bytes (Z k : Nat) (hZ : Z < 4294967296) (hk : k < 8) (W : World) : (binOp BinOp.shr 24 (.int .u64 (Z : Int)) (.int .u64 (8 * (k : Int)))).run Tryd.prog W = .ok (.int .u64 ((Z / 256 ^ k : Nat) : Int)) W := by
  have h0 : (0 : Int) ≤ (Z : Int) := by omega
  have h1 : (Z : Int) < 4294967296 := by omega
  rcases (by omega : k = 0 ∨ k = 1 ∨ k = 2 ∨ k = 3 ∨ k = 4 ∨ k = 5 ∨ k = 6 ∨ k = 7) with rfl | rfl | rfl | rfl | rfl | rfl | rfl | rfl <;> (rw [Int.natCast_ediv]; go_simp)
set_option linter.unusedSimpArgs false in
set_option maxRecDepth 100000 in
set_option maxHeartbeats 4000000 in
theorem pointScalars_walk (n m : Int) {w : World} (LDi : LaidW 1 exw w) (LDo : LaidW 2 orw w) : Calls Tryd.prog 7 #[.int .i64 n, .int .i64 m] w fun e w' => e = .returned (.bool true) ∧ Below w.heap.size w w' := by
  obtain ⟨A, hA⟩ : ∃ A : Nat, n % 65536 = (A : Int) := ⟨(n % 65536).toNat, by omega⟩
  obtain ⟨M, hM⟩ : ∃ M : Nat, m % 65536 = (M : Int) := ⟨(m % 65536).toNat, by omega⟩
  obtain ⟨N, hN⟩ : ∃ N : Nat, n % 256 = (N : Int) := ⟨(n % 256).toNat, by omega⟩
  have hA5 : A < 65536 := by omega
  have hM5 : M < 65536 := by omega
  have hN5 : N < 256 := by omega
  have ea : bits BinOp.and IntKind.i64 n 65535 = (A : Int) := by rw [and_65535]; exact hA
  have em : bits BinOp.and IntKind.i64 m 65535 = (M : Int) := by rw [and_65535]; exact hM
  have en : bits BinOp.and IntKind.i64 n 255 = (N : Int) := by rw [and_255]; exact hN
  have HA : Hid (bval ((smb n).take 32) = A) := (smb_val n).trans (by omega)
  have HM : Hid (bval ((smb m).take 32) = M) := (smb_val m).trans (by omega)
  have HN := hide hN
  obtain ⟨Z, hZ⟩ : ∃ Z, A * M = Z := ⟨_, rfl⟩
  have hZ5 : Z < 4294967296 := by
    rw [← hZ]
    have h1 : A * M ≤ 65535 * 65535 := Nat.mul_le_mul (by omega) (by omega)
    omega
  have hZi : (A : Int) * (M : Int) = (Z : Int) := by rw [← hZ, Int.natCast_mul]
  have HZ := hide hZ
  have hZ0 : (0 : Int) ≤ (Z : Int) := by omega
  have hZ1 : (Z : Int) < 18446744073709551616 := by omega
  have ha0 : (0 : Int) ≤ (A : Int) := by omega
  have ha1 : (A : Int) < 65536 := by omega
  have hm0 : (0 : Int) ≤ (M : Int) := by omega
  have hm1 : (M : Int) < 65536 := by omega
  replace LDi := hide LDi
  replace LDo := hide LDo
  clear hA hM hN hZ hA5 hM5
  have BEL := hide (Below.refl w.heap.size w)
  have SZ := hide BEL.out.size
  go_enter Tryd.func7, Tryd.ntmps7
  go_upto_region 1 with fail
  refine wp_region_lined3 (tl := [isP Bp, isv (.int .i64 n), isb (smb n), isP (Pt.mul A Bp)]) (pre := [(0, 1)])
    (plan := [Pk.val [] 0, Pk.val [(0, 1)] 1, Pk.val [(15, 1)] 2, Pk.val [(14, 0), (16, 2)] 3, Pk.alc 30 8, Pk.sto 4 17 3])
    [2] [] [] 103 (by kernel_rfl) rfl (by kernel_rfl) ⟨.inr (lull_P _ _ _), ⟨.inr (lull_isv _ _ _), ⟨.inl rfl, ⟨.inr (lull_P _ _ _), trivial⟩⟩⟩⟩
    snkAt0 snk0 ⟨rfl, trivial⟩
      (OkL3.cons (fun a w X_ h => g_call0 (wanted_none rfl) (by kernel_rfl) rfl (p_baseP))
      (OkL3.cons (fun a w X_ h => g_move (wanted_none rfl) (.inl rfl) h.1)
      (OkL3.cons (fun a w X_ h => g_call1 (wanted_none rfl) (by kernel_rfl) rfl (small_h h.1))
      (OkL3.cons (fun a w X_ h => g_call2 (wanted_none rfl) (by kernel_rfl) rfl (p_mulN (n := A) (HA.out) h.1 h.2.1 (LDi.out.step (X_.on BEL.out SZ.out none_le))))
      (OkL3.cons (alc_of zp rfl rfl rfl newP)
      (OkL3.cons (⟨rfl, _, _, _, rfl, rfl, rfl, by kernel_rfl, row_P _⟩)
      OkL3.nil)))))) ?_
  rintro W1 X1 _ rfl _ rfl v16 - _ rfl g5 c5 ⟨L5, Z5, -⟩ r5 H5
  refine FinL3.fill ?_
  refine FinL3.done ?_
  simp only [Act.put, List.setIfInBounds_toArray, List.set_cons_zero, List.set_cons_succ]
  obtain rfl : c5 = pe (Pt.mul A Bp).x ((Pt.mul A Bp).y - 1) := agg_inj H5
  have R5 := hide (And.intro Z5 r5)
  clear r5
  replace BEL := hide (X1.on BEL.out SZ.out none_le)
  replace SZ := hide BEL.out.size
  have SW1 := X1.size
  clear X1 H5
  go_upto_region 2 with fail
  refine wp_region_typed3 (tl := [isv (.pointer (some ⟨g5, 0, none⟩)), isP (Pt.mul A Bp), isv (.int .i64 m), isb (smb m), isP (Pt.mul M (Pt.mul A Bp))]) (pre := [(1, 2), (5, 0)])
    (plan := [Pk.val [(5, 0)] 1, Pk.val [(1, 2)] 2, Pk.val [(19, 2)] 3, Pk.val [(18, 1), (20, 3)] 4, Pk.alc 30 8, Pk.sto 4 21 4])
    [3] [] [] (by kernel_rfl) 103 (by kernel_rfl) rfl (by kernel_rfl) ⟨.inr (lull_isv _ _ _), ⟨.inr (lull_P _ _ _), ⟨.inr (lull_isv _ _ _), ⟨.inl rfl, ⟨.inr (lull_P _ _ _), trivial⟩⟩⟩⟩⟩
    snkAt0 snk0 ⟨rfl, ⟨rfl, trivial⟩⟩
      (OkL3.cons (fun a w X_ h => g_ldp (wanted_none rfl) rfl h.1 (X_.at_ R5.out.1 out0 R5.out.2))
      (OkL3.cons (fun a w X_ h => g_move (wanted_none rfl) (.inl rfl) h.1)
      (OkL3.cons (fun a w X_ h => g_call1 (wanted_none rfl) (by kernel_rfl) rfl (small_h h.1))
      (OkL3.cons (fun a w X_ h => g_call2 (wanted_none rfl) (by kernel_rfl) rfl (p_mulN (n := M) (HM.out) h.1 h.2.1 (LDi.out.step (X_.on BEL.out SZ.out none_le))))
      (OkL3.cons (alc_of zp rfl rfl rfl newP)
      (OkL3.cons (⟨rfl, _, _, _, rfl, rfl, rfl, by kernel_rfl, row_P _⟩)
      OkL3.nil)))))) ?_
  rintro W2 X2 _ rfl _ rfl v20 - _ rfl g6 c6 ⟨L6, Z6, -⟩ r6 H6
  refine FinL3.fill ?_
  refine FinL3.done ?_
  simp only [Act.put, List.setIfInBounds_toArray, List.set_cons_zero, List.set_cons_succ]
  obtain rfl : c6 = pe (Pt.mul M (Pt.mul A Bp)).x ((Pt.mul M (Pt.mul A Bp)).y - 1) := agg_inj H6
  have R6 := hide (And.intro Z6 r6)
  clear r6
  replace R5 := hide (X2.row out0 R5.out)
  replace BEL := hide (X2.on BEL.out SZ.out none_le)
  replace SZ := hide BEL.out.size
  have SW2 := X2.size
  clear X2 H6
  clear R5
  generalize pe Bp.x (Bp.y - 1) = q1
  generalize pe (Pt.mul A Bp).x ((Pt.mul A Bp).y - 1) = q2
  obtain ⟨q3, hq3⟩ : ∃ q3, pe (Pt.mul M (Pt.mul A Bp)).x ((Pt.mul M (Pt.mul A Bp)).y - 1) = q3 := ⟨_, rfl⟩
  rw [hq3] at R6 ⊢
  have HQ3 := hide hq3
  clear hq3
  go_wp2
  clear ea em ha0 ha1 hm0 hm1 hZi
  go_loopw [8, 29] (fun sv i wr => ∃ k : Nat, k ≤ 8 ∧ i = .int .i64 (k : Int) ∧ Own wr W2.heap.size sv (nmb Z k) ∧ Below W2.heap.size W2 wr) (fun _ i _ => 8 - (intOf i).toNat)
  case atStart => exact ⟨0, by omega, rfl, own_nil W2, Below.refl _ _⟩
  case round =>
    obtain ⟨k, hk, rfl, hown, hb⟩ := hrel
    by_cases hk8 : k < 8
    · have d1 : decide ((k : Int) < 8) = true := decide_eq_true (by omega)
      have k0 : (0 : Int) ≤ (k : Int) := by omega
      have k1 : (k : Int) < 8 := by omega
      have HO := hide hown
      have HB := hide hb
      have HK8 := hide hk8
      clear hown hb hk hk8
      have hbz : ((byt Z k : Nat) : Int) = (Z : Int) / 2 ^ (8 * k) % 256 := by
        unfold byt
        rw [Int.natCast_emod, Int.natCast_ediv, show (256 : Nat) = 2 ^ 8 from rfl, ← Nat.pow_mul]
        simp
      have BT : Hid (BsAt (wr.alloc (.cells #[.int .u8 ((Z : Int) / 2 ^ (8 * k) % 256)] 5)) (.slice (some ⟨wr.heap.size, 0, none⟩) 1 1) [byt Z k]) := by
        have h := marked_at (w := wr) [byt Z k] (lim_list (by simp [byt_lt])) (by show 1 ≤ maxLen; decide) (0, 0)
        rw [show ba [byt Z k] = #[.int .u8 ((byt Z k : Nat) : Int)] from rfl, hbz] at h
        exact h
      have BX := hide ((Below.refl wr.heap.size wr).alloc (Nat.le_refl _) (.cells #[.int .u8 ((Z : Int) / 2 ^ (8 * k) % 256)] 5))
      have HO2 := hide (HO.out.ext BX.out)
      have HSZ : Hid (W2.heap.size ≤ (wr.alloc (.cells #[.int .u8 ((Z : Int) / 2 ^ (8 * k) % 256)] 5)).heap.size) := by
        show _ ≤ _
        have := HB.out.size
        simp; omega
      have HSS := hide (nmb_succ Z k)
      have HLN : Hid ((nmb Z k).length + [byt Z k].length ≤ 1000000000000) := by show _ ≤ _; simp [nmb]; omega
      clear hZ5 hZ0 hZ1 en hbz
      go_wp2_with (at_builtin; refine wpList_append_b rfl (.tmp 32) (.tmp 39) rfl (base := W2.heap.size) (l := nmb Z k) (m := [byt Z k]) HO2.out BT.out HLN.out HSZ.out ?_)
      intro v' w' o' gr'
      have BB := hide ((HB.out.alloc HB.out.size _).grown gr' HSZ.out (fun q hq => (HO2.out.row.lt q hq).1))
      have OO := hide o'
      rw [HSS.out] at OO
      clear o' gr' BT BX HO HO2 HSZ HB HLN
      go_wp2
      go_roundw
      case rel => exact ⟨k + 1, by have := HK8.out; omega, rfl, OO.out, BB.out⟩
      case measure => simp [intOf]; omega
    · obtain rfl : k = 8 := by omega
      have d1 : decide ((8 : Int) < 8) = false := rfl
      have OB : Hid (Own wr W2.heap.size u8 (nmb Z 8)) := hown
      replace R6 := hide (And.intro (Nat.lt_of_lt_of_le R6.out.1 hb.size) ((hb.block _ R6.out.1).trans R6.out.2))
      replace BEL := hide (BEL.out.trans (hb.mono SZ.out))
      replace SZ := hide BEL.out.size
      have SW3 := hb.size
      clear hown hb hk hk8 hZ0 hZ1
      have hcv := fun (W : World) (C : Array Value) => Lib.run_convert_bytes_const (P := Tryd.prog) W 22 5 C 16 16 und22 Tryd.underlying5
      have O0 : Hid (BsAt (wr.alloc (.cells (ba l16) 5 (16, 17))) (.slice (some ⟨wr.heap.size, 0, none⟩) 16 16) l16) := marked_at l16 l16_lim (by decide) _
      have B0 := hide (BEL.out.alloc BEL.out.size (.cells (ba l16) 5 (16, 17)))
      rw [ba_l16] at O0 B0
      go_wp2_with (at_builtin; refine wpList_append_zg rfl 16 (by decide) (.tmp 43) _ rfl rfl rfl O0.out (by decide) (by decide) ?_)
      intro v1 w1 o1 gr1
      have E1 : Hid (Ext wr w1) := (((Below.refl wr.heap.size wr).alloc (Nat.le_refl _) _).grown gr1 (by simp) (by simp))
      obtain ⟨g, cap, rfl, hg1, hg2, hcap, hcm⟩ := o1.form (by decide)
      have hle : (l16 ++ zz 16).length = 32 := by decide
      rw [hle] at hcap o1 ⊢
      have f31 := o1.row.frozenAt 31
      have c31 : w1.cell? ⟨g, 31, none⟩ = some (.int .u8 0) := by rw [o1.row.cellAt 31 (by decide)]; rfl
      have O1 : Hid (Own (w1.setCell ⟨g, 31, none⟩ (.int .u8 16)) (wr.heap.size + 1) (.slice (some ⟨g, 0, none⟩) 32 cap) lbs) := o1.set 31 16 (by decide)
      have BW : Hid (Below wr.heap.size wr (w1.setCell ⟨g, 31, none⟩ (.int .u8 16))) := E1.out.setCell (p := ⟨g, 31, none⟩) (by show wr.heap.size ≤ g; omega) _
      clear gr1 o1 O0 B0 hle E1 hcv
      go_upto_region 12 with fail
      generalize w1.setCell ⟨g, 31, none⟩ (.int .u8 16) = V1 at *
      have c0 : V1.cell? ⟨g, 0, none⟩ = some (.int .u8 237) := by rw [O1.out.row.cellAt 0 (by decide)]; rfl
      have hn0 : (0 : Int) ≤ (N : Int) := by omega
      have hn1 : (N : Int) < 256 := by omega
      have hk0 : (237 : Int) + (N : Int) = ((kq N 0 : Nat) : Int) := by rw [kq_zero]; omega
      have BE := hide ((Below.refl V1.heap.size V1).alloc (Nat.le_refl _) (.cells #[] 5))
      have HL2 := hide (O1.out.at.ext BE.out)
      clear f31 c31
      go_wp2_with (at_builtin; refine wpList_append_b rfl (.tmp 54) (.tmp 55) rfl (base := V1.heap.size) (l := []) (m := lbs) own_none HL2.out (by decide) (by simp) ?_)
      intro v2 w2 o2 gr2
      have BV := hide (below_grown BE.out own_none (Nat.le_refl _) gr2)
      obtain ⟨g2, cap2, rfl, hh1, hh2, hcap2, hcm2⟩ := o2.form (by decide)
      have hle : lbs.length = 32 := lbs_len
      rw [hle] at hcap2 o2 ⊢
      have f0 := o2.row.frozenAt 0
      have c00 : w2.cell? ⟨g2, 0, none⟩ = some (.int .u8 237) := by rw [o2.row.cellAt 0 (by decide)]; rfl
      have O2 : Hid (Own (w2.setCell ⟨g2, 0, none⟩ (.int .u8 ((byt (lq + N) 0 : Nat) : Int))) V1.heap.size (.slice (some ⟨g2, 0, none⟩) 32 cap2) (bg N 1)) := by
        have h := o2.set 0 (byt (lq + N) 0) (byt_lt _ _)
        rw [bg_one] at h
        exact h
      have hby0 : (((kq N 0 : Nat) : Int)) % 256 = ((byt (lq + N) 0 : Nat) : Int) := by rw [kq_byt]; omega
      have BV2 : Hid (Below V1.heap.size V1 (w2.setCell ⟨g2, 0, none⟩ (.int .u8 ((byt (lq + N) 0 : Nat) : Int)))) := BV.out.setCell (p := ⟨g2, 0, none⟩) hh1 _
      clear o2 gr2 BV BE HL2 hle
      have hkb : kq N 0 < 1000 := kq_lt hN5 0
      have hkb0 : (0 : Int) ≤ ((kq N 0 : Nat) : Int) := by omega
      go_wp2
      clear hkb hkb0 hby0 f0 c00 c0 hk0 hn0 hn1 en
      go_loopw [11, 13] (fun kv iv wx => ∃ j : Nat, j ≤ 31 ∧ iv = .int .i64 ((j + 1 : Nat) : Int) ∧ kv = .int .i64 ((kq N j : Nat) : Int) ∧ Own wx V1.heap.size (.slice (some ⟨g2, 0, none⟩) 32 cap2) (bg N (j + 1)) ∧ Below V1.heap.size V1 wx) (fun _ iv _ => 32 - (intOf iv).toNat)
      case atStart => exact ⟨0, by omega, rfl, rfl, O2.out, BV2.out⟩
      case round =>
        obtain ⟨j, hj, rfl, rfl, hown, hb⟩ := hrel
        clear O2 BV2
        have HOW := hide hown
        have HBV := hide hb
        by_cases hj31 : j < 31
        · have d2 : decide (((j + 1 : Nat) : Int) < 32) = true := decide_eq_true (by omega)
          have hcl : wr.cell? ⟨g, j + 1, none⟩ = some (.int .u8 ((byt lq (j + 1) : Nat) : Int)) := by
            have hgb : g < V1.heap.size := (O1.out.row.lt g rfl).2
            rw [Below.cell (p := ⟨g, j + 1, none⟩) hb hgb, O1.out.row.cellAt (j + 1) (by omega), nv_get _ _ (by rw [lbs_len]; omega), lbs_get _ (by omega)]
          have hcb : wr.cell? ⟨g2, j + 1, none⟩ = some (.int .u8 ((byt lq (j + 1) : Nat) : Int)) := by
            rw [own_cell hown (j + 1) (by rw [bg_len _ _ (by omega)]; omega), bg_get _ _ (by omega)]
          have hfr := own_frz hown (j + 1)
          have O3 := hide (hown.set (j + 1) (byt (lq + N) (j + 1)) (byt_lt _ _))
          rw [bg_step N (j + 1) (by omega)] at O3
          have hk1 : ((kq N j : Nat) : Int) / 256 + ((byt lq (j + 1) : Nat) : Int) = ((kq N (j + 1) : Nat) : Int) := by rw [kq_succ]; omega
          have hby : ((kq N (j + 1) : Nat) : Int) % 256 = ((byt (lq + N) (j + 1) : Nat) : Int) := by rw [kq_byt]; omega
          have B3 := hide (hb.setCell (p := ⟨g2, j + 1, none⟩) hh1 (.int .u8 ((byt (lq + N) (j + 1) : Nat) : Int)))
          have kb := kq_lt hN5 j
          have kb2 := kq_lt hN5 (j + 1)
          have HJ := hide hj31
          generalize kq N j = K0 at *
          obtain ⟨K1, hK1⟩ : ∃ K1, kq N (j + 1) = K1 := ⟨_, rfl⟩
          rw [hK1] at hk1 hby kb2
          have HK1 := hide hK1
          clear hK1
          generalize byt lq (j + 1) = y1 at *
          generalize byt (lq + N) (j + 1) = y2 at *
          obtain ⟨I, hI⟩ : ∃ I, j + 1 = I := ⟨_, rfl⟩
          have hI31 : I < 32 := by omega
          rw [hI] at d2 hcl hcb hfr O3 B3 ⊢
          have HI := hide hI
          have i0 : (0 : Int) ≤ (I : Int) := by omega
          have i1 : (I : Int) < 32 := by omega
          have k00 : (0 : Int) ≤ (K0 : Int) := by omega
          have k01 : (K0 : Int) < 1000 := by omega
          have k10 : (0 : Int) ≤ (K1 : Int) := by omega
          have k11 : (K1 : Int) < 1000 := by omega
          clear hown hb hj hj31 hI kb kb2 HOW HBV
          go_wp2
          go_roundw
          case rel => exact ⟨j + 1, by have := HJ.out; omega, by rw [HI.out]; rfl, by rw [HK1.out], by rw [HI.out]; exact O3.out, B3.out⟩
          case measure => simp [intOf]; omega
        · obtain rfl : j = 31 := by omega
          have d2 : decide (((31 + 1 : Nat) : Int) < 32) = false := rfl
          have BX := hide (BW.out.trans (hb.mono BW.out.size))
          replace R6 := hide (And.intro (Nat.lt_of_lt_of_le R6.out.1 BX.out.size) ((BX.out.block _ R6.out.1).trans R6.out.2))
          have BN : Hid (BsAt wr u8 (nmb Z 8)) := OB.out.at.ext BX.out
          have BG : Hid (BsAt wr (.slice (some ⟨g2, 0, none⟩) 32 cap2) (bg N 32)) := hown.at
          replace BEL := hide (BEL.out.trans (BX.out.mono SZ.out))
          replace SZ := hide BEL.out.size
          rw [← HQ3.out] at R6
          have HZV : Hid (bval ((nmb Z 8).take 32) = Z) := by
            show _ = _
            rw [List.take_of_length_le (by rw [nmb_len]; decide), nmb_val]
            exact Nat.mod_eq_of_lt (Nat.lt_of_lt_of_le hZ5 (by decide))
          have HGV := hide (bg_val hN5)
          have HE1 : Hid (Pt.mul M (Pt.mul A Bp) = Pt.mul Z Bp) := by show _ = _; rw [mul_mul', HZ.out]
          have HE2 : Hid (Pt.mul (lq + N) Bp = Pt.mul N Bp) := by show _ = _; rw [mul_add', l_base, zero_add']
          have HNL := hide hN5
          clear hown hb hj hj31 HOW HBV BX BW OB O1 hcap hcm hcap2 hcm2 hg1 hg2 hh1 hh2 hZ5 hN5 HQ3
          generalize wr = W9 at *
          go_upto_region 20 with fail
          refine wp_region_typed3 (tl := [isv (.pointer (some ⟨g6, 0, none⟩)), isP (Pt.mul M (Pt.mul A Bp)), isP Bp, isb (nmb Z 8), isP (Pt.mul Z Bp), isv (.bool true), isb (bg N 32), isP (Pt.mul (lq + N) Bp), isv (.int .i64 n), isv (.int .u8 ((N : Nat) : Int)), isb ([N]), isP (Pt.mul N Bp), sl32, isv (.int .i64 32)]) (pre := [(0, 8), (6, 0), (8, 3), (12, 6)])
            (plan := (Pk.val [(6, 0)] 1 :: Pk.val [] 2 :: Pk.val [(8, 3)] 3 :: Pk.val [(79, 2), (80, 3)] 4 :: Pk.val [(78, 1), (81, 4)] 5 :: Pk.val [(82, 5)] 5 :: Pk.val [(83, 5)] 2 :: Pk.val [(83, 5), (12, 6)] 6 :: Pk.val [(83, 5), (84, 2), (85, 6)] 7 :: Pk.val [(83, 5)] 2 :: Pk.val [(83, 5), (0, 8)] 8 :: Pk.val [(83, 5), (88, 8)] 9 :: Pk.val [(83, 5), (89, 9)] 10 :: Pk.val [(83, 5), (87, 2), (90, 10)] 11 :: Pk.val [(83, 5), (86, 7), (91, 11)] 5 :: Pk.val [(83, 5), (92, 5)] 5 :: Pk.val [(93, 5)] 5 :: Pk.val [(94, 5), (12, 6)] 6 :: Pk.val [(94, 5), (95, 6)] 12 :: Pk.val [(94, 5), (96, 12)] 13 :: Pk.val [(94, 5), (97, 13)] 5 :: Pk.val [(94, 5), (98, 5)] 5 :: Pk.val [(99, 5)] 5 :: Pk.val [(100, 5)] 5 :: Pk.val [(100, 5), (101, 5)] 5 :: Pk.val [(102, 5)] 5 :: []))
            [3, 6, 10] [] [] (by kernel_rfl) 103 (by kernel_rfl) rfl (by kernel_rfl) ⟨.inr (lull_isv _ _ _), ⟨.inr (lull_P _ _ _), ⟨.inr (lull_P _ _ _), ⟨.inl rfl, ⟨.inr (lull_P _ _ _), ⟨.inr (lull_isv _ _ _), ⟨.inl rfl, ⟨.inr (lull_P _ _ _), ⟨.inr (lull_isv _ _ _), ⟨.inr (lull_isv _ _ _), ⟨.inl rfl, ⟨.inr (lull_P _ _ _), ⟨.inr (lull_sl32 _ _), ⟨.inr (lull_isv _ _ _), trivial⟩⟩⟩⟩⟩⟩⟩⟩⟩⟩⟩⟩⟩⟩
            snkAt0 snk0 ⟨rfl, ⟨rfl, ⟨BN.out, ⟨BG.out, trivial⟩⟩⟩⟩
              (OkL3.cons (fun a w X_ h => g_ldp (wanted_none rfl) rfl h.1 (X_.at_ R6.out.1 out0 R6.out.2))
              (OkL3.cons (fun a w X_ h => g_call0 (wanted_none rfl) (by kernel_rfl) rfl (p_baseP))
              (OkL3.cons (fun a w X_ h => g_move (wanted_none rfl) (.inl rfl) h.1)
              (OkL3.cons (fun a w X_ h => g_call2 (wanted_none rfl) (by kernel_rfl) rfl (p_mulN (n := Z) (HZV.out) h.1 h.2.1 (LDi.out.step (X_.on BEL.out SZ.out none_le))))
              (OkL3.cons (fun a w X_ h => g_call2 (wanted_none rfl) (by kernel_rfl) rfl (p_same h.1 h.2.1 (iff_t (HE1.out))))
              (OkL3.cons (fun a w X_ h => g_move (wanted_none rfl) (.inl rfl) h.1)
              (OkL3.cons (fun a w X_ h => g_call0 (wanted_some rfl rfl h.1) (by kernel_rfl) rfl (p_baseP))
              (OkL3.cons (fun a w X_ h => g_move (wanted_some rfl rfl h.1) (.inl rfl) h.2.1)
              (OkL3.cons (fun a w X_ h => g_call2 (wanted_some rfl rfl h.1) (by kernel_rfl) rfl (p_mulN (n := lq + N) (HGV.out) h.2.1 h.2.2.1 (LDi.out.step (X_.on BEL.out SZ.out none_le))))
              (OkL3.cons (fun a w X_ h => g_call0 (wanted_some rfl rfl h.1) (by kernel_rfl) rfl (p_baseP))
              (OkL3.cons (fun a w X_ h => g_move (wanted_some rfl rfl h.1) (.inl rfl) h.2.1)
              (OkL3.cons (fun a w X_ h => g_cv8i (n := n) (wanted_some rfl rfl h.1) rfl (show a.eval (.tmp 88) = .int .i64 n from h.2.1) HN.out)
              (OkL3.cons (fun a w X_ h => g_news (l := [N]) (cs := #[.int .u8 ((N : Nat) : Int)]) (n := 1) (wanted_some rfl rfl h.1) (lim_list (by simp [HNL.out])) (by simp) rfl rfl (by have e89 : a.tmps[89]?.getD undef = .int .u8 ((N : Nat) : Int) := (by rw [← Array.getD_eq_getD_getElem?]; exact h.2.1); go_simp))
              (OkL3.cons (fun a w X_ h => g_call2 (wanted_some rfl rfl h.1) (by kernel_rfl) rfl (p_mulN (n := N) (rfl) h.2.1 h.2.2.1 (LDi.out.step (X_.on BEL.out SZ.out none_le))))
              (OkL3.cons (fun a w X_ h => g_call2 (wanted_some rfl rfl h.1) (by kernel_rfl) rfl (p_same h.2.1 h.2.2.1 (iff_t (HE2.out))))
              (OkL3.cons (fun a w X_ h => g_pick (wanted_none rfl) rfl h.1 h.2.1)
              (OkL3.cons (fun a w X_ h => g_move (wanted_none rfl) (.inl rfl) h.1)
              (OkL3.cons (fun a w X_ h => g_move (wanted_some rfl rfl h.1) (.inl rfl) h.2.1)
              (OkL3.cons (fun a w X_ h => g_call1 (wanted_some rfl rfl h.1) (by kernel_rfl) rfl (red_h h.2.1 (by rw [bg_len _ _ (Nat.le_refl _)]; decide) (LDo.out.step (X_.on BEL.out SZ.out none_le))))
              (OkL3.cons (fun a w X_ h => g_len32 (wanted_some rfl rfl h.1) rfl h.2.1)
              (OkL3.cons (fun a w X_ h => g_bin (wanted_some rfl rfl h.1) rfl (v := .bool true) (by rw [show a.eval (.tmp 97) = .int .i64 32 from h.2.1]; go_simp) rfl)
              (OkL3.cons (fun a w X_ h => g_pick (wanted_none rfl) rfl h.1 h.2.1)
              (OkL3.cons (fun a w X_ h => g_move (wanted_none rfl) (.inl rfl) h.1)
              (OkL3.cons (fun a w X_ h => g_call0 (wanted_some rfl rfl h.1) (by kernel_rfl) rfl (awake_h))
              (OkL3.cons (fun a w X_ h => g_pick (wanted_none rfl) rfl h.1 h.2.1)
              (OkL3.cons (fun a w X_ h => g_move (wanted_none rfl) (.inr rfl) h.1)
              OkL3.nil)))))))))))))))))))))))))) ?_
          rintro W20 X20 _ rfl _ rfl v80 - _ rfl _ rfl _ rfl _ rfl v85 - _ rfl _ rfl _ rfl _ rfl v90 - _ rfl _ rfl _ rfl _ rfl v95 - v96 - _ rfl _ rfl _ rfl _ rfl _ rfl _ rfl _ rfl
          refine FinL3.done ?_
          simp only [Act.put, List.setIfInBounds_toArray, List.set_cons_zero, List.set_cons_succ]
          replace R6 := hide (X20.row out0 R6.out)
          replace BEL := hide (X20.on BEL.out SZ.out none_le)
          replace SZ := hide BEL.out.size
          have SW20 := X20.size
          clear X20
          go_wp2
          go_ret
          exact ⟨rfl, BEL.out⟩
end Go.Proofs.YteplbagjagimdaaDoor
