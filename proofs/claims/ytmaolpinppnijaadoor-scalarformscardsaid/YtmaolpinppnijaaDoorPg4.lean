/- A product and a number modulo the order, the page's own way: as its call answers, in any world. -/
import Derived.Test.YtmaolpinppnijaaDoorPg3
namespace Go.Proofs.YtmaolpinppnijaaDoor
open Go.RowKit
theorem und49 : Tryd.prog.underlying 49 = some (.array 64 2) := by kernel_rfl
theorem zero49 (w : World) : (zeroValue 49).run Tryd.prog w = .ok (.agg (ja (zz 64))) w := by kernel_rfl
theorem make64 (w : World) : (Instr.makeSlice 22 (.int .i64 64) (.int .i64 64)).run Tryd.prog w = .ok (.slice (some ⟨w.heap.size, 0, none⟩) 64 64) (w.alloc (.cells (ba (zz 64)) 5)) := by kernel_rfl
theorem bval_set : ∀ (l : List Nat) (k d : Nat), k < l.length → bval (l.set k (l.getD k 0 + d)) = bval l + 256 ^ k * d
  | [], k, d, h => by simp at h
  | x :: t, 0, d, _ => by simp [bval]; omega
  | x :: t, k + 1, d, h => by
    rw [List.getD_cons_succ, List.set_cons_succ, bval, bval_set t k d (by simpa using h), bval, Nat.pow_succ, Nat.mul_add, Nat.mul_comm (256 ^ k) 256, Nat.mul_assoc]
    omega
theorem set_bound {l : List Nat} {k d M : Nat} (h : ∀ i, l.getD i 0 ≤ M) (hd : d ≤ 65025) : ∀ i, (l.set k (l.getD k 0 + d)).getD i 0 ≤ M + 65025 := fun i => by
  by_cases e : k = i
  · subst e
    have := h k
    rw [List.getD_eq_getElem?_getD, List.getElem?_set]
    simp only [if_true]
    split
    · simp only [Option.getD_some]; omega
    · simp
  · rw [getD_set_ne' e]
    have := h i
    omega
theorem bval_split (l : List Nat) (k : Nat) (h : k ≤ l.length) : bval l = bval (l.take k) + 256 ^ k * bval (l.drop k) := by
  conv => lhs; rw [← List.take_append_drop k l]
  rw [bval_append, List.length_take, Nat.min_eq_left h]
/-- What is carried to byte k of a row's number. -/
def cc (l : List Nat) (k : Nat) : Nat := bval (l.take k) / 256 ^ k
theorem cc_sum (l : List Nat) (k : Nat) (h : k < l.length) : cc l k + l.getD k 0 = bval (l.take (k + 1)) / 256 ^ k := by
  rw [bval_take l k h, cc, Nat.add_mul_div_left _ _ (pow256 k)]
theorem cc_step (l : List Nat) (k : Nat) (h : k < l.length) : (cc l k + l.getD k 0) / 256 = cc l (k + 1) := by
  rw [cc_sum l k h, Nat.div_div_eq_div_mul, ← Nat.pow_succ, cc]
theorem cc_byte (l : List Nat) (k : Nat) (h : k < l.length) : (cc l k + l.getD k 0) % 256 = byt (bval l) k := by
  rw [cc_sum l k h, byt, bval_split l (k + 1) h, Nat.pow_succ, Nat.mul_assoc, Nat.add_mul_div_left _ _ (pow256 k), Nat.add_mul_mod_self_left]
theorem cc_bound (l : List Nat) (M : Nat) (hb : ∀ i, l.getD i 0 ≤ M) : ∀ k, k ≤ l.length → cc l k ≤ M
  | 0, _ => by simp [cc, bval]
  | k + 1, h => by
    have ih := cc_bound l M hb k (by omega)
    rw [← cc_step l k (by omega)]
    have := hb k
    omega
theorem dg_val (m v : Nat) (h : v < 256 ^ m) : bval (dg m v) = v := by
  rw [byt_val v m _ (dg_len m v) (fun i hi => dg_get m v i hi), Nat.mod_eq_of_lt h]
theorem dg_lim (m v : Nat) : ∀ i, (dg m v).getD i 0 < 256 := fun i => by
  by_cases h : i < m
  · rw [dg_get m v i h]; exact byt_lt _ _
  · rw [List.getD_eq_getElem?_getD, List.getElem?_eq_none (by rw [dg_len]; omega)]; decide
theorem mx_zz (m y : Nat) : mx (byt y) (zz m) m = dg m y := by rw [← dg_zero, mx_dg]
theorem mad_math (x y z : Nat) : ((x % ll) * (y % ll) + z % ll) % ll = (x * y + z) % ll := by
  rw [Nat.add_mod, Nat.mod_mod, ← Nat.mul_mod, ← Nat.add_mod]
theorem mad_lt (x y z : Nat) : (x % ll) * (y % ll) + z % ll < 256 ^ 64 := by
  have h1 := ll_mod x
  have h2 := ll_mod y
  have h3 := ll_mod z
  have h4 : (x % ll) * (y % ll) ≤ ll * ll := Nat.mul_le_mul (Nat.le_of_lt h1) (Nat.le_of_lt h2)
  have h5 : ll * ll + ll < 256 ^ 64 := by decide +kernel
  omega
theorem mul_row {x A B C p q r P : Nat} (h : x = A * B + C + P * (p * B)) (hA : q = A + P * p) (hr : r = C) : x = q * B + r := by
  subst hA hr
  rw [h, Nat.add_mul, Nat.mul_assoc]
  omega
set_option maxRecDepth 100000 in
set_option maxHeartbeats 2000000 in
theorem mulAdd_ref (u v t : Value) (xs bs cs : List Nat) (w : World) (h1 : BsAt w u xs) (h2 : BsAt w v bs) (h3 : BsAt w t cs) (l1 : xs.length = 32) (l2 : bs.length = 32) (l3 : cs.length = 32) :
    Calls Tryd.prog 16 #[u, v, t] w (Bret w (bys ((bval xs * bval bs + bval cs) % ll) 32)) := by
  have HR1 : Hid (∀ W, BsAt W u xs → _) := fun W hW => reduce_ref u xs W hW (by omega)
  have HR2 : Hid (∀ W, BsAt W v bs → _) := fun W hW => reduce_ref v bs W hW (by omega)
  have HR3 : Hid (∀ W, BsAt W t cs → _) := fun W hW => reduce_ref t cs W hW (by omega)
  have HR4 : Hid (∀ W V, BsAt W V (dg 64 (bval xs % ll * (bval bs % ll) + bval cs % ll)) → Calls Tryd.prog 12 #[V] W (Bret W (bys ((bval xs * bval bs + bval cs) % ll) 32))) := fun W V hW => by
    have := reduce_ref V _ W hW (by rw [dg_len]; exact Nat.le_refl _)
    rwa [dg_val _ _ (mad_lt _ _ _), mad_math] at this
  have hv1 := bv_mod (bval xs)
  have hv2 := bv_mod (bval bs)
  have hv3 := bv_mod (bval cs)
  have hlim1 := bys_lim (bval xs % ll)
  have hlim2 := bys_lim (bval bs % ll)
  have hlim3 := bys_lim (bval cs % ll)
  have hn1 := bys_len (bval xs % ll) 32
  have hn2 := bys_len (bval bs % ll) 32
  have hn3 := bys_len (bval cs % ll) 32
  obtain ⟨RR, hRR⟩ : ∃ l, bys ((bval xs * bval bs + bval cs) % ll) 32 = l := ⟨_, rfl⟩
  rw [hRR] at HR4 ⊢
  obtain ⟨A, hA⟩ : ∃ l, bys (bval xs % ll) 32 = l := ⟨_, rfl⟩
  obtain ⟨B, hB⟩ : ∃ l, bys (bval bs % ll) 32 = l := ⟨_, rfl⟩
  obtain ⟨C, hC⟩ : ∃ l, bys (bval cs % ll) 32 = l := ⟨_, rfl⟩
  rw [hA] at HR1 hv1 hlim1 hn1
  rw [hB] at HR2 hv2 hlim2 hn2
  rw [hC] at HR3 hv3 hlim3 hn3
  rw [← hv1, ← hv2, ← hv3] at HR4
  have H1 := hide h1
  have H2 := hide h2
  have H3 := hide h3
  obtain ⟨a1, c1, rfl, _, m1⟩ := h1.len
  obtain ⟨a2, c2, rfl, _, m2⟩ := h2.len
  obtain ⟨a3, c3, rfl, _, m3⟩ := h3.len
  rw [l1] at HR1 H1 ⊢
  rw [l2] at HR2 H2 ⊢
  rw [l3] at HR3 H3 ⊢
  have hz := zero49
  have hmk := make64
  obtain ⟨ZT, hZT⟩ : ∃ x, ja (zz 64) = x := ⟨_, rfl⟩
  obtain ⟨ZB, hZB⟩ : ∃ x, ba (zz 64) = x := ⟨_, rfl⟩
  rw [hZT] at hz
  rw [hZB] at hmk
  have HZ := hide (And.intro hZT hZB)
  have HM := hide (And.intro hlim1 (And.intro hlim2 (And.intro hlim3 (And.intro hn1 (And.intro hn2 hn3)))))
  clear h1 h2 h3 l1 l2 l3 hv1 hv2 hv3 hA hB hC hRR hZT hZB hlim1 hlim2 hlim3 hn1 hn2 hn3
  go_enter Tryd.func16, Tryd.ntmps16
  go_wp2_with fail
  refine (HR1.out _ H1.out).mono ?_
  rintro e w1 ⟨ua, rfl, fa, b1⟩
  have B1 := hide b1
  have FA := hide fa
  clear b1 fa
  go_wp2_with fail
  refine (HR2.out _ (H2.out.ext B1.out)).mono ?_
  rintro e w2 ⟨ub, rfl, fb, b2⟩
  replace FA := hide (FA.out.ext b2)
  have B2 := hide (Below.chain B1.out b2)
  have FB := hide fb
  clear b2 fb B1
  go_wp2_with fail
  refine (HR3.out _ (H3.out.ext B2.out)).mono ?_
  rintro e w3 ⟨uc, rfl, fc, b3⟩
  replace FA := hide (FA.out.ext b3)
  replace FB := hide (FB.out.ext b3)
  have B3 := hide (Below.chain B2.out b3)
  have FC := hide fc
  clear b3 fc B2 HR1 HR2 HR3 H1 H2 H3
  obtain ⟨ba', oa, ca, aoa, ea, hca, hma, _, hha⟩ := FA.out
  obtain ⟨bb', ob, cb, aob, eb, hcb, hmb, _, hhb⟩ := FB.out
  obtain ⟨bc', oc, cc', aoc, ec, hcc, hmc, _, hhc⟩ := FC.out
  obtain ⟨rfl, hba, hra⟩ := hha (fun e => by have := HM.out.2.2.2.1; rw [e] at this; cases this)
  obtain ⟨rfl, hbb, hrb⟩ := hhb (fun e => by have := HM.out.2.2.2.2.1; rw [e] at this; cases this)
  obtain ⟨rfl, hbc, hrc⟩ := hhc (fun e => by have := HM.out.2.2.2.2.2; rw [e] at this; cases this)
  subst ea eb ec
  have hma' : ca ≤ 9223372036854775807 := by unfold maxLen at hma; omega
  have hmb' : cb ≤ 9223372036854775807 := by unfold maxLen at hmb; omega
  have hmc' : cc' ≤ 9223372036854775807 := by unfold maxLen at hmc; omega
  rw [HM.out.2.2.2.1] at hra ⊢
  rw [HM.out.2.2.2.2.1] at hrb ⊢
  rw [HM.out.2.2.2.2.2] at hrc ⊢
  have HC := hide (And.intro hra (And.intro hrb hrc))
  have HLT := hide (And.intro hba (And.intro hbb hbc))
  clear hha hhb hhc hra hrb hrc hba hbb hbc hma hmb hmc hca hcb hcc FA FB FC
  go_wp2_with fail
  clear hz
  go_loopw [32] (fun i wr => ∃ (m : Nat) (T : List Nat), m ≤ 32 ∧ i = .int .i64 (m : Int) ∧ T.length = 64 ∧ bval T = bval (A.take m) * bval B + bval (C.take m) ∧ (∀ i, T.getD i 0 ≤ 33 * m * 65025) ∧ wr.heap[w3.heap.size]? = some (.cells (ja T) 49 (0, 0)) ∧ wr.heap.size = w3.heap.size + 1 ∧ Below w3.heap.size w3 wr) (fun i _ => 32 - (intOf i).toNat)
  case atStart => exact ⟨0, zz 64, by omega, rfl, zz_len 64, by simp [bval_zz, bval], fun i => by rw [zz_get]; omega, by rw [HZ.out.1]; exact heap_alloc_last _ _, by simp, (Below.refl _ _).alloc (Nat.le_refl _) _⟩
  case round =>
    obtain ⟨m, T, hm, rfl, hTl, hTv, hTb, hrt, hsz, hBw⟩ := hrel
    by_cases hlt : m < 32
    · have hcc := (Below.cell (p := ⟨bc', oc + m, none⟩) hBw HLT.out.2.2).trans (HC.out.2.2 m hlt)
      have hct := cell_of_row _ _ m _ _ _ hrt
      rw [ja_get _ _ (by omega)] at hct
      have hfro : wr.frozen? ⟨w3.heap.size, m, none⟩ = false := frozen_of_row _ _ _ _ _ hrt
      have hcl := HM.out.2.2.1 m
      have htb := hTb m
      have hset := bval_set T m (C.getD m 0) (by omega)
      have hsb := set_bound (k := m) (d := C.getD m 0) hTb (by omega)
      have hct2 := bval_take C m (by rw [HM.out.2.2.2.2.2]; exact hlt)
      obtain ⟨ck, hck⟩ : ∃ n, C.getD m 0 = n := ⟨_, rfl⟩
      obtain ⟨tk, htk⟩ : ∃ n, T.getD m 0 = n := ⟨_, rfl⟩
      rw [hck] at hcc hcl hset hsb hct2
      rw [htk] at hct htb hset hsb
      obtain ⟨sk, hsk⟩ : ∃ n, tk + ck = n := ⟨_, rfl⟩
      have e1 : (tk : Int) + (ck : Int) = (sk : Int) := by omega
      rw [hsk] at hset hsb
      have HS := hide (And.intro hset (And.intro hsb hct2))
      have HT := hide (And.intro hTv hTb)
      have HRT := hide hrt
      have HBW := hide hBw
      have b1 : (0 : Int) ≤ (m : Int) := by omega
      have b2 : (m : Int) < 32 := by omega
      have b3 : (ck : Int) < 256 := by omega
      have b4 : (tk : Int) ≤ 68666400 := by omega
      clear hset hsb hct2 hTv hTb hrt hBw hck htk hm hlt
      go_wp2_with fail
      go_region
      obtain ⟨W4, hW4⟩ : ∃ W, (wr.setCell ⟨w3.heap.size, m, none⟩ (.int .i64 (sk : Int))).drew = W := ⟨_, rfl⟩
      have hr4 : W4.heap[w3.heap.size]? = some (.cells (ja (T.set m sk)) 49 (0, 0)) := by rw [← hW4, heap_drew, heap_setCell_same _ _ _ _ _ _ HRT.out, ja_set]
      have hb4 : Below w3.heap.size w3 W4 := by rw [← hW4]; exact (HBW.out.setCell (by simp) _).drew
      have hs4 : W4.heap.size = w3.heap.size + 1 := by rw [← hW4, heap_drew]; simpa using hsz
      have hv4 : bval (T.set m sk) = bval (A.take m) * bval B + bval (C.take (m + 1)) := by rw [HS.out.1, HT.out.1, HS.out.2.2, Nat.add_assoc]
      have hd4 : ∀ i, (T.set m sk).getD i 0 ≤ (33 * m + 1) * 65025 := fun i => by have := HS.out.2.1 i; omega
      rw [hW4]
      have hl4 : (T.set m sk).length = 64 := by rw [List.length_set, hTl]
      have H4 := hide (And.intro hr4 (And.intro hb4 (And.intro hs4 (And.intro hv4 (And.intro hd4 hl4)))))
      have HM2 : Hid (m < 32) := by show m < 32; omega
      generalize T.set m sk = T4 at *
      clear hW4 hr4 hb4 hs4 hv4 hd4 hl4 HS HT HRT HBW hcc hct hfro htb b3 b4 e1 hsk hTl hsz hcl
      obtain ⟨am, ham⟩ : ∃ n, A.getD m 0 = n := ⟨_, rfl⟩
      have hal := HM.out.1 m
      rw [ham] at hal
      have HAM := hide ham
      clear ham
      go_wp2_with fail
      go_loopw [45] (fun j wr => ∃ (k : Nat) (T : List Nat), k ≤ 32 ∧ j = .int .i64 (k : Int) ∧ T.length = 64 ∧ bval T = bval (A.take m) * bval B + bval (C.take (m + 1)) + 256 ^ m * (am * bval (B.take k)) ∧ (∀ i, T.getD i 0 ≤ (33 * m + 1 + k) * 65025) ∧ wr.heap[w3.heap.size]? = some (.cells (ja T) 49 (0, 0)) ∧ wr.heap.size = w3.heap.size + 1 ∧ Below w3.heap.size w3 wr) (fun j _ => 32 - (intOf j).toNat)
      case atStart => exact ⟨0, T4, by omega, rfl, H4.out.2.2.2.2.2, by rw [H4.out.2.2.2.1]; simp [bval], H4.out.2.2.2.2.1, H4.out.1, H4.out.2.2.1, H4.out.2.1⟩
      case round =>
        obtain ⟨k, T, hk, rfl, hTl, hTv, hTb, hrt, hsz, hBw⟩ := hrel
        clear H4
        have hm32 := HM2.out
        by_cases hlt : k < 32
        · have hcb := (Below.cell (p := ⟨bb', ob + k, none⟩) hBw HLT.out.2.1).trans (HC.out.2.1 k hlt)
          have hca := (Below.cell (p := ⟨ba', oa + m, none⟩) hBw HLT.out.1).trans (HC.out.1 m HM2.out)
          rw [HAM.out] at hca
          have hct := cell_of_row _ _ (m + k) _ _ _ hrt
          rw [ja_get _ _ (by omega)] at hct
          have hfro : wr.frozen? ⟨w3.heap.size, m + k, none⟩ = false := frozen_of_row _ _ _ _ _ hrt
          have hbl := HM.out.2.1 k
          have htb := hTb (m + k)
          have hset := bval_set T (m + k) (am * B.getD k 0) (by omega)
          have hab : am * B.getD k 0 ≤ 65025 := Nat.mul_le_mul (show am ≤ 255 by omega) (show B.getD k 0 ≤ 255 by omega)
          have hsb := set_bound (k := m + k) (d := am * B.getD k 0) hTb hab
          have hbt := bval_take B k (by rw [HM.out.2.2.2.2.1]; exact hlt)
          obtain ⟨bk, hbk⟩ : ∃ n, B.getD k 0 = n := ⟨_, rfl⟩
          obtain ⟨tk, htk⟩ : ∃ n, T.getD (m + k) 0 = n := ⟨_, rfl⟩
          rw [hbk] at hcb hbl hset hsb hbt hab
          rw [htk] at hct htb hset hsb
          obtain ⟨pk, hpk⟩ : ∃ n, am * bk = n := ⟨_, rfl⟩
          rw [hpk] at hset hsb hab
          obtain ⟨sk, hsk⟩ : ∃ n, tk + pk = n := ⟨_, rfl⟩
          rw [hsk] at hset hsb
          have e0 : IntKind.i64.wrap ((am : Int) * (bk : Int)) = (pk : Int) := by rw [← Int.natCast_mul, hpk, IntKind.wrap_i64]; omega
          have e1 : (tk : Int) + (pk : Int) = (sk : Int) := by omega
          have hval : bval (T.set (m + k) sk) = bval (A.take m) * bval B + bval (C.take (m + 1)) + 256 ^ m * (am * bval (B.take (k + 1))) := by
            rw [hset, hTv, hbt, Nat.mul_add am, Nat.mul_add (256 ^ m), Nat.pow_add, ← hpk, Nat.mul_left_comm am, Nat.mul_assoc (256 ^ m) (256 ^ k), Nat.add_assoc]
          have hbd : ∀ i, (T.set (m + k) sk).getD i 0 ≤ (33 * m + 1 + (k + 1)) * 65025 := fun i => by have := hsb i; omega
          have HS := hide (And.intro hval hbd)
          have HRT := hide hrt
          have HBW := hide hBw
          generalize hn : m + k = n at *
          have hn1 : (m : Int) + (k : Int) = (n : Int) := by omega
          have hn2 : (n : Int) < 64 := by omega
          have hn3 : (0 : Int) ≤ (n : Int) := by omega
          have hn4 : IntKind.i64.wrap (n : Int) = (n : Int) := by rw [IntKind.wrap_i64]; omega
          have b2 : (0 : Int) ≤ (k : Int) := by omega
          have b3 : (k : Int) < 32 := by omega
          have b4 : (0 : Int) ≤ (m : Int) := by omega
          have b5 : (m : Int) < 32 := by omega
          have b6 : (am : Int) < 256 := by omega
          have b7 : (bk : Int) < 256 := by omega
          have b8 : (tk : Int) ≤ 100000000 := by omega
          have b9 : (pk : Int) ≤ 65025 := by omega
          clear hset hsb hbt hTv hTb hrt hBw hbk htk hpk hsk hval hbd hab htb hbl hal hn
          go_wp2_with fail
          go_region
          clear hn1 hn2 hn3 hn4 hca hcb hct e0 e1
          go_wp2
          refine ⟨⟨k + 1, T.set n sk, by omega, by go_num, by rw [List.length_set, hTl], HS.out.1, HS.out.2, ?_, ?_, ?_⟩, by simp [intOf]; omega⟩
          · rw [heap_drew, heap_setCell_same _ _ _ _ _ _ HRT.out, ja_set]
          · rw [heap_drew]; simpa using hsz
          · exact (HBW.out.setCell (by simp) _).drew
        · have hk32 : k = 32 := by omega
          subst hk32
          have dk : decide ((32 : Int) < 32) = false := by decide
          rw [List.take_of_length_le (l := B) (by rw [HM.out.2.2.2.2.1]; exact Nat.le_refl _)] at hTv
          have hat := bval_take A m (by rw [HM.out.2.2.2.1]; exact hm32)
          rw [HAM.out] at hat
          have hv : bval T = bval (A.take (m + 1)) * bval B + bval (C.take (m + 1)) := mul_row hTv hat rfl
          have HV := hide (And.intro hv hTb)
          have HRT := hide hrt
          have HBW := hide hBw
          clear hTv hat hv hTb hrt hBw hlt hk
          go_wp2
          refine ⟨⟨m + 1, T, by omega, by go_num, hTl, HV.out.1, fun i => by have := HV.out.2 i; omega, HRT.out, hsz, HBW.out⟩, by simp [intOf]; omega⟩
    · have hm32 : m = 32 := by omega
      subst hm32
      rw [List.take_of_length_le (l := A) (by rw [HM.out.2.2.2.1]; exact Nat.le_refl _), List.take_of_length_le (l := C) (by rw [HM.out.2.2.2.2.2]; exact Nat.le_refl _)] at hTv
      rw [← hTv] at HR4
      have HRT := hide hrt
      have HBW := hide hBw
      have HTB := hide hTb
      have HSZ := hide hsz
      clear hTb hrt hBw hTv hlt hm hsz
      go_wp2_with fail
      clear hmk
      have hsz := HSZ.out
      clear HSZ
      obtain ⟨n5, hn5⟩ : ∃ n, wr.heap.size = n := ⟨_, rfl⟩
      rw [hn5]
      go_loopw [69, 11] (fun i kv wx => ∃ k : Nat, k ≤ 64 ∧ i = .int .i64 (k : Int) ∧ kv = .int .i64 ((cc T k : Nat) : Int) ∧ wx.heap[n5]? = some (.cells (ba (mx (byt (bval T)) (zz 64) k)) 5 (0, 0)) ∧ wx.heap[w3.heap.size]? = some (.cells (ja T) 49 (0, 0)) ∧ n5 < wx.heap.size ∧ Below w3.heap.size w3 wx) (fun i _ _ => 64 - (intOf i).toNat)
      case atStart =>
        refine ⟨0, by omega, rfl, by simp [cc, bval], ?_, ?_, ?_, HBW.out.alloc HBW.out.size _⟩
        · rw [mx_zero, HZ.out.2, ← hn5]; exact heap_alloc_last _ _
        · rw [Below.heap_alloc _ _ _ (by omega)]; exact HRT.out
        · rw [← hn5]; simp
      case round =>
        obtain ⟨k, hk, rfl, rfl, hro, hrt, hsz5, hBw⟩ := hrel
        have hn6 : n5 = w3.heap.size + 1 := by omega
        clear HRT HBW hn5 hsz
        by_cases hlt : k < 64
        · have hct := cell_of_row _ _ k _ _ _ hrt
          rw [ja_get _ _ (by omega)] at hct
          have hco := cell_of_row _ _ k _ _ _ hro
          rw [ba_get _ _ (by rw [mx_len, zz_len]; exact hlt)] at hco
          have hfro : wr.frozen? ⟨n5, k, none⟩ = false := frozen_of_row _ _ _ _ _ hro
          have h1 := cc_step T k (by omega)
          have h2 := cc_byte T k (by omega)
          have h3 := cc_bound T 100000000 (fun i => by have := HTB.out i; omega) k (by omega)
          have h4 := HTB.out k
          obtain ⟨tk, htk⟩ : ∃ n, T.getD k 0 = n := ⟨_, rfl⟩
          obtain ⟨ck, hck⟩ : ∃ n, cc T k = n := ⟨_, rfl⟩
          obtain ⟨yk, hyk⟩ : ∃ n, byt (bval T) k = n := ⟨_, rfl⟩
          obtain ⟨cn, hcn⟩ : ∃ n, cc T (k + 1) = n := ⟨_, rfl⟩
          rw [htk] at hct h1 h2 h4
          rw [hck] at h1 h2 h3 ⊢
          rw [hyk] at h2
          rw [hcn] at h1
          have e1 : ((ck : Int) + (tk : Int)) % 256 = (yk : Int) := by omega
          have e2 : ((ck : Int) + (tk : Int)) / 256 = (cn : Int) := by omega
          have HQ := hide (And.intro hyk hcn)
          have HRO := hide hro
          have HRT := hide hrt
          have HBW := hide hBw
          have HN6 := hide hn6
          generalize (mx (byt (bval T)) (zz 64) k).getD k 0 = z at *
          have b1 : (0 : Int) ≤ (k : Int) := by omega
          have b2 : (k : Int) < 64 := by omega
          have b3 : (ck : Int) ≤ 100000000 := by omega
          have b4 : (tk : Int) ≤ 100000000 := by omega
          clear h1 h2 h3 h4 hro hrt hBw htk hck hyk hcn hn6
          go_wp2
          refine ⟨⟨k + 1, by omega, by go_num, by rw [HQ.out.2], ?_, ?_, ?_, ?_⟩, by simp [intOf]; omega⟩
          · rw [heap_setCell_same _ _ _ _ _ _ HRO.out, ba_set, mx_succ, HQ.out.1]
          · rw [heap_setCell_other _ _ _ _ (by have := HN6.out; simp; omega)]; exact HRT.out
          · simpa using hsz5
          · exact HBW.out.setCell (by have := HN6.out; simp; omega) _
        · have hk64 : k = 64 := by omega
          rw [hk64, mx_zz] at hro
          have dk : decide ((k : Int) < 64) = false := decide_eq_false (by omega)
          have FO := hide (bytesAt (c := 64) hro hsz5 (dg_lim 64 _) (by rw [dg_len]; exact Nat.le_refl _) (by unfold maxLen; omega))
          rw [dg_len] at FO
          have HBW := hide (Below.chain B3.out hBw)
          generalize cc T k = ck at *
          clear hro hrt hBw hk64 hlt hk hn6
          go_wp2_with fail
          refine (HR4.out _ _ FO.out).mono ?_
          rintro e w9 ⟨ur, rfl, fr, b9⟩
          have FR := hide fr
          have B9 := hide (Below.chain HBW.out b9)
          clear fr b9
          go_wp2
          go_ret
          exact ⟨_, rfl, FR.out, B9.out⟩
end Go.Proofs.YtmaolpinppnijaaDoor
