/- What bytes leave by the order, the page's own way: as its call answers, in any world. -/
import Derived.Test.YtmaolpinppnijaaDoorPg1
namespace Go.Proofs.YtmaolpinppnijaaDoor
open Go.RowKit
theorem dg_zero (m : Nat) : dg m 0 = zz m := by
  refine List.ext_getElem (by rw [dg_len, zz_len]) fun i h1 h2 => ?_
  simp [dg, zz, byt]
theorem bit_byte (N q : Nat) : N / 2 ^ q % 2 = N / 256 ^ (q / 8) % 256 / 2 ^ (q % 8) % 2 := by
  have h1 : (256 : Nat) = 2 ^ (q % 8) * (2 * 2 ^ (7 - q % 8)) := by
    rw [← Nat.pow_succ', ← Nat.pow_add, show q % 8 + (7 - q % 8).succ = 8 by omega]
  have h2 : (256 : Nat) ^ (q / 8) * 2 ^ (q % 8) = 2 ^ q := by
    rw [show (256 : Nat) = 2 ^ 8 from rfl, ← Nat.pow_mul, ← Nat.pow_add]
    congr 1; omega
  rw [← h2, ← Nat.div_div_eq_div_mul]
  generalize N / 256 ^ (q / 8) = y
  conv => rhs; rw [h1, Nat.mod_mul_right_div_self, Nat.mod_mul_right_mod]
theorem and_255 (x : Int) (h1 : -512 ≤ x) (h2 : x < 1024) : bits .and .i64 x 255 = x % 256 := by
  have : ∀ n : Fin 1536, bits .and .i64 ((n.1 : Int) - 512) 255 = ((n.1 : Int) - 512) % 256 := by decide +kernel
  have h := this ⟨(x + 512).toNat, by omega⟩
  simp only at h
  rwa [show (((x + 512).toNat : Nat) : Int) - 512 = x by omega] at h
theorem and_bit (y s : Nat) (hy : y < 256) : bits .and .i64 (wrap64 ((y : Int) / 2 ^ s)) 1 = ((y / 2 ^ s % 2 : Nat) : Int) := by
  have h1 : ((y : Int) / 2 ^ s) = ((y / 2 ^ s : Nat) : Int) := by simp
  have h2 : y / 2 ^ s < 256 := Nat.lt_of_le_of_lt (Nat.div_le_self _ _) hy
  rw [h1]
  generalize y / 2 ^ s = z at *
  have : ∀ n : Fin 256, bits .and .i64 (wrap64 ((n.1 : Nat) : Int)) 1 = ((n.1 % 2 : Nat) : Int) := by decide +kernel
  exact this ⟨z, h2⟩
theorem mx_succ (f : Nat → Nat) (l : List Nat) (k : Nat) : mx f l (k + 1) = (mx f l k).set k (f k) := rfl
theorem mx_zero (f : Nat → Nat) (l : List Nat) : mx f l 0 = l := rfl
theorem dbl_lt {v c l : Nat} (h : v < l) (hc : c ≤ 1) : 2 * v + c < 2 * l := by omega
theorem ll_half : 2 * ll < 256 ^ 33 := by decide
set_option maxRecDepth 100000 in
set_option maxHeartbeats 4000000 in
theorem reduce_ref (v : Value) (bs : List Nat) (w : World) (h : BsAt w v bs) (hl : bs.length ≤ 64) : Calls Tryd.prog 12 #[v] w (Bret w (bys (bval bs % ll) 32)) := by
  obtain ⟨BV, HBV⟩ : ∃ l, Hid (bys (bval bs % ll) 32 = l) := ⟨bys (bval bs % ll) 32, hide rfl⟩
  rw [HBV.out]
  have hz := zero46
  have hz2 := zero42
  have HO := hide order_ref
  have HBE := hide below_ref
  have HB0 := hide h
  obtain ⟨b, o, c, ao, rfl, hc, hm, hlim, hh⟩ := h
  have hcm : c ≤ 9223372036854775807 := by unfold maxLen at hm; omega
  obtain ⟨LR, hLR⟩ : ∃ x, ja lrow = x := ⟨_, rfl⟩
  obtain ⟨ZR, hZR⟩ : ∃ x, ja (zz 32) = x := ⟨_, rfl⟩
  obtain ⟨ZX, hZX⟩ : ∃ x, ja (zz 33) = x := ⟨_, rfl⟩
  have hs2 : LR.size = 32 := by rw [← hLR]; exact lr32
  have hs3 : ZR.size = 32 := by rw [← hZR]; exact zr32
  have ho : LR.all (·.oneCell') = true := by rw [← hLR]; exact ja_one _
  have GL : Hid (∀ k, k < 32 → LR[k]? = some (.int .i64 ((byt ll k : Nat) : Int))) := fun k hk => by rw [← hLR, ja_get _ _ (by rw [lrow_len]; exact hk), lrow, dg_get _ _ _ hk]
  rw [hLR] at HO
  rw [hZR] at hz
  rw [hZX] at hz2
  have HZX := hide hZX
  have dl : decide ((64 : Int) < (bs.length : Int)) = false := decide_eq_false (by omega)
  have HL := hide hl
  have HLIM := hide hlim
  have HH := hide hh
  clear hLR hZR hZX hm hc hlim hh
  go_enter Tryd.func12, Tryd.ntmps12
  go_wp2_with fail
  refine (HO.out _).mono ?_
  rintro e w1 ⟨rfl, b1⟩
  obtain ⟨W2, hW2⟩ : ∃ W, (w1.alloc (.cells ZR 46)).setRow w1.heap.size LR = W := ⟨_, rfl⟩
  have hrl : W2.heap[w1.heap.size]? = some (.cells LR 46 (0, 0)) := by rw [← hW2]; exact setRow_heap _ _ _ _ _ _ (heap_alloc_last _ _)
  have B2 : Hid (Below w.heap.size w W2) := by rw [← hW2]; exact Below.setRow (b1.alloc b1.size _) _ _ b1.size
  have S2 : W2.heap.size = w1.heap.size + 1 := by rw [← hW2]; simp
  have S1 : Hid (w.heap.size ≤ w1.heap.size) := b1.size
  have HRL := hide hrl
  clear b1 hrl
  go_wp2_with (refine wpList_store_row rfl 46 (.tmp 3) (.tmp 15) rfl w1.heap.size LR rfl rfl 46 ZR (heap_alloc_last _ _) (by rw [hs2]; exact size46) (by rw [hs2]; exact hs3) ho ?_; rw [hW2])
  clear hW2 hz hz2 hs3 ho HO
  have hrx : (W2.alloc (.cells ZX 42)).heap[w1.heap.size + 1]? = some (.cells (ja (dg 33 (bval bs / 2 ^ (8 * bs.length) % ll))) 42 (0, 0)) := by
    have hN := bval_all HLIM.out
    rw [show (256 : Nat) = 2 ^ 8 from rfl, ← Nat.pow_mul] at hN
    rw [Nat.div_eq_of_lt hN, Nat.zero_mod, dg_zero, HZX.out, ← S2]
    exact heap_alloc_last _ _
  have hrl2 : (W2.alloc (.cells ZX 42)).heap[w1.heap.size]? = some (.cells LR 46 (0, 0)) := by
    rw [Below.heap_alloc _ _ _ (by omega)]; exact HRL.out
  have hst : ((8 * (bs.length : Int)) - 1) = (((8 * bs.length : Nat) : Int) - 1) := by omega
  go_loopw [5] (fun i wr => ∃ j : Nat, j ≤ 8 * bs.length ∧ i = .int .i64 ((j : Int) - 1) ∧ wr.heap[w1.heap.size + 1]? = some (.cells (ja (dg 33 (bval bs / 2 ^ j % ll))) 42 (0, 0)) ∧ wr.heap[w1.heap.size]? = some (.cells LR 46 (0, 0)) ∧ Below w.heap.size w wr) (fun i _ => (intOf i + 1).toNat)
  case atStart => exact ⟨8 * bs.length, Nat.le_refl _, by rw [← hst], hrx, hrl2, B2.out.alloc B2.out.size _⟩
  case round =>
    obtain ⟨j, hj, rfl, hrx, hrl, hB⟩ := hrel
    clear hst hrl2 HRL B2 S2
    by_cases hj0 : j = 0
    · subst hj0
      rw [Nat.pow_zero, Nat.div_one] at hrx
      obtain ⟨V, hV⟩ : ∃ n, bval bs % ll = n := ⟨_, rfl⟩
      rw [hV] at hrx
      have HVV := hide hV
      have hmk := make32
      have hz0 : ba (bys V 0) = ba (List.replicate 32 0) := rfl
      generalize ba (List.replicate 32 0) = ZB at *
      have HZ := hide hz0
      have HRX := hide hrx
      have HBX := hide hB
      have HSZ : Hid (w1.heap.size + 1 < wr.heap.size) := (Array.getElem?_eq_some_iff.1 hrx).1
      clear hz0 hrx hrl hB hV hj
      go_wp2_with fail
      clear hmk
      obtain ⟨n5, hn5⟩ : ∃ n, wr.heap.size = n := ⟨_, rfl⟩
      rw [hn5]
      go_loopw [79] (fun i wx => ∃ k : Nat, k ≤ 32 ∧ i = .int .i64 (k : Int) ∧ wx.heap[n5]? = some (.cells (ba (bys V k)) 5 (0, 0)) ∧ wx.heap[w1.heap.size + 1]? = some (.cells (ja (dg 33 V)) 42 (0, 0)) ∧ n5 < wx.heap.size ∧ Below w.heap.size w wx) (fun i _ => 32 - (intOf i).toNat)
      case atStart =>
        refine ⟨0, by omega, rfl, ?_, ?_, ?_, HBX.out.alloc HBX.out.size _⟩
        · rw [HZ.out, ← hn5]; exact heap_alloc_last _ _
        · rw [Below.heap_alloc _ _ _ HSZ.out]; exact HRX.out
        · rw [← hn5]; simp
      case round =>
        obtain ⟨k, hk, rfl, hro, hrx, hsz, hB⟩ := hrel
        have hsz2 := HSZ.out
        rw [hn5] at hsz2
        clear HZ HRX HBX HSZ hn5
        by_cases hlt : k < 32
        · have hc1 := cell_of_row _ _ k _ _ _ hrx
          rw [ja_get _ _ (by rw [dg_len]; omega), dg_get _ _ _ (by omega)] at hc1
          have hc2 := cell_of_row _ _ k _ _ _ hro
          rw [ba_get _ _ (by rw [bys_len]; exact hlt)] at hc2
          have hfro : wr.frozen? ⟨n5, k, none⟩ = false := frozen_of_row _ _ _ _ _ hro
          have h4 := byt_lt V k
          obtain ⟨xk, hxk⟩ : ∃ n, byt V k = n := ⟨_, rfl⟩
          rw [hxk] at hc1 h4
          have HQ := hide hxk
          have HRO := hide hro
          have HRX := hide hrx
          have HBX := hide hB
          generalize (bys V k).getD k 0 = z at *
          have b1 : (0 : Int) ≤ (k : Int) := by omega
          have b2 : (k : Int) < 32 := by omega
          have b6 : (xk : Int) < 256 := by omega
          have HNE : Hid (w1.heap.size + 1 < n5) := hsz2
          clear hro hrx hB hxk
          go_wp2
          refine ⟨⟨k + 1, by omega, by go_num, ?_, ?_, ?_, ?_⟩, by simp [intOf]; omega⟩
          · rw [heap_setCell_same _ _ _ _ _ _ HRO.out, ba_set, bys, HQ.out]
          · rw [heap_setCell_other _ _ _ _ (by have := HNE.out; simp; omega)]; exact HRX.out
          · simpa using hsz
          · exact HBX.out.setCell (by have := S1.out; have := HNE.out; simp; omega) _
        · have hk32 : k = 32 := by omega
          rw [hk32] at hro
          have hnlt : decide ((k : Int) < 32) = false := decide_eq_false (by omega)
          have HRO := hide (bytesAt (c := 32) hro hsz (bys_lim V) (by rw [bys_len]; exact Nat.le_refl _) (by unfold maxLen; omega))
          rw [bys_len, ← HVV.out, HBV.out] at HRO
          have HBX := hide hB
          clear hro hrx hB hk32 hlt hk
          go_wp2
          go_ret
          exact ⟨_, rfl, HRO.out, HBX.out⟩
    · obtain ⟨q, rfl⟩ : ∃ q, j = q + 1 := ⟨j - 1, by omega⟩
      have hq8 : q / 8 < bs.length := by omega
      have hby := bval_byte bs (q / 8) HLIM.out
      have hb1 : bs.getD (q / 8) 0 < 256 := HLIM.out _
      obtain ⟨rfl, hb, hcell⟩ := HH.out (fun e => by subst e; simp at hq8)
      have hcb : wr.cell? ⟨b, o + q / 8, none⟩ = some (.int .u8 ((bs.getD (q / 8) 0 : Nat) : Int)) := (Below.cell (p := ⟨b, o + q / 8, none⟩) hB hb).trans (hcell _ hq8)
      have hbit := bit_byte (bval bs) q
      rw [hby] at hbit
      obtain ⟨y, hy⟩ : ∃ y, bs.getD (q / 8) 0 = y := ⟨_, rfl⟩
      rw [hy] at hcb hbit hb1
      have hq : (((q + 1 : Nat) : Int) - 1) = (q : Int) := by omega
      rw [hq]
      have b0 : (0 : Int) ≤ (q : Int) := by omega
      have b1 : (q : Int) < 512 := by have := HL.out; omega
      have b2 : (q : Int) / 8 < (bs.length : Int) := by omega
      have b3 : (0 : Int) ≤ (q : Int) / 8 := by omega
      have b4 : (0 : Int) ≤ (q : Int) % 8 := by omega
      have HX := hide hrx
      have HR := hide hrl
      have hcc := and_bit y (q % 8) hb1
      obtain ⟨cb, hcb1⟩ : ∃ n, y / 2 ^ (q % 8) % 2 = n := ⟨_, rfl⟩
      rw [hcb1] at hcc hbit
      have hcb2 : cb ≤ 1 := by rw [← hcb1]; exact Nat.le_of_lt_succ (Nat.mod_lt _ (by decide))
      obtain ⟨V, hV⟩ : ∃ n, bval bs / 2 ^ (q + 1) % ll = n := ⟨_, rfl⟩
      rw [hV] at HX
      have hVl : V < ll := by rw [← hV]; exact ll_mod _
      obtain ⟨Y, hY⟩ : ∃ n, 2 * V + cb = n := ⟨_, rfl⟩
      have hY33 : Y < 256 ^ 33 := by rw [← hY]; exact Nat.lt_trans (dbl_lt hVl hcb2) ll_half
      have hnext : (if Y < ll then Y else Y - ll) = bval bs / 2 ^ q % ll := by
        rw [← hY, ← hV, mod_bit hcb2, half (bval bs) q, hbit]
      have HN := hide (And.intro hnext (And.intro hY (And.intro hVl hY33)))
      have HBB := hide hB
      have HJ := hide hj
      have HSZ : Hid (w1.heap.size + 1 < wr.heap.size) := (Array.getElem?_eq_some_iff.1 HX.out).1
      clear hby hcell hrx hrl hy hj0 hq hcb1 hbit hV hVl hY hY33 hnext hb1 hB hj
      go_wp2_with fail
      clear hcc hcb b1 b2 b3 b4
      go_loopw [35, 6] (fun i cv wx => ∃ k : Nat, k ≤ 33 ∧ i = .int .i64 (k : Int) ∧ cv = .int .i64 ((dc V cb k : Nat) : Int) ∧ wx.heap[w1.heap.size + 1]? = some (.cells (ja (mx (byt Y) (dg 33 V) k)) 42 (0, 0)) ∧ wx.heap[w1.heap.size]? = some (.cells LR 46 (0, 0)) ∧ Below w.heap.size w wx) (fun i _ _ => 33 - (intOf i).toNat)
      case atStart => exact ⟨0, by omega, rfl, by rw [dc_zero], by rw [mx_zero]; exact HX.out, HR.out, HBB.out⟩
      case round =>
        obtain ⟨k, hk, rfl, rfl, hrx, hrl, hB⟩ := hrel
        clear HX HR HBB HSZ
        by_cases hlt : k < 33
        · have hlen : (mx (byt Y) (dg 33 V) k).length = 33 := by rw [mx_len, dg_len]
          have hc1 := cell_of_row _ _ k _ _ _ hrx
          rw [ja_get _ _ (by omega), mx_get _ _ _ _ (by rw [dg_len]; omega), if_neg (by omega), dg_get _ _ _ hlt] at hc1
          have hfro : wr.frozen? ⟨w1.heap.size + 1, k, none⟩ = false := frozen_of_row _ _ _ _ _ hrx
          have h1 := dc_step V cb k
          have h2 := dc_byte V cb k
          rw [HN.out.2.1] at h2
          have h3 := dc_lt V cb k hcb2
          have h4 := byt_lt V k
          obtain ⟨xk, hxk⟩ : ∃ n, byt V k = n := ⟨_, rfl⟩
          obtain ⟨ck, hck⟩ : ∃ n, dc V cb k = n := ⟨_, rfl⟩
          obtain ⟨yk, hyk⟩ : ∃ n, byt Y k = n := ⟨_, rfl⟩
          obtain ⟨cn, hcn⟩ : ∃ n, dc V cb (k + 1) = n := ⟨_, rfl⟩
          rw [hxk] at hc1 h1 h2 h4
          rw [hck] at h1 h2 h3 ⊢
          rw [hyk] at h2
          rw [hcn] at h1
          have e1 : bits BinOp.and IntKind.i64 ((ck : Int) + 2 * (xk : Int)) 255 = (yk : Int) := by rw [and_255 _ (by omega) (by omega)]; omega
          have e2 : ((ck : Int) + 2 * (xk : Int)) / 256 = (cn : Int) := by omega
          have HQ := hide (And.intro hyk hcn)
          have HRX := hide hrx
          have HRL := hide hrl
          have HBX := hide hB
          have b1 : (0 : Int) ≤ (k : Int) := by omega
          have b2 : (k : Int) < 33 := by omega
          have b5 : (ck : Int) ≤ 1 := by omega
          have b6 : (xk : Int) < 256 := by omega
          clear h1 h2 h3 h4 hxk hck hyk hcn hrx hrl hB hlen
          go_wp2
          refine ⟨⟨k + 1, by omega, by go_num, by rw [HQ.out.2], ?_, ?_, ?_⟩, by simp [intOf]; omega⟩
          · rw [heap_setCell_same _ _ _ _ _ _ HRX.out, ja_set, mx_succ, HQ.out.1]
          · rw [heap_setCell_other _ _ _ _ (by simp)]; exact HRL.out
          · exact HBX.out.setCell (by have := S1.out; simp; omega) _
        · have hk33 : k = 33 := by omega
          rw [hk33, mx_dg 33 V Y] at hrx
          have HB3 := hide (below_ref Y HN.out.2.2.2)
          have hR33 : (ja (dg 33 Y)).size = 33 := by rw [ja_size, dg_len]
          obtain ⟨R, hR⟩ : ∃ R, ja (dg 33 Y) = R := ⟨_, rfl⟩
          rw [hR] at HB3 hrx hR33
          have HRR := hide hR
          have HRL := hide hrl
          have HBX := hide hB
          have hnlt : decide ((k : Int) < 33) = false := decide_eq_false (by omega)
          have d33 : ((dc V cb k : Nat) : Int) = ((dc V cb 33 : Nat) : Int) := by rw [hk33]
          rw [d33]
          generalize dc V cb 33 = c33 at *
          obtain ⟨dd, hdd⟩ : ∃ d, decide (Y < ll) = d := ⟨_, rfl⟩
          rw [hdd] at HB3
          have HDD := hide hdd
          clear hk hlt hk33 d33 hR hrl hB hdd
          go_wp2_with (first | (refine wpList_load_row rfl 42 (.tmp 4) rfl (w1.heap.size + 1) rfl 42 R (0,0) (.array 33 2) hrx und42 rfl (by rw [hR33]; exact size42) ?_) | fail)
          refine (HB3.out _).mono ?_
          rintro e w4 ⟨rfl, b4⟩
          have hsz1 : w1.heap.size + 1 < wr.heap.size := (Array.getElem?_eq_some_iff.1 hrx).1
          have hrx4 : w4.heap[w1.heap.size + 1]? = some (.cells R 42 (0, 0)) := (b4.block _ hsz1).trans hrx
          have hrl4 : w4.heap[w1.heap.size]? = some (.cells LR 46 (0, 0)) := (b4.block _ (by omega)).trans HRL.out
          have HB4 := hide (Below.chain HBX.out b4)
          clear b4 hrx HRL HBX HB3 hsz1
          cases dd with
          | true =>
            have hlt : Y < ll := of_decide_eq_true HDD.out
            have HX4 := hide hrx4
            have HL4 := hide hrl4
            clear hrx4 hrl4
            go_wp2
            refine ⟨⟨q, by have := HJ.out; omega, by go_num, ?_, HL4.out, HB4.out⟩, by simp [intOf]⟩
            rw [← HN.out.1, if_pos hlt, HRR.out]
            exact HX4.out
          | false =>
            have hge : ¬ Y < ll := of_decide_eq_false HDD.out
            have HGE := hide hge
            have HX4 := hide hrx4
            have HL4 := hide hrl4
            clear hrx4 hrl4 hge
            go_wp2_with fail
            go_loopw [54, 8] (fun i cv wr => ∃ k : Nat, k ≤ 33 ∧ i = .int .i64 (k : Int) ∧ cv = .int .i64 (sc Y ll k) ∧ wr.heap[w1.heap.size + 1]? = some (.cells (ja (mx (byt (Y - ll)) (dg 33 Y) k)) 42 (0, 0)) ∧ wr.heap[w1.heap.size]? = some (.cells LR 46 (0, 0)) ∧ Below w.heap.size w wr) (fun i _ _ => 33 - (intOf i).toNat)
            case atStart => exact ⟨0, by omega, rfl, by rw [sc_zero], by rw [mx_zero, HRR.out]; exact HX4.out, HL4.out, HB4.out⟩
            case round =>
              obtain ⟨k, hk, rfl, rfl, hrx, hrl, hB⟩ := hrel
              clear HX4 HL4 HB4
              by_cases hlt : k < 33
              · have hlen : (mx (byt (Y - ll)) (dg 33 Y) k).length = 33 := by rw [mx_len, dg_len]
                have hc1 := cell_of_row _ _ k _ _ _ hrx
                rw [ja_get _ _ (by omega), mx_get _ _ _ _ (by rw [dg_len]; omega), if_neg (by omega), dg_get _ _ _ hlt] at hc1
                have hfro : wr.frozen? ⟨w1.heap.size + 1, k, none⟩ = false := frozen_of_row _ _ _ _ _ hrx
                have h1 := sc_step Y ll k
                have h2 := sc_byte Y ll k (by have := HGE.out; omega)
                have h3 := sc_bound Y ll k
                have h4 := byt_lt Y k
                have h5 := byt_lt ll k
                have hl32 : k = 32 → byt ll k = 0 := fun e => by rw [e]; decide +kernel
                have hcl : k < 32 → wr.cell? ⟨w1.heap.size, k, none⟩ = some (.int .i64 ((byt ll k : Nat) : Int)) := fun e => by rw [cell_of_row _ _ k _ _ _ hrl]; exact GL.out k e
                obtain ⟨xk, hxk⟩ : ∃ n, byt Y k = n := ⟨_, rfl⟩
                obtain ⟨lk, hlk⟩ : ∃ n, byt ll k = n := ⟨_, rfl⟩
                obtain ⟨ck, hck⟩ : ∃ n, sc Y ll k = n := ⟨_, rfl⟩
                obtain ⟨yk, hyk⟩ : ∃ n, byt (Y - ll) k = n := ⟨_, rfl⟩
                obtain ⟨cn, hcn⟩ : ∃ n, sc Y ll (k + 1) = n := ⟨_, rfl⟩
                rw [hxk] at hc1 h1 h2 h4
                rw [hlk] at h1 h2 h5 hl32 hcl
                rw [hck] at h1 h2 h3 ⊢
                rw [hyk] at h2
                rw [hcn] at h1
                have HQ := hide (And.intro hyk hcn)
                have HRX := hide hrx
                have HRL := hide hrl
                have HBX := hide hB
                have b1 : (0 : Int) ≤ (k : Int) := by omega
                have b2 : (k : Int) < 33 := by omega
                have b6 : (xk : Int) < 256 := by omega
                have b7 : (lk : Int) < 256 := by omega
                have b8 := h3.1
                have b9 := h3.2
                by_cases h32 : k < 32
                · have hcl := hcl h32
                  have e1 : bits BinOp.and IntKind.i64 (ck + (xk : Int) - (lk : Int)) 255 = (yk : Int) := by rw [and_255 _ (by omega) (by omega)]; exact h2
                  have hk32 : (k : Int) < 32 := by omega
                  clear h2 h3 h4 h5 hxk hlk hck hyk hcn hrx hrl hB hlen hl32
                  go_wp2
                  refine ⟨⟨k + 1, by omega, by go_num, by rw [HQ.out.2], ?_, ?_, ?_⟩, by simp [intOf]; omega⟩
                  · rw [heap_setCell_same _ _ _ _ _ _ HRX.out, ja_set, mx_succ, HQ.out.1]
                  · rw [heap_setCell_other _ _ _ _ (by simp)]; exact HRL.out
                  · exact HBX.out.setCell (by have := S1.out; simp; omega) _
                · have hl0 := hl32 (by omega)
                  subst hl0
                  have e0 : ck + (xk : Int) - ((0 : Nat) : Int) = ck + (xk : Int) := by omega
                  rw [e0] at h1 h2
                  have e1 : bits BinOp.and IntKind.i64 (ck + (xk : Int)) 255 = (yk : Int) := by rw [and_255 _ (by omega) (by omega)]; exact h2
                  have hk32 : decide ((k : Int) < 32) = false := decide_eq_false (by omega)
                  clear h2 h3 h4 h5 hxk hlk hck hyk hcn hrx hrl hB hlen hl32 hcl e0
                  go_wp2
                  refine ⟨⟨k + 1, by omega, by go_num, by rw [HQ.out.2], ?_, ?_, ?_⟩, by simp [intOf]; omega⟩
                  · rw [heap_setCell_same _ _ _ _ _ _ HRX.out, ja_set, mx_succ, HQ.out.1]
                  · rw [heap_setCell_other _ _ _ _ (by simp)]; exact HRL.out
                  · exact HBX.out.setCell (by have := S1.out; simp; omega) _
              · have hk33 : k = 33 := by omega
                rw [hk33, mx_dg 33 Y (Y - ll)] at hrx
                have hnlt2 : decide ((k : Int) < 33) = false := decide_eq_false (by omega)
                have HRX := hide hrx
                have HRL := hide hrl
                have HBX := hide hB
                generalize sc Y ll k = sk at *
                clear hrx hrl hB hlt hk hk33
                go_wp2
                refine ⟨⟨q, by have := HJ.out; omega, by go_num, ?_, HRL.out, HBX.out⟩, by simp [intOf]⟩
                rw [← HN.out.1, if_neg HGE.out]
                exact HRX.out
end Go.Proofs.YtmaolpinppnijaaDoor
