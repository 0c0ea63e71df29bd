/- Whether bytes may be a number, and bytes with some bits laid, the page's own way: as its calls answer, in any world. -/
import Derived.Test.YtmaolpinppnijaaDoorPg2
namespace Go.Proofs.YtmaolpinppnijaaDoor
open Go.RowKit
set_option maxHeartbeats 1000000 in
theorem reduce_ref_long (v : Value) (bs : List Nat) (w : World) (h : BsAt w v bs) (hlen : 64 < bs.length) :
    Calls Tryd.prog 12 #[v] w fun e w' => e = .returned (.slice none 0 0) ∧ Below w.heap.size w w' := by
  obtain ⟨ao, c, rfl, _, hc⟩ := h.len
  have hd : decide ((64 : Int) < (bs.length : Int)) = true := decide_eq_true (by omega)
  clear h hlen
  go_enter Tryd.func12, Tryd.ntmps12
  go_wp2
  go_ret
  exact ⟨rfl, Below.refl _ _⟩
theorem zz_get (k i : Nat) : (zz k).getD i 0 = 0 := by
  unfold zz
  rw [List.getD_eq_getElem?_getD, List.getElem?_replicate]
  split <;> rfl
theorem dg_bval {bs : List Nat} (hl : bs.length = 32) (h : ∀ i, bs.getD i 0 < 256) : mx (fun i => bs.getD i 0) (zz 33) 32 = dg 33 (bval bs) := by
  refine List.ext_getElem (by rw [mx_len, zz_len, dg_len]) fun i h1 h2 => ?_
  have hi : i < 33 := by rw [dg_len] at h2; exact h2
  have h3 := mx_get (fun i => bs.getD i 0) (zz 33) 32 i (by rw [zz_len]; decide)
  have h4 := dg_get 33 (bval bs) i hi
  rw [List.getD_eq_getElem?_getD, List.getElem?_eq_getElem h1] at h3
  rw [List.getD_eq_getElem?_getD, List.getElem?_eq_getElem h2] at h4
  simp only [Option.getD_some] at h3 h4
  rw [h3, h4, byt, bval_byte bs i h]
  by_cases e : i < 32
  · rw [if_pos e]
  · have h5 : bs.getD i 0 = 0 := by
      rw [List.getD_eq_getElem?_getD, List.getElem?_eq_none (by omega)]
      rfl
    rw [if_neg e, h5, zz_get]
set_option maxRecDepth 100000 in
set_option maxHeartbeats 2000000 in
theorem may_ref (v : Value) (bs : List Nat) (w : World) (h : BsAt w v bs) (hl : bs.length = 32) : Calls Tryd.prog 10 #[v] w fun e w' => e = .returned (.bool (decide (bval bs < ll))) ∧ Below w.heap.size w w' := by
  have hz2 := zero42
  have hN := bval_all h.lim
  rw [hl] at hN
  have HB3 := hide (below_ref (bval bs) (Nat.lt_trans hN (by decide)))
  have HDG := hide (dg_bval hl h.lim)
  rw [← HDG.out] at HB3
  obtain ⟨b, o, c, ao, rfl, hc, hm, hlim, hh⟩ := h
  have hcm : c ≤ 9223372036854775807 := by unfold maxLen at hm; omega
  obtain ⟨rfl, hb, hcell⟩ := hh (fun e => by subst e; simp at hl)
  obtain ⟨dd, hdd⟩ : ∃ d, decide (bval bs < ll) = d := ⟨_, rfl⟩
  rw [hdd] at HB3 ⊢
  obtain ⟨ZX, hZX⟩ : ∃ x, ja (zz 33) = x := ⟨_, rfl⟩
  rw [hZX] at hz2
  have HZX := hide hZX
  have HC := hide hcell
  have HLIM := hide hlim
  rw [hl]
  have HL := hide hl
  have hf : Hid (∃ f, f = fun i => bs.getD i 0) := ⟨_, rfl⟩
  obtain ⟨f, hf⟩ := hf.out
  rw [← hf] at HB3
  have HF := hide hf
  clear hZX hm hc hlim hh hcell hdd hl hN HDG hf
  go_enter Tryd.func10, Tryd.ntmps10
  go_wp2_with fail
  clear hz2
  go_loopw [11] (fun i wr => ∃ k : Nat, k ≤ 32 ∧ i = .int .i64 (k : Int) ∧ wr.heap[w.heap.size]? = some (.cells (ja (mx f (zz 33) k)) 42 (0, 0)) ∧ Below w.heap.size w wr) (fun i _ => 32 - (intOf i).toNat)
  case atStart => exact ⟨0, by omega, rfl, by rw [mx_zero, HZX.out]; exact heap_alloc_last _ _, (Below.refl _ _).alloc (Nat.le_refl _) _⟩
  case round =>
    obtain ⟨k, hk, rfl, hrx, hB⟩ := hrel
    by_cases hlt : k < 32
    · have hcb : wr.cell? ⟨b, o + k, none⟩ = some (.int .u8 ((bs.getD k 0 : Nat) : Int)) := (Below.cell (p := ⟨b, o + k, none⟩) hB hb).trans (HC.out k (by rw [HL.out]; exact hlt))
      have hc2 := cell_of_row _ _ k _ _ _ hrx
      rw [ja_get _ _ (by rw [mx_len, zz_len]; omega)] at hc2
      have hfro : wr.frozen? ⟨w.heap.size, k, none⟩ = false := frozen_of_row _ _ _ _ _ hrx
      have h4 := HLIM.out k
      obtain ⟨xk, hxk⟩ : ∃ n, bs.getD k 0 = n := ⟨_, rfl⟩
      rw [hxk] at hcb h4
      have hfk : Hid (f k = xk) := by rw [HF.out]; exact hxk
      have HRX := hide hrx
      have HBX := hide hB
      generalize (mx f (zz 33) k).getD k 0 = z at *
      have b1 : (0 : Int) ≤ (k : Int) := by omega
      have b2 : (k : Int) < 32 := by omega
      have b6 : (xk : Int) < 256 := by omega
      clear hrx hB hxk
      go_wp2
      refine ⟨⟨k + 1, by omega, by go_num, ?_, ?_⟩, by simp [intOf]; omega⟩
      · rw [heap_setCell_same _ _ _ _ _ _ HRX.out, ja_set, mx_succ, hfk.out]
      · exact HBX.out.setCell (by simp) _
    · have hk32 : k = 32 := by omega
      rw [hk32] at hrx
      have hR33 : (ja (mx f (zz 33) 32)).size = 33 := by rw [ja_size, mx_len, zz_len]
      obtain ⟨R, hR⟩ : ∃ R, ja (mx f (zz 33) 32) = R := ⟨_, rfl⟩
      rw [hR] at HB3 hrx hR33
      have HBX := hide hB
      have hnlt : decide ((k : Int) < 32) = false := decide_eq_false (by omega)
      clear hk hlt hk32 hR hB
      go_wp2_with (first | (refine wpList_load_row rfl 42 (.tmp 3) rfl w.heap.size rfl 42 R (0,0) (.array 33 2) hrx und42 rfl (by rw [hR33]; exact size42) ?_) | fail)
      refine (HB3.out _).mono ?_
      rintro e w4 ⟨rfl, b4⟩
      have HB4 := hide (Below.chain HBX.out b4)
      clear b4
      go_wp2
      go_ret
      exact ⟨rfl, HB4.out⟩
set_option maxHeartbeats 1000000 in
theorem may_ref_other (v : Value) (bs : List Nat) (w : World) (h : BsAt w v bs) (hlen : bs.length ≠ 32) :
    Calls Tryd.prog 10 #[v] w fun e w' => e = .returned (.bool false) ∧ Below w.heap.size w w' := by
  obtain ⟨ao, c, rfl, _, hc⟩ := h.len
  have hne : ((bs.length : Int) == 32) = false := by rw [beq_eq_false_iff_ne]; omega
  clear h hlen
  go_enter Tryd.func10, Tryd.ntmps10
  go_wp2
  go_ret
  exact ⟨rfl, Below.refl _ _⟩
theorem bits_lo2 (x : Nat) (h : x < 256) : bits .and .u8 (x : Int) 248 = ((lo8 x : Nat) : Int) := by
  have : ∀ y : Fin 256, bits .and .u8 ((y.1 : Nat) : Int) 248 = ((lo8 y.1 : Nat) : Int) := by decide +kernel
  exact this ⟨x, h⟩
theorem bits_mid2 (x : Nat) (h : x < 256) : bits .and .u8 (x : Int) 127 = ((x % 128 : Nat) : Int) := by
  have : ∀ y : Fin 256, bits .and .u8 ((y.1 : Nat) : Int) 127 = ((y.1 % 128 : Nat) : Int) := by decide +kernel
  exact this ⟨x, h⟩
theorem own_nil (w : World) : Own w w.heap.size (.slice none 0 0) [] := ⟨World.ownsRow_nil _ _ _ _, by simp⟩
set_option maxRecDepth 100000 in
set_option maxHeartbeats 1000000 in
theorem clamp_ref (v : Value) (l : List Nat) (w : World) (h : BsAt w v l) (hl : l.length = 32) : Calls Tryd.prog 18 #[v] w (Bret w (clampb l)) := by
  have H := hide h
  have hl0 := h.lim 0
  have hl31 := h.lim 31
  obtain ⟨ao, c, rfl, _, hc⟩ := h.len
  rw [hl] at H ⊢
  have HL := hide hl
  clear h
  go_enter Tryd.func18, Tryd.ntmps18
  go_wp2_with (at_builtin; refine wpList_append_b rfl _ (.tmp 7) rfl (base := w.heap.size) (l := []) (m := l) (own_nil w) H.out (by rw [HL.out]; decide) (Nat.le_refl _) ?_)
  intro u w1 o1 g1
  have b1 : Below w.heap.size w w1 := (Below.refl _ _).grown g1 (Nat.le_refl _) (by simp [Value.ownBlock])
  have hl1 := HL.out
  obtain ⟨g, cap, rfl, hg1, hg2, hcap, hcm⟩ := o1.form (by omega)
  have c0 : w1.cell? ⟨g, 0, none⟩ = some (.int .u8 ((l.getD 0 0 : Nat) : Int)) := by rw [o1.row.cellAt 0 (by omega), nv_get l 0 (by omega)]
  have c31 : w1.cell? ⟨g, 31, none⟩ = some (.int .u8 ((l.getD 31 0 : Nat) : Int)) := by rw [o1.row.cellAt 31 (by omega), nv_get l 31 (by omega)]
  have f0 := o1.row.frozenAt 0
  have f31 := o1.row.frozenAt 31
  have e1 := bits_lo2 _ hl0
  have e2 := bits_mid2 _ hl31
  have e3 := bits_hi _ hl31
  have OA := hide ((o1.set 0 (lo8 (l.getD 0 0)) (lo8_lt _ hl0)).set 31 (hi8 (l.getD 31 0)) (hi8_lt _))
  have hcl : (l.set 0 (lo8 (l.getD 0 0))).set 31 (hi8 (l.getD 31 0)) = clampb l := rfl
  rw [hcl] at OA
  have B1 := hide b1
  rw [hl1] at OA hcap ⊢
  generalize l.getD 0 0 = x0 at *
  generalize l.getD 31 0 = x31 at *
  generalize lo8 x0 = y0 at *
  generalize hi8 x31 = y31 at *
  generalize x31 % 128 = z31 at *
  generalize clampb l = C at *
  clear hcl hl0 hl31 HL hl hl1 o1 b1 g1
  go_wp2
  go_ret
  exact ⟨_, rfl, OA.out.at, (B1.out.setCell hg1 _).setCell hg1 _⟩
set_option maxHeartbeats 1000000 in
theorem clamp_ref_other (v : Value) (l : List Nat) (w : World) (h : BsAt w v l) (hl : l.length ≠ 32) : Calls Tryd.prog 18 #[v] w fun e w' => e = .returned (.slice none 0 0) ∧ Below w.heap.size w w' := by
  obtain ⟨ao, c, rfl, _, hc⟩ := h.len
  have hne : ((l.length : Int) == 32) = false := by rw [beq_eq_false_iff_ne]; omega
  clear h hl
  go_enter Tryd.func18, Tryd.ntmps18
  go_wp2
  go_ret
  exact ⟨rfl, Below.refl _ _⟩
end Go.Proofs.YtmaolpinppnijaaDoor
