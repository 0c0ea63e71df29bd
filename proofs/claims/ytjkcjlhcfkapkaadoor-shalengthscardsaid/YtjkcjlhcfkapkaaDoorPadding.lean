/- What comes behind a message: what padding answers, for every length. -/
import Derived.Test.YtjkcjlhcfkapkaaDoorPad
import Derived.Test.YtjkcjlhcfkapkaaDoorInv
namespace Go.Proofs.YtjkcjlhcfkapkaaDoor
open Go.RowKit
def zb (n : Nat) : Array Value := ba (List.replicate n 0)
theorem zb_size (n : Nat) : (zb n).size = n := by simp [zb, ba_size]
theorem zb_made (n : Nat) : madeCells #[.int .u8 0] n = zb n := by
  apply Array.toList_inj.1
  rw [toList_madeCells_one]; simp [zb, ba]; exact Or.inr rfl
theorem own_first (w : World) (z c : Nat) (hc : 1 + z ≤ c) (hm : c ≤ 1000) : (w.alloc (.cells ((zb c).setIfInBounds 0 (.int .u8 128)) 5)).ownsRow w.heap.size 5 1 (.slice (some ⟨w.heap.size, 0, none⟩) (1 + z) c) (1 + z) (((128 : UInt8) :: List.replicate z 0).map bc) := by
  refine ⟨by simp; omega, .inr ⟨w.heap.size, c, _, rfl, Nat.le_refl _, heap_alloc_last _ _, hc, by unfold maxLen; omega, by simp [zb_size], ?_⟩⟩
  obtain ⟨d, rfl⟩ : ∃ d, c = 1 + z + d := ⟨c - (1 + z), by omega⟩
  have e : List.replicate (1 + z + d) (0 : UInt8) = 0 :: (List.replicate z 0 ++ List.replicate d 0) := by
    rw [show 1 + z + d = (z + d) + 1 by omega, List.replicate_succ, ← List.replicate_append_replicate]
  rw [zb, e]
  have e2 : (1 + z) * 1 = z + 1 := by omega
  rw [e2]
  simp [ba, bc]
  rfl
attribute [local go_sem] lb_wrap lb_mod
set_option maxRecDepth 100000 in
set_option maxHeartbeats 1000000 in
theorem padding_any (L : BitVec 64) (w : World) :
    Calls Tryd.prog 18 #[.int .u64 (wn L)] w fun e w' => ∃ v', e = .returned v' ∧ w'.ownsRow w.heap.size 5 1 v' (padB L).length ((padB L).map bc) ∧ Below w.heap.size w w' := by
  have hw0 := wn_nonneg L
  obtain ⟨r, hr, hr2, hrz⟩ : ∃ r : Nat, wn L % 128 = (r : Int) ∧ r < 128 ∧ zeros L.toNat = (239 - r) % 128 := ⟨L.toNat % 128, by unfold wn; omega, by omega, rfl⟩
  obtain ⟨z, hz, hz2, hzz⟩ : ∃ z : Nat, ((239 : Int) - r) % 128 = (z : Int) ∧ z < 128 ∧ zeros L.toNat = z := ⟨zeros L.toNat, by rw [hrz]; omega, by rw [hrz]; omega, rfl⟩
  obtain ⟨i0, hi, hz0, hz1, hz5⟩ := info_parts info5
  have hmk : ∀ w, (Instr.makeSlice 22 (.int .i64 (1 + (z : Int))) (.int .i64 (1 + (z : Int) + 16))).run Tryd.prog w = .ok (.slice (some ⟨w.heap.size, 0, none⟩) (1 + z) (1 + z + 16)) (w.alloc (.cells (zb (1 + z + 16)) 5)) := by
    intro w
    have h := run_make (P := Tryd.prog) w 22 5 i0 (.int .u8 0) und22 hi hz0 .i64 .i64 (1 + (z : Int)) (1 + (z : Int) + 16) (by omega) (by omega) (by rw [hz5]; omega) (by omega)
    rw [h, hz1, show (1 + (z : Int)).toNat = 1 + z by omega, show (1 + (z : Int) + 16).toNat = 1 + z + 16 by omega, Nat.mul_one]
    show Result.ok _ (w.alloc (.cells (madeCells #[.int .u8 0] (1 + z + 16)) 5)) = _
    rw [zb_made]
  have hs0 : 0 < (zb (1 + z + 16)).size := by rw [zb_size]; omega
  have hg0 : (zb (1 + z + 16))[0]? = some (.int .u8 0) := by
    rw [zb, ba_get _ _ (by simp), List.getD_eq_getElem?_getD, List.getElem?_replicate]; simp; rfl
  have h61 : wn L / (2305843009213693952 : Int) = wn (L >>> 61) := w_shr L 61
  have h3 : IntKind.u64.wrap (wn L * (8 : Int)) = wn (L <<< 3) := w_shl L 3
  have HZ := hide hzz
  clear hrz hi hz0 hz1 hz5 hzz
  go_enter Tryd.func18, Tryd.ntmps18
  go_wp2_with fail
  have hb0 : Below w.heap.size w (w.alloc (.cells ((zb (1 + z + 16)).setIfInBounds 0 (.int .u8 128)) 5)) := (Below.refl _ _).alloc (Nat.le_refl _) _
  refine (appendWord_any (L >>> 61) _ (1 + z) w.heap.size _ _ (by omega) (by simp) (own_first w z (1 + z + 16) (by omega) (by omega))).mono ?_
  rintro e w1 ⟨v1, rfl, hown1, hb1⟩
  go_wp2_with fail
  refine (appendWord_any (L <<< 3) _ (1 + z + 8) w.heap.size _ _ (by omega) (by have := hb1.size; simp at this; omega) hown1).mono ?_
  rintro e w2 ⟨v2, rfl, hown2, hb2⟩
  go_wp2
  go_ret
  refine ⟨_, rfl, ?_, (hb0.trans hb1).trans hb2⟩
  rw [padB_len, HZ.out, padB, HZ.out]
  exact hown2
end Go.Proofs.YtjkcjlhcfkapkaaDoor
