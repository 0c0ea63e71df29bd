/- A word behind bytes of the call's own: what appendWord leaves, for bytes that are not too many for any machine. -/
import Derived.Test.YtjkcjlhcfkapkaaDoorFold
namespace Go.Proofs.YtjkcjlhcfkapkaaDoor
open Go.RowKit
theorem und22 : Tryd.prog.underlying 22 = some (.slice 5) := by kernel_rfl
theorem info5 : (Tryd.prog.info? 5).map (fun i => (i.zero, i.size, i.bytes)) = some (some (.int .u8 0), 1, 1) := by kernel_rfl
theorem lb_mod (x : BitVec 64) : wn x % (256 : Int) = bn (lb x) := by rw [← lb_wrap, IntKind.wrap_u8']
attribute [local go_sem] lb_wrap lb_mod
set_option maxRecDepth 100000 in
set_option maxHeartbeats 1000000 in
theorem appendWord_any (x : BitVec 64) (v : Value) (n base : Nat) (bs : List UInt8) (w : World) (hn : n ≤ 1000000000000) (hbase : base ≤ w.heap.size) (hown : w.ownsRow base 5 1 v n (bs.map bc)) :
    Calls Tryd.prog 19 #[v, .int .u64 (wn x)] w fun e w' => ∃ v', e = .returned v' ∧ w'.ownsRow base 5 1 v' (n + 8) ((bs ++ be8 x 8).map bc) ∧ Below base w w' := by
  obtain ⟨i0, hi, hz0, hz1, hz2⟩ := info_parts info5
  go_enter Tryd.func19, Tryd.ntmps19
  go_wp2
  go_loopw [0, 5] (fun sv i wr => ∃ k : Nat, k ≤ 8 ∧ i = .int .i64 (56 - 8 * (k : Int)) ∧ wr.ownsRow base 5 1 sv (n + k) ((bs ++ be8 x k).map bc) ∧ base ≤ wr.heap.size ∧ Below base w wr) (fun _ i _ => (intOf i + 8).toNat)
  case atStart => exact ⟨0, by omega, rfl, by simpa [be8] using hown, hbase, Below.refl _ _⟩
  case round =>
    clear hown
    obtain ⟨k, hk, rfl, hown, hbs, hb⟩ := hrel
    by_cases hlt : k < 8
    · obtain ⟨m, hm⟩ : ∃ m : Nat, (56 : Int) - 8 * (k : Int) = (m : Int) := ⟨56 - 8 * k, by omega⟩
      rw [hm]
      have hx : wn x / 2 ^ m = wn (x >>> (56 - 8 * k)) := by rw [show m = 56 - 8 * k by omega, w_shr]
      have hm56 : m ≤ 56 := by omega
      have HM := hide hm
      clear hm
      go_wp2_with (at_builtin; go_must (refine wpList_append_own _ rfl (.tmp 10) (.tmp 15) 22 rfl base 5 i0 (.int .u8 0) 1 1 und22 hi hz0 hz1 hz2 rfl (by decide) u0 (n + k) ((bs ++ be8 x k).map bc) rfl (hown.alloc _) ⟨wr.heap.size, 0, none⟩ 1 1 [.int .u8 (bn (lb (x >>> (56 - 8 * k))))] rfl rfl (cell_one_new _ _ _) ?_ ?_ ?_ ?_ ?_))
      · intro u hu; simp at hu; subst hu; rfl
      · unfold maxLen; omega
      · omega
      · simp; omega
      intro v' w1 hown' hgrow _
      have R1 : w1.ownsRow base 5 1 v' (n + (k + 1)) ((bs ++ be8 x (k + 1)).map bc) := by
        have e : (bs ++ be8 x (k + 1)).map bc = List.map bc bs ++ (List.map bc (be8 x k) ++ [.int .u8 (bn (lb (x >>> (56 - 8 * k))))]) := by simp [be8, bc]
        rw [e]; exact hown'
      have hb1 : Below base w w1 := (hb.alloc hbs _).grown hgrow (by simp; omega) (fun q hq => (hown.lt q hq).1)
      have hs1 : base ≤ w1.heap.size := by have := hgrow.size; simp at this; omega
      clear hown' hgrow hown
      go_wp2
      go_roundw
      case rel => exact ⟨k + 1, by omega, by have := HM.out; go_num, R1, hs1, hb1⟩
      case measure => have := HM.out; simp [intOf]; omega
    · obtain rfl : k = 8 := by omega
      go_wp2
      go_ret
      exact ⟨_, rfl, hown, hb⟩
end Go.Proofs.YtjkcjlhcfkapkaaDoor
