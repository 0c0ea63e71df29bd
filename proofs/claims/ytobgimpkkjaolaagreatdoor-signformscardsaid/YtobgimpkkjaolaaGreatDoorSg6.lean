/- The key that every program must know, by the law's own call. -/
import Derived.Test.YtobgimpkkjaolaaGreatDoorSg5
import Derived.Test.YtobgimpkkjaolaaGreatDoorSga
namespace Go.Proofs.YtobgimpkkjaolaaGreatDoor
open Go.RowKit
theorem ba_sd0 : ba sd0 = #[.int .u8 157, .int .u8 97, .int .u8 177, .int .u8 157, .int .u8 239, .int .u8 253, .int .u8 90, .int .u8 96, .int .u8 186, .int .u8 132, .int .u8 74, .int .u8 244, .int .u8 146, .int .u8 236, .int .u8 44, .int .u8 196, .int .u8 68, .int .u8 73, .int .u8 197, .int .u8 105, .int .u8 123, .int .u8 50, .int .u8 105, .int .u8 25, .int .u8 112, .int .u8 59, .int .u8 172, .int .u8 3, .int .u8 28, .int .u8 174, .int .u8 127, .int .u8 96] := rfl
theorem pub_sd0 : pubB sd0 = pubOf (scn sd0) := if_pos sd0_len
set_option maxRecDepth 100000 in
set_option maxHeartbeats 1000000 in
theorem awake_any {w : World} (LDi : LaidW 2 exw w) (ht : Sh.Tabs w) : Calls Tryz.prog 6 #[] w fun e w' => e = .returned (.bool true) ∧ Below w.heap.size w w' := by
  have hcv := fun (W : World) (C : Array Value) => Lib.run_convert_bytes_const (P := Tryz.prog) W 22 5 C 32 32 und22 Tryz.underlying5
  have HP : Hid (∀ (W : World) (v : Value), Below w.heap.size w W → BsAt W v sd0 → Calls Tryz.prog 7 #[v] W fun e w' => ∃ v, e = .returned v ∧ Own w' W.heap.size v (pubOf (scn sd0)) ∧ Below W.heap.size W w') := fun W v hW hv => by
    have h := Public_any hv (LDi.step hW) (ht.below hW ht.2.2)
    rw [pub_sd0] at h
    exact h
  have q0 := pb0
  have q1 := pb1
  have q31 := pb31
  have ql := pubOf_len (scn sd0)
  have HQ := hide (And.intro q0 (And.intro q1 (And.intro q31 ql)))
  have HZ := ba_sd0
  generalize pubOf (scn sd0) = Q at *
  clear LDi ht q0 q1 q31 ql
  go_enter Tryz.func6, Tryz.ntmps6
  go_wp2_with fail
  have M := marked_at (w := w) sd0 sd0_lim (by decide) (32, 33)
  have B0 := (Below.refl w.heap.size w).alloc (Nat.le_refl _) (.cells (ba sd0) 5 (32, 33))
  rw [HZ] at M B0
  have HM := hide (And.intro M B0)
  clear M B0 hcv HZ
  refine (HP.out _ _ HM.out.2 HM.out.1).mono ?_
  rintro e w1 ⟨v, rfl, o1, b1⟩
  obtain ⟨q0, q1, q31, ql⟩ := HQ.out
  obtain ⟨g, cap, rfl, hg1, hg2, hcap, hcm⟩ := o1.form (by omega)
  have c0 : w1.cell? ⟨g, 0, none⟩ = some (.int .u8 215) := by rw [o1.row.cellAt 0 (by omega), nv_get Q 0 (by omega), q0]; rfl
  have c1 : w1.cell? ⟨g, 1, none⟩ = some (.int .u8 90) := by rw [o1.row.cellAt 1 (by omega), nv_get Q 1 (by omega), q1]; rfl
  have c31 : w1.cell? ⟨g, 31, none⟩ = some (.int .u8 26) := by rw [o1.row.cellAt 31 (by omega), nv_get Q 31 (by omega), q31]; rfl
  rw [ql] at hcap ⊢
  have HB := hide (Below.chain HM.out.2 b1)
  clear HM HP HQ o1 b1 q0 q1 q31 ql hg1 hg2
  go_wp2
  go_ret
  exact ⟨rfl, HB.out⟩
theorem awake_hh {w : World} (LDi : LaidW 2 exw w) (ht : Sh.Tabs w) : Hands Tryz.prog 6 #[] w (isv (.bool true)) := (awake_any LDi ht).mono fun _ _ ⟨he, hb⟩ => ⟨_, he, hb, rfl⟩
end Go.Proofs.YtobgimpkkjaolaaGreatDoor
