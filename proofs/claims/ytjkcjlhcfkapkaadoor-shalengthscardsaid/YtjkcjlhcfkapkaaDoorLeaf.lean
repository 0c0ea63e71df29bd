/- The leaves of SHA-512: what each small function on words answers, in any world, for all words. -/
import Derived.Test.YtjkcjlhcfkapkaaDoorRows
import Derived.Test.YtjkcjlhcfkapkaaDoorWords
import Derived.WalkKit
import Derived.WalkSpells
import Derived.WalkLawsBesides
namespace Go.Proofs.YtjkcjlhcfkapkaaDoor
open Go.RowKit

attribute [local go_sem] w_and w_or w_xor w_not w_add
set_option maxHeartbeats 400000 in
theorem choose_any (x y z : BitVec 64) (w : World) :
    Calls Tryd.prog 24 #[.int .u64 (wn x), .int .u64 (wn y), .int .u64 (wn z)] w fun e w' => e = .returned (.int .u64 (wn (chw x y z))) ∧ w' = w := by
  go_enter Tryd.func24, Tryd.ntmps24
  go_wp2
  go_ret
  refine ⟨?_, rfl⟩
  rw [← ch_or]; rfl
set_option maxHeartbeats 400000 in
theorem maj_any (x y z : BitVec 64) (w : World) :
    Calls Tryd.prog 26 #[.int .u64 (wn x), .int .u64 (wn y), .int .u64 (wn z)] w fun e w' => e = .returned (.int .u64 (wn (majw x y z))) ∧ w' = w := by
  go_enter Tryd.func26, Tryd.ntmps26
  go_wp2
  go_ret
  refine ⟨?_, rfl⟩
  rw [← maj_or]; rfl
set_option maxHeartbeats 400000 in
theorem rotl_any (x : BitVec 64) (k : Int) (j n : Nat) (hn : j + n = 64) (hk : bits BinOp.and IntKind.u64 (IntKind.u64.wrap k) 63 = (j : Int)) (w : World) :
    Calls Tryd.prog 30 #[.int .u64 (wn x), .int .i64 k] w fun e w' => e = .returned (.int .u64 (wn (rotr x n))) ∧ w' = w := by
  have h1 : IntKind.u64.wrap (wn x * 2 ^ min j 64) = wn (x <<< j) := by rw [show min j 64 = j by omega, w_shl]
  have h2 : wn x / 2 ^ min n 64 = wn (x >>> n) := by rw [show min n 64 = n by omega, w_shr]
  have h3 : IntKind.u64.wrap (64 - (j : Int)) = (n : Int) := by rw [IntKind.wrap_u64]; omega
  have hn' : Hid (j + n = 64) := hn
  clear hn
  go_enter Tryd.func30, Tryd.ntmps30
  go_wp2
  go_ret
  refine ⟨?_, rfl⟩
  have := hn'.out
  rw [← rotr_or, show 64 - n = j by omega]; rfl
theorem neg_mask (n : Nat) (h1 : 1 ≤ n) (h2 : n ≤ 63) : bits BinOp.and IntKind.u64 (IntKind.u64.wrap (-(n : Int))) 63 = ((64 - n : Nat) : Int) := by
  have h : ∀ m : Fin 64, 1 ≤ m.val → bits BinOp.and IntKind.u64 (IntKind.u64.wrap (-(m.val : Int))) 63 = ((64 - m.val : Nat) : Int) := by decide +kernel
  exact h ⟨n, by omega⟩ h1
set_option maxHeartbeats 400000 in
theorem rotate_any (x : BitVec 64) (n : Nat) (h1 : 1 ≤ n) (h2 : n ≤ 63) (w : World) :
    Calls Tryd.prog 29 #[.int .u64 (wn x), .int .i64 (n : Int)] w fun e w' => e = .returned (.int .u64 (wn (rotr x n))) ∧ w' = w := by
  have hk : bits BinOp.and IntKind.u64 (IntKind.u64.wrap (-(n : Int))) 63 = ((64 - n : Nat) : Int) := neg_mask n h1 h2
  go_enter Tryd.func29, Tryd.ntmps29
  go_wp2_with fail
  refine (rotl_any x _ (64 - n) n (by omega) hk _).mono ?_
  rintro e w' ⟨rfl, rfl⟩
  go_wp2
  go_ret
  exact ⟨rfl, rfl⟩
theorem w_shr7 (x : BitVec 64) : wn x / (128 : Int) = wn (x >>> 7) := w_shr x 7
theorem w_shr6 (x : BitVec 64) : wn x / (64 : Int) = wn (x >>> 6) := w_shr x 6
set_option maxHeartbeats 400000 in
theorem sg0_any (x : BitVec 64) (w : World) :
    Calls Tryd.prog 28 #[.int .u64 (wn x)] w fun e w' => e = .returned (.int .u64 (wn (sg0 x))) ∧ w' = w := by
  go_enter Tryd.func28, Tryd.ntmps28
  go_wp2_with fail
  refine (rotate_any x 1 (by omega) (by omega) _).mono ?_
  rintro e w' ⟨rfl, rfl⟩
  go_wp2_with fail
  refine (rotate_any x 8 (by omega) (by omega) _).mono ?_
  rintro e w' ⟨rfl, rfl⟩
  go_wp2
  go_ret
  refine ⟨?_, rfl⟩
  show Ending.returned (.int .u64 (bits .xor .u64 (wn (rotr x 1 ^^^ rotr x 8)) (wn x / 128))) = _
  rw [w_shr7, w_xor]; rfl
set_option maxHeartbeats 400000 in
theorem sg1_any (x : BitVec 64) (w : World) :
    Calls Tryd.prog 27 #[.int .u64 (wn x)] w fun e w' => e = .returned (.int .u64 (wn (sg1 x))) ∧ w' = w := by
  go_enter Tryd.func27, Tryd.ntmps27
  go_wp2_with fail
  refine (rotate_any x 19 (by omega) (by omega) _).mono ?_
  rintro e w' ⟨rfl, rfl⟩
  go_wp2_with fail
  refine (rotate_any x 61 (by omega) (by omega) _).mono ?_
  rintro e w' ⟨rfl, rfl⟩
  go_wp2
  go_ret
  refine ⟨?_, rfl⟩
  show Ending.returned (.int .u64 (bits .xor .u64 (wn (rotr x 19 ^^^ rotr x 61)) (wn x / 64))) = _
  rw [w_shr6, w_xor]; rfl
set_option maxHeartbeats 400000 in
theorem bg0_any (x : BitVec 64) (w : World) :
    Calls Tryd.prog 25 #[.int .u64 (wn x)] w fun e w' => e = .returned (.int .u64 (wn (bg0 x))) ∧ w' = w := by
  go_enter Tryd.func25, Tryd.ntmps25
  go_wp2_with fail
  refine (rotate_any x 28 (by omega) (by omega) _).mono ?_
  rintro e w' ⟨rfl, rfl⟩
  go_wp2_with fail
  refine (rotate_any x 34 (by omega) (by omega) _).mono ?_
  rintro e w' ⟨rfl, rfl⟩
  go_wp2_with fail
  refine (rotate_any x 39 (by omega) (by omega) _).mono ?_
  rintro e w' ⟨rfl, rfl⟩
  go_wp2
  go_ret
  exact ⟨rfl, rfl⟩
set_option maxHeartbeats 400000 in
theorem bg1_any (x : BitVec 64) (w : World) :
    Calls Tryd.prog 23 #[.int .u64 (wn x)] w fun e w' => e = .returned (.int .u64 (wn (bg1 x))) ∧ w' = w := by
  go_enter Tryd.func23, Tryd.ntmps23
  go_wp2_with fail
  refine (rotate_any x 14 (by omega) (by omega) _).mono ?_
  rintro e w' ⟨rfl, rfl⟩
  go_wp2_with fail
  refine (rotate_any x 18 (by omega) (by omega) _).mono ?_
  rintro e w' ⟨rfl, rfl⟩
  go_wp2_with fail
  refine (rotate_any x 41 (by omega) (by omega) _).mono ?_
  rintro e w' ⟨rfl, rfl⟩
  go_wp2
  go_ret
  exact ⟨rfl, rfl⟩
set_option maxHeartbeats 400000 in
/-- The page's own turning. -/
theorem ref_rotr (x : BitVec 64) (n : Nat) (h1 : 1 ≤ n) (h2 : n ≤ 63) (w : World) :
    Calls Tryd.prog 15 #[.int .u64 (wn x), .int .u64 (n : Int)] w fun e w' => e = .returned (.int .u64 (wn (rotr x n))) ∧ w' = w := by
  have e1 := w_shl x (64 - n)
  have e2 := w_shr x n
  have e3 : IntKind.u64.wrap (64 - (n : Int)) = ((64 - n : Nat) : Int) := by rw [IntKind.wrap_u64]; omega
  go_enter Tryd.func15, Tryd.ntmps15
  go_wp2
  go_ret
  exact ⟨rfl, rfl⟩
end Go.Proofs.YtjkcjlhcfkapkaaDoor
