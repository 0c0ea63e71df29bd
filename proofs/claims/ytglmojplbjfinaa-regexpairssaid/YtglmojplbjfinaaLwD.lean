/- RegexDeep: the law's call answers true. -/
import Derived.Test.YtglmojplbjfinaaLw0
import Derived.Test.YtglmojplbjfinaaRxDeep
namespace Go.Proofs.Ytglmojplbjfinaa
open Go.RowKit
theorem bl_add (a b : ByteArray) : bl (a ++ b) = bl a ++ bl b := by
  unfold bl
  rw [ByteArray.data_append, Array.toList_append, List.map_append]
set_option maxRecDepth 100000 in
set_option maxHeartbeats 1000000 in
theorem deep_walk (n : Int) (op : Bool) : Says 5 #[.int .i64 n, .bool op] (.bool true) := by
  intro w
  have HB0 := hide (Below.refl w.heap.size w)
  obtain ⟨k, hk, hk30⟩ : ∃ k : Nat, (IntKind.u64.wrap n).tmod 30 = (k : Int) ∧ k < 30 := by
    rw [IntKind.wrap_u64]
    refine ⟨(n % 18446744073709551616 % 30).toNat, ?_, by omega⟩
    rw [Int.tmod_eq_emod_of_nonneg (by omega)]
    omega
  go_enter Try.func5, Try.ntmps5
  go_wp2
  go_loopw [5, 6, 18] (fun s5 s6 s18 wr => ∃ (j : Nat) (S T : ByteArray), j ≤ k ∧ s18 = .int .i64 (j : Int) ∧ s5 = .string S ∧ s6 = .string T ∧ Hid (bl S = List.replicate j 40 ∧ bl T = List.replicate j 41) ∧ wr = w) (fun _ _ i _ => k - (intOf i).toNat)
  case atStart => exact ⟨0, ⟨#[]⟩, ⟨#[]⟩, Nat.zero_le _, rfl, rfl, rfl, ⟨rfl, rfl⟩, rfl⟩
  case round =>
    obtain ⟨j, S, T, hj, rfl, rfl, rfl, HS, hw⟩ := hrel
    replace hw := hw.symm
    subst hw
    have hS : S.size = j := by rw [← bl_len, HS.out.1]; simp
    have hT : T.size = j := by rw [← bl_len, HS.out.2]; simp
    have z1 : ¬ 9223372036854775807 < S.size + 1 := by omega
    have z2 : ¬ 9223372036854775807 < T.size + 1 := by omega
    by_cases hlt : j < k
    · have hd : decide ((j : Int) < (k : Int)) = true := decide_eq_true (by omega)
      clear hS hT
      go_wp2
      go_roundw
      case rel => exact ⟨j + 1, _, _, by omega, by go_num, rfl, rfl, ⟨by rw [bl_add, HS.out.1, List.replicate_succ']; rfl, by rw [bl_add, HS.out.2, List.replicate_succ']; rfl⟩, trivial⟩
      case measure => simp [intOf]; omega
    · obtain rfl : j = k := by omega
      have z3 : ¬ 9223372036854775807 < S.size + 1 + T.size := by omega
      have z4 : ¬ 9223372036854775807 < S.size + 1 + T.size + 1 := by omega
      have q1 : bl (S ++ ⟨#[97]⟩ ++ T) = List.replicate j 40 ++ 97 :: List.replicate j 41 := by rw [bl_add, bl_add, HS.out.1, HS.out.2, show bl ⟨#[97]⟩ = [97] from rfl]; simp
      have q2 : bl (S ++ ⟨#[97]⟩ ++ T ++ ⟨#[41]⟩) = List.replicate j 40 ++ 97 :: (List.replicate j 41 ++ [41]) := by rw [bl_add, q1, show bl ⟨#[41]⟩ = [41] from rfl]; simp
      have q3 : bl (S ++ ⟨#[97]⟩) = List.replicate j 40 ++ [97] := by rw [bl_add, HS.out.1, show bl ⟨#[97]⟩ = [97] from rfl]
      have HQ := hide (And.intro q1 (And.intro q2 q3))
      have HJ := hide hk30
      clear q1 q2 q3 hS hT hlt hj hk30
      have C1 := Compile_any (S ++ ⟨#[97]⟩ ++ T) (w := w)
      rw [HQ.out.1] at C1
      by_cases h20 : 20 < j
      · rw [cd_many j h20 HJ.out] at C1
        replace C1 := hide C1
        have hd : decide ((20 : Int) < (j : Int)) = true := decide_eq_true (by omega)
        go_wp2_with fail
        refine C1.out.mono ?_
        rintro e_ w1 ⟨⟨rfl, _⟩, b1⟩
        replace HB0 := hide (Below.chain HB0.out b1)
        clear b1
        go_wp2_with fail
        refine (awake_any _).mono ?_
        rintro e_ w2 ⟨rfl, b2⟩
        replace HB0 := hide (Below.chain HB0.out b2)
        clear b2
        go_wp2
        go_ret
        exact ⟨rfl, HB0.out⟩
      · rw [cd_ok j (by omega)] at C1
        replace C1 := hide C1
        have hd : decide ((20 : Int) < (j : Int)) = false := decide_eq_false (by omega)
        go_wp2_with fail
        refine C1.out.mono ?_
        rintro e_ w1 ⟨⟨v1, rfl, gv⟩, b1⟩
        obtain ⟨g1, cap1, rfl, _, _⟩ := gv
        rw [show (plF 0 [onlyI 97, stepI 6]).length = 2 from rfl]
        replace HB0 := hide (Below.chain HB0.out b1)
        clear b1
        have C2 := Compile_any (S ++ ⟨#[97]⟩ ++ T ++ ⟨#[41]⟩) (w := w1)
        rw [HQ.out.2.1, cd_more j (by omega)] at C2
        replace C2 := hide C2
        go_wp2_with fail
        refine C2.out.mono ?_
        rintro e_ w2 ⟨⟨rfl, _⟩, b2⟩
        replace HB0 := hide (Below.chain HB0.out b2)
        clear b2
        have C3 := Compile_any (S ++ ⟨#[97]⟩) (w := w2)
        rw [HQ.out.2.2] at C3
        cases j with
        | zero =>
          rw [show List.replicate 0 40 ++ [97] = [97] from rfl, cd_none] at C3
          replace C3 := hide C3
          go_wp2_with fail
          refine C3.out.mono ?_
          rintro e_ w3 ⟨⟨v3, rfl, _⟩, b3⟩
          replace HB0 := hide (Below.chain HB0.out b3)
          clear b3
          go_wp2_with fail
          refine (awake_any _).mono ?_
          rintro e_ w4 ⟨rfl, b4⟩
          replace HB0 := hide (Below.chain HB0.out b4)
          clear b4
          go_wp2
          go_ret
          exact ⟨rfl, HB0.out⟩
        | succ j =>
          rw [cd_open j (by omega)] at C3
          replace C3 := hide C3
          have hz : (((j + 1 : Nat) : Int) == 0) = false := beq_eq_false_iff_ne.2 (by omega)
          obtain ⟨m, hm⟩ : ∃ m : Int, ((j + 1 : Nat) : Int) = m := ⟨_, rfl⟩
          rw [hm] at hz
          rw [hm]
          clear hm
          go_wp2_with fail
          refine C3.out.mono ?_
          rintro e_ w3 ⟨⟨rfl, _⟩, b3⟩
          replace HB0 := hide (Below.chain HB0.out b3)
          clear b3
          go_wp2_with fail
          refine (awake_any _).mono ?_
          rintro e_ w4 ⟨rfl, b4⟩
          replace HB0 := hide (Below.chain HB0.out b4)
          clear b4
          go_wp2
          go_ret
          exact ⟨rfl, HB0.out⟩

end Go.Proofs.Ytglmojplbjfinaa
