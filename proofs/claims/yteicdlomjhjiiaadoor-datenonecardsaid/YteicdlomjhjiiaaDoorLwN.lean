/- DateNone: the law's call answers true. -/
import Derived.Test.YteicdlomjhjiiaaDoorLw0
namespace Go.Proofs.YteicdlomjhjiiaaDoor
open Go.RowKit
theorem sl_upto (x : ByteArray) (j : Nat) (h : j ≤ x.size) (w : World) : (Instr.sliceAt 9 (.string x) none (some (.int .i64 (j : Int))) none).run Tryd.prog w = .ok (.string (x.extract 0 j)) w := by
  have g1 : ¬ ((j : Int) < 0) := by omega
  have g2 : ¬ ((x.size : Int) < (j : Int)) := by omega
  go_simp
theorem sl_from (x : ByteArray) (z : Int) (j : Nat) (hz : z = (j : Int)) (h : j ≤ x.size) (w : World) : (Instr.sliceAt 9 (.string x) (some (.int .i64 z)) none none).run Tryd.prog w = .ok (.string (x.extract j x.size)) w := by
  subst hz
  have g1 : ¬ ((j : Int) < 0) := by omega
  have g2 : ¬ ((x.size : Int) < (j : Int)) := by omega
  have g4 : ¬ ((x.size : Int) < 0) := by omega
  go_simp
theorem prt_none {n : Int} (h : ¬ (0 ≤ n ∧ n ≤ 253402300799)) : prt n = ⟨#[]⟩ := by unfold prt; rw [okM_none h]; rfl
set_option maxRecDepth 100000 in
set_option maxHeartbeats 4000000 in
theorem none_walk {n m : Int} {w : World} (hT : TabP w) : Calls Tryd.prog 8 #[.int .i64 n, .int .i64 m] w (Yes w) := by
  obtain ⟨k, hk, hkl⟩ : ∃ k : Nat, wrap64 ((IntKind.u64.wrap n).tmod 253402300800) = (k : Int) ∧ k < 253402300800 := mod_at n (by decide) (by decide)
  obtain ⟨j, hj, hjl⟩ : ∃ k : Nat, wrap64 ((IntKind.u64.wrap m).tmod 20) = (k : Int) ∧ k < 20 := mod_at m (by decide) (by decide)
  have HK := hide hk
  have HJ := hide hj
  clear hk hj
  have ok : okM (k : Int) = true := okM_of (by omega) (by omega)
  have z1 := prt_size ok
  have H1 := hide (Print_any (k : Int))
  have H5 := hide (Print_any (-1 - (k : Int)))
  rw [prt_none (by omega)] at H5
  have H6 := hide (Print_any (253402300800 + (k : Int)))
  rw [prt_none (by omega)] at H6
  generalize prt (k : Int) = x at *
  have z2 : (x.extract 0 j ++ x.extract (j + 1) 20).size = 19 := by rw [ByteArray.size_append, ByteArray.size_extract, ByteArray.size_extract]; omega
  have z3 : (x ++ (⟨#[48]⟩ : ByteArray)).size = 21 := by rw [ByteArray.size_append, z1]; rfl
  have z4 : (x.extract 0 j).size = j := by rw [ByteArray.size_extract]; omega
  have z5 : (x.extract (j + 1) 20).size = 19 - j := by rw [ByteArray.size_extract]; omega
  have n2 := pr_other (s := x.extract 0 j ++ x.extract (j + 1) 20) (by omega)
  have n3 := pr_other (s := x ++ (⟨#[48]⟩ : ByteArray)) (by omega)
  have n4 := pr_other (s := x.extract 0 j) (by omega)
  have H2 := hide (Parse_any (x.extract 0 j ++ x.extract (j + 1) 20) (by omega))
  rw [n2, pr_nil n2] at H2
  have H3 := hide (Quiet.says (Parse_any (x ++ (⟨#[48]⟩ : ByteArray)) (by omega)))
  rw [n3, pr_nil n3] at H3
  have H4 := hide (Quiet.says (Parse_any (x.extract 0 j) (by omega)))
  rw [n4, pr_nil n4] at H4
  clear n2 n3 n4 ok z3
  have z1i : (x.size : Int) = 20 := by omega
  have j1 : (j : Int) < 20 := by omega
  have jb0 : (0 : Int) ≤ (j : Int) := by omega
  have jb1 : (j : Int) ≤ (x.size : Int) := by omega
  have jb2 : (j : Int) + 1 ≤ (x.size : Int) := by omega
  have jb3 : ¬ ((x.size : Int) < (j : Int)) := by omega
  have jb4 : ¬ ((x.size : Int) < (j : Int) + 1) := by omega
  have jb5 : ¬ ((j : Int) < 0) := by omega
  have jb6 : ¬ ((j : Int) + 1 < 0) := by omega
  have jb9 : IntKind.i64.wrap ((j : Int) + 1) = (j : Int) + 1 := by rw [IntKind.wrap_i64]; omega
  have jb7 := sl_upto x j (by omega)
  have jb8 := sl_from x ((j : Int) + 1) (j + 1) (by omega) (by omega)
  rw [z1] at jb8
  have jb10 : ¬ (9223372036854775807 < (((x.extract 0 j).size + (x.extract (j + 1) 20).size : Nat) : Int)) := by omega
  have jb11 : ¬ (IntKind.i64.max < (((x.extract 0 j).size + (x.extract (j + 1) 20).size : Nat) : Int)) := by simp only [IntKind.max, IntKind.signed, IntKind.bits]; omega
  have HB := hide (Below.refl w.heap.size w)
  have HT := hide hT
  clear hT
  go_enter Tryd.func8, Tryd.ntmps8
  go_wp2_with fail
  rw [HK.out]
  with_reducible refine (H1.out _ HT.out).mono ?_
  rintro e_ w1 ⟨rfl, b_⟩
  replace HT := hide (TabP.ext HT.out b_)
  replace HB := hide (Below.chain HB.out b_)
  clear b_
  go_wp2_with fail
  rw [HJ.out]
  go_quiet ((go_at_call 10; with_reducible exact Calls.quiet_of (H2.out _)))
  replace HT := hide (TabP.ext HT.out (drew_below w1 nq))
  replace HB := hide (Below.chain HB.out (drew_below w1 nq))
  generalize w1.drewN nq = w2 at HT HB ⊢
  go_wp2_with fail
  with_reducible refine (H3.out _).mono ?_
  rintro e_ w3 ⟨rfl, b_⟩
  replace HT := hide (TabP.ext HT.out b_)
  replace HB := hide (Below.chain HB.out b_)
  clear b_
  go_wp2_with fail
  with_reducible refine (H4.out _).mono ?_
  rintro e_ w4 ⟨rfl, b_⟩
  replace HT := hide (TabP.ext HT.out b_)
  replace HB := hide (Below.chain HB.out b_)
  clear b_
  go_wp2_with fail
  with_reducible refine (H5.out _ HT.out).mono ?_
  rintro e_ w5 ⟨rfl, b_⟩
  replace HT := hide (TabP.ext HT.out b_)
  replace HB := hide (Below.chain HB.out b_)
  clear b_
  go_wp2_with fail
  with_reducible refine (H6.out _ HT.out).mono ?_
  rintro e_ w6 ⟨rfl, b_⟩
  replace HT := hide (TabP.ext HT.out b_)
  replace HB := hide (Below.chain HB.out b_)
  clear b_
  go_wp2_with fail
  with_reducible refine (awake_any _ HT.out).mono ?_
  rintro e_ w7 ⟨rfl, b_⟩
  replace HT := hide (TabP.ext HT.out b_)
  replace HB := hide (Below.chain HB.out b_)
  clear b_
  go_wp2
  go_ret
  exact ⟨by try rfl, HB.out⟩
end Go.Proofs.YteicdlomjhjiiaaDoor
