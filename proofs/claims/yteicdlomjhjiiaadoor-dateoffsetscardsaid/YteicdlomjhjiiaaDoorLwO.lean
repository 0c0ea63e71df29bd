/- DateOffsets: the law's call answers true. -/
import Derived.Test.YteicdlomjhjiiaaDoorLw0
namespace Go.Proofs.YteicdlomjhjiiaaDoor
open Go.RowKit
set_option maxRecDepth 100000 in
set_option maxHeartbeats 4000000 in
theorem offsets_walk {n0 h0 m0 : Int} {w : World} (hT : TabP w) : Calls Tryd.prog 6 #[.int .i64 n0, .int .i64 h0, .int .i64 m0] w (Yes w) := by
  obtain ⟨k, hk, hkl⟩ : ∃ k : Nat, wrap64 ((IntKind.u64.wrap n0).tmod 253402000000) = (k : Int) ∧ k < 253402000000 := mod_at n0 (by decide) (by decide)
  obtain ⟨h, hh, hhl⟩ : ∃ k : Nat, wrap64 ((IntKind.u64.wrap h0).tmod 24) = (k : Int) ∧ k < 24 := mod_at h0 (by decide) (by decide)
  obtain ⟨m, hm, hml⟩ : ∃ k : Nat, wrap64 ((IntKind.u64.wrap m0).tmod 60) = (k : Int) ∧ k < 60 := mod_at m0 (by decide) (by decide)
  obtain ⟨n, hn⟩ : ∃ n : Int, 100000 + (k : Int) = n := ⟨_, rfl⟩
  have wn : wrap64 n = n := by unfold wrap64; omega
  have HC := hide (And.intro hk (And.intro hn wn))
  have HE := hide (And.intro hh hm)
  have n1 : 100000 ≤ n ∧ n < 253402100000 := by omega
  clear hk hh hm hn hkl wn
  have ok : okM n = true := okM_of (by omega) (by omega)
  have oa : okM (n - (3600 * (h : Int) + 60 * m)) = true := okM_of (by omega) (by omega)
  have ob : okM (n + (3600 * (h : Int) + 60 * m)) = true := okM_of (by omega) (by omega)
  have z1 := prt_size ok
  have H1 := hide (Print_any n)
  have H2 := hide (two_any h (by omega))
  have H3 := hide (two_any m (by omega))
  have zp := pd_size h 2
  have zq := pd_size m 2
  have za : ((prt n).extract 0 19 ++ (⟨#[43]⟩ : ByteArray) ++ (pd h 2 ++ (⟨#[58]⟩ : ByteArray) ++ pd m 2)).size ≤ 9223372036854775807 := by
    rw [ByteArray.size_append, ByteArray.size_append, ByteArray.size_append, ByteArray.size_append, ByteArray.size_extract, zp, zq, z1]; decide
  have zb : ((prt n).extract 0 19 ++ (⟨#[45]⟩ : ByteArray) ++ (pd h 2 ++ (⟨#[58]⟩ : ByteArray) ++ pd m 2)).size ≤ 9223372036854775807 := by
    rw [ByteArray.size_append, ByteArray.size_append, ByteArray.size_append, ByteArray.size_append, ByteArray.size_extract, zp, zq, z1]; decide
  have HA := hide (Quiet.says (Parse_any _ za))
  rw [(off_ahead ok hhl hml oa).1, (off_ahead ok hhl hml oa).2] at HA
  have HD := hide (Quiet.says (Parse_any _ zb))
  rw [(off_behind ok hhl hml ob).1, (off_behind ok hhl hml ob).2] at HD
  clear za zb ok oa ob
  generalize prt n = x at *
  generalize pd h 2 = p at *
  generalize pd m 2 = q at *
  have z1i : (x.size : Int) = 20 := by omega
  have ze : (x.extract 0 19).size = 19 := by rw [ByteArray.size_extract]; omega
  have HB := hide (Below.refl w.heap.size w)
  have HT := hide hT
  clear hT
  go_enter Tryd.func6, Tryd.ntmps6
  go_wp2_with fail
  rw [HE.out.1, HE.out.2, HC.out.1, HC.out.2.1, HC.out.2.2]
  with_reducible refine (H1.out _ HT.out).mono ?_
  rintro e_ w1 ⟨rfl, b_⟩
  replace HT := hide (TabP.ext HT.out b_)
  replace HB := hide (Below.chain HB.out b_)
  clear b_
  go_wp2_with fail
  with_reducible refine (H2.out _).mono ?_
  rintro e_ w2 ⟨rfl, b_⟩
  replace HT := hide (TabP.ext HT.out b_)
  replace HB := hide (Below.chain HB.out b_)
  clear b_
  go_wp2_with fail
  with_reducible refine (H3.out _).mono ?_
  rintro e_ w3 ⟨rfl, b_⟩
  replace HT := hide (TabP.ext HT.out b_)
  replace HB := hide (Below.chain HB.out b_)
  clear b_
  go_wp2_with fail
  with_reducible refine (HA.out _).mono ?_
  rintro e_ w4 ⟨rfl, b_⟩
  replace HT := hide (TabP.ext HT.out b_)
  replace HB := hide (Below.chain HB.out b_)
  clear b_
  go_wp2_with fail
  with_reducible refine (HD.out _).mono ?_
  rintro e_ w5 ⟨rfl, b_⟩
  replace HT := hide (TabP.ext HT.out b_)
  replace HB := hide (Below.chain HB.out b_)
  clear b_
  go_wp2_with fail
  with_reducible refine (awake_any _ HT.out).mono ?_
  rintro e_ w6 ⟨rfl, b_⟩
  replace HT := hide (TabP.ext HT.out b_)
  replace HB := hide (Below.chain HB.out b_)
  clear b_
  go_wp2
  go_ret
  exact ⟨by try rfl, HB.out⟩
end Go.Proofs.YteicdlomjhjiiaaDoor
