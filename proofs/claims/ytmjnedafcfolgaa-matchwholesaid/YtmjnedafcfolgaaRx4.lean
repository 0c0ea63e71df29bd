/- Steps of what is repeated, of what is one or the other; steps placed: the program's calls. -/
import Derived.Test.YtmjnedafcfolgaaRx3
namespace Go.Proofs.Ytmjnedafcfolgaa
open Go.RowKit
theorem Ex {w w' : World} {v : Value} {l : List In} (B : Hid (Below w.heap.size w w')) (h : Hid (LsAt w v l)) : LsAt w' v l := h.out.ext B.out
theorem En {w w' : World} {ao : Option Addr} {n c : Nat} {l : List In} (B : Hid (Below w.heap.size w w')) (h : Hid (LsAt w (.slice ao l.length c) l)) (e : Hid (l.length = n)) : LsAt w' (.slice ao n c) l := by rw [← e.out]; exact h.out.ext B.out
set_option maxRecDepth 100000 in
set_option maxHeartbeats 1000000 in
theorem star_any {w : World} {va : Value} {a : List In} (ha : LsAt w va a) (hla : a.length ≤ 1000) : Calls Try.prog 41 #[va] w fun e w' => ∃ v, e = .returned v ∧ LsAt w' v (starL a) ∧ Below w.heap.size w w' := by
  obtain ⟨oa, ca, rfl, _, _⟩ := ha.len
  obtain ⟨na, ena⟩ : ∃ n, a.length = n := ⟨_, rfl⟩
  have hna : (na : Int) ≤ 1000 := by omega
  have HLa := hide hla
  have HNa := hide ena
  rw [ena]
  clear ena hla
  have Qa := hide ha
  clear ha
  go_enter Try.func41, Try.ntmps41
  go_wp2_with fail
  refine (split_any 1 ((na : Int) + 2)).mono ?_
  rintro e_ w1 ⟨_, rfl, hx_, b_⟩
  obtain ⟨op, cp, rfl, _, _⟩ := hx_.len
  replace Qa := hide (Qa.out.ext b_)
  have Qp := hide hx_
  have B := hide b_
  clear hx_ b_
  go_wp2_with fail
  refine (jump_any (-(na : Int) - 1)).mono ?_
  rintro e_ w2 ⟨_, rfl, hx_, b_⟩
  obtain ⟨oq, cq, rfl, _, _⟩ := hx_.len
  replace Qa := hide (Qa.out.ext b_)
  replace Qp := hide (Qp.out.ext b_)
  have Qq := hide hx_
  replace B := hide (Below.chain B.out b_)
  clear hx_ b_
  go_wp2_with fail
  have BA := hide (alloc_below w2 (.cells #[.slice op 1 cp, .slice oa na ca, .slice oq 1 cq] 34))
  refine (row_any (ls := [[splitI 1 ((na : Int) + 2)], a, [jumpI (-(na : Int) - 1)]]) (heap_alloc_last w2 (.cells #[.slice op 1 cp, .slice oa na ca, .slice oq 1 cq] 34)) (.cons (Ex BA Qp) (.cons (En BA Qa HNa) (.cons (Ex BA Qq) (.nil)))) (by simp) ?cl).mono ?_
  case cl => simp; have := HLa.out; omega
  rintro e_ wz ⟨_, rfl, hz, bz⟩
  have HZ := hide (And.intro hz.at (Below.chain B.out (Below.chain BA.out bz)))
  clear hz bz
  go_wp2
  go_ret
  refine ⟨_, rfl, ?_, HZ.out.2⟩
  have h9 := HZ.out.1
  rw [show ([[splitI 1 ((na : Int) + 2)], a, [jumpI (-(na : Int) - 1)]] : List (List In)).flatten = starL a by simp [starL, HNa.out]] at h9
  exact h9

set_option maxRecDepth 100000 in
set_option maxHeartbeats 1000000 in
theorem plus_any {w : World} {va : Value} {a : List In} (ha : LsAt w va a) (hla : a.length ≤ 1000) : Calls Try.prog 42 #[va] w fun e w' => ∃ v, e = .returned v ∧ LsAt w' v (plusL a) ∧ Below w.heap.size w w' := by
  obtain ⟨oa, ca, rfl, _, _⟩ := ha.len
  obtain ⟨na, ena⟩ : ∃ n, a.length = n := ⟨_, rfl⟩
  have hna : (na : Int) ≤ 1000 := by omega
  have HLa := hide hla
  have HNa := hide ena
  rw [ena]
  clear ena hla
  have Qa := hide ha
  clear ha
  go_enter Try.func42, Try.ntmps42
  go_wp2_with fail
  refine (split_any (-(na : Int)) 1).mono ?_
  rintro e_ w1 ⟨_, rfl, hx_, b_⟩
  obtain ⟨op, cp, rfl, _, _⟩ := hx_.len
  replace Qa := hide (Qa.out.ext b_)
  have Qp := hide hx_
  have B := hide b_
  clear hx_ b_
  go_wp2_with fail
  have BA := hide (alloc_below w1 (.cells #[.slice oa na ca, .slice op 1 cp] 34))
  refine (row_any (ls := [a, [splitI (-(na : Int)) 1]]) (heap_alloc_last w1 (.cells #[.slice oa na ca, .slice op 1 cp] 34)) (.cons (En BA Qa HNa) (.cons (Ex BA Qp) (.nil))) (by simp) ?cl).mono ?_
  case cl => simp; have := HLa.out; omega
  rintro e_ wz ⟨_, rfl, hz, bz⟩
  have HZ := hide (And.intro hz.at (Below.chain B.out (Below.chain BA.out bz)))
  clear hz bz
  go_wp2
  go_ret
  refine ⟨_, rfl, ?_, HZ.out.2⟩
  have h9 := HZ.out.1
  rw [show ([a, [splitI (-(na : Int)) 1]] : List (List In)).flatten = plusL a by simp [plusL, HNa.out]] at h9
  exact h9

set_option maxRecDepth 100000 in
set_option maxHeartbeats 1000000 in
theorem option_any {w : World} {va : Value} {a : List In} (ha : LsAt w va a) (hla : a.length ≤ 1000) : Calls Try.prog 43 #[va] w fun e w' => ∃ v, e = .returned v ∧ LsAt w' v (optL a) ∧ Below w.heap.size w w' := by
  obtain ⟨oa, ca, rfl, _, _⟩ := ha.len
  obtain ⟨na, ena⟩ : ∃ n, a.length = n := ⟨_, rfl⟩
  have hna : (na : Int) ≤ 1000 := by omega
  have HLa := hide hla
  have HNa := hide ena
  rw [ena]
  clear ena hla
  have Qa := hide ha
  clear ha
  go_enter Try.func43, Try.ntmps43
  go_wp2_with fail
  refine (split_any 1 ((na : Int) + 1)).mono ?_
  rintro e_ w1 ⟨_, rfl, hx_, b_⟩
  obtain ⟨op, cp, rfl, _, _⟩ := hx_.len
  replace Qa := hide (Qa.out.ext b_)
  have Qp := hide hx_
  have B := hide b_
  clear hx_ b_
  go_wp2_with fail
  have BA := hide (alloc_below w1 (.cells #[.slice op 1 cp, .slice oa na ca] 34))
  refine (row_any (ls := [[splitI 1 ((na : Int) + 1)], a]) (heap_alloc_last w1 (.cells #[.slice op 1 cp, .slice oa na ca] 34)) (.cons (Ex BA Qp) (.cons (En BA Qa HNa) (.nil))) (by simp) ?cl).mono ?_
  case cl => simp; have := HLa.out; omega
  rintro e_ wz ⟨_, rfl, hz, bz⟩
  have HZ := hide (And.intro hz.at (Below.chain B.out (Below.chain BA.out bz)))
  clear hz bz
  go_wp2
  go_ret
  refine ⟨_, rfl, ?_, HZ.out.2⟩
  have h9 := HZ.out.1
  rw [show ([[splitI 1 ((na : Int) + 1)], a] : List (List In)).flatten = optL a by simp [optL, HNa.out]] at h9
  exact h9

set_option maxRecDepth 100000 in
set_option maxHeartbeats 1000000 in
theorem either_any {w : World} {va : Value} {a : List In} (ha : LsAt w va a) (hla : a.length ≤ 1000) {vb : Value} {b : List In} (hb : LsAt w vb b) (hlb : b.length ≤ 1000) : Calls Try.prog 27 #[va, vb] w fun e w' => ∃ v, e = .returned v ∧ LsAt w' v (eitherL a b) ∧ Below w.heap.size w w' := by
  obtain ⟨oa, ca, rfl, _, _⟩ := ha.len
  obtain ⟨ob, cb, rfl, _, _⟩ := hb.len
  obtain ⟨na, ena⟩ : ∃ n, a.length = n := ⟨_, rfl⟩
  have hna : (na : Int) ≤ 1000 := by omega
  have HLa := hide hla
  have HNa := hide ena
  rw [ena]
  clear ena hla
  obtain ⟨nb, enb⟩ : ∃ n, b.length = n := ⟨_, rfl⟩
  have hnb : (nb : Int) ≤ 1000 := by omega
  have HLb := hide hlb
  have HNb := hide enb
  rw [enb]
  clear enb hlb
  have Qa := hide ha
  clear ha
  have Qb := hide hb
  clear hb
  go_enter Try.func27, Try.ntmps27
  go_wp2_with fail
  refine (split_any 1 ((na : Int) + 2)).mono ?_
  rintro e_ w1 ⟨_, rfl, hx_, b_⟩
  obtain ⟨op, cp, rfl, _, _⟩ := hx_.len
  replace Qa := hide (Qa.out.ext b_)
  replace Qb := hide (Qb.out.ext b_)
  have Qp := hide hx_
  have B := hide b_
  clear hx_ b_
  go_wp2_with fail
  refine (jump_any ((nb : Int) + 1)).mono ?_
  rintro e_ w2 ⟨_, rfl, hx_, b_⟩
  obtain ⟨oq, cq, rfl, _, _⟩ := hx_.len
  replace Qa := hide (Qa.out.ext b_)
  replace Qb := hide (Qb.out.ext b_)
  replace Qp := hide (Qp.out.ext b_)
  have Qq := hide hx_
  replace B := hide (Below.chain B.out b_)
  clear hx_ b_
  go_wp2_with fail
  have BA := hide (alloc_below w2 (.cells #[.slice op 1 cp, .slice oa na ca, .slice oq 1 cq, .slice ob nb cb] 34))
  refine (row_any (ls := [[splitI 1 ((na : Int) + 2)], a, [jumpI ((nb : Int) + 1)], b]) (heap_alloc_last w2 (.cells #[.slice op 1 cp, .slice oa na ca, .slice oq 1 cq, .slice ob nb cb] 34)) (.cons (Ex BA Qp) (.cons (En BA Qa HNa) (.cons (Ex BA Qq) (.cons (En BA Qb HNb) (.nil))))) (by simp) ?cl).mono ?_
  case cl => simp; have := HLa.out; have := HLb.out; omega
  rintro e_ wz ⟨_, rfl, hz, bz⟩
  have HZ := hide (And.intro hz.at (Below.chain B.out (Below.chain BA.out bz)))
  clear hz bz
  go_wp2
  go_ret
  refine ⟨_, rfl, ?_, HZ.out.2⟩
  have h9 := HZ.out.1
  rw [show ([[splitI 1 ((na : Int) + 2)], a, [jumpI ((nb : Int) + 1)], b] : List (List In)).flatten = eitherL a b by simp [eitherL, HNa.out, HNb.out]] at h9
  exact h9

end Go.Proofs.Ytmjnedafcfolgaa
