/- A byte of the pattern: which is next, whether it is that one. -/
import Derived.Test.YtmjnedafcfolgaaRx0
namespace Go.Proofs.Ytmjnedafcfolgaa
open Go.RowKit
set_option maxRecDepth 100000 in
theorem next_nil {w : World} {g : Nat} {s : ByteArray} {d : Nat} (h : PAt w g s [] d) : Calls Try.prog 28 #[.pointer (some ⟨g, 0, none⟩)] w fun e w' => e = .returned (.tuple #[.int .u8 0, .bool false]) ∧ PAt w' g s [] d ∧ w.grownBy w' (some g) := by
  have H0 := hide h
  obtain ⟨i, hi, _, hr⟩ := h
  obtain ⟨x0, _⟩ := row_reads hr
  have c0 := x0 0
  have c1 := x0 1
  simp only [List.getElem?_toArray, List.getElem?_cons_zero, List.getElem?_cons_succ] at c0 c1
  have hd : ((i : Int) == (s.size : Int)) = true := beq_iff_eq.2 (by have := hi.1; simp at this; omega)
  clear x0 hr hi
  go_enter Try.func28, Try.ntmps28
  go_wp2_with fail
  go_quiet (fail)
  have HA := hide (And.intro (H0.out.ext (drewN_below w nq)) (Ext.gr (drewN_below w nq) (some g)))
  generalize w.drewN nq = w2 at HA ⊢
  go_wp2
  go_ret2
  exact ⟨rfl, HA.out.1, HA.out.2⟩
set_option maxRecDepth 100000 in
theorem next_cons {w : World} {g : Nat} {s : ByteArray} {c : Nat} {t : List Nat} {d : Nat} (h : PAt w g s (c :: t) d) : Calls Try.prog 28 #[.pointer (some ⟨g, 0, none⟩)] w fun e w' => e = .returned (.tuple #[.int .u8 (c : Int), .bool true]) ∧ PAt w' g s (c :: t) d ∧ w.grownBy w' (some g) := by
  have H0 := hide h
  obtain ⟨i, hi, hb, hr⟩ := h
  obtain ⟨b1, b2, _⟩ := bt_of hb
  obtain ⟨x0, _⟩ := row_reads hr
  have c0 := x0 0
  have c1 := x0 1
  simp only [List.getElem?_toArray, List.getElem?_cons_zero, List.getElem?_cons_succ] at c0 c1
  have hd : ((i : Int) == (s.size : Int)) = false := beq_eq_false_iff_ne.2 (by omega)
  have hix := str_ix s i b2
  rw [b1] at hix
  clear x0 hi hb b1 b2
  have HR := hide hr
  clear hr
  go_enter Try.func28, Try.ntmps28
  go_wp2_with fail
  go_quiet (fail)
  have HA := hide (And.intro (H0.out.ext (drewN_below w nq)) (Ext.gr (drewN_below w nq) (some g)))
  have HR2 := hide (Below.heap (drewN_below w nq) H0.out.lt HR.out)
  clear c0 c1
  generalize w.drewN nq = w2 at HA HR2 ⊢
  obtain ⟨x0, _⟩ := row_reads HR2.out
  have c0 := x0 0
  have c1 := x0 1
  simp only [List.getElem?_toArray, List.getElem?_cons_zero, List.getElem?_cons_succ] at c0 c1
  clear x0
  go_wp2_with fail
  go_quiet (fail)
  have HB := hide (And.intro (HA.out.1.ext (drewN_below w2 nq)) (grown_trans HA.out.2 (Ext.gr (drewN_below w2 nq) (some g))))
  generalize w2.drewN nq = w3 at HB ⊢
  go_wp2
  go_ret2
  exact ⟨rfl, HB.out.1, HB.out.2⟩
end Go.Proofs.Ytmjnedafcfolgaa
