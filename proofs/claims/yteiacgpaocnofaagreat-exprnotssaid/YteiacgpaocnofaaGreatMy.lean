/- May, of what is no set: the program's call, and the page's. -/
import Derived.Test.YteiacgpaocnofaaGreatSz
import Derived.Test.YteiacgpaocnofaaGreatNm
import Derived.BigQuiet
namespace Go.Proofs.YteiacgpaocnofaaGreat
open Go.RowKit
theorem below_drewN {B : Nat} {a w : World} (h : Below B a w) (n : Nat) : Below B a (w.drewN n) := h.trans ⟨rfl, rfl, rfl, Nat.le_refl _, fun _ _ => rfl⟩
/-- May it be? What is no set. -/
def mayV (k n : Int) (s : ByteArray) (l : Nat) : Bool :=
  if k = 1 then (n == 0) && ((l : Int) == 0) && nameB s
  else if k = 2 then s.toList.isEmpty && ((l : Int) == 0)
  else if k = 3 ∨ k = 5 then (n == 0) && ((l : Int) == 0) && decide (s.size ≤ 256)
  else if k = 4 then s.toList.isEmpty && ((l : Int) == 0) && decide (0 ≤ n) && decide (n ≤ 253402300799)
  else if k = 6 then s.toList.isEmpty && ((l : Int) == 0) && ((n == 0) || (n == 1))
  else false
set_option maxRecDepth 100000 in
set_option maxHeartbeats 8000000 in
theorem May_flat (k n : Int) (s : ByteArray) (ao : Option Addr) (l c : Nat) (hk7 : k ≠ 7) (hs : s.size ≤ 9223372036854775807) (w : World) : Calls Tryz.prog 84 #[.agg #[.int .i64 k, .int .i64 n, .string s, .slice ao l c]] w fun e w' => e = .returned (.bool (mayV k n s l)) ∧ Below w.heap.size w w' := by
  have HB : Hid (∀ j, Below w.heap.size w ((w.alloc (.cells #[.int .i64 k, .int .i64 n, .string s, .slice ao l c] 33)).drewN j)) := fun j => below_drewN (alloc_below w _) j
  by_cases k1 : k = 1
  · subst k1
    cases hn : (n == 0) with
    | false =>
      rw [show mayV 1 n s l = false by simp [mayV, hn]]
      go_enter Tryz.func84, Tryz.ntmps84
      go_wp2_with fail
      go_quiet (fail)
      go_wp2
      go_ret
      exact ⟨rfl, HB.out _⟩
    | true =>
      cases hl : ((l : Int) == 0) with
      | false =>
        rw [show mayV 1 n s l = false by simp [mayV, hn, hl]]
        go_enter Tryz.func84, Tryz.ntmps84
        go_wp2_with fail
        go_quiet (fail)
        go_wp2
        go_ret
        exact ⟨rfl, HB.out _⟩
      | true =>
        rw [show mayV 1 n s l = nameB s by simp [mayV, hn, hl]]
        go_enter Tryz.func84, Tryz.ntmps84
        go_wp2_with fail
        go_quiet (fail)
        go_wp2_with fail
        refine (Name_any s hs _).mono ?_
        rintro e w' ⟨rfl, hw⟩
        have HR := hide (Below.chain (HB.out _) hw)
        clear hw
        go_wp2
        go_ret
        exact ⟨rfl, HR.out⟩
  by_cases k2 : k = 2
  · subst k2
    cases he : s.toList.isEmpty with
    | false =>
      rw [show mayV 2 n s l = false by simp [mayV, he]]
      go_enter Tryz.func84, Tryz.ntmps84
      go_wp2_with fail
      go_quiet (fail)
      go_wp2
      go_ret
      exact ⟨rfl, HB.out _⟩
    | true =>
      cases hl : ((l : Int) == 0) with
      | false =>
        rw [show mayV 2 n s l = false by simp [mayV, he, hl]]
        go_enter Tryz.func84, Tryz.ntmps84
        go_wp2_with fail
        go_quiet (fail)
        go_wp2
        go_ret
        exact ⟨rfl, HB.out _⟩
      | true =>
        rw [show mayV 2 n s l = true by simp [mayV, he, hl]]
        go_enter Tryz.func84, Tryz.ntmps84
        go_wp2_with fail
        go_quiet (fail)
        go_wp2
        go_ret
        exact ⟨rfl, HB.out _⟩
  by_cases k3 : k = 3
  · subst k3
    cases hn : (n == 0) with
    | false =>
      rw [show mayV 3 n s l = false by simp [mayV, hn]]
      go_enter Tryz.func84, Tryz.ntmps84
      go_wp2_with fail
      go_quiet (fail)
      go_wp2
      go_ret
      exact ⟨rfl, HB.out _⟩
    | true =>
      cases hl : ((l : Int) == 0) with
      | false =>
        rw [show mayV 3 n s l = false by simp [mayV, hn, hl]]
        go_enter Tryz.func84, Tryz.ntmps84
        go_wp2_with fail
        go_quiet (fail)
        go_wp2
        go_ret
        exact ⟨rfl, HB.out _⟩
      | true =>
        by_cases hz : s.size ≤ 256
        · have dz : decide ((s.size : Int) ≤ 256) = true := decide_eq_true (by omega)
          rw [show mayV 3 n s l = true by simp [mayV, hn, hl, hz]]
          go_enter Tryz.func84, Tryz.ntmps84
          go_wp2_with fail
          go_quiet (fail)
          go_wp2
          go_ret
          exact ⟨rfl, HB.out _⟩
        · have dz : decide ((s.size : Int) ≤ 256) = false := decide_eq_false (by omega)
          rw [show mayV 3 n s l = false by simp [mayV, hn, hl, hz]]
          go_enter Tryz.func84, Tryz.ntmps84
          go_wp2_with fail
          go_quiet (fail)
          go_wp2
          go_ret
          exact ⟨rfl, HB.out _⟩
  by_cases k4 : k = 4
  · subst k4
    cases he : s.toList.isEmpty with
    | false =>
      rw [show mayV 4 n s l = false by simp [mayV, he]]
      go_enter Tryz.func84, Tryz.ntmps84
      go_wp2_with fail
      go_quiet (fail)
      go_wp2
      go_ret
      exact ⟨rfl, HB.out _⟩
    | true =>
      cases hl : ((l : Int) == 0) with
      | false =>
        rw [show mayV 4 n s l = false by simp [mayV, he, hl]]
        go_enter Tryz.func84, Tryz.ntmps84
        go_wp2_with fail
        go_quiet (fail)
        go_wp2
        go_ret
        exact ⟨rfl, HB.out _⟩
      | true =>
        by_cases h0 : 0 ≤ n
        · have d0 : decide (0 ≤ n) = true := decide_eq_true h0
          by_cases h9 : n ≤ 253402300799
          · have d9 : decide (n ≤ 253402300799) = true := decide_eq_true h9
            rw [show mayV 4 n s l = true by simp [mayV, he, hl, h0, h9]]
            go_enter Tryz.func84, Tryz.ntmps84
            go_wp2_with fail
            go_quiet (fail)
            go_wp2
            go_ret
            exact ⟨rfl, HB.out _⟩
          · have d9 : decide (n ≤ 253402300799) = false := decide_eq_false h9
            rw [show mayV 4 n s l = false by simp [mayV, he, hl, h0, h9]]
            go_enter Tryz.func84, Tryz.ntmps84
            go_wp2_with fail
            go_quiet (fail)
            go_wp2
            go_ret
            exact ⟨rfl, HB.out _⟩
        · have d0 : decide (0 ≤ n) = false := decide_eq_false h0
          rw [show mayV 4 n s l = false by simp [mayV, he, hl, h0]]
          go_enter Tryz.func84, Tryz.ntmps84
          go_wp2_with fail
          go_quiet (fail)
          go_wp2
          go_ret
          exact ⟨rfl, HB.out _⟩
  by_cases k5 : k = 5
  · subst k5
    cases hn : (n == 0) with
    | false =>
      rw [show mayV 5 n s l = false by simp [mayV, hn]]
      go_enter Tryz.func84, Tryz.ntmps84
      go_wp2_with fail
      go_quiet (fail)
      go_wp2
      go_ret
      exact ⟨rfl, HB.out _⟩
    | true =>
      cases hl : ((l : Int) == 0) with
      | false =>
        rw [show mayV 5 n s l = false by simp [mayV, hn, hl]]
        go_enter Tryz.func84, Tryz.ntmps84
        go_wp2_with fail
        go_quiet (fail)
        go_wp2
        go_ret
        exact ⟨rfl, HB.out _⟩
      | true =>
        by_cases hz : s.size ≤ 256
        · have dz : decide ((s.size : Int) ≤ 256) = true := decide_eq_true (by omega)
          rw [show mayV 5 n s l = true by simp [mayV, hn, hl, hz]]
          go_enter Tryz.func84, Tryz.ntmps84
          go_wp2_with fail
          go_quiet (fail)
          go_wp2
          go_ret
          exact ⟨rfl, HB.out _⟩
        · have dz : decide ((s.size : Int) ≤ 256) = false := decide_eq_false (by omega)
          rw [show mayV 5 n s l = false by simp [mayV, hn, hl, hz]]
          go_enter Tryz.func84, Tryz.ntmps84
          go_wp2_with fail
          go_quiet (fail)
          go_wp2
          go_ret
          exact ⟨rfl, HB.out _⟩
  by_cases k6 : k = 6
  · subst k6
    cases he : s.toList.isEmpty with
    | false =>
      rw [show mayV 6 n s l = false by simp [mayV, he]]
      go_enter Tryz.func84, Tryz.ntmps84
      go_wp2_with fail
      go_quiet (fail)
      go_wp2
      go_ret
      exact ⟨rfl, HB.out _⟩
    | true =>
      cases hl : ((l : Int) == 0) with
      | false =>
        rw [show mayV 6 n s l = false by simp [mayV, he, hl]]
        go_enter Tryz.func84, Tryz.ntmps84
        go_wp2_with fail
        go_quiet (fail)
        go_wp2
        go_ret
        exact ⟨rfl, HB.out _⟩
      | true =>
        cases b0 : (n == 0) with
        | true =>
          rw [show mayV 6 n s l = true by simp [mayV, he, hl, b0]]
          go_enter Tryz.func84, Tryz.ntmps84
          go_wp2_with fail
          go_quiet (fail)
          go_wp2
          go_ret
          exact ⟨rfl, HB.out _⟩
        | false =>
          cases b1 : (n == 1) with
          | true =>
            rw [show mayV 6 n s l = true by simp [mayV, he, hl, b0, b1]]
            go_enter Tryz.func84, Tryz.ntmps84
            go_wp2_with fail
            go_quiet (fail)
            go_wp2
            go_ret
            exact ⟨rfl, HB.out _⟩
          | false =>
            rw [show mayV 6 n s l = false by simp [mayV, he, hl, b0, b1]]
            go_enter Tryz.func84, Tryz.ntmps84
            go_wp2_with fail
            go_quiet (fail)
            go_wp2
            go_ret
            exact ⟨rfl, HB.out _⟩
  have q1 : (k == 1) = false := by simpa using k1
  have q2 : (k == 2) = false := by simpa using k2
  have q3 : (k == 3) = false := by simpa using k3
  have q4 : (k == 4) = false := by simpa using k4
  have q5 : (k == 5) = false := by simpa using k5
  have q6 : (k == 6) = false := by simpa using k6
  have q7 : (k == 7) = false := by simpa using hk7
  rw [show mayV k n s l = false by simp [mayV, k1, k2, k3, k4, k5, k6]]
  clear k1 k2 k3 k4 k5 k6 hk7
  go_enter Tryz.func84, Tryz.ntmps84
  go_wp2_with fail
  go_quiet (fail)
  go_wp2
  go_ret
  exact ⟨rfl, HB.out _⟩
set_option maxRecDepth 100000 in
set_option maxHeartbeats 8000000 in
theorem rMay_flat (k n : Int) (s : ByteArray) (ao : Option Addr) (l c : Nat) (hk7 : k ≠ 7) (hs : s.size ≤ 9223372036854775807) (w : World) : Calls Tryz.prog 28 #[.agg #[.int .i64 k, .int .i64 n, .string s, .slice ao l c]] w fun e w' => e = .returned (.bool (mayV k n s l)) ∧ Below w.heap.size w w' := by
  have HB : Hid (Below w.heap.size w (w.alloc (.cells #[.int .i64 k, .int .i64 n, .string s, .slice ao l c] 33))) := alloc_below w _
  by_cases k1 : k = 1
  · subst k1
    cases hN : nameB s with
    | false =>
      rw [show mayV 1 n s l = false by simp [mayV, hN]]
      go_enter Tryz.func28, Tryz.ntmps28
      go_wp2_with fail
      refine (rName_any s hs _).mono ?_
      rintro e w' ⟨rfl, hw⟩
      have HR := hide (Below.chain (HB.out) hw)
      have hr := Below.heap hw (by simp) (heap_alloc_last w (.cells #[.int .i64 1, .int .i64 n, .string s, .slice ao l c] 33))
      have A1 := (row_reads hr).1 1
      have A3 := (row_reads hr).1 3
      simp only [List.getElem?_toArray, List.getElem?_cons_zero, List.getElem?_cons_succ] at A1 A3
      clear hr
      clear hw
      rw [hN]
      go_wp2
      go_ret
      exact ⟨rfl, HR.out⟩
    | true =>
      cases hn : (n == 0) with
      | false =>
        rw [show mayV 1 n s l = false by simp [mayV, hN, hn]]
        go_enter Tryz.func28, Tryz.ntmps28
        go_wp2_with fail
        refine (rName_any s hs _).mono ?_
        rintro e w' ⟨rfl, hw⟩
        have HR := hide (Below.chain (HB.out) hw)
        have hr := Below.heap hw (by simp) (heap_alloc_last w (.cells #[.int .i64 1, .int .i64 n, .string s, .slice ao l c] 33))
        have A1 := (row_reads hr).1 1
        have A3 := (row_reads hr).1 3
        simp only [List.getElem?_toArray, List.getElem?_cons_zero, List.getElem?_cons_succ] at A1 A3
        clear hr
        clear hw
        rw [hN]
        go_wp2
        go_ret
        exact ⟨rfl, HR.out⟩
      | true =>
        cases hl : ((l : Int) == 0) with
        | false =>
          rw [show mayV 1 n s l = false by simp [mayV, hN, hn, hl]]
          go_enter Tryz.func28, Tryz.ntmps28
          go_wp2_with fail
          refine (rName_any s hs _).mono ?_
          rintro e w' ⟨rfl, hw⟩
          have HR := hide (Below.chain (HB.out) hw)
          have hr := Below.heap hw (by simp) (heap_alloc_last w (.cells #[.int .i64 1, .int .i64 n, .string s, .slice ao l c] 33))
          have A1 := (row_reads hr).1 1
          have A3 := (row_reads hr).1 3
          simp only [List.getElem?_toArray, List.getElem?_cons_zero, List.getElem?_cons_succ] at A1 A3
          clear hr
          clear hw
          rw [hN]
          go_wp2
          go_ret
          exact ⟨rfl, HR.out⟩
        | true =>
          rw [show mayV 1 n s l = true by simp [mayV, hN, hn, hl]]
          go_enter Tryz.func28, Tryz.ntmps28
          go_wp2_with fail
          refine (rName_any s hs _).mono ?_
          rintro e w' ⟨rfl, hw⟩
          have HR := hide (Below.chain (HB.out) hw)
          have hr := Below.heap hw (by simp) (heap_alloc_last w (.cells #[.int .i64 1, .int .i64 n, .string s, .slice ao l c] 33))
          have A1 := (row_reads hr).1 1
          have A3 := (row_reads hr).1 3
          simp only [List.getElem?_toArray, List.getElem?_cons_zero, List.getElem?_cons_succ] at A1 A3
          clear hr
          clear hw
          rw [hN]
          go_wp2
          go_ret
          exact ⟨rfl, HR.out⟩
  by_cases k2 : k = 2
  · subst k2
    cases he : s.toList.isEmpty with
    | false =>
      rw [show mayV 2 n s l = false by simp [mayV, he]]
      go_enter Tryz.func28, Tryz.ntmps28
      go_wp2
      go_ret
      exact ⟨rfl, HB.out⟩
    | true =>
      cases hl : ((l : Int) == 0) with
      | false =>
        rw [show mayV 2 n s l = false by simp [mayV, he, hl]]
        go_enter Tryz.func28, Tryz.ntmps28
        go_wp2
        go_ret
        exact ⟨rfl, HB.out⟩
      | true =>
        rw [show mayV 2 n s l = true by simp [mayV, he, hl]]
        go_enter Tryz.func28, Tryz.ntmps28
        go_wp2
        go_ret
        exact ⟨rfl, HB.out⟩
  by_cases k3 : k = 3
  · subst k3
    by_cases hz : s.size ≤ 256
    · have dz : decide ((s.size : Int) ≤ 256) = true := decide_eq_true (by omega)
      cases hn : (n == 0) with
      | false =>
        rw [show mayV 3 n s l = false by simp [mayV, hz, hn]]
        go_enter Tryz.func28, Tryz.ntmps28
        go_wp2
        go_ret
        exact ⟨rfl, HB.out⟩
      | true =>
        cases hl : ((l : Int) == 0) with
        | false =>
          rw [show mayV 3 n s l = false by simp [mayV, hz, hn, hl]]
          go_enter Tryz.func28, Tryz.ntmps28
          go_wp2
          go_ret
          exact ⟨rfl, HB.out⟩
        | true =>
          rw [show mayV 3 n s l = true by simp [mayV, hz, hn, hl]]
          go_enter Tryz.func28, Tryz.ntmps28
          go_wp2
          go_ret
          exact ⟨rfl, HB.out⟩
    · have dz : decide ((s.size : Int) ≤ 256) = false := decide_eq_false (by omega)
      rw [show mayV 3 n s l = false by simp [mayV, hz]]
      go_enter Tryz.func28, Tryz.ntmps28
      go_wp2
      go_ret
      exact ⟨rfl, HB.out⟩
  by_cases k4 : k = 4
  · subst k4
    by_cases h0 : 0 ≤ n
    · have d0 : decide (0 ≤ n) = true := decide_eq_true h0
      by_cases h9 : n ≤ 253402300799
      · have d9 : decide (n ≤ 253402300799) = true := decide_eq_true h9
        cases he : s.toList.isEmpty with
        | false =>
          rw [show mayV 4 n s l = false by simp [mayV, h0, h9, he]]
          go_enter Tryz.func28, Tryz.ntmps28
          go_wp2
          go_ret
          exact ⟨rfl, HB.out⟩
        | true =>
          cases hl : ((l : Int) == 0) with
          | false =>
            rw [show mayV 4 n s l = false by simp [mayV, h0, h9, he, hl]]
            go_enter Tryz.func28, Tryz.ntmps28
            go_wp2
            go_ret
            exact ⟨rfl, HB.out⟩
          | true =>
            rw [show mayV 4 n s l = true by simp [mayV, h0, h9, he, hl]]
            go_enter Tryz.func28, Tryz.ntmps28
            go_wp2
            go_ret
            exact ⟨rfl, HB.out⟩
      · have d9 : decide (n ≤ 253402300799) = false := decide_eq_false h9
        rw [show mayV 4 n s l = false by simp [mayV, h0, h9]]
        go_enter Tryz.func28, Tryz.ntmps28
        go_wp2
        go_ret
        exact ⟨rfl, HB.out⟩
    · have d0 : decide (0 ≤ n) = false := decide_eq_false h0
      rw [show mayV 4 n s l = false by simp [mayV, h0]]
      go_enter Tryz.func28, Tryz.ntmps28
      go_wp2
      go_ret
      exact ⟨rfl, HB.out⟩
  by_cases k5 : k = 5
  · subst k5
    by_cases hz : s.size ≤ 256
    · have dz : decide ((s.size : Int) ≤ 256) = true := decide_eq_true (by omega)
      cases hn : (n == 0) with
      | false =>
        rw [show mayV 5 n s l = false by simp [mayV, hz, hn]]
        go_enter Tryz.func28, Tryz.ntmps28
        go_wp2
        go_ret
        exact ⟨rfl, HB.out⟩
      | true =>
        cases hl : ((l : Int) == 0) with
        | false =>
          rw [show mayV 5 n s l = false by simp [mayV, hz, hn, hl]]
          go_enter Tryz.func28, Tryz.ntmps28
          go_wp2
          go_ret
          exact ⟨rfl, HB.out⟩
        | true =>
          rw [show mayV 5 n s l = true by simp [mayV, hz, hn, hl]]
          go_enter Tryz.func28, Tryz.ntmps28
          go_wp2
          go_ret
          exact ⟨rfl, HB.out⟩
    · have dz : decide ((s.size : Int) ≤ 256) = false := decide_eq_false (by omega)
      rw [show mayV 5 n s l = false by simp [mayV, hz]]
      go_enter Tryz.func28, Tryz.ntmps28
      go_wp2
      go_ret
      exact ⟨rfl, HB.out⟩
  by_cases k6 : k = 6
  · subst k6
    cases b0 : (n == 0) with
    | true =>
      cases he : s.toList.isEmpty with
      | false =>
        rw [show mayV 6 n s l = false by simp [mayV, b0, he]]
        go_enter Tryz.func28, Tryz.ntmps28
        go_wp2
        go_ret
        exact ⟨rfl, HB.out⟩
      | true =>
        cases hl : ((l : Int) == 0) with
        | false =>
          rw [show mayV 6 n s l = false by simp [mayV, b0, he, hl]]
          go_enter Tryz.func28, Tryz.ntmps28
          go_wp2
          go_ret
          exact ⟨rfl, HB.out⟩
        | true =>
          rw [show mayV 6 n s l = true by simp [mayV, b0, he, hl]]
          go_enter Tryz.func28, Tryz.ntmps28
          go_wp2
          go_ret
          exact ⟨rfl, HB.out⟩
    | false =>
      cases b1 : (n == 1) with
      | true =>
        cases he : s.toList.isEmpty with
        | false =>
          rw [show mayV 6 n s l = false by simp [mayV, b0, b1, he]]
          go_enter Tryz.func28, Tryz.ntmps28
          go_wp2
          go_ret
          exact ⟨rfl, HB.out⟩
        | true =>
          cases hl : ((l : Int) == 0) with
          | false =>
            rw [show mayV 6 n s l = false by simp [mayV, b0, b1, he, hl]]
            go_enter Tryz.func28, Tryz.ntmps28
            go_wp2
            go_ret
            exact ⟨rfl, HB.out⟩
          | true =>
            rw [show mayV 6 n s l = true by simp [mayV, b0, b1, he, hl]]
            go_enter Tryz.func28, Tryz.ntmps28
            go_wp2
            go_ret
            exact ⟨rfl, HB.out⟩
      | false =>
        rw [show mayV 6 n s l = false by simp [mayV, b0, b1]]
        go_enter Tryz.func28, Tryz.ntmps28
        go_wp2
        go_ret
        exact ⟨rfl, HB.out⟩
  have q1 : (k == 1) = false := by simpa using k1
  have q2 : (k == 2) = false := by simpa using k2
  have q3 : (k == 3) = false := by simpa using k3
  have q4 : (k == 4) = false := by simpa using k4
  have q5 : (k == 5) = false := by simpa using k5
  have q6 : (k == 6) = false := by simpa using k6
  have q7 : (k == 7) = false := by simpa using hk7
  rw [show mayV k n s l = false by simp [mayV, k1, k2, k3, k4, k5, k6]]
  clear k1 k2 k3 k4 k5 k6 hk7
  go_enter Tryz.func28, Tryz.ntmps28
  go_wp2
  go_ret
  exact ⟨rfl, HB.out⟩
end Go.Proofs.YteiacgpaocnofaaGreat
