/- Numbers that do not go round, and kinds: the program's calls. -/
import Derived.Test.YteiacgpaocnofaaGreatTb
import Derived.BigQuiet
namespace Go.Proofs.YteiacgpaocnofaaGreat
open Go.RowKit
def inB (z : Int) : Prop := -9223372036854775808 ≤ z ∧ z ≤ 9223372036854775807
instance (z : Int) : Decidable (inB z) := by unfold inB; infer_instance
/-- What is told of a number: it, or that it goes round. -/
def numE (z : Int) : Int := if inB z then 0 else 5
def numV (z : Int) : Int := if inB z then z else 0
theorem num_in {z : Int} (h : inB z) : numV z = z ∧ numE z = 0 := ⟨if_pos h, if_pos h⟩
theorem num_out {z : Int} (h : ¬ inB z) : numV z = 0 ∧ numE z = 5 := ⟨if_neg h, if_neg h⟩
/-- A call that answers v; the world is as it was. -/
abbrev Tells (f : FuncId) (args : Array Value) (v : Value) : Prop := ∀ w : World, Calls Tryz.prog f args w fun e w' => e = .returned v ∧ w' = w
abbrev n2 (v E : Int) : Value := .tuple #[.int .i64 v, .int .i64 E]
/-- A call that answers v: what was there stays. -/
abbrev Says (f : FuncId) (args : Array Value) (v : Value) : Prop := ∀ w : World, Calls Tryz.prog f args w fun e w' => e = .returned v ∧ Below w.heap.size w w'
set_option maxRecDepth 100000 in
set_option maxHeartbeats 2000000 in
theorem negative_any (a : Int) (ha : -9223372036854775808 ≤ a ∧ a ≤ 9223372036854775807) : Tells 168 #[.int .i64 a] (n2 (numV (-a)) (numE (-a))) := by
  intro w
  by_cases h : a = -9223372036854775808
  · subst h
    rw [(num_out (z := (- -9223372036854775808)) (by unfold inB; omega)).1, (num_out (z := (- -9223372036854775808)) (by unfold inB; omega)).2]
    go_enter Tryz.func168, Tryz.ntmps168
    go_wp2
    go_ret2
    exact ⟨rfl, rfl⟩
  · rw [(num_in (z := (-a)) (by unfold inB; omega)).1, (num_in (z := (-a)) (by unfold inB; omega)).2]
    have h2 : (a == -9223372036854775808) = false := by simpa using h
    go_enter Tryz.func168, Tryz.ntmps168
    go_wp2
    go_ret2
    exact ⟨rfl, rfl⟩
set_option maxRecDepth 100000 in
set_option maxHeartbeats 2000000 in
theorem sum_any (a b : Int) (ha : -9223372036854775808 ≤ a ∧ a ≤ 9223372036854775807) (hb : -9223372036854775808 ≤ b ∧ b ≤ 9223372036854775807) : Tells 172 #[.int .i64 a, .int .i64 b] (n2 (numV (a + b)) (numE (a + b))) := by
  intro w
  by_cases h1 : 0 < b
  · by_cases h2 : 9223372036854775807 - b < a
    · rw [(num_out (z := (a + b)) (by unfold inB; omega)).1, (num_out (z := (a + b)) (by unfold inB; omega)).2]
      go_enter Tryz.func172, Tryz.ntmps172
      go_wp2
      go_ret2
      exact ⟨rfl, rfl⟩
    · rw [(num_in (z := (a + b)) (by unfold inB; omega)).1, (num_in (z := (a + b)) (by unfold inB; omega)).2]
      go_enter Tryz.func172, Tryz.ntmps172
      go_wp2
      go_ret2
      exact ⟨rfl, rfl⟩
  · by_cases h3 : b < 0
    · by_cases h4 : a < -9223372036854775808 - b
      · rw [(num_out (z := (a + b)) (by unfold inB; omega)).1, (num_out (z := (a + b)) (by unfold inB; omega)).2]
        go_enter Tryz.func172, Tryz.ntmps172
        go_wp2
        go_ret2
        exact ⟨rfl, rfl⟩
      · rw [(num_in (z := (a + b)) (by unfold inB; omega)).1, (num_in (z := (a + b)) (by unfold inB; omega)).2]
        go_enter Tryz.func172, Tryz.ntmps172
        go_wp2
        go_ret2
        exact ⟨rfl, rfl⟩
    · rw [(num_in (z := (a + b)) (by unfold inB; omega)).1, (num_in (z := (a + b)) (by unfold inB; omega)).2]
      go_enter Tryz.func172, Tryz.ntmps172
      go_wp2
      go_ret2
      exact ⟨rfl, rfl⟩
set_option maxRecDepth 100000 in
set_option maxHeartbeats 2000000 in
theorem difference_any (a b : Int) (ha : -9223372036854775808 ≤ a ∧ a ≤ 9223372036854775807) (hb : -9223372036854775808 ≤ b ∧ b ≤ 9223372036854775807) : Tells 173 #[.int .i64 a, .int .i64 b] (n2 (numV (a - b)) (numE (a - b))) := by
  intro w
  by_cases h1 : 0 < b
  · by_cases h2 : a < -9223372036854775808 + b
    · rw [(num_out (z := (a - b)) (by unfold inB; omega)).1, (num_out (z := (a - b)) (by unfold inB; omega)).2]
      go_enter Tryz.func173, Tryz.ntmps173
      go_wp2
      go_ret2
      exact ⟨rfl, rfl⟩
    · rw [(num_in (z := (a - b)) (by unfold inB; omega)).1, (num_in (z := (a - b)) (by unfold inB; omega)).2]
      go_enter Tryz.func173, Tryz.ntmps173
      go_wp2
      go_ret2
      exact ⟨rfl, rfl⟩
  · by_cases h3 : b < 0
    · by_cases h4 : 9223372036854775807 + b < a
      · rw [(num_out (z := (a - b)) (by unfold inB; omega)).1, (num_out (z := (a - b)) (by unfold inB; omega)).2]
        go_enter Tryz.func173, Tryz.ntmps173
        go_wp2
        go_ret2
        exact ⟨rfl, rfl⟩
      · rw [(num_in (z := (a - b)) (by unfold inB; omega)).1, (num_in (z := (a - b)) (by unfold inB; omega)).2]
        go_enter Tryz.func173, Tryz.ntmps173
        go_wp2
        go_ret2
        exact ⟨rfl, rfl⟩
    · rw [(num_in (z := (a - b)) (by unfold inB; omega)).1, (num_in (z := (a - b)) (by unfold inB; omega)).2]
      go_enter Tryz.func173, Tryz.ntmps173
      go_wp2
      go_ret2
      exact ⟨rfl, rfl⟩
abbrev kv (a b : Int) : Value := .agg #[.int .i64 a, .int .i64 b]
def bothB (k a b : Int) : Bool := (a == k) && (b == k)
def fixK (k : Int) : Bool := decide (2 ≤ k ∧ k ≤ 7)
set_option maxRecDepth 100000 in
set_option maxHeartbeats 2000000 in
theorem areBoth_any (k a b : Int) : Says 169 #[kv a b, .int .i64 k] (.bool (bothB k a b)) := by
  intro w
  have HB := hide (alloc_below w (.cells #[.int .i64 a, .int .i64 b] 142))
  unfold bothB
  cases h1 : (a == k) with
  | true =>
    cases h2 : (b == k) with
    | true =>
      go_enter Tryz.func169, Tryz.ntmps169
      go_wp2
      go_ret
      exact ⟨rfl, HB.out⟩
    | false =>
      go_enter Tryz.func169, Tryz.ntmps169
      go_wp2
      go_ret
      exact ⟨rfl, HB.out⟩
  | false =>
    go_enter Tryz.func169, Tryz.ntmps169
    go_wp2
    go_ret
    exact ⟨rfl, HB.out⟩
set_option maxRecDepth 100000 in
set_option maxHeartbeats 2000000 in
theorem isFixed_any (k : Int) : Tells 170 #[.int .i64 k] (.bool (fixK k)) := by
  intro w
  by_cases h2 : k = 2
  · subst h2
    rw [show fixK 2 = true by decide]
    go_enter Tryz.func170, Tryz.ntmps170
    go_wp2
    go_ret
    exact ⟨rfl, rfl⟩
  · have e2 : (k == 2) = false := by simpa using h2
    by_cases h3 : k = 3
    · subst h3
      rw [show fixK 3 = true by decide]
      go_enter Tryz.func170, Tryz.ntmps170
      go_wp2
      go_ret
      exact ⟨rfl, rfl⟩
    · have e3 : (k == 3) = false := by simpa using h3
      by_cases h4 : k = 4
      · subst h4
        rw [show fixK 4 = true by decide]
        go_enter Tryz.func170, Tryz.ntmps170
        go_wp2
        go_ret
        exact ⟨rfl, rfl⟩
      · have e4 : (k == 4) = false := by simpa using h4
        by_cases h5 : k = 5
        · subst h5
          rw [show fixK 5 = true by decide]
          go_enter Tryz.func170, Tryz.ntmps170
          go_wp2
          go_ret
          exact ⟨rfl, rfl⟩
        · have e5 : (k == 5) = false := by simpa using h5
          by_cases h6 : k = 6
          · subst h6
            rw [show fixK 6 = true by decide]
            go_enter Tryz.func170, Tryz.ntmps170
            go_wp2
            go_ret
            exact ⟨rfl, rfl⟩
          · have e6 : (k == 6) = false := by simpa using h6
            by_cases h7 : k = 7
            · subst h7
              rw [show fixK 7 = true by decide]
              go_enter Tryz.func170, Tryz.ntmps170
              go_wp2
              go_ret
              exact ⟨rfl, rfl⟩
            · have e7 : (k == 7) = false := by simpa using h7
              rw [show fixK k = false from decide_eq_false (by omega)]
              clear h2 h3 h4 h5 h6 h7
              go_enter Tryz.func170, Tryz.ntmps170
              go_wp2
              go_ret
              exact ⟨rfl, rfl⟩
set_option maxRecDepth 100000 in
set_option maxHeartbeats 2000000 in
theorem areNumbers_any (a b : Int) : Says 142 #[kv a b] (.bool (bothB 2 a b)) := by
  intro w
  have B0 := hide (alloc_below w (.cells #[.int .i64 a, .int .i64 b] 142))
  go_enter Tryz.func142, Tryz.ntmps142
  go_wp2_with fail
  refine (areBoth_any 2 a b _).mono ?_
  rintro e_ w1 ⟨rfl, b1⟩
  have B1 := hide (Below.chain B0.out b1)
  clear b1
  go_wp2
  go_ret
  exact ⟨rfl, B1.out⟩
set_option maxRecDepth 100000 in
set_option maxHeartbeats 2000000 in
theorem areTexts_any (a b : Int) : Says 151 #[kv a b] (.bool (bothB 3 a b)) := by
  intro w
  have B0 := hide (alloc_below w (.cells #[.int .i64 a, .int .i64 b] 142))
  go_enter Tryz.func151, Tryz.ntmps151
  go_wp2_with fail
  refine (areBoth_any 3 a b _).mono ?_
  rintro e_ w1 ⟨rfl, b1⟩
  have B1 := hide (Below.chain B0.out b1)
  clear b1
  go_wp2
  go_ret
  exact ⟨rfl, B1.out⟩
set_option maxRecDepth 100000 in
set_option maxHeartbeats 2000000 in
theorem areSets_any (a b : Int) : Says 153 #[kv a b] (.bool (bothB 7 a b)) := by
  intro w
  have B0 := hide (alloc_below w (.cells #[.int .i64 a, .int .i64 b] 142))
  go_enter Tryz.func153, Tryz.ntmps153
  go_wp2_with fail
  refine (areBoth_any 7 a b _).mono ?_
  rintro e_ w1 ⟨rfl, b1⟩
  have B1 := hide (Below.chain B0.out b1)
  clear b1
  go_wp2
  go_ret
  exact ⟨rfl, B1.out⟩
set_option maxRecDepth 100000 in
set_option maxHeartbeats 2000000 in
theorem areMeasures_any (a b : Int) : Says 132 #[kv a b] (.bool (bothB 2 a b || bothB 4 a b)) := by
  intro w
  have B0 := hide (alloc_below w (.cells #[.int .i64 a, .int .i64 b] 142))
  have R0 := heap_alloc_last w (.cells #[.int .i64 a, .int .i64 b] 142)
  have H1 := hide (areNumbers_any a b)
  cases h1 : bothB 2 a b with
  | true =>
    rw [h1] at H1
    go_enter Tryz.func132, Tryz.ntmps132
    go_wp2_with fail
    refine (H1.out _).mono ?_
    rintro e_ w1 ⟨rfl, b1⟩
    have B1 := hide (Below.chain B0.out b1)
    clear b1
    go_wp2
    go_ret
    exact ⟨rfl, B1.out⟩
  | false =>
    rw [h1] at H1
    go_enter Tryz.func132, Tryz.ntmps132
    go_wp2_with fail
    refine (H1.out _).mono ?_
    rintro e_ w1 ⟨rfl, b1⟩
    have r1 := Below.heap b1 (Array.getElem?_eq_some_iff.1 R0).1 R0
    obtain ⟨x0, _⟩ := row_reads r1
    have c0 := x0 0
    have c1 := x0 1
    simp only [List.getElem?_toArray, List.getElem?_cons_zero, List.getElem?_cons_succ] at c0 c1
    have B1 := hide (Below.chain B0.out b1)
    clear b1 x0 r1
    go_wp2_with fail
    refine (areBoth_any 4 a b _).mono ?_
    rintro e_ w2 ⟨rfl, b2⟩
    have B2 := hide (Below.chain B1.out b2)
    clear b2
    go_wp2
    go_ret
    exact ⟨rfl, B2.out⟩
set_option maxRecDepth 100000 in
set_option maxHeartbeats 2000000 in
theorem areAddable_any (a b : Int) : Says 140 #[kv a b] (.bool (bothB 2 a b || bothB 3 a b)) := by
  intro w
  have B0 := hide (alloc_below w (.cells #[.int .i64 a, .int .i64 b] 142))
  have R0 := heap_alloc_last w (.cells #[.int .i64 a, .int .i64 b] 142)
  have H1 := hide (areNumbers_any a b)
  cases h1 : bothB 2 a b with
  | true =>
    rw [h1] at H1
    go_enter Tryz.func140, Tryz.ntmps140
    go_wp2_with fail
    refine (H1.out _).mono ?_
    rintro e_ w1 ⟨rfl, b1⟩
    have B1 := hide (Below.chain B0.out b1)
    clear b1
    go_wp2
    go_ret
    exact ⟨rfl, B1.out⟩
  | false =>
    rw [h1] at H1
    go_enter Tryz.func140, Tryz.ntmps140
    go_wp2_with fail
    refine (H1.out _).mono ?_
    rintro e_ w1 ⟨rfl, b1⟩
    have r1 := Below.heap b1 (Array.getElem?_eq_some_iff.1 R0).1 R0
    obtain ⟨x0, _⟩ := row_reads r1
    have c0 := x0 0
    have c1 := x0 1
    simp only [List.getElem?_toArray, List.getElem?_cons_zero, List.getElem?_cons_succ] at c0 c1
    have B1 := hide (Below.chain B0.out b1)
    clear b1 x0 r1
    go_wp2_with fail
    refine (areTexts_any a b _).mono ?_
    rintro e_ w2 ⟨rfl, b2⟩
    have B2 := hide (Below.chain B1.out b2)
    clear b2
    go_wp2
    go_ret
    exact ⟨rfl, B2.out⟩
set_option maxRecDepth 100000 in
set_option maxHeartbeats 2000000 in
theorem areStrings_any (a b : Int) : Says 148 #[kv a b] (.bool (bothB 3 a b || bothB 5 a b)) := by
  intro w
  have B0 := hide (alloc_below w (.cells #[.int .i64 a, .int .i64 b] 142))
  have R0 := heap_alloc_last w (.cells #[.int .i64 a, .int .i64 b] 142)
  have H1 := hide (areTexts_any a b)
  cases h1 : bothB 3 a b with
  | true =>
    rw [h1] at H1
    go_enter Tryz.func148, Tryz.ntmps148
    go_wp2_with fail
    refine (H1.out _).mono ?_
    rintro e_ w1 ⟨rfl, b1⟩
    have B1 := hide (Below.chain B0.out b1)
    clear b1
    go_wp2
    go_ret
    exact ⟨rfl, B1.out⟩
  | false =>
    rw [h1] at H1
    go_enter Tryz.func148, Tryz.ntmps148
    go_wp2_with fail
    refine (H1.out _).mono ?_
    rintro e_ w1 ⟨rfl, b1⟩
    have r1 := Below.heap b1 (Array.getElem?_eq_some_iff.1 R0).1 R0
    obtain ⟨x0, _⟩ := row_reads r1
    have c0 := x0 0
    have c1 := x0 1
    simp only [List.getElem?_toArray, List.getElem?_cons_zero, List.getElem?_cons_succ] at c0 c1
    have B1 := hide (Below.chain B0.out b1)
    clear b1 x0 r1
    go_wp2_with fail
    refine (areBoth_any 5 a b _).mono ?_
    rintro e_ w2 ⟨rfl, b2⟩
    have B2 := hide (Below.chain B1.out b2)
    clear b2
    go_wp2
    go_ret
    exact ⟨rfl, B2.out⟩
set_option maxRecDepth 100000 in
set_option maxHeartbeats 2000000 in
theorem areLike_any (a b : Int) : Says 137 #[kv a b] (.bool ((a == b) && fixK a)) := by
  intro w
  have B0 := hide (alloc_below w (.cells #[.int .i64 a, .int .i64 b] 142))
  cases h1 : (a == b) with
  | false =>
    go_enter Tryz.func137, Tryz.ntmps137
    go_wp2
    go_ret
    exact ⟨rfl, B0.out⟩
  | true =>
    go_enter Tryz.func137, Tryz.ntmps137
    go_wp2_with fail
    refine (isFixed_any a _).mono ?_
    rintro e_ w1 ⟨rfl, hw⟩
    replace hw := hw.symm
    subst hw
    go_wp2
    go_ret
    exact ⟨rfl, B0.out⟩
set_option maxRecDepth 100000 in
set_option maxHeartbeats 2000000 in
theorem areWholeAndPart_any (a b : Int) : Says 146 #[kv a b] (.bool (bothB 3 a b || ((a == 7) && fixK b))) := by
  intro w
  have B0 := hide (alloc_below w (.cells #[.int .i64 a, .int .i64 b] 142))
  have R0 := heap_alloc_last w (.cells #[.int .i64 a, .int .i64 b] 142)
  have H1 := hide (areTexts_any a b)
  cases h1 : bothB 3 a b with
  | true =>
    rw [h1] at H1
    go_enter Tryz.func146, Tryz.ntmps146
    go_wp2_with fail
    refine (H1.out _).mono ?_
    rintro e_ w1 ⟨rfl, b1⟩
    have B1 := hide (Below.chain B0.out b1)
    clear b1
    go_wp2
    go_ret
    exact ⟨rfl, B1.out⟩
  | false =>
    rw [h1] at H1
    cases h7 : (a == 7) with
    | false =>
      go_enter Tryz.func146, Tryz.ntmps146
      go_wp2_with fail
      refine (H1.out _).mono ?_
      rintro e_ w1 ⟨rfl, b1⟩
      have r1 := Below.heap b1 (Array.getElem?_eq_some_iff.1 R0).1 R0
      obtain ⟨x0, _⟩ := row_reads r1
      have c0 := x0 0
      have c1 := x0 1
      simp only [List.getElem?_toArray, List.getElem?_cons_zero, List.getElem?_cons_succ] at c0 c1
      have B1 := hide (Below.chain B0.out b1)
      clear b1 x0 r1
      go_wp2
      go_ret
      exact ⟨rfl, B1.out⟩
    | true =>
      go_enter Tryz.func146, Tryz.ntmps146
      go_wp2_with fail
      refine (H1.out _).mono ?_
      rintro e_ w1 ⟨rfl, b1⟩
      have r1 := Below.heap b1 (Array.getElem?_eq_some_iff.1 R0).1 R0
      obtain ⟨x0, _⟩ := row_reads r1
      have c0 := x0 0
      have c1 := x0 1
      simp only [List.getElem?_toArray, List.getElem?_cons_zero, List.getElem?_cons_succ] at c0 c1
      have B1 := hide (Below.chain B0.out b1)
      clear b1 x0 r1
      go_wp2_with fail
      refine (isFixed_any b _).mono ?_
      rintro e_ w2 ⟨rfl, hw⟩
      replace hw := hw.symm
      subst hw
      go_wp2
      go_ret
      exact ⟨rfl, B1.out⟩
end Go.Proofs.YteiacgpaocnofaaGreat
