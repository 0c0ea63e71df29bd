/- OpOrders: the walk. -/
import Derived.Test.YtlfhppicglfinaaGreatLo0
import Derived.Deep.Heap
namespace Go.Proofs.YtlfhppicglfinaaGreat
open Go.RowKit
theorem KR.set {w0 W : World} {rows : List (Nat × Array Value)} (h : KR w0 rows W) {P i : Nat} (v : Value) (hP : ∀ p ∈ rows, p.1 ≠ P) (hB : w0.heap.size ≤ P) : KR w0 rows (W.setCell ⟨P, i, none⟩ v) :=
  ⟨h.bel.setCell hB v, fun p hp => (Go.Deep.blk_setCell_other W ⟨P, i, none⟩ v p.1 (hP p hp)).trans (h.row p hp)⟩
/-- How far the truths are told. -/
structure OrK (w : World) (xs ys : Array Value) (P : Nat) (V : Nat → Bool) (k : Nat) (wr : World) : Prop where
  kr : KR w [(w.heap.size + 1, ys), (w.heap.size, xs)] wr
  arr : wr.heap[P]? = some (.cells (arrV V k) 38 (0, 0))
theorem OrK.ext {w W W' : World} {xs ys : Array Value} {P k : Nat} {V : Nat → Bool} (h : OrK w xs ys P V k W) (he : Below W.heap.size W W') : OrK w xs ys P V k W' :=
  ⟨h.kr.ext he, Below.heap he (Array.getElem?_eq_some_iff.1 h.arr).1 h.arr⟩
theorem OrK.next {w W : World} {xs ys : Array Value} {P k : Nat} {V : Nat → Bool} (h : OrK w xs ys P V k W) (hP : w.heap.size + 2 ≤ P) (h1 : 1 ≤ k) (h6 : k ≤ 6) : OrK w xs ys P V (k + 1) (W.setCell ⟨P, k, none⟩ (.bool (V k))) :=
  ⟨h.kr.set _ (fun p hp => by
    simp only [List.mem_cons, List.not_mem_nil, or_false] at hp
    rcases hp with rfl | rfl
    · show w.heap.size + 1 ≠ P; omega
    · show w.heap.size ≠ P; omega) (by omega), by rw [← arr_next V h1 h6]; exact setCell_row h.arr _⟩
/-- Which of less, more, same is so; how many of the first ones. -/
def triV (V : Nat → Bool) : Nat → Bool
  | 0 => V 1
  | 1 => V 2
  | _ => V 5
def cntV (V : Nat → Bool) : Nat → Nat
  | 0 => 0
  | j + 1 => cntV V j + (if triV V j = true then 1 else 0)
theorem cnt_next (V : Nat → Bool) {j : Nat} (_ : j < 3) : cntV V (j + 1) = cntV V j + (if triV V j = true then 1 else 0) := rfl
theorem cnt_le (V : Nat → Bool) : ∀ j, cntV V j ≤ j
  | 0 => Nat.le_refl _
  | j + 1 => by
    have := cnt_le V j
    show cntV V j + (if triV V j = true then 1 else 0) ≤ j + 1
    split <;> omega
theorem ix3_0 (V : Nat → Bool) (w_ : World) : (Instr.index 39 (.agg #[.bool (V 1), .bool (V 2), .bool (V 5)]) (.int .i64 ((0 : Nat) : Int))).run Tryz.prog w_ = .ok (.bool (triV V 0)) w_ := by kernel_rfl
theorem ix3_1 (V : Nat → Bool) (w_ : World) : (Instr.index 39 (.agg #[.bool (V 1), .bool (V 2), .bool (V 5)]) (.int .i64 ((1 : Nat) : Int))).run Tryz.prog w_ = .ok (.bool (triV V 1)) w_ := by kernel_rfl
theorem ix3_2 (V : Nat → Bool) (w_ : World) : (Instr.index 39 (.agg #[.bool (V 1), .bool (V 2), .bool (V 5)]) (.int .i64 ((2 : Nat) : Int))).run Tryz.prog w_ = .ok (.bool (triV V 2)) w_ := by kernel_rfl
theorem ix3 (V : Nat → Bool) {j : Nat} (h : j < 3) (w_ : World) : (Instr.index 39 (.agg #[.bool (V 1), .bool (V 2), .bool (V 5)]) (.int .i64 (j : Int))).run Tryz.prog w_ = .ok (.bool (triV V j)) w_ := by
  have hj : j = 0 ∨ j = 1 ∨ j = 2 := by omega
  rcases hj with rfl | rfl | rfl
  · exact ix3_0 V w_
  · exact ix3_1 V w_
  · exact ix3_2 V w_
theorem tri_V (x y : Int) (V : Nat → Bool) (h : ordV x y = V) : cntV V 3 = 1 ∧ (V 3 == !V 2) = true ∧ (V 4 == !V 1) = true ∧ (V 6 == !V 5) = true := by
  subst h
  have e1 : ordV x y 1 = decide (x < y) := rfl
  have e2 : ordV x y 2 = decide (y < x) := rfl
  have e3 : ordV x y 3 = decide (x ≤ y) := rfl
  have e4 : ordV x y 4 = decide (y ≤ x) := rfl
  have e5 : ordV x y 5 = decide (x = y) := rfl
  have e6 : ordV x y 6 = !decide (x = y) := rfl
  have hc : cntV (ordV x y) 3 = 0 + (if ordV x y 1 = true then 1 else 0) + (if ordV x y 2 = true then 1 else 0) + (if ordV x y 5 = true then 1 else 0) := rfl
  rw [hc, e1, e2, e3, e4, e5, e6]
  rcases Int.lt_trichotomy x y with h | h | h
  · rw [decide_eq_true h, decide_eq_false (p := y < x) (by omega), decide_eq_true (p := x ≤ y) (by omega), decide_eq_false (p := y ≤ x) (by omega), decide_eq_false (p := x = y) (by omega)]; decide
  · rw [decide_eq_false (p := x < y) (by omega), decide_eq_false (p := y < x) (by omega), decide_eq_true (p := x ≤ y) (by omega), decide_eq_true (p := y ≤ x) (by omega), decide_eq_true h]; decide
  · rw [decide_eq_false (p := x < y) (by omega), decide_eq_true (p := y < x) h, decide_eq_false (p := x ≤ y) (by omega), decide_eq_true (p := y ≤ x) (by omega), decide_eq_false (p := x = y) (by omega)]; decide
set_option maxRecDepth 100000 in
set_option maxHeartbeats 8000000 in
theorem OpOrders_any {a b : Tm} {a1 : Option Addr} {c1 : Nat} {a2 : Option Addr} {c2 : Nat} {w : World} (ha : TAt w a a1 c1) (hb : TAt w b a2 c2) : Calls Tryz.prog 6 #[tv a a1 c1, tv b a2 c2] w fun e w' => e = .returned (.bool true) ∧ Below w.heap.size w w' := by
  have HW := hide awake_any
  have HT := hide (And.intro ha hb)
  have K1 := hide (((KR.nil w).add (w.heap.size) (tvC a a1 c1) (by first | rfl | simp)).add (w.heap.size + 1) (tvC b a2 c2) (by first | rfl | simp))
  have HL := light_any (pair_at (HT.out.1.ext K1.out.bel) (HT.out.2.ext K1.out.bel))
  rw [show ((w.alloc (.cells (tvC a a1 c1) 24)).alloc (.cells (tvC b a2 c2) 24)).heap.size = w.heap.size + 2 by simp] at HL
  replace HL := hide HL
  have KB := hide (K1.out.ext (alloc_below _ (.cells (s8 a.k a.n a.s a1 a.l.length c1 b.k b.n b.s a2 b.l.length c2) 24)))
  clear ha hb
  unfold tv
  simp only [List.length_cons, List.length_nil] at HL
  go_enter Tryz.func6, Tryz.ntmps6
  go_wp2_with fail
  refine HL.out.mono ?_
  rintro e_ w1 ⟨v, rfl, b_⟩
  have K1 := hide (KB.out.ext b_)
  clear b_ HL KB
  cases v with
  | false =>
    go_wp2_with fail
    refine (HW.out _).mono ?_
    rintro e_ wz ⟨rfl, b_⟩
    have KZ := hide (K1.out.ext b_)
    clear b_
    go_wp2
    go_ret
    exact ⟨rfl, KZ.out.bel⟩
  | true =>
    have a_0 : w1.cell? ⟨w.heap.size, 0, none⟩ = _ := K1.out.cell (p := w.heap.size) (cs := (tvC a a1 c1)) (i := 0) (.tail _ (.head _)) rfl
    have a_1 : w1.cell? ⟨w.heap.size, 1, none⟩ = _ := K1.out.cell (p := w.heap.size) (cs := (tvC a a1 c1)) (i := 1) (.tail _ (.head _)) rfl
    have a_2 : w1.cell? ⟨w.heap.size, 2, none⟩ = _ := K1.out.cell (p := w.heap.size) (cs := (tvC a a1 c1)) (i := 2) (.tail _ (.head _)) rfl
    have a_3 : w1.cell? ⟨w.heap.size, 3, none⟩ = _ := K1.out.cell (p := w.heap.size) (cs := (tvC a a1 c1)) (i := 3) (.tail _ (.head _)) rfl
    have HA := hide (rFixed_any (HT.out.1.ext K1.out.bel))
    unfold tv at HA
    cases fa : fixT a with
    | false =>
      rw [fa] at HA
      go_wp2_with fail
      refine (HA.out).mono ?_
      rintro e_ w11 ⟨rfl, b_⟩
      have K11 := hide (K1.out.ext b_)
      clear b_ a_0 a_1 a_2 a_3
      go_wp2_with fail
      refine (HW.out _).mono ?_
      rintro e_ wz ⟨rfl, b_⟩
      have KZ := hide (K11.out.ext b_)
      clear b_
      go_wp2
      go_ret
      exact ⟨rfl, KZ.out.bel⟩
    | true =>
      rw [fa] at HA
      go_wp2_with fail
      refine (HA.out).mono ?_
      rintro e_ w11 ⟨rfl, b_⟩
      have K11 := hide (K1.out.ext b_)
      clear b_ a_0 a_1 a_2 a_3
      have b_0 : w11.cell? ⟨w.heap.size + 1, 0, none⟩ = _ := K11.out.cell (p := w.heap.size + 1) (cs := (tvC b a2 c2)) (i := 0) (.head _) rfl
      have b_1 : w11.cell? ⟨w.heap.size + 1, 1, none⟩ = _ := K11.out.cell (p := w.heap.size + 1) (cs := (tvC b a2 c2)) (i := 1) (.head _) rfl
      have b_2 : w11.cell? ⟨w.heap.size + 1, 2, none⟩ = _ := K11.out.cell (p := w.heap.size + 1) (cs := (tvC b a2 c2)) (i := 2) (.head _) rfl
      have b_3 : w11.cell? ⟨w.heap.size + 1, 3, none⟩ = _ := K11.out.cell (p := w.heap.size + 1) (cs := (tvC b a2 c2)) (i := 3) (.head _) rfl
      have HB := hide (rFixed_any (HT.out.2.ext K11.out.bel))
      unfold tv at HB
      cases fb : fixT b with
      | false =>
        rw [fb] at HB
        go_wp2_with fail
        refine (HB.out).mono ?_
        rintro e_ w12 ⟨rfl, b_⟩
        have K12 := hide (K11.out.ext b_)
        clear b_ b_0 b_1 b_2 b_3
        go_wp2_with fail
        refine (HW.out _).mono ?_
        rintro e_ wz ⟨rfl, b_⟩
        have KZ := hide (K12.out.ext b_)
        clear b_
        go_wp2
        go_ret
        exact ⟨rfl, KZ.out.bel⟩
      | true =>
        rw [fb] at HB
        go_wp2_with fail
        refine (HB.out).mono ?_
        rintro e_ w12 ⟨rfl, b_⟩
        have K12 := hide (K11.out.ext b_)
        clear b_ b_0 b_1 b_2 b_3
        have a_0 : w12.cell? ⟨w.heap.size, 0, none⟩ = _ := K12.out.cell (p := w.heap.size) (cs := (tvC a a1 c1)) (i := 0) (.tail _ (.head _)) rfl
        have b_0 : w12.cell? ⟨w.heap.size + 1, 0, none⟩ = _ := K12.out.cell (p := w.heap.size + 1) (cs := (tvC b a2 c2)) (i := 0) (.head _) rfl
        have HK := hide (kinds1 a.k b.k)
        cases hk : (bothB 2 a.k b.k || bothB 4 a.k b.k) with
        | false =>
          rw [hk] at HK
          go_wp2_with fail
          refine (HK.out _).mono ?_
          rintro e_ w13 ⟨rfl, b_⟩
          have K13 := hide (K12.out.ext b_)
          clear b_ a_0 b_0
          go_wp2_with fail
          refine (HW.out _).mono ?_
          rintro e_ wz ⟨rfl, b_⟩
          have KZ := hide (K13.out.ext b_)
          clear b_
          go_wp2
          go_ret
          exact ⟨rfl, KZ.out.bel⟩
        | true =>
          rw [hk] at HK
          go_wp2_with fail
          refine (HK.out _).mono ?_
          rintro e_ w13 ⟨rfl, b_⟩
          have K13 := hide (K12.out.ext b_)
          clear b_ a_0 b_0
          have HC := hide (fun (c : Nat) (h1 : 1 ≤ c) (h6 : c ≤ 6) (W : World) (hA : TAt W a a1 c1) (hB : TAt W b a2 c2) => ord_any fa fb hk h1 h6 hA hB)
          clear hk fa fb
          have HP : Hid (w.heap.size + 2 ≤ w13.heap.size) := hide (by have h := (Array.getElem?_eq_some_iff.1 (K13.out.row _ (.head _))).1; exact h)
          have HO0 : Hid (OrK w (tvC a a1 c1) (tvC b a2 c2) w13.heap.size (ordV a.n b.n) 1 (w13.alloc (.cells #[.bool false, .bool false, .bool false, .bool false, .bool false, .bool false, .bool false] 38))) := hide ⟨K13.out.ext (alloc_below _ _), heap_alloc_last _ _⟩
          obtain ⟨V, hV⟩ : ∃ V, ordV a.n b.n = V := ⟨_, rfl⟩
          rw [hV] at HC HO0
          have HV := hide hV
          clear hV
          go_wp2
          go_loopw [6] (fun c wr => ∃ k : Nat, 1 ≤ k ∧ k ≤ 7 ∧ c = .int .i64 (k : Int) ∧ OrK w (tvC a a1 c1) (tvC b a2 c2) w13.heap.size V k wr) (fun c _ => 7 - (intOf c).toNat)
          case atStart => exact ⟨1, by omega, by omega, rfl, HO0.out⟩
          case round =>
            obtain ⟨k, hk1, hk7, rfl, hO⟩ := hrel
            have HO := hide hO
            clear hO
            by_cases h6 : k ≤ 6
            · have d6 : decide ((k : Int) ≤ 6) = true := decide_eq_true (by omega)
              obtain ⟨N, hN1, hN⟩ : ∃ N : Int, (N == 1) = V k ∧ (if V k = true then (1 : Int) else 0) = N := ⟨_, by cases V k <;> rfl, rfl⟩
              have HC1 : Calls Tryz.prog 12 #[.int .i64 (k : Int), tv a a1 c1, tv b a2 c2] wr fun e w' => e = .returned (.tuple #[.agg #[.int .i64 6, .int .i64 (if V k = true then (1 : Int) else 0), .string ⟨#[]⟩, .slice none 0 0], .int .i64 0]) ∧ Below wr.heap.size wr w' := HC.out k hk1 h6 wr (HT.out.1.ext HO.out.kr.bel) (HT.out.2.ext HO.out.kr.bel)
              rw [hN] at HC1
              unfold tv at HC1
              replace HC1 := hide HC1
              clear hN
              have x0 : wr.cell? ⟨w.heap.size, 0, none⟩ = _ := HO.out.kr.cell (p := w.heap.size) (cs := tvC a a1 c1) (i := 0) (.tail _ (.head _)) rfl
              have x1 : wr.cell? ⟨w.heap.size, 1, none⟩ = _ := HO.out.kr.cell (p := w.heap.size) (cs := tvC a a1 c1) (i := 1) (.tail _ (.head _)) rfl
              have x2 : wr.cell? ⟨w.heap.size, 2, none⟩ = _ := HO.out.kr.cell (p := w.heap.size) (cs := tvC a a1 c1) (i := 2) (.tail _ (.head _)) rfl
              have x3 : wr.cell? ⟨w.heap.size, 3, none⟩ = _ := HO.out.kr.cell (p := w.heap.size) (cs := tvC a a1 c1) (i := 3) (.tail _ (.head _)) rfl
              have y0 : wr.cell? ⟨w.heap.size + 1, 0, none⟩ = _ := HO.out.kr.cell (p := w.heap.size + 1) (cs := tvC b a2 c2) (i := 0) (.head _) rfl
              have y1 : wr.cell? ⟨w.heap.size + 1, 1, none⟩ = _ := HO.out.kr.cell (p := w.heap.size + 1) (cs := tvC b a2 c2) (i := 1) (.head _) rfl
              have y2 : wr.cell? ⟨w.heap.size + 1, 2, none⟩ = _ := HO.out.kr.cell (p := w.heap.size + 1) (cs := tvC b a2 c2) (i := 2) (.head _) rfl
              have y3 : wr.cell? ⟨w.heap.size + 1, 3, none⟩ = _ := HO.out.kr.cell (p := w.heap.size + 1) (cs := tvC b a2 c2) (i := 3) (.head _) rfl
              go_wp2_with fail
              refine HC1.out.mono ?_
              rintro e_ w20 ⟨rfl, b_⟩
              have HO2 := hide ((HO.out.ext b_).ext (alloc_below w20 (.cells #[.int .i64 6, .int .i64 N, .string ⟨#[]⟩, .slice none 0 0] 24)))
              clear b_ HC1 HO x0 x1 x2 x3 y0 y1 y2 y3
              obtain ⟨z0, f0⟩ := row_reads HO2.out.arr
              have q0 := z0 k
              rw [arr_get V hk1 h6] at q0
              have q1 := f0 k
              clear z0 f0
              go_wp2
              go_roundw
              case rel => exact ⟨k + 1, by omega, by omega, by go_num, HO2.out.next HP.out hk1 h6⟩
              case measure => simp [intOf]; omega
            · obtain rfl : k = 7 := by omega
              have z := (row_reads HO.out.arr).1
              have q1 : wr.cell? ⟨w13.heap.size, 1, none⟩ = some (.bool (V 1)) := z 1
              have q2 : wr.cell? ⟨w13.heap.size, 2, none⟩ = some (.bool (V 2)) := z 2
              have q5 : wr.cell? ⟨w13.heap.size, 5, none⟩ = some (.bool (V 5)) := z 5
              clear z h6 hk1 hk7
              go_wp2
              go_loopw [66, 9] (fun i n wq => ∃ j : Nat, j ≤ 3 ∧ i = .int .i64 (j : Int) ∧ n = .int .i64 (cntV V j : Int) ∧ OrK w (tvC a a1 c1) (tvC b a2 c2) w13.heap.size V 7 wq) (fun i _ _ => 3 - (intOf i).toNat)
              case atStart => exact ⟨0, by omega, rfl, rfl, HO.out⟩
              case round =>
                obtain ⟨j, hj, rfl, rfl, hO⟩ := hrel
                have HO2 := hide hO
                clear hO
                by_cases h3 : j < 3
                · have hix := ix3 V h3
                  have hcn := cnt_next V h3
                  have hc3 := cnt_le V j
                  cases hU : triV V j with
                  | true =>
                    rw [hU] at hix hcn
                    have hcn2 : ((cntV V (j + 1) : Nat) : Int) = (cntV V j : Int) + 1 := by rw [hcn]; rfl
                    clear hcn
                    go_wp2
                    go_roundw
                    case rel => exact ⟨j + 1, by omega, by go_num, by rw [hcn2], HO2.out⟩
                    case measure => simp [intOf]; omega
                  | false =>
                    rw [hU] at hix hcn
                    have hcn2 : ((cntV V (j + 1) : Nat) : Int) = (cntV V j : Int) := by rw [hcn]; rfl
                    clear hcn
                    go_wp2
                    go_roundw
                    case rel => exact ⟨j + 1, by omega, by go_num, by rw [hcn2], HO2.out⟩
                    case measure => simp [intOf]; omega
                · obtain rfl : j = 3 := by omega
                  obtain ⟨hn1, e3, e4, e6⟩ := tri_V a.n b.n V HV.out
                  rw [hn1]
                  have z := (row_reads HO2.out.arr).1
                  have u1 : wr.cell? ⟨w13.heap.size, 1, none⟩ = some (.bool (V 1)) := z 1
                  have u2 : wr.cell? ⟨w13.heap.size, 2, none⟩ = some (.bool (V 2)) := z 2
                  have u3 : wr.cell? ⟨w13.heap.size, 3, none⟩ = some (.bool (V 3)) := z 3
                  have u4 : wr.cell? ⟨w13.heap.size, 4, none⟩ = some (.bool (V 4)) := z 4
                  have u5 : wr.cell? ⟨w13.heap.size, 5, none⟩ = some (.bool (V 5)) := z 5
                  have u6 : wr.cell? ⟨w13.heap.size, 6, none⟩ = some (.bool (V 6)) := z 6
                  clear z
                  go_wp2_with fail
                  refine (HW.out _).mono ?_
                  rintro e_ wz ⟨rfl, b_⟩
                  have KZ := hide (HO2.out.kr.ext b_)
                  clear b_
                  go_wp2
                  go_ret
                  exact ⟨rfl, KZ.out.bel⟩
end Go.Proofs.YtlfhppicglfinaaGreat
