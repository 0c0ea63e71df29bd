/- A number to the p - 2: what the program's inverse answers, in any world where the exponent lies as the program's text lays it. -/
import Derived.Test.YteplbagjagimdaaDoorGen
import Derived.Laws.EntriesVeiled
namespace Go.Proofs.YteplbagjagimdaaDoor
open Go.RowKit
set_option maxRecDepth 100000 in
set_option maxHeartbeats 1000000 in
theorem alone_any (x y : Nat) (hx : x < pp) (w : World) :
    Calls Tryd.prog 86 #[.agg (el x), .agg (el y)] w fun e w' => e = .returned (.agg (el (x * x % pp))) ∧ Below w.heap.size w w' := by
  have hmul := mul_any x x hx hx
  obtain ⟨a, b, c, d, he⟩ : ∃ a b c d : Nat, el x = #[.int .u64 (a : Int), .int .u64 (b : Int), .int .u64 (c : Int), .int .u64 (d : Int)] := ⟨_, _, _, _, rfl⟩
  obtain ⟨r, s, t, u, hr⟩ : ∃ a b c d : Nat, el (x * x % pp) = #[.int .u64 (a : Int), .int .u64 (b : Int), .int .u64 (c : Int), .int .u64 (d : Int)] := ⟨_, _, _, _, rfl⟩
  obtain ⟨a', b', c', d', he'⟩ : ∃ a b c d : Nat, el y = #[.int .u64 (a : Int), .int .u64 (b : Int), .int .u64 (c : Int), .int .u64 (d : Int)] := ⟨_, _, _, _, rfl⟩
  rw [hr] at hmul ⊢
  rw [he] at hmul ⊢
  rw [he']
  clear he he' hr hx
  go_enter Tryd.func86, Tryd.ntmps86
  go_wp2_with fail
  refine (hmul _).mono ?_
  rintro e w1 ⟨rfl, hb1⟩
  have HB1 := hide ((below3 _ _ _ _).trans (hb1.mono (by simp; omega)))
  have HO1 := hide (Below.heap hb1 (g := w.heap.size + 1 + 1) (by simp) (heap_alloc_last3 _ _ _ _))
  obtain ⟨x2, y2⟩ := row_reads HO1.out
  clear hb1
  go_wp2
  exact bodyPost_ret_by (results_cell_row rfl _ _ (w.heap.size + 1 + 1) 28 _ (0, 0) _ rfl (set4_row HO1.out) Tryd.underlying28 rfl (by kernel_rfl)) rfl ⟨rfl, Below.set4 HB1.out (by omega) _ _ _ _⟩
set_option maxRecDepth 100000 in
set_option maxHeartbeats 1000000 in
theorem times_any (x y : Nat) (hx : x < pp) (hy : y < pp) (w : World) :
    Calls Tryd.prog 87 #[.agg (el x), .agg (el y)] w fun e w' => e = .returned (.agg (el (x * x % pp * y % pp))) ∧ Below w.heap.size w w' := by
  have hmul := mul_any x x hx hx
  have hmul2 := mul_any (x * x % pp) y (pp_mod _) hy
  obtain ⟨a, b, c, d, he⟩ : ∃ a b c d : Nat, el x = #[.int .u64 (a : Int), .int .u64 (b : Int), .int .u64 (c : Int), .int .u64 (d : Int)] := ⟨_, _, _, _, rfl⟩
  obtain ⟨r, s, t, u, hr⟩ : ∃ a b c d : Nat, el (x * x % pp * y % pp) = #[.int .u64 (a : Int), .int .u64 (b : Int), .int .u64 (c : Int), .int .u64 (d : Int)] := ⟨_, _, _, _, rfl⟩
  obtain ⟨a', b', c', d', he'⟩ : ∃ a b c d : Nat, el y = #[.int .u64 (a : Int), .int .u64 (b : Int), .int .u64 (c : Int), .int .u64 (d : Int)] := ⟨_, _, _, _, rfl⟩
  rw [hr] at hmul2 ⊢
  rw [he'] at hmul2 ⊢
  rw [he] at hmul ⊢
  generalize el (x * x % pp) = N at *
  clear he he' hr hx hy
  go_enter Tryd.func87, Tryd.ntmps87
  go_wp2
  go_region_with (first
    | (go_at_call 58; with_reducible refine (hmul _).mono ?_; rintro e w1 ⟨rfl, hb1⟩; obtain ⟨x1, y1⟩ := row_reads (Below.heap hb1 (g := w.heap.size + 1) (by simp) (heap_alloc_mid3 _ _ _ _)))
    | (go_at_call 58; with_reducible refine (hmul2 _).mono ?_; rintro e w2 ⟨rfl, hb2⟩; obtain ⟨x2, y2⟩ := row_reads (Below.heap hb2 (g := w.heap.size + 1 + 1) (by have := hb1.size; simp at this ⊢; omega) (Below.heap hb1 (g := w.heap.size + 1 + 1) (by simp) (heap_alloc_last3 _ _ _ _)))))
  all_goals
    have HO2 := hide (Below.heap hb2 (g := w.heap.size + 1 + 1) (by have := hb1.size; simp at this ⊢; omega) (Below.heap hb1 (g := w.heap.size + 1 + 1) (by simp) (heap_alloc_last3 _ _ _ _)))
    have HB2 := hide (((below3 w _ _ _).drew.trans (hb1.mono (by simp; omega))).trans (hb2.mono (by have := hb1.size; simp at this ⊢; omega)))
    clear hb1 hb2 x1 y1 x2 y2
    go_wp2
    exact bodyPost_ret_by (results_cell_row rfl _ _ (w.heap.size + 1 + 1) 28 _ (0, 0) _ rfl (set4_row HO2.out) Tryd.underlying28 rfl (by kernel_rfl)) rfl ⟨rfl, Below.set4 HB2.out (by omega) _ _ _ _⟩
/-- A bit of a row's number. -/
theorem bit_word (l : List Nat) (hl : lim l) (j : Nat) : (l.getD (j / 64) 0) / 2 ^ (j % 64) % 2 = val l / 2 ^ j % 2 := by
  have key : ∀ (l : List Nat) (q : Nat), lim l → val l / 18446744073709551616 ^ q % 18446744073709551616 = l.getD q 0 := by
    intro l
    induction l with
    | nil => intro q _; simp [val]
    | cons x t ih =>
      intro q h
      have hx := h 0
      simp only [List.getD_cons_zero] at hx
      cases q with
      | zero => simp only [val, Nat.pow_zero, Nat.div_one, List.getD_cons_zero]; omega
      | succ q =>
        rw [List.getD_cons_succ, ← ih q (fun i => h (i + 1)), val, Nat.pow_succ, Nat.mul_comm (18446744073709551616 ^ q) 18446744073709551616, ← Nat.div_div_eq_div_mul]
        congr 2; omega
  rw [← key l (j / 64) hl]
  have h1 : (18446744073709551616 : Nat) = 2 ^ (j % 64) * (2 * 2 ^ (63 - j % 64)) := by
    rw [← Nat.pow_succ', ← Nat.pow_add, show j % 64 + (63 - j % 64).succ = 64 by omega]
  have h2 : (18446744073709551616 : Nat) ^ (j / 64) * 2 ^ (j % 64) = 2 ^ j := by
    rw [show (18446744073709551616 : Nat) = 2 ^ 64 from rfl, ← Nat.pow_mul, ← Nat.pow_add]
    congr 1; omega
  rw [← h2, ← Nat.div_div_eq_div_mul]
  generalize val l / 18446744073709551616 ^ (j / 64) = y
  rw [h1, Nat.mod_mul_right_div_self, Nat.mod_mul_right_mod]
end Go.Proofs.YteplbagjagimdaaDoor
