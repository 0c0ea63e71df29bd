/- The page's own fields, written. -/
import Derived.Test.YtogegmdimfinaaaPb8
namespace Go.Proofs.Ytogegmdimfinaaa
open Go.RowKit
set_option maxRecDepth 100000 in
theorem may_in {num : Int} (w : World) (h : 1 ≤ num ∧ num ≤ 100) : Calls Try.prog 26 #[.int .i64 num] w fun e w' => e = .returned (.bool true) ∧ w' = w := by
  have hd0 : decide ((1 : Int) ≤ num) = true := decide_eq_true h.1
  have hd1 : decide (num ≤ (100 : Int)) = true := decide_eq_true h.2
  go_enter Try.func26, Try.ntmps26
  go_wp2
  go_ret
  exact ⟨rfl, rfl⟩
set_option maxRecDepth 100000 in
theorem may_out {num : Int} (w : World) (h : ¬ (1 ≤ num ∧ num ≤ 100)) : Calls Try.prog 26 #[.int .i64 num] w fun e w' => e = .returned (.bool false) ∧ w' = w := by
  by_cases h1 : 1 ≤ num
  · have hd0 : decide ((1 : Int) ≤ num) = true := decide_eq_true h1
    have hd1 : decide (num ≤ (100 : Int)) = false := decide_eq_false (by omega)
    go_enter Try.func26, Try.ntmps26
    go_wp2
    go_ret
    exact ⟨rfl, rfl⟩
  · have hd0 : decide ((1 : Int) ≤ num) = false := decide_eq_false h1
    go_enter Try.func26, Try.ntmps26
    go_wp2
    go_ret
    exact ⟨rfl, rfl⟩
theorem pbs_in {num : Int} {wire : Nat} {x : List Nat} (h : 1 ≤ num ∧ num ≤ 100) : (pbs num wire x).flatten = vbn (8 * num.toNat + wire) ++ x := by unfold pbs; rw [if_pos h]; simp
theorem pbs_out {num : Int} {wire : Nat} {x : List Nat} (h : ¬ (1 ≤ num ∧ num ≤ 100)) : pbs num wire x = [] := by unfold pbs; rw [if_neg h]
set_option maxRecDepth 100000 in
set_option maxHeartbeats 1000000 in
theorem rInt_any {num : Int} {n : Nat} {w : World} (hn : n < 18446744073709551616) : Calls Try.prog 14 #[.int .i64 num, .int .u64 (n : Int)] w fun e w' => ∃ u, e = .returned u ∧ Own w' w.heap.size u (putI num n).flatten ∧ Below w.heap.size w w' := by
  unfold putI
  by_cases h : 1 ≤ num ∧ num ≤ 100
  · rw [pbs_in h]
    obtain ⟨k, rfl⟩ : ∃ k : Nat, num = (k : Int) := ⟨num.toNat, by omega⟩
    have hk : 1 ≤ k ∧ k ≤ 100 := by omega
    rw [show 8 * ((k : Int)).toNat + 0 = 8 * k by omega]
    obtain ⟨tag, htag⟩ : ∃ tag, 8 * k = tag := ⟨_, rfl⟩
    rw [htag]
    have et : 8 * (k : Int) = (tag : Int) := by omega
    have ew : IntKind.u64.wrap (tag : Int) = (tag : Int) := by rw [IntKind.wrap_u64]; omega
    have HM := hide (may_in w h)
    have HV1 : Hid (∀ W : World, Calls Try.prog 17 #[.int .u64 (tag : Int)] W fun e w' => ∃ v, e = .returned v ∧ Own w' W.heap.size v (vbn tag) ∧ Below W.heap.size W w') := fun W => varint_r tag W (by omega)
    have HV2 : Hid (∀ W : World, Calls Try.prog 17 #[.int .u64 (n : Int)] W fun e w' => ∃ v, e = .returned v ∧ Own w' W.heap.size v (vbn n) ∧ Below W.heap.size W w') := fun W => varint_r n W hn
    have HL := hide (And.intro (vbn_le tag) (vbn_le n))
    generalize vbn tag = A at *
    generalize vbn n = B at *
    clear h hn htag
    go_enter Try.func14, Try.ntmps14
    go_wp2_with fail
    refine HM.out.mono ?_
    rintro e w1 ⟨rfl, rfl⟩
    go_wp2_with fail
    refine (HV1.out _).mono ?_
    rintro e w2 ⟨v2, rfl, o2, b2⟩
    have H2 := hide (And.intro o2 b2)
    clear o2 b2
    go_wp2_with fail
    refine (HV2.out _).mono ?_
    rintro e w3 ⟨v3, rfl, o3, b3⟩
    have H3 := hide (And.intro (H2.out.1.ext b3) (And.intro o3 (Below.chain H2.out.2 b3)))
    clear o3 b3 H2
    go_wp2_with (at_builtin; refine wpList_append_b rfl (.tmp 11) (.tmp 13) rfl (base := w1.heap.size) (l := A) (m := B) H3.out.1 H3.out.2.1.at (by have := HL.out.1; have := HL.out.2; omega) H3.out.2.2.size ?_)
    intro v4 w4 o4 g4
    have R := hide (And.intro o4 (below_gr H3.out.2.2 H3.out.1 (Nat.le_refl _) g4))
    clear o4 g4
    go_wp2
    go_ret
    exact ⟨_, rfl, R.out.1, R.out.2⟩
  · rw [pbs_out h, List.flatten_nil]
    have HM := hide (may_out w h)
    clear h hn
    go_enter Try.func14, Try.ntmps14
    go_wp2_with fail
    refine HM.out.mono ?_
    rintro e w1 ⟨rfl, rfl⟩
    go_wp2
    go_ret
    exact ⟨_, rfl, own_nil _ _ (Nat.le_refl _), Below.refl _ _⟩
set_option maxRecDepth 100000 in
set_option maxHeartbeats 1000000 in
theorem rRaw_any {num : Int} {bv : Value} {b : List Nat} {w : World} (hb : BsAt w bv b) : Calls Try.prog 12 #[.int .i64 num, bv] w fun e w' => ∃ u, e = .returned u ∧ Own w' w.heap.size u (putR num b).flatten ∧ Below w.heap.size w w' := by
  unfold putR
  by_cases h : 1 ≤ num ∧ num ≤ 100
  · by_cases hl : b.length ≤ 65536
    · rw [if_pos hl, pbs_in h]
      obtain ⟨k, rfl⟩ : ∃ k : Nat, num = (k : Int) := ⟨num.toNat, by omega⟩
      have hk : 1 ≤ k ∧ k ≤ 100 := by omega
      rw [show 8 * ((k : Int)).toNat + 2 = 8 * k + 2 by omega]
      obtain ⟨tag, htag⟩ : ∃ tag, 8 * k + 2 = tag := ⟨_, rfl⟩
      rw [htag]
      have et : 8 * (k : Int) + 2 = (tag : Int) := by omega
      have ew : IntKind.u64.wrap (tag : Int) = (tag : Int) := by rw [IntKind.wrap_u64]; omega
      have HM := hide (may_in w h)
      have HV1 : Hid (∀ W : World, Calls Try.prog 17 #[.int .u64 (tag : Int)] W fun e w' => ∃ v, e = .returned v ∧ Own w' W.heap.size v (vbn tag) ∧ Below W.heap.size W w') := fun W => varint_r tag W (by omega)
      have HV2 : Hid (∀ W : World, Calls Try.prog 17 #[.int .u64 ((b.length : Nat) : Int)] W fun e w' => ∃ v, e = .returned v ∧ Own w' W.heap.size v (vbn b.length) ∧ Below W.heap.size W w') := fun W => varint_r b.length W (by omega)
      have HL := hide (And.intro (vbn_le tag) (And.intro (vbn_le b.length) (And.intro hl hb)))
      have hd : decide ((65536 : Int) < (b.length : Int)) = false := decide_eq_false (by omega)
      have eb : IntKind.u64.wrap ((b.length : Nat) : Int) = ((b.length : Nat) : Int) := by rw [IntKind.wrap_u64]; omega
      obtain ⟨ba, bc, rfl, _, _⟩ := hb.len
      generalize vbn tag = A at *
      generalize vbn b.length = B at *
      clear h htag hl hb
      go_enter Try.func12, Try.ntmps12
      go_wp2_with fail
      refine HM.out.mono ?_
      rintro e w1 ⟨rfl, rfl⟩
      go_wp2_with fail
      refine (HV1.out _).mono ?_
      rintro e w2 ⟨v2, rfl, o2, b2⟩
      have H2 := hide (And.intro o2 b2)
      clear o2 b2
      go_wp2_with fail
      refine (HV2.out _).mono ?_
      rintro e w3 ⟨v3, rfl, o3, b3⟩
      have H3 := hide (And.intro (H2.out.1.ext b3) (And.intro o3 (Below.chain H2.out.2 b3)))
      clear o3 b3 H2
      go_wp2_with (at_builtin; refine wpList_append_b rfl (.tmp 17) (.tmp 21) rfl (base := w1.heap.size) (l := A) (m := B) H3.out.1 H3.out.2.1.at (by have := HL.out.1; have := HL.out.2.1; omega) H3.out.2.2.size ?_)
      intro v4 w4 o4 g4
      obtain ⟨AB, hAB⟩ : ∃ AB, A ++ B = AB := ⟨_, rfl⟩
      rw [hAB] at o4
      have H4 := hide (And.intro o4 (And.intro (below_gr H3.out.2.2 H3.out.1 (Nat.le_refl _) g4) hAB))
      clear o4 g4 H3 hAB
      go_wp2_with (at_builtin; refine wpList_append_b rfl (.tmp 22) (.tmp 23) rfl (base := w1.heap.size) (l := AB) (m := b) H4.out.1 (HL.out.2.2.2.ext H4.out.2.1) (by have h1 := HL.out.1; have h2 := HL.out.2.1; have h3 := HL.out.2.2.1; rw [← H4.out.2.2, List.length_append]; omega) H4.out.2.1.size ?_)
      intro v5 w5 o5 g5
      have R := hide (And.intro o5 (And.intro (below_gr H4.out.2.1 H4.out.1 (Nat.le_refl _) g5) H4.out.2.2))
      clear o5 g5
      go_wp2
      go_ret
      exact ⟨_, rfl, by rw [← List.append_assoc, R.out.2.2]; exact R.out.1, R.out.2.1⟩
    · rw [if_neg hl, List.flatten_nil]
      have HM := hide (may_in w h)
      have hd : decide ((65536 : Int) < (b.length : Int)) = true := decide_eq_true (by omega)
      obtain ⟨ba, bc, rfl, _, _⟩ := hb.len
      clear h hb
      go_enter Try.func12, Try.ntmps12
      go_wp2_with fail
      refine HM.out.mono ?_
      rintro e w1 ⟨rfl, rfl⟩
      go_wp2
      go_ret
      exact ⟨_, rfl, own_nil _ _ (Nat.le_refl _), Below.refl _ _⟩
  · rw [show (if b.length ≤ 65536 then pbs num 2 (vbn b.length ++ b) else []).flatten = [] by rw [pbs_out h]; simp]
    have HM := hide (may_out w h)
    obtain ⟨ba, bc, rfl, _, _⟩ := hb.len
    clear h hb
    go_enter Try.func12, Try.ntmps12
    go_wp2_with fail
    refine HM.out.mono ?_
    rintro e w1 ⟨rfl, rfl⟩
    go_wp2
    go_ret
    exact ⟨_, rfl, own_nil _ _ (Nat.le_refl _), Below.refl _ _⟩
end Go.Proofs.Ytogegmdimfinaaa
