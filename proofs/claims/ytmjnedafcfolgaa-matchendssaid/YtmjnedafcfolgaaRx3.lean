/- Steps made, and rows of them put behind one another: the program's calls. -/
import Derived.Test.YtmjnedafcfolgaaRx0
namespace Go.Proofs.Ytmjnedafcfolgaa
open Go.RowKit
/-- A new slice of one step. -/
theorem one_at {w : World} {g : Nat} {i : In} (h : w.heap[g]? = some (.cells #[.int .i64 i.k, .int .u64 (i.s 0 : Int), .int .u64 (i.s 1 : Int), .int .u64 (i.s 2 : Int), .int .u64 (i.s 3 : Int), .int .i64 i.x, .int .i64 i.y] 49 (0, 0))) : LsAt w (.slice (some ⟨g, 0, none⟩) 1 1) [i] := by
  refine ⟨⟨rfl, g, 0, 1, _, rfl, Nat.le_refl _, by omega, fun _ => ⟨rfl, (Array.getElem?_eq_some_iff.1 h).1, fun j u hu => ?_⟩, ics_one _⟩, fun k hk => by injection hk with hk; subst hk; exact ⟨_, _, h⟩⟩
  rw [Nat.zero_add, cell_of_row _ _ _ _ _ _ h]
  simpa [ics, ic] using hu
set_option maxRecDepth 100000 in
theorem step_any (k : Int) {w : World} : Calls Try.prog 22 #[.int .i64 k] w fun e w' => ∃ v, e = .returned v ∧ LsAt w' v [stepI k] ∧ Below w.heap.size w w' := by
  have HA := hide (And.intro (one_at (i := stepI k) (heap_alloc_last w (.cells #[.int .i64 k, .int .u64 0, .int .u64 0, .int .u64 0, .int .u64 0, .int .i64 0, .int .i64 0] 49))) (alloc_below w (.cells #[.int .i64 k, .int .u64 0, .int .u64 0, .int .u64 0, .int .u64 0, .int .i64 0, .int .i64 0] 49)))
  go_enter Try.func22, Try.ntmps22
  go_wp2
  go_ret
  exact ⟨_, rfl, HA.out.1, HA.out.2⟩

set_option maxRecDepth 100000 in
theorem split_any (x y : Int) {w : World} : Calls Try.prog 31 #[.int .i64 x, .int .i64 y] w fun e w' => ∃ v, e = .returned v ∧ LsAt w' v [splitI x y] ∧ Below w.heap.size w w' := by
  have HA := hide (And.intro (one_at (i := splitI x y) (heap_alloc_last w (.cells #[.int .i64 2, .int .u64 0, .int .u64 0, .int .u64 0, .int .u64 0, .int .i64 x, .int .i64 y] 49))) (alloc_below w (.cells #[.int .i64 2, .int .u64 0, .int .u64 0, .int .u64 0, .int .u64 0, .int .i64 x, .int .i64 y] 49)))
  go_enter Try.func31, Try.ntmps31
  go_wp2
  go_ret
  exact ⟨_, rfl, HA.out.1, HA.out.2⟩

set_option maxRecDepth 100000 in
theorem jump_any (x : Int) {w : World} : Calls Try.prog 32 #[.int .i64 x] w fun e w' => ∃ v, e = .returned v ∧ LsAt w' v [jumpI x] ∧ Below w.heap.size w w' := by
  have HA := hide (And.intro (one_at (i := jumpI x) (heap_alloc_last w (.cells #[.int .i64 3, .int .u64 0, .int .u64 0, .int .u64 0, .int .u64 0, .int .i64 x, .int .i64 0] 49))) (alloc_below w (.cells #[.int .i64 3, .int .u64 0, .int .u64 0, .int .u64 0, .int .u64 0, .int .i64 x, .int .i64 0] 49)))
  go_enter Try.func32, Try.ntmps32
  go_wp2
  go_ret
  exact ⟨_, rfl, HA.out.1, HA.out.2⟩

/-- A set of bytes as a value. -/
abbrev sv (s : Nat → Nat) : Value := .agg #[.int .u64 (s 0 : Int), .int .u64 (s 1 : Int), .int .u64 (s 2 : Int), .int .u64 (s 3 : Int)]
set_option maxRecDepth 100000 in
theorem char_any (s : Nat → Nat) {w : World} : Calls Try.prog 45 #[sv s] w fun e w' => ∃ v, e = .returned v ∧ LsAt w' v [charI s] ∧ Below w.heap.size w w' := by
  have HA := hide (And.intro (one_at (w := (w.alloc (.cells #[.int .u64 (s 0 : Int), .int .u64 (s 1 : Int), .int .u64 (s 2 : Int), .int .u64 (s 3 : Int)] 65)).alloc (.cells #[.int .i64 1, .int .u64 (s 0 : Int), .int .u64 (s 1 : Int), .int .u64 (s 2 : Int), .int .u64 (s 3 : Int), .int .i64 0, .int .i64 0] 49)) (g := w.heap.size + 1) (i := charI s) (by have h9 := heap_alloc_last (w.alloc (.cells #[.int .u64 (s 0 : Int), .int .u64 (s 1 : Int), .int .u64 (s 2 : Int), .int .u64 (s 3 : Int)] 65)) (.cells #[.int .i64 1, .int .u64 (s 0 : Int), .int .u64 (s 1 : Int), .int .u64 (s 2 : Int), .int .u64 (s 3 : Int), .int .i64 0, .int .i64 0] 49); simpa [charI] using h9)) (Below.chain (alloc_below w (.cells #[.int .u64 (s 0 : Int), .int .u64 (s 1 : Int), .int .u64 (s 2 : Int), .int .u64 (s 3 : Int)] 65)) (alloc_below _ (.cells #[.int .i64 1, .int .u64 (s 0 : Int), .int .u64 (s 1 : Int), .int .u64 (s 2 : Int), .int .u64 (s 3 : Int), .int .i64 0, .int .i64 0] 49))))
  go_enter Try.func45, Try.ntmps45
  go_wp2
  go_ret
  exact ⟨_, rfl, HA.out.1, HA.out.2⟩

/-- Slices of steps. -/
inductive Lss (w : World) : List Value → List (List In) → Prop
  | nil : Lss w [] []
  | cons {v : Value} {l : List In} {vs : List Value} {ls : List (List In)} : LsAt w v l → Lss w vs ls → Lss w (v :: vs) (l :: ls)
theorem Lss.ext {W w : World} {vs : List Value} {ls : List (List In)} (h : Lss W vs ls) (he : Below W.heap.size W w) : Lss w vs ls := by
  induction h with
  | nil => exact .nil
  | cons h1 _ ih => exact .cons (h1.ext he) ih
theorem Lss.len {w : World} {vs : List Value} {ls : List (List In)} (h : Lss w vs ls) : vs.length = ls.length := by
  induction h with
  | nil => rfl
  | cons _ _ ih => simp [ih]
theorem Lss.at {w : World} {vs : List Value} {ls : List (List In)} (h : Lss w vs ls) : ∀ k, k < vs.length → ∃ v l, vs[k]? = some v ∧ ls[k]? = some l ∧ LsAt w v l := by
  induction h with
  | nil => intro k hk; simp at hk
  | cons h1 _ ih =>
    intro k hk
    cases k with
    | zero => exact ⟨_, _, rfl, rfl, h1⟩
    | succ k => exact ih k (by simp at hk; omega)
theorem take_flat {ls : List (List In)} {k : Nat} {l : List In} (h : ls[k]? = some l) : (ls.take (k + 1)).flatten = (ls.take k).flatten ++ l := by
  rw [List.take_add_one, h, List.flatten_append]
  simp
theorem take_flat_len (ls : List (List In)) (k : Nat) : (ls.take k).flatten.length ≤ ls.flatten.length := by
  have h := congrArg (fun l => l.flatten.length) (List.take_append_drop k ls)
  simp only [List.flatten_append, List.length_append] at h
  omega
set_option maxRecDepth 100000 in
set_option maxHeartbeats 1000000 in
theorem row_any {w : World} {b : Nat} {vs : List Value} {ls : List (List In)} (hb : w.heap[b]? = some (.cells vs.toArray 34 (0, 0))) (hv : Lss w vs ls) (hn : vs.length ≤ 100) (hl : ls.flatten.length ≤ 1000000) : Calls Try.prog 21 #[.slice (some ⟨b, 0, none⟩) vs.length vs.length] w fun e w' => ∃ v, e = .returned v ∧ Ro w' w.heap.size v ls.flatten ∧ Below w.heap.size w w' := by
  have H0 := hide (And.intro hb (And.intro hv (And.intro hl hn)))
  have hblt : b < w.heap.size := (Array.getElem?_eq_some_iff.1 hb).1
  clear hb hv hl
  obtain ⟨n, en⟩ : ∃ n, vs.length = n := ⟨_, rfl⟩
  have HE := hide en
  rw [en] at hn ⊢
  clear en
  go_enter Try.func21, Try.ntmps21
  go_wp2
  go_loopw [3, 8] (fun s3 s8 wr => ∃ (k : Nat) (A : List In), k ≤ n ∧ s8 = .int .i64 (k : Int) ∧ Hid (A = (ls.take k).flatten) ∧ Ro wr w.heap.size s3 A ∧ Below w.heap.size w wr) (fun _ i _ => n - (intOf i).toNat)
  case atStart => exact ⟨0, [], Nat.zero_le _, rfl, hide rfl, Ro.nil _ _, Below.refl _ _⟩
  case round =>
    obtain ⟨k, A, hk, rfl, EA, hR, hB⟩ := hrel
    have HA := hide (And.intro hR hB)
    clear hR hB
    by_cases hlt : k < n
    · obtain ⟨v, l, e1, e2, hvl⟩ := H0.out.2.1.at k (by rw [HE.out]; exact hlt)
      have hr := Below.heap HA.out.2 hblt H0.out.1
      have hcell : wr.cell? ⟨b, k, none⟩ = some v := by rw [cell_of_row _ _ _ _ _ _ hr]; simpa using e1
      have HL := hide (And.intro e2 (hvl.ext HA.out.2))
      clear e1 e2 hvl hr
      have hd : decide ((k : Int) < (n : Int)) = true := decide_eq_true (by omega)
      go_wp2_with (at_builtin; refine wpList_append_cs appI rfl (.tmp 12) (.tmp 13) rfl (base := w.heap.size) HA.out.1 HL.out.2.1 ?c1 ?c2 HA.out.2.size ?_)
      case c1 =>
        have h1 := take_flat_len ls (k + 1)
        rw [take_flat HL.out.1, List.length_append, ← EA.out] at h1
        have := H0.out.2.2.1
        omega
      case c2 =>
        have h1 := take_flat_len ls (k + 1)
        rw [take_flat HL.out.1, List.length_append, ← EA.out] at h1
        have := H0.out.2.2.1
        omega
      intro v2 w2 h2 hg
      have HN := hide (And.intro (show Ro w2 w.heap.size v2 (A ++ l) by unfold Ro; rw [ics_app, List.length_append]; exact h2) (HA.out.2.grown hg HA.out.2.size (row_blk HA.out.1)))
      clear h2 hg
      go_wp2
      go_roundw
      case rel => exact ⟨k + 1, A ++ l, by omega, by go_num, hide (by rw [take_flat HL.out.1, ← EA.out]), HN.out.1, HN.out.2⟩
      case measure => simp [intOf]; omega
    · obtain rfl : k = n := by omega
      obtain rfl : A = ls.flatten := by have h1 := EA.out; rw [List.take_of_length_le (by rw [← H0.out.2.1.len, HE.out]; exact Nat.le_refl _)] at h1; exact h1
      go_wp2
      go_ret
      exact ⟨_, rfl, HA.out.1, HA.out.2⟩

end Go.Proofs.Ytmjnedafcfolgaa
