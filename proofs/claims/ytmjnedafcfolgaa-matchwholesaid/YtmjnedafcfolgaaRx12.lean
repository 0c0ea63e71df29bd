/- A pattern's program: the program's call; the law's pattern that each program must know. -/
import Derived.Test.YtmjnedafcfolgaaRx11
namespace Go.Proofs.Ytmjnedafcfolgaa
open Go.RowKit
/-- A slice of steps from a block's first cell on. -/
def Got (w : World) (v : Value) (l : List In) : Prop :=
  ∃ g cap, v = .slice (some ⟨g, 0, none⟩) l.length cap ∧ l.length ≤ cap ∧ cap ≤ 9223372036854775807 ∧ g < w.heap.size ∧ ∀ (j : Nat) (i : In), l[j]? = some i → ∀ q, q < 7 → w.cell? ⟨g, j * 7 + q, none⟩ = (ic i)[q]?
theorem Got.ext {w w' : World} {v : Value} {l : List In} (h : Got w v l) (hb : Below w.heap.size w w') : Got w' v l := by
  obtain ⟨g, cap, e, h1, h2, h3, h4⟩ := h
  exact ⟨g, cap, e, h1, h2, Nat.lt_of_lt_of_le h3 hb.size, fun j i hj q hq => (Below.cell (p := ⟨g, j * 7 + q, none⟩) hb h3).trans (h4 j i hj q hq)⟩
theorem Ro.got {w : World} {base : Nat} {v : Value} {l : List In} (h : Ro w base v l) (hl : l ≠ []) : Got w v l := by
  obtain ⟨h1, h2⟩ := h
  rcases h2 with ⟨_, h2⟩ | ⟨g, cap, cur, hv, hb, hr, hn, hm, hs, ht⟩
  · exact absurd (List.eq_nil_of_length_eq_zero h2) hl
  · refine ⟨g, cap, hv, hn, by unfold maxLen at hm; omega, (Array.getElem?_eq_some_iff.1 hr).1, fun j i hj q hq => ?_⟩
    have hlt := (List.getElem?_eq_some_iff.1 hj).1
    rw [cell_of_row _ _ _ _ _ _ hr, ← ics_at l j q i hj hq, ← ht, List.getElem?_take, if_pos (by omega)]
    simp
/-- What Compile answers. -/
def CmpA (w : World) (R : Rd (List In)) (e : Ending) (w' : World) : Prop :=
  match R with
  | .ok l _ => (∃ v, e = .returned (.tuple #[v, .int .i64 0]) ∧ Got w' v (plF 0 l)) ∧ Below w.heap.size w w'
  | .bad n => (e = .returned (.tuple #[.slice none 0 0, .int .i64 (n : Int)]) ∧ (n = 3 ∨ n = 4)) ∧ Below w.heap.size w w'
theorem below_new {w w1 w2 : World} {o : Obj} (h1 : w1 = w.alloc o) (h : w1.grownBy w2 (some w.heap.size)) : Below w.heap.size w w2 :=
  Below.grown (by subst h1; exact alloc_below w o) h (by subst h1; simp) (fun k hk => by injection hk with hk; omega)
theorem comp_long {r : List Nat} (h : 256 < r.length) : comp r = .bad 4 := by unfold comp; rw [if_pos h]
theorem comp_bad {r : List Nat} {e : Nat} (h : ¬ 256 < r.length) (hR : patF 21 0 r = .bad e) : comp r = .bad e := by unfold comp; rw [if_neg h, hR]
theorem comp_ok {r : List Nat} {st : List In} (h : ¬ 256 < r.length) (hR : patF 21 0 r = .ok st []) : comp r = .ok (st ++ [stepI 6]) [] := by unfold comp; rw [if_neg h, hR]; rfl
theorem comp_rest {r t : List Nat} {st : List In} (h : ¬ 256 < r.length) (hR : patF 21 0 r = .ok st t) (ht : t ≠ []) : comp r = .bad 3 := by unfold comp; rw [if_neg h, hR]; simp only []; rw [if_neg ht]
set_option maxRecDepth 100000 in
theorem cmp_long (s : ByteArray) {w : World} (h : 256 < (bl s).length) : Calls Try.prog 14 #[.string s] w (CmpA w (.bad 4)) := by
  have hsz : decide ((256 : Int) < (s.size : Int)) = true := decide_eq_true (by rw [bl_len] at h; omega)
  clear h
  go_enter Try.func14, Try.ntmps14
  go_wp2
  go_ret2
  exact ⟨⟨rfl, .inr rfl⟩, Below.refl _ _⟩

set_option maxRecDepth 100000 in
theorem cmp_bad (s : ByteArray) {w : World} {e : Nat} (hl : ¬ 256 < (bl s).length) (hR : patF 21 0 (bl s) = .bad e) : Calls Try.prog 14 #[.string s] w (CmpA w (.bad e)) := by
  have hsz : decide ((256 : Int) < (s.size : Int)) = false := decide_eq_false (by rw [bl_len] at hl; omega)
  have HL := hide hl
  have HW : Hid (PAt (w.alloc (.cells #[.string s, .int .i64 0, .int .i64 0] 52)) w.heap.size s (bl s) 0) := hide ⟨0, ⟨by rw [bl_len]; omega, by rw [bl_len] at hl; omega, by omega⟩, rfl, heap_alloc_last _ _⟩
  have HC := pat_any 20 0 rfl _ _ _ _ HW.out
  rw [hR] at HC
  replace HC := hide HC
  clear hl hR
  go_enter Try.func14, Try.ntmps14
  go_wp2_with fail
  refine HC.out.mono ?_
  rintro e_ w1 ⟨⟨rfl, he⟩, g1⟩
  have hne := err_ne he
  have HE := hide (And.intro he (below_new rfl g1))
  clear he g1
  go_wp2
  go_ret2
  exact ⟨⟨rfl, HE.out.1⟩, HE.out.2⟩

set_option maxRecDepth 100000 in
theorem cmp_rest (s : ByteArray) {w : World} {st : List In} {t : List Nat} (hl : ¬ 256 < (bl s).length) (hR : patF 21 0 (bl s) = .ok st t) (ht : t ≠ []) : Calls Try.prog 14 #[.string s] w (CmpA w (.bad 3)) := by
  have hsz : decide ((256 : Int) < (s.size : Int)) = false := decide_eq_false (by rw [bl_len] at hl; omega)
  have HL := hide hl
  have HW : Hid (PAt (w.alloc (.cells #[.string s, .int .i64 0, .int .i64 0] 52)) w.heap.size s (bl s) 0) := hide ⟨0, ⟨by rw [bl_len]; omega, by rw [bl_len] at hl; omega, by omega⟩, rfl, heap_alloc_last _ _⟩
  have HC := pat_any 20 0 rfl _ _ _ _ HW.out
  rw [hR] at HC
  replace HC := hide HC
  have HT := hide (List.length_pos_iff.2 ht)
  clear hl hR ht
  go_enter Try.func14, Try.ntmps14
  go_wp2_with fail
  refine HC.out.mono ?_
  rintro e_ w1 ⟨⟨v, rfl, h1, p1⟩, g1⟩
  obtain ⟨i, hi, _, hr⟩ := p1
  obtain ⟨x0, _⟩ := row_reads hr
  have c1 := x0 1
  simp only [List.getElem?_toArray, List.getElem?_cons_zero, List.getElem?_cons_succ] at c1
  have HB := hide (below_new rfl g1)
  have H1 := hide h1
  have hlt : decide (i < s.size) = true := decide_eq_true (by have := HT.out; omega)
  clear x0 hr hi h1 g1
  go_wp2
  go_ret2
  exact ⟨⟨rfl, .inl rfl⟩, HB.out⟩

set_option maxRecDepth 100000 in
set_option maxHeartbeats 1000000 in
theorem cmp_ok (s : ByteArray) {w : World} {st : List In} (hl : ¬ 256 < (bl s).length) (hR : patF 21 0 (bl s) = .ok st []) : Calls Try.prog 14 #[.string s] w (CmpA w (.ok (st ++ [stepI 6]) [])) := by
  have hsz : decide ((256 : Int) < (s.size : Int)) = false := decide_eq_false (by rw [bl_len] at hl; omega)
  have HL := hide hl
  have HW : Hid (PAt (w.alloc (.cells #[.string s, .int .i64 0, .int .i64 0] 52)) w.heap.size s (bl s) 0) := hide ⟨0, ⟨by rw [bl_len]; omega, by rw [bl_len] at hl; omega, by omega⟩, rfl, heap_alloc_last _ _⟩
  have HC := pat_any 20 0 rfl _ _ _ _ HW.out
  rw [hR] at HC
  replace HC := hide HC
  have HN : Hid (st.length ≤ 768) := hide (by have h9 := pat_len 21 _ _ _ _ hR; simp at h9; omega)
  clear hl hR
  go_enter Try.func14, Try.ntmps14
  go_wp2_with fail
  refine HC.out.mono ?_
  rintro e_ w1 ⟨⟨v, rfl, h1, p1⟩, g1⟩
  obtain ⟨i, hi, _, hr⟩ := p1
  obtain ⟨x0, _⟩ := row_reads hr
  have c1 := x0 1
  simp only [List.getElem?_toArray, List.getElem?_cons_zero, List.getElem?_cons_succ] at c1
  have HB := hide (below_new rfl g1)
  have H1 := hide h1
  have hlt : decide (i < s.size) = false := decide_eq_false (by have := hi.1; simp at this; omega)
  clear x0 hr hi h1 g1
  obtain ⟨ao, c, rfl, _, _⟩ := H1.out.len
  obtain ⟨n, hn⟩ : ∃ n, st.length = n := ⟨_, rfl⟩
  rw [hn]
  rw [hn] at H1
  have HNN := hide hn
  clear hn
  go_wp2_with fail
  refine (step_any 6).mono ?_
  rintro e_ w2 ⟨v2, rfl, h2, b2⟩
  obtain ⟨ao2, c2, rfl, _, _⟩ := h2.len
  have H2 := hide (And.intro (H1.out.ext b2) (And.intro h2 (Below.chain HB.out b2)))
  clear h2 b2
  have BA := hide (alloc_below w2 (.cells #[.slice ao n c, .slice ao2 1 c2] 34))
  go_wp2_with fail
  refine (row_any (ls := [st, [stepI 6]]) (heap_alloc_last w2 (.cells #[.slice ao n c, .slice ao2 1 c2] 34)) (.cons (H2.out.1.ext BA.out) (.cons (H2.out.2.1.ext BA.out) .nil)) (by simp) ?cl).mono ?_
  case cl => have := HN.out; simp; omega
  rintro e_ w3 ⟨v3, rfl, h3, b3⟩
  rw [show ([st, [stepI 6]] : List (List In)).flatten = st ++ [stepI 6] by simp] at h3
  have H3 := hide (And.intro h3 (And.intro (Below.chain H2.out.2.2 (Below.chain BA.out b3)) (Nat.le_trans BA.out.size b3.size)))
  clear h3 b3
  go_wp2_with fail
  refine (place_any H3.out.1 (by simp) (by have := HN.out; simp; omega)).mono ?_
  rintro e_ w4 ⟨rfl, h4, b4⟩
  have H4 := hide (And.intro (h4.got (by intro e; have := congrArg List.length e; rw [plF_len] at this; simp at this)) (H3.out.2.1.trans (b4.mono (Nat.le_trans H2.out.2.2.size BA.out.size))))
  clear h4 b4
  go_wp2
  go_ret2
  exact ⟨⟨_, rfl, H4.out.1⟩, H4.out.2⟩

set_option maxRecDepth 100000 in
theorem Compile_any (s : ByteArray) {w : World}  : Calls Try.prog 14 #[.string s] w (CmpA w (comp (bl s))) := by
  by_cases hl : 256 < (bl s).length
  · rw [comp_long hl]; exact cmp_long s hl
  · cases hR : patF 21 0 (bl s) with
    | bad e => rw [comp_bad hl hR]; exact cmp_bad s hl hR
    | ok st t =>
      by_cases ht : t = []
      · subst ht; rw [comp_ok hl hR]; exact cmp_ok s hl hR
      · rw [comp_rest hl hR ht]; exact cmp_rest s hl hR ht

end Go.Proofs.Ytmjnedafcfolgaa
