/- All bytes of a message; what every program must know. -/
import Derived.Test.YtogegmdimfinaaaPb10
import Derived.Test.YtogegmdimfinaaaPb2
namespace Go.Proofs.Ytogegmdimfinaaa
open Go.RowKit
/-- One by one. -/
def All2 (P : Value → List Nat → Prop) (us : List Value) (ls : List (List Nat)) : Prop := us.length = ls.length ∧ ∀ i, i < ls.length → P (us.getD i undef) (ls.getD i [])
theorem getD_rev {α : Type} (l : List α) (d : α) (i : Nat) (h : i < l.length) : l.reverse.getD i d = l.getD (l.length - 1 - i) d := by
  rw [List.getD_eq_getElem?_getD, List.getElem?_reverse h, ← List.getD_eq_getElem?_getD]
theorem All2.rev {P : Value → List Nat → Prop} {us : List Value} {ls : List (List Nat)} (h : All2 P us ls) : All2 P us.reverse ls.reverse :=
  ⟨by simp [h.1], fun i hi => by
    rw [List.length_reverse] at hi
    have hl := h.1
    rw [getD_rev _ _ _ (by omega), getD_rev _ _ _ hi, hl]
    exact h.2 _ (by omega)⟩
theorem All2.push {P : Value → List Nat → Prop} {us : List Value} {ls : List (List Nat)} (h : All2 P us ls) {u : Value} {l : List Nat} (hu : P u l) : All2 P (us ++ [u]) (ls ++ [l]) :=
  ⟨by simp [h.1], fun i hi => by
    have hl := h.1
    simp only [List.length_append, List.length_cons, List.length_nil] at hi
    by_cases e : i < ls.length
    · rw [List.getD_eq_getElem?_getD, List.getElem?_append_left (by omega), ← List.getD_eq_getElem?_getD, List.getD_eq_getElem?_getD (l := ls ++ [l]), List.getElem?_append_left e, ← List.getD_eq_getElem?_getD]
      exact h.2 i e
    · obtain rfl : i = ls.length := by omega
      rw [List.getD_eq_getElem?_getD, List.getElem?_append_right (by omega), List.getD_eq_getElem?_getD (l := ls ++ [l]), List.getElem?_append_right (by omega), hl]
      simpa using hu⟩
theorem All2.mono {P Q : Value → List Nat → Prop} {us : List Value} {ls : List (List Nat)} (h : All2 P us ls) (hPQ : ∀ u l, P u l → Q u l) : All2 Q us ls := ⟨h.1, fun i hi => hPQ _ _ (h.2 i hi)⟩
theorem rs_of_row {w : World} {B n : Nat} {v : Value} {us : List Value} {ls : List (List Nat)} (h : w.ownsRow B 30 1 v n us) (h2 : All2 (BsAt w) us ls) (hn : ls.length ≤ 1000000) : RsAt w v ls := by
  have hl : us.length = n := by have := h.1; omega
  have hl2 := h2.1
  rcases h.2 with ⟨rfl, h0⟩ | ⟨g, cap, cur, rfl, hB, hr, hnc, hm, hs, ht⟩
  · have : ls = [] := List.eq_nil_of_length_eq_zero (by omega)
    subst this
    exact ⟨none, 0, 0, us, rfl, hl2, by simp, by simp, fun h => absurd rfl h⟩
  · refine ⟨_, g, cap, us, by rw [show ls.length = n by omega], hl2, hn, by omega, fun _ => ⟨rfl, (Array.getElem?_eq_some_iff.1 hr).1, fun i hi => ⟨?_, h2.2 i hi⟩⟩⟩
    rw [h.cellAt i (by omega), List.getD_eq_getElem?_getD, List.getElem?_eq_getElem (by omega)]
    rfl
theorem own_form {w : World} {b : Nat} {u : Value} {l : List Nat} (h : Own w b u l) : ∃ a k c, u = .slice a k c := by
  obtain ⟨a, c, e, _⟩ := h.at.len
  exact ⟨_, _, _, e⟩
theorem all2_form {w : World} {us : List Value} {ls : List (List Nat)} (h : All2 (Own w 0) us ls) : ∀ u ∈ us, ∃ a l c, u = .slice a l c := fun u hu => by
  obtain ⟨i, hi, rfl⟩ := List.getElem_of_mem hu
  have h1 := h.2 i (by have := h.1; omega)
  rw [List.getD_eq_getElem?_getD, List.getElem?_eq_getElem hi] at h1
  exact own_form h1
set_option maxRecDepth 100000 in
set_option maxHeartbeats 2000000 in
theorem Bytes_any {g : Nat} {bs : List (List Nat)} {w : World} {A : Nat → Prop} (h : MAtX w A g bs) (hn : bs.length ≤ 100000) (hl : bs.flatten.length ≤ 100000000) :
    Calls Try.prog 15 #[.pointer (some ⟨g, 0, none⟩)] w fun e w' => ∃ u, e = .returned u ∧ Own w' w.heap.size u bs.flatten ∧ Below w.heap.size w w' := by
  obtain ⟨F, hF⟩ : ∃ F, bs.flatten = F := ⟨_, rfl⟩
  rw [hF]
  obtain ⟨p, hr, hP⟩ := h
  obtain ⟨x, rfl⟩ := hP.form
  obtain ⟨x0, y0⟩ := row_reads hr
  have hcl := x0 0
  have hfr := y0 0
  simp only [List.getElem?_toArray, List.getElem?_cons_zero] at hcl
  have H0 := hide (And.intro hF (And.intro hP (And.intro hn hl)))
  clear hF hP hn hl x0 y0 hr
  go_enter Try.func15, Try.ntmps15
  go_wp2
  go_loopg [3, 4] bs.length (fun kk s3 s4 wr => ∃ (done rest : List (List Nat)) (us : List Value), rest.length = kk ∧ done ++ rest = bs.reverse ∧ PAt w A rest s4 ∧ wr.ownsRow w.heap.size 30 1 s3 done.length us ∧ All2 (Own w 0) us done ∧ Below w.heap.size w wr)
  case atStart => exact ⟨[], bs.reverse, [], by simp, rfl, H0.out.2.1, World.ownsRow_nil _ _ _ _, ⟨rfl, fun i hi => absurd hi (by simp)⟩, Below.refl _ _⟩
  case round =>
    obtain ⟨done, rest, us, hk, hdr, hP, hrow, hall, hB⟩ := hrel
    have hdl : done.length ≤ 100000 := by have h1 := congrArg List.length hdr; have h2 := H0.out.2.2.1; simp only [List.length_append, List.length_reverse] at h1; omega
    cases rest with
    | nil =>
      rw [show PAt w A [] _ = (_ = Value.pointer none) from rfl] at hP
      subst hP
      rw [List.append_nil] at hdr
      have hrv := rev_any hrow (by omega) (all2_form hall)
      have HC := hide hrv
      have HX := hide (And.intro hdr (And.intro hrow (And.intro hall (And.intro hB hdl))))
      clear hrv hdr hrow hall hB hk hdl
      go_wp2_with fail
      refine HC.out.mono ?_
      rintro e w1 ⟨rfl, hrow1, hg1⟩
      obtain ⟨hdr, hrow, hall, hB, hdl⟩ := HX.out
      have hB1 : Below w.heap.size w w1 := hB.grown hg1 hB.size (fun k hk => (hrow.lt k hk).1)
      have hA2 : All2 (BsAt w1) us.reverse bs := by
        have h3 := (hall.rev).mono (Q := BsAt w1) (fun u l hu => hu.at.ext hB1)
        rw [hdr, List.reverse_reverse] at h3
        exact h3
      have HC2 := hide (concat_any (rs_of_row hrow1 hA2 (by have := H0.out.2.2.1; omega)) H0.out.2.2.2)
      have HB1 := hide hB1
      rw [H0.out.1] at HC2
      clear hdr hrow hall hB hdl hrow1 hg1 hB1 hA2 HC HX
      go_wp2_with fail
      refine HC2.out.mono ?_
      rintro e w2 ⟨u2, rfl, o2, b2⟩
      have R := hide (And.intro (o2.low HB1.out.size) (Below.chain HB1.out b2))
      clear o2 b2 HC2
      go_wp2
      go_ret
      exact ⟨_, rfl, R.out.1, R.out.2⟩
    | cons b rs =>
      obtain ⟨q, pa, bv, hv, hq, hO, _, hP2⟩ := hP
      subst hv
      obtain ⟨xa, rfl⟩ := hP2.form
      obtain ⟨ba, bl, bc, rfl⟩ := own_form hO
      have hql : q < w.heap.size := (Array.getElem?_eq_some_iff.1 hq).1
      have hq2 := Below.heap hB hql hq
      obtain ⟨x0, y0⟩ := row_reads hq2
      have c0 := x0 0
      have c1 := x0 1
      simp only [List.getElem?_toArray, List.getElem?_cons_zero, List.getElem?_cons_succ] at c0 c1
      have HX := hide (And.intro hdr (And.intro hrow (And.intro hall (And.intro hB (And.intro hO (And.intro hP2 (And.intro hq (And.intro hdl hql))))))))
      clear hdr hrow hall hB hO hP2 hq hq2 x0 y0 hdl
      have B1 := hide (alloc_below wr (.cells #[.slice ba bl bc] 30))
      go_wp2_with (at_builtin; refine wpList_append_r appS rfl (.tmp 17) (.tmp 22) rfl (base := w.heap.size) (n := done.length) (xs := us) (row_ext HX.out.2.1 B1.out) (ad := ⟨wr.heap.size, 0, none⟩) (m := 1) (c := 1) (news := [.slice ba bl bc]) rfl rfl (fun j u hu => ?_) (fun u hu => ?_) (by have := HX.out.2.2.2.2.2.2.2.1; unfold maxLen; omega) (by have := HX.out.2.2.2.2.2.2.2.1; omega) (Nat.le_trans HX.out.2.2.2.1.size B1.out.size) ?_)
      · rw [Addr.add_mid, Nat.zero_add, cell_of_row _ _ _ _ _ _ (heap_alloc_last wr (.cells #[.slice ba bl bc] 30))]
        simpa using hu
      · simp at hu; subst hu; rfl
      · intro v2 w2 hrow2 hg2
        obtain ⟨hdr, hrow, hall, hB, hO, hP2, hq, hdl, hql⟩ := HX.out
        have hB2 : Below w.heap.size w w2 := (Below.chain hB B1.out).grown hg2 (Nat.le_trans hB.size B1.out.size) (fun k hk => (hrow.lt k hk).1)
        have hq2 := Below.heap hB2 hql hq
        have d0 := (row_reads hq2).1 0
        simp only [List.getElem?_toArray, List.getElem?_cons_zero] at d0
        have R := hide (And.intro hrow2 (And.intro (hall.push hO) (And.intro hB2 (And.intro hP2 (And.intro hdr hk)))))
        clear hdr hrow hall hB hO hP2 hq hdl hrow2 hg2 hB2 hq2 HX B1 c0 c1 hk
        go_wp2
        go_roundg (gk - 1)
        case measure => have := R.out.2.2.2.2.2; simp at this; omega
        case rel => exact ⟨done ++ [b], rs, us ++ [.slice ba bl bc], by have := R.out.2.2.2.2.2; simp at this; omega, by rw [List.append_assoc]; exact R.out.2.2.2.2.1, R.out.2.2.2.1, by rw [List.length_append]; exact R.out.1, R.out.2.1, R.out.2.2.1⟩
set_option maxRecDepth 100000 in
theorem Bytes_nil (w : World) : Calls Try.prog 15 #[.pointer none] w fun e w' => e = .returned (.slice none 0 0) ∧ w' = w := by
  go_enter Try.func15, Try.ntmps15
  go_wp2
  go_ret
  exact ⟨rfl, rfl⟩
theorem known_bytes : ([] ++ putI 1 300 : List (List Nat)).flatten = [8, 172, 2] := by decide +kernel
theorem known_str : (sob [8, 172, 2]).toList = [8, 172, 2] := by decide +kernel
set_option maxRecDepth 100000 in
set_option maxHeartbeats 1000000 in
/-- A field that every program must know. -/
theorem awake_any (w : World) : Calls Try.prog 10 #[] w fun e w' => e = .returned (.bool true) ∧ Below w.heap.size w w' := by
  have B0 := hide (alloc_below w (.cells #[.pointer none] 29))
  have HI := hide (Int_any (n := 300) (num := 1) (MAt.new (A := fun _ => True) w) (by decide))
  go_enter Try.func10, Try.ntmps10
  go_wp2_with fail
  refine HI.out.mono ?_
  rintro e w1 ⟨rfl, m1, g1⟩
  have hB1 : Below w.heap.size w w1 := B0.out.grown g1 (by simp) (fun k hk => by injection hk with hk; omega)
  have HC := hide (Bytes_any m1 (by decide +kernel) (by decide +kernel))
  rw [known_bytes] at HC
  have HB := hide hB1
  clear m1 g1 hB1 HI B0
  go_wp2_with fail
  refine HC.out.mono ?_
  rintro e w2 ⟨u2, rfl, o2, b2⟩
  have hs := run_sob o2.at
  have HB2 := hide (Below.chain HB.out b2)
  have hk := known_str
  obtain ⟨S, hS⟩ : ∃ S, sob [8, 172, 2] = S := ⟨_, rfl⟩
  rw [hS] at hs hk
  clear o2 b2 HC HB hS
  go_wp2_with fail
  refine (zig_w (-1) w2 (by decide) (by decide)).mono ?_
  rintro e w3 ⟨rfl, rfl⟩
  have hz1 : ((zig (-1) : Nat) : Int) = 1 := by decide
  rw [hz1]
  go_wp2_with fail
  refine (zag_w 2 w3 (by decide)).mono ?_
  rintro e w4 ⟨rfl, rfl⟩
  have hz2 : zag 2 = 1 := by decide
  rw [hz2]
  go_wp2
  go_ret
  exact ⟨rfl, HB2.out⟩
end Go.Proofs.Ytogegmdimfinaaa
