/- A class: the program's call. -/
import Derived.Test.YtmjnedafcfolgaaRx7
namespace Go.Proofs.Ytmjnedafcfolgaa
open Go.RowKit
theorem PAt.bytes {w : World} {g : Nat} {s : ByteArray} {r : List Nat} {d : Nat} (h : PAt w g s r d) : ∀ c ∈ r, c < 256 := by
  obtain ⟨i, _, hb, _⟩ := h
  intro c hc
  exact bl_lt s c (List.mem_of_mem_drop (hb ▸ hc))
theorem mem_lt {r t : List Nat} {c : Nat} (hr : ∀ c ∈ r, c < 256) (h : memberS r = some (c, t)) : c < 256 ∧ ∀ c ∈ t, c < 256 := by
  unfold memberS at h
  split at h
  · cases h
  · split at h
    · cases h
    · split at h
      · split at h
        · cases h
        · injection h with h; injection h with h1 h2; subst h1 h2
          exact ⟨hr _ (by simp), fun c hc => hr c (by simp [hc])⟩
      · injection h with h; injection h with h1 h2; subst h1 h2
        exact ⟨hr _ (by simp), fun c hc => hr c (by simp [hc])⟩
theorem span_lt {r t : List Nat} {lo hi : Nat} (hr : ∀ c ∈ r, c < 256) (h : spanS r = some (lo, hi, t)) : lo < 256 ∧ hi < 256 := by
  unfold spanS at h
  split at h
  · cases h
  · rename_i lo' t' hm
    have h1 := mem_lt hr hm
    split at h
    · split at h
      · cases h
      · rename_i hi' u hm2
        have h2 := mem_lt (fun c hc => h1.2 c (List.mem_of_mem_tail hc)) hm2
        split at h
        · injection h with h; injection h with e1 h; injection h with e2 h; subst e1 e2; exact ⟨h1.1, h2.1⟩
        · cases h
    · injection h with h; injection h with e1 h; injection h with e2 h; subst e1 e2; exact ⟨h1.1, h1.1⟩
/-- What becomes of a class's bytes. -/
def fin (neg : Bool) (R : Rd (Nat → Nat)) : Rd (List In) := match R with | .bad e => .bad e | .ok s t => .ok [charI (if neg then othS s else s)] t
theorem cls_none {k : Nat} {u : Nat → Nat} {r : List Nat} (h : spanS r = none) : clsF (k + 1) u r = .bad 3 := by
  unfold clsF; rw [h]
theorem cls_end {k : Nat} {u : Nat → Nat} {r t : List Nat} {lo hi : Nat} (h : spanS r = some (lo, hi, 93 :: t)) : clsF (k + 1) u r = .ok (addS u lo hi) t := by
  unfold clsF; rw [h]; rfl
theorem cls_on {k : Nat} {u : Nat → Nat} {r t : List Nat} {lo hi : Nat} (h : spanS r = some (lo, hi, t)) (h2 : t.head? ≠ some 93) : clsF (k + 1) u r = clsF k (addS u lo hi) t := by
  rw [clsF, h]; simp only []; rw [if_neg h2]
/-- What stands while a class is read. -/
def CR (W w : World) (g : Nat) (s : ByteArray) (d : Nat) (R : Rd (Nat → Nat)) (k : Nat) (b : Bool) (u : Nat → Nat) (r : List Nat) : Prop :=
  SAt w W.heap.size u ∧ PAt w g s r d ∧ W.grownBy w (some g) ∧ (b = true → r.length < k ∧ clsF k u r = R) ∧ (b = false → R = .ok u r)
set_option maxRecDepth 100000 in
set_option maxHeartbeats 2000000 in
theorem class_pos {w : World} {g : Nat} {s : ByteArray} {t : List Nat} {d : Nat} (h : PAt w g s (t) d) (hp : t.head? ≠ some 94) : Calls Try.prog 35 #[.pointer (some ⟨g, 0, none⟩)] w (Ans w g s d (fin false (clsF (t.length + 1) zs t))) := by
  have hg := h.lt
  have HZ := hide (zs_new w)
  have HP := hide (h.ext (alloc_below w (.cells #[.int .u64 0, .int .u64 0, .int .u64 0, .int .u64 0] 65)))
  have HB := hide (grown_alloc w (some g) (.cells #[.int .u64 0, .int .u64 0, .int .u64 0, .int .u64 0] 65))
  obtain ⟨R, hR⟩ : ∃ R, clsF (t.length + 1) zs t = R := ⟨_, rfl⟩
  rw [hR]
  have HR := hide hR
  clear h hR
  go_enter Try.func35, Try.ntmps35
  go_wp2_with fail
  refine (take_no HP.out hp).mono ?_
  rintro e_ w1 ⟨rfl, h1, g1⟩
  have H1 : Hid (CR w w1 g s d R (t.length + 1) true zs t) := hide ⟨HZ.out.gr g1 (by omega), h1, grown_trans HB.out g1, fun _ => ⟨by omega, HR.out⟩, fun e => by cases e⟩
  clear h1 g1 HZ HP HB HR hp
  go_wp2
  go_loopg [6] (t.length + 1) (fun k s6 wr => ∃ (b : Bool) (u : Nat → Nat) (r : List Nat), s6 = .bool b ∧ Hid (CR w wr g s d R k b u r))
  case atStart => exact ⟨true, zs, t, rfl, H1⟩
  case round =>
    obtain ⟨b, u, r, rfl, HX⟩ := hrel
    cases b with
    | true =>
      obtain ⟨k', hk'⟩ : ∃ k', gk = k' + 1 := ⟨gk - 1, by have := (HX.out.2.2.2.1 rfl).1; omega⟩
      have HK := hide hk'
      have HC : Hid (r.length < k' + 1 ∧ clsF (k' + 1) u r = R) := by have h9 := HX.out.2.2.2.1 rfl; rw [hk'] at h9; exact h9
      clear hk'
      cases hs : spanS r with
      | none =>
        obtain rfl : R = .bad 3 := by rw [← HC.out.2]; exact cls_none hs
        have HS := hide hs
        clear hs
        go_wp2_with fail
        refine (span_none HX.out.2.1 HS.out).mono ?_
        rintro e_ w2 ⟨x, y, rfl, g2⟩
        have HE := hide (grown_trans HX.out.2.2.1 g2)
        clear g2
        go_wp2
        go_ret2
        exact ⟨⟨rfl, .inl rfl⟩, HE.out⟩
      | some p =>
        obtain ⟨lo, hi, v⟩ := p
        have hlt := span_lt HX.out.2.1.bytes hs
        have hvl := span_len hs
        have HS := hide (And.intro hs (And.intro hlt hvl))
        clear hs hlt hvl
        go_wp2_with fail
        refine (span_some HX.out.2.1 HS.out.1).mono ?_
        rintro e_ w2 ⟨rfl, h2, g2⟩
        have H2 := hide (And.intro (HX.out.1.gr g2 (by omega)) (And.intro h2 (grown_trans HX.out.2.2.1 g2)))
        clear h2 g2
        go_wp2_with fail
        refine (add_any H2.out.1 HS.out.2.1.1 HS.out.2.1.2).mono ?_
        rintro e_ w3 ⟨rfl, h3, g3⟩
        have H3 := hide (And.intro h3 (And.intro (H2.out.2.1.gr g3 (fun k hk => by injection hk with hk; omega)) (gr_trans H2.out.2.2 g3 (fun k hk => .inr (by injection hk with hk; omega)))))
        clear h3 g3
        by_cases hv : v.head? = some 93
        · obtain ⟨v', rfl⟩ : ∃ v', v = 93 :: v' := by
            cases v with
            | nil => cases hv
            | cons a v => simp at hv; exact ⟨v, by rw [hv]⟩
          clear hv
          go_wp2_with fail
          refine (take_yes H3.out.2.1).mono ?_
          rintro e_ w4 ⟨rfl, h4, g4⟩
          have H4 : Hid (CR w w4 g s d R k' false (addS u lo hi) v') := hide ⟨H3.out.1.gr g4 (by omega), h4, grown_trans H3.out.2.2 g4, fun e => (by cases e), fun _ => by rw [← HC.out.2]; exact cls_end HS.out.1⟩
          clear h4 g4
          go_wp2
          go_roundg k'
          case measure => have := HK.out; omega
          case rel => exact ⟨false, _, _, rfl, H4⟩
        · have HV := hide hv
          clear hv
          go_wp2_with fail
          refine (take_no H3.out.2.1 HV.out).mono ?_
          rintro e_ w4 ⟨rfl, h4, g4⟩
          have H4 : Hid (CR w w4 g s d R k' true (addS u lo hi) v) := hide ⟨H3.out.1.gr g4 (by omega), h4, grown_trans H3.out.2.2 g4, fun _ => ⟨by have h8 := HS.out.2.2; have h9 := HC.out.1; omega, by rw [← HC.out.2, cls_on HS.out.1 HV.out]⟩, fun e => by cases e⟩
          clear h4 g4
          go_wp2
          go_roundg k'
          case measure => have := HK.out; omega
          case rel => exact ⟨true, _, _, rfl, H4⟩

    | false =>
      obtain rfl : R = .ok u r := HX.out.2.2.2.2 rfl
      have HY := hide (And.intro HX.out.1 (And.intro HX.out.2.1 HX.out.2.2.1))
      clear HX
      go_wp2_with (refine wpList_load_set rfl (.tmp 4) rfl rfl HY.out.1 ?_)
      refine (char_any u).mono ?_
      rintro e_ w2 ⟨v, rfl, h2, b2⟩
      have H2 := hide (And.intro h2 (And.intro (HY.out.2.1.ext b2) (grown_trans HY.out.2.2 (Ext.gr b2 _))))
      clear h2 b2
      go_wp2
      go_ret2
      exact ⟨⟨_, rfl, H2.out.1, H2.out.2.1⟩, H2.out.2.2⟩

set_option maxRecDepth 100000 in
set_option maxHeartbeats 2000000 in
theorem class_neg {w : World} {g : Nat} {s : ByteArray} {t : List Nat} {d : Nat} (h : PAt w g s (94 :: t) d) : Calls Try.prog 35 #[.pointer (some ⟨g, 0, none⟩)] w (Ans w g s d (fin true (clsF (t.length + 1) zs t))) := by
  have hg := h.lt
  have HZ := hide (zs_new w)
  have HP := hide (h.ext (alloc_below w (.cells #[.int .u64 0, .int .u64 0, .int .u64 0, .int .u64 0] 65)))
  have HB := hide (grown_alloc w (some g) (.cells #[.int .u64 0, .int .u64 0, .int .u64 0, .int .u64 0] 65))
  obtain ⟨R, hR⟩ : ∃ R, clsF (t.length + 1) zs t = R := ⟨_, rfl⟩
  rw [hR]
  have HR := hide hR
  clear h hR
  go_enter Try.func35, Try.ntmps35
  go_wp2_with fail
  refine (take_yes HP.out).mono ?_
  rintro e_ w1 ⟨rfl, h1, g1⟩
  have H1 : Hid (CR w w1 g s d R (t.length + 1) true zs t) := hide ⟨HZ.out.gr g1 (by omega), h1, grown_trans HB.out g1, fun _ => ⟨by omega, HR.out⟩, fun e => by cases e⟩
  clear h1 g1 HZ HP HB HR
  go_wp2
  go_loopg [6] (t.length + 1) (fun k s6 wr => ∃ (b : Bool) (u : Nat → Nat) (r : List Nat), s6 = .bool b ∧ Hid (CR w wr g s d R k b u r))
  case atStart => exact ⟨true, zs, t, rfl, H1⟩
  case round =>
    obtain ⟨b, u, r, rfl, HX⟩ := hrel
    cases b with
    | true =>
      obtain ⟨k', hk'⟩ : ∃ k', gk = k' + 1 := ⟨gk - 1, by have := (HX.out.2.2.2.1 rfl).1; omega⟩
      have HK := hide hk'
      have HC : Hid (r.length < k' + 1 ∧ clsF (k' + 1) u r = R) := by have h9 := HX.out.2.2.2.1 rfl; rw [hk'] at h9; exact h9
      clear hk'
      cases hs : spanS r with
      | none =>
        obtain rfl : R = .bad 3 := by rw [← HC.out.2]; exact cls_none hs
        have HS := hide hs
        clear hs
        go_wp2_with fail
        refine (span_none HX.out.2.1 HS.out).mono ?_
        rintro e_ w2 ⟨x, y, rfl, g2⟩
        have HE := hide (grown_trans HX.out.2.2.1 g2)
        clear g2
        go_wp2
        go_ret2
        exact ⟨⟨rfl, .inl rfl⟩, HE.out⟩
      | some p =>
        obtain ⟨lo, hi, v⟩ := p
        have hlt := span_lt HX.out.2.1.bytes hs
        have hvl := span_len hs
        have HS := hide (And.intro hs (And.intro hlt hvl))
        clear hs hlt hvl
        go_wp2_with fail
        refine (span_some HX.out.2.1 HS.out.1).mono ?_
        rintro e_ w2 ⟨rfl, h2, g2⟩
        have H2 := hide (And.intro (HX.out.1.gr g2 (by omega)) (And.intro h2 (grown_trans HX.out.2.2.1 g2)))
        clear h2 g2
        go_wp2_with fail
        refine (add_any H2.out.1 HS.out.2.1.1 HS.out.2.1.2).mono ?_
        rintro e_ w3 ⟨rfl, h3, g3⟩
        have H3 := hide (And.intro h3 (And.intro (H2.out.2.1.gr g3 (fun k hk => by injection hk with hk; omega)) (gr_trans H2.out.2.2 g3 (fun k hk => .inr (by injection hk with hk; omega)))))
        clear h3 g3
        by_cases hv : v.head? = some 93
        · obtain ⟨v', rfl⟩ : ∃ v', v = 93 :: v' := by
            cases v with
            | nil => cases hv
            | cons a v => simp at hv; exact ⟨v, by rw [hv]⟩
          clear hv
          go_wp2_with fail
          refine (take_yes H3.out.2.1).mono ?_
          rintro e_ w4 ⟨rfl, h4, g4⟩
          have H4 : Hid (CR w w4 g s d R k' false (addS u lo hi) v') := hide ⟨H3.out.1.gr g4 (by omega), h4, grown_trans H3.out.2.2 g4, fun e => (by cases e), fun _ => by rw [← HC.out.2]; exact cls_end HS.out.1⟩
          clear h4 g4
          go_wp2
          go_roundg k'
          case measure => have := HK.out; omega
          case rel => exact ⟨false, _, _, rfl, H4⟩
        · have HV := hide hv
          clear hv
          go_wp2_with fail
          refine (take_no H3.out.2.1 HV.out).mono ?_
          rintro e_ w4 ⟨rfl, h4, g4⟩
          have H4 : Hid (CR w w4 g s d R k' true (addS u lo hi) v) := hide ⟨H3.out.1.gr g4 (by omega), h4, grown_trans H3.out.2.2 g4, fun _ => ⟨by have h8 := HS.out.2.2; have h9 := HC.out.1; omega, by rw [← HC.out.2, cls_on HS.out.1 HV.out]⟩, fun e => by cases e⟩
          clear h4 g4
          go_wp2
          go_roundg k'
          case measure => have := HK.out; omega
          case rel => exact ⟨true, _, _, rfl, H4⟩

    | false =>
      obtain rfl : R = .ok u r := HX.out.2.2.2.2 rfl
      have HY := hide (And.intro HX.out.1 (And.intro HX.out.2.1 HX.out.2.2.1))
      clear HX
      go_wp2_with (refine wpList_load_set rfl (.tmp 4) rfl rfl HY.out.1 ?_)
      refine (others_any u HY.out.1.1).mono ?_
      rintro e_ w2 ⟨rfl, b2⟩
      have H2 := hide (And.intro (HY.out.1.ext b2) (And.intro (HY.out.2.1.ext b2) (grown_trans HY.out.2.2 (Ext.gr b2 _))))
      clear b2
      go_wp2_with (refine wpList_store_set rfl (.tmp 4) (.tmp 29) rfl rfl rfl H2.out.1 (oth_lt u) ?_)
      intro w3 h3 g3
      have H3 := hide (And.intro h3 (And.intro (H2.out.2.1.gr g3 (fun k hk => by injection hk with hk; omega)) (gr_trans H2.out.2.2 g3 (fun k hk => .inr (by injection hk with hk; omega)))))
      clear h3 g3
      go_wp2_with (refine wpList_load_set rfl (.tmp 4) rfl rfl H3.out.1 ?_)
      refine (char_any (othS u)).mono ?_
      rintro e_ w4 ⟨v, rfl, h4, b4⟩
      have H4 := hide (And.intro h4 (And.intro (H3.out.2.1.ext b4) (grown_trans H3.out.2.2 (Ext.gr b4 _))))
      clear h4 b4
      go_wp2
      go_ret2
      exact ⟨⟨_, rfl, H4.out.1, H4.out.2.1⟩, H4.out.2.2⟩

set_option maxRecDepth 100000 in
theorem class_any {w : World} {g : Nat} {s : ByteArray} {t : List Nat} {d : Nat} (h : PAt w g s t d) : Calls Try.prog 35 #[.pointer (some ⟨g, 0, none⟩)] w (Ans w g s d (classS t)) := by
  by_cases hp : t.head? = some 94
  · obtain ⟨u, rfl⟩ : ∃ u, t = 94 :: u := by
      cases t with
      | nil => cases hp
      | cons a v => simp at hp; exact ⟨v, by rw [hp]⟩
    rw [show classS (94 :: u) = fin true (clsF (u.length + 1) zs u) by unfold classS fin; rw [if_pos hp, List.tail_cons]; cases clsF (u.length + 1) zs u <;> rfl]
    exact class_neg h
  · rw [show classS t = fin false (clsF (t.length + 1) zs t) by unfold classS fin; rw [if_neg hp]; cases clsF (t.length + 1) zs t <;> rfl]
    exact class_pos h hp

end Go.Proofs.Ytmjnedafcfolgaa
