/- Steps placed: the program's call. -/
import Derived.Test.YtmjnedafcfolgaaRx4
namespace Go.Proofs.Ytmjnedafcfolgaa
open Go.RowKit
theorem row_set {w : World} {base e size g cap n : Nat} {xs : List Value} (h : w.ownsRow base e size (.slice (some ⟨g, 0, none⟩) n cap) n xs) (j : Nat) (u : Value) : (w.setCell ⟨g, j, none⟩ u).ownsRow base e size (.slice (some ⟨g, 0, none⟩) n cap) n (xs.set j u) := by
  obtain ⟨h1, h2⟩ := h
  refine ⟨by rw [List.length_set]; exact h1, .inr ?_⟩
  rcases h2 with ⟨h2, _⟩ | ⟨g', cap', cur, hv, hb, hr, hn, hm, hs, ht⟩
  · cases h2
  · injection hv with e1 e2 e3
    injection e1 with e1
    injection e1 with e1
    subst e1 e3
    refine ⟨g, cap, cur.set! j u, rfl, hb, ?_, hn, hm, by simpa using hs, ?_⟩
    · rw [heap_setCell_same _ _ _ _ _ _ hr]
      simp
    · rw [← ht]
      simp only [Array.set!_eq_setIfInBounds, Array.toList_setIfInBounds, List.take_set]
theorem ics_set5 (l : List In) : ∀ (j : Nat) (i : In) (x : Int), l[j]? = some i → (ics l).set (j * 7 + 5) (.int .i64 x) = ics (l.set j ⟨i.k, i.s, x, i.y⟩) := by
  induction l with
  | nil => intro j i x h; simp at h
  | cons a l ih =>
    intro j i x h
    have h7 : (ic a).length = 7 := rfl
    cases j with
    | zero =>
      simp at h; subst h
      rfl
    | succ j =>
      simp only [List.getElem?_cons_succ] at h
      simp only [ics, List.set_cons_succ]
      rw [List.set_append_right _ _ (by rw [h7]; omega), h7, show (j + 1) * 7 + 5 - 7 = j * 7 + 5 by omega, ih j i x h]
theorem ics_set6 (l : List In) : ∀ (j : Nat) (i : In) (y : Int), l[j]? = some i → (ics l).set (j * 7 + 6) (.int .i64 y) = ics (l.set j ⟨i.k, i.s, i.x, y⟩) := by
  induction l with
  | nil => intro j i x h; simp at h
  | cons a l ih =>
    intro j i x h
    have h7 : (ic a).length = 7 := rfl
    cases j with
    | zero =>
      simp at h; subst h
      rfl
    | succ j =>
      simp only [List.getElem?_cons_succ] at h
      simp only [ics, List.set_cons_succ]
      rw [List.set_append_right _ _ (by rw [h7]; omega), h7, show (j + 1) * 7 + 6 - 7 = j * 7 + 6 by omega, ih j i x h]
theorem Ro.set5 {w : World} {base g cap : Nat} {l : List In} (h : Ro w base (.slice (some ⟨g, 0, none⟩) l.length cap) l) {j : Nat} {i : In} (hj : l[j]? = some i) (x : Int) : Ro (w.setCell ⟨g, j * 7 + 5, none⟩ (.int .i64 x)) base (.slice (some ⟨g, 0, none⟩) l.length cap) (l.set j ⟨i.k, i.s, x, i.y⟩) := by
  have h1 := row_set h (j * 7 + 5) (.int .i64 x)
  unfold Ro
  rw [List.length_set, ← ics_set5 l j i x hj]
  exact h1
theorem Ro.set6 {w : World} {base g cap : Nat} {l : List In} (h : Ro w base (.slice (some ⟨g, 0, none⟩) l.length cap) l) {j : Nat} {i : In} (hj : l[j]? = some i) (y : Int) : Ro (w.setCell ⟨g, j * 7 + 6, none⟩ (.int .i64 y)) base (.slice (some ⟨g, 0, none⟩) l.length cap) (l.set j ⟨i.k, i.s, i.x, y⟩) := by
  have h1 := row_set h (j * 7 + 6) (.int .i64 y)
  unfold Ro
  rw [List.length_set, ← ics_set6 l j i y hj]
  exact h1
theorem Ro.reads {w : World} {base g cap n : Nat} {l : List In} (h : Ro w base (.slice (some ⟨g, 0, none⟩) n cap) l) : base ≤ g ∧ g < w.heap.size ∧ (∀ j, w.frozen? ⟨g, j, none⟩ = false) ∧ ∀ (j : Nat) (i : In), l[j]? = some i → w.cell? ⟨g, j * 7, none⟩ = some (.int .i64 i.k) ∧ w.cell? ⟨g, j * 7 + 5, none⟩ = some (.int .i64 i.x) ∧ w.cell? ⟨g, j * 7 + 6, none⟩ = some (.int .i64 i.y) := by
  have hc := h.at
  obtain ⟨h1, h2⟩ := h
  rcases h2 with ⟨h2, _⟩ | ⟨g', cap', cur, hv, hb, hr, hn, hm, hs, ht⟩
  · cases h2
  · injection hv with e1 e2 e3
    injection e1 with e1
    injection e1 with e1
    subst e1 e3
    refine ⟨hb, (Array.getElem?_eq_some_iff.1 hr).1, (row_reads hr).2, fun j i hj => ?_⟩
    have hlt := (List.getElem?_eq_some_iff.1 hj).1
    have hx : ∀ q, q < 7 → w.cell? ⟨g, j * 7 + q, none⟩ = (ic i)[q]? := fun q hq => by
      rw [cell_of_row _ _ _ _ _ _ hr, ← ics_at l j q i hj hq, ← ht, List.getElem?_take, if_pos (by omega)]
      simp
    exact ⟨hx 0 (by omega), hx 5 (by omega), hx 6 (by omega)⟩
/-- So many steps placed. -/
def Pl (l m : List In) (k : Nat) : Prop := m.length = l.length ∧ ∀ j, m[j]? = if j < k then l[j]?.map (plI j) else l[j]?
theorem Pl.zero (l : List In) : Pl l l 0 := ⟨rfl, fun j => by simp⟩
theorem Pl.step {l m : List In} {k : Nat} {i : In} (h : Pl l m k) (hi : l[k]? = some i) : Pl l (m.set k (plI k i)) (k + 1) := by
  refine ⟨by rw [List.length_set]; exact h.1, fun j => ?_⟩
  have hlt := (List.getElem?_eq_some_iff.1 hi).1
  rw [List.getElem?_set]
  by_cases hj : k = j
  · subst hj
    rw [if_pos rfl, if_pos (by rw [h.1]; exact hlt), if_pos (by omega), hi]
    rfl
  · rw [if_neg hj, h.2 j]
    by_cases h2 : j < k
    · rw [if_pos h2, if_pos (by omega)]
    · rw [if_neg h2, if_neg (by omega)]
theorem Pl.same {l m : List In} {k : Nat} {i : In} (h : Pl l m k) (hi : l[k]? = some i) (hp : plI k i = i) : Pl l m (k + 1) := by
  refine ⟨h.1, fun j => ?_⟩
  rw [h.2 j]
  by_cases hj : j = k
  · subst hj
    rw [if_neg (by omega), if_pos (by omega), hi, Option.map_some, hp]
  · by_cases h2 : j < k
    · rw [if_pos h2, if_pos (by omega)]
    · rw [if_neg h2, if_neg (by omega)]
theorem Pl.all {l m : List In} (h : Pl l m l.length) : m = plF 0 l := by
  apply List.ext_getElem?
  intro j
  rw [plF_at, h.2 j, Nat.zero_add]
  by_cases h2 : j < l.length
  · rw [if_pos h2]
  · rw [if_neg h2, List.getElem?_eq_none (by omega)]; rfl
theorem Pl.at {l m : List In} {k : Nat} (h : Pl l m k) (hk : k < l.length) : ∃ i, l[k]? = some i ∧ m[k]? = some i := by
  refine ⟨l[k], List.getElem?_eq_getElem hk, ?_⟩
  rw [h.2 k, if_neg (by omega), List.getElem?_eq_getElem hk]
set_option maxRecDepth 100000 in
set_option maxHeartbeats 2000000 in
theorem place_any {w : World} {base : Nat} {v : Value} {l : List In} (h : Ro w base v l) (hne : l ≠ []) (hl : l.length ≤ 1000) : Calls Try.prog 20 #[v] w fun e w' => e = .returned v ∧ Ro w' base v (plF 0 l) ∧ Below base w w' := by
  obtain ⟨g, cap, rfl⟩ : ∃ g cap, v = .slice (some ⟨g, 0, none⟩) l.length cap := by
    rcases h.2 with ⟨_, h2⟩ | ⟨g, cap, _, hv, _⟩
    · exact absurd (List.eq_nil_of_length_eq_zero h2) hne
    · exact ⟨g, cap, hv⟩
  have hc : l.length ≤ cap := by
    obtain ⟨_, _, h3, h4, _⟩ := h.at.len
    injection h3 with _ _ h3
    omega
  have H0 := hide h
  clear h hne
  obtain ⟨n, en⟩ : ∃ n, l.length = n := ⟨_, rfl⟩
  rw [en] at hl hc H0 ⊢
  have HE := hide en
  clear en
  go_enter Try.func20, Try.ntmps20
  go_wp2
  go_loopw [6] (fun s6 wr => ∃ (k : Nat) (m : List In), k ≤ n ∧ s6 = .int .i64 (k : Int) ∧ Hid (Pl l m k) ∧ Ro wr base (.slice (some ⟨g, 0, none⟩) n cap) m ∧ Below base w wr) (fun i _ => n - (intOf i).toNat)
  case atStart => exact ⟨0, l, Nat.zero_le _, rfl, Pl.zero l, H0.out, Below.refl _ _⟩
  case round =>
    obtain ⟨k, m, hk, rfl, HP, hR, hB⟩ := hrel
    have HR := hide hR
    have HB := hide hB
    have HM := hide (show m.length = n from HP.out.1.trans HE.out)
    clear hR hB
    by_cases hlt : k < n
    · obtain ⟨i, hi1, hi2⟩ := HP.out.at (by rw [HE.out]; exact hlt)
      have HI := hide (And.intro hi1 hi2)
      clear hi1 hi2
      have hd : decide ((k : Int) < (n : Int)) = true := decide_eq_true (by omega)
      obtain ⟨gb, gl, gf, gr⟩ := HR.out.reads
      obtain ⟨r0, r5, r6⟩ := gr k _ HI.out.2
      have f5 := gf (k * 7 + 5)
      have f6 := gf (k * 7 + 6)
      clear gf gr
      by_cases h2 : i.k = 2
      · have e2 : (i.k == (2 : Int)) = true := beq_iff_eq.2 h2
        have HS : Hid (Ro ((wr.setCell ⟨g, k * 7 + 5, none⟩ (.int .i64 (wrap64 (i.x + (k : Int))))).setCell ⟨g, k * 7 + 6, none⟩ (.int .i64 (wrap64 (i.y + (k : Int))))) base (.slice (some ⟨g, 0, none⟩) n cap) (m.set k (plI k i)) ∧ Below base w ((wr.setCell ⟨g, k * 7 + 5, none⟩ (.int .i64 (wrap64 (i.x + (k : Int))))).setCell ⟨g, k * 7 + 6, none⟩ (.int .i64 (wrap64 (i.y + (k : Int)))))) := by
          have q1 := HR.out
          rw [← HM.out] at q1
          have q2 := q1.set5 HI.out.2 (wrap64 (i.x + (k : Int)))
          have hlk : k < m.length := by rw [HM.out]; exact hlt
          have hlen : m.length = (m.set k ⟨i.k, i.s, wrap64 (i.x + (k : Int)), i.y⟩).length := by rw [List.length_set]
          rw [hlen] at q2
          have q3 := q2.set6 (j := k) (i := ⟨i.k, i.s, wrap64 (i.x + (k : Int)), i.y⟩) (by rw [List.getElem?_set_self hlk]) (wrap64 (i.y + (k : Int)))
          rw [List.set_set, List.length_set, HM.out] at q3
          refine ⟨?_, (HB.out.setCell gb _).setCell gb _⟩
          rw [show plI k i = ⟨i.k, i.s, wrap64 (i.x + (k : Int)), wrap64 (i.y + (k : Int))⟩ by unfold plI; rw [if_pos h2]]
          exact q3
        go_wp2
        go_roundw
        case rel => exact ⟨k + 1, _, by omega, by go_num, HP.out.step HI.out.1, HS.out.1, HS.out.2⟩
        case measure => simp [intOf]; omega
      · have e2 : (i.k == (2 : Int)) = false := beq_eq_false_iff_ne.2 h2
        by_cases h3 : i.k = 3
        · have e3 : (i.k == (3 : Int)) = true := beq_iff_eq.2 h3
          have HS : Hid (Ro (wr.setCell ⟨g, k * 7 + 5, none⟩ (.int .i64 (wrap64 (i.x + (k : Int))))) base (.slice (some ⟨g, 0, none⟩) n cap) (m.set k (plI k i)) ∧ Below base w (wr.setCell ⟨g, k * 7 + 5, none⟩ (.int .i64 (wrap64 (i.x + (k : Int)))))) := by
            have q1 := HR.out
            rw [← HM.out] at q1
            have q2 := q1.set5 HI.out.2 (wrap64 (i.x + (k : Int)))
            rw [HM.out] at q2
            refine ⟨?_, HB.out.setCell gb _⟩
            rw [show plI k i = ⟨i.k, i.s, wrap64 (i.x + (k : Int)), i.y⟩ by unfold plI; rw [if_neg h2, if_pos h3]]
            exact q2
          go_wp2
          go_roundw
          case rel => exact ⟨k + 1, _, by omega, by go_num, HP.out.step HI.out.1, HS.out.1, HS.out.2⟩
          case measure => simp [intOf]; omega
        · have e3 : (i.k == (3 : Int)) = false := beq_eq_false_iff_ne.2 h3
          have HS := hide (HP.out.same HI.out.1 (show plI k i = i by unfold plI; rw [if_neg h2, if_neg h3]))
          go_wp2
          go_roundw
          case rel => exact ⟨k + 1, m, by omega, by go_num, HS, HR.out, HB.out⟩
          case measure => simp [intOf]; omega
    · obtain rfl : k = n := by omega
      have HF := hide (show Ro wr base (.slice (some ⟨g, 0, none⟩) k cap) (plF 0 l) by
        obtain rfl : m = plF 0 l := Pl.all (by rw [HE.out]; exact HP.out)
        exact HR.out)
      go_wp2
      go_ret
      exact ⟨rfl, HF.out, HB.out⟩

end Go.Proofs.Ytmjnedafcfolgaa
