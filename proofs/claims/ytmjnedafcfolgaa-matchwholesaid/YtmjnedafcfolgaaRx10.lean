/- A row of pieces: the program's call. -/
import Derived.Test.YtmjnedafcfolgaaRx9
namespace Go.Proofs.Ytmjnedafcfolgaa
open Go.RowKit
/-- What was read ahead, and what is read behind it. -/
def rpre (A : List In) : Rd (List In) → Rd (List In)
  | .ok b v => .ok (A ++ b) v
  | .bad e => .bad e
theorem row_nil {pat : Nat → List Nat → Rd (List In)} {d k : Nat} : rowF pat d (k + 1) [] = .ok [] [] := rfl
theorem row_stop {pat : Nat → List Nat → Rd (List In)} {d k c : Nat} {t : List Nat} (h : c = 124 ∨ c = 41) : rowF pat d (k + 1) (c :: t) = .ok [] (c :: t) := by rw [rowF]; rw [if_pos h]
theorem row_bad {pat : Nat → List Nat → Rd (List In)} {d k c e : Nat} {t : List Nat} (h : ¬ (c = 124 ∨ c = 41)) (ha : atomF pat d c t = .bad e) : rowF pat d (k + 1) (c :: t) = .bad e := by rw [rowF]; rw [if_neg h, ha]
theorem row_on {pat : Nat → List Nat → Rd (List In)} {d k c : Nat} {t u : List Nat} {a : List In} (h : ¬ (c = 124 ∨ c = 41)) (ha : atomF pat d c t = .ok a u) (A : List In) : rpre A (rowF pat d (k + 1) (c :: t)) = rpre (A ++ repA a u) (rowF pat d k (repR u)) := by
  rw [rowF, if_neg h, ha]
  simp only []
  cases rowF pat d k (repR u) <;> simp [rpre, List.append_assoc]
/-- What stands while a row is read. -/
def RR (pat : Nat → List Nat → Rd (List In)) (W w : World) (g : Nat) (s : ByteArray) (d n : Nat) (R : Rd (List In)) (k : Nat) (v : Value) (A : List In) (r : List Nat) : Prop :=
  Ro w W.heap.size v A ∧ PAt w g s r d ∧ W.grownBy w (some g) ∧ (r.length < k ∧ rpre A (rowF pat d k r) = R) ∧ A.length + 3 * r.length ≤ n
theorem PAt.pre {w : World} {g : Nat} {s : ByteArray} {c : Nat} {t : List Nat} {d : Nat} (h : PAt w g s (c :: t) d) : (∃ p, bl s = p ++ c :: t) ∧ c < 256 := by
  obtain ⟨i, _, hb, _⟩ := h
  have h1 : bl s = (bl s).take i ++ c :: t := by rw [← hb]; exact (List.take_append_drop i _).symm
  exact ⟨⟨_, h1⟩, bl_lt s c (by rw [h1]; simp)⟩
theorem PAt.short {w : World} {g : Nat} {s : ByteArray} {t : List Nat} {d : Nat} (h : PAt w g s t d) : t.length ≤ 256 := by
  obtain ⟨i, hi, _⟩ := h
  omega
set_option maxRecDepth 100000 in
set_option maxHeartbeats 2000000 in
theorem prow_any {pat : Nat → List Nat → Rd (List In)} {w : World} {g : Nat} {s : ByteArray} {t : List Nat} {d : Nat} (hP : d < 20 → PatC pat (d + 1)) (hq : Short pat) (h : PAt w g s t d) : Calls Try.prog 25 #[.pointer (some ⟨g, 0, none⟩)] w (Ans w g s d (rowF pat d (t.length + 1) t)) := by
  have hg := h.lt
  have hsh := h.short
  obtain ⟨R, hR⟩ : ∃ R, rowF pat d (t.length + 1) t = R := ⟨_, rfl⟩
  rw [hR]
  obtain ⟨n, hn⟩ : ∃ n, 3 * t.length = n := ⟨_, rfl⟩
  have hn2 : n ≤ 768 := by omega
  have H1 : Hid (RR pat w w g s d n R (t.length + 1) (.slice none 0 0) [] t) := hide ⟨Ro.nil _ _, h, grown_refl _ _, ⟨by omega, by rw [← hR]; cases rowF pat d (t.length + 1) t <;> rfl⟩, by rw [← hn]; simp⟩
  have HP := hide (And.intro hP hq)
  clear h hR hsh hn hP hq
  go_enter Try.func25, Try.ntmps25
  go_wp2
  go_loopg [4] (t.length + 1) (fun k s4 wr => ∃ (A : List In) (r : List Nat), Hid (RR pat w wr g s d n R k s4 A r))
  case atStart => exact ⟨[], t, H1⟩
  case round =>
    clear H1
    obtain ⟨A, r, HX⟩ := hrel
    obtain ⟨k, hk⟩ : ∃ k, gk = k + 1 := ⟨gk - 1, by have := HX.out.2.2.2.1.1; omega⟩
    have HK := hide hk
    have HC : Hid (r.length < k + 1 ∧ rpre A (rowF pat d (k + 1) r) = R) := by have h9 := HX.out.2.2.2.1; rw [hk] at h9; exact h9
    clear hk
    cases r with
    | nil =>
      obtain rfl : R = .ok A [] := by rw [← HC.out.2, row_nil]; simp [rpre]
      go_wp2_with fail
      refine (next_nil HX.out.2.1).mono ?_
      rintro e_ w1 ⟨rfl, h1, g1⟩
      have H1 := hide (And.intro (HX.out.1.gr g1 hg) (And.intro h1 (grown_trans HX.out.2.2.1 g1)))
      clear h1 g1
      go_wp2
      go_ret2
      exact ⟨⟨_, rfl, H1.out.1.at, H1.out.2.1⟩, H1.out.2.2⟩
    | cons c t1 =>
      by_cases hc : c = 124 ∨ c = 41
      · obtain rfl : R = .ok A (c :: t1) := by rw [← HC.out.2, row_stop hc]; simp [rpre]
        go_wp2_with fail
        refine (next_cons HX.out.2.1).mono ?_
        rintro e_ w1 ⟨rfl, h1, g1⟩
        have H1 := hide (And.intro (HX.out.1.gr g1 hg) (And.intro h1 (grown_trans HX.out.2.2.1 g1)))
        clear h1 g1 HC HX
        rcases hc with rfl | rfl
        · go_wp2
          go_ret2
          exact ⟨⟨_, rfl, H1.out.1.at, H1.out.2.1⟩, H1.out.2.2⟩
        · go_wp2
          go_ret2
          exact ⟨⟨_, rfl, H1.out.1.at, H1.out.2.1⟩, H1.out.2.2⟩
      · have e1 : ((c : Int) == 124) = false := beq_eq_false_iff_ne.2 (by omega)
        have e2 : ((c : Int) == 41) = false := beq_eq_false_iff_ne.2 (by omega)
        obtain ⟨fn, hcf, ha1, ha2⟩ := atom_any (pat := pat) (g := g) (d := d) HP.out.1 HX.out.2.1.pre.1
        have HF := hide (And.intro ha1 ha2)
        have HNC := hide hc
        clear hc ha1 ha2
        go_wp2_with fail
        refine (next_cons HX.out.2.1).mono ?_
        rintro e_ w1 ⟨rfl, h1, g1⟩
        have H1 := hide (And.intro (HX.out.1.gr g1 hg) (And.intro h1 (grown_trans HX.out.2.2.1 g1)))
        clear h1 g1
        obtain ⟨i, ib, dm, c0, c1, c2, f1, f2, SA, SD⟩ := PAt.cells H1.out.2.1
        have H2 := hide (And.intro (H1.out.1.gr (grown_set w1 g 1 (.int .i64 ((i : Int) + 1))) hg) (And.intro (SA.out _ _ rfl) (grown_trans H1.out.2.2 (grown_set w1 g 1 (.int .i64 ((i : Int) + 1))))))
        clear SA SD
        go_wp2_with fail
        refine (HF.out.1 _).mono ?_
        rintro e_ w_ ⟨rfl, hw_⟩
        replace hw_ := hw_.symm
        subst hw_
        go_wp2_with fail
        have HA := HF.out.2 _ H2.out.2.1
        cases hR : atomF pat d c t1 with
        | bad e =>
          rw [hR] at HA
          obtain rfl : R = .bad e := by rw [← HC.out.2, row_bad HNC.out hR]; rfl
          refine HA.mono ?_
          rintro e_ w3 ⟨⟨rfl, he3⟩, g3⟩
          have hne := err_ne he3
          have HE := hide (And.intro he3 (grown_trans H2.out.2.2 g3))
          clear he3 g3 hR HA
          go_wp2
          go_ret2
          exact ⟨⟨rfl, HE.out.1⟩, HE.out.2⟩
        | ok a u =>
          rw [hR] at HA
          have hl1 := atom_len HP.out.2 hR
          have hl2 := rep_len a u
          have hl3 := repR_len u
          have hl4 := HX.out.2.2.2.2
          have hl5 := HC.out.1
          rw [List.length_cons] at hl4 hl5
          have HL : Hid (a.length ≤ 1000 ∧ (repA a u).length ≤ 1000 ∧ A.length ≤ 1000 ∧ (repR u).length < k ∧ (A ++ repA a u).length + 3 * (repR u).length ≤ n) := hide ⟨by omega, by omega, by omega, by omega, by rw [List.length_append]; omega⟩
          have HRo := hide (show rpre (A ++ repA a u) (rowF pat d k (repR u)) = R by rw [← HC.out.2]; exact (row_on HNC.out hR A).symm)
          clear hl1 hl2 hl3 hl4 hl5 hR
          refine HA.mono ?_
          rintro e_ w3 ⟨⟨v3, rfl, h3, p3⟩, g3⟩
          have H3 := hide (And.intro (H2.out.1.gr g3 hg) (And.intro p3 (And.intro (grown_trans H2.out.2.2 g3) h3)))
          clear h3 p3 g3 HA
          go_wp2_with fail
          refine (repeated_any H3.out.2.1 H3.out.2.2.2 HL.out.1).mono ?_
          rintro e_ w4 ⟨v4, rfl, h4, p4, g4⟩
          have H4 := hide (And.intro (H3.out.1.gr g4 hg) (And.intro p4 (And.intro (grown_trans H3.out.2.2.1 g4) h4)))
          clear h4 p4 g4
          go_wp2_with (at_builtin; refine wpList_append_cs appI rfl (.tmp 42) (.tmp 45) rfl (base := w.heap.size) H4.out.1 H4.out.2.2.2.1 ?c1 ?c2 H4.out.2.2.1.size ?_)
          case c1 => have h9 := HL.out; omega
          case c2 => have h9 := HL.out; omega
          intro v5 w5 h5 g5
          have H5 : Hid (RR pat w w5 g s d n R k v5 (A ++ repA a u) (repR u)) := hide ⟨by unfold Ro; rw [ics_app, List.length_append]; exact h5, H4.out.2.1.gr g5 (fun k hk => by have := row_blk H4.out.1 k hk; omega), gr_trans H4.out.2.2.1 g5 (fun k hk => .inr (row_blk H4.out.1 k hk)), ⟨HL.out.2.2.2.1, HRo.out⟩, HL.out.2.2.2.2⟩
          clear h5 g5
          go_wp2
          go_roundg k
          case measure => have := HK.out; omega
          case rel => exact ⟨_, _, H5⟩

end Go.Proofs.Ytmjnedafcfolgaa
