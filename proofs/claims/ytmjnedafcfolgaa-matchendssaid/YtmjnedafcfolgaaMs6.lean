/- A run begun: the program's call newRun. -/
import Derived.Test.YtmjnedafcfolgaaMs5
namespace Go.Proofs.Ytmjnedafcfolgaa
open Go.RowKit
/-- Blocks from number B on. -/
def From (B r : Nat) (x y : Sb) : Prop := B ≤ r ∧ (∀ z ∈ x.all, B ≤ z) ∧ ∀ z ∈ y.all, B ≤ z
/-- What newRun answers. -/
def NrA (w : World) (s : ByteArray) (R : Rd (List In)) (e : Ending) (w' : World) : Prop :=
  match R with
  | .ok l _ => (∃ r g cap x y, e = .returned (.tuple #[.pointer (some ⟨r, 0, none⟩), .int .i64 0]) ∧ RnAt w' r g cap s l 0 x y [] [] ∧ From w.heap.size r x y) ∧ Below w.heap.size w w'
  | .bad n => (e = .returned (.tuple #[.pointer none, .int .i64 (n : Int)]) ∧ (n = 1 ∨ n = 3 ∨ n = 4)) ∧ Below w.heap.size w w'
set_option maxRecDepth 100000 in
theorem newRun_long (q s : ByteArray) {w : World} (h : 256 < s.size) : Calls Try.prog 10 #[.string q, .string s] w (NrA w s (.bad 1)) := by
  have hsz : decide ((256 : Int) < (s.size : Int)) = true := decide_eq_true (by omega)
  clear h
  go_enter Try.func10, Try.ntmps10
  go_wp2
  go_ret2
  exact ⟨⟨rfl, .inl rfl⟩, Below.refl _ _⟩
set_option maxRecDepth 100000 in
theorem newRun_bad (q s : ByteArray) {w : World} {n : Nat} (h : ¬ 256 < s.size) (hR : comp (bl q) = .bad n) : Calls Try.prog 10 #[.string q, .string s] w (NrA w s (.bad n)) := by
  have hsz : decide ((256 : Int) < (s.size : Int)) = false := decide_eq_false (by omega)
  have HC := Compile_any q (w := w)
  rw [hR] at HC
  replace HC := hide HC
  clear h hR
  go_enter Try.func10, Try.ntmps10
  go_wp2_with fail
  refine HC.out.mono ?_
  rintro e_ w1 ⟨⟨rfl, he⟩, b1⟩
  have hne := err_ne he
  have HE := hide (And.intro he b1)
  clear he b1
  go_wp2
  go_ret2
  exact ⟨⟨rfl, .inr HE.out.1⟩, HE.out.2⟩
set_option maxRecDepth 100000 in
set_option maxHeartbeats 2000000 in
theorem newRun_ok (q s : ByteArray) {w : World} {l st : List In} {u : List Nat} (h : ¬ 256 < s.size) (hR : comp (bl q) = .ok l u) (hp : Pg l st) : Calls Try.prog 10 #[.string q, .string s] w (NrA w s (.ok l u)) := by
  have hsz : decide ((256 : Int) < (s.size : Int)) = false := decide_eq_false (by omega)
  have HC := Compile_any q (w := w)
  rw [hR] at HC
  replace HC := hide HC
  have HS := hide h
  have hlen : 0 < l.length ∧ l.length ≤ 1000 := by have := hp.2.2; rw [hp.1]; simp; omega
  clear h hR hp
  go_enter Try.func10, Try.ntmps10
  go_wp2_with fail
  refine HC.out.mono ?_
  rintro e_ w1 ⟨⟨v, rfl, gv⟩, b1⟩
  obtain ⟨g, cap, rfl, hc1, hc2, hg, hr⟩ := gv
  rw [plF_len] at hc1 ⊢
  have HG : Hid (PrAt w1 g cap (plF 0 l) ∧ Below w.heap.size w w1) := hide ⟨⟨by rw [plF_len]; exact hc1, hc2, hg, hr⟩, b1⟩
  clear hc1 hc2 hg hr b1 HC
  have HL := hide hlen
  obtain ⟨N, hN⟩ : ∃ N, l.length = N := ⟨_, rfl⟩
  rw [hN] at hlen ⊢
  have HN := hide hN
  clear hN
  have HL2 := hide hlen
  clear hlen
  go_wp2_with fail
  refine (newSteps_any HL2.out).mono ?_
  rintro e_ w2 ⟨x, rfl, h2, b2, x1, x2, x3⟩
  have H2 := hide (And.intro h2 (And.intro b2 (And.intro x1 (And.intro x2 x3))))
  clear h2 b2 x1 x2 x3
  go_wp2_with fail
  refine (newSteps_any HL2.out).mono ?_
  rintro e_ w3 ⟨y, rfl, h3, b3, y1, y2, y3⟩
  have H3 := hide (And.intro h3 (And.intro b3 (And.intro y1 (And.intro y2 y3))))
  clear h3 b3 y1 y2 y3
  go_wp2
  have hx := H2.out.1.lt
  have hy := H3.out.1.lt
  have hx3 : w2.heap.size ≤ w3.heap.size := H3.out.2.1.size
  have hw1 : w1.heap.size ≤ w2.heap.size := H2.out.2.1.size
  have hw0 : w.heap.size ≤ w1.heap.size := HG.out.2.size
  have hg : g < w1.heap.size := HG.out.1.2.2.1
  have k3 := Kp.of_below (S := []) H3.out.2.1
  have k2 := Kp.of_below (S := []) H2.out.2.1
  have k4 : Kp [] w3 (w3.alloc (.cells #[.slice (some ⟨g, 0, none⟩) N cap, .string s, .int .i64 0, .pointer (some ⟨x.k, 0, none⟩), .pointer (some ⟨y.k, 0, none⟩)] 40)) := (Kp.refl _ _).alloc _
  have ha := H2.out.2.2
  have hb := H3.out.2.2
  have HF : Hid (RnAt (w3.alloc (.cells #[.slice (some ⟨g, 0, none⟩) N cap, .string s, .int .i64 0, .pointer (some ⟨x.k, 0, none⟩), .pointer (some ⟨y.k, 0, none⟩)] 40)) w3.heap.size g cap s l 0 x y [] [] ∧ From w.heap.size w3.heap.size x y ∧ Below w.heap.size w (w3.alloc (.cells #[.slice (some ⟨g, 0, none⟩) N cap, .string s, .int .i64 0, .pointer (some ⟨x.k, 0, none⟩), .pointer (some ⟨y.k, 0, none⟩)] 40))) := by
    refine ⟨⟨?_, HG.out.1.kp ((k2.trans k3).trans k4) (by simp), ⟨?_, ?_⟩, ?_, by have := HS.out; omega, Nat.zero_le _⟩, ?_, ?_⟩
    · rw [HN.out]; exact heap_alloc_new _ _
    · rw [HN.out]; exact H2.out.1.kp (k3.trans k4) (by simp)
    · rw [HN.out]; exact H3.out.1.kp k4 (by simp)
    · refine ⟨⟨?_, ?_⟩, ⟨?_, ?_, ?_⟩, ?_⟩
      · simp [Sb.all]; omega
      · simp [Sb.all]; omega
      · simp [Sb.all]; omega
      · simp [Sb.all]; omega
      · omega
      · intro z hz; simp [Sb.all] at hz ⊢; omega
    · refine ⟨by omega, fun z hz => ?_, fun z hz => ?_⟩
      · simp [Sb.all] at hz; omega
      · simp [Sb.all] at hz; omega
    · exact (((HG.out.2.trans (H2.out.2.1.mono hw0)).trans (H3.out.2.1.mono (Nat.le_trans hw0 hw1))).trans (k4.below (by omega) (by simp)))
  go_ret2
  exact ⟨⟨_, g, cap, x, y, rfl, HF.out.1, HF.out.2.1⟩, HF.out.2.2⟩
end Go.Proofs.Ytmjnedafcfolgaa
