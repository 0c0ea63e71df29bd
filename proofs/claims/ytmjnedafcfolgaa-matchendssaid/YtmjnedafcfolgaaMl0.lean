/- The calls Whole and Find as the laws need them; the law's text that each program must find. -/
import Derived.Test.YtmjnedafcfolgaaMs7
import Derived.Test.YtmjnedafcfolgaaMp
namespace Go.Proofs.Ytmjnedafcfolgaa
open Go.RowKit
/-- A call that answers v: what was there stays. -/
abbrev Says (f : FuncId) (args : Array Value) (v : Value) : Prop := ∀ w : World, Calls Try.prog f args w fun e w' => e = .returned v ∧ Below w.heap.size w w'
theorem bool_of (X : Prop) : ∃ b : Bool, b = true ↔ X := by
  by_cases h : X
  · exact ⟨true, fun _ => h, fun _ => rfl⟩
  · exact ⟨false, fun e => (by cases e), fun e => absurd e h⟩
theorem whole_says {q s : ByteArray} {st : List In} {b : Bool} (hm : mR q s = .ok st []) (hb : b = true ↔ Fr st (bl s) 0 s.size) : Says 8 #[.string q, .string s] (.tuple #[.bool b, .int .i64 0]) := by
  intro w
  have h := Whole_any q s (w := w)
  rw [hm] at h
  refine h.mono ?_
  rintro e w1 ⟨⟨c, rfl, h1⟩, b1⟩
  obtain rfl : c = b := by rw [Bool.eq_iff_iff, h1, hb]
  exact ⟨rfl, b1⟩
theorem find_says {q s : ByteArray} {st : List In} {b : Bool} (hm : mR q s = .ok st []) (hb : b = true ↔ ∃ p0 p1, p1 ≤ s.size ∧ Fr st (bl s) p0 p1) : Says 9 #[.string q, .string s] (.tuple #[.bool b, .int .i64 0]) := by
  intro w
  have h := Find_any q s (w := w)
  rw [hm] at h
  refine h.mono ?_
  rintro e w1 ⟨⟨c, rfl, h1⟩, b1⟩
  obtain rfl : c = b := by rw [Bool.eq_iff_iff, h1, hb]
  exact ⟨rfl, b1⟩
theorem whole_err {q s : ByteArray} {n : Nat} (hm : mR q s = .bad n) : Says 8 #[.string q, .string s] (.tuple #[.bool false, .int .i64 (n : Int)]) := by
  intro w
  have h := Whole_any q s (w := w)
  rw [hm] at h
  refine h.mono ?_
  rintro e w1 ⟨⟨rfl, _⟩, b1⟩
  exact ⟨rfl, b1⟩
theorem find_err {q s : ByteArray} {n : Nat} (hm : mR q s = .bad n) : Says 9 #[.string q, .string s] (.tuple #[.bool false, .int .i64 (n : Int)]) := by
  intro w
  have h := Find_any q s (w := w)
  rw [hm] at h
  refine h.mono ?_
  rintro e w1 ⟨⟨rfl, _⟩, b1⟩
  exact ⟨rfl, b1⟩
theorem mR_of {q s : ByteArray} {st : List In} (h : s.size ≤ 256) (hR : comp (bl q) = .ok (st ++ [stepI 6]) []) : mR q s = .ok st [] := by
  unfold mR
  rw [if_neg (by omega), hR]
  simp only []
  rw [List.dropLast_concat]
theorem mR_not {q s : ByteArray} {n : Nat} (h : s.size ≤ 256) (hR : comp (bl q) = .bad n) : mR q s = .bad n := mR_bad (by omega) hR
theorem clo_of {r : List Nat} {st : List In} (h : comp r = .ok (st ++ [stepI 6]) []) : Clo st := by
  obtain ⟨x, hp, _⟩ := comp_pg h
  have : st = x := List.append_cancel_right hp.1
  rw [this]
  exact hp.2.1
theorem comp_bad34 {q : ByteArray} {n : Nat} (w : World) (h : comp (bl q) = .bad n) : n = 3 ∨ n = 4 := by
  obtain ⟨e, w1, fr, h1, _⟩ := Compile_any q (w := w) []
  rw [h] at h1
  exact h1.1.2
theorem aw_find : ∃ p0 p1, p1 ≤ 4 ∧ Fr (plusL [onlyI 98]) [97, 98, 98, 99] p0 p1 := ⟨1, 2, by omega, (Fr.plus (clo_only 98)).2 ⟨2, Fr.only.2 ⟨rfl, rfl⟩, .nil⟩⟩
theorem aw_whole : ¬ Fr (plusL [onlyI 98]) [97, 98, 98, 99] 0 4 := by
  intro h
  obtain ⟨r, h1, _⟩ := (Fr.plus (clo_only 98)).1 h
  have := (Fr.only.1 h1).1
  cases this
set_option maxRecDepth 100000 in
set_option maxHeartbeats 1000000 in
theorem awake_any : Says 7 #[] (.bool true) := by
  intro w
  have m : mR ⟨#[98, 43]⟩ ⟨#[97, 98, 98, 99]⟩ = .ok (plusL [onlyI 98]) [] := mR_of (by decide) cp_b
  have HF := hide (find_says (b := true) m ⟨fun _ => aw_find, fun _ => rfl⟩)
  have HW := hide (whole_says (b := false) m ⟨fun e => (by cases e), fun e => absurd e aw_whole⟩)
  clear m
  go_enter Try.func7, Try.ntmps7
  go_wp2_with fail
  refine (HF.out _).mono ?_
  rintro e_ w1 ⟨rfl, b1⟩
  replace b1 := hide b1
  go_wp2_with fail
  refine (HW.out _).mono ?_
  rintro e_ w2 ⟨rfl, b2⟩
  have HB := hide (Below.chain b1.out b2)
  clear b1 b2
  go_wp2
  go_ret
  exact ⟨rfl, HB.out⟩
end Go.Proofs.Ytmjnedafcfolgaa
