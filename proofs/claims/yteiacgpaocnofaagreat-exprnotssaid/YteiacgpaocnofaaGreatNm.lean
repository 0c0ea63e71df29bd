/- Names: the program's call, and the page's. -/
import Derived.Test.YteiacgpaocnofaaGreatRc
namespace Go.Proofs.YteiacgpaocnofaaGreat
open Go.RowKit
/-- A byte of a text. -/
def bt (s : ByteArray) (i : Nat) : Nat := (s.data[i]?.getD 0).toNat
theorem bt_lt (s : ByteArray) (i : Nat) : bt s i < 256 := (s.data[i]?.getD 0).toNat_lt
theorem str_ix (s : ByteArray) (k : Nat) (hk : k < s.size) (w : World) : (Instr.index 9 (.string s) (.int .i64 (k : Int))).run Tryz.prog w = .ok (.int .u8 (bt s k : Int)) w := by
  rw [run_index_string w 9 s .i64 (k : Int) (by kernel_rfl), dif_pos ⟨by omega, by omega⟩]
  have h2 : k < s.data.size := hk
  have h3 : (s.data[k]?.getD 0) = s.data[k] := by rw [Array.getElem?_eq_getElem h2]; rfl
  unfold bt
  rw [h3]
  simp [ByteArray.getElem_eq_getElem_data]
def letB (c : Nat) : Bool := decide (97 ≤ c ∧ c ≤ 122 ∨ 65 ≤ c ∧ c ≤ 90)
def innB (c : Nat) : Bool := letB c || decide (48 ≤ c ∧ c ≤ 57 ∨ c = 95 ∨ c = 58)
def hexB (s : ByteArray) : Bool := decide (4 ≤ s.size) && ((s.extract 0 4).toList == [104, 101, 120, 58])
/-- Is it a name? -/
def nameB (s : ByteArray) : Bool := decide (1 ≤ s.size) && decide (s.size ≤ 32) && letB (bt s 0) && !hexB s && (List.range s.size).all fun i => innB (bt s i)
theorem all_next {s : ByteArray} {k : Nat} (h : ∀ j, j < k → innB (bt s j) = true) (h2 : innB (bt s k) = true) : ∀ j, j < k + 1 → innB (bt s j) = true := fun j hj => by
  by_cases e : j = k
  · rw [e]; exact h2
  · exact h j (by omega)
theorem name_no {s : ByteArray} {k : Nat} (hk : k < s.size) (h : innB (bt s k) = false) : nameB s = false := by
  have : ((List.range s.size).all fun i => innB (bt s i)) = false := by
    rw [List.all_eq_false]
    exact ⟨k, List.mem_range.2 hk, by rw [h]; decide⟩
  unfold nameB
  rw [this, Bool.and_false]
theorem name_yes {s : ByteArray} (h1 : 1 ≤ s.size) (h2 : s.size ≤ 32) (h3 : letB (bt s 0) = true) (h4 : hexB s = false) (h5 : ∀ j, j < s.size → innB (bt s j) = true) : nameB s = true := by
  have : ((List.range s.size).all fun i => innB (bt s i)) = true := List.all_eq_true.2 fun i hi => h5 i (List.mem_range.1 hi)
  unfold nameB
  rw [this, h3, h4]
  simp [h1, h2]
set_option maxRecDepth 100000 in
theorem letter_any (c : Nat) (hc : c < 256) (w : World) (z : Int) (hz : z = (c : Int)) : Calls Tryz.prog 86 #[.int .u8 z] w fun e w' => e = .returned (.bool (letB c)) ∧ w' = w := by
  subst hz
  by_cases h1 : 97 ≤ c
  · by_cases h2 : c ≤ 122
    · have hL := hide (show letB c = true by unfold letB; simp; omega)
      go_enter Tryz.func86, Tryz.ntmps86
      go_wp2
      go_ret
      exact ⟨by rw [hL.out]; first | rfl | (show Ending.returned (Value.bool _) = Ending.returned (Value.bool _); congr 2; simp; omega), rfl⟩
    · by_cases h3 : 65 ≤ c
      · by_cases h4 : c ≤ 90
        · exfalso; omega
        · have hL := hide (show letB c = false by unfold letB; simp; omega)
          go_enter Tryz.func86, Tryz.ntmps86
          go_wp2
          go_ret
          exact ⟨by rw [hL.out]; first | rfl | (show Ending.returned (Value.bool _) = Ending.returned (Value.bool _); congr 2; simp; omega), rfl⟩
      · exfalso; omega
  · by_cases h3 : 65 ≤ c
    · by_cases h4 : c ≤ 90
      · have hL := hide (show letB c = true by unfold letB; simp; omega)
        go_enter Tryz.func86, Tryz.ntmps86
        go_wp2
        go_ret
        exact ⟨by rw [hL.out]; first | rfl | (show Ending.returned (Value.bool _) = Ending.returned (Value.bool _); congr 2; simp; omega), rfl⟩
      · have hL := hide (show letB c = false by unfold letB; simp; omega)
        go_enter Tryz.func86, Tryz.ntmps86
        go_wp2
        go_ret
        exact ⟨by rw [hL.out]; first | rfl | (show Ending.returned (Value.bool _) = Ending.returned (Value.bool _); congr 2; simp; omega), rfl⟩
    · have hL := hide (show letB c = false by unfold letB; simp; omega)
      go_enter Tryz.func86, Tryz.ntmps86
      go_wp2
      go_ret
      exact ⟨by rw [hL.out]; first | rfl | (show Ending.returned (Value.bool _) = Ending.returned (Value.bool _); congr 2; simp; omega), rfl⟩
set_option maxRecDepth 100000 in
theorem rletter_any (c : Nat) (hc : c < 256) (w : World) (z : Int) (hz : z = (c : Int)) : Calls Tryz.prog 64 #[.int .u8 z] w fun e w' => e = .returned (.bool (letB c)) ∧ w' = w := by
  subst hz
  by_cases h1 : 97 ≤ c
  · by_cases h2 : c ≤ 122
    · have hL := hide (show letB c = true by unfold letB; simp; omega)
      go_enter Tryz.func64, Tryz.ntmps64
      go_wp2
      go_ret
      exact ⟨by rw [hL.out]; first | rfl | (show Ending.returned (Value.bool _) = Ending.returned (Value.bool _); congr 2; simp; omega), rfl⟩
    · by_cases h3 : 65 ≤ c
      · by_cases h4 : c ≤ 90
        · exfalso; omega
        · have hL := hide (show letB c = false by unfold letB; simp; omega)
          go_enter Tryz.func64, Tryz.ntmps64
          go_wp2
          go_ret
          exact ⟨by rw [hL.out]; first | rfl | (show Ending.returned (Value.bool _) = Ending.returned (Value.bool _); congr 2; simp; omega), rfl⟩
      · exfalso; omega
  · by_cases h3 : 65 ≤ c
    · by_cases h4 : c ≤ 90
      · have hL := hide (show letB c = true by unfold letB; simp; omega)
        go_enter Tryz.func64, Tryz.ntmps64
        go_wp2
        go_ret
        exact ⟨by rw [hL.out]; first | rfl | (show Ending.returned (Value.bool _) = Ending.returned (Value.bool _); congr 2; simp; omega), rfl⟩
      · have hL := hide (show letB c = false by unfold letB; simp; omega)
        go_enter Tryz.func64, Tryz.ntmps64
        go_wp2
        go_ret
        exact ⟨by rw [hL.out]; first | rfl | (show Ending.returned (Value.bool _) = Ending.returned (Value.bool _); congr 2; simp; omega), rfl⟩
    · have hL := hide (show letB c = false by unfold letB; simp; omega)
      go_enter Tryz.func64, Tryz.ntmps64
      go_wp2
      go_ret
      exact ⟨by rw [hL.out]; first | rfl | (show Ending.returned (Value.bool _) = Ending.returned (Value.bool _); congr 2; simp; omega), rfl⟩
set_option maxRecDepth 100000 in
set_option maxHeartbeats 1000000 in
theorem ofName_any (c : Nat) (hc : c < 256) (w : World) (z : Int) (hz : z = (c : Int)) : Calls Tryz.prog 87 #[.int .u8 z] w fun e w' => e = .returned (.bool (innB c)) ∧ w' = w := by
  subst hz
  have HL := hide (letter_any c hc w)
  cases hl : letB c with
  | true =>
    have hL := hide (show innB c = true by unfold innB; rw [hl]; simp; try omega)
    go_enter Tryz.func87, Tryz.ntmps87
    go_wp2_with fail
    refine (HL.out _ (by omega)).mono ?_
    rintro e w' ⟨rfl, hw⟩
    replace hw := hw.symm
    subst hw
    rw [hl]
    go_wp2
    go_ret
    exact ⟨by rw [hL.out]; first | rfl | (show Ending.returned (Value.bool _) = Ending.returned (Value.bool _); congr 2; simp; omega), rfl⟩
  | false =>
    by_cases h1 : 48 ≤ c
    · by_cases h2 : c ≤ 57
      · have hL := hide (show innB c = true by unfold innB; rw [hl]; simp; try omega)
        go_enter Tryz.func87, Tryz.ntmps87
        go_wp2_with fail
        refine (HL.out _ (by omega)).mono ?_
        rintro e w' ⟨rfl, hw⟩
        replace hw := hw.symm
        subst hw
        rw [hl]
        go_wp2
        go_ret
        exact ⟨by rw [hL.out]; first | rfl | (show Ending.returned (Value.bool _) = Ending.returned (Value.bool _); congr 2; simp; omega), rfl⟩
      · by_cases h5 : c = 95
        · have h6 : ((c : Int) == 95) = true := by simp; omega
          have hL := hide (show innB c = true by unfold innB; rw [hl]; simp; try omega)
          go_enter Tryz.func87, Tryz.ntmps87
          go_wp2_with fail
          refine (HL.out _ (by omega)).mono ?_
          rintro e w' ⟨rfl, hw⟩
          replace hw := hw.symm
          subst hw
          rw [hl]
          go_wp2
          go_ret
          exact ⟨by rw [hL.out]; first | rfl | (show Ending.returned (Value.bool _) = Ending.returned (Value.bool _); congr 2; simp; omega), rfl⟩
        · have h6 : ((c : Int) == 95) = false := by simp; omega
          by_cases h7 : c = 58
          · have h8 : ((c : Int) == 58) = true := by simp; omega
            have hL := hide (show innB c = true by unfold innB; rw [hl]; simp; try omega)
            go_enter Tryz.func87, Tryz.ntmps87
            go_wp2_with fail
            refine (HL.out _ (by omega)).mono ?_
            rintro e w' ⟨rfl, hw⟩
            replace hw := hw.symm
            subst hw
            rw [hl]
            go_wp2
            go_ret
            exact ⟨by rw [hL.out]; first | rfl | (show Ending.returned (Value.bool _) = Ending.returned (Value.bool _); congr 2; simp; omega), rfl⟩
          · have h8 : ((c : Int) == 58) = false := by simp; omega
            have hL := hide (show innB c = false by unfold innB; rw [hl]; simp; try omega)
            go_enter Tryz.func87, Tryz.ntmps87
            go_wp2_with fail
            refine (HL.out _ (by omega)).mono ?_
            rintro e w' ⟨rfl, hw⟩
            replace hw := hw.symm
            subst hw
            rw [hl]
            go_wp2
            go_ret
            exact ⟨by rw [hL.out]; first | rfl | (show Ending.returned (Value.bool _) = Ending.returned (Value.bool _); congr 2; simp; omega), rfl⟩
    · by_cases h5 : c = 95
      · have h6 : ((c : Int) == 95) = true := by simp; omega
        have hL := hide (show innB c = true by unfold innB; rw [hl]; simp; try omega)
        go_enter Tryz.func87, Tryz.ntmps87
        go_wp2_with fail
        refine (HL.out _ (by omega)).mono ?_
        rintro e w' ⟨rfl, hw⟩
        replace hw := hw.symm
        subst hw
        rw [hl]
        go_wp2
        go_ret
        exact ⟨by rw [hL.out]; first | rfl | (show Ending.returned (Value.bool _) = Ending.returned (Value.bool _); congr 2; simp; omega), rfl⟩
      · have h6 : ((c : Int) == 95) = false := by simp; omega
        by_cases h7 : c = 58
        · have h8 : ((c : Int) == 58) = true := by simp; omega
          have hL := hide (show innB c = true by unfold innB; rw [hl]; simp; try omega)
          go_enter Tryz.func87, Tryz.ntmps87
          go_wp2_with fail
          refine (HL.out _ (by omega)).mono ?_
          rintro e w' ⟨rfl, hw⟩
          replace hw := hw.symm
          subst hw
          rw [hl]
          go_wp2
          go_ret
          exact ⟨by rw [hL.out]; first | rfl | (show Ending.returned (Value.bool _) = Ending.returned (Value.bool _); congr 2; simp; omega), rfl⟩
        · have h8 : ((c : Int) == 58) = false := by simp; omega
          have hL := hide (show innB c = false by unfold innB; rw [hl]; simp; try omega)
          go_enter Tryz.func87, Tryz.ntmps87
          go_wp2_with fail
          refine (HL.out _ (by omega)).mono ?_
          rintro e w' ⟨rfl, hw⟩
          replace hw := hw.symm
          subst hw
          rw [hl]
          go_wp2
          go_ret
          exact ⟨by rw [hL.out]; first | rfl | (show Ending.returned (Value.bool _) = Ending.returned (Value.bool _); congr 2; simp; omega), rfl⟩
set_option maxRecDepth 100000 in
set_option maxHeartbeats 1000000 in
theorem inner_any (c : Nat) (hc : c < 256) (w : World) (z : Int) (hz : z = (c : Int)) : Calls Tryz.prog 65 #[.int .u8 z] w fun e w' => e = .returned (.bool (innB c)) ∧ w' = w := by
  subst hz
  have HL := hide (rletter_any c hc w)
  cases hl : letB c with
  | true =>
    have hL := hide (show innB c = true by unfold innB; rw [hl]; simp; try omega)
    go_enter Tryz.func65, Tryz.ntmps65
    go_wp2_with fail
    refine (HL.out _ (by omega)).mono ?_
    rintro e w' ⟨rfl, hw⟩
    replace hw := hw.symm
    subst hw
    rw [hl]
    go_wp2
    go_ret
    exact ⟨by rw [hL.out]; first | rfl | (show Ending.returned (Value.bool _) = Ending.returned (Value.bool _); congr 2; simp; omega), rfl⟩
  | false =>
    by_cases h1 : 48 ≤ c
    · by_cases h2 : c ≤ 57
      · have hL := hide (show innB c = true by unfold innB; rw [hl]; simp; try omega)
        go_enter Tryz.func65, Tryz.ntmps65
        go_wp2_with fail
        refine (HL.out _ (by omega)).mono ?_
        rintro e w' ⟨rfl, hw⟩
        replace hw := hw.symm
        subst hw
        rw [hl]
        go_wp2
        go_ret
        exact ⟨by rw [hL.out]; first | rfl | (show Ending.returned (Value.bool _) = Ending.returned (Value.bool _); congr 2; simp; omega), rfl⟩
      · by_cases h5 : c = 95
        · have h6 : ((c : Int) == 95) = true := by simp; omega
          have hL := hide (show innB c = true by unfold innB; rw [hl]; simp; try omega)
          go_enter Tryz.func65, Tryz.ntmps65
          go_wp2_with fail
          refine (HL.out _ (by omega)).mono ?_
          rintro e w' ⟨rfl, hw⟩
          replace hw := hw.symm
          subst hw
          rw [hl]
          go_wp2
          go_ret
          exact ⟨by rw [hL.out]; first | rfl | (show Ending.returned (Value.bool _) = Ending.returned (Value.bool _); congr 2; simp; omega), rfl⟩
        · have h6 : ((c : Int) == 95) = false := by simp; omega
          by_cases h7 : c = 58
          · have h8 : ((c : Int) == 58) = true := by simp; omega
            have hL := hide (show innB c = true by unfold innB; rw [hl]; simp; try omega)
            go_enter Tryz.func65, Tryz.ntmps65
            go_wp2_with fail
            refine (HL.out _ (by omega)).mono ?_
            rintro e w' ⟨rfl, hw⟩
            replace hw := hw.symm
            subst hw
            rw [hl]
            go_wp2
            go_ret
            exact ⟨by rw [hL.out]; first | rfl | (show Ending.returned (Value.bool _) = Ending.returned (Value.bool _); congr 2; simp; omega), rfl⟩
          · have h8 : ((c : Int) == 58) = false := by simp; omega
            have hL := hide (show innB c = false by unfold innB; rw [hl]; simp; try omega)
            go_enter Tryz.func65, Tryz.ntmps65
            go_wp2_with fail
            refine (HL.out _ (by omega)).mono ?_
            rintro e w' ⟨rfl, hw⟩
            replace hw := hw.symm
            subst hw
            rw [hl]
            go_wp2
            go_ret
            exact ⟨by rw [hL.out]; first | rfl | (show Ending.returned (Value.bool _) = Ending.returned (Value.bool _); congr 2; simp; omega), rfl⟩
    · by_cases h5 : c = 95
      · have h6 : ((c : Int) == 95) = true := by simp; omega
        have hL := hide (show innB c = true by unfold innB; rw [hl]; simp; try omega)
        go_enter Tryz.func65, Tryz.ntmps65
        go_wp2_with fail
        refine (HL.out _ (by omega)).mono ?_
        rintro e w' ⟨rfl, hw⟩
        replace hw := hw.symm
        subst hw
        rw [hl]
        go_wp2
        go_ret
        exact ⟨by rw [hL.out]; first | rfl | (show Ending.returned (Value.bool _) = Ending.returned (Value.bool _); congr 2; simp; omega), rfl⟩
      · have h6 : ((c : Int) == 95) = false := by simp; omega
        by_cases h7 : c = 58
        · have h8 : ((c : Int) == 58) = true := by simp; omega
          have hL := hide (show innB c = true by unfold innB; rw [hl]; simp; try omega)
          go_enter Tryz.func65, Tryz.ntmps65
          go_wp2_with fail
          refine (HL.out _ (by omega)).mono ?_
          rintro e w' ⟨rfl, hw⟩
          replace hw := hw.symm
          subst hw
          rw [hl]
          go_wp2
          go_ret
          exact ⟨by rw [hL.out]; first | rfl | (show Ending.returned (Value.bool _) = Ending.returned (Value.bool _); congr 2; simp; omega), rfl⟩
        · have h8 : ((c : Int) == 58) = false := by simp; omega
          have hL := hide (show innB c = false by unfold innB; rw [hl]; simp; try omega)
          go_enter Tryz.func65, Tryz.ntmps65
          go_wp2_with fail
          refine (HL.out _ (by omega)).mono ?_
          rintro e w' ⟨rfl, hw⟩
          replace hw := hw.symm
          subst hw
          rw [hl]
          go_wp2
          go_ret
          exact ⟨by rw [hL.out]; first | rfl | (show Ending.returned (Value.bool _) = Ending.returned (Value.bool _); congr 2; simp; omega), rfl⟩
set_option maxRecDepth 100000 in
theorem hasp0_any (s : ByteArray) (hs : s.size ≤ 9223372036854775807) (w : World) : Calls Tryz.prog 71 #[.string s, .string ⟨#[104, 101, 120, 58]⟩] w fun e w' => e = .returned (.bool (hexB s)) ∧ w' = w := by
  by_cases h4 : 4 ≤ s.size
  · have d4 : decide ((4 : Int) ≤ (s.size : Int)) = true := decide_eq_true (by omega)
    rw [show hexB s = ((s.extract 0 4).toList == [104, 101, 120, 58]) by unfold hexB; simp [h4]]
    go_enter Tryz.func71, Tryz.ntmps71
    go_wp2
    go_ret
    exact ⟨rfl, rfl⟩
  · have d4 : decide ((4 : Int) ≤ (s.size : Int)) = false := decide_eq_false (by omega)
    rw [show hexB s = false by unfold hexB; simp [h4]]
    go_enter Tryz.func71, Tryz.ntmps71
    go_wp2
    go_ret
    exact ⟨rfl, rfl⟩
set_option maxRecDepth 100000 in
theorem hasp_any (s : ByteArray) (hs : s.size ≤ 9223372036854775807) (w : World) : Calls Tryz.prog 49 #[.string s, .string ⟨#[104, 101, 120, 58]⟩] w fun e w' => e = .returned (.bool (hexB s)) ∧ w' = w := by
  go_enter Tryz.func49, Tryz.ntmps49
  go_wp2_with fail
  refine (hasp0_any s hs _).mono ?_
  rintro e w' ⟨rfl, hw⟩
  replace hw := hw.symm
  subst hw
  go_wp2
  go_ret
  exact ⟨rfl, rfl⟩
set_option maxRecDepth 100000 in
set_option maxHeartbeats 1000000 in
theorem Name_any (s : ByteArray) (hs : s.size ≤ 9223372036854775807) (w : World) : Calls Tryz.prog 62 #[.string s] w fun e w' => e = .returned (.bool (nameB s)) ∧ Below w.heap.size w w' := by
  obtain ⟨R, hR⟩ : ∃ R, nameB s = R := ⟨_, rfl⟩
  rw [hR]
  by_cases h1 : 1 ≤ s.size
  · by_cases h2 : s.size ≤ 32
    · have d1 : decide ((s.size : Int) < 1) = false := decide_eq_false (by omega)
      have d2 : decide ((32 : Int) < (s.size : Int)) = false := decide_eq_false (by omega)
      have hix : ∀ k, k < s.size → ∀ w_ : World, (Instr.index 9 (.string s) (.int .i64 (k : Int))).run Tryz.prog w_ = .ok (.int .u8 (bt s k : Int)) w_ := fun k hk w_ => str_ix s k hk w_
      have hi0 : ∀ w_ : World, (Instr.index 9 (.string s) (.int .i64 0)).run Tryz.prog w_ = .ok (.int .u8 (bt s 0 : Int)) w_ := hix 0 (by omega)
      have HL := hide (letter_any (bt s 0) (bt_lt s 0) w)
      cases hl : letB (bt s 0) with
      | false =>
        have HR := hide (show R = false by rw [← hR]; unfold nameB; rw [hl]; simp)
        clear hR
        go_enter Tryz.func62, Tryz.ntmps62
        go_wp2_with fail
        refine (HL.out _ rfl).mono ?_
        rintro e w' ⟨rfl, hw⟩
        replace hw := hw.symm
        subst hw
        rw [hl]
        go_wp2
        go_ret
        exact ⟨by rw [HR.out]; rfl, Below.refl _ _⟩
      | true =>
        cases hh0 : hexB s with
        | true =>
          have HR := hide (show R = false by rw [← hR]; unfold nameB; rw [hh0]; simp)
          clear hR
          go_enter Tryz.func62, Tryz.ntmps62
          go_wp2_with fail
          refine (HL.out _ rfl).mono ?_
          rintro e w' ⟨rfl, hw⟩
          replace hw := hw.symm
          subst hw
          rw [hl]
          go_wp2_with fail
          refine (hasp_any s hs _).mono ?_
          rintro e w' ⟨rfl, hw⟩
          replace hw := hw.symm
          subst hw
          rw [hh0]
          go_wp2
          go_ret
          exact ⟨by rw [HR.out]; rfl, Below.refl _ _⟩
        | false =>
          have HR := hide (And.intro hR (And.intro hl (And.intro hh0 (And.intro h1 (And.intro h2 hix)))))
          clear hR hix
          go_enter Tryz.func62, Tryz.ntmps62
          go_wp2_with fail
          refine (HL.out _ rfl).mono ?_
          rintro e w' ⟨rfl, hw⟩
          replace hw := hw.symm
          subst hw
          rw [hl]
          clear hl HL
          go_wp2_with fail
          refine (hasp_any s hs _).mono ?_
          rintro e w' ⟨rfl, hw⟩
          replace hw := hw.symm
          subst hw
          rw [hh0]
          clear hh0
          go_wp2
          go_loopw [22] (fun i wr => ∃ k : Nat, k ≤ s.size ∧ i = .int .i64 (k : Int) ∧ (∀ j, j < k → innB (bt s j) = true) ∧ Below w.heap.size w wr) (fun i _ => s.size - (intOf i).toNat)
          case atStart => exact ⟨0, Nat.zero_le _, rfl, fun j h => absurd h (Nat.not_lt_zero _), Below.refl _ _⟩
          case round =>
            obtain ⟨k, hk, rfl, hall, hB⟩ := hrel
            by_cases hlt : k < s.size
            · have hk2 := HR.out.2.2.2.2.2 k hlt
              have HI := hide (ofName_any (bt s k) (bt_lt s k) wr)
              have HA := hide (And.intro hall hB)
              clear hall hB
              cases hv : innB (bt s k) with
              | true =>
                rw [hv] at HI
                have HV := hide hv
                clear hv
                go_wp2_with fail
                refine (HI.out _ rfl).mono ?_
                rintro e w' ⟨rfl, hw⟩
                replace hw := hw.symm
                subst hw
                go_wp2
                go_roundw
                case rel => exact ⟨k + 1, by omega, by go_num, all_next HA.out.1 HV.out, HA.out.2⟩
                case measure => simp [intOf]; omega
              | false =>
                rw [hv] at HI
                have HV := hide (show R = false by rw [← HR.out.1]; exact name_no hlt hv)
                clear hv
                go_wp2_with fail
                refine (HI.out _ rfl).mono ?_
                rintro e w' ⟨rfl, hw⟩
                replace hw := hw.symm
                subst hw
                go_wp2
                go_ret
                exact ⟨by rw [HV.out]; rfl, HA.out.2⟩
            · obtain rfl : k = s.size := by omega
              have HV := hide (show R = true by rw [← HR.out.1]; exact name_yes HR.out.2.2.2.1 HR.out.2.2.2.2.1 HR.out.2.1 HR.out.2.2.1 hall)
              have HBB := hide hB
              clear hall hB
              go_wp2
              go_ret
              exact ⟨by rw [HV.out]; rfl, HBB.out⟩
    · have d1 : decide ((s.size : Int) < 1) = false := decide_eq_false (by omega)
      have d2 : decide ((32 : Int) < (s.size : Int)) = true := decide_eq_true (by omega)
      have HR := hide (show R = false by rw [← hR]; unfold nameB; simp; omega)
      clear hR
      go_enter Tryz.func62, Tryz.ntmps62
      go_wp2
      go_ret
      exact ⟨by rw [HR.out]; rfl, Below.refl _ _⟩
  · have d1 : decide ((s.size : Int) < 1) = true := decide_eq_true (by omega)
    have HR := hide (show R = false by rw [← hR]; unfold nameB; simp; omega)
    clear hR
    go_enter Tryz.func62, Tryz.ntmps62
    go_wp2
    go_ret
    exact ⟨by rw [HR.out]; rfl, Below.refl _ _⟩
set_option maxRecDepth 100000 in
set_option maxHeartbeats 1000000 in
theorem rName_any (s : ByteArray) (hs : s.size ≤ 9223372036854775807) (w : World) : Calls Tryz.prog 41 #[.string s] w fun e w' => e = .returned (.bool (nameB s)) ∧ Below w.heap.size w w' := by
  obtain ⟨R, hR⟩ : ∃ R, nameB s = R := ⟨_, rfl⟩
  rw [hR]
  by_cases h1 : 1 ≤ s.size
  · by_cases h2 : s.size ≤ 32
    · have d1 : decide ((s.size : Int) < 1) = false := decide_eq_false (by omega)
      have d2 : decide ((32 : Int) < (s.size : Int)) = false := decide_eq_false (by omega)
      have hix : ∀ k, k < s.size → ∀ w_ : World, (Instr.index 9 (.string s) (.int .i64 (k : Int))).run Tryz.prog w_ = .ok (.int .u8 (bt s k : Int)) w_ := fun k hk w_ => str_ix s k hk w_
      have hi0 : ∀ w_ : World, (Instr.index 9 (.string s) (.int .i64 0)).run Tryz.prog w_ = .ok (.int .u8 (bt s 0 : Int)) w_ := hix 0 (by omega)
      have HL := hide (rletter_any (bt s 0) (bt_lt s 0) w)
      cases hl : letB (bt s 0) with
      | false =>
        have HR := hide (show R = false by rw [← hR]; unfold nameB; rw [hl]; simp)
        clear hR
        go_enter Tryz.func41, Tryz.ntmps41
        go_wp2_with fail
        refine (HL.out _ rfl).mono ?_
        rintro e w' ⟨rfl, hw⟩
        replace hw := hw.symm
        subst hw
        rw [hl]
        go_wp2
        go_ret
        exact ⟨by rw [HR.out]; rfl, Below.refl _ _⟩
      | true =>
        by_cases h4 : 4 ≤ s.size
        · have d4 : decide ((4 : Int) ≤ (s.size : Int)) = true := decide_eq_true (by omega)
          cases hx : ((s.extract 0 4).toList == [104, 101, 120, 58]) with
          | true =>
            have hh : hexB s = true := by unfold hexB; rw [hx]; simp [h4]
            have HR := hide (show R = false by rw [← hR]; unfold nameB; rw [hh]; simp)
            clear hh
            clear hR
            go_enter Tryz.func41, Tryz.ntmps41
            go_wp2_with fail
            refine (HL.out _ rfl).mono ?_
            rintro e w' ⟨rfl, hw⟩
            replace hw := hw.symm
            subst hw
            rw [hl]
            go_wp2
            go_ret
            exact ⟨by rw [HR.out]; rfl, Below.refl _ _⟩
          | false =>
            have hh : hexB s = false := by unfold hexB; rw [hx]; simp
            have HR := hide (And.intro hR (And.intro hl (And.intro hh (And.intro h1 (And.intro h2 hix)))))
            clear hR hh hix
            go_enter Tryz.func41, Tryz.ntmps41
            go_wp2_with fail
            refine (HL.out _ rfl).mono ?_
            rintro e w' ⟨rfl, hw⟩
            replace hw := hw.symm
            subst hw
            rw [hl]
            clear hl HL
            go_wp2
            go_loopw [30] (fun i wr => ∃ k : Nat, k ≤ s.size ∧ i = .int .i64 (k : Int) ∧ (∀ j, j < k → innB (bt s j) = true) ∧ Below w.heap.size w wr) (fun i _ => s.size - (intOf i).toNat)
            case atStart => exact ⟨0, Nat.zero_le _, rfl, fun j h => absurd h (Nat.not_lt_zero _), Below.refl _ _⟩
            case round =>
              obtain ⟨k, hk, rfl, hall, hB⟩ := hrel
              by_cases hlt : k < s.size
              · have hk2 := HR.out.2.2.2.2.2 k hlt
                have HI := hide (inner_any (bt s k) (bt_lt s k) wr)
                have HA := hide (And.intro hall hB)
                clear hall hB
                cases hv : innB (bt s k) with
                | true =>
                  rw [hv] at HI
                  have HV := hide hv
                  clear hv
                  go_wp2_with fail
                  refine (HI.out _ rfl).mono ?_
                  rintro e w' ⟨rfl, hw⟩
                  replace hw := hw.symm
                  subst hw
                  go_wp2
                  go_roundw
                  case rel => exact ⟨k + 1, by omega, by go_num, all_next HA.out.1 HV.out, HA.out.2⟩
                  case measure => simp [intOf]; omega
                | false =>
                  rw [hv] at HI
                  have HV := hide (show R = false by rw [← HR.out.1]; exact name_no hlt hv)
                  clear hv
                  go_wp2_with fail
                  refine (HI.out _ rfl).mono ?_
                  rintro e w' ⟨rfl, hw⟩
                  replace hw := hw.symm
                  subst hw
                  go_wp2
                  go_ret
                  exact ⟨by rw [HV.out]; rfl, HA.out.2⟩
              · obtain rfl : k = s.size := by omega
                have HV := hide (show R = true by rw [← HR.out.1]; exact name_yes HR.out.2.2.2.1 HR.out.2.2.2.2.1 HR.out.2.1 HR.out.2.2.1 hall)
                have HBB := hide hB
                clear hall hB
                go_wp2
                go_ret
                exact ⟨by rw [HV.out]; rfl, HBB.out⟩
        · have d4 : decide ((4 : Int) ≤ (s.size : Int)) = false := decide_eq_false (by omega)
          have hh : hexB s = false := by unfold hexB; simp [h4]
          have HR := hide (And.intro hR (And.intro hl (And.intro hh (And.intro h1 (And.intro h2 hix)))))
          clear hR hh hix
          go_enter Tryz.func41, Tryz.ntmps41
          go_wp2_with fail
          refine (HL.out _ rfl).mono ?_
          rintro e w' ⟨rfl, hw⟩
          replace hw := hw.symm
          subst hw
          rw [hl]
          clear hl HL
          go_wp2
          go_loopw [30] (fun i wr => ∃ k : Nat, k ≤ s.size ∧ i = .int .i64 (k : Int) ∧ (∀ j, j < k → innB (bt s j) = true) ∧ Below w.heap.size w wr) (fun i _ => s.size - (intOf i).toNat)
          case atStart => exact ⟨0, Nat.zero_le _, rfl, fun j h => absurd h (Nat.not_lt_zero _), Below.refl _ _⟩
          case round =>
            obtain ⟨k, hk, rfl, hall, hB⟩ := hrel
            by_cases hlt : k < s.size
            · have hk2 := HR.out.2.2.2.2.2 k hlt
              have HI := hide (inner_any (bt s k) (bt_lt s k) wr)
              have HA := hide (And.intro hall hB)
              clear hall hB
              cases hv : innB (bt s k) with
              | true =>
                rw [hv] at HI
                have HV := hide hv
                clear hv
                go_wp2_with fail
                refine (HI.out _ rfl).mono ?_
                rintro e w' ⟨rfl, hw⟩
                replace hw := hw.symm
                subst hw
                go_wp2
                go_roundw
                case rel => exact ⟨k + 1, by omega, by go_num, all_next HA.out.1 HV.out, HA.out.2⟩
                case measure => simp [intOf]; omega
              | false =>
                rw [hv] at HI
                have HV := hide (show R = false by rw [← HR.out.1]; exact name_no hlt hv)
                clear hv
                go_wp2_with fail
                refine (HI.out _ rfl).mono ?_
                rintro e w' ⟨rfl, hw⟩
                replace hw := hw.symm
                subst hw
                go_wp2
                go_ret
                exact ⟨by rw [HV.out]; rfl, HA.out.2⟩
            · obtain rfl : k = s.size := by omega
              have HV := hide (show R = true by rw [← HR.out.1]; exact name_yes HR.out.2.2.2.1 HR.out.2.2.2.2.1 HR.out.2.1 HR.out.2.2.1 hall)
              have HBB := hide hB
              clear hall hB
              go_wp2
              go_ret
              exact ⟨by rw [HV.out]; rfl, HBB.out⟩
    · have d1 : decide ((s.size : Int) < 1) = false := decide_eq_false (by omega)
      have d2 : decide ((32 : Int) < (s.size : Int)) = true := decide_eq_true (by omega)
      have HR := hide (show R = false by rw [← hR]; unfold nameB; simp; omega)
      clear hR
      go_enter Tryz.func41, Tryz.ntmps41
      go_wp2
      go_ret
      exact ⟨by rw [HR.out]; rfl, Below.refl _ _⟩
  · have d1 : decide ((s.size : Int) < 1) = true := decide_eq_true (by omega)
    have HR := hide (show R = false by rw [← hR]; unfold nameB; simp; omega)
    clear hR
    go_enter Tryz.func41, Tryz.ntmps41
    go_wp2
    go_ret
    exact ⟨by rw [HR.out]; rfl, Below.refl _ _⟩
end Go.Proofs.YteiacgpaocnofaaGreat
