/- RegexClasses: the law's call answers true. -/
import Derived.Test.YtglmojplbjfinaaLwP
import Derived.Test.YtglmojplbjfinaaRxCls
namespace Go.Proofs.Ytglmojplbjfinaa
open Go.RowKit
theorem run_str1 (w : World) (c : Nat) (hc : c < 256) : (convert 35 9 (.slice (some ⟨w.heap.size, 0, none⟩) 1 1)).run Try.prog (w.alloc (.cells #[.int .u8 (c : Int)] 5)) = .ok (.string ⟨#[UInt8.ofNat c]⟩) (w.alloc (.cells #[.int .u8 (c : Int)] 5)) := by
  refine run_convert_bytes_back (P := Try.prog) _ 35 9 5 ⟨w.heap.size, 0, none⟩ 1 [UInt8.ofNat c] Try.underlying35 Try.underlying5 Try.underlying9 fun j hj => ?_
  match j, hj with
  | 0, _ =>
    rw [Addr.add_mid, Nat.zero_add, cell_of_row _ _ _ _ _ _ (heap_alloc_last w _)]
    simp [Nat.mod_eq_of_lt hc]
theorem bl_byte (c : Nat) (hc : c < 256) : bl ⟨#[UInt8.ofNat c]⟩ = [c] := by
  show [(UInt8.ofNat c).toNat] = [c]
  have e : (UInt8.ofNat c).toNat = c := by rw [UInt8.toNat_ofNat']; omega
  rw [e]
theorem and_bit (X q : Nat) (hX : X < 18446744073709551616) : (bits .and .u64 ((X : Int) / 2 ^ q) 1 == 1) = X.testBit q := by
  have h1 : (X : Int) / 2 ^ q = ((X / 2 ^ q : Nat) : Int) := by simp
  have h2 : X / 2 ^ q < 18446744073709551616 := Nat.lt_of_le_of_lt (Nat.div_le_self _ _) hX
  rw [h1, show (1 : Int) = ((1 : Nat) : Int) from rfl, bits_and_u64_nat _ _ h2 (by decide), Nat.and_one_is_mod, Nat.testBit_eq_decide_div_mod_eq]
  by_cases h3 : X / 2 ^ q % 2 = 1
  · rw [h3]; rfl
  · rw [show X / 2 ^ q % 2 = 0 by omega]; rfl
theorem pl_two (s : Nat → Nat) : plF 0 [charI s, stepI 6] = [charI s, stepI 6] := by simp [plF, plI, charI, stepI]
set_option maxRecDepth 100000 in
set_option maxHeartbeats 1000000 in
theorem cls_00 (a b : Nat) (ha : a < 256) (hb : b < 256) (hab : ¬ a ≤ b) : Says 6 #[.int .u8 (a : Int), .int .u8 (b : Int), .bool false] (.bool true) := by
  intro w
  have hd : decide (b < a) = true := decide_eq_true (by omega)
  have hs1 := run_str1 w a ha
  have hs2 := run_str1 (w.alloc (.cells #[.int .u8 (a : Int)] 5)) b hb
  rw [show (w.alloc (.cells #[.int .u8 (a : Int)] 5)).heap.size = w.heap.size + 1 by simp] at hs2
  have HB0 := hide (Below.chain (alloc_below w (.cells #[.int .u8 (a : Int)] 5)) (alloc_below (w.alloc (.cells #[.int .u8 (a : Int)] 5)) (.cells #[.int .u8 (b : Int)] 5)))
  have hbA := bl_byte a ha
  have hbB := bl_byte b hb
  have szA : (⟨#[UInt8.ofNat a]⟩ : ByteArray).size = 1 := rfl
  have szB : (⟨#[UInt8.ofNat b]⟩ : ByteArray).size = 1 := rfl
  generalize (⟨#[UInt8.ofNat a]⟩ : ByteArray) = A at *
  generalize (⟨#[UInt8.ofNat b]⟩ : ByteArray) = D at *
  have HQ := hide (And.intro hbA hbB)
  clear hbA hbB
  have HC : Hid (∀ w : World, Calls Try.prog 8 #[.string ((⟨#[91]⟩ : ByteArray) ++ ⟨#[92]⟩ ++ A ++ ⟨#[45, 92]⟩ ++ D ++ ⟨#[93]⟩)] w (CmpA w (.bad 3))) := hide (fun w => by
    have h9 := Compile_any ((⟨#[91]⟩ : ByteArray) ++ ⟨#[92]⟩ ++ A ++ ⟨#[45, 92]⟩ ++ D ++ ⟨#[93]⟩) (w := w)
    rw [show bl ((⟨#[91]⟩ : ByteArray) ++ ⟨#[92]⟩ ++ A ++ ⟨#[45, 92]⟩ ++ D ++ ⟨#[93]⟩) = clP false a b by simp only [bl_add, HQ.out.1, HQ.out.2]; rfl, cl_rev false a b hab] at h9
    exact h9)
  go_enter Try.func6, Try.ntmps6
  go_wp2_with fail
  refine (HC.out _).mono ?_
  rintro e_ w1 ⟨⟨rfl, _⟩, b1⟩
  replace HB0 := hide (Below.chain HB0.out b1)
  clear b1
  go_wp2_with fail
  refine (awake_any _).mono ?_
  rintro e_ w2 ⟨rfl, b2⟩
  replace HB0 := hide (Below.chain HB0.out b2)
  clear b2
  go_wp2
  go_ret
  exact ⟨rfl, HB0.out⟩

set_option maxRecDepth 100000 in
set_option maxHeartbeats 1000000 in
theorem cls_01 (a b : Nat) (ha : a < 256) (hb : b < 256) (hab : a ≤ b) : Says 6 #[.int .u8 (a : Int), .int .u8 (b : Int), .bool false] (.bool true) := by
  intro w
  have hd : decide (b < a) = false := decide_eq_false (by omega)
  have hs1 := run_str1 w a ha
  have hs2 := run_str1 (w.alloc (.cells #[.int .u8 (a : Int)] 5)) b hb
  rw [show (w.alloc (.cells #[.int .u8 (a : Int)] 5)).heap.size = w.heap.size + 1 by simp] at hs2
  have HB0 := hide (Below.chain (alloc_below w (.cells #[.int .u8 (a : Int)] 5)) (alloc_below (w.alloc (.cells #[.int .u8 (a : Int)] 5)) (.cells #[.int .u8 (b : Int)] 5)))
  have hbA := bl_byte a ha
  have hbB := bl_byte b hb
  have szA : (⟨#[UInt8.ofNat a]⟩ : ByteArray).size = 1 := rfl
  have szB : (⟨#[UInt8.ofNat b]⟩ : ByteArray).size = 1 := rfl
  generalize (⟨#[UInt8.ofNat a]⟩ : ByteArray) = A at *
  generalize (⟨#[UInt8.ofNat b]⟩ : ByteArray) = D at *
  have HQ := hide (And.intro hbA hbB)
  clear hbA hbB
  have HC : Hid (∀ w : World, Calls Try.prog 8 #[.string ((⟨#[91]⟩ : ByteArray) ++ ⟨#[92]⟩ ++ A ++ ⟨#[45, 92]⟩ ++ D ++ ⟨#[93]⟩)] w (CmpA w (.ok [charI (clS false a b), stepI 6] []))) := hide (fun w => by
    have h9 := Compile_any ((⟨#[91]⟩ : ByteArray) ++ ⟨#[92]⟩ ++ A ++ ⟨#[45, 92]⟩ ++ D ++ ⟨#[93]⟩) (w := w)
    rw [show bl ((⟨#[91]⟩ : ByteArray) ++ ⟨#[92]⟩ ++ A ++ ⟨#[45, 92]⟩ ++ D ++ ⟨#[93]⟩) = clP false a b by simp only [bl_add, HQ.out.1, HQ.out.2]; rfl, cl_ok false a b hab] at h9
    exact h9)
  go_enter Try.func6, Try.ntmps6
  go_wp2_with fail
  refine (HC.out _).mono ?_
  rintro e_ w1 ⟨⟨v1, rfl, gv⟩, b1⟩
  rw [pl_two] at gv
  obtain ⟨g, cap, rfl, hc1, hc2, hg, hr⟩ := gv
  replace HB0 := hide (Below.chain HB0.out b1)
  have k0 : w1.cell? ⟨g, 0, none⟩ = some (.int .i64 1) := hr 0 _ rfl 0 (by decide)
  have HR : Hid (∀ j, j < 4 → w1.cell? ⟨g, 1 + j, none⟩ = some (.int .u64 (clS false a b j : Int))) := hide (fun j hj => by
    obtain rfl | rfl | rfl | rfl : j = 0 ∨ j = 1 ∨ j = 2 ∨ j = 3 := by omega
    · exact hr 0 _ rfl 1 (by decide)
    · exact hr 0 _ rfl 2 (by decide)
    · exact hr 0 _ rfl 3 (by decide)
    · exact hr 0 _ rfl 4 (by decide))
  clear hr b1
  rw [show ([charI (clS false a b), stepI 6] : List In).length = 2 from rfl] at *
  go_wp2
  go_loopw [53] (fun s53 wr => ∃ i : Nat, i ≤ 256 ∧ s53 = .int .i64 (i : Int) ∧ wr = w1) (fun i _ => 256 - (intOf i).toNat)
  case atStart => exact ⟨0, by omega, rfl, rfl⟩
  case round =>
    obtain ⟨i, hi, rfl, hw⟩ := hrel
    replace hw := hw.symm
    subst hw
    by_cases hlt : i < 256
    · have hd2 : decide ((i : Int) < 256) = true := decide_eq_true (by omega)
      have hX := clS_lt false a b (i / 64)
      have hbit := clS_bit false a b i
      have r1 := HR.out (i / 64) (by omega)
      have hv := (and_bit (clS false a b (i / 64)) (i % 64) hX).trans hbit
      clear hbit
      generalize clS false a b (i / 64) = X at *
      have q1 : (i : Int).tdiv 64 = ((i / 64 : Nat) : Int) := by rw [Int.tdiv_eq_ediv_of_nonneg (by omega)]; omega
      have q2 : (i : Int).tmod 64 = ((i % 64 : Nat) : Int) := by rw [Int.tmod_eq_emod_of_nonneg (by omega)]; omega
      have q3 : IntKind.u64.wrap ((i % 64 : Nat) : Int) = ((i % 64 : Nat) : Int) := by rw [IntKind.wrap_u64]; omega
      have ha4 : ((i / 64 : Nat) : Int) < 4 := by omega
      have hq64 : i % 64 < 64 := Nat.mod_lt _ (by decide)
      generalize i / 64 = j at *
      generalize i % 64 = q at *
      by_cases h1 : a ≤ i
      · have d1 : decide (a ≤ i) = true := decide_eq_true h1
        by_cases h2 : i ≤ b
        · have d2 : decide (i ≤ b) = true := decide_eq_true h2
          rw [show (decide (a ≤ i ∧ i ≤ b) != false) = true by rw [decide_eq_true (show a ≤ i ∧ i ≤ b from ⟨h1, h2⟩)]; rfl] at hv
          go_wp2
          go_roundw
          case rel => exact ⟨i + 1, by omega, by go_num, trivial⟩
          case measure => simp [intOf]; omega

        · have d2 : decide (i ≤ b) = false := decide_eq_false h2
          rw [show (decide (a ≤ i ∧ i ≤ b) != false) = false by rw [decide_eq_false (show ¬ (a ≤ i ∧ i ≤ b) from fun h => h2 h.2)]; rfl] at hv
          go_wp2
          go_roundw
          case rel => exact ⟨i + 1, by omega, by go_num, trivial⟩
          case measure => simp [intOf]; omega

      · have d1 : decide (a ≤ i) = false := decide_eq_false h1
        rw [show (decide (a ≤ i ∧ i ≤ b) != false) = false by rw [decide_eq_false (show ¬ (a ≤ i ∧ i ≤ b) from fun h => h1 h.1)]; rfl] at hv
        go_wp2
        go_roundw
        case rel => exact ⟨i + 1, by omega, by go_num, trivial⟩
        case measure => simp [intOf]; omega
    · obtain rfl : i = 256 := by omega
      go_wp2_with fail
      refine (awake_any _).mono ?_
      rintro e_ w2 ⟨rfl, b2⟩
      replace HB0 := hide (Below.chain HB0.out b2)
      clear b2
      go_wp2
      go_ret
      exact ⟨rfl, HB0.out⟩

set_option maxRecDepth 100000 in
set_option maxHeartbeats 1000000 in
theorem cls_10 (a b : Nat) (ha : a < 256) (hb : b < 256) (hab : ¬ a ≤ b) : Says 6 #[.int .u8 (a : Int), .int .u8 (b : Int), .bool true] (.bool true) := by
  intro w
  have hd : decide (b < a) = true := decide_eq_true (by omega)
  have hs1 := run_str1 w a ha
  have hs2 := run_str1 (w.alloc (.cells #[.int .u8 (a : Int)] 5)) b hb
  rw [show (w.alloc (.cells #[.int .u8 (a : Int)] 5)).heap.size = w.heap.size + 1 by simp] at hs2
  have HB0 := hide (Below.chain (alloc_below w (.cells #[.int .u8 (a : Int)] 5)) (alloc_below (w.alloc (.cells #[.int .u8 (a : Int)] 5)) (.cells #[.int .u8 (b : Int)] 5)))
  have hbA := bl_byte a ha
  have hbB := bl_byte b hb
  have szA : (⟨#[UInt8.ofNat a]⟩ : ByteArray).size = 1 := rfl
  have szB : (⟨#[UInt8.ofNat b]⟩ : ByteArray).size = 1 := rfl
  generalize (⟨#[UInt8.ofNat a]⟩ : ByteArray) = A at *
  generalize (⟨#[UInt8.ofNat b]⟩ : ByteArray) = D at *
  have HQ := hide (And.intro hbA hbB)
  clear hbA hbB
  have HC : Hid (∀ w : World, Calls Try.prog 8 #[.string ((⟨#[91]⟩ ++ ⟨#[94]⟩ : ByteArray) ++ ⟨#[92]⟩ ++ A ++ ⟨#[45, 92]⟩ ++ D ++ ⟨#[93]⟩)] w (CmpA w (.bad 3))) := hide (fun w => by
    have h9 := Compile_any ((⟨#[91]⟩ ++ ⟨#[94]⟩ : ByteArray) ++ ⟨#[92]⟩ ++ A ++ ⟨#[45, 92]⟩ ++ D ++ ⟨#[93]⟩) (w := w)
    rw [show bl ((⟨#[91]⟩ ++ ⟨#[94]⟩ : ByteArray) ++ ⟨#[92]⟩ ++ A ++ ⟨#[45, 92]⟩ ++ D ++ ⟨#[93]⟩) = clP true a b by simp only [bl_add, HQ.out.1, HQ.out.2]; rfl, cl_rev true a b hab] at h9
    exact h9)
  go_enter Try.func6, Try.ntmps6
  go_wp2_with fail
  refine (HC.out _).mono ?_
  rintro e_ w1 ⟨⟨rfl, _⟩, b1⟩
  replace HB0 := hide (Below.chain HB0.out b1)
  clear b1
  go_wp2_with fail
  refine (awake_any _).mono ?_
  rintro e_ w2 ⟨rfl, b2⟩
  replace HB0 := hide (Below.chain HB0.out b2)
  clear b2
  go_wp2
  go_ret
  exact ⟨rfl, HB0.out⟩

set_option maxRecDepth 100000 in
set_option maxHeartbeats 1000000 in
theorem cls_11 (a b : Nat) (ha : a < 256) (hb : b < 256) (hab : a ≤ b) : Says 6 #[.int .u8 (a : Int), .int .u8 (b : Int), .bool true] (.bool true) := by
  intro w
  have hd : decide (b < a) = false := decide_eq_false (by omega)
  have hs1 := run_str1 w a ha
  have hs2 := run_str1 (w.alloc (.cells #[.int .u8 (a : Int)] 5)) b hb
  rw [show (w.alloc (.cells #[.int .u8 (a : Int)] 5)).heap.size = w.heap.size + 1 by simp] at hs2
  have HB0 := hide (Below.chain (alloc_below w (.cells #[.int .u8 (a : Int)] 5)) (alloc_below (w.alloc (.cells #[.int .u8 (a : Int)] 5)) (.cells #[.int .u8 (b : Int)] 5)))
  have hbA := bl_byte a ha
  have hbB := bl_byte b hb
  have szA : (⟨#[UInt8.ofNat a]⟩ : ByteArray).size = 1 := rfl
  have szB : (⟨#[UInt8.ofNat b]⟩ : ByteArray).size = 1 := rfl
  generalize (⟨#[UInt8.ofNat a]⟩ : ByteArray) = A at *
  generalize (⟨#[UInt8.ofNat b]⟩ : ByteArray) = D at *
  have HQ := hide (And.intro hbA hbB)
  clear hbA hbB
  have HC : Hid (∀ w : World, Calls Try.prog 8 #[.string ((⟨#[91]⟩ ++ ⟨#[94]⟩ : ByteArray) ++ ⟨#[92]⟩ ++ A ++ ⟨#[45, 92]⟩ ++ D ++ ⟨#[93]⟩)] w (CmpA w (.ok [charI (clS true a b), stepI 6] []))) := hide (fun w => by
    have h9 := Compile_any ((⟨#[91]⟩ ++ ⟨#[94]⟩ : ByteArray) ++ ⟨#[92]⟩ ++ A ++ ⟨#[45, 92]⟩ ++ D ++ ⟨#[93]⟩) (w := w)
    rw [show bl ((⟨#[91]⟩ ++ ⟨#[94]⟩ : ByteArray) ++ ⟨#[92]⟩ ++ A ++ ⟨#[45, 92]⟩ ++ D ++ ⟨#[93]⟩) = clP true a b by simp only [bl_add, HQ.out.1, HQ.out.2]; rfl, cl_ok true a b hab] at h9
    exact h9)
  go_enter Try.func6, Try.ntmps6
  go_wp2_with fail
  refine (HC.out _).mono ?_
  rintro e_ w1 ⟨⟨v1, rfl, gv⟩, b1⟩
  rw [pl_two] at gv
  obtain ⟨g, cap, rfl, hc1, hc2, hg, hr⟩ := gv
  replace HB0 := hide (Below.chain HB0.out b1)
  have k0 : w1.cell? ⟨g, 0, none⟩ = some (.int .i64 1) := hr 0 _ rfl 0 (by decide)
  have HR : Hid (∀ j, j < 4 → w1.cell? ⟨g, 1 + j, none⟩ = some (.int .u64 (clS true a b j : Int))) := hide (fun j hj => by
    obtain rfl | rfl | rfl | rfl : j = 0 ∨ j = 1 ∨ j = 2 ∨ j = 3 := by omega
    · exact hr 0 _ rfl 1 (by decide)
    · exact hr 0 _ rfl 2 (by decide)
    · exact hr 0 _ rfl 3 (by decide)
    · exact hr 0 _ rfl 4 (by decide))
  clear hr b1
  rw [show ([charI (clS true a b), stepI 6] : List In).length = 2 from rfl] at *
  go_wp2
  go_loopw [53] (fun s53 wr => ∃ i : Nat, i ≤ 256 ∧ s53 = .int .i64 (i : Int) ∧ wr = w1) (fun i _ => 256 - (intOf i).toNat)
  case atStart => exact ⟨0, by omega, rfl, rfl⟩
  case round =>
    obtain ⟨i, hi, rfl, hw⟩ := hrel
    replace hw := hw.symm
    subst hw
    by_cases hlt : i < 256
    · have hd2 : decide ((i : Int) < 256) = true := decide_eq_true (by omega)
      have hX := clS_lt true a b (i / 64)
      have hbit := clS_bit true a b i
      have r1 := HR.out (i / 64) (by omega)
      have hv := (and_bit (clS true a b (i / 64)) (i % 64) hX).trans hbit
      clear hbit
      generalize clS true a b (i / 64) = X at *
      have q1 : (i : Int).tdiv 64 = ((i / 64 : Nat) : Int) := by rw [Int.tdiv_eq_ediv_of_nonneg (by omega)]; omega
      have q2 : (i : Int).tmod 64 = ((i % 64 : Nat) : Int) := by rw [Int.tmod_eq_emod_of_nonneg (by omega)]; omega
      have q3 : IntKind.u64.wrap ((i % 64 : Nat) : Int) = ((i % 64 : Nat) : Int) := by rw [IntKind.wrap_u64]; omega
      have ha4 : ((i / 64 : Nat) : Int) < 4 := by omega
      have hq64 : i % 64 < 64 := Nat.mod_lt _ (by decide)
      generalize i / 64 = j at *
      generalize i % 64 = q at *
      by_cases h1 : a ≤ i
      · have d1 : decide (a ≤ i) = true := decide_eq_true h1
        by_cases h2 : i ≤ b
        · have d2 : decide (i ≤ b) = true := decide_eq_true h2
          rw [show (decide (a ≤ i ∧ i ≤ b) != true) = false by rw [decide_eq_true (show a ≤ i ∧ i ≤ b from ⟨h1, h2⟩)]; rfl] at hv
          go_wp2
          go_roundw
          case rel => exact ⟨i + 1, by omega, by go_num, trivial⟩
          case measure => simp [intOf]; omega

        · have d2 : decide (i ≤ b) = false := decide_eq_false h2
          rw [show (decide (a ≤ i ∧ i ≤ b) != true) = true by rw [decide_eq_false (show ¬ (a ≤ i ∧ i ≤ b) from fun h => h2 h.2)]; rfl] at hv
          go_wp2
          go_roundw
          case rel => exact ⟨i + 1, by omega, by go_num, trivial⟩
          case measure => simp [intOf]; omega

      · have d1 : decide (a ≤ i) = false := decide_eq_false h1
        rw [show (decide (a ≤ i ∧ i ≤ b) != true) = true by rw [decide_eq_false (show ¬ (a ≤ i ∧ i ≤ b) from fun h => h1 h.1)]; rfl] at hv
        go_wp2
        go_roundw
        case rel => exact ⟨i + 1, by omega, by go_num, trivial⟩
        case measure => simp [intOf]; omega
    · obtain rfl : i = 256 := by omega
      go_wp2_with fail
      refine (awake_any _).mono ?_
      rintro e_ w2 ⟨rfl, b2⟩
      replace HB0 := hide (Below.chain HB0.out b2)
      clear b2
      go_wp2
      go_ret
      exact ⟨rfl, HB0.out⟩

set_option maxRecDepth 100000 in
theorem cls_walk (a b : Nat) (nt : Bool) (ha : a < 256) (hb : b < 256) : Says 6 #[.int .u8 (a : Int), .int .u8 (b : Int), .bool nt] (.bool true) := by
  by_cases h : a ≤ b
  · cases nt with
    | false => exact cls_01 a b ha hb h
    | true => exact cls_11 a b ha hb h
  · cases nt with
    | false => exact cls_00 a b ha hb h
    | true => exact cls_10 a b ha hb h

end Go.Proofs.Ytglmojplbjfinaa
