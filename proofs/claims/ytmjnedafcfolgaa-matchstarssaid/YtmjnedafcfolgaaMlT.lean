/- MatchStars: the law's call answers true. -/
import Derived.Test.YtmjnedafcfolgaaMlS
namespace Go.Proofs.Ytmjnedafcfolgaa
open Go.RowKit
theorem rep_at {k c i : Nat} : (List.replicate k c)[i]? = some c ↔ i < k := by
  rw [List.getElem?_replicate]
  split
  · simp; assumption
  · simp; omega
/-- So many bytes alike, taken one by one. -/
theorem star_ones (k c : Nat) : ∀ j, j ≤ k → Rep (Fr [onlyI c] (List.replicate k c)) (k - j) k := by
  intro j
  induction j with
  | zero => intro _; exact .nil
  | succ j ih =>
    intro h
    refine .cons (Fr.only.2 ⟨rep_at.2 (by omega), rfl⟩) ?_
    rw [show k - (j + 1) + 1 = k - j by omega]
    exact ih (by omega)
theorem two_eq (c : Nat) : [onlyI c, onlyI c] = [c, c].map onlyI := rfl
theorem fr_two {k c p q : Nat} : Fr [onlyI c, onlyI c] (List.replicate k c) p q ↔ q = p + 2 ∧ p + 2 ≤ k := by
  rw [two_eq, Fr.bytes]
  constructor
  · rintro ⟨h1, h2⟩
    refine ⟨h1, ?_⟩
    have := rep_at.1 (h2 1 c rfl)
    omega
  · rintro ⟨h1, h2⟩
    refine ⟨h1, fun i d hd => ?_⟩
    match i, hd with
    | 0, hd => injection hd with hd; subst hd; exact rep_at.2 (by omega)
    | 1, hd => injection hd with hd; subst hd; exact rep_at.2 (by omega)
    | i + 2, hd => simp at hd
theorem rep_two {k c p q : Nat} (h : Rep (Fr [onlyI c, onlyI c] (List.replicate k c)) p q) : (q - p) % 2 = 0 ∧ p ≤ q := by
  induction h with
  | nil => omega
  | cons h1 _ ih =>
    have := fr_two.1 h1
    omega
theorem two_ones (k c : Nat) : ∀ j, 2 * j ≤ k → Rep (Fr [onlyI c, onlyI c] (List.replicate k c)) (k - 2 * j) k := by
  intro j
  induction j with
  | zero => intro _; exact .nil
  | succ j ih =>
    intro h
    refine .cons (fr_two.2 ⟨rfl, by omega⟩) ?_
    rw [show k - 2 * (j + 1) + 2 = k - 2 * j by omega]
    exact ih (by omega)
theorem fit_star (k c : Nat) : Fr (starL [onlyI c]) (List.replicate k c) 0 k := by
  have := star_ones k c k (Nat.le_refl _)
  rw [Nat.sub_self] at this
  exact (Fr.star (clo_only c)).2 this
theorem fit_plus (k c : Nat) : Fr (plusL [onlyI c]) (List.replicate k c) 0 k ↔ 0 < k := by
  rw [Fr.plus (clo_only c)]
  constructor
  · rintro ⟨r, h1, _⟩
    exact rep_at.1 (Fr.only.1 h1).1
  · intro h
    have := star_ones k c (k - 1) (by omega)
    rw [show k - (k - 1) = 0 + 1 by omega] at this
    exact ⟨0 + 1, Fr.only.2 ⟨rep_at.2 h, rfl⟩, this⟩
theorem fit_opt (k c : Nat) : Fr (optL [onlyI c]) (List.replicate k c) 0 k ↔ k < 2 := by
  rw [Fr.opt (clo_only c), Fr.only, rep_at]
  omega
theorem fit_two (k c : Nat) : Fr (starL [onlyI c, onlyI c]) (List.replicate k c) 0 k ↔ k % 2 = 0 := by
  rw [Fr.star (show Clo [onlyI c, onlyI c] from (clo_only c).app (clo_only c))]
  constructor
  · intro h; have := rep_two h; omega
  · intro h
    have := two_ones k c (k / 2) (by omega)
    rw [show k - 2 * (k / 2) = 0 by omega] at this
    exact this
set_option maxRecDepth 100000 in
set_option maxHeartbeats 4000000 in
theorem stars_walk (n : Int) (c : Nat) (hc : c < 256) : Says 6 #[.int .i64 n, .int .u8 (c : Int)] (.bool true) := by
  intro w
  have HB0 := hide (Below.refl w.heap.size w)
  obtain ⟨k, hk, hk60⟩ : ∃ k : Nat, (IntKind.u64.wrap n).tmod 60 = (k : Int) ∧ k < 60 := by
    rw [IntKind.wrap_u64]
    refine ⟨(n % 18446744073709551616 % 60).toNat, ?_, by omega⟩
    rw [Int.tmod_eq_emod_of_nonneg (by omega)]
    omega
  have hstr : ∀ W : World, (convert 29 9 (.slice (some ⟨W.heap.size, 0, none⟩) 1 1)).run Try.prog (W.alloc (.cells #[.int .u8 (c : Int)] 5)) = .ok (.string ⟨#[UInt8.ofNat c]⟩) (W.alloc (.cells #[.int .u8 (c : Int)] 5)) := fun W => run_str1 W c hc
  have hbl : bl ⟨#[UInt8.ofNat c]⟩ = [c] := bl_byte c hc
  have hsz : (⟨#[UInt8.ofNat c]⟩ : ByteArray).size = 1 := rfl
  generalize (⟨#[UInt8.ofNat c]⟩ : ByteArray) = X at *
  have HX := hide hbl
  clear hbl
  go_enter Try.func6, Try.ntmps6
  go_wp2
  go_loopw [5, 20] (fun s5 s20 wr => ∃ (j : Nat) (S : ByteArray), j ≤ k ∧ s20 = .int .i64 (j : Int) ∧ s5 = .string S ∧ Hid (bl S = List.replicate j c) ∧ Hid (Below w.heap.size w wr)) (fun _ i _ => k - (intOf i).toNat)
  case atStart => exact ⟨0, ⟨#[]⟩, Nat.zero_le _, rfl, rfl, rfl, HB0⟩
  case round =>
    obtain ⟨j, S, hj, rfl, rfl, HS, HB⟩ := hrel
    have hS : S.size = j := by rw [← bl_len, HS.out]; simp
    have hs1 := hstr wr
    by_cases hlt : j < k
    · have hd : decide ((j : Int) < (k : Int)) = true := decide_eq_true (by omega)
      have z1 : ¬ 9223372036854775807 < S.size + X.size := by omega
      have HB2 := hide (HB.out.trans ((alloc_below wr (.cells #[.int .u8 (c : Int)] 5)).mono HB.out.size))
      clear hS hstr
      go_wp2
      go_roundw
      case rel => exact ⟨j + 1, _, by omega, by go_num, rfl, (by show bl _ = _; rw [bl_add, HS.out, HX.out, List.replicate_succ']), HB2⟩
      case measure => simp [intOf]; omega
    · obtain rfl : j = k := by omega
      have HJ := hide hk60
      have z1 : ¬ 9223372036854775807 < 1 + X.size := by omega
      have z2 : ¬ 9223372036854775807 < 1 + X.size + 1 := by omega
      have z3 : ¬ 9223372036854775807 < 1 + (1 + X.size) := by omega
      have z4 : ¬ 9223372036854775807 < 1 + (1 + X.size) + (1 + X.size) := by omega
      have z5 : ¬ 9223372036854775807 < 1 + (1 + X.size) + (1 + X.size) + 2 := by omega
      have b1 : bl ((⟨#[92]⟩ : ByteArray) ++ X ++ ⟨#[42]⟩) = [92, c, 42] := by simp only [bl_add, HX.out]; rfl
      have b2 : bl ((⟨#[92]⟩ : ByteArray) ++ X ++ ⟨#[43]⟩) = [92, c, 43] := by simp only [bl_add, HX.out]; rfl
      have b3 : bl ((⟨#[92]⟩ : ByteArray) ++ X ++ ⟨#[63]⟩) = [92, c, 63] := by simp only [bl_add, HX.out]; rfl
      have b4 : bl ((⟨#[40]⟩ : ByteArray) ++ (⟨#[92]⟩ ++ X) ++ (⟨#[92]⟩ ++ X) ++ ⟨#[41, 42]⟩) = [40, 92, c, 92, c, 41, 42] := by simp only [bl_add, HX.out]; rfl
      have h256 : S.size ≤ 256 := by omega
      have C1 := hide (whole_says (s := S) (b := true) (mR_of h256 ((congrArg comp b1).trans (cp_star c))) (by rw [HS.out, hS]; exact ⟨fun _ => fit_star j c, fun _ => rfl⟩))
      have C2 := hide (whole_says (s := S) (b := decide (0 < j)) (mR_of h256 ((congrArg comp b2).trans (cp_plus c))) (by rw [HS.out, hS, decide_eq_true_iff]; exact (fit_plus j c).symm))
      have C3 := hide (whole_says (s := S) (b := decide (j < 2)) (mR_of h256 ((congrArg comp b3).trans (cp_opt c))) (by rw [HS.out, hS, decide_eq_true_iff]; exact (fit_opt j c).symm))
      have C4 := hide (whole_says (s := S) (b := decide (j % 2 = 0)) (mR_of h256 ((congrArg comp b4).trans (cp_two c))) (by rw [HS.out, hS, decide_eq_true_iff]; exact (fit_two j c).symm))
      have f2 : decide ((0 : Int) < (j : Int)) = decide (0 < j) := by simp
      have f3 : decide ((j : Int) < 2) = decide (j < 2) := by apply decide_eq_decide.2; omega
      have f4 : ((j : Int).tmod 2 == 0) = decide (j % 2 = 0) := by
        rw [Int.tmod_eq_emod_of_nonneg (by omega)]
        by_cases h : j % 2 = 0
        · rw [decide_eq_true h]; exact beq_iff_eq.2 (by omega)
        · rw [decide_eq_false h]; exact beq_eq_false_iff_ne.2 (by omega)
      generalize decide (0 < j) = v2 at *
      generalize decide (j < 2) = v3 at *
      generalize decide (j % 2 = 0) = v4 at *
      obtain ⟨i, hi⟩ : ∃ i : Int, (j : Int) = i := ⟨_, rfl⟩
      rw [hi] at f2 f3 f4 hk
      have HB2 := hide (HB.out.trans ((alloc_below wr (.cells #[.int .u8 (c : Int)] 5)).mono HB.out.size))
      have hd : decide (i < i) = false := by simp
      rw [hi]
      clear hS hlt b1 b2 b3 b4 h256 hk60 hi hstr
      go_wp2_with fail
      refine (C1.out _).mono ?_
      rintro e_ w1 ⟨rfl, b1⟩
      have B1 := hide (Below.chain HB2.out b1)
      clear b1
      go_wp2_with fail
      refine (C2.out _).mono ?_
      rintro e_ w2 ⟨rfl, b1⟩
      have B2 := hide (Below.chain B1.out b1)
      clear b1
      go_wp2_with fail
      refine (C3.out _).mono ?_
      rintro e_ w3 ⟨rfl, b1⟩
      have B3 := hide (Below.chain B2.out b1)
      clear b1
      go_wp2_with fail
      refine (C4.out _).mono ?_
      rintro e_ w4 ⟨rfl, b1⟩
      have B4 := hide (Below.chain B3.out b1)
      clear b1
      go_wp2_with fail
      refine (awake_end B4.out).mono ?_
      rintro e_ w5 ⟨rfl, B5⟩
      go_wp2
      go_ret
      exact ⟨rfl, B5.out⟩
end Go.Proofs.Ytmjnedafcfolgaa
