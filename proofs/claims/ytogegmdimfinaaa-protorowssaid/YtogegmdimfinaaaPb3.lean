/- Reading a number, as the program's reader and the page's call do it. -/
import Derived.Test.YtogegmdimfinaaaPb1
import Derived.OwnWalk
namespace Go.Proofs.Ytogegmdimfinaaa
open Go.RowKit
/-- What the page's call hands back. -/
def rvt : Rd → Value
  | .bad e => .tuple #[.int .u64 0, .int .i64 0, .int .i64 (e : Int)]
  | .ok n k => .tuple #[.int .u64 (n : Int), .int .i64 (k : Int), .int .i64 0]
theorem and127b (c : Nat) (h : c < 256) : bits .and .u8 (c : Int) 127 = ((c % 128 : Nat) : Int) := by
  have : ∀ y : Fin 256, bits .and .u8 ((y.1 : Nat) : Int) 127 = ((y.1 % 128 : Nat) : Int) := by decide +kernel
  exact this ⟨c, h⟩
theorem drop_step {l : List Nat} {k : Nat} (h : k < l.length) : l.drop k = l.getD k 0 :: l.drop (k + 1) := by
  rw [List.drop_eq_getElem_cons h, List.getD_eq_getElem?_getD, List.getElem?_eq_getElem h]; rfl
theorem pow128 (k : Nat) : 128 ^ k = 2 ^ (7 * k) := by rw [Nat.pow_mul]
theorem shift_fits {x k : Nat} (hk : k ≤ 9) (hx : x < 256) (h9 : k = 9 → x ≤ 1) : x % 128 * 2 ^ (7 * k) < 18446744073709551616 := by
  by_cases e : k = 9
  · subst e
    have := h9 rfl
    have h1 : x % 128 ≤ 1 := by omega
    calc x % 128 * 2 ^ (7 * 9) ≤ 1 * 2 ^ (7 * 9) := Nat.mul_le_mul_right _ h1
      _ < 18446744073709551616 := by decide
  · have h1 : x % 128 < 2 ^ 7 := by omega
    calc x % 128 * 2 ^ (7 * k) < 2 ^ 7 * 2 ^ (7 * k) := (Nat.mul_lt_mul_right (Nat.two_pow_pos _)).2 h1
      _ = 2 ^ (7 + 7 * k) := (Nat.pow_add 2 7 (7 * k)).symm
      _ ≤ 2 ^ 64 := Nat.pow_le_pow_right (by decide) (by omega)
/-- A number with seven bits put into their place, where there is nothing. -/
theorem or_shift (acc x k : Nat) (hk : k ≤ 9) (ha : acc < 2 ^ (7 * k)) (hx : x < 256) (h9 : k = 9 → x ≤ 1) : bits .or .u64 (acc : Int) (IntKind.u64.wrap (((x % 128 : Nat) : Int) * 2 ^ (7 * k))) = ((acc + x % 128 * 128 ^ k : Nat) : Int) := by
  have h1 := shift_fits hk hx h9
  have h3 : 2 ^ (7 * k) ≤ 2 ^ 64 := Nat.pow_le_pow_right (by decide) (by omega)
  have e : IntKind.u64.wrap (((x % 128 : Nat) : Int) * 2 ^ (7 * k)) = ((x % 128 * 2 ^ (7 * k) : Nat) : Int) := by
    rw [show (((x % 128 : Nat) : Int) * 2 ^ (7 * k)) = ((x % 128 * 2 ^ (7 * k) : Nat) : Int) by simp, IntKind.wrap_u64]
    omega
  rw [e, bits_or_u64_nat _ _ (by omega) h1, pow128, Nat.or_comm, Nat.mul_comm (x % 128), ← Nat.two_pow_add_eq_or_of_lt ha, Nat.add_comm]
theorem acc_step {acc x k : Nat} (ha : acc < 2 ^ (7 * k)) : acc + x % 128 * 128 ^ k < 2 ^ (7 * (k + 1)) := by
  rw [pow128, show 7 * (k + 1) = 7 + 7 * k by omega, Nat.pow_add]
  have h1 : x % 128 < 2 ^ 7 := by omega
  have h2 : x % 128 * 2 ^ (7 * k) + 2 ^ (7 * k) ≤ 2 ^ 7 * 2 ^ (7 * k) := by
    rw [← Nat.succ_mul]; exact Nat.mul_le_mul_right _ h1
  omega
theorem rv_form1 {k acc x : Nat} {t : List Nat} (h : k = 9 ∧ 1 < x) : rv k acc (x :: t) = .bad 3 := by rw [rv, if_pos h]
theorem rv_form2 {k acc x : Nat} {t : List Nat} (h : 0 < k ∧ x = 0) : rv k acc (x :: t) = .bad 3 := by rw [rv, if_neg (by omega), if_pos h]
theorem rv_ok {k acc x : Nat} {t : List Nat} (h9 : k = 9 → x ≤ 1) (h0 : 0 < k → x ≠ 0) (h : x < 128) : rv k acc (x :: t) = .ok (acc + x % 128 * 128 ^ k) (k + 1) := by
  rw [rv, if_neg (by omega), if_neg (by omega), if_pos h, Nat.mod_eq_of_lt h]
theorem rv_go {k acc x : Nat} {t : List Nat} (h9 : k ≠ 9) (h0 : 0 < k → x ≠ 0) (h : 128 ≤ x) : rv k acc (x :: t) = rv (k + 1) (acc + x % 128 * 128 ^ k) t := by
  rw [rv, if_neg (by omega), if_neg (by omega), if_neg (by omega)]
set_option maxRecDepth 100000 in
set_option maxHeartbeats 2000000 in
theorem varint_rr {v : Value} {l : List Nat} {w : World} (h : BsAt w v l) : Calls Try.prog 30 #[v] w fun e w' => e = .returned (rvt (rv 0 0 l)) ∧ w' = w := by
  obtain ⟨R, hR⟩ : ∃ R, rv 0 0 l = R := ⟨_, rfl⟩
  obtain ⟨V, hV⟩ : ∃ V, rvt R = V := ⟨_, rfl⟩
  rw [hR, hV]
  have hlim := h.lim
  obtain ⟨b, o, c, ao, rfl, hc, hm, _, hh⟩ := h
  have HH := hide (And.intro hh (And.intro hlim (And.intro hR hV)))
  clear hh hlim hR hV hm
  go_enter Try.func30, Try.ntmps30
  go_wp2
  go_loopw [10, 5] (fun i a wr => ∃ (k acc : Nat), i = .int .i64 (k : Int) ∧ a = .int .u64 (acc : Int) ∧ k ≤ l.length ∧ k ≤ 9 ∧ acc < 2 ^ (7 * k) ∧ rv k acc (l.drop k) = R ∧ wr = w) (fun i _ _ => l.length - (intOf i).toNat)
  case atStart => exact ⟨0, 0, rfl, rfl, Nat.zero_le _, by decide, by decide, by rw [List.drop_zero]; exact HH.out.2.2.1, rfl⟩
  case round =>
    obtain ⟨k, acc, rfl, rfl, hk, hk9, hacc, hrv, rfl⟩ := hrel
    by_cases hlt : k < l.length
    · have hb := HH.out.2.1 k
      obtain ⟨rfl, hbb, hr⟩ := HH.out.1 (fun e => by subst e; simp at hlt)
      have hcell := hr k hlt
      have hix := fun w_ => run_ix w_ b o l.length c k hlt
      rw [drop_step hlt] at hrv
      generalize l.getD k 0 = x at *
      clear hr hbb
      have ea := and127b x hb
      by_cases h9 : k = 9
      · by_cases h1 : 1 < x
        · have d9 : ((k : Int) == 9) = true := by subst h9; rfl
          have d1 : decide ((1 : Int) < (x : Int)) = true := decide_eq_true (by omega)
          rw [rv_form1 ⟨h9, h1⟩] at hrv
          clear ea
          have HX := hide (hrv)
          have hk0 : 0 < k := by omega
          clear hrv hacc h9
          go_wp2
          go_ret3
          exact ⟨by rw [← HH.out.2.2.2, ← HX.out]; rfl, rfl⟩
        · by_cases hx0 : x = 0
          · have d9 : ((k : Int) == 9) = true := by subst h9; rfl
            have d1 : decide ((1 : Int) < (x : Int)) = false := decide_eq_false (by omega)
            have dk : decide ((0 : Int) < (k : Int)) = true := decide_eq_true (by omega)
            have dx : ((x : Int) == 0) = true := by subst hx0; rfl
            rw [rv_form2 ⟨by omega, hx0⟩] at hrv
            clear ea
            have HX := hide (hrv)
            have hk0 : 0 < k := by omega
            clear hrv hacc h9 hx0
            go_wp2
            go_ret3
            exact ⟨by rw [← HH.out.2.2.2, ← HX.out]; rfl, rfl⟩
          · have h8 : x < 128 := by omega
            have d9 : ((k : Int) == 9) = true := by subst h9; rfl
            have d1 : decide ((1 : Int) < (x : Int)) = false := decide_eq_false (by omega)
            have dk : decide ((0 : Int) < (k : Int)) = true := decide_eq_true (by omega)
            have dx : ((x : Int) == 0) = false := by rw [beq_eq_false_iff_ne]; omega
            have d128 : decide ((x : Int) < 128) = true := decide_eq_true (by omega)
            rw [rv_ok (fun e => by omega) (fun _ => by omega) h8] at hrv
            have hor := or_shift acc x k hk9 hacc hb (fun e => by omega)
            have hzw : IntKind.u64.wrap ((x % 128 : Nat) : Int) = ((x % 128 : Nat) : Int) := by rw [IntKind.wrap_u64]; omega
            generalize hzq : x % 128 = z at *
            generalize hac2 : acc + z * 128 ^ k = acc2 at *
            clear hzq hac2
            have HX := hide (hrv)
            have hk0 : 0 < k := by omega
            clear hrv hacc h9
            go_wp2
            go_ret3
            exact ⟨by rw [← HH.out.2.2.2, ← HX.out]; rfl, rfl⟩
      · by_cases hk0 : 0 < k
        · by_cases hx0 : x = 0
          · have d9 : ((k : Int) == 9) = false := by rw [beq_eq_false_iff_ne]; omega
            have dk : decide ((0 : Int) < (k : Int)) = true := decide_eq_true (by omega)
            have dx : ((x : Int) == 0) = true := by subst hx0; rfl
            rw [rv_form2 ⟨by omega, hx0⟩] at hrv
            clear ea
            have HX := hide (hrv)
            clear hrv hacc hx0
            go_wp2
            go_ret3
            exact ⟨by rw [← HH.out.2.2.2, ← HX.out]; rfl, rfl⟩
          · by_cases h8 : x < 128
            · have d9 : ((k : Int) == 9) = false := by rw [beq_eq_false_iff_ne]; omega
              have dk : decide ((0 : Int) < (k : Int)) = true := decide_eq_true (by omega)
              have dx : ((x : Int) == 0) = false := by rw [beq_eq_false_iff_ne]; omega
              have d128 : decide ((x : Int) < 128) = true := decide_eq_true (by omega)
              rw [rv_ok (fun e => by omega) (fun _ => by omega) h8] at hrv
              have hor := or_shift acc x k hk9 hacc hb (fun e => by omega)
              have hzw : IntKind.u64.wrap ((x % 128 : Nat) : Int) = ((x % 128 : Nat) : Int) := by rw [IntKind.wrap_u64]; omega
              generalize hzq : x % 128 = z at *
              generalize hac2 : acc + z * 128 ^ k = acc2 at *
              clear hzq hac2
              have HX := hide (hrv)
              clear hrv hacc
              go_wp2
              go_ret3
              exact ⟨by rw [← HH.out.2.2.2, ← HX.out]; rfl, rfl⟩
            · have d9 : ((k : Int) == 9) = false := by rw [beq_eq_false_iff_ne]; omega
              have dk : decide ((0 : Int) < (k : Int)) = true := decide_eq_true (by omega)
              have dx : ((x : Int) == 0) = false := by rw [beq_eq_false_iff_ne]; omega
              have d128 : decide ((x : Int) < 128) = false := decide_eq_false (by omega)
              rw [rv_go h9 (fun _ => by omega) (by omega)] at hrv
              have hor := or_shift acc x k hk9 hacc hb (fun e => by omega)
              have hzw : IntKind.u64.wrap ((x % 128 : Nat) : Int) = ((x % 128 : Nat) : Int) := by rw [IntKind.wrap_u64]; omega
              have hst := acc_step (x := x) hacc
              generalize hzq : x % 128 = z at *
              generalize hac2 : acc + z * 128 ^ k = acc2 at *
              clear hzq hac2
              have HX := hide (And.intro hrv hst)
              clear hrv hacc hst
              go_wp2
              go_roundw
              case rel => exact ⟨k + 1, acc2, by go_num, rfl, by omega, by omega, HX.out.2, HX.out.1, by first | rfl | trivial⟩
              case measure => simp [intOf]; omega
        · by_cases h8 : x < 128
          · by_cases hx0 : x = 0
            · have d9 : ((k : Int) == 9) = false := by rw [beq_eq_false_iff_ne]; omega
              have dk : decide ((0 : Int) < (k : Int)) = false := decide_eq_false (by omega)
              have dx : ((x : Int) == 0) = true := by subst hx0; rfl
              have d128 : decide ((x : Int) < 128) = true := decide_eq_true (by omega)
              rw [rv_ok (fun e => by omega) (fun _ => by omega) h8] at hrv
              have hor := or_shift acc x k hk9 hacc hb (fun e => by omega)
              have hzw : IntKind.u64.wrap ((x % 128 : Nat) : Int) = ((x % 128 : Nat) : Int) := by rw [IntKind.wrap_u64]; omega
              generalize hzq : x % 128 = z at *
              generalize hac2 : acc + z * 128 ^ k = acc2 at *
              clear hzq hac2
              have HX := hide (hrv)
              clear hrv hacc hx0
              go_wp2
              go_ret3
              exact ⟨by rw [← HH.out.2.2.2, ← HX.out]; rfl, rfl⟩
            · have d9 : ((k : Int) == 9) = false := by rw [beq_eq_false_iff_ne]; omega
              have dk : decide ((0 : Int) < (k : Int)) = false := decide_eq_false (by omega)
              have dx : ((x : Int) == 0) = false := by rw [beq_eq_false_iff_ne]; omega
              have d128 : decide ((x : Int) < 128) = true := decide_eq_true (by omega)
              rw [rv_ok (fun e => by omega) (fun _ => by omega) h8] at hrv
              have hor := or_shift acc x k hk9 hacc hb (fun e => by omega)
              have hzw : IntKind.u64.wrap ((x % 128 : Nat) : Int) = ((x % 128 : Nat) : Int) := by rw [IntKind.wrap_u64]; omega
              generalize hzq : x % 128 = z at *
              generalize hac2 : acc + z * 128 ^ k = acc2 at *
              clear hzq hac2
              have HX := hide (hrv)
              clear hrv hacc
              go_wp2
              go_ret3
              exact ⟨by rw [← HH.out.2.2.2, ← HX.out]; rfl, rfl⟩
          · have hx0 : x ≠ 0 := by omega
            have d9 : ((k : Int) == 9) = false := by rw [beq_eq_false_iff_ne]; omega
            have dk : decide ((0 : Int) < (k : Int)) = false := decide_eq_false (by omega)
            have dx : ((x : Int) == 0) = false := by rw [beq_eq_false_iff_ne]; omega
            have d128 : decide ((x : Int) < 128) = false := decide_eq_false (by omega)
            rw [rv_go h9 (fun _ => by omega) (by omega)] at hrv
            have hor := or_shift acc x k hk9 hacc hb (fun e => by omega)
            have hzw : IntKind.u64.wrap ((x % 128 : Nat) : Int) = ((x % 128 : Nat) : Int) := by rw [IntKind.wrap_u64]; omega
            have hst := acc_step (x := x) hacc
            generalize hzq : x % 128 = z at *
            generalize hac2 : acc + z * 128 ^ k = acc2 at *
            clear hzq hac2
            have HX := hide (And.intro hrv hst)
            clear hrv hacc hst
            go_wp2
            go_roundw
            case rel => exact ⟨k + 1, acc2, by go_num, rfl, by omega, by omega, HX.out.2, HX.out.1, by first | rfl | trivial⟩
            case measure => simp [intOf]; omega
    · rw [List.drop_eq_nil_of_le (by omega), rv] at hrv
      have HX := hide hrv
      clear hrv hacc hk9 hk
      go_wp2
      go_ret3
      exact ⟨by rw [← HH.out.2.2.2, ← HX.out]; rfl, rfl⟩
set_option maxRecDepth 100000 in
set_option maxHeartbeats 2000000 in
theorem varint_rd {g : Nat} {v : Value} {l : List Nat} {W w : World} (h : BsAt W v l) (hW : W.heap.size ≤ g) (hgw : W.grownBy w (some g)) (hr0 : w.heap[g]? = some (.cells #[v] 69 (0, 0))) (Q : Ending → World → Prop)
    (hbad : ∀ e', rv 0 0 l = .bad e' → Q (.returned (.tuple #[.int .u64 0, .int .i64 (e' : Int)])) w)
    (hok : ∀ n k v', rv 0 0 l = .ok n k → BsAt W v' (l.drop k) → Q (.returned (.tuple #[.int .u64 (n : Int), .int .i64 0])) (w.setCell ⟨g, 0, none⟩ v')) :
    Calls Try.prog 32 #[.pointer (some ⟨g, 0, none⟩)] w Q := by
  obtain ⟨R, hR⟩ : ∃ R, rv 0 0 l = R := ⟨_, rfl⟩
  have hlim := h.lim
  have HV := hide h
  have HB := hide hbad
  have HK := hide hok
  have HR := hide hR
  obtain ⟨b, o, c, ao, rfl, hc, hm, _, hh⟩ := h
  obtain ⟨x0, y0⟩ := row_reads hr0
  have HH := hide (And.intro hh (And.intro hlim (And.intro hgw hW)))
  clear hh hlim hR hm hbad hok hgw hW hr0
  have hcl0 := x0 0
  have hfr0 := y0 0
  simp at hcl0
  clear x0 y0
  go_enter Try.func32, Try.ntmps32
  go_wp2
  go_loopw [12, 4] (fun i a wr => ∃ (k acc : Nat), i = .int .i64 (k : Int) ∧ a = .int .u64 (acc : Int) ∧ k ≤ l.length ∧ k ≤ 9 ∧ acc < 2 ^ (7 * k) ∧ rv k acc (l.drop k) = R ∧ wr = w) (fun i _ _ => l.length - (intOf i).toNat)
  case atStart => exact ⟨0, 0, rfl, rfl, Nat.zero_le _, by decide, by decide, by rw [List.drop_zero]; exact HR.out, rfl⟩
  case round =>
    obtain ⟨k, acc, rfl, rfl, hk, hk9, hacc, hrv, rfl⟩ := hrel
    by_cases hlt : k < l.length
    · have hb := HH.out.2.1 k
      obtain ⟨rfl, hbb, hr⟩ := HH.out.1 (fun e => by subst e; simp at hlt)
      have hcell := HH.out.2.2.1.cell (hr k hlt) (by have := HH.out.2.2.2; simp; omega)
      have hix := fun w_ => run_ix w_ b o l.length c k hlt
      rw [drop_step hlt] at hrv
      generalize l.getD k 0 = x at *
      have hk8 := hide hk9
      clear hr hbb
      have ea := and127b x hb
      by_cases h9 : k = 9
      · by_cases h1 : 1 < x
        · have d9 : ((k : Int) == 9) = true := by subst h9; rfl
          have d1 : decide ((1 : Int) < (x : Int)) = true := decide_eq_true (by omega)
          rw [rv_form1 ⟨h9, h1⟩] at hrv
          clear ea
          have HX := hide (hrv)
          have hk0 : 0 < k := by omega
          clear hrv hacc h9
          have HQ2 := hide (HB.out 3 (HR.out.trans HX.out.symm))
          go_wp2
          exact HQ2.out
        · by_cases hx0 : x = 0
          · have d9 : ((k : Int) == 9) = true := by subst h9; rfl
            have d1 : decide ((1 : Int) < (x : Int)) = false := decide_eq_false (by omega)
            have dk : decide ((0 : Int) < (k : Int)) = true := decide_eq_true (by omega)
            have dx : ((x : Int) == 0) = true := by subst hx0; rfl
            rw [rv_form2 ⟨by omega, hx0⟩] at hrv
            clear ea
            have HX := hide (hrv)
            have hk0 : 0 < k := by omega
            clear hrv hacc h9 hx0
            have HQ2 := hide (HB.out 3 (HR.out.trans HX.out.symm))
            go_wp2
            exact HQ2.out
          · have h8 : x < 128 := by omega
            have d9 : ((k : Int) == 9) = true := by subst h9; rfl
            have d1 : decide ((1 : Int) < (x : Int)) = false := decide_eq_false (by omega)
            have dk : decide ((0 : Int) < (k : Int)) = true := decide_eq_true (by omega)
            have dx : ((x : Int) == 0) = false := by rw [beq_eq_false_iff_ne]; omega
            have d128 : decide ((x : Int) < 128) = true := decide_eq_true (by omega)
            rw [rv_ok (fun e => by omega) (fun _ => by omega) h8] at hrv
            have hor := or_shift acc x k hk9 hacc hb (fun e => by omega)
            have hzw : IntKind.u64.wrap ((x % 128 : Nat) : Int) = ((x % 128 : Nat) : Int) := by rw [IntKind.wrap_u64]; omega
            generalize hzq : x % 128 = z at *
            generalize hac2 : acc + z * 128 ^ k = acc2 at *
            clear hzq hac2
            have HX := hide (hrv)
            have hk0 : 0 < k := by omega
            clear hrv hacc h9
            obtain ⟨v2, hs2, _, hb2⟩ := slice_from HV.out (k + 1) (by omega)
            have HQ := hide (HK.out _ _ v2 (HR.out.trans HX.out.symm) hb2)
            have ek : ((k + 1 : Nat) : Int) = (k : Int) + 1 := by omega
            simp only [ek] at hs2
            obtain ⟨a2, c2, rfl, _, _⟩ := hb2.len
            clear ek
            clear hb2
            go_wp2
            have hfin := HQ.out
            rw [List.length_drop] at hfin
            exact hfin
      · by_cases hk0 : 0 < k
        · by_cases hx0 : x = 0
          · have d9 : ((k : Int) == 9) = false := by rw [beq_eq_false_iff_ne]; omega
            have dk : decide ((0 : Int) < (k : Int)) = true := decide_eq_true (by omega)
            have dx : ((x : Int) == 0) = true := by subst hx0; rfl
            rw [rv_form2 ⟨by omega, hx0⟩] at hrv
            clear ea
            have HX := hide (hrv)
            clear hrv hacc hx0
            have HQ2 := hide (HB.out 3 (HR.out.trans HX.out.symm))
            go_wp2
            exact HQ2.out
          · by_cases h8 : x < 128
            · have d9 : ((k : Int) == 9) = false := by rw [beq_eq_false_iff_ne]; omega
              have dk : decide ((0 : Int) < (k : Int)) = true := decide_eq_true (by omega)
              have dx : ((x : Int) == 0) = false := by rw [beq_eq_false_iff_ne]; omega
              have d128 : decide ((x : Int) < 128) = true := decide_eq_true (by omega)
              rw [rv_ok (fun e => by omega) (fun _ => by omega) h8] at hrv
              have hor := or_shift acc x k hk9 hacc hb (fun e => by omega)
              have hzw : IntKind.u64.wrap ((x % 128 : Nat) : Int) = ((x % 128 : Nat) : Int) := by rw [IntKind.wrap_u64]; omega
              generalize hzq : x % 128 = z at *
              generalize hac2 : acc + z * 128 ^ k = acc2 at *
              clear hzq hac2
              have HX := hide (hrv)
              clear hrv hacc
              obtain ⟨v2, hs2, _, hb2⟩ := slice_from HV.out (k + 1) (by omega)
              have HQ := hide (HK.out _ _ v2 (HR.out.trans HX.out.symm) hb2)
              have ek : ((k + 1 : Nat) : Int) = (k : Int) + 1 := by omega
              simp only [ek] at hs2
              obtain ⟨a2, c2, rfl, _, _⟩ := hb2.len
              clear ek
              clear hb2
              go_wp2
              have hfin := HQ.out
              rw [List.length_drop] at hfin
              exact hfin
            · have d9 : ((k : Int) == 9) = false := by rw [beq_eq_false_iff_ne]; omega
              have dk : decide ((0 : Int) < (k : Int)) = true := decide_eq_true (by omega)
              have dx : ((x : Int) == 0) = false := by rw [beq_eq_false_iff_ne]; omega
              have d128 : decide ((x : Int) < 128) = false := decide_eq_false (by omega)
              rw [rv_go h9 (fun _ => by omega) (by omega)] at hrv
              have hor := or_shift acc x k hk9 hacc hb (fun e => by omega)
              have hzw : IntKind.u64.wrap ((x % 128 : Nat) : Int) = ((x % 128 : Nat) : Int) := by rw [IntKind.wrap_u64]; omega
              have hst := acc_step (x := x) hacc
              generalize hzq : x % 128 = z at *
              generalize hac2 : acc + z * 128 ^ k = acc2 at *
              clear hzq hac2
              have HX := hide (And.intro hrv hst)
              clear hrv hacc hst
              go_wp2
              go_roundw
              case rel => exact ⟨k + 1, acc2, by go_num, rfl, by omega, by omega, HX.out.2, HX.out.1, by first | rfl | trivial⟩
              case measure => simp [intOf]; omega
        · by_cases h8 : x < 128
          · by_cases hx0 : x = 0
            · have d9 : ((k : Int) == 9) = false := by rw [beq_eq_false_iff_ne]; omega
              have dk : decide ((0 : Int) < (k : Int)) = false := decide_eq_false (by omega)
              have dx : ((x : Int) == 0) = true := by subst hx0; rfl
              have d128 : decide ((x : Int) < 128) = true := decide_eq_true (by omega)
              rw [rv_ok (fun e => by omega) (fun _ => by omega) h8] at hrv
              have hor := or_shift acc x k hk9 hacc hb (fun e => by omega)
              have hzw : IntKind.u64.wrap ((x % 128 : Nat) : Int) = ((x % 128 : Nat) : Int) := by rw [IntKind.wrap_u64]; omega
              generalize hzq : x % 128 = z at *
              generalize hac2 : acc + z * 128 ^ k = acc2 at *
              clear hzq hac2
              have HX := hide (hrv)
              clear hrv hacc hx0
              obtain ⟨v2, hs2, _, hb2⟩ := slice_from HV.out (k + 1) (by omega)
              have HQ := hide (HK.out _ _ v2 (HR.out.trans HX.out.symm) hb2)
              have ek : ((k + 1 : Nat) : Int) = (k : Int) + 1 := by omega
              simp only [ek] at hs2
              obtain ⟨a2, c2, rfl, _, _⟩ := hb2.len
              clear ek
              clear hb2
              go_wp2
              have hfin := HQ.out
              rw [List.length_drop] at hfin
              exact hfin
            · have d9 : ((k : Int) == 9) = false := by rw [beq_eq_false_iff_ne]; omega
              have dk : decide ((0 : Int) < (k : Int)) = false := decide_eq_false (by omega)
              have dx : ((x : Int) == 0) = false := by rw [beq_eq_false_iff_ne]; omega
              have d128 : decide ((x : Int) < 128) = true := decide_eq_true (by omega)
              rw [rv_ok (fun e => by omega) (fun _ => by omega) h8] at hrv
              have hor := or_shift acc x k hk9 hacc hb (fun e => by omega)
              have hzw : IntKind.u64.wrap ((x % 128 : Nat) : Int) = ((x % 128 : Nat) : Int) := by rw [IntKind.wrap_u64]; omega
              generalize hzq : x % 128 = z at *
              generalize hac2 : acc + z * 128 ^ k = acc2 at *
              clear hzq hac2
              have HX := hide (hrv)
              clear hrv hacc
              obtain ⟨v2, hs2, _, hb2⟩ := slice_from HV.out (k + 1) (by omega)
              have HQ := hide (HK.out _ _ v2 (HR.out.trans HX.out.symm) hb2)
              have ek : ((k + 1 : Nat) : Int) = (k : Int) + 1 := by omega
              simp only [ek] at hs2
              obtain ⟨a2, c2, rfl, _, _⟩ := hb2.len
              clear ek
              clear hb2
              go_wp2
              have hfin := HQ.out
              rw [List.length_drop] at hfin
              exact hfin
          · have hx0 : x ≠ 0 := by omega
            have d9 : ((k : Int) == 9) = false := by rw [beq_eq_false_iff_ne]; omega
            have dk : decide ((0 : Int) < (k : Int)) = false := decide_eq_false (by omega)
            have dx : ((x : Int) == 0) = false := by rw [beq_eq_false_iff_ne]; omega
            have d128 : decide ((x : Int) < 128) = false := decide_eq_false (by omega)
            rw [rv_go h9 (fun _ => by omega) (by omega)] at hrv
            have hor := or_shift acc x k hk9 hacc hb (fun e => by omega)
            have hzw : IntKind.u64.wrap ((x % 128 : Nat) : Int) = ((x % 128 : Nat) : Int) := by rw [IntKind.wrap_u64]; omega
            have hst := acc_step (x := x) hacc
            generalize hzq : x % 128 = z at *
            generalize hac2 : acc + z * 128 ^ k = acc2 at *
            clear hzq hac2
            have HX := hide (And.intro hrv hst)
            clear hrv hacc hst
            go_wp2
            go_roundw
            case rel => exact ⟨k + 1, acc2, by go_num, rfl, by omega, by omega, HX.out.2, HX.out.1, by first | rfl | trivial⟩
            case measure => simp [intOf]; omega
    · rw [List.drop_eq_nil_of_le (by omega), rv] at hrv
      have HQ := hide (HB.out 2 (HR.out.trans hrv.symm))
      clear hrv hacc hk9 hk
      go_wp2

      exact HQ.out
end Go.Proofs.Ytogegmdimfinaaa
