/- Texts put behind one another, and cut; names with a letter more, with a blank in them. -/
import Derived.Test.YtgadglpbbcapcaaLf
namespace Go.Proofs.Ytgadglpbbcapcaa
open Go.RowKit
theorem bt_app (s r : ByteArray) (i : Nat) : bt (s ++ r) i = if i < s.size then bt s i else bt r (i - s.size) := by
  unfold bt
  rw [ByteArray.data_append, Array.getElem?_append]
  split
  · rw [if_pos (by assumption)]
  · rw [if_neg (by assumption)]; rfl
theorem bt_ext (s : ByteArray) (a b i : Nat) (h : i < min b s.size - a) : bt (s.extract a b) i = bt s (a + i) := by
  unfold bt
  rw [ByteArray.data_extract, Array.getElem?_extract]
  rw [if_pos (show i < min b s.data.size - a from h)]
theorem four_list {s : ByteArray} (h : 4 ≤ s.size) : (s.extract 0 4).toList = [s.data[0]?.getD 0, s.data[1]?.getD 0, s.data[2]?.getD 0, s.data[3]?.getD 0] := by
  rw [ByteArray.toList_eq, ByteArray.data_extract]
  have hs : 4 ≤ s.data.size := h
  apply List.ext_getElem?
  intro i
  rw [Array.getElem?_toList, Array.getElem?_extract]
  match i with
  | 0 => simp; exact ⟨by omega, by rw [Array.getElem?_eq_getElem (show 0 < s.data.size by omega)]; rfl⟩
  | 1 => simp; exact ⟨by omega, by rw [Array.getElem?_eq_getElem (show 1 < s.data.size by omega)]; rfl⟩
  | 2 => simp; exact ⟨by omega, by rw [Array.getElem?_eq_getElem (show 2 < s.data.size by omega)]; rfl⟩
  | 3 => simp; exact ⟨by omega, by rw [Array.getElem?_eq_getElem (show 3 < s.data.size by omega)]; rfl⟩
  | i + 4 => simp; omega
theorem hex_bt {s : ByteArray} : hexB s = true ↔ 4 ≤ s.size ∧ bt s 0 = 104 ∧ bt s 1 = 101 ∧ bt s 2 = 120 ∧ bt s 3 = 58 := by
  unfold hexB
  rw [Bool.and_eq_true, decide_eq_true_eq]
  constructor
  · rintro ⟨h, h2⟩
    rw [four_list h] at h2
    simp only [beq_iff_eq, List.cons.injEq, and_true] at h2
    obtain ⟨a0, a1, a2, a3⟩ := h2
    unfold bt
    rw [a0, a1, a2, a3]
    exact ⟨h, rfl, rfl, rfl, rfl⟩
  · rintro ⟨h, b0, b1, b2, b3⟩
    refine ⟨h, ?_⟩
    rw [four_list h]
    unfold bt at b0 b1 b2 b3
    simp only [beq_iff_eq, List.cons.injEq, and_true]
    exact ⟨UInt8.toNat_inj.1 b0, UInt8.toNat_inj.1 b1, UInt8.toNat_inj.1 b2, UInt8.toNat_inj.1 b3⟩
theorem name_parts {s : ByteArray} (h : nameB s = true) : 1 ≤ s.size ∧ s.size ≤ 32 ∧ letB (bt s 0) = true ∧ hexB s = false ∧ ∀ j, j < s.size → innB (bt s j) = true := by
  unfold nameB at h
  simp only [Bool.and_eq_true, decide_eq_true_eq, Bool.not_eq_true', List.all_eq_true, List.mem_range] at h
  exact ⟨h.1.1.1.1, h.1.1.1.2, h.1.1.2, h.1.2, h.2⟩
theorem name_x {s : ByteArray} (h : nameB s = true) : nameB (s ++ ⟨#[120]⟩) = decide (s.size < 32) := by
  obtain ⟨h1, h2, h3, h4, h5⟩ := name_parts h
  have hz : (s ++ ⟨#[120]⟩ : ByteArray).size = s.size + 1 := by rw [ByteArray.size_append]; rfl
  by_cases hl : s.size < 32
  · rw [decide_eq_true hl]
    refine name_yes (by omega) (by omega) (by rw [bt_app, if_pos (by omega)]; exact h3) ?_ fun j hj => ?_
    · cases hx : hexB (s ++ ⟨#[120]⟩) with
      | false => rfl
      | true =>
        obtain ⟨g, b0, b1, b2, b3⟩ := hex_bt.1 hx
        rw [hz] at g
        by_cases h34 : s.size = 3
        · rw [bt_app, if_neg (by omega), h34] at b3
          have : bt ⟨#[120]⟩ (3 - 3) = 120 := rfl
          omega
        · rw [bt_app, if_pos (by omega)] at b0 b1 b2 b3
          have := hex_bt.2 ⟨by omega, b0, b1, b2, b3⟩
          rw [h4] at this; cases this
    · rw [hz] at hj
      rw [bt_app]
      split
      · exact h5 j (by assumption)
      · rw [show j - s.size = 0 by omega]; decide +kernel
  · rw [decide_eq_false hl]
    unfold nameB
    rw [hz, decide_eq_false (show ¬ s.size + 1 ≤ 32 by omega)]
    simp
theorem name_1 (s : ByteArray) : nameB (⟨#[49]⟩ ++ s) = false := by
  have hb : bt (⟨#[49]⟩ ++ s) 0 = 49 := by rw [bt_app, if_pos (by show 0 < 1; decide)]; rfl
  unfold nameB
  rw [hb, show letB 49 = false by decide]
  simp
theorem name_blank (s : ByteArray) {k : Nat} (hk : k ≤ s.size) : nameB (s.extract 0 k ++ ⟨#[32]⟩ ++ s.extract k s.size) = false := by
  have hz : (s.extract 0 k).size = k := by rw [ByteArray.size_extract]; omega
  have h1 : (s.extract 0 k ++ (⟨#[32]⟩ : ByteArray)).size = k + 1 := by rw [ByteArray.size_append, hz]; rfl
  refine name_no (k := k) (by rw [ByteArray.size_append, h1]; omega) ?_
  rw [bt_app, if_pos (by omega), bt_app, if_neg (by omega), hz, Nat.sub_self]
  decide +kernel
theorem name_none : nameB ⟨#[]⟩ = false := by decide +kernel
theorem name_not_hex {s : ByteArray} (h : nameB s = true) : (s.toList == (⟨#[104, 101, 120, 58]⟩ : ByteArray).toList) = false := by
  obtain ⟨_, _, _, h4, _⟩ := name_parts h
  rw [beq_eq_false_iff_ne]
  intro e
  have := toList_inj e
  subst this
  rw [show hexB ⟨#[104, 101, 120, 58]⟩ = true by decide +kernel] at h4
  cases h4
theorem name_cut_hex {s : ByteArray} (h : nameB s = true) (h4 : 4 ≤ s.size) : ((s.extract 0 4).toList == (⟨#[104, 101, 120, 58]⟩ : ByteArray).toList) = false := by
  obtain ⟨_, _, _, hx, _⟩ := name_parts h
  unfold hexB at hx
  rw [decide_eq_true h4, Bool.true_and] at hx
  rw [show (⟨#[104, 101, 120, 58]⟩ : ByteArray).toList = [104, 101, 120, 58] by decide +kernel]
  exact hx
section
variable {ops : Array Oper} {Q : Exit → Act → World → Prop} {o : Oper} {T : STy} {a : Act} {w : World}
theorem g_addS (hw : Region.wanted o (yielded ops a.tmps) = true) {t u : TypeId} {x y : Operand} {s r : ByteArray} (ho : o.op = .binOp .add t x y u) (hx : a.eval x = .string s) (hy : a.eval y = .string r) (h : s.size + r.size ≤ 9223372036854775807) : Gives Try.prog ops Q o (isv (.string (s ++ r))) a w :=
  g_bin hw ho (v := .string (s ++ r)) (by
    have h2 : ¬ (IntKind.i64.max < ((s.size + r.size : Nat) : Int)) := by
      simp only [IntKind.max, IntKind.signed, IntKind.bits]
      omega
    rw [hx, hy]
    simp only [eqGuard, binOp, Op.stringOp, gt_iff_lt, if_neg h2]
    rfl) rfl
theorem g_slSu (hw : Region.wanted o (yielded ops a.tmps) = true) {x y : Operand} {s : ByteArray} (k : Nat) (ho : o.op = .slice 9 x none (some y) none) (hx : a.eval x = .string s) (hy : a.eval y = .int .i64 (k : Int)) (hk : k ≤ s.size) : Gives Try.prog ops Q o (isv (.string (s.extract 0 k))) a w := by
  have g1 : ¬ ((k : Int) < 0) := by omega
  have g2 : ¬ ((s.size : Int) < (k : Int)) := by omega
  refine g_run hw (v := .string (s.extract 0 k)) ?_ (Ext.refl w) rfl
  unfold execOp
  simp only [ho, hx, hy, Option.map_some, Option.map_none]
  go_simp
theorem g_slSf (hw : Region.wanted o (yielded ops a.tmps) = true) {x y : Operand} {s : ByteArray} (k : Nat) (ho : o.op = .slice 9 x (some y) none none) (hx : a.eval x = .string s) (hy : a.eval y = .int .i64 (k : Int)) (hk : k ≤ s.size) : Gives Try.prog ops Q o (isv (.string (s.extract k s.size))) a w := by
  have g1 : ¬ ((k : Int) < 0) := by omega
  have g2 : ¬ ((s.size : Int) < (k : Int)) := by omega
  have g4 : ¬ ((s.size : Int) < 0) := by omega
  refine g_run hw (v := .string (s.extract k s.size)) ?_ (Ext.refl w) rfl
  unfold execOp
  simp only [ho, hx, hy, Option.map_some, Option.map_none]
  go_simp
theorem g_lenS (hw : Region.wanted o (yielded ops a.tmps) = true) {x : Operand} {s : ByteArray} (ho : o.op = .call { callee := .builtin .len, args := #[x], argTypes := #[9] }) (hx : a.eval x = .string s) : Gives Try.prog ops Q o (isv (.int .i64 (s.size : Int))) a w := by
  refine g_run hw (v := .int .i64 (s.size : Int)) ?_ (Ext.refl w) rfl
  unfold execOp
  simp only [ho]
  generalize a.eval = ev at *
  go_simp
end
theorem h_nameM {s : ByteArray} {w : World} {v : Value} {M : Bool} (e : v = .string s) (hs : s.size ≤ 9223372036854775807) (hM : nameB s = M) : Hands Try.prog 21 #[v] w (isv (.bool M)) := by
  subst hM; exact h_name e hs
end Go.Proofs.Ytgadglpbbcapcaa
