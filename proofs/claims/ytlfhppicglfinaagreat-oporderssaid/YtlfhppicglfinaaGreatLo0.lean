/- OpOrders: the law answers true. -/
import Derived.Test.YtlfhppicglfinaaGreatOp2
import Derived.Test.YtlfhppicglfinaaGreatOl1
namespace Go.Proofs.YtlfhppicglfinaaGreat
open Go.RowKit
theorem empty_of {s : ByteArray} (h : s.toList.isEmpty = true) : s = ⟨#[]⟩ := by
  rw [List.isEmpty_iff, Lib.toList_data] at h
  obtain ⟨⟨l⟩⟩ := s
  have : l = [] := h
  rw [this]
/-- A number, or a date. -/
theorem fix_nd {t : Tm} (h : fixT t = true) (hk : t.k = 2 ∨ t.k = 4) : t.s = ⟨#[]⟩ ∧ t.l = [] := by
  obtain ⟨hl, h2⟩ := fix_flat h (by omega)
  refine ⟨?_, hl⟩
  unfold mayV at h2
  rcases hk with hk | hk
  · rw [if_neg (by omega), if_pos hk] at h2
    simp only [Bool.and_eq_true] at h2
    exact empty_of h2.1
  · rw [if_neg (by omega), if_neg (by omega), if_neg (by omega), if_pos hk] at h2
    simp only [Bool.and_eq_true] at h2
    exact empty_of h2.1.1.1
theorem same_nd {a b : Tm} (ha : fixT a = true) (hb : fixT b = true) (hk : a.k = 2 ∨ a.k = 4) (he : b.k = a.k) : (cp a b == 0) = decide (a.n = b.n) := by
  obtain ⟨sa, la⟩ := fix_nd ha hk
  obtain ⟨sb, lb⟩ := fix_nd hb (by omega)
  by_cases hn : a.n = b.n
  · have e : a = b := by
      obtain ⟨k, n, s, l⟩ := a
      obtain ⟨k2, m, s2, l2⟩ := b
      simp only [Tm.k, Tm.n, Tm.s, Tm.l] at *
      rw [he, hn, sa, sb, la, lb]
    rw [decide_eq_true hn, e, cp_refl]; rfl
  · rw [decide_eq_false hn]
    simp only [beq_eq_false_iff_ne, ne_eq]
    intro h
    exact hn (by rw [flat_eq la lb h])
/-- What the first six operations tell of two numbers, or dates. -/
def ordV (x y : Int) : Nat → Bool
  | 1 => decide (x < y)
  | 2 => decide (y < x)
  | 3 => decide (x ≤ y)
  | 4 => decide (y ≤ x)
  | 5 => decide (x = y)
  | 6 => !decide (x = y)
  | _ => false
theorem ord_any {a b : Tm} {a1 : Option Addr} {c1 : Nat} {a2 : Option Addr} {c2 : Nat} (fa : fixT a = true) (fb : fixT b = true) (hk : (bothB 2 a.k b.k || bothB 4 a.k b.k) = true) {c : Nat} (h1 : 1 ≤ c) (h6 : c ≤ 6) {w : World} (ha : TAt w a a1 c1) (hb : TAt w b a2 c2) :
    Calls Tryz.prog 12 #[.int .i64 (c : Int), tv a a1 c1, tv b a2 c2] w (OpF (trueT (ordV a.n b.n c)) 0 w) := by
  have hk2 : (a.k = 2 ∨ a.k = 4) ∧ b.k = a.k := by
    simp only [Bool.or_eq_true, both_iff] at hk
    omega
  have hl : ((a.k == b.k) && fixK a.k) = true := by
    rw [hk2.2]
    unfold fixK
    simp only [beq_self_eq_true, Bool.true_and, decide_eq_true_eq]
    omega
  have hs := same_nd fa fb hk2.1 hk2.2
  have hcc : c = 1 ∨ c = 2 ∨ c = 3 ∨ c = 4 ∨ c = 5 ∨ c = 6 := by omega
  rcases hcc with rfl | rfl | rfl | rfl | rfl | rfl
  · exact bin1F (trueT_fl _) ha hb fa fb hk fun W _ _ _ => less_any _ _ _ _ _ _ _ _ _ _ _ _ W
  · exact bin2F (trueT_fl _) ha hb fa fb hk fun W _ _ _ => more_any _ _ _ _ _ _ _ _ _ _ _ _ W
  · exact bin3F (trueT_fl _) ha hb fa fb hk fun W _ _ _ => atMost_any _ _ _ _ _ _ _ _ _ _ _ _ W
  · exact bin4F (trueT_fl _) ha hb fa fb hk fun W _ _ _ => atLeast_any _ _ _ _ _ _ _ _ _ _ _ _ W
  · exact bin5F (trueT_fl _) ha hb fa fb hl fun W _ hA hB => by have h := same_any hA hB; rw [hs] at h; exact h
  · exact bin6F (trueT_fl _) ha hb fa fb hl fun W _ hA hB => by have h := other_any hA hB; rw [hs] at h; exact h
/-- The truths so far. -/
def arrV (V : Nat → Bool) (k : Nat) : Array Value := #[.bool false, .bool (decide (1 < k) && V 1), .bool (decide (2 < k) && V 2), .bool (decide (3 < k) && V 3), .bool (decide (4 < k) && V 4), .bool (decide (5 < k) && V 5), .bool (decide (6 < k) && V 6)]
theorem arr_next (V : Nat → Bool) {k : Nat} (h1 : 1 ≤ k) (h6 : k ≤ 6) : (arrV V k).setIfInBounds k (.bool (V k)) = arrV V (k + 1) := by
  have hcc : k = 1 ∨ k = 2 ∨ k = 3 ∨ k = 4 ∨ k = 5 ∨ k = 6 := by omega
  rcases hcc with rfl | rfl | rfl | rfl | rfl | rfl <;> simp [arrV]
theorem arr_get (V : Nat → Bool) {k : Nat} (h1 : 1 ≤ k) (h6 : k ≤ 6) : (arrV V k)[k]? = some (.bool false) := by
  have hcc : k = 1 ∨ k = 2 ∨ k = 3 ∨ k = 4 ∨ k = 5 ∨ k = 6 := by omega
  rcases hcc with rfl | rfl | rfl | rfl | rfl | rfl <;> simp [arrV]
end Go.Proofs.YtlfhppicglfinaaGreat
