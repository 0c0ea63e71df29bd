/- Heaps: a term put at the end goes up to its place, one put at the top goes down to it; the least one is on top. -/
import Derived.Test.YteiacgpaocnofaaGreatHl
namespace Go.Proofs.YteiacgpaocnofaaGreat
open Go.RowKit
abbrev gt (ys : List Tm) (k : Nat) : Tm := ys.getD k default
def HeapOk (ys : List Tm) (n : Nat) : Prop := ∀ c, 0 < c → c < n → cp (gt ys ((c - 1) / 2)) (gt ys c) ≤ 0
def HeapUp (ys : List Tm) (j n : Nat) : Prop := (∀ c, 0 < c → c < n → c ≠ j → cp (gt ys ((c - 1) / 2)) (gt ys c) ≤ 0) ∧ (0 < j → ∀ c, 0 < c → c < n → (c - 1) / 2 = j → cp (gt ys ((j - 1) / 2)) (gt ys c) ≤ 0)
def HeapDn (ys : List Tm) (i n : Nat) : Prop := (∀ c, 0 < c → c < n → (c - 1) / 2 ≠ i → cp (gt ys ((c - 1) / 2)) (gt ys c) ≤ 0) ∧ (0 < i → ∀ c, 0 < c → c < n → (c - 1) / 2 = i → cp (gt ys ((i - 1) / 2)) (gt ys c) ≤ 0)
theorem cp_le {a b c : Tm} (h1 : cp a b ≤ 0) (h2 : cp b c ≤ 0) : cp a c ≤ 0 := (cp_ord.trans a b c h1 h2).1
theorem cp_flip {a b : Tm} (h : ¬ cp a b < 0) : cp b a ≤ 0 := by have := cp_ord.anti a b; omega
theorem cp_refl (a : Tm) : cp a a = 0 := cp_ord.refl a
theorem up_done {ys : List Tm} {j n : Nat} (h : HeapUp ys j n) (hj : j = 0 ∨ ¬ cp (gt ys j) (gt ys ((j - 1) / 2)) < 0) : HeapOk ys n := fun c c0 cn => by
  by_cases e : c = j
  · subst e
    rcases hj with h0 | h0
    · omega
    · exact cp_flip h0
  · exact h.1 c c0 cn e
theorem up_step {ys : List Tm} {i j n : Nat} (h : HeapUp ys j n) (hj : 0 < j) (hjn : j < n) (hn : n ≤ ys.length) (hi : i = (j - 1) / 2) (hlt : cp (gt ys j) (gt ys i) < 0) : HeapUp (swp ys i j) i n := by
  have hin : i < ys.length := by omega
  have hjn2 : j < ys.length := by omega
  have hij : i < j := by omega
  have G : ∀ k, gt (swp ys i j) k = if k = j then gt ys i else if k = i then gt ys j else gt ys k := fun k => swp_get hin hjn2 k
  refine ⟨fun c c0 cn ci => ?_, fun i0 c c0 cn hc => ?_⟩
  · rw [G, G]
    by_cases e : c = j
    · subst e
      rw [if_pos rfl, ← hi, if_neg (by omega), if_pos rfl]
      omega
    · rw [if_neg e, if_neg ci]
      by_cases q : (c - 1) / 2 = j
      · rw [if_pos q, hi]
        exact h.2 hj c c0 cn q
      · rw [if_neg q]
        by_cases q2 : (c - 1) / 2 = i
        · rw [if_pos q2]
          have h1 := h.1 c c0 cn e
          rw [q2] at h1
          exact cp_le (by omega) h1
        · rw [if_neg q2]
          exact h.1 c c0 cn e
  · rw [G, G, if_neg (by omega), if_neg (by omega)]
    have hr := h.1 i i0 (by omega) (by omega)
    by_cases e : c = j
    · rw [if_pos e]; exact hr
    · rw [if_neg e, if_neg (by omega)]
      have h1 := h.1 c c0 cn e
      rw [hc] at h1
      exact cp_le hr h1
theorem dn_end {ys : List Tm} {i n : Nat} (h : HeapDn ys i n) (hn : n ≤ 2 * i + 1) : HeapOk ys n := fun c c0 cn => h.1 c c0 cn (by omega)
/-- The lesser of what lies beneath. -/
def Lesser (ys : List Tm) (i j n : Nat) : Prop := (j - 1) / 2 = i ∧ 0 < j ∧ j < n ∧ ∀ c, 0 < c → c < n → (c - 1) / 2 = i → cp (gt ys j) (gt ys c) ≤ 0
theorem lesser_one {ys : List Tm} {i n : Nat} (h1 : 2 * i + 1 < n) (h2 : ¬ 2 * i + 1 + 1 < n) : Lesser ys i (2 * i + 1) n := ⟨by omega, by omega, h1, fun c c0 cn hc => by
  obtain rfl : c = 2 * i + 1 := by omega
  have := cp_refl (gt ys (2 * i + 1)); omega⟩
theorem lesser_left {ys : List Tm} {i n : Nat} (h1 : 2 * i + 1 < n) (h3 : ¬ cp (gt ys (2 * i + 1 + 1)) (gt ys (2 * i + 1)) < 0) : Lesser ys i (2 * i + 1) n := ⟨by omega, by omega, h1, fun c c0 cn hc => by
  obtain rfl | rfl : c = 2 * i + 1 ∨ c = 2 * i + 1 + 1 := by omega
  · have := cp_refl (gt ys (2 * i + 1)); omega
  · exact cp_flip h3⟩
theorem lesser_right {ys : List Tm} {i n : Nat} (h2 : 2 * i + 1 + 1 < n) (h3 : cp (gt ys (2 * i + 1 + 1)) (gt ys (2 * i + 1)) < 0) : Lesser ys i (2 * i + 1 + 1) n := ⟨by omega, by omega, h2, fun c c0 cn hc => by
  obtain rfl | rfl : c = 2 * i + 1 ∨ c = 2 * i + 1 + 1 := by omega
  · omega
  · have := cp_refl (gt ys (2 * i + 1 + 1)); omega⟩
theorem dn_done {ys : List Tm} {i j n : Nat} (h : HeapDn ys i n) (hl : Lesser ys i j n) (hge : ¬ cp (gt ys j) (gt ys i) < 0) : HeapOk ys n := fun c c0 cn => by
  by_cases e : (c - 1) / 2 = i
  · rw [e]; exact cp_le (cp_flip hge) (hl.2.2.2 c c0 cn e)
  · exact h.1 c c0 cn e
theorem dn_step {ys : List Tm} {i j n : Nat} (h : HeapDn ys i n) (hl : Lesser ys i j n) (hlt : cp (gt ys j) (gt ys i) < 0) (hn : n ≤ ys.length) : HeapDn (swp ys i j) j n := by
  obtain ⟨hp, hj0, hjn, hmin⟩ := hl
  have hij : i < j := by omega
  have G : ∀ k, gt (swp ys i j) k = if k = j then gt ys i else if k = i then gt ys j else gt ys k := fun k => swp_get (by omega) (by omega) k
  refine ⟨fun c c0 cn cj => ?_, fun _ c c0 cn hc => ?_⟩
  · rw [G, G, if_neg cj]
    by_cases q : (c - 1) / 2 = i
    · rw [if_pos q]
      by_cases e : c = j
      · rw [if_pos e]; omega
      · rw [if_neg e, if_neg (by omega)]
        exact hmin c c0 cn q
    · rw [if_neg q]
      have e : c ≠ j := fun e => q (by rw [e]; exact hp)
      rw [if_neg e]
      by_cases e2 : c = i
      · rw [if_pos e2]
        subst e2
        exact h.2 c0 j hj0 hjn hp
      · rw [if_neg e2]
        exact h.1 c c0 cn q
  · rw [G, G, hp, if_neg (by omega), if_pos rfl, if_neg (by omega), if_neg (by omega)]
    have h1 := h.1 c c0 cn (by omega)
    rw [hc] at h1
    exact h1
theorem heap_top {ys : List Tm} {n : Nat} (h : HeapOk ys n) : ∀ c, c < n → cp (gt ys 0) (gt ys c) ≤ 0 := fun c => by
  induction c using Nat.strongRecOn with
  | ind c ih =>
    intro hc
    by_cases e : c = 0
    · subst e; have := cp_refl (gt ys 0); omega
    · exact cp_le (ih ((c - 1) / 2) (by omega) (by omega)) (h c (by omega) hc)
theorem heap_up {ys : List Tm} {n : Nat} (x : Tm) (hl : ys.length = n) (h : HeapOk ys n) : HeapUp (ys ++ [x]) n (n + 1) := by
  have G : ∀ k, k < n → gt (ys ++ [x]) k = gt ys k := fun k hk => by
    show (ys ++ [x]).getD k default = _
    rw [List.getD_eq_getElem?_getD, List.getElem?_append_left (by omega)]; rfl
  refine ⟨fun c c0 cn hc => ?_, fun n0 c c0 cn hc => ?_⟩
  · rw [G _ (by omega), G _ (by omega)]; exact h c c0 (by omega)
  · omega
theorem heap_dn {ys : List Tm} {n : Nat} (hl : ys.length = n + 1) (h : HeapOk ys (n + 1)) : HeapDn (swp ys 0 n) 0 n := by
  have G : ∀ k, gt (swp ys 0 n) k = if k = n then gt ys 0 else if k = 0 then gt ys n else gt ys k := fun k => swp_get (by omega) (by omega) k
  refine ⟨fun c c0 cn hc => ?_, fun h0 => absurd h0 (by decide)⟩
  rw [G, G, if_neg (by omega), if_neg hc, if_neg (by omega), if_neg (by omega)]
  exact h c c0 (by omega)
theorem heap_take {ys : List Tm} {n : Nat} (h : HeapOk ys n) : HeapOk (ys.take n) n := fun c c0 cn => by
  have G : ∀ k, k < n → gt (ys.take n) k = gt ys k := fun k hk => by
    show (ys.take n).getD k default = ys.getD k default
    rw [List.getD_eq_getElem?_getD, List.getElem?_take, if_pos hk, List.getD_eq_getElem?_getD]
  rw [G _ (by omega), G _ cn]
  exact h c c0 cn
end Go.Proofs.YteiacgpaocnofaaGreat
