/- Rows of cells: put behind one another, cut; rows of terms within a region: what is the region's own, and what was there before it. -/
import Derived.Test.YtgadglpbbcapcaaAw
import Derived.Test.YtgadglpbbcapcaaTyped4
namespace Go.Proofs.Ytgadglpbbcapcaa
open Go.RowKit
/-- A slice of so many things, of so many cells each. -/
def CsAt (w : World) (size n : Nat) (v : Value) (xs : List Value) : Prop :=
  xs.length = n * size ∧ ∃ (b o c : Nat) (ao : Option Addr), v = .slice ao n c ∧ n ≤ c ∧ c ≤ 9223372036854775807 ∧ (0 < n → ao = some ⟨b, o, none⟩ ∧ b < w.heap.size ∧ ∀ j u, xs[j]? = some u → w.cell? ⟨b, o + j, none⟩ = some u) ∧ ∀ u ∈ xs, u.oneCell' = true
theorem CsAt.ext {W w : World} {size n : Nat} {v : Value} {xs : List Value} (h : CsAt W size n v xs) (he : Below W.heap.size W w) : CsAt w size n v xs := by
  obtain ⟨h1, b, o, c, ao, hv, hn, hm, hh, ho⟩ := h
  exact ⟨h1, b, o, c, ao, hv, hn, hm, fun h0 => ⟨(hh h0).1, Nat.lt_of_lt_of_le (hh h0).2.1 he.size, fun j u hu => (Below.cell (p := ⟨b, o + j, none⟩) he (hh h0).2.1).trans ((hh h0).2.2 j u hu)⟩, ho⟩
theorem row_cs {w : World} {base e size n : Nat} {v : Value} {xs : List Value} (h : w.ownsRow base e size v n xs) (h1 : ∀ u ∈ xs, u.oneCell' = true) : CsAt w size n v xs := by
  refine ⟨h.1, ?_⟩
  rcases h.2 with ⟨rfl, h0⟩ | ⟨g, cap, cur, rfl, hb, hr, hn, hm, hs, ht⟩
  · subst h0; exact ⟨0, 0, 0, none, rfl, Nat.le_refl _, by omega, fun h => absurd h (by omega), h1⟩
  · refine ⟨g, 0, cap, _, rfl, hn, by unfold maxLen at hm; omega, fun _ => ⟨rfl, (Array.getElem?_eq_some_iff.1 hr).1, fun j u hu => ?_⟩, h1⟩
    rw [Nat.zero_add, cell_of_row _ _ _ _ _ _ hr]
    have hj : j < n * size := by have := (List.getElem?_eq_some_iff.1 hu).1; rw [h.1] at this; exact this
    rw [← ht, List.getElem?_take, if_pos hj] at hu
    simpa using hu
/-- Things behind things of the call's own. -/
theorem cs_append {t e size bytes n m base : Nat} {w : World} {v sv : Value} {xs ys : List Value} (hA : AppTy t e size bytes) (ty : TypeId) (h : w.ownsRow base e size v n xs) (hs : CsAt w size m sv ys) (hn : n + m ≤ 1000000000000000) (hby : (n + m) * bytes ≤ 140737488355328) (hb : base ≤ w.heap.size) :
    ∃ v' w', (Builtin.append_ #[t, t] ty #[v, sv]).run Try.prog w = .ok v' w' ∧ w'.ownsRow base e size v' (n + m) (xs ++ ys) ∧ w.grownBy w' v.ownBlock := by
  obtain ⟨i, z, hi, hz, hsz, hbt, hzs⟩ := hA.info
  obtain ⟨hl, b, o, c, ao, rfl, hc, hmax, hh, h1⟩ := hs
  cases ao with
  | none =>
    have h0 : m = 0 := by
      rcases Nat.eq_zero_or_pos m with h0 | h0
      · exact h0
      · cases (hh h0).1
    subst h0
    have hy : ys = [] := List.eq_nil_of_length_eq_zero (by omega)
    subst hy
    refine ⟨v, w, ?_, by rw [List.append_nil]; exact h, grown_refl w _⟩
    have und := hA.und
    rcases h.2 with ⟨rfl, _⟩ | ⟨g, cap, cur, rfl, _, _, hnc, _⟩
    · simp [Builtin.append_, run_underlying und, sizeOf, typeInfo, hi, Builtin.lenOf, Builtin.firstCells]
    · simp [Builtin.append_, run_underlying und, sizeOf, typeInfo, hi, Builtin.lenOf, Builtin.firstCells, hnc, storeCells]
  | some ad =>
    obtain ⟨v', w', hr, h2, h3, _⟩ := run_append_own (P := Try.prog) w base t ty e i z size bytes hA.und hi hz hsz hbt hzs hA.pos v n xs h ad m c ys hl (fun j u hu => by
      have hj := (List.getElem?_eq_some_iff.1 hu).1
      have h0 : 0 < m := by
        rcases Nat.eq_zero_or_pos m with h0 | h0
        · subst h0; omega
        · exact h0
      obtain ⟨e1, hbb, hcell⟩ := hh h0
      injection e1 with e1
      subst e1
      rw [Addr.add_mid]
      exact hcell j u hu) h1 (by unfold maxLen; omega) hby hb
    exact ⟨v', w', hr, h2, h3⟩
/-- The things from a place on. -/
theorem cs_from {w : World} {n : Nat} {v : Value} {xs : List Value} (h : CsAt w 4 n v xs) (k : Nat) (hk : k ≤ n) :
    ∃ v', (∀ W : World, (Instr.sliceAt 22 v (some (.int .i64 (k : Int))) none none).run Try.prog W = .ok v' W) ∧ CsAt w 4 (n - k) v' (xs.drop (k * 4)) := by
  obtain ⟨hl, b, o, c, ao, rfl, hc, hm, hh, h1⟩ := h
  have hlen : (xs.drop (k * 4)).length = (n - k) * 4 := by rw [List.length_drop, hl]; omega
  have h1' : ∀ u ∈ xs.drop (k * 4), u.oneCell' = true := fun u hu => h1 u (List.mem_of_mem_drop hu)
  have g1 : ¬ ((k : Int) < 0) := by omega
  have g2 : ¬ ((n : Int) < (k : Int)) := by omega
  have g3 : ¬ ((c : Int) < (n : Int)) := by omega
  have g4 : ¬ ((n : Int) < 0) := by omega
  cases ao with
  | none =>
    have hn0 : n = 0 := by
      rcases Nat.eq_zero_or_pos n with h0 | h0
      · exact h0
      · cases (hh h0).1
    subst hn0
    obtain rfl : k = 0 := by omega
    exact ⟨.slice none 0 c, fun W => by go_simp, ⟨hlen, 0, 0, c, none, rfl, by omega, hm, fun h => absurd h (by omega), h1'⟩⟩
  | some ad =>
    by_cases hcc : c = k
    · have hkl : k = n := by omega
      refine ⟨.slice (some ad) 0 0, fun W => by subst hkl; go_simp, ?_⟩
      rw [show n - k = 0 by omega]
      exact ⟨by rw [hlen]; omega, 0, 0, 0, some ad, rfl, by omega, by omega, fun h => absurd h (by omega), h1'⟩
    · refine ⟨.slice (some (ad.add (k * 4))) (n - k) (c - k), fun W => by go_simp, ⟨hlen, b, o + k * 4, c - k, _, rfl, by omega, by omega, fun h0 => ?_, h1'⟩⟩
      obtain ⟨e4, hb, hr⟩ := hh (by omega)
      injection e4 with e4
      subst e4
      refine ⟨by simp [Addr.add], hb, fun j u hu => ?_⟩
      rw [List.getElem?_drop] at hu
      rw [Nat.add_assoc]
      exact hr _ _ hu
/-- The things up to a place. -/
theorem cs_upto {w : World} {n : Nat} {v : Value} {xs : List Value} (h : CsAt w 4 n v xs) (k : Nat) (hk : k ≤ n) :
    ∃ v', (∀ W : World, (Instr.sliceAt 22 v none (some (.int .i64 (k : Int))) none).run Try.prog W = .ok v' W) ∧ CsAt w 4 k v' (xs.take (k * 4)) := by
  obtain ⟨hl, b, o, c, ao, rfl, hc, hm, hh, h1⟩ := h
  have hlen : (xs.take (k * 4)).length = k * 4 := by rw [List.length_take, hl]; omega
  have h1' : ∀ u ∈ xs.take (k * 4), u.oneCell' = true := fun u hu => h1 u (List.mem_of_mem_take hu)
  have g1 : ¬ ((k : Int) < 0) := by omega
  have g3 : ¬ ((c : Int) < (k : Int)) := by omega
  refine ⟨.slice ao k c, fun W => ?_, ⟨hlen, b, o, c, ao, rfl, by omega, hm, fun h0 => ?_, h1'⟩⟩
  · cases ao with
    | none =>
      have hn0 : n = 0 := by
        rcases Nat.eq_zero_or_pos n with h0 | h0
        · exact h0
        · cases (hh h0).1
      subst hn0
      obtain rfl : k = 0 := by omega
      go_simp
    | some ad => go_simp; intro h; omega
  · obtain ⟨e4, hb, hr⟩ := hh (by omega)
    refine ⟨e4, hb, fun j u hu => ?_⟩
    rw [List.getElem?_take] at hu
    split at hu
    · exact hr j u hu
    · cases hu
end Go.Proofs.Ytgadglpbbcapcaa
