/- Single bytes of slices, and slices of slices, as what operations give. -/
import Derived.Test.YtobgimpkkjaolaaGreatDoorApp
namespace Go.Proofs.YtobgimpkkjaolaaGreatDoor
open Go.RowKit
theorem run_ix (w : World) (b o n c k : Nat) (hk : k < n) : (Instr.indexAt 22 (.slice (some ⟨b, o, none⟩) n c) (.int .i64 (k : Int))).run Tryz.prog w = .ok (.pointer (some ⟨b, o + k, none⟩)) w := by
  have h1 : decide ((k : Int) < 0) = false := decide_eq_false (by omega)
  have h2 : ¬ ((n : Int) ≤ (k : Int)) := by omega
  go_simp
section
variable {ops : Array Oper} {Q : Exit → Act → World → Prop} {o : Oper} {T : STy} {a : Act} {w : World}
theorem BsAt.part {w : World} {b o c : Nat} {l : List Nat} (h : BsAt w (.slice (some ⟨b, o, none⟩) l.length c) l) {i j : Nat} (hij : i ≤ j) (hj : j ≤ l.length) : BsAt w (.slice (some ⟨b, o + i, none⟩) (j - i) (c - i)) ((l.take j).drop i) := by
  obtain ⟨b', o', c', ao, e, hc, hm, hl, hh⟩ := h
  injection e with e1 e2 e3
  subst e3
  have hlen : ((l.take j).drop i).length = j - i := by simp; omega
  have hget : ∀ k, k < j - i → ((l.take j).drop i).getD k 0 = l.getD (i + k) 0 := fun k hk => by
    simp [List.getD_eq_getElem?_getD, show i + k < j by omega]
  refine ⟨b, o + i, c - i, _, by rw [hlen], by omega, by omega, fun k => ?_, fun hne => ?_⟩
  · by_cases hk : k < j - i
    · rw [hget k hk]; exact hl _
    · rw [List.getD_eq_getElem?_getD, List.getElem?_eq_none (by omega)]; decide
  · have hne' : l ≠ [] := fun e => by subst e; simp at hne
    obtain ⟨e4, hb, hr⟩ := hh hne'
    rw [← e1] at e4
    injection e4 with e4
    injection e4 with e5 e6 _
    subst e5 e6
    refine ⟨rfl, hb, fun k hk => ?_⟩
    rw [hlen] at hk
    rw [Nat.add_assoc, hr (i + k) (by omega), hget k hk]
end
end Go.Proofs.YtobgimpkkjaolaaGreatDoor
