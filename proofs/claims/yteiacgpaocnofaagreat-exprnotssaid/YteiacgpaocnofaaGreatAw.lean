/- The set that every program must know: the law's own call answers true. -/
import Derived.Test.YteiacgpaocnofaaGreatUn
namespace Go.Proofs.YteiacgpaocnofaaGreat
open Go.RowKit
def t3 : Tm := .mk 2 3 ⟨#[]⟩ []
def t1 : Tm := .mk 2 1 ⟨#[]⟩ []
theorem awake_set {r : Tm} {E : Int} (h : SetR [t3, t1, t3] r E) : E = 0 ∧ r = .mk 7 0 ⟨#[]⟩ [t1, t3] := by
  have hf : fitB [t3, t1, t3] = true := by decide +kernel
  obtain ⟨e, zs, rfl, hz, _⟩ := h.1 hf
  have hr : Rise [t1, t3] := fun j hj => by
    have : j = 0 := by simp at hj; omega
    subst this
    show cp t1 t3 < 0
    decide +kernel
  exact ⟨e, by rw [rise_uniq hz.1 hr fun t => by rw [hz.2.1 t]; simp; grind]⟩
end Go.Proofs.YteiacgpaocnofaaGreat
