/- Not, twice: what an expression tells as a truth, it tells still. -/
import Derived.Test.YteiacgpaocnofaaGreatXe
namespace Go.Proofs.YteiacgpaocnofaaGreat
open Go.RowKit
def notO : Ox := ⟨2, zt, 1, 0⟩
theorem not_op : isOpB notO = true := by decide +kernel
theorem not_sk : ¬ (0 : Int) < notO.sk := by decide +kernel
theorem nots_may {l : List Ox} (h : mayE l = true) (hl : l.length ≤ 30) : mayE (l ++ [notO, notO]) = true := by
  obtain ⟨_, h1⟩ := may_hg h
  refine may_of (by rw [List.length_append]; show l.length + 2 ≤ 32; omega) ?_
  rw [hg_app _ l _ (Nat.le_refl _) 0 1 h1, hg_cons, if_pos ⟨not_op, by show takesN 2 ≤ 1; decide, by show (0 : Int) ≤ 1; decide, fun h => absurd h not_sk⟩]
  show hg [notO] (1 + (1 - takesN 2)) = some 1
  rw [hg_cons, if_pos ⟨not_op, by show takesN 2 ≤ 1 + (1 - takesN 2); decide, by show (0 : Int) ≤ 0; decide, fun h => absurd h not_sk⟩]
  rfl
theorem truth_n {t : Tm} (h : fixT t = true) (h6 : t.k = 6) : t.n = 0 ∨ t.n = 1 := by
  have hm := (fix_flat h (by omega)).2
  rw [h6] at hm
  unfold mayV at hm
  simp at hm
  omega
theorem not_un {t : Tm} (h : fixT t = true) : unF 1 t = if t.k = 6 then (trueT (t.n == 0), 0) else (zt, 7) := by
  unfold unF
  rw [if_pos ⟨h, by decide, by decide⟩, if_pos rfl]
theorem not_step {lk : ByteArray → Option Tm} {t : Tm} {r : List Ox} {S : List Tm} (h : fixT t = true) (h6 : t.k = 6) : stepR lk notO r (t :: S) r (trueT (t.n == 0) :: S) 0 := by
  have k := stepR_un (lk := lk) (x := notO) (r := r) (S := S) (a := t) rfl
  have e : unF notO.cd t = (trueT (t.n == 0), 0) := (not_un h).trans (if_pos h6)
  rw [e] at k
  simpa using k
theorem not_err {lk : ByteArray → Option Tm} {t : Tm} {r : List Ox} {S : List Tm} (h : fixT t = true) (h6 : t.k ≠ 6) : stepR lk notO r (t :: S) r [] 7 := by
  have k := stepR_un (lk := lk) (x := notO) (r := r) (S := S) (a := t) rfl
  have e : unF notO.cd t = (zt, 7) := (not_un h).trans (if_neg h6)
  rw [e] at k
  simpa using k
/-- What the expression tells, and what it tells with not, twice, behind it. -/
theorem nots_eval {nl : List ByteArray} {tl : List Tm} {l : List Ox} {r : Tm} {E : Int} (h : EvalR nl tl l r E) (hm : mayE l = true) (hb : mbB nl tl = true) (hl : l.length ≤ 30) :
    EvalR nl tl (l ++ [notO, notO]) (if E = 0 then (if r.k = 6 then trueT (r.n == 1) else zt) else zt) (if E = 0 then (if r.k = 6 then 0 else 7) else E) := by
  have hf := h.fix
  unfold EvalR at h ⊢
  rw [if_pos ⟨hm, hb⟩] at h
  rw [if_pos ⟨nots_may hm hl, hb⟩]
  obtain ⟨S, h1, h2⟩ := h
  have ha := ev_app h1 [notO, notO] 1 (may_hg hm).2
  by_cases e0 : E = 0
  · rw [if_pos e0] at h2
    subst h2
    have fr := hf.1 e0
    rw [if_pos e0, if_pos e0]
    by_cases h6 : r.k = 6
    · rw [if_pos h6, if_pos h6]
      refine ⟨[trueT (r.n == 1)], ha.1 e0 _ _ (.go (not_step fr h6) (.go ?_ (.nil _))), by rw [if_pos rfl]⟩
      have k := not_step (lk := lkT nl tl) (r := []) (S := []) (fix_true (r.n == 0)) rfl
      have e : ((trueT (r.n == 0)).n == 0) = (r.n == 1) := by
        rcases truth_n fr h6 with e | e <;> rw [e] <;> rfl
      rwa [e] at k
    · rw [if_neg h6, if_neg h6]
      exact ⟨[], ha.1 e0 _ _ (.err (not_err fr h6) (by decide)), by rw [if_neg (by decide)]⟩
  · rw [if_neg e0, if_neg e0]
    exact ⟨[], ha.2 e0, by rw [if_neg e0]⟩
/-- True tells the same of both. -/
theorem nots_true {nl : List ByteArray} {tl : List Tm} {l : List Ox} {r s : Tm} {E F : Int} {v u : Bool} {f g : Int} (h : EvalR nl tl l r E) (hm : mayE l = true) (hb : mbB nl tl = true) (hl : l.length ≤ 30) (hv : truR r E v f) (k : EvalR nl tl (l ++ [notO, notO]) s F) (hu : truR s F u g) : u = v ∧ g = f := by
  obtain ⟨rfl, rfl⟩ := eval_uniq (nots_eval h hm hb hl) k
  unfold truR at hv hu
  by_cases e0 : E = 0
  · rw [if_pos e0] at hv
    by_cases h6 : r.k = 6
    · rw [if_pos h6] at hv
      rw [if_pos e0, if_pos e0, if_pos h6, if_pos h6, if_pos rfl, if_pos (show (trueT (r.n == 1)).k = 6 from rfl)] at hu
      refine ⟨?_, hu.2.trans hv.2.symm⟩
      rw [hu.1, hv.1]
      cases r.n == 1 <;> rfl
    · rw [if_neg h6] at hv
      rw [if_pos e0, if_pos e0, if_neg h6, if_neg h6, if_neg (by decide)] at hu
      exact ⟨hu.1.trans hv.1.symm, hu.2.trans hv.2.symm⟩
  · rw [if_neg e0] at hv
    simp only [if_neg e0] at hu
    exact ⟨hu.1.trans hv.1.symm, hu.2.trans hv.2.symm⟩
end Go.Proofs.YteiacgpaocnofaaGreat
