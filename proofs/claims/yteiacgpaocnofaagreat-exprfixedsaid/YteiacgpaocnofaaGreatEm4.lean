/- Which errors there are: a name that is bound to nothing is one of the expression's. -/
import Derived.Test.YteiacgpaocnofaaGreatXe
import Derived.Test.YteiacgpaocnofaaGreatE21
namespace Go.Proofs.YteiacgpaocnofaaGreat
open Go.RowKit
def NeP (p : Tm × Int) : Prop := p.2 ≠ 8
theorem neP_ite {p : Prop} [Decidable p] {x y : Tm × Int} (h1 : NeP x) (h2 : NeP y) : NeP (if p then x else y) := by
  by_cases h : p
  · rw [if_pos h]; exact h1
  · rw [if_neg h]; exact h2
theorem numE_ne (z : Int) : numE z ≠ 8 := by unfold numE; split <;> decide
theorem ne_num (z : Int) : NeP (numR z, numE z) := numE_ne z
theorem ne_zero (t : Tm) : NeP (t, 0) := by show (0 : Int) ≠ 8; decide
theorem ne_lit (t : Tm) {e : Int} (h : e ≠ 8) : NeP (t, e) := h
theorem un_ne (c : Int) (a : Tm) : NeP (unF c a) := by
  unfold unF
  repeat' refine neP_ite ?_ ?_
  all_goals first | exact ne_zero _ | exact ne_num _ | exact ne_lit _ (by decide)
theorem opF_ne (c : Int) (a b : Tm) : NeP (opF c a b) := by
  unfold opF addF divF
  repeat' refine neP_ite ?_ ?_
  all_goals first | exact ne_zero _ | exact ne_num _ | exact ne_lit _ (by decide)
theorem set_ne {l : List Tm} {r : Tm} {E : Int} (h : SetR l r E) : E ≠ 8 := by
  cases hf : fitB l with
  | true => have := (h.1 hf).1; omega
  | false => have := (h.2 hf).1; omega
theorem bin_ne {c : Int} {a b r : Tm} {E : Int} (h : BinR c a b r E) : E ≠ 8 := by
  unfold BinR at h
  split at h
  · split at h
    · unfold opR at h
      split at h
      · unfold MatR at h
        split at h
        · omega
        · omega
      · split at h
        · exact set_ne h
        · split at h
          · cases hl : likeS a b with
            | false => have := (h.1 hl).2; omega
            | true =>
              by_cases h16 : 16 < (a.l ++ sel a false b.l).length
              · have := (h.2.1 hl h16).2; omega
              · exact set_ne (h.2.2 hl (by omega))
          · have e : E = (opF c a b).2 := congrArg Prod.snd h
            rw [e]; exact opF_ne c a b
    · omega
  · omega
theorem step_name {lk : ByteArray → Option Tm} {x : Ox} {r r1 : List Ox} {S S1 : List Tm} (h : stepR lk x r S r1 S1 8) : x.t.k = 1 ∧ lk x.t.s = none := by
  unfold stepR at h
  by_cases c1 : x.kd = 1
  · rw [if_pos c1] at h
    have h := h.2
    by_cases cv : x.t.k = 1
    · rw [if_pos cv] at h
      cases hl : lk x.t.s with
      | none => exact ⟨cv, rfl⟩
      | some y => rw [hl] at h; exact absurd h.2 (by decide)
    · rw [if_neg cv] at h; exact absurd h.2 (by decide)
  rw [if_neg c1] at h
  by_cases c2 : x.kd = 2
  · rw [if_pos c2] at h
    obtain ⟨_, a, S0, _, h2, _⟩ := h
    exact absurd h2.symm (un_ne x.cd a)
  rw [if_neg c2] at h
  by_cases c3 : x.kd = 3
  · rw [if_pos c3] at h
    obtain ⟨_, b, a, S0, t, _, h2, _⟩ := h
    exact absurd rfl (bin_ne h2)
  rw [if_neg c3] at h
  obtain ⟨a, S0, _, h⟩ := h
  by_cases c6 : a.k ≠ 6
  · rw [if_pos c6] at h; exact absurd h.1 (by decide)
  · rw [if_neg c6] at h; exact absurd h.1 (by decide)
theorem step_sub {lk : ByteArray → Option Tm} {x : Ox} {r r1 : List Ox} {S S1 : List Tm} {e : Int} (h : stepR lk x r S r1 S1 e) : ∀ y ∈ r1, y ∈ r := by
  unfold stepR at h
  by_cases c1 : x.kd = 1
  · rw [if_pos c1] at h; rw [h.1]; exact fun y hy => hy
  rw [if_neg c1] at h
  by_cases c2 : x.kd = 2
  · rw [if_pos c2] at h; rw [h.1]; exact fun y hy => hy
  rw [if_neg c2] at h
  by_cases c3 : x.kd = 3
  · rw [if_pos c3] at h; rw [h.1]; exact fun y hy => hy
  rw [if_neg c3] at h
  obtain ⟨a, S0, _, h⟩ := h
  by_cases c6 : a.k ≠ 6
  · rw [if_pos c6] at h; rw [h.2.1]; exact fun y hy => hy
  · rw [if_neg c6] at h
    have h := h.2
    split at h
    · rw [h.1]; exact fun y hy => List.mem_of_mem_drop hy
    · rw [h.1]; exact fun y hy => hy
theorem ev_name {lk : ByteArray → Option Tm} {l : List Ox} {S S1 : List Tm} {E : Int} (h : EvR lk l S S1 E) (hE : E = 8) : ∃ x ∈ l, x.t.k = 1 ∧ lk x.t.s = none := by
  induction h with
  | nil S => exact absurd hE (by decide)
  | err h he =>
    subst hE
    exact ⟨_, List.mem_cons_self, step_name h⟩
  | go h t ih =>
    obtain ⟨x, hx, h2⟩ := ih hE
    exact ⟨x, List.mem_cons_of_mem _ (step_sub h x hx), h2⟩
/-- A name is missing: it is one of the names, and nothing is bound to it. -/
theorem eval_name {nl : List ByteArray} {tl : List Tm} {l : List Ox} {r : Tm} (h : EvalR nl tl l r 8) : ∃ s ∈ baL (namesL (varN l)), lookF nl tl s = none := by
  unfold EvalR at h
  by_cases c : mayE l = true ∧ mbB nl tl = true
  · rw [if_pos c] at h
    obtain ⟨S, h1, _⟩ := h
    obtain ⟨x, hx, hk, hl⟩ := ev_name h1 rfl
    refine ⟨x.t.s, ?_, by unfold lookF; rw [if_pos c.2]; exact hl⟩
    unfold baL
    refine List.mem_map.2 ⟨x.t.s.data.toList, namesL_mem.2 (List.mem_map.2 ⟨x.t.s, varN_mem.2 ⟨x, hx, hk, rfl⟩, rfl⟩), ba_id _⟩
  · rw [if_neg c] at h
    exact absurd h.2 (by decide)
theorem eval_both {nl : List ByteArray} {tl : List Tm} {l : List Ox} {r : Tm} (h : EvalR nl tl l r 0) : mayE l = true ∧ mbB nl tl = true := by
  unfold EvalR at h
  by_cases c : mayE l = true ∧ mbB nl tl = true
  · exact c
  · rw [if_neg c] at h; exact absurd h.2 (by decide)
theorem eval_arg {nl : List ByteArray} {tl : List Tm} {l : List Ox} {r : Tm} {E : Int} (h : EvalR nl tl l r E) (c : ¬ (mayE l = true ∧ mbB nl tl = true)) : E = 1 := by
  unfold EvalR at h
  rw [if_neg c] at h; exact h.2
end Go.Proofs.YteiacgpaocnofaaGreat
