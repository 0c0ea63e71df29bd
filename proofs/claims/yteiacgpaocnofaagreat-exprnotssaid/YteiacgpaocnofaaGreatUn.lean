/- What is rising is told by what is in it; sets of terms, as trees. -/
import Derived.Test.YteiacgpaocnofaaGreatSe
namespace Go.Proofs.YteiacgpaocnofaaGreat
open Go.RowKit
theorem rise_pair : ∀ {l : List Tm}, Rise l → l.Pairwise (fun a b => cp a b < 0)
  | [], _ => List.Pairwise.nil
  | [_], _ => List.pairwise_singleton _ _
  | x :: y :: r, h => by
    have h2 : Rise (y :: r) := fun j hj => h (j + 1) (by simpa using hj)
    have ih := rise_pair h2
    have hxy : cp x y < 0 := h 0 (by simp)
    refine List.pairwise_cons.2 ⟨fun z hz => ?_, ih⟩
    rcases List.mem_cons.1 hz with rfl | hz
    · exact hxy
    · exact (cp_ord.trans _ _ _ (by omega) (by have := List.rel_of_pairwise_cons ih hz; omega)).2.1 hxy
theorem pair_uniq : ∀ {a b : List Tm}, a.Pairwise (fun x y => cp x y < 0) → b.Pairwise (fun x y => cp x y < 0) → (∀ t, t ∈ a ↔ t ∈ b) → a = b
  | [], b, _, _, h => by
    cases b with
    | nil => rfl
    | cons y ys => exact absurd ((h y).2 (by simp)) (by simp)
  | x :: xs, [], _, _, h => absurd ((h x).1 (by simp)) (by simp)
  | x :: xs, y :: ys, ha, hb, h => by
    obtain ⟨a1, a2⟩ := List.pairwise_cons.1 ha
    obtain ⟨b1, b2⟩ := List.pairwise_cons.1 hb
    have hxy : x = y := by
      rcases List.mem_cons.1 ((h x).1 (by simp)) with e | e
      · exact e
      · rcases List.mem_cons.1 ((h y).2 (by simp)) with e2 | e2
        · exact e2.symm
        · have h1 := b1 x e
          have h2 := a1 y e2
          have h3 := cp_ord.anti x y
          omega
    subst hxy
    rw [pair_uniq a2 b2 fun t => ⟨fun ht => ?_, fun ht => ?_⟩]
    · rcases List.mem_cons.1 ((h t).1 (List.mem_cons_of_mem _ ht)) with e | e
      · subst e; have h1 := a1 t ht; have h2 := cp_refl t; omega
      · exact e
    · rcases List.mem_cons.1 ((h t).2 (List.mem_cons_of_mem _ ht)) with e | e
      · subst e; have h1 := b1 t ht; have h2 := cp_refl t; omega
      · exact e
theorem rise_uniq {a b : List Tm} (ha : Rise a) (hb : Rise b) (h : ∀ t, t ∈ a ↔ t ∈ b) : a = b := pair_uniq (rise_pair ha) (rise_pair hb) h
theorem fit_iff {l : List Tm} : fitB l = true ↔ l.length ≤ 16 ∧ ∃ k0, ∀ x ∈ l, oneB k0 x = true := by
  unfold fitB
  simp only [Bool.and_eq_true, decide_eq_true_eq, List.all_eq_true]
  constructor
  · rintro ⟨h1, h2⟩; exact ⟨h1, _, h2⟩
  · rintro ⟨h1, k0, h2⟩
    refine ⟨h1, fun x hx => ?_⟩
    cases l with
    | nil => simp at hx
    | cons y ys =>
      have h3 := h2 y (by simp)
      have h4 := h2 x hx
      unfold oneB at h3
      simp only [Bool.and_eq_true, beq_iff_eq] at h3
      show oneB y.k x = true
      rw [h3.1.2]; exact h4
theorem fit_same {l m : List Tm} (hl : m.length ≤ l.length) (h : ∀ t, t ∈ m → t ∈ l) (hf : fitB l = true) : fitB m = true := by
  obtain ⟨h1, k0, h2⟩ := fit_iff.1 hf
  exact fit_iff.2 ⟨by omega, k0, fun x hx => h2 x (h x hx)⟩
/-- A set is told by what is in it. -/
theorem set_uniq {l m : List Tm} {r s : Tm} {E F : Int} (hlen : l.length = m.length) (hm : ∀ t, t ∈ l ↔ t ∈ m) (h : SetR l r E) (k : SetR m s F) : r = s ∧ E = F := by
  cases hf : fitB l with
  | true =>
    have hg : fitB m = true := fit_same (by omega) (fun t ht => (hm t).2 ht) hf
    obtain ⟨rfl, zs, rfl, hz, _⟩ := h.1 hf
    obtain ⟨rfl, ys, rfl, hy, _⟩ := k.1 hg
    rw [rise_uniq hz.1 hy.1 fun t => by rw [hz.2.1 t, hy.2.1 t, hm t]]
    exact ⟨rfl, rfl⟩
  | false =>
    have hg : fitB m = false := by
      cases hg : fitB m with
      | false => rfl
      | true =>
        have := fit_same (l := m) (m := l) (by omega) (fun t ht => (hm t).1 ht) hg
        rw [hf] at this; cases this
    obtain ⟨rfl, rfl⟩ := h.2 hf
    obtain ⟨rfl, rfl⟩ := k.2 hg
    exact ⟨rfl, rfl⟩
theorem rise_B {zs : List Tm} (h : Rise zs) : riseB zs = true := rise_yes h
theorem set_may {l zs : List Tm} (hf : fitB l = true) (hz : IsSet l zs) : mayT (.mk 7 0 ⟨#[]⟩ zs) = true := by
  have h1 := fit_same hz.2.2 (fun t ht => (hz.2.1 t).1 ht) hf
  show (if (7 : Int) = 7 then ((0 : Int) == 0) && (⟨#[]⟩ : ByteArray).toList.isEmpty && fitB zs && riseB zs else _) = true
  rw [if_pos rfl, h1, rise_B hz.1]; decide +kernel
theorem set_has {l zs : List Tm} (hz : IsSet l zs) {t : Tm} (ht : t ∈ l) : hasT (.mk 7 0 ⟨#[]⟩ zs) t = true := by
  show (((7 : Int) == 7) && (zs.any fun x => cp x t == 0)) = true
  have : (zs.any fun x => cp x t == 0) = true := List.any_eq_true.2 ⟨t, (hz.2.1 t).2 ht, by rw [cp_refl]; rfl⟩
  rw [this]; rfl
theorem set_again {l zs : List Tm} (hf : fitB l = true) (hz : IsSet l zs) {r : Tm} {E : Int} (h : SetR zs r E) : E = 0 ∧ r = .mk 7 0 ⟨#[]⟩ zs := by
  obtain ⟨e, ys, rfl, hy, _⟩ := h.1 (fit_same hz.2.2 (fun t ht => (hz.2.1 t).1 ht) hf)
  exact ⟨e, by rw [rise_uniq hy.1 hz.1 hy.2.1]⟩
end Go.Proofs.YteiacgpaocnofaaGreat
