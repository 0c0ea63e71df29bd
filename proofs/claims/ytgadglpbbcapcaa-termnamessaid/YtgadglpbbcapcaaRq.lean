/- The page's set, put together term by term: what is in it so far. -/
import Derived.Test.YtgadglpbbcapcaaTyU
import Derived.Test.YtgadglpbbcapcaaTyI
namespace Go.Proofs.Ytgadglpbbcapcaa
open Go.RowKit
theorem pair_rise {l : List Tm} (h : l.Pairwise (fun a b => cp a b < 0)) : Rise l := fun j hj => by
  have h1 := List.pairwise_iff_getElem.1 h j (j + 1) (by omega) hj (by omega)
  show cp (l.getD j default) (l.getD (j + 1) default) < 0
  rw [List.getD_eq_getElem?_getD, List.getD_eq_getElem?_getD, List.getElem?_eq_getElem (by omega), List.getElem?_eq_getElem hj]
  exact h1
theorem gt_get {zs : List Tm} {i : Nat} (h : i < zs.length) : gt zs i = zs[i] := by
  show zs.getD i default = _
  rw [List.getD_eq_getElem?_getD, List.getElem?_eq_getElem h]; rfl
/-- One more, at its place. -/
theorem ins_set {l zs : List Tm} {k j : Nat} {x : Tm} (hx : l[k]? = some x) (h : IsSet (l.take k) zs) (hj : j ≤ zs.length) (hlo : ∀ i, i < j → cp (gt zs i) x < 0) (hhi : j < zs.length → ¬ cp (gt zs j) x < 0 ∧ ¬ cp (gt zs j) x = 0) :
    IsSet (l.take (k + 1)) (zs.take j ++ [x] ++ zs.drop j) := by
  have hp := rise_pair h.1
  have hk : k < l.length := (List.getElem?_eq_some_iff.1 hx).1
  have hall : ∀ a ∈ zs.take j, cp a x < 0 := fun a ha => by
    obtain ⟨i, hi, rfl⟩ := List.getElem_of_mem ha
    rw [List.length_take] at hi
    have h1 := hlo i (by omega)
    rw [gt_get (by omega)] at h1
    rw [List.getElem_take]; exact h1
  have hdr : ∀ b ∈ zs.drop j, cp x b < 0 := fun b hb => by
    obtain ⟨i, hi, rfl⟩ := List.getElem_of_mem hb
    rw [List.length_drop] at hi
    rw [List.getElem_drop]
    obtain ⟨h1, h2⟩ := hhi (by omega)
    have h3 := cp_ord.anti x (gt zs j)
    have h4 : cp x (gt zs j) < 0 := by omega
    rw [gt_get (by omega)] at h4
    rcases Nat.eq_zero_or_pos i with hi0 | hi0
    · subst hi0; exact h4
    · have h5 := List.pairwise_iff_getElem.1 hp j (j + i) (by omega) (by omega) (by omega)
      exact (cp_ord.trans _ _ _ (by omega) (by omega)).2.1 h4
  refine ⟨pair_rise ?_, fun t => ?_, ?_⟩
  · rw [List.append_assoc, List.pairwise_append]
    refine ⟨hp.sublist (List.take_sublist _ _), ?_, fun a ha b hb => ?_⟩
    · rw [List.singleton_append, List.pairwise_cons]
      exact ⟨hdr, hp.sublist (List.drop_sublist _ _)⟩
    · rw [List.singleton_append] at hb
      rcases List.mem_cons.1 hb with rfl | hb
      · exact hall a ha
      · have h1 := hall a ha
        have h2 := hdr b hb
        exact (cp_ord.trans _ _ _ (by omega) (by omega)).2.1 h1
  · rw [take_next hx t, ← h.2.1 t]
    have : t ∈ zs ↔ t ∈ zs.take j ∨ t ∈ zs.drop j := by
      rw [← List.mem_append, List.take_append_drop]
    rw [this]
    simp only [List.mem_append, List.mem_singleton]
    constructor
    · rintro ((h1 | h1) | h1)
      · exact .inl (.inl h1)
      · exact .inr h1
      · exact .inl (.inr h1)
    · rintro ((h1 | h1) | h1)
      · exact .inl (.inl h1)
      · exact .inr h1
      · exact .inl (.inr h1)
  · have := h.2.2
    simp only [List.length_append, List.length_take, List.length_drop, List.length_singleton] at this ⊢
    omega
theorem dup_set {l zs : List Tm} {k : Nat} {x : Tm} (hx : l[k]? = some x) (h : IsSet (l.take k) zs) (hm : x ∈ zs) : IsSet (l.take (k + 1)) zs := by
  refine ⟨h.1, fun t => ?_, ?_⟩
  · rw [take_next hx t, ← h.2.1 t]
    constructor
    · exact .inl
    · rintro (h1 | rfl)
      · exact h1
      · exact hm
  · have := h.2.2
    simp only [List.length_take] at this ⊢
    omega
/-- How far the page is. -/
structure RSt (l : List Tm) (w : World) (k : Nat) (zs : List Tm) (sa : Option Addr) (sc : Nat) (wr : World) : Prop where
  v2 : wr.heap[w.heap.size]? = some (.cells #[.int .i64 0, .int .i64 0, .string ⟨#[]⟩, .slice none 0 0] 24 (0, 0))
  v4 : wr.heap[w.heap.size + 1]? = some (.cells #[.int .i64 7, .int .i64 0, .string ⟨#[]⟩, .slice sa zs.length sc] 24 (0, 0))
  row : ∃ xs, wr.ownsRow (w.heap.size + 2) 24 4 (.slice sa zs.length sc) zs.length xs ∧ (∀ u ∈ xs, u.oneCell' = true) ∧ TcAt wr xs zs
  set : IsSet (l.take k) zs
  fit : ∀ j x, j < k → l[j]? = some x → oneB (l.headD default).k x = true
  bel : Below w.heap.size w wr
theorem RSt.flat {l : List Tm} {w wr : World} {k : Nat} {zs : List Tm} {sa : Option Addr} {sc : Nat} (h : RSt l w k zs sa sc wr) : ∀ z ∈ zs, z.l = [] := fun z hz => by
  obtain ⟨i, hi, rfl⟩ := List.getElem_of_mem ((h.set.2.1 z).1 hz)
  rw [List.length_take] at hi
  exact one_flat (h.fit i _ (by omega) (by rw [List.getElem_take]; exact List.getElem?_eq_getElem (by omega)))
theorem RSt.ext {l : List Tm} {w wr w' : World} {k : Nat} {zs : List Tm} {sa : Option Addr} {sc : Nat} (h : RSt l w k zs sa sc wr) (he : Below wr.heap.size wr w') : RSt l w k zs sa sc w' :=
  ⟨Below.heap he (Array.getElem?_eq_some_iff.1 h.v2).1 h.v2, Below.heap he (Array.getElem?_eq_some_iff.1 h.v4).1 h.v4, by obtain ⟨xs, h1, h2, h3⟩ := h.row; exact ⟨xs, row_ext h1 he, h2, h3.ext he⟩, h.set, h.fit, Below.chain h.bel he⟩
theorem RSt.ts {l : List Tm} {w wr : World} {k : Nat} {zs : List Tm} {sa : Option Addr} {sc : Nat} (h : RSt l w k zs sa sc wr) : TsAt wr (.slice sa zs.length sc) zs := by
  obtain ⟨xs, h1, h2, h3⟩ := h.row
  exact ⟨xs, row_cs h1 h2, h3⟩
theorem RSt.lat {l : List Tm} {w wr : World} {k : Nat} {zs : List Tm} {sa : Option Addr} {sc : Nat} (h : RSt l w k zs sa sc wr) : LAt wr zs sa sc := by
  obtain ⟨a, c, e, hL⟩ := h.ts.lat
  injection e with e1 _ e2
  subst e1; subst e2
  exact hL
theorem TcAt.flat {w w' : World} {xs : List Value} {zs : List Tm} (h : TcAt w xs zs) (hf : ∀ z ∈ zs, z.l = []) : TcAt w' xs zs :=
  ⟨h.1, fun i t ht => by
    obtain ⟨a, c, h0, h1, h2, h3, h4⟩ := h.2 i t ht
    have hl := hf t (List.mem_of_getElem? ht)
    exact ⟨a, c, h0, h1, h2, h3, LAt.term (by rw [hl]; exact LAt.nil _ _ _ h4.fits.2.2.2.2) h4.fits⟩⟩
/-- One more is in. -/
theorem RSt.put {l : List Tm} {w wr w3 : World} {k j : Nat} {x : Tm} {zs : List Tm} {sa sa' : Option Addr} {sc sc' : Nat} (h : RSt l w k zs sa sc wr) (ho : OwT wr w3 (.slice sa' (zs.take j ++ [x] ++ zs.drop j).length sc') (zs.take j ++ [x] ++ zs.drop j)) (hset : IsSet (l.take (k + 1)) (zs.take j ++ [x] ++ zs.drop j))
    (hx : l[k]? = some x) (h1 : oneB (l.headD default).k x = true) :
    RSt l w (k + 1) (zs.take j ++ [x] ++ zs.drop j) sa' sc' (w3.setCell ⟨w.heap.size + 1, 3, none⟩ (.slice sa' (zs.take j ++ [x] ++ zs.drop j).length sc')) := by
  have l4 : w.heap.size + 1 < wr.heap.size := (Array.getElem?_eq_some_iff.1 h.v4).1
  have v4 := Below.heap ho.bel l4 h.v4
  have v2 := Below.heap ho.bel (Array.getElem?_eq_some_iff.1 h.v2).1 h.v2
  have hfit : ∀ j' y, j' < k + 1 → l[j']? = some y → oneB (l.headD default).k y = true := fun j' y hj hy => by
    rcases Nat.lt_or_ge j' k with h2 | h2
    · exact h.fit j' y h2 hy
    · have : j' = k := by omega
      subst this
      rw [hx] at hy; cases hy; exact h1
  have hflat : ∀ z ∈ zs.take j ++ [x] ++ zs.drop j, z.l = [] := fun z hz => by
    obtain ⟨i, hi, rfl⟩ := List.getElem_of_mem ((hset.2.1 z).1 hz)
    rw [List.length_take] at hi
    exact one_flat (hfit i _ (by omega) (by rw [List.getElem_take]; exact List.getElem?_eq_getElem (by omega)))
  obtain ⟨xs, r1, r2, r3⟩ := ho.row
  refine ⟨?_, ?_, ⟨xs, ?_, r2, r3.flat hflat⟩, hset, hfit, ?_⟩
  · exact (Below.heap_setCell _ ⟨w.heap.size + 1, 3, none⟩ _ w.heap.size (by show w.heap.size ≠ w.heap.size + 1; omega)).trans v2
  · unfold World.setCell
    simp [Array.getElem?_modify, v4]
  · refine ⟨r1.1, ?_⟩
    rcases r1.2 with h2 | ⟨g, cap, cur, e, hb, hr, hn⟩
    · exact .inl h2
    · exact .inr ⟨g, cap, cur, e, by omega, (Below.heap_setCell _ ⟨w.heap.size + 1, 3, none⟩ _ g (by show g ≠ w.heap.size + 1; omega)).trans hr, hn⟩
  · exact Below.setCell (p := ⟨w.heap.size + 1, 3, none⟩) (Below.chain h.bel ho.bel) (by show w.heap.size ≤ w.heap.size + 1; omega) _
end Go.Proofs.Ytgadglpbbcapcaa
