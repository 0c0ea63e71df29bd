/- Fields to put, copied into a row of the call's own. -/
import Derived.Test.YtogegmdimfinaaaPbU
namespace Go.Proofs.Ytogegmdimfinaaa
open Go.RowKit
/-- The cells of fields to put. -/
def pcs (l : List (Pu × Value)) : List Value := (l.map fun x => [Value.int .i64 x.1.num, .bool x.1.whole, .int .u64 (x.1.n : Int), x.2]).flatten
theorem pcs_app (a b : List (Pu × Value)) : pcs (a ++ b) = pcs a ++ pcs b := by simp [pcs]
theorem pcs_len : ∀ ps : List (Pu × Value), (pcs ps).length = ps.length * 4
  | [] => rfl
  | p :: ps => by rw [show pcs (p :: ps) = pcs [p] ++ pcs ps from pcs_app [p] ps, List.length_append, pcs_len ps]; simp [pcs]; omega
theorem pcs_get : ∀ (ps : List (Pu × Value)) (i : Nat) (p : Pu × Value), ps[i]? = some p →
    (pcs ps)[i * 4]? = some (.int .i64 p.1.num) ∧ (pcs ps)[i * 4 + 1]? = some (.bool p.1.whole) ∧ (pcs ps)[i * 4 + 2]? = some (.int .u64 (p.1.n : Int)) ∧ (pcs ps)[i * 4 + 3]? = some p.2
  | [], i, p, h => by simp at h
  | q :: ps, 0, p, h => by
    have : q = p := by simpa using h
    subst this
    rw [show pcs (q :: ps) = pcs [q] ++ pcs ps from pcs_app [q] ps]
    simp [pcs]
  | q :: ps, i + 1, p, h => by
    have h2 := pcs_get ps i p (by simpa using h)
    rw [show pcs (q :: ps) = pcs [q] ++ pcs ps from pcs_app [q] ps]
    have hl : (pcs [q]).length = 4 := pcs_len [q]
    refine ⟨?_, ?_, ?_, ?_⟩
    · rw [List.getElem?_append_right (by omega), hl, show (i + 1) * 4 - 4 = i * 4 by omega]; exact h2.1
    · rw [List.getElem?_append_right (by omega), hl, show (i + 1) * 4 + 1 - 4 = i * 4 + 1 by omega]; exact h2.2.1
    · rw [List.getElem?_append_right (by omega), hl, show (i + 1) * 4 + 2 - 4 = i * 4 + 2 by omega]; exact h2.2.2.1
    · rw [List.getElem?_append_right (by omega), hl, show (i + 1) * 4 + 3 - 4 = i * 4 + 3 by omega]; exact h2.2.2.2
/-- What may stand in such a row. -/
def PuOk (w : World) (x : Pu × Value) : Prop := BsAt w x.2 x.1.b ∧ (-9223372036854775808 ≤ x.1.num ∧ x.1.num ≤ 9223372036854775807) ∧ x.1.n < 18446744073709551616 ∧ x.1.b.length ≤ 140737488351232
theorem PuOk.ext {w w' : World} {x : Pu × Value} (h : PuOk w x) (he : Below w.heap.size w w') : PuOk w' x := ⟨h.1.ext he, h.2⟩
theorem PsAt.cells {w : World} {v : Value} {ps : List Pu} (h : PsAt w v ps) : ∃ l : List (Pu × Value), l.map (·.1) = ps ∧ (∀ x ∈ l, PuOk w x) ∧
    ∃ (ao : Option Addr) (c : Nat), v = .slice ao ps.length c ∧ (ps ≠ [] → ∃ ad, ao = some ad ∧ ∀ j u, (pcs l)[j]? = some u → w.cell? (ad.add j) = some u) := by
  obtain ⟨b, o, c, ao, rfl, hc, hl, hh⟩ := h
  by_cases hne : ps = []
  · subst hne
    exact ⟨[], rfl, fun _ h => absurd h (by simp), ao, c, rfl, fun h => absurd rfl h⟩
  · obtain ⟨rfl, hb, hps⟩ := hh hne
    have hone : ∀ i, i < ps.length → ∃ x : Pu × Value, ps[i]? = some x.1 ∧ PuOk w x ∧ w.cell? ⟨b, o + i * 4, none⟩ = some (.int .i64 x.1.num) ∧ w.cell? ⟨b, o + i * 4 + 1, none⟩ = some (.bool x.1.whole) ∧ w.cell? ⟨b, o + i * 4 + 2, none⟩ = some (.int .u64 (x.1.n : Int)) ∧ w.cell? ⟨b, o + i * 4 + 3, none⟩ = some x.2 := fun i hi => by
      obtain ⟨p, hp⟩ : ∃ p, ps[i]? = some p := ⟨_, List.getElem?_eq_getElem hi⟩
      obtain ⟨bv, c0, c1, c2, c3, c4, c5⟩ := hps i p hp
      exact ⟨(p, bv), hp, ⟨c4, c5⟩, c0, c1, c2, c3⟩
    have : Inhabited (Pu × Value) := ⟨(default, undef)⟩
    obtain ⟨P, hP⟩ := Deep.choose_lt hone
    refine ⟨(List.range ps.length).map P, ?_, fun x hx => ?_, _, c, rfl, fun _ => ⟨_, rfl, fun j u hu => ?_⟩⟩
    · refine List.ext_getElem? fun i => ?_
      by_cases hi : i < ps.length
      · rw [List.getElem?_map, List.getElem?_map, List.getElem?_range hi]
        simp only [Option.map_some]
        exact (hP i hi).1.symm
      · rw [List.getElem?_eq_none (by simp; omega), List.getElem?_eq_none (by omega)]
    · obtain ⟨i, hi, rfl⟩ := List.mem_map.1 hx
      exact (hP i (by simpa using hi)).2.1
    · have hj : j < ps.length * 4 := by
        have h1 := (List.getElem?_eq_some_iff.1 hu).1
        rw [pcs_len] at h1
        simpa using h1
      have hi : j / 4 < ps.length := by omega
      have hg : ((List.range ps.length).map P)[j / 4]? = some (P (j / 4)) := by rw [List.getElem?_map, List.getElem?_range hi]; rfl
      obtain ⟨q0, q1, q2, q3⟩ := pcs_get _ _ _ hg
      obtain ⟨_, _, z0, z1, z2, z3⟩ := hP (j / 4) hi
      rw [Addr.add_mid]
      obtain h4 | h4 | h4 | h4 : j % 4 = 0 ∨ j % 4 = 1 ∨ j % 4 = 2 ∨ j % 4 = 3 := by omega
      · rw [show j = j / 4 * 4 by omega] at hu ⊢
        rw [q0] at hu
        rw [z0, hu]
      · rw [show j = j / 4 * 4 + 1 by omega] at hu
        rw [q1] at hu
        rw [show o + j = o + j / 4 * 4 + 1 by omega, z1, hu]
      · rw [show j = j / 4 * 4 + 2 by omega] at hu
        rw [q2] at hu
        rw [show o + j = o + j / 4 * 4 + 2 by omega, z2, hu]
      · rw [show j = j / 4 * 4 + 3 by omega] at hu
        rw [q3] at hu
        rw [show o + j = o + j / 4 * 4 + 3 by omega, z3, hu]
theorem puOk_one {w : World} {l : List (Pu × Value)} (h : ∀ x ∈ l, PuOk w x) : ∀ u ∈ pcs l, u.oneCell' = true := fun u hu => by
  unfold pcs at hu
  obtain ⟨r, hr, hur⟩ := List.mem_flatten.1 hu
  obtain ⟨x, hx, rfl⟩ := List.mem_map.1 hr
  obtain ⟨a, c, e, _⟩ := (h x hx).1.len
  simp at hur
  rcases hur with rfl | rfl | rfl | rfl
  · rfl
  · rfl
  · rfl
  · rw [e]; rfl
/-- Fields to put behind others, in a row of the call's own. -/
theorem wpList_append_p {ops : Array Oper} {rest : List Oper} {o : Oper} {a : Act} {w : World} {Q : Exit → Act → World → Prop} (hgd : o.guard = none) (s x : Operand) (ho : o.op = .call { callee := .builtin .append, args := #[s, x], argTypes := #[22, 22] })
    {base n : Nat} {xs : List Value} (h : w.ownsRow base 32 4 (a.eval s) n xs) {ps : List Pu} {W0 : World} (hs : PsAt W0 (a.eval x) ps) (hB0 : Below W0.heap.size W0 w) (hn : n + ps.length ≤ 1000000) (hb : base ≤ w.heap.size)
    (hk : ∀ v' w' l, l.map (·.1) = ps → (∀ x ∈ l, PuOk W0 x) → w'.ownsRow base 32 4 v' (n + ps.length) (xs ++ pcs l) → w.grownBy w' (a.eval s).ownBlock → wpList Try.prog ops Q rest (a.put o.dst v') w') : wpList Try.prog ops Q (o :: rest) a w := by
  obtain ⟨l, e1, e2, ao, c, e3, e4⟩ := hs.cells
  have hll : l.length = ps.length := by rw [← e1]; simp
  cases ao with
  | none =>
    have h0 : ps = [] := by
      cases ps with
      | nil => rfl
      | cons x t => obtain ⟨ad, e, _⟩ := e4 (by simp); cases e
    subst h0
    have hl0 : l = [] := List.eq_nil_of_length_eq_zero (by simpa using hll)
    subst hl0
    refine wpList_plain hgd fun K hK => ?_
    obtain ⟨i, z, hi, hz, hsz, hbt, hzs⟩ := appP.info
    have hr : (Builtin.append_ #[22, 22] o.type #[a.eval s, a.eval x]).run Try.prog w = .ok (a.eval s) w := by
      rw [e3]
      rcases h.2 with ⟨e, _⟩ | ⟨g, cap, cur, e, _, _, hnc, _⟩
      · rw [e]; simp [Builtin.append_, run_underlying appP.und, sizeOf, typeInfo, hi, Builtin.lenOf, Builtin.firstCells]
      · rw [e]; simp [Builtin.append_, run_underlying appP.und, sizeOf, typeInfo, hi, Builtin.lenOf, Builtin.firstCells, hnc, storeCells]
    exact Oper.wp_value (run_op_append ho hr) (hK _ _ (hk _ w [] rfl (fun _ h => absurd h (by simp)) (by simpa [pcs] using h) (grown_refl w _)))
  | some ad =>
    refine wpList_append_r appP hgd s x ho h (ad := ad) (m := ps.length) (c := c) (news := pcs l) e3 (by rw [pcs_len, hll]) (fun j u hu => ?_) (puOk_one e2) (by unfold maxLen; omega) (by omega) hb fun v' w' h1 h2 => hk v' w' l e1 e2 h1 h2
    have hne : ps ≠ [] := fun e => by
      subst e
      have hl0 : l = [] := List.eq_nil_of_length_eq_zero (by simpa using hll)
      subst hl0
      simp [pcs] at hu
    obtain ⟨ad', e, hc⟩ := e4 hne
    injection e with e
    subst e
    have h9 := hc j u hu
    exact (hB0.cell (World.block_lt_of_cell? W0 _ h9)).trans h9
/-- Such a row, as it is read. -/
theorem puts_row {w : World} {base n : Nat} {v : Value} {l : List (Pu × Value)} {ps : List Pu} (h : w.ownsRow base 32 4 v n (pcs l)) (e : l.map (·.1) = ps) (hok : ∀ x ∈ l, PuOk w x) (hn : ps.length = n) (hm : n ≤ 1000000) : PsAt w v ps := by
  have hll : l.length = ps.length := by rw [← e]; simp
  subst hn
  rcases h.2 with ⟨rfl, h0⟩ | ⟨g, cap, cur, rfl, hb, hr, hnc, hmx, hs, ht⟩
  · have : ps = [] := List.eq_nil_of_length_eq_zero h0
    subst this
    exact ⟨0, 0, 0, none, rfl, Nat.le_refl _, by simp, fun h => absurd rfl h⟩
  · refine ⟨g, 0, cap, _, rfl, hnc, by omega, fun _ => ⟨rfl, (Array.getElem?_eq_some_iff.1 hr).1, fun i p hp => ?_⟩⟩
    have hi : i < ps.length := (List.getElem?_eq_some_iff.1 hp).1
    obtain ⟨x, hx⟩ : ∃ x, l[i]? = some x := ⟨_, List.getElem?_eq_getElem (by omega)⟩
    have hxp : x.1 = p := by
      rw [← e, List.getElem?_map, hx] at hp
      simpa using hp
    subst hxp
    obtain ⟨q0, q1, q2, q3⟩ := pcs_get l i x hx
    have hk := hok x (List.mem_of_getElem? hx)
    rw [Nat.zero_add]
    exact ⟨x.2, by rw [h.cellAt _ (by omega)]; exact q0, by rw [h.cellAt _ (by omega)]; exact q1, by rw [h.cellAt _ (by omega)]; exact q2, by rw [h.cellAt _ (by omega)]; exact q3, hk.1, hk.2⟩
end Go.Proofs.Ytogegmdimfinaaa
