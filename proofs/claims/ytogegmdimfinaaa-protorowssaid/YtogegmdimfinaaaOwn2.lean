/- Bytes of the call's own: cut, handed on, grown at a region's list; parts of bytes that were there. -/
import Derived.Test.YtogegmdimfinaaaTyX
namespace Go.Proofs.Ytogegmdimfinaaa
open Go.RowKit
theorem take_lim {l : List Nat} (h : ∀ i, l.getD i 0 < 256) (n : Nat) : ∀ i, (l.take n).getD i 0 < 256 := fun i => by
  rw [List.getD_eq_getElem?_getD, List.getElem?_take]
  split
  · rw [← List.getD_eq_getElem?_getD]; exact h i
  · decide
theorem drop_lim {l : List Nat} (h : ∀ i, l.getD i 0 < 256) (n : Nat) : ∀ i, (l.drop n).getD i 0 < 256 := fun i => by
  rw [List.getD_eq_getElem?_getD, List.getElem?_drop, ← List.getD_eq_getElem?_getD]; exact h _
theorem lim_list {l : List Nat} (h : l.all (· < 256) = true) : ∀ i, l.getD i 0 < 256 := fun i => by
  rw [List.getD_eq_getElem?_getD]
  cases hi : l[i]? with
  | none => decide
  | some x =>
    have := List.all_eq_true.1 h x (List.mem_of_getElem? hi)
    simpa using this
theorem limB_of {l : List Nat} (h : ∀ i, l.getD i 0 < 256) : limB l := fun c hc => by
  obtain ⟨i, hi, rfl⟩ := List.getElem_of_mem hc
  have := h i
  rw [List.getD_eq_getElem?_getD, List.getElem?_eq_getElem hi] at this
  exact this
theorem lim_of {l : List Nat} (h : limB l) : ∀ i, l.getD i 0 < 256 := fun i => by
  rw [List.getD_eq_getElem?_getD]
  cases hi : l[i]? with
  | none => decide
  | some x => exact h x (List.mem_of_getElem? hi)
theorem BsAt.limB {w : World} {v : Value} {l : List Nat} (h : BsAt w v l) : limB l := limB_of h.lim
theorem Own.form {w : World} {base : Nat} {v : Value} {l : List Nat} (h : Own w base v l) (hl : 0 < l.length) : ∃ g cap, v = .slice (some ⟨g, 0, none⟩) l.length cap ∧ base ≤ g ∧ g < w.heap.size ∧ l.length ≤ cap ∧ cap ≤ 9223372036854775807 := by
  rcases h.row.2 with ⟨_, h0⟩ | ⟨g, cap, cur, rfl, hb, hr, hn, hm, _, ht⟩
  · omega
  · exact ⟨g, cap, rfl, hb, (Array.getElem?_eq_some_iff.1 hr).1, hn, by unfold maxLen at hm; omega⟩
theorem Own.low {w : World} {b c : Nat} {v : Value} {l : List Nat} (h : Own w b v l) (hb : c ≤ b) : Own w c v l :=
  ⟨⟨h.row.1, by
    rcases h.row.2 with h1 | ⟨g, cap, cur, hv, h2, hr⟩
    · exact .inl h1
    · exact .inr ⟨g, cap, cur, hv, Nat.le_trans hb h2, hr⟩⟩, h.lim⟩
theorem own_nil (w : World) (b : Nat) (h : b ≤ w.heap.size) : Own w b (.slice none 0 0) [] := by
  have h2 : Own w w.heap.size (.slice none 0 0) [] := ⟨World.ownsRow_nil _ _ _ _, by simp⟩
  exact h2.low h
theorem own_none0 {w : World} : Own (w.alloc (.cells #[] 5)) w.heap.size (.slice (some ⟨w.heap.size, 0, none⟩) 0 0) [] := own_lit [] (by simp) (by simp)
theorem nil_bs (w : World) : BsAt w (.slice none 0 0) [] := ⟨0, 0, 0, none, rfl, Nat.le_refl _, by unfold maxLen; omega, by simp, fun h => absurd rfl h⟩
theorem Own.nilv {w : World} {b : Nat} {v : Value} (h : Own w b v []) : ∃ ao c, v = .slice ao 0 c := by
  obtain ⟨ao, c, e, _, _⟩ := h.at.len
  exact ⟨ao, c, e⟩
theorem below_gr {w a b : World} {v : Value} {l : List Nat} {base : Nat} (h : Below w.heap.size w a) (ho : Own a base v l) (hb : w.heap.size ≤ base) (hg : a.grownBy b v.ownBlock) : Below w.heap.size w b :=
  h.grown hg h.size (fun k hk => Nat.le_trans hb (ho.row.lt k hk).1)
theorem Own.cut {w : World} {base g n c k : Nat} {l : List Nat} (h : Own w base (.slice (some ⟨g, 0, none⟩) n c) l) (hk : k ≤ l.length) : Own w base (.slice (some ⟨g, 0, none⟩) k c) (l.take k) := by
  have hl := h.row
  refine ⟨?_, take_lim h.lim k⟩
  have e : (l.take k).length = k := by rw [List.length_take]; omega
  rw [e]
  refine ⟨by rw [nv_len, e, Nat.mul_one], ?_⟩
  rcases hl.2 with ⟨e1, _⟩ | ⟨b, cap, cur, e1, hb, hr, hn, hm, hs, ht⟩
  · cases e1
  · injection e1 with e1 e2 e3
    injection e1 with e1
    injection e1 with e4 _ _
    subst e3 e4
    refine .inr ⟨g, c, cur, rfl, hb, hr, by omega, hm, hs, ?_⟩
    have h3 := congrArg (List.take k) ht
    rw [List.take_take, Nat.min_eq_left (by omega)] at h3
    rw [Nat.mul_one, h3]
    unfold nv
    rw [List.map_take]
/-- Bytes behind bytes, at a region's list, where a guard lets it be done. -/
theorem wpList_append_bw {ops : Array Oper} {rest : List Oper} {o : Oper} {a : Act} {w : World} {Q : Exit → Act → World → Prop} (hgd : Region.wanted o (yielded ops a.tmps) = true) (s x : Operand) (ho : o.op = .call { callee := .builtin .append, args := #[s, x], argTypes := #[30, 30] })
    {base : Nat} {l m : List Nat} (h : Own w base (a.eval s) l) (hs : BsAt w (a.eval x) m) (hn : l.length + m.length ≤ 1000000000000) (hb : base ≤ w.heap.size)
    (hk : ∀ v' w', Own w' base v' (l ++ m) → w.grownBy w' (a.eval s).ownBlock → wpList Try.prog ops Q rest (a.put o.dst v') w') : wpList Try.prog ops Q (o :: rest) a w := by
  refine wpList_step fun K hK => ?_
  simp only [hgd, if_true]
  obtain ⟨v', w', hr, h1, h2⟩ := append_run o.type h hs hn hb
  exact Oper.wp_value (run_op_append ho hr) (hK _ _ (hk v' w' h1 h2))
/-- One byte in new memory. -/
theorem one_at {w : World} (x : Nat) (hx : x < 256) : BsAt (w.alloc (.cells #[.int .u8 (x : Int)] 5)) (.slice (some ⟨w.heap.size, 0, none⟩) 1 1) [x] :=
  marked_at (w := w) [x] (fun i => by cases i <;> simp <;> omega) (by simp [maxLen]) (0, 0)
theorem alloc_below (w : World) (o : Obj) : Below w.heap.size w (w.alloc o) := (Below.refl _ _).alloc (Nat.le_refl _) _
/-- The rest of bytes from a place on. -/
theorem slice_from {w : World} {v : Value} {l : List Nat} (h : BsAt w v l) (k : Nat) (hk : k ≤ l.length) :
    ∃ v', (∀ W : World, (Instr.sliceAt 30 v (some (.int .i64 (k : Int))) none none).run Try.prog W = .ok v' W) ∧ (∀ W : World, (Instr.sliceAt 30 v (some (.int .u64 (k : Int))) none none).run Try.prog W = .ok v' W) ∧ BsAt w v' (l.drop k) := by
  have hlim := h.lim
  obtain ⟨b, o, c, ao, rfl, hc, hm, _, hh⟩ := h
  have hlen : (l.drop k).length = l.length - k := by simp
  have g1 : ¬ ((k : Int) < 0) := by omega
  have g2 : ¬ ((l.length : Int) < (k : Int)) := by omega
  have g3 : ¬ ((c : Int) < (l.length : Int)) := by omega
  have g4 : ¬ ((l.length : Int) < 0) := by omega
  cases ao with
  | none =>
    have hl0 : l = [] := by
      cases l with
      | nil => rfl
      | cons x t => obtain ⟨e, _⟩ := hh (by simp); cases e
    subst hl0
    obtain rfl : k = 0 := by simpa using hk
    refine ⟨.slice none 0 c, fun W => ?_, fun W => ?_, ⟨0, 0, c, none, rfl, by simp, hm, by simp, fun e => absurd rfl e⟩⟩
    · go_simp
    · go_simp
  | some ad =>
    by_cases hcc : c = k
    · have hkl : k = l.length := by omega
      refine ⟨.slice (some ad) 0 0, fun W => ?_, fun W => ?_, ?_⟩
      · subst hkl; go_simp
      · subst hkl; go_simp
      · rw [show l.drop k = [] by rw [hkl]; simp]
        exact ⟨0, 0, 0, some ad, rfl, by simp, by simp [maxLen], by simp, fun e => absurd rfl e⟩
    · refine ⟨.slice (some (ad.add k)) (l.length - k) (c - k), fun W => ?_, fun W => ?_, ?_⟩
      · go_simp
      · go_simp
      · refine ⟨b, o + k, c - k, _, by rw [hlen], by rw [hlen]; omega, by omega, drop_lim hlim k, fun hne => ?_⟩
        have hne' : l ≠ [] := fun e => by subst e; simp at hne
        obtain ⟨e4, hb, hr⟩ := hh hne'
        injection e4 with e4
        subst e4
        refine ⟨by simp [Addr.add], hb, fun i hi => ?_⟩
        rw [hlen] at hi
        rw [Nat.add_assoc, hr (k + i) (by omega), List.getD_eq_getElem?_getD, List.getD_eq_getElem?_getD, List.getElem?_drop]
/-- The bytes up to a place. -/
theorem slice_upto {w : World} {v : Value} {l : List Nat} (h : BsAt w v l) (k : Nat) (hk : k ≤ l.length) :
    ∃ v', (∀ W : World, (Instr.sliceAt 30 v none (some (.int .i64 (k : Int))) none).run Try.prog W = .ok v' W) ∧ (∀ W : World, (Instr.sliceAt 30 v none (some (.int .u64 (k : Int))) none).run Try.prog W = .ok v' W) ∧ BsAt w v' (l.take k) := by
  have hlim := h.lim
  obtain ⟨b, o, c, ao, rfl, hc, hm, _, hh⟩ := h
  have hlen : (l.take k).length = k := by simp; omega
  have g1 : ¬ ((k : Int) < 0) := by omega
  have g3 : ¬ ((c : Int) < (k : Int)) := by omega
  refine ⟨.slice ao k c, fun W => ?_, fun W => ?_, ⟨b, o, c, ao, by rw [hlen], by omega, hm, take_lim hlim k, fun hne => ?_⟩⟩
  · cases ao with
    | none =>
      have hl0 : l = [] := by
        cases l with
        | nil => rfl
        | cons x t => obtain ⟨e, _⟩ := hh (by simp); cases e
      subst hl0
      obtain rfl : k = 0 := by simpa using hk
      go_simp
    | some ad => go_simp; intro h; omega
  · cases ao with
    | none =>
      have hl0 : l = [] := by
        cases l with
        | nil => rfl
        | cons x t => obtain ⟨e, _⟩ := hh (by simp); cases e
      subst hl0
      obtain rfl : k = 0 := by simpa using hk
      go_simp
    | some ad => go_simp; intro h; omega
  · have hne' : l ≠ [] := fun e => by subst e; simp at hne
    obtain ⟨e4, hb, hr⟩ := hh hne'
    refine ⟨e4, hb, fun i hi => ?_⟩
    rw [hlen] at hi
    rw [hr i (by omega), List.getD_eq_getElem?_getD, List.getD_eq_getElem?_getD, List.getElem?_take, if_pos hi]
end Go.Proofs.Ytogegmdimfinaaa
