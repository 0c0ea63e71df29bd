/- Bytes, cut or filled up with zeros to 32: the law's own helper, as its call answers. -/
import Derived.Test.YtmaolpinppnijaaDoorApp
namespace Go.Proofs.YtmaolpinppnijaaDoor
open Go.RowKit
/-- 32 bytes of these. -/
def fullb (l : List Nat) : List Nat := (l ++ zz 32).take 32
theorem fullb_len (l : List Nat) : (fullb l).length = 32 := by simp [fullb, zz_len]
theorem take_lim {l : List Nat} (h : ∀ i, l.getD i 0 < 256) (n : Nat) : ∀ i, (l.take n).getD i 0 < 256 := fun i => by
  rw [List.getD_eq_getElem?_getD, List.getElem?_take]
  split
  · rw [← List.getD_eq_getElem?_getD]; exact h i
  · decide
theorem Own.form {w : World} {base : Nat} {v : Value} {l : List Nat} (h : Own w base v l) (hl : 0 < l.length) : ∃ g cap, v = .slice (some ⟨g, 0, none⟩) l.length cap ∧ base ≤ g ∧ g < w.heap.size ∧ l.length ≤ cap ∧ cap ≤ 9223372036854775807 := by
  rcases h.row.2 with ⟨_, h0⟩ | ⟨g, cap, cur, rfl, hb, hr, hn, hm, _, ht⟩
  · omega
  · exact ⟨g, cap, rfl, hb, (Array.getElem?_eq_some_iff.1 hr).1, hn, by unfold maxLen at hm; omega⟩
theorem BsAt.take {w : World} {b o n c : Nat} {l : List Nat} (h : BsAt w (.slice (some ⟨b, o, none⟩) l.length c) l) (hn : n ≤ l.length) : BsAt w (.slice (some ⟨b, o, none⟩) n c) (l.take n) := by
  have hl := h.lim
  obtain ⟨b', o', c', ao, e, hc, hm, _, hh⟩ := h
  injection e with e1 e2 e3
  subst e3
  have hlen : (l.take n).length = n := by simp; omega
  refine ⟨b, o, c, _, by rw [hlen], by omega, hm, take_lim hl n, fun hne => ?_⟩
  have hne' : l ≠ [] := fun e => by subst e; simp at hne
  obtain ⟨e4, hb, hr⟩ := hh hne'
  rw [← e1] at e4
  injection e4 with e4
  injection e4 with e5 e6 _
  subst e5 e6
  refine ⟨rfl, hb, fun i hi => ?_⟩
  rw [hlen] at hi
  rw [hr i (by omega)]
  simp [List.getD_eq_getElem?_getD, hi]
theorem own_none {w : World} : Own (w.alloc (.cells #[] 5)) w.heap.size (.slice (some ⟨w.heap.size, 0, none⟩) 0 0) [] := own_lit [] (by simp) (by simp)
theorem below_grown {w a b : World} {v : Value} {l : List Nat} {base : Nat} (h : Below w.heap.size w a) (ho : Own a base v l) (hb : w.heap.size ≤ base) (hg : a.grownBy b v.ownBlock) : Below w.heap.size w b :=
  h.grown hg h.size (fun k hk => Nat.le_trans hb (ho.row.lt k hk).1)
set_option maxRecDepth 100000 in
set_option maxHeartbeats 1000000 in
theorem full_any (v : Value) (l : List Nat) (w : World) (h : BsAt w v l) (hl : l.length ≤ 100) : Calls Tryd.prog 19 #[v] w (Bret w (fullb l)) := by
  have H := hide h
  have HL := hide hl
  obtain ⟨ao, c, rfl, _, _⟩ := h.len
  clear h hl
  go_enter Tryd.func19, Tryd.ntmps19
  have B1 := hide ((Below.refl w.heap.size w).alloc (Nat.le_refl _) (.cells #[] 5))
  go_wp2_with (at_builtin; refine wpList_append_b rfl (.tmp 3) (.tmp 4) rfl (base := w.heap.size) (l := []) (m := l) own_none (H.out.ext B1.out) (by have := HL.out; simp; omega) (by simp) ?_)
  intro v1 w1 o1 g1
  have B2 := hide (below_grown B1.out own_none (Nat.le_refl _) g1)
  have O1 := hide o1
  have S1 : Hid (w.heap.size ≤ w1.heap.size) := B2.out.size
  clear g1 B1 o1
  go_wp2_with (at_builtin; refine wpList_append_z rfl 32 (by decide) (.tmp 5) _ rfl rfl (base := w.heap.size) O1.out (by have := HL.out; simp; omega) S1.out ?_)
  intro v2 w2 o2 g2
  have B3 := hide (below_grown B2.out O1.out (Nat.le_refl _) g2)
  clear g2 B2 O1 S1
  have hlen : (l ++ zz 32).length = l.length + 32 := by simp [zz_len]
  obtain ⟨g, cap, rfl, _, _, hc, hm⟩ := o2.form (by omega)
  have HB := hide (BsAt.take (n := 32) o2.at (by omega))
  rw [hlen] at hc ⊢
  have hcc : (32 : Nat) ≤ cap := by omega
  clear hlen hc HL o2
  go_wp2
  go_ret
  exact ⟨_, rfl, HB.out, B3.out⟩
end Go.Proofs.YtmaolpinppnijaaDoor
