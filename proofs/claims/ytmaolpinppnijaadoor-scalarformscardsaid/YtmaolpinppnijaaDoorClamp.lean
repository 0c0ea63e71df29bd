/- A copy of bytes, and bytes with some bits laid: as the program's calls answer them, in any world. -/
import Derived.Test.YtmaolpinppnijaaDoorFull
namespace Go.Proofs.YtmaolpinppnijaaDoor
open Go.RowKit
set_option maxRecDepth 100000 in
set_option maxHeartbeats 1000000 in
theorem clone_any (v : Value) (l : List Nat) (w : World) (h : BsAt w v l) (hl : l.length ≤ 1000) (hn : 0 < l.length) : Calls Tryd.prog 28 #[v] w fun e w' => ∃ u, e = .returned u ∧ Own w' w.heap.size u l ∧ Below w.heap.size w w' := by
  have H := hide h
  have HL := hide hl
  obtain ⟨b, o, c, ao, rfl, hc, hm, _, hh⟩ := h
  obtain ⟨rfl, _, _⟩ := hh (fun e => by subst e; simp at hn)
  have hq : ∀ W : World, (binOp BinOp.eql 22 (Value.slice (some ⟨b, o, none⟩) l.length c) (Value.slice none 0 0)).run Tryd.prog W = .ok (.bool false) W := fun W => by kernel_rfl
  clear hh hl hn hc hm
  go_enter Tryd.func28, Tryd.ntmps28
  have B1 := hide ((Below.refl w.heap.size w).alloc (Nat.le_refl _) (.cells #[] 5))
  go_wp2_with (at_builtin; refine wpList_append_b rfl (.tmp 5) (.tmp 6) rfl (base := w.heap.size) (l := []) (m := l) own_none (H.out.ext B1.out) (by have := HL.out; simp; omega) (by simp) ?_)
  intro v1 w1 o1 g1
  have B2 := hide (below_grown B1.out own_none (Nat.le_refl _) g1)
  have O1 := hide o1
  clear g1 B1 o1
  go_wp2
  go_ret
  exact ⟨_, rfl, O1.out, B2.out⟩
/-- A byte without its lowest three bits; the highest one. -/
def lo8 (x : Nat) : Nat := x - x % 8
def hi8 (x : Nat) : Nat := x % 64 + 64
def clampb (l : List Nat) : List Nat := (l.set 0 (lo8 (l.getD 0 0))).set 31 (hi8 (l.getD 31 0))
theorem bits_lo (x : Nat) (h : x < 256) : bits .andNot .u8 (x : Int) 7 = ((lo8 x : Nat) : Int) := by
  have : ∀ y : Fin 256, bits .andNot .u8 ((y.1 : Nat) : Int) 7 = ((lo8 y.1 : Nat) : Int) := by decide +kernel
  exact this ⟨x, h⟩
theorem bits_mid (x : Nat) (h : x < 256) : bits .andNot .u8 (x : Int) 128 = ((x % 128 : Nat) : Int) := by
  have : ∀ y : Fin 256, bits .andNot .u8 ((y.1 : Nat) : Int) 128 = ((y.1 % 128 : Nat) : Int) := by decide +kernel
  exact this ⟨x, h⟩
theorem bits_hi (x : Nat) (h : x < 256) : bits .or .u8 ((x % 128 : Nat) : Int) 64 = ((hi8 x : Nat) : Int) := by
  have : ∀ y : Fin 256, bits .or .u8 ((y.1 % 128 : Nat) : Int) 64 = ((hi8 y.1 : Nat) : Int) := by decide +kernel
  exact this ⟨x, h⟩
theorem Own.set {w : World} {base g cap k : Nat} {l : List Nat} (h : Own w base (.slice (some ⟨g, 0, none⟩) k cap) l) (j n : Nat) (hn : n < 256) : Own (w.setCell ⟨g, j, none⟩ (.int .u8 (n : Int))) base (.slice (some ⟨g, 0, none⟩) k cap) (l.set j n) := by
  have hk : k = l.length := by
    rcases h.row.2 with ⟨e, _⟩ | ⟨_, _, _, e, _⟩
    · cases e
    · injection e
  subst hk
  exact ⟨by
    have := (h.row.stored j (.int .u8 (n : Int))).1
    rw [List.length_set, show nv (l.set j n) = (nv l).set j (.int .u8 (n : Int)) by simp [nv, List.map_set]]
    exact this, fun i => by
    by_cases e : j = i
    · subst e
      rw [List.getD_eq_getElem?_getD, List.getElem?_set]
      simp only [if_true]
      split
      · exact hn
      · decide
    · rw [getD_set_ne' e]; exact h.lim i⟩
theorem lo8_lt (x : Nat) (h : x < 256) : lo8 x < 256 := by unfold lo8; omega
theorem hi8_lt (x : Nat) : hi8 x < 256 := by unfold hi8; omega
set_option maxRecDepth 100000 in
set_option maxHeartbeats 1000000 in
theorem clamp_32 (v : Value) (l : List Nat) (w : World) (h : BsAt w v l) (hl : l.length = 32) : Calls Tryd.prog 17 #[v] w (Bret w (clampb l)) := by
  have HC := hide (clone_any v l w h (by omega) (by omega))
  have hl0 := h.lim 0
  have hl31 := h.lim 31
  obtain ⟨ao, c, rfl, _, hc⟩ := h.len
  rw [hl] at HC ⊢
  have HL := hide hl
  clear h
  go_enter Tryd.func17, Tryd.ntmps17
  go_wp2_with fail
  refine HC.out.mono ?_
  rintro e w1 ⟨u, rfl, o1, b1⟩
  have hl1 := HL.out
  obtain ⟨g, cap, rfl, hg1, hg2, hcap, hcm⟩ := o1.form (by omega)
  have c0 : w1.cell? ⟨g, 0, none⟩ = some (.int .u8 ((l.getD 0 0 : Nat) : Int)) := by rw [o1.row.cellAt 0 (by omega), nv_get l 0 (by omega)]
  have c31 : w1.cell? ⟨g, 31, none⟩ = some (.int .u8 ((l.getD 31 0 : Nat) : Int)) := by rw [o1.row.cellAt 31 (by omega), nv_get l 31 (by omega)]
  have f0 := o1.row.frozenAt 0
  have f31 := o1.row.frozenAt 31
  have e1 := bits_lo _ hl0
  have e2 := bits_mid _ hl31
  have e3 := bits_hi _ hl31
  have OA := hide (((o1.set 0 (lo8 (l.getD 0 0)) (lo8_lt _ hl0)).set 31 (l.getD 31 0 % 128) (by omega)).set 31 (hi8 (l.getD 31 0)) (hi8_lt _))
  have hcl : ((l.set 0 (lo8 (l.getD 0 0))).set 31 (l.getD 31 0 % 128)).set 31 (hi8 (l.getD 31 0)) = clampb l := by unfold clampb; rw [List.set_set]
  rw [hcl] at OA
  have B1 := hide b1
  rw [hl1] at OA hcap ⊢
  generalize l.getD 0 0 = x0 at *
  generalize l.getD 31 0 = x31 at *
  generalize lo8 x0 = y0 at *
  generalize hi8 x31 = y31 at *
  generalize x31 % 128 = z31 at *
  generalize clampb l = C at *
  clear hcl hl0 hl31 HL hl hl1 o1 b1 HC
  go_wp2
  go_ret
  exact ⟨_, rfl, OA.out.at, ((B1.out.setCell hg1 _).setCell hg1 _).setCell hg1 _⟩
set_option maxHeartbeats 1000000 in
theorem clamp_other (v : Value) (l : List Nat) (w : World) (h : BsAt w v l) (hl : l.length ≠ 32) : Calls Tryd.prog 17 #[v] w fun e w' => e = .returned (.slice none 0 0) ∧ Below w.heap.size w w' := by
  obtain ⟨ao, c, rfl, _, hc⟩ := h.len
  have hne : ((l.length : Int) == 32) = false := by rw [beq_eq_false_iff_ne]; omega
  clear h hl
  go_enter Tryd.func17, Tryd.ntmps17
  go_wp2
  go_ret
  exact ⟨rfl, Below.refl _ _⟩
end Go.Proofs.YtmaolpinppnijaaDoor
