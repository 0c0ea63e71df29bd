/- A copy of bytes, bytes with a bit laid, a point's height and a point's bytes, as the program's calls answer them. -/
import Derived.Test.YtobgimpkkjaolaaGreatDoorFn3
import Derived.Test.YtobgimpkkjaolaaGreatDoorTyX
namespace Go.Proofs.YtobgimpkkjaolaaGreatDoor
open Go.RowKit
theorem take_lim {l : List Nat} (h : ∀ i, l.getD i 0 < 256) (n : Nat) : ∀ i, (l.take n).getD i 0 < 256 := fun i => by
  rw [List.getD_eq_getElem?_getD, List.getElem?_take]
  split
  · rw [← List.getD_eq_getElem?_getD]; exact h i
  · decide
theorem Own.form {w : World} {base : Nat} {v : Value} {l : List Nat} (h : Own w base v l) (hl : 0 < l.length) : ∃ g cap, v = .slice (some ⟨g, 0, none⟩) l.length cap ∧ base ≤ g ∧ g < w.heap.size ∧ l.length ≤ cap ∧ cap ≤ 9223372036854775807 := by
  rcases h.row.2 with ⟨_, h0⟩ | ⟨g, cap, cur, rfl, hb, hr, hn, hm, _, ht⟩
  · omega
  · exact ⟨g, cap, rfl, hb, (Array.getElem?_eq_some_iff.1 hr).1, hn, by unfold maxLen at hm; omega⟩
theorem own_none {w : World} : Own (w.alloc (.cells #[] 5)) w.heap.size (.slice (some ⟨w.heap.size, 0, none⟩) 0 0) [] := own_lit [] (by simp) (by simp)
theorem below_grown {w a b : World} {v : Value} {l : List Nat} {base : Nat} (h : Below w.heap.size w a) (ho : Own a base v l) (hb : w.heap.size ≤ base) (hg : a.grownBy b v.ownBlock) : Below w.heap.size w b :=
  h.grown hg h.size (fun k hk => Nat.le_trans hb (ho.row.lt k hk).1)
set_option maxRecDepth 100000 in
set_option maxHeartbeats 1000000 in
theorem clone_any (v : Value) (l : List Nat) (w : World) (h : BsAt w v l) (hl : l.length ≤ 1000) (hn : 0 < l.length) : Calls Tryz.prog 78 #[v] w fun e w' => ∃ u, e = .returned u ∧ Own w' w.heap.size u l ∧ Below w.heap.size w w' := by
  have H := hide h
  have HL := hide hl
  obtain ⟨b, o, c, ao, rfl, hc, hm, _, hh⟩ := h
  obtain ⟨rfl, _, _⟩ := hh (fun e => by subst e; simp at hn)
  have hq : ∀ W : World, (binOp BinOp.eql 22 (Value.slice (some ⟨b, o, none⟩) l.length c) (Value.slice none 0 0)).run Tryz.prog W = .ok (.bool false) W := fun W => by kernel_rfl
  clear hh hl hn hc hm
  go_enter Tryz.func78, Tryz.ntmps78
  have B1 := hide ((Below.refl w.heap.size w).alloc (Nat.le_refl _) (.cells #[] 5))
  go_wp2_with (at_builtin; refine wpList_append_b rfl (.tmp 5) (.tmp 6) rfl (base := w.heap.size) (l := []) (m := l) own_none (H.out.ext B1.out) (by have := HL.out; simp; omega) (by simp) ?_)
  intro v1 w1 o1 g1
  have B2 := hide (below_grown B1.out own_none (Nat.le_refl _) g1)
  have O1 := hide o1
  clear g1 B1 o1
  go_wp2
  go_ret
  exact ⟨_, rfl, O1.out, B2.out⟩
theorem bits_mid (x : Nat) (h : x < 256) : bits .andNot .u8 (x : Int) 128 = ((x % 128 : Nat) : Int) := by
  have : ∀ y : Fin 256, bits .andNot .u8 ((y.1 : Nat) : Int) 128 = ((y.1 % 128 : Nat) : Int) := by decide +kernel
  exact this ⟨x, h⟩
theorem Own.set {w : World} {base g cap k : Nat} {l : List Nat} (h : Own w base (.slice (some ⟨g, 0, none⟩) k cap) l) (j n : Nat) (hn : n < 256) : Own (w.setCell ⟨g, j, none⟩ (.int .u8 (n : Int))) base (.slice (some ⟨g, 0, none⟩) k cap) (l.set j n) := by
  have hk : k = l.length := by
    rcases h.row.2 with ⟨e, _⟩ | ⟨_, _, _, e, _⟩
    · cases e
    · injection e
  subst hk
  exact ⟨by
    have := (h.row.stored j (.int .u8 (n : Int))).1
    rw [List.length_set, show nv (l.set j n) = (nv l).set j (.int .u8 (n : Int)) by simp [nv, List.map_set]]
    exact this, fun i => by
    by_cases e : j = i
    · subst e
      rw [List.getD_eq_getElem?_getD, List.getElem?_set]
      simp only [if_true]
      split
      · exact hn
      · decide
    · rw [getD_set_ne' e]; exact h.lim i⟩
theorem bits_or128 (x : Nat) (h : x < 128) : bits .or .u8 (x : Int) 128 = ((x + 128 : Nat) : Int) := by
  have : ∀ y : Fin 128, bits .or .u8 ((y.1 : Nat) : Int) 128 = ((y.1 + 128 : Nat) : Int) := by decide +kernel
  exact this ⟨x, h⟩
theorem bits_and128 (x : Nat) (h : x < 256) : bits .and .u8 (x : Int) 128 = ((x / 128 * 128 : Nat) : Int) := by
  have : ∀ y : Fin 256, bits .and .u8 ((y.1 : Nat) : Int) 128 = ((y.1 / 128 * 128 : Nat) : Int) := by decide +kernel
  exact this ⟨x, h⟩
theorem nv_ba (l : List Nat) : (ba l).toList = nv l := by simp [nv, ba]
theorem own_of_row {w : World} {base g : Nat} {l : List Nat} (hg : base ≤ g) (hr : w.heap[g]? = some (.cells (ba l) 5 (0, 0))) (hl : ∀ i, l.getD i 0 < 256) (hm : l.length ≤ maxLen) : Own w base (.slice (some ⟨g, 0, none⟩) l.length l.length) l :=
  ⟨⟨by rw [nv_len, Nat.mul_one], .inr ⟨g, l.length, ba l, rfl, hg, hr, Nat.le_refl _, hm, by simp [ba], by rw [nv_ba, Nat.mul_one]; exact List.take_of_length_le (by rw [nv_len]; exact Nat.le_refl _)⟩⟩, hl⟩
theorem byt_lt (x i : Nat) : byt x i < 256 := Nat.mod_lt _ (by decide)
theorem bys_lim (x : Nat) : ∀ i, (bys x 32).getD i 0 < 256 := fun i => by
  rw [bys_get x 32 i (Nat.le_refl _)]
  split
  · exact byt_lt x i
  · decide
theorem byt31 {x : Nat} (h : x < pp) : byt x 31 < 128 := by
  unfold byt
  have h2 : x / 256 ^ 31 < 128 := by
    rw [Nat.div_lt_iff_lt_mul (by decide)]
    exact Nat.lt_trans h (by decide)
  exact Nat.lt_of_le_of_lt (Nat.mod_le _ _) h2
def yof (l : List Nat) : Kp := ⟨bval (l.set 31 (l.getD 31 0 % 128)) % pp, Nat.mod_lt _ pp_pos⟩
def pkb (x y : Kp) : List Nat := if x.val % 2 = 1 then (bys y.val 32).set 31 (byt y.val 31 + 128) else bys y.val 32
theorem pkb_len (x y : Kp) : (pkb x y).length = 32 := by unfold pkb; split <;> simp [bys_len]
set_option maxRecDepth 100000 in
set_option maxHeartbeats 2000000 in
theorem p_height {v : Value} {l : List Nat} {w : World} (h : BsAt w v l) (hl : l.length = 32) : Hands Tryz.prog 52 #[v] w (isk (yof l)) := by
  suffices HH : ∀ R_ : STy, (∀ W, R_.p W (.agg (el (yof l).val))) → Hands Tryz.prog 52 #[v] w R_ from HH _ (fun _ => rfl)
  intro R_ hR_
  have HC : Hid (∀ W : World, Below w.heap.size w W → Calls Tryz.prog 78 #[v] W fun e w' => ∃ u, e = .returned u ∧ Own w' W.heap.size u l ∧ Below W.heap.size W w') := fun W hb => clone_any v l W (h.ext hb) (by omega) (by omega)
  have HF : Hid (∀ (W : World) (u : Value), BsAt W u (l.set 31 (l.getD 31 0 % 128)) → Calls Tryz.prog 90 #[u] W fun e w' => e = .returned (.agg (el (yof l).val)) ∧ Below W.heap.size W w') := fun W u hb => cst_from (k := yof l) (by simp [hl]) rfl u W hb
  have hl31 := h.lim 31
  have HL := hide hl
  have HR := hide hR_
  generalize hA : el (yof l).val = A at *
  have s4 : A.size = 4 := by rw [← hA]; rfl
  have one : A.all (·.oneCell') = true := by rw [← hA]; exact el_one _
  clear hA h hl hR_
  unfold Hands
  go_enter Tryz.func52, Tryz.ntmps52
  have BE := hide ((Below.refl w.heap.size w).alloc (Nat.le_refl _) (.cells zk 47))
  go_wp2_with fail
  refine (HC.out _ BE.out).mono ?_
  rintro e w1 ⟨u, rfl, o1, b1⟩
  have hl1 := HL.out
  obtain ⟨g, cap, rfl, hg1, hg2, hcap, hcm⟩ := o1.form (by omega)
  have c31 : w1.cell? ⟨g, 31, none⟩ = some (.int .u8 ((l.getD 31 0 : Nat) : Int)) := by rw [o1.row.cellAt 31 (by omega), nv_get l 31 (by omega)]
  have f31 := o1.row.frozenAt 31
  have e2 := bits_mid _ hl31
  have OA := hide ((o1.set 31 (l.getD 31 0 % 128) (by omega)).at)
  have hgw : w.heap.size ≤ g := by simp at hg1; omega
  have R0 := hide (Below.heap b1 (g := w.heap.size) (by simp) (heap_alloc_last _ _))
  have B1 := hide (Below.setCell (Below.chain BE.out b1) (p := ⟨g, 31, none⟩) hgw (.int .u8 ((l.getD 31 0 % 128 : Nat) : Int)))
  have R1 := hide ((Below.heap_setCell w1 ⟨g, 31, none⟩ (.int .u8 ((l.getD 31 0 % 128 : Nat) : Int)) w.heap.size (by show w.heap.size ≠ g; simp at hg1; omega)).trans R0.out)
  rw [hl1] at OA hcap ⊢
  have HF2 := hide (HF.out _ _ OA.out)
  generalize l.getD 31 0 = x31 at *
  generalize x31 % 128 = z31 at *
  clear hl31 HL hl1 o1 b1 HC OA HF R0 BE
  go_wp2_with fail
  refine HF2.out.mono ?_
  rintro e w2 ⟨rfl, b2⟩
  have R2 := Below.heap b2 (g := w.heap.size) (by simp; omega) R1.out
  have HS := hide (Below.setRow (Below.chain B1.out b2) w.heap.size A (Nat.le_refl _))
  clear b2 HF2
  go_wp2_with (refine wpList_store_row rfl 47 (.tmp 2) (.tmp 11) rfl w.heap.size A rfl rfl 47 zk R2 (by rw [s4]; exact sizeK) (by rw [s4]; rfl) one ?_)
  exact bodyPost_ret_by (results_cell_row rfl _ _ w.heap.size 47 _ (0, 0) _ rfl (setRow_heap _ _ _ _ _ _ R2) Tryz.underlying47 rfl (by rw [s4]; exact sizeK)) rfl ⟨_, rfl, HS.out, HR.out _⟩
end Go.Proofs.YtobgimpkkjaolaaGreatDoor
