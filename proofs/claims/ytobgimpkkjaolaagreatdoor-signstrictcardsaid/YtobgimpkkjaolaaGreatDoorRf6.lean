/- The page reads a point as the program does: what both answer is told by the bytes alone. -/
import Derived.Test.YtobgimpkkjaolaaGreatDoorRf5
namespace Go.Proofs.YtobgimpkkjaolaaGreatDoor
open Go.RowKit
theorem set_back {l : List Nat} {i : Nat} : l.set i (l.getD i 0) = l := by
  refine List.ext_getElem (by simp) fun k h1 h2 => ?_
  rw [List.getElem_set]
  split
  · next e => subst e; rw [List.getD_eq_getElem?_getD, List.getElem?_eq_getElem h2]; rfl
  · rfl
theorem set_twice {l : List Nat} {i a b : Nat} : (l.set i a).set i b = l.set i b := by simp
theorem getD_set_at {l : List Nat} {i a : Nat} (h : i < l.length) : (l.set i a).getD i 0 = a := by
  rw [List.getD_eq_getElem?_getD, List.getElem?_set]; simp [h]
theorem rt_even {u v x : Kp} (h : rt u v = some x) : ¬ x.val % 2 = 1 := by
  unfold rt at h
  split at h
  · injection h with h; subst h; exact ev_even _
  · split at h
    · injection h with h; subst h; exact ev_even _
    · cases h
theorem pk_iff0 {l M : List Nat} {x Y : Kp} (hM : l.set 31 (l.getD 31 0 % 128) = M) (hb : l.getD 31 0 / 128 * 128 = 0) (hx : ¬ x.val % 2 = 1) : pkb x Y = l ↔ bys Y.val 32 = M := by
  have h1 : l.getD 31 0 % 128 = l.getD 31 0 := by omega
  rw [h1, set_back] at hM
  unfold pkb
  rw [if_neg hx, hM]
theorem pk_iff1 {l M : List Nat} {x Y : Kp} (hl : l.length = 32) (hM : l.set 31 (l.getD 31 0 % 128) = M) (hb : l.getD 31 0 / 128 * 128 = 128) (hx : x.val % 2 = 1) : pkb x Y = l ↔ bys Y.val 32 = M := by
  have hy := byt31 Y.isLt
  have h1 : l.getD 31 0 = l.getD 31 0 % 128 + 128 := by omega
  unfold pkb
  rw [if_pos hx, ← hM]
  constructor
  · intro e
    have h3 : l.getD 31 0 = byt Y.val 31 + 128 := by rw [← e, getD_set_at (by rw [bys_len]; decide)]
    have h4 : l.getD 31 0 % 128 = byt Y.val 31 := by omega
    rw [h4, ← e, set_twice, ← bys31, set_back]
  · intro e
    have h3 : byt Y.val 31 = l.getD 31 0 % 128 := by rw [← bys31, e, getD_set_at (by omega)]
    rw [e, h3, set_twice, ← h1, set_back]
theorem pk_none {l : List Nat} {x Y : Kp} (hb : l.getD 31 0 / 128 * 128 = 128) (hx : ¬ x.val % 2 = 1) : ¬ pkb x Y = l := fun e => by
  have hy := byt31 Y.isLt
  unfold pkb at e
  rw [if_neg hx] at e
  rw [← e, bys31] at hb
  omega
theorem r_unpack {l : List Nat} {v : Value} {w : World} (h : BsAt w v l) : Hands Tryz.prog 35 #[v] w (upb ((dec l).getD (0, 1)).1 ((dec l).getD (0, 1)).2 (dec l).isSome) := by
  unfold dec
  by_cases hl : l.length = 32
  · rw [if_pos hl]
    have h31 := h.lim 31
    obtain ⟨M, hM⟩ : ∃ M, l.set 31 (l.getD 31 0 % 128) = M := ⟨_, rfl⟩
    obtain ⟨Y, hY⟩ : ∃ Y, yof l = Y := ⟨_, rfl⟩
    rw [hY]
    rcases (by omega : l.getD 31 0 / 128 * 128 = 0 ∨ l.getD 31 0 / 128 * 128 = 128) with hb | hb
    · have hib0 : hib l = false := by unfold hib; rw [hb]; rfl
      rw [hib0]
      cases hr : rt (Y * Y - (1 : Kp)) (dd * (Y * Y) + (1 : Kp)) with
      | none =>
        by_cases hc : bys Y.val 32 = M
        · exact up_n0 h hl hM hY hb hc hr
        · exact up_c0 h hl hM hY hb hc
      | some x =>
        simp only [Bool.false_eq_true, if_false]
        have hi := pk_iff0 (Y := Y) hM hb (rt_even hr)
        by_cases hc : bys Y.val 32 = M
        · rw [if_pos (hi.2 hc)]; exact up_s0 h hl hM hY hb hc hr
        · rw [if_neg fun e => hc (hi.1 e)]; exact up_c0 h hl hM hY hb hc
    · have hib1 : hib l = true := by unfold hib; rw [hb]; rfl
      rw [hib1]
      cases hr : rt (Y * Y - (1 : Kp)) (dd * (Y * Y) + (1 : Kp)) with
      | none =>
        by_cases hc : bys Y.val 32 = M
        · exact up_n1 h hl hM hY hb hc hr
        · exact up_c1 h hl hM hY hb hc
      | some x =>
        simp only [if_true]
        by_cases hx : x = 0
        · rw [if_neg (pk_none hb (by rw [hx, neg_zero', kval_zero]; decide))]
          by_cases hc : bys Y.val 32 = M
          · exact up_z1 h hl hM hY hb hc hr hx
          · exact up_c1 h hl hM hY hb hc
        · have hi := pk_iff1 (Y := Y) hl hM hb ((neg_par hx).2 (rt_even hr))
          by_cases hc : bys Y.val 32 = M
          · rw [if_pos (hi.2 hc), ← k_zsub]; exact up_s1 h hl hM hY hb hc hr hx
          · rw [if_neg fun e => hc (hi.1 e)]; exact up_c1 h hl hM hY hb hc
  · rw [if_neg hl]
    exact up_len h hl
theorem r_unpack_s {l : List Nat} {v : Value} {w : World} {x y : Kp} (hd : dec l = some (x, y)) (h : BsAt w v l) : Hands Tryz.prog 35 #[v] w (upb x y true) := by
  have := r_unpack h
  rwa [hd] at this
theorem r_unpack_n {l : List Nat} {v : Value} {w : World} (hd : dec l = none) (h : BsAt w v l) : Hands Tryz.prog 35 #[v] w (upb (0 : Kp) (1 : Kp) false) := by
  have := r_unpack h
  rwa [hd] at this
section
variable {ops : Array Oper} {Q : Exit → Act → World → Prop} {o : Oper} {a : Act} {w : World} {x : Operand} {p q : Kp} {b : Bool}
theorem g_ext_q0 (hw : Region.wanted o (yielded ops a.tmps) = true) (ho : o.op = .extract x 0) (hx : (upb p q b).p w (a.eval x)) : Gives Tryz.prog ops Q o (qk p q 1 (p * q)) a w := by
  obtain ⟨C, hC, hr⟩ := hx
  exact g_run hw (v := .agg C) (by unfold execOp; simp only [ho, hC]; rfl) (Ext.refl w) ⟨C, rfl, hr⟩
theorem g_ext_q1 (hw : Region.wanted o (yielded ops a.tmps) = true) (ho : o.op = .extract x 1) (hx : (upb p q b).p w (a.eval x)) : Gives Tryz.prog ops Q o (isv (.bool b)) a w := by
  obtain ⟨C, hC, hr⟩ := hx
  exact g_run hw (v := .bool b) (by unfold execOp; simp only [ho, hC]; rfl) (Ext.refl w) rfl
end
end Go.Proofs.YtobgimpkkjaolaaGreatDoor
