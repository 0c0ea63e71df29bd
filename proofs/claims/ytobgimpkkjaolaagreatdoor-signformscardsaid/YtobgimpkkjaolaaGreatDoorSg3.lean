/- The public key and the signature of a secret, and of a seed. -/
import Derived.Test.YtobgimpkkjaolaaGreatDoorSg2
namespace Go.Proofs.YtobgimpkkjaolaaGreatDoor
open Go.RowKit
theorem bytesO {P : Pt} {u : Value} {w : World} (h : u = .agg (pe P.x (P.y - 1))) : Calls Tryz.prog 33 #[u] w fun e w' => ∃ v, e = .returned v ∧ Own w' w.heap.size v (pkP P) ∧ Below w.heap.size w w' := by
  subst h; exact p_bytes _ _ _
theorem Own.low {w : World} {b c : Nat} {v : Value} {l : List Nat} (h : Own w b v l) (hb : c ≤ b) : Own w c v l := by
  refine ⟨?_, h.lim⟩
  have := h.row
  exact ⟨this.1, this.2.imp (fun x => x) fun ⟨g, cap, cur, e, hg, r⟩ => ⟨g, cap, cur, e, Nat.le_trans hb hg, r⟩⟩
theorem Ext.drewL {C : Nat} {a w : World} (h : Below C a w) : Below C a w.drew := Below.drew h
set_option maxRecDepth 100000 in
set_option maxHeartbeats 1000000 in
theorem public_any {a p : Value} {la lp : List Nat} {w : World} (h : BsAt w a la) (hp : BsAt w p lp) (LDi : LaidW 2 exw w) :
    Calls Tryz.prog 15 #[.agg #[a, p]] w fun e w' => ∃ v, e = .returned v ∧ Own w' w.heap.size v (pubOf la) ∧ Below w.heap.size w w' := by
  obtain ⟨n, hn⟩ : ∃ n, bval (la.take 32) = n := ⟨_, rfl⟩
  have HM : Hid (∀ (W : World) (u : Value), Below w.heap.size w W → (isP Bp).p W u → Hands Tryz.prog 28 #[u, a] W (isP (Pt.mul n Bp))) := fun W u hW hu => p_mulN hn hu (h.ext hW) (LDi.step hW)
  have HQ : Hid (∀ (W : World) (u : Value), (isP (Pt.mul n Bp)).p W u → Calls Tryz.prog 33 #[u] W fun e w' => ∃ v, e = .returned v ∧ Own w' W.heap.size v (pubOf la) ∧ Below W.heap.size W w') := fun W u hu => by unfold pubOf; rw [hn]; exact bytesO hu
  have HP : Hid (∀ W : World, Hands Tryz.prog 27 #[] W (isP Bp)) := fun W => p_baseP
  obtain ⟨ao, c, rfl, _, _⟩ := h.len
  obtain ⟨ap, cp, rfl, _, _⟩ := hp.len
  obtain ⟨T, hT⟩ : ∃ T, isP (Pt.mul n Bp) = T := ⟨_, rfl⟩
  obtain ⟨T0, hT0⟩ : ∃ T0, isP Bp = T0 := ⟨_, rfl⟩
  obtain ⟨L, hL⟩ : ∃ L, pubOf la = L := ⟨_, rfl⟩
  rw [hT, hT0] at HM
  rw [hT, hL] at HQ
  rw [hT0] at HP
  rw [hL]
  clear h hp LDi hn hT hT0 hL
  go_enter Tryz.func15, Tryz.ntmps15
  go_upto_region 1 with fail
  refine cut_world (fun W => Below w.heap.size w W ∧ (w.heap.size < W.heap.size ∧ W.heap[w.heap.size]? = some (.cells #[.slice ao la.length c, .slice ap lp.length cp] 32 (0, 0)))) ⟨(Below.refl _ _).alloc (Nat.le_refl _) _, by simp, heap_alloc_last _ _⟩ ?_
  rintro W1 ⟨b1, z1, r1⟩
  obtain ⟨x1, y1⟩ := row_reads r1
  have HB := hide b1
  have HR := hide (And.intro z1 r1)
  clear b1 r1 z1
  go_region_with (first
    | (go_at_call 27; refine (HP.out _).mono ?_; rintro e w2 ⟨v2, rfl, b2, h2⟩; obtain ⟨x2, y2⟩ := row_reads (Below.heap b2 HR.out.1 HR.out.2))
    | (go_at_call 28; refine (HM.out _ _ ?hx h2).mono ?_; (case hx => exact (Below.drew HB.out).trans (b2.mono (Below.drew HB.out).size)); rintro e w3 ⟨v3, rfl, b3, h3⟩)
    | (go_at_call 33; refine (HQ.out _ _ h3).mono ?_; rintro e w4 ⟨v4, rfl, o4, b4⟩))
  all_goals
    have B2 := (Below.drew HB.out).trans (b2.mono (Below.drew HB.out).size)
    have B3 := Below.chain B2 b3
    have B4 := Below.chain B3 b4
    have O := hide (And.intro (o4.low B3.size) B4)
    clear b2 h2 b3 h3 b4 o4 B2 B3 B4 x2 y2
    go_wp2
    go_ret
    exact ⟨_, rfl, O.out.1, O.out.2⟩
/-- Rows of slices that have just been made. -/
theorem rs2 {W : World} {a b : Value} {la lb : List Nat} {t : TypeId} (h1 : BsAt W a la) (h2 : BsAt W b lb) : RsAt (W.alloc (.cells #[a, b] t)) (.slice (some ⟨W.heap.size, 0, none⟩) 2 2) [la, lb] := by
  have hx : Below W.heap.size W (W.alloc (.cells #[a, b] t)) := (Below.refl _ _).alloc (Nat.le_refl _) _
  have hr : (W.alloc (.cells #[a, b] t)).heap[W.heap.size]? = some (.cells #[a, b] t (0, 0)) := heap_alloc_last _ _
  refine ⟨W.heap.size, [a, b], rfl, by simp, rfl, by simp, fun i hi => ?_⟩
  rw [cell_of_row _ _ _ _ _ _ hr]
  match i, hi with
  | 0, _ => exact ⟨rfl, h1.ext hx⟩
  | 1, _ => exact ⟨rfl, h2.ext hx⟩
theorem rs3 {W : World} {a b c : Value} {la lb lc : List Nat} {t : TypeId} (h1 : BsAt W a la) (h2 : BsAt W b lb) (h3 : BsAt W c lc) : RsAt (W.alloc (.cells #[a, b, c] t)) (.slice (some ⟨W.heap.size, 0, none⟩) 3 3) [la, lb, lc] := by
  have hx : Below W.heap.size W (W.alloc (.cells #[a, b, c] t)) := (Below.refl _ _).alloc (Nat.le_refl _) _
  have hr : (W.alloc (.cells #[a, b, c] t)).heap[W.heap.size]? = some (.cells #[a, b, c] t (0, 0)) := heap_alloc_last _ _
  refine ⟨W.heap.size, [a, b, c], rfl, by simp, rfl, by simp, fun i hi => ?_⟩
  rw [cell_of_row _ _ _ _ _ _ hr]
  match i, hi with
  | 0, _ => exact ⟨rfl, h1.ext hx⟩
  | 1, _ => exact ⟨rfl, h2.ext hx⟩
  | 2, _ => exact ⟨rfl, h3.ext hx⟩
end Go.Proofs.YtobgimpkkjaolaaGreatDoor
