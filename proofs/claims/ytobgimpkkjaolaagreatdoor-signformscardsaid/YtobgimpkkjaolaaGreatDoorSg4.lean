/- What a secret signs. -/
import Derived.Test.YtobgimpkkjaolaaGreatDoorSg3
namespace Go.Proofs.YtobgimpkkjaolaaGreatDoor
open Go.RowKit
set_option maxRecDepth 100000 in
set_option maxHeartbeats 1000000 in
theorem sign_any {a p mv : Value} {la lp m : List Nat} {w : World} (h : BsAt w a la) (hp : BsAt w p lp) (hmv : BsAt w mv m) (hlp : lp.length = 32) (hm : m.length ≤ 1000000) (LDi : LaidW 2 exw w) (ht : Sh.Tabs w) (hL : Sc.Laid w) (hla : la.length = 32) :
    Calls Tryz.prog 21 #[.agg #[a, p], mv] w fun e w' => ∃ v, e = .returned v ∧ Own w' w.heap.size v (sigOf la lp m) ∧ Below w.heap.size w w' := by
  -- what each call answers, in letters
  obtain ⟨r, hr⟩ : ∃ r, sgr lp m = r := ⟨_, rfl⟩
  obtain ⟨q, hq⟩ : ∃ q, sgh la lp m = q := ⟨_, rfl⟩
  obtain ⟨s, hs⟩ : ∃ s, sgs la lp m = s := ⟨_, rfl⟩
  have hsl : s.length = 32 := by rw [← hs]; exact sgs_len la lp m hla
  have H1 : Hid (∀ (W : World) (v : Value), Below w.heap.size w W → RsAt W v [lp, m] → Hands Tryz.prog 30 #[v] W (isb r)) := fun W v hW hR => by
    rw [← hr]; exact hashed_any hR (ht.below hW ht.2.2) (hL.step hW) (by simp; omega)
  have H2 : Hid (∀ (W : World) (v : Value), Below w.heap.size w W → RsAt W v [pubOf r, pubOf la, m] → Hands Tryz.prog 30 #[v] W (isb q)) := fun W v hW hR => by
    rw [← hq]; unfold sgh; rw [hr]; exact hashed_any hR (ht.below hW ht.2.2) (hL.step hW) (by simp [pubOf_len]; omega)
  have HM : Hid (∀ (W : World) (u v : Value), Below w.heap.size w W → (isP Bp).p W u → BsAt W v r → Hands Tryz.prog 28 #[u, v] W (isP (Pt.mul (bval (r.take 32)) Bp))) := fun W u v hW hu hv => p_mulN rfl hu hv (LDi.step hW)
  have HQ : Hid (∀ (W : World) (u : Value), (isP (Pt.mul (bval (r.take 32)) Bp)).p W u → Calls Tryz.prog 33 #[u] W fun e w' => ∃ v, e = .returned v ∧ Own w' W.heap.size v (pubOf r) ∧ Below W.heap.size W w') := fun W u hu => bytesO hu
  have HP : Hid (∀ W : World, Hands Tryz.prog 27 #[] W (isP Bp)) := fun W => p_baseP
  have HU : Hid (∀ W : World, Below w.heap.size w W → Calls Tryz.prog 15 #[.agg #[a, p]] W fun e w' => ∃ v, e = .returned v ∧ Own w' W.heap.size v (pubOf la) ∧ Below W.heap.size W w') := fun W hW => public_any (h.ext hW) (hp.ext hW) (LDi.step hW)
  have HS : Hid (∀ (W : World) (u v : Value), Below w.heap.size w W → BsAt W u q → BsAt W v r → Hands Tryz.prog 48 #[u, a, v] W (isb s)) := fun W u v hW hu hv => by
    have h2 := Sc.f_mad (u := u) (v := a) (t := v) (a := q) (b := la) (c := r) (w := W) hu (h.ext hW) hv (hL.step hW)
    rw [← hs]; unfold sgs; rw [hq, hr]; exact h2
  have hsg : sigOf la lp m = pubOf r ++ s := by unfold sigOf; rw [hr, hs]
  rw [hsg]
  have hRl := pubOf_len r
  have HA := hide (And.intro h (And.intro hp (And.intro hmv (And.intro hRl hsl))))
  obtain ⟨ao, c, rfl, _, _⟩ := h.len
  obtain ⟨ap, cp, rfl, _, _⟩ := hp.len
  obtain ⟨am, cm, rfl, _, _⟩ := hmv.len
  generalize hT : isP (Pt.mul (bval (r.take 32)) Bp) = T at *
  generalize hT0 : isP Bp = T0 at *
  generalize hR : pubOf r = R at *
  generalize hA : pubOf la = A at *
  clear h hp hmv LDi ht hL hr hq hs hsg hT hT0 hR hA hRl hsl hla hlp
  go_enter Tryz.func21, Tryz.ntmps21
  go_upto_region 1 with fail
  refine cut_world (fun W => Below w.heap.size w W ∧ (w.heap.size < W.heap.size ∧ W.heap[w.heap.size]? = some (.cells #[.slice ao la.length c, .slice ap lp.length cp] 32 (0, 0)))) ⟨(Below.refl _ _).alloc (Nat.le_refl _) _, by simp, heap_alloc_last _ _⟩ ?_
  rintro W1 ⟨b1, z1, r1⟩
  obtain ⟨x1, y1⟩ := row_reads r1
  have HB := hide b1
  have HR := hide (And.intro z1 r1)
  clear b1 r1 z1
  go_wp2_with fail
  have HB1 := hide (HB.out.alloc HB.out.size (.cells #[.slice ap lp.length cp, .slice am m.length cm] 22))
  refine (H1.out _ _ HB1.out (rs2 (HA.out.2.1.ext HB.out) (HA.out.2.2.1.ext HB.out))).mono ?_
  rintro e W2 ⟨vr, rfl, b2, hr2⟩
  have B2 := hide (Below.chain HB1.out b2)
  have R2 := hide (And.intro (Nat.lt_of_lt_of_le HR.out.1 (Nat.le_trans (by simp) b2.size)) (Below.heap b2 (g := w.heap.size) (Nat.lt_of_lt_of_le HR.out.1 (by simp)) (Below.heap (Below.alloc (Below.refl W1.heap.size W1) (Nat.le_refl _) _) HR.out.1 HR.out.2)))
  have V2 : Hid (BsAt W2 vr r) := hr2
  clear x1 y1 b2 hr2 HB1 HR HB
  go_wp2_with fail
  refine (HP.out _).mono ?_
  rintro e W3 ⟨vb, rfl, b3, hb3⟩
  have B3 := hide (Below.chain B2.out b3)
  have R3 := hide (And.intro (Nat.lt_of_lt_of_le R2.out.1 b3.size) (Below.heap b3 R2.out.1 R2.out.2))
  have V3 := hide (V2.out.ext b3)
  have U3 := hide hb3
  clear b3 hb3 B2 R2 V2
  go_wp2_with fail
  refine (HM.out _ _ _ B3.out U3.out V3.out).mono ?_
  rintro e W4 ⟨vp, rfl, b4, hp4⟩
  have B4 := hide (Below.chain B3.out b4)
  have R4 := hide (And.intro (Nat.lt_of_lt_of_le R3.out.1 b4.size) (Below.heap b4 R3.out.1 R3.out.2))
  have V4 := hide (V3.out.ext b4)
  have U4 := hide hp4
  clear b4 hp4 B3 R3 V3 U3
  go_wp2_with fail
  refine (HQ.out _ _ U4.out).mono ?_
  rintro e W5 ⟨vf, rfl, of5, b5⟩
  have B5 := hide (Below.chain B4.out b5)
  have R5 := hide (And.intro (Nat.lt_of_lt_of_le R4.out.1 b5.size) (Below.heap b5 R4.out.1 R4.out.2))
  have V5 := hide (V4.out.ext b5)
  have O5 := hide (of5.low B4.out.size)
  obtain ⟨g5, cap5, rfl, hg5, hs5, hc5, hm5⟩ := of5.form (by rw [HA.out.2.2.2.1]; decide)
  have hG : w.heap.size ≤ g5 := Nat.le_trans B4.out.size hg5
  clear b5 of5 B4 R4 V4 U4 hg5 hs5 hm5 hc5
  obtain ⟨x5, y5⟩ := row_reads R5.out.2
  go_wp2_with fail
  refine (HU.out _ B5.out).mono ?_
  rintro e W6 ⟨vu, rfl, ou6, b6⟩
  have B6 := hide (Below.chain B5.out b6)
  have R6 := hide (And.intro (Nat.lt_of_lt_of_le R5.out.1 b6.size) (Below.heap b6 R5.out.1 R5.out.2))
  have V6 := hide (V5.out.ext b6)
  have O6 := hide (O5.out.ext b6)
  have P6 := hide ou6.at
  clear b6 ou6 B5 R5 V5 O5 x5 y5
  obtain ⟨au, cu, rfl, _, _⟩ := P6.out.len
  go_wp2_with fail
  have B7 := hide (B6.out.alloc B6.out.size (.cells #[.slice (some ⟨g5, 0, none⟩) R.length cap5, .slice au A.length cu, .slice am m.length cm] 22))
  refine (H2.out _ _ B7.out (rs3 O6.out.at P6.out (HA.out.2.2.1.ext B6.out))).mono ?_
  rintro e W8 ⟨vq, rfl, b8, hq8⟩
  have b68 : Below W6.heap.size W6 W8 := Below.chain ((Below.refl W6.heap.size W6).alloc (Nat.le_refl _) _) b8
  have B8 := hide (Below.chain B6.out b68)
  have R8 := hide (Below.heap b68 R6.out.1 R6.out.2)
  have V8 := hide (V6.out.ext b68)
  have O8 := hide (O6.out.ext b68)
  have Q8 : Hid (BsAt W8 vq q) := hq8
  obtain ⟨x8, y8⟩ := row_reads R8.out
  clear b8 b68 hq8 B6 R6 V6 O6 P6 B7
  go_wp2_with fail
  refine (HS.out _ _ _ B8.out Q8.out V8.out).mono ?_
  rintro e W9 ⟨vs, rfl, b9, hs9⟩
  have B9 := hide (Below.chain B8.out b9)
  have O9 := hide (O8.out.ext b9)
  have S9 : Hid (BsAt W9 vs s) := hs9
  clear b9 hs9 B8 V8 O8 Q8 x8 y8 R8
  go_wp2_with (at_builtin; refine wpList_append_b rfl (.tmp 23) (.tmp 28) rfl (base := w.heap.size) (l := R) (m := s) O9.out S9.out (by rw [HA.out.2.2.2.1, HA.out.2.2.2.2]; decide) B9.out.size ?_)
  intro u1 w1 o1 g1
  have E := hide (And.intro o1 (B9.out.grown g1 B9.out.size (by intro k hk; simp [Value.ownBlock] at hk; omega)))
  clear o1 g1
  go_wp2
  go_ret
  exact ⟨_, rfl, E.out.1, E.out.2⟩
end Go.Proofs.YtobgimpkkjaolaaGreatDoor
