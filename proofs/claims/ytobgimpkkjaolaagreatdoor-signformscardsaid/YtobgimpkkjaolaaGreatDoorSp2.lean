/- The page's own keys and signatures: what its calls Public and Sign answer. -/
import Derived.Test.YtobgimpkkjaolaaGreatDoorSp1
namespace Go.Proofs.YtobgimpkkjaolaaGreatDoor
open Go.RowKit
theorem ne_of_len {l : List Nat} {n : Nat} (h : l.length = n) (hn : 0 < n) : l ≠ [] := fun e => by subst e; simp at h; omega
set_option maxRecDepth 100000 in
set_option maxHeartbeats 1000000 in
theorem rPublic {v : Value} {l : List Nat} {w : World} (h : BsAt w v l) : Hands Tryz.prog 8 #[v] w (isb (pubB l)) := by
  suffices HH : ∀ R_ : STy, (∀ W v, BsAt W v (pubB l) → R_.p W v) → Hands Tryz.prog 8 #[v] w R_ from HH _ (fun _ _ h => h)
  intro R_ hR_
  unfold pubB at hR_
  by_cases hl : l.length = 32
  · rw [if_pos hl] at hR_
    have HR := hide hR_
    have H := hide h
    have H1 : Hid (∀ W : World, Below w.heap.size w W → Calls Tryz.prog 20 #[v] W fun e w' => ∃ v', e = .returned v' ∧ Own w' W.heap.size v' (shn l) ∧ Below W.heap.size W w') := fun W hW => r_sha (h.ext hW) (ne_of_len hl (by decide)) (by omega)
    have hsl := shn_len l
    have H2 : Hid (∀ (W : World) (x : Value), BsAt W x ((shn l).take 32) → Hands Tryz.prog 19 #[x] W (isb (scn l))) := fun W x hx => Sc.f_clamp' hx
    have H3 : Hid (∀ (W : World) (u x : Value), (qp Bp).p W u → BsAt W x (scn l) → Hands Tryz.prog 17 #[u, x] W (qp (Pt.mul (bval ((scn l).take 32)) Bp))) := fun W u x hu hx => r_times hu hx (by rw [scn_len]; decide)
    have H4 : Hid (∀ (W : World) (u : Value), (qp (Pt.mul (bval ((scn l).take 32)) Bp)).p W u → Hands Tryz.prog 16 #[u] W (isb (pubOf (scn l)))) := fun W u hu => by unfold pubOf pkP; exact r_pack hu
    have H0 : Hid (∀ W : World, Hands Tryz.prog 18 #[] W (qp Bp)) := fun W => r_base
    obtain ⟨ao, c, rfl, _, _⟩ := h.len
    rw [hl] at H1 ⊢
    generalize hT : qp (Pt.mul (bval ((scn l).take 32)) Bp) = T at *
    generalize hT0 : qp Bp = T0 at *
    generalize hA : scn l = A at *
    generalize hS : shn l = S at *
    generalize hQ : pubOf A = Q at *
    clear h hl hR_ hT hT0 hA hS hQ H
    unfold Hands
    go_enter Tryz.func8, Tryz.ntmps8
    go_wp2_with fail
    refine (H0.out _).mono ?_
    rintro e w1 ⟨v1, rfl, b1, h1⟩
    have B1 : Hid (Below w.heap.size w w1) := b1
    have V1 : Hid (T0.p w1 v1) := h1
    clear b1 h1
    go_wp2_with fail
    refine (H1.out _ B1.out).mono ?_
    rintro e w2 ⟨v2, rfl, o2, b2⟩
    obtain ⟨g, cap, rfl, _, _, hcap, _⟩ := o2.form (by omega)
    rw [hsl] at hcap o2 ⊢
    have B2 := hide (Below.chain B1.out b2)
    have V2 := hide (T0.up b2 V1.out)
    have S2 := hide (at_lo o2.at hsl)
    have s1 := fun w_ => sl_lo w_ g 0 64 cap (by omega)
    clear b2 o2 B1 V1 hcap
    go_wp2_with fail
    refine (H2.out _ _ S2.out).mono ?_
    rintro e w3 ⟨v3, rfl, b3, h3⟩
    have B3 := hide (Below.chain B2.out b3)
    have V3 := hide (T0.up b3 V2.out)
    have A3 : Hid (BsAt w3 v3 A) := h3
    clear b3 h3 B2 V2 S2 s1
    go_wp2_with fail
    refine (H3.out _ _ _ V3.out A3.out).mono ?_
    rintro e w4 ⟨v4, rfl, b4, h4⟩
    have B4 := hide (Below.chain B3.out b4)
    have V4 : Hid (T.p w4 v4) := h4
    clear b4 h4 B3 V3 A3
    go_wp2_with fail
    refine (H4.out _ _ V4.out).mono ?_
    rintro e w5 ⟨v5, rfl, b5, h5⟩
    have R := hide (And.intro (Below.chain B4.out b5) (HR.out w5 v5 h5))
    clear b5 h5 B4 V4
    go_wp2
    go_ret
    exact ⟨_, rfl, R.out.1, R.out.2⟩
  · rw [if_neg hl] at hR_
    have HR := hide hR_
    obtain ⟨ao, c, rfl, _, hm⟩ := h.len
    have hd : ((l.length : Int) == 32) = false := by rw [beq_eq_false_iff_ne]; omega
    clear h hl hR_
    unfold Hands
    go_enter Tryz.func8, Tryz.ntmps8
    go_wp2
    go_ret
    exact ⟨_, rfl, Below.refl _ _, HR.out _ _ (own_nil _ _ (Nat.le_refl _)).at⟩
end Go.Proofs.YtobgimpkkjaolaaGreatDoor
