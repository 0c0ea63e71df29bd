/- What the page's own call Sign answers. -/
import Derived.Test.YtobgimpkkjaolaaGreatDoorSp2
namespace Go.Proofs.YtobgimpkkjaolaaGreatDoor
open Go.RowKit
theorem flat3 (a b c : List Nat) : [a, b, c].flatten = a ++ (b ++ c) := by simp
theorem flat2 (a b : List Nat) : [a, b].flatten = a ++ b := by simp
set_option maxRecDepth 100000 in
set_option maxHeartbeats 2000000 in
theorem rSign_in {v mv : Value} {l m : List Nat} {w : World} (h : BsAt w v l) (hmv : BsAt w mv m) (hl : l.length = 32) (hm : m.length ≤ 1000000) : Hands Tryz.prog 10 #[v, mv] w (isb (sigOf (scn l) (scp l) m)) := by
  suffices HH : ∀ R_ : STy, (∀ W v, BsAt W v (sigOf (scn l) (scp l) m) → R_.p W v) → Hands Tryz.prog 10 #[v, mv] w R_ from HH _ (fun _ _ h => h)
  intro R_ hR_
  have hsg : sigOf (scn l) (scp l) m = [pubOf (sgr (scp l) m), sgs (scn l) (scp l) m].flatten := by rw [flat2]; rfl
  rw [hsg] at hR_
  have HR := hide hR_
  obtain ⟨S, hS⟩ : ∃ S, shn l = S := ⟨_, rfl⟩
  have hSl : S.length = 64 := by rw [← hS]; exact shn_len l
  obtain ⟨A, hA⟩ : ∃ A, scn l = A := ⟨_, rfl⟩
  have hAl : A.length = 32 := by rw [← hA]; exact scn_len l
  have hP : scp l = S.drop 32 := by unfold scp; rw [hS]
  have hPl : (S.drop 32).length = 32 := by rw [List.length_drop, hSl]
  rw [hA, hP] at HR
  obtain ⟨r, hr⟩ : ∃ r, sgr (S.drop 32) m = r := ⟨_, rfl⟩
  have hrl : r.length = 32 := by rw [← hr]; exact hsh_len _
  obtain ⟨q, hq⟩ : ∃ q, sgh A (S.drop 32) m = q := ⟨_, rfl⟩
  obtain ⟨s, hs⟩ : ∃ s, sgs A (S.drop 32) m = s := ⟨_, rfl⟩
  have hsl : s.length = 32 := by rw [← hs]; exact sgs_len A _ m hAl
  rw [hr, hs] at HR
  obtain ⟨Q, hQ⟩ : ∃ Q, pubOf r = Q := ⟨_, rfl⟩
  have hQl : Q.length = 32 := by rw [← hQ]; exact pubOf_len r
  obtain ⟨K, hK⟩ : ∃ K, pubOf A = K := ⟨_, rfl⟩
  have hKl : K.length = 32 := by rw [← hK]; exact pubOf_len A
  rw [hQ] at HR
  have H1 : Hid (∀ W : World, Below w.heap.size w W → Calls Tryz.prog 20 #[v] W fun e w' => ∃ v', e = .returned v' ∧ Own w' W.heap.size v' S ∧ Below W.heap.size W w') := fun W hW => by
    have h2 := r_sha (h.ext hW) (ne_of_len hl (by decide)) (by omega); rw [hS] at h2; exact h2
  have H2 : Hid (∀ (W : World) (x : Value), BsAt W x (S.take 32) → Hands Tryz.prog 19 #[x] W (isb A)) := fun W x hx => by
    have h2 := Sc.f_clamp' (u := x) (a := S.take 32) (w := W) hx; rw [← hA]; unfold scn; rw [hS]; exact h2
  have H3 : Hid (∀ W : World, Below w.heap.size w W → Hands Tryz.prog 8 #[v] W (isb K)) := fun W hW => by
    have h2 := rPublic (h.ext hW); unfold pubB at h2; rw [if_pos hl, hA, hK] at h2; exact h2
  have HJ : Hid (∀ (W : World) (x : Value) (ls : List (List Nat)), RsAt W x ls → ls.flatten.length ≤ 100000000 → Calls Tryz.prog 23 #[x] W fun e w' => ∃ v', e = .returned v' ∧ Own w' W.heap.size v' ls.flatten ∧ Below W.heap.size W w') := fun W x ls hx hn => join_any hx hn
  have HS : Hid (∀ (W : World) (x : Value) (ls : List Nat), BsAt W x ls → ls ≠ [] → ls.length ≤ 100000000 → Calls Tryz.prog 20 #[x] W fun e w' => ∃ v', e = .returned v' ∧ Own w' W.heap.size v' (shn ls) ∧ Below W.heap.size W w') := fun W x ls hx hn h3 => r_sha hx hn (Nat.le_trans h3 (by decide))
  have HE1 : Hid (∀ (W : World) (x : Value), BsAt W x (shn [S.drop 32, m].flatten) → Hands Tryz.prog 22 #[x] W (isb r)) := fun W x hx => by
    have h2 := Sc.f_red' (u := x) (a := shn [S.drop 32, m].flatten) (w := W) hx; rw [← hr]; exact h2
  have HE2 : Hid (∀ (W : World) (x : Value), BsAt W x (shn [Q, K, m].flatten) → Hands Tryz.prog 22 #[x] W (isb q)) := fun W x hx => by
    have h2 := Sc.f_red' (u := x) (a := shn [Q, K, m].flatten) (w := W) hx; rw [← hq]; unfold sgh; rw [hr, hQ, hK]; exact h2
  have HB : Hid (∀ W : World, Hands Tryz.prog 18 #[] W (qp Bp)) := fun W => r_base
  have HT : Hid (∀ (W : World) (u x : Value), (qp Bp).p W u → BsAt W x r → Hands Tryz.prog 17 #[u, x] W (qp (Pt.mul (bval (r.take 32)) Bp))) := fun W u x hu hx => r_times hu hx (by rw [hrl]; decide)
  have HK : Hid (∀ (W : World) (u : Value), (qp (Pt.mul (bval (r.take 32)) Bp)).p W u → Hands Tryz.prog 16 #[u] W (isb Q)) := fun W u hu => by rw [← hQ]; unfold pubOf pkP; exact r_pack hu
  have HM : Hid (∀ (W : World) (x y z : Value), BsAt W x q → BsAt W y A → BsAt W z r → Hands Tryz.prog 24 #[x, y, z] W (isb s)) := fun W x y z hx hy hz => by
    have h2 := Sc.f_mad' (u := x) (v := y) (t := z) (a := q) (b := A) (c := r) (w := W) hx hy hz; rw [← hs]; unfold sgs; rw [hq, hr]; exact h2
  have HN := hide (And.intro hSl (And.intro hAl (And.intro hPl (And.intro hrl (And.intro hsl (And.intro hQl (And.intro hKl hm)))))))
  have HV := hide hmv
  obtain ⟨ao, c, rfl, _, _⟩ := h.len
  obtain ⟨am, cm, rfl, _, _⟩ := hmv.len
  rw [hl] at H1 H3 ⊢
  generalize hT : qp (Pt.mul (bval (r.take 32)) Bp) = T at *
  generalize hT0 : qp Bp = T0 at *
  clear h hmv hl hR_ hsg hS hA hP hr hq hs hQ hK hT hT0 hSl hAl hPl hrl hsl hQl hKl hm
  unfold Hands
  go_enter Tryz.func10, Tryz.ntmps10
  go_wp2_with fail
  refine (H1.out _ (Below.refl _ _)).mono ?_
  rintro e w1 ⟨v1, rfl, o1, b1⟩
  obtain ⟨g, cap, rfl, _, _, hcap, _⟩ := o1.form (by rw [HN.out.1]; decide)
  rw [HN.out.1] at hcap o1 ⊢
  have B1 := hide b1
  have L1 := hide (at_lo o1.at HN.out.1)
  have P1 := hide (at_hi o1.at HN.out.1)
  have hc64 : 64 ≤ cap := hcap
  have s1 := fun w_ => sl_lo w_ g 0 64 cap (by omega)
  have s2 := fun w_ => sl_hi w_ g 0 64 cap (by omega) (by omega)
  clear b1 o1 hcap H1
  go_wp2_with fail
  refine (H2.out _ _ L1.out).mono ?_
  rintro e w2 ⟨v2, rfl, b2, h2⟩
  have B2 := hide (Below.chain B1.out b2)
  have P2 := hide (P1.out.ext b2)
  have A2 : Hid (BsAt w2 v2 A) := h2
  clear b2 h2 B1 P1 L1 s1
  go_wp2_with fail
  refine (H3.out _ B2.out).mono ?_
  rintro e w3 ⟨v3, rfl, b3, h3⟩
  have B3 := hide (Below.chain B2.out b3)
  have P3 := hide (P2.out.ext b3)
  have A3 := hide (A2.out.ext b3)
  have K3 : Hid (BsAt w3 v3 K) := h3
  obtain ⟨ak, ck, rfl, _, _⟩ := K3.out.len
  clear b3 h3 B2 P2 A2
  go_wp2_with fail
  have b4 := (Below.refl w3.heap.size w3).alloc (Nat.le_refl _) (.cells #[.slice (some ⟨g, 0 + 32, none⟩) (64 - 32) (cap - 32), .slice am m.length cm] 22)
  refine (HJ.out _ _ _ (rs2 P3.out (HV.out.ext B3.out)) (by have := HN.out.2.2.2.2.2.2.2; have := HN.out.2.2.1; rw [flat2, List.length_append]; omega)).mono ?_
  rintro e w5 ⟨v5, rfl, o5, b5⟩
  have b35 := Below.chain b4 b5
  have B5 := hide (Below.chain B3.out b35)
  have A5 := hide (A3.out.ext b35)
  have K5 := hide (K3.out.ext b35)
  have J5 := hide o5.at
  clear b4 b5 b35 o5 B3 P3 A3 K3 s2
  go_wp2_with fail
  refine (HS.out _ _ _ J5.out (fun e => by have h1 := congrArg List.length e; rw [flat2, List.length_append, HN.out.2.2.1] at h1; simp at h1) (by have := HN.out.2.2.2.2.2.2.2; have := HN.out.2.2.1; rw [flat2, List.length_append]; omega)).mono ?_
  rintro e w6 ⟨v6, rfl, o6, b6⟩
  have B6 := hide (Below.chain B5.out b6)
  have A6 := hide (A5.out.ext b6)
  have K6 := hide (K5.out.ext b6)
  have J6 := hide o6.at
  clear b6 o6 B5 A5 K5 J5
  go_wp2_with fail
  refine (HE1.out _ _ J6.out).mono ?_
  rintro e w7 ⟨v7, rfl, b7, h7⟩
  have B7 := hide (Below.chain B6.out b7)
  have A7 := hide (A6.out.ext b7)
  have K7 := hide (K6.out.ext b7)
  have R7 : Hid (BsAt w7 v7 r) := h7
  clear b7 h7 B6 A6 K6 J6
  go_wp2_with fail
  refine (HB.out _).mono ?_
  rintro e w8 ⟨v8, rfl, b8, h8⟩
  have B8 := hide (Below.chain B7.out b8)
  have A8 := hide (A7.out.ext b8)
  have K8 := hide (K7.out.ext b8)
  have R8 := hide (R7.out.ext b8)
  have U8 : Hid (T0.p w8 v8) := h8
  clear b8 h8 B7 A7 K7 R7
  go_wp2_with fail
  refine (HT.out _ _ _ U8.out R8.out).mono ?_
  rintro e w9 ⟨v9, rfl, b9, h9⟩
  have B9 := hide (Below.chain B8.out b9)
  have A9 := hide (A8.out.ext b9)
  have K9 := hide (K8.out.ext b9)
  have R9 := hide (R8.out.ext b9)
  have U9 : Hid (T.p w9 v9) := h9
  clear b9 h9 B8 A8 K8 R8 U8
  go_wp2_with fail
  refine (HK.out _ _ U9.out).mono ?_
  rintro e w10 ⟨v10, rfl, b10, h10⟩
  have B10 := hide (Below.chain B9.out b10)
  have A10 := hide (A9.out.ext b10)
  have K10 := hide (K9.out.ext b10)
  have R10 := hide (R9.out.ext b10)
  have Q10 : Hid (BsAt w10 v10 Q) := h10
  obtain ⟨aq, cq, rfl, _, _⟩ := Q10.out.len
  clear b10 h10 B9 A9 K9 R9 U9
  go_wp2_with fail
  have b11 := (Below.refl w10.heap.size w10).alloc (Nat.le_refl _) (.cells #[.slice aq Q.length cq, .slice ak K.length ck, .slice am m.length cm] 22)
  refine (HJ.out _ _ _ (rs3 Q10.out K10.out (HV.out.ext B10.out)) (by have := HN.out.2.2.2.2.2.2.2; have := HN.out.2.2.2.2.2.1; have := HN.out.2.2.2.2.2.2.1; simp; omega)).mono ?_
  rintro e w12 ⟨v12, rfl, o12, b12⟩
  have bb := Below.chain b11 b12
  have B12 := hide (Below.chain B10.out bb)
  have A12 := hide (A10.out.ext bb)
  have R12 := hide (R10.out.ext bb)
  have Q12 := hide (Q10.out.ext bb)
  have J12 := hide o12.at
  clear b11 b12 bb o12 B10 A10 K10 R10 Q10
  go_wp2_with fail
  refine (HS.out _ _ _ J12.out (fun e => by have h1 := congrArg List.length e; rw [flat3, List.length_append, HN.out.2.2.2.2.2.1] at h1; simp at h1) (by have := HN.out.2.2.2.2.2.2.2; have := HN.out.2.2.2.2.2.1; have := HN.out.2.2.2.2.2.2.1; simp; omega)).mono ?_
  rintro e w13 ⟨v13, rfl, o13, b13⟩
  have B13 := hide (Below.chain B12.out b13)
  have A13 := hide (A12.out.ext b13)
  have R13 := hide (R12.out.ext b13)
  have Q13 := hide (Q12.out.ext b13)
  have J13 := hide o13.at
  clear b13 o13 B12 A12 R12 Q12 J12
  go_wp2_with fail
  refine (HE2.out _ _ J13.out).mono ?_
  rintro e w14 ⟨v14, rfl, b14, h14⟩
  have B14 := hide (Below.chain B13.out b14)
  have A14 := hide (A13.out.ext b14)
  have R14 := hide (R13.out.ext b14)
  have Q14 := hide (Q13.out.ext b14)
  have H14 : Hid (BsAt w14 v14 q) := h14
  clear b14 h14 B13 A13 R13 Q13 J13
  go_wp2_with fail
  refine (HM.out _ _ _ _ H14.out A14.out R14.out).mono ?_
  rintro e w15 ⟨v15, rfl, b15, h15⟩
  have B15 := hide (Below.chain B14.out b15)
  have Q15 := hide (Q14.out.ext b15)
  have S15 : Hid (BsAt w15 v15 s) := h15
  obtain ⟨asx, csx, rfl, _, _⟩ := S15.out.len
  clear b15 h15 B14 A14 R14 Q14 H14
  go_wp2_with fail
  have b16 := (Below.refl w15.heap.size w15).alloc (Nat.le_refl _) (.cells #[.slice aq Q.length cq, .slice asx s.length csx] 22)
  refine (HJ.out _ _ _ (rs2 Q15.out S15.out) (by have := HN.out.2.2.2.2.1; have := HN.out.2.2.2.2.2.1; rw [flat2, List.length_append]; omega)).mono ?_
  rintro e w17 ⟨v17, rfl, o17, b17⟩
  have R := hide (And.intro (Below.chain B15.out (Below.chain b16 b17)) (HR.out w17 v17 o17.at))
  clear b16 b17 o17 B15 Q15 S15
  go_wp2
  go_ret
  exact ⟨_, rfl, R.out.1, R.out.2⟩
set_option maxRecDepth 100000 in
set_option maxHeartbeats 1000000 in
theorem rSign {v mv : Value} {l m : List Nat} {w : World} (h : BsAt w v l) (hmv : BsAt w mv m) (hm : m.length ≤ 1000000) : Hands Tryz.prog 10 #[v, mv] w (isb (sigB l m)) := by
  unfold sigB
  by_cases hl : l.length = 32
  · rw [if_pos hl]; exact rSign_in h hmv hl hm
  · rw [if_neg hl]
    obtain ⟨ao, c, rfl, _, hm⟩ := h.len
    have hd : ((l.length : Int) == 32) = false := by rw [beq_eq_false_iff_ne]; omega
    clear h hl hmv
    unfold Hands
    go_enter Tryz.func10, Tryz.ntmps10
    go_wp2
    go_ret
    exact ⟨_, rfl, Below.refl _ _, (own_nil _ _ (Nat.le_refl _)).at⟩
end Go.Proofs.YtobgimpkkjaolaaGreatDoor
