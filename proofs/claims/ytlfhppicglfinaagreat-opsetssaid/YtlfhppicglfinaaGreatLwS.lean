/- OpSets: the walk. -/
import Derived.Test.YtlfhppicglfinaaGreatLs0
import Derived.Test.YtlfhppicglfinaaGreatRs
namespace Go.Proofs.YtlfhppicglfinaaGreat
open Go.RowKit
theorem rset_ok {l : List Tm} {ao : Option Addr} {c : Nat} {w : World} (h : LAt w l ao c) (hf : fitB l = true) : Calls Tryz.prog 15 #[.slice ao l.length c] w fun e w' => ∃ A, SetL A ∧ SetA A w e w' := by
  refine (rSet_any h).mono ?_
  rintro e w' ⟨r, a, c, E, rfl, ht, hR, hb⟩
  obtain ⟨rfl, zs, rfl, hz, hfl⟩ := hR.1 hf
  exact ⟨zs, .of hf hz hfl, a, c, rfl, ht, hb⟩
theorem rset_bad {l : List Tm} {ao : Option Addr} {c : Nat} {w : World} (h : LAt w l ao c) (hf : fitB l = false) : Calls Tryz.prog 15 #[.slice ao l.length c] w (NoA 1 w) := by
  refine (rSet_any h).mono ?_
  rintro e w' ⟨r, a, c, E, rfl, ht, hR, hb⟩
  obtain ⟨rfl, rfl⟩ := hR.2 hf
  exact ⟨a, c, rfl, hb⟩
theorem rset_any2 {l : List Tm} {ao : Option Addr} {c : Nat} {w : World} (h : LAt w l ao c) : Calls Tryz.prog 15 #[.slice ao l.length c] w fun e w' => ∃ A E ao c, e = .returned (.tuple #[.agg #[.int .i64 (Tm.k A), .int .i64 A.n, .string A.s, .slice ao A.l.length c], .int .i64 E]) ∧ Below w.heap.size w w' := by
  refine (rSet_any h).mono ?_
  rintro e w' ⟨r, a, c, E, rfl, ht, hR, hb⟩
  exact ⟨r, E, a, c, rfl, hb⟩
theorem KR.tl {w0 W : World} {q : Nat × Array Value} {rows : List (Nat × Array Value)} (h : KR w0 (q :: rows) W) : KR w0 rows W := ⟨h.bel, fun p hp => h.row p (.tail _ hp)⟩
theorem same_self {A : List Tm} {a1 : Option Addr} {c1 : Nat} {a2 : Option Addr} {c2 : Nat} {w : World} (h1 : TAt w (setT A) a1 c1) (h2 : TAt w (setT A) a2 c2) : Calls Tryz.prog 17 #[.agg (sC A a1 c1), .agg (sC A a2 c2)] w fun e w' => e = .returned (.bool true) ∧ Below w.heap.size w w' := by
  have h := rSame_any h1 h2
  rw [cp_refl] at h
  exact h
theorem has_self {A : List Tm} {x : Tm} (hA : ∀ z ∈ A, z.l = []) (hx : x ∈ A) {a1 : Option Addr} {c1 : Nat} {xa : Option Addr} {xc : Nat} {w : World} (h1 : TAt w (setT A) a1 c1) (h2 : TAt w x xa xc) : Calls Tryz.prog 16 #[.agg (sC A a1 c1), .agg (tvC x xa xc)] w fun e w' => e = .returned (.bool true) ∧ Below w.heap.size w w' := by
  have h := rHas_any h1 h2
  rw [(has_iff hA (hA x hx)).2 hx] at h
  exact h
set_option maxRecDepth 100000 in
set_option maxHeartbeats 8000000 in
theorem sets_a {l m : List Tm} {ao : Option Addr} {c : Nat} {bo : Option Addr} {d : Nat} {w : World} (hl : LAt w l ao c) (hm : LAt w m bo d) (hf : fitB l = false) : Calls Tryz.prog 5 #[.slice ao l.length c, .slice bo m.length d] w fun e w' => e = .returned (.bool true) ∧ Below w.heap.size w w' := by
  have HW := hide awake_any
  have HA := hide (rset_bad hl hf)
  have HM := hide hm
  clear hl hm hf
  go_enter Tryz.func5, Tryz.ntmps5
  go_wp2_with fail
  refine (HA.out).mono ?_
  rintro e_ w1 ⟨za, zc, rfl, b_⟩
  have K1 := hide ((KR.nil w).ext b_)
  clear b_
  have K2 := hide (K1.out.add (w1.heap.size) (#[.int .i64 0, .int .i64 0, .string ⟨#[]⟩, .slice za 0 zc] : Array Value) (by first | rfl | simp))
  have HB := hide (rset_any2 (HM.out.ext K2.out.bel))
  go_wp2_with fail
  refine (HB.out).mono ?_
  rintro e_ w3 ⟨yb, yE, ya, yc, rfl, b_⟩
  have K3 := hide (K2.out.ext b_)
  clear b_
  have K4 := hide (K3.out.add (w3.heap.size) #[.int .i64 yb.k, .int .i64 yb.n, .string yb.s, .slice ya yb.l.length yc] (by first | rfl | simp))
  go_wp2_with fail
  refine (HW.out _).mono ?_
  rintro e_ wz ⟨rfl, b_⟩
  have KZ := hide (K4.out.ext b_)
  clear b_
  go_wp2
  go_ret
  exact ⟨rfl, KZ.out.bel⟩
set_option maxRecDepth 100000 in
set_option maxHeartbeats 8000000 in
theorem sets_b {l m : List Tm} {ao : Option Addr} {c : Nat} {bo : Option Addr} {d : Nat} {w : World} (hl : LAt w l ao c) (hm : LAt w m bo d) (hf : fitB l = true) (hg : fitB m = false) : Calls Tryz.prog 5 #[.slice ao l.length c, .slice bo m.length d] w fun e w' => e = .returned (.bool true) ∧ Below w.heap.size w w' := by
  have HW := hide awake_any
  have HA := hide (rset_ok hl hf)
  have HM := hide (And.intro hm hg)
  clear hl hm hf hg
  go_enter Tryz.func5, Tryz.ntmps5
  go_wp2_with fail
  refine (HA.out).mono ?_
  rintro e_ w1 ⟨A, hA, a1, c1, rfl, hta, b_⟩
  have K1 := hide ((KR.nil w).ext b_)
  clear b_
  have K2 := hide (K1.out.add (w1.heap.size) (sC A a1 c1) (by first | rfl | simp))
  have HB := hide (rset_bad (HM.out.1.ext K2.out.bel) HM.out.2)
  go_wp2_with fail
  refine (HB.out).mono ?_
  rintro e_ w3 ⟨ya, yc, rfl, b_⟩
  have K3 := hide (K2.out.ext b_)
  clear b_
  have K4 := hide (K3.out.add (w3.heap.size) (#[.int .i64 0, .int .i64 0, .string ⟨#[]⟩, .slice ya 0 yc] : Array Value) (by first | rfl | simp))
  go_wp2_with fail
  refine (HW.out _).mono ?_
  rintro e_ wz ⟨rfl, b_⟩
  have KZ := hide (K4.out.ext b_)
  clear b_
  go_wp2
  go_ret
  exact ⟨rfl, KZ.out.bel⟩
set_option maxRecDepth 100000 in
set_option maxHeartbeats 8000000 in
theorem sets_c {l m : List Tm} {ao : Option Addr} {c : Nat} {bo : Option Addr} {d : Nat} {w : World} (hl : LAt w l ao c) (hm : LAt w m bo d) (hf : fitB l = true) (hg : fitB m = true) : Calls Tryz.prog 5 #[.slice ao l.length c, .slice bo m.length d] w fun e w' => e = .returned (.bool true) ∧ Below w.heap.size w w' := by
  have HW := hide awake_any
  have HA := hide (rset_ok hl hf)
  have HM := hide (And.intro hm hg)
  clear hl hm hf hg
  go_enter Tryz.func5, Tryz.ntmps5
  go_wp2_with fail
  refine (HA.out).mono ?_
  rintro e_ w1 ⟨A, hA, a1, c1, rfl, hta, b_⟩
  have K1 := hide ((KR.nil w).ext b_)
  have WA := hide (Below.refl w1.heap.size w1)
  clear b_
  have TA1 := hide hta
  have SA := hide hA
  clear hta hA
  have K2 := hide (K1.out.add (w1.heap.size) (sC A a1 c1) (by first | rfl | simp))
  have HB := hide (rset_ok (HM.out.1.ext K2.out.bel) HM.out.2)
  go_wp2_with fail
  refine (HB.out).mono ?_
  rintro e_ w3 ⟨B, hB, a2, c2, rfl, htb, b_⟩
  have K3 := hide (K2.out.ext b_)
  have TA2 := hide (TA1.out.ext (Below.chain (alloc_below _ _) b_))
  have TB2 := hide htb
  have SB := hide hB
  clear b_ htb hB
  have K4 := hide (K3.out.add (w3.heap.size) (sC B a2 c2) (by first | rfl | simp))
  have TA3 := hide (TA2.out.ext (alloc_below _ (.cells (sC B a2 c2) 24)))
  have TB3 := hide (TB2.out.ext (alloc_below _ (.cells (sC B a2 c2) 24)))
  have HL := light_any (pair_at TA3.out TB3.out)
  rw [show (w3.alloc (.cells (sC B a2 c2) 24)).heap.size = w3.heap.size + 1 by simp] at HL
  replace HL := hide HL
  simp only [List.length_cons, List.length_nil] at HL
  have a_0 : (w3.alloc (.cells (sC B a2 c2) 24)).cell? ⟨w1.heap.size, 0, none⟩ = _ := K4.out.cell (p := w1.heap.size) (cs := (sC A a1 c1)) (i := 0) (.tail _ (.head _)) rfl
  have a_1 : (w3.alloc (.cells (sC B a2 c2) 24)).cell? ⟨w1.heap.size, 1, none⟩ = _ := K4.out.cell (p := w1.heap.size) (cs := (sC A a1 c1)) (i := 1) (.tail _ (.head _)) rfl
  have a_2 : (w3.alloc (.cells (sC B a2 c2) 24)).cell? ⟨w1.heap.size, 2, none⟩ = _ := K4.out.cell (p := w1.heap.size) (cs := (sC A a1 c1)) (i := 2) (.tail _ (.head _)) rfl
  have a_3 : (w3.alloc (.cells (sC B a2 c2) 24)).cell? ⟨w1.heap.size, 3, none⟩ = _ := K4.out.cell (p := w1.heap.size) (cs := (sC A a1 c1)) (i := 3) (.tail _ (.head _)) rfl
  have b_0 : (w3.alloc (.cells (sC B a2 c2) 24)).cell? ⟨w3.heap.size, 0, none⟩ = _ := K4.out.cell (p := w3.heap.size) (cs := (sC B a2 c2)) (i := 0) (.head _) rfl
  have b_1 : (w3.alloc (.cells (sC B a2 c2) 24)).cell? ⟨w3.heap.size, 1, none⟩ = _ := K4.out.cell (p := w3.heap.size) (cs := (sC B a2 c2)) (i := 1) (.head _) rfl
  have b_2 : (w3.alloc (.cells (sC B a2 c2) 24)).cell? ⟨w3.heap.size, 2, none⟩ = _ := K4.out.cell (p := w3.heap.size) (cs := (sC B a2 c2)) (i := 2) (.head _) rfl
  have b_3 : (w3.alloc (.cells (sC B a2 c2) 24)).cell? ⟨w3.heap.size, 3, none⟩ = _ := K4.out.cell (p := w3.heap.size) (cs := (sC B a2 c2)) (i := 3) (.head _) rfl
  go_wp2_with fail
  refine HL.out.mono ?_
  rintro e_ w30 ⟨v, rfl, b_⟩
  have b2_ := Below.chain (alloc_below (w3.alloc (.cells (sC B a2 c2) 24)) (.cells (s8 (setT A).k (setT A).n (setT A).s a1 (setT A).l.length c1 (setT B).k (setT B).n (setT B).s a2 (setT B).l.length c2) 24)) b_
  have K30 := hide (K4.out.ext b2_)
  have TA4 := hide (TA3.out.ext b2_)
  have TB4 := hide (TB3.out.ext b2_)
  clear b_ b2_ HL a_0 a_1 a_2 a_3 b_0 b_1 b_2 b_3
  cases v with
  | false =>
    go_wp2_with fail
    refine (HW.out _).mono ?_
    rintro e_ wz ⟨rfl, b_⟩
    have KZ := hide (K30.out.ext b_)
    clear b_
    go_wp2
    go_ret
    exact ⟨rfl, KZ.out.bel⟩
  | true =>
    have a_0 : w30.cell? ⟨w1.heap.size, 0, none⟩ = _ := K30.out.cell (p := w1.heap.size) (cs := (sC A a1 c1)) (i := 0) (.tail _ (.head _)) rfl
    have a_1 : w30.cell? ⟨w1.heap.size, 1, none⟩ = _ := K30.out.cell (p := w1.heap.size) (cs := (sC A a1 c1)) (i := 1) (.tail _ (.head _)) rfl
    have a_2 : w30.cell? ⟨w1.heap.size, 2, none⟩ = _ := K30.out.cell (p := w1.heap.size) (cs := (sC A a1 c1)) (i := 2) (.tail _ (.head _)) rfl
    have a_3 : w30.cell? ⟨w1.heap.size, 3, none⟩ = _ := K30.out.cell (p := w1.heap.size) (cs := (sC A a1 c1)) (i := 3) (.tail _ (.head _)) rfl
    have b_0 : w30.cell? ⟨w3.heap.size, 0, none⟩ = _ := K30.out.cell (p := w3.heap.size) (cs := (sC B a2 c2)) (i := 0) (.head _) rfl
    have b_1 : w30.cell? ⟨w3.heap.size, 1, none⟩ = _ := K30.out.cell (p := w3.heap.size) (cs := (sC B a2 c2)) (i := 1) (.head _) rfl
    have b_2 : w30.cell? ⟨w3.heap.size, 2, none⟩ = _ := K30.out.cell (p := w3.heap.size) (cs := (sC B a2 c2)) (i := 2) (.head _) rfl
    have b_3 : w30.cell? ⟨w3.heap.size, 3, none⟩ = _ := K30.out.cell (p := w3.heap.size) (cs := (sC B a2 c2)) (i := 3) (.head _) rfl
    have HX := hide (s15 SA.out SB.out TA4.out TB4.out)
    go_wp2_with fail
    refine (HX.out).mono ?_
    rintro e_ w31 ⟨xo, xc, rfl, htx, b_⟩
    have K31 := hide (K30.out.ext b_)
    have TA5 := hide (TA4.out.ext b_)
    have TB5 := hide (TB4.out.ext b_)
    have TX5 := hide htx
    clear htx
    clear b_ a_0 a_1 a_2 a_3 b_0 b_1 b_2 b_3
    obtain ⟨X, hX⟩ : ∃ X, sel (setT B) true A = X := ⟨_, rfl⟩
    rw [hX] at TX5 ⊢
    have HXE := hide hX
    clear hX
    have K50 := hide (K31.out.add (w31.heap.size) (sC X xo xc) (by first | rfl | simp))
    have TA6 := hide (TA5.out.ext (alloc_below _ (.cells (sC X xo xc) 24)))
    have TB6 := hide (TB5.out.ext (alloc_below _ (.cells (sC X xo xc) 24)))
    have TX6 := hide (TX5.out.ext (alloc_below _ (.cells (sC X xo xc) 24)))
    rcases s16 (a1 := a1) (c1 := c1) (a2 := a2) (c2 := c2) SA.out SB.out with hJ | ⟨E, hE, hJ⟩
    · have a_0 : (w31.alloc (.cells (sC X xo xc) 24)).cell? ⟨w1.heap.size, 0, none⟩ = _ := K50.out.cell (p := w1.heap.size) (cs := (sC A a1 c1)) (i := 0) (.tail _ (.tail _ (.head _))) rfl
      have a_1 : (w31.alloc (.cells (sC X xo xc) 24)).cell? ⟨w1.heap.size, 1, none⟩ = _ := K50.out.cell (p := w1.heap.size) (cs := (sC A a1 c1)) (i := 1) (.tail _ (.tail _ (.head _))) rfl
      have a_2 : (w31.alloc (.cells (sC X xo xc) 24)).cell? ⟨w1.heap.size, 2, none⟩ = _ := K50.out.cell (p := w1.heap.size) (cs := (sC A a1 c1)) (i := 2) (.tail _ (.tail _ (.head _))) rfl
      have a_3 : (w31.alloc (.cells (sC X xo xc) 24)).cell? ⟨w1.heap.size, 3, none⟩ = _ := K50.out.cell (p := w1.heap.size) (cs := (sC A a1 c1)) (i := 3) (.tail _ (.tail _ (.head _))) rfl
      have b_0 : (w31.alloc (.cells (sC X xo xc) 24)).cell? ⟨w3.heap.size, 0, none⟩ = _ := K50.out.cell (p := w3.heap.size) (cs := (sC B a2 c2)) (i := 0) (.tail _ (.head _)) rfl
      have b_1 : (w31.alloc (.cells (sC X xo xc) 24)).cell? ⟨w3.heap.size, 1, none⟩ = _ := K50.out.cell (p := w3.heap.size) (cs := (sC B a2 c2)) (i := 1) (.tail _ (.head _)) rfl
      have b_2 : (w31.alloc (.cells (sC X xo xc) 24)).cell? ⟨w3.heap.size, 2, none⟩ = _ := K50.out.cell (p := w3.heap.size) (cs := (sC B a2 c2)) (i := 2) (.tail _ (.head _)) rfl
      have b_3 : (w31.alloc (.cells (sC X xo xc) 24)).cell? ⟨w3.heap.size, 3, none⟩ = _ := K50.out.cell (p := w3.heap.size) (cs := (sC B a2 c2)) (i := 3) (.tail _ (.head _)) rfl
      have HJ := hide (hJ _ TA6.out TB6.out)
      clear hJ
      go_wp2_with fail
      refine (HJ.out).mono ?_
      rintro e_ w32 ⟨Y, hYs, hYl, yo, yc, rfl, hty, b_⟩
      have K32 := hide (K50.out.ext b_)
      have TA7 := hide (TA6.out.ext b_)
      have TB7 := hide (TB6.out.ext b_)
      have TX7 := hide (TX6.out.ext b_)
      have TY7 := hide hty
      have SY := hide (And.intro hYs hYl)
      clear hty hYs hYl
      clear b_ a_0 a_1 a_2 a_3 b_0 b_1 b_2 b_3
      have K33 := hide (K32.out.add (w32.heap.size) (sC Y yo yc) (by first | rfl | simp))
      have TA8 := hide (TA7.out.ext (alloc_below _ (.cells (sC Y yo yc) 24)))
      have TB8 := hide (TB7.out.ext (alloc_below _ (.cells (sC Y yo yc) 24)))
      have TX8 := hide (TX7.out.ext (alloc_below _ (.cells (sC Y yo yc) 24)))
      have TY8 := hide (TY7.out.ext (alloc_below _ (.cells (sC Y yo yc) 24)))
      have x_3 : (w32.alloc (.cells (sC Y yo yc) 24)).cell? ⟨w31.heap.size, 3, none⟩ = _ := K33.out.cell (p := w31.heap.size) (cs := (sC X xo xc)) (i := 3) (.tail _ (.head _)) rfl
      obtain ⟨WL, hWL⟩ : ∃ WL, (w32.alloc (.cells (sC Y yo yc) 24)) = WL := ⟨_, rfl⟩
      rw [hWL] at TA8 TB8 TX8 TY8 K33 x_3
      have hXm : X.length ≤ 16 := by have h := (SetL.sel (b := setT B) (i := true) SA.out).len; rw [HXE.out] at h; exact h
      have hXc := TX8.out.list.2.1
      go_wp2
      go_loopw [62] (fun i wr => ∃ k : Nat, k ≤ X.length ∧ i = .int .i64 (k : Int) ∧ KR w [(w32.heap.size, (sC Y yo yc)), (w31.heap.size, (sC X xo xc)), (w3.heap.size, (sC B a2 c2)), (w1.heap.size, (sC A a1 c1))] wr ∧ Below WL.heap.size WL wr) (fun i _ => X.length - (intOf i).toNat)
      case atStart => exact ⟨0, Nat.zero_le _, rfl, K33.out, Below.refl _ _⟩
      case round =>
        obtain ⟨k, hk, rfl, hK, hB⟩ := hrel
        have KR0 := hide hK
        have BR0 := hide hB
        clear hK hB
        by_cases hlt : k < X.length
        · obtain ⟨x, hx⟩ : ∃ x, X[k]? = some x := ⟨_, List.getElem?_eq_getElem hlt⟩
          obtain ⟨g, o, hxo, hbb, hcs⟩ := TX8.out.list.read (by show 0 < X.length; omega)
          subst hxo
          obtain ⟨xa, xd, hxt, hc4⟩ := hcs k x hx
          obtain ⟨p0, p1, p2, p3⟩ := hc4 wr BR0.out
          have hix := fun w_ => ix_terms w_ g o X.length xc k hlt
          have hxm : x ∈ sel (setT B) true A := by rw [HXE.out]; exact List.mem_of_getElem? hx
          have hxA := (mem_sel.1 hxm).1
          have hxB := (has_iff SB.out.flat (SA.out.flat x hxA)).1 (mem_sel.1 hxm).2
          have TXX := hide (And.intro hxt (And.intro hxA hxB))
          clear hxt hxA hxB hxm hx hcs hc4
          have K61 := hide (KR0.out.add (wr.heap.size) (tvC x xa xd) (by first | rfl | simp))
          have BR1 := hide (Below.chain BR0.out (alloc_below _ (.cells (tvC x xa xd) 24)))
          have HH := hide (has_self SA.out.flat TXX.out.2.1 (TA8.out.ext BR1.out) (TXX.out.1.ext BR1.out))
          simp only [tvC] at HH
          have a_0 : (wr.alloc (.cells (tvC x xa xd) 24)).cell? ⟨w1.heap.size, 0, none⟩ = _ := K61.out.cell (p := w1.heap.size) (cs := (sC A a1 c1)) (i := 0) (.tail _ (.tail _ (.tail _ (.tail _ (.head _))))) rfl
          have a_1 : (wr.alloc (.cells (tvC x xa xd) 24)).cell? ⟨w1.heap.size, 1, none⟩ = _ := K61.out.cell (p := w1.heap.size) (cs := (sC A a1 c1)) (i := 1) (.tail _ (.tail _ (.tail _ (.tail _ (.head _))))) rfl
          have a_2 : (wr.alloc (.cells (tvC x xa xd) 24)).cell? ⟨w1.heap.size, 2, none⟩ = _ := K61.out.cell (p := w1.heap.size) (cs := (sC A a1 c1)) (i := 2) (.tail _ (.tail _ (.tail _ (.tail _ (.head _))))) rfl
          have a_3 : (wr.alloc (.cells (tvC x xa xd) 24)).cell? ⟨w1.heap.size, 3, none⟩ = _ := K61.out.cell (p := w1.heap.size) (cs := (sC A a1 c1)) (i := 3) (.tail _ (.tail _ (.tail _ (.tail _ (.head _))))) rfl
          go_wp2_with fail
          refine (HH.out).mono ?_
          rintro e_ w62 ⟨rfl, b_⟩
          have K62 := hide (K61.out.ext b_)
          have BR2 := hide (Below.chain BR1.out b_)
          clear b_ a_0 a_1 a_2 a_3 p0 p1 p2 p3
          have HH2 := hide (has_self SB.out.flat TXX.out.2.2 (TB8.out.ext BR2.out) (TXX.out.1.ext BR2.out))
          simp only [tvC] at HH2
          have b_0 : w62.cell? ⟨w3.heap.size, 0, none⟩ = _ := K62.out.cell (p := w3.heap.size) (cs := (sC B a2 c2)) (i := 0) (.tail _ (.tail _ (.tail _ (.head _)))) rfl
          have b_1 : w62.cell? ⟨w3.heap.size, 1, none⟩ = _ := K62.out.cell (p := w3.heap.size) (cs := (sC B a2 c2)) (i := 1) (.tail _ (.tail _ (.tail _ (.head _)))) rfl
          have b_2 : w62.cell? ⟨w3.heap.size, 2, none⟩ = _ := K62.out.cell (p := w3.heap.size) (cs := (sC B a2 c2)) (i := 2) (.tail _ (.tail _ (.tail _ (.head _)))) rfl
          have b_3 : w62.cell? ⟨w3.heap.size, 3, none⟩ = _ := K62.out.cell (p := w3.heap.size) (cs := (sC B a2 c2)) (i := 3) (.tail _ (.tail _ (.tail _ (.head _)))) rfl
          have t_0 : w62.cell? ⟨wr.heap.size, 0, none⟩ = _ := K62.out.cell (p := wr.heap.size) (cs := (tvC x xa xd)) (i := 0) (.head _) rfl
          have t_1 : w62.cell? ⟨wr.heap.size, 1, none⟩ = _ := K62.out.cell (p := wr.heap.size) (cs := (tvC x xa xd)) (i := 1) (.head _) rfl
          have t_2 : w62.cell? ⟨wr.heap.size, 2, none⟩ = _ := K62.out.cell (p := wr.heap.size) (cs := (tvC x xa xd)) (i := 2) (.head _) rfl
          have t_3 : w62.cell? ⟨wr.heap.size, 3, none⟩ = _ := K62.out.cell (p := wr.heap.size) (cs := (tvC x xa xd)) (i := 3) (.head _) rfl
          go_wp2_with fail
          refine (HH2.out).mono ?_
          rintro e_ w63 ⟨rfl, b_⟩
          have K63 := hide (K62.out.ext b_)
          have BR3 := hide (Below.chain BR2.out b_)
          clear b_ b_0 b_1 b_2 b_3 t_0 t_1 t_2 t_3
          have KE := hide K63.out.tl
          go_wp2
          go_roundw
          case rel => exact ⟨k + 1, by omega, by go_num, KE.out, BR3.out⟩
          case measure => simp [intOf]; omega
        · obtain rfl : k = X.length := by omega
          have TA9 := hide (TA8.out.ext BR0.out)
          have TB9 := hide (TB8.out.ext BR0.out)
          have TY9 := hide (TY8.out.ext BR0.out)
          have a_0 : wr.cell? ⟨w1.heap.size, 0, none⟩ = _ := KR0.out.cell (p := w1.heap.size) (cs := (sC A a1 c1)) (i := 0) (.tail _ (.tail _ (.tail _ (.head _)))) rfl
          have a_1 : wr.cell? ⟨w1.heap.size, 1, none⟩ = _ := KR0.out.cell (p := w1.heap.size) (cs := (sC A a1 c1)) (i := 1) (.tail _ (.tail _ (.tail _ (.head _)))) rfl
          have a_2 : wr.cell? ⟨w1.heap.size, 2, none⟩ = _ := KR0.out.cell (p := w1.heap.size) (cs := (sC A a1 c1)) (i := 2) (.tail _ (.tail _ (.tail _ (.head _)))) rfl
          have a_3 : wr.cell? ⟨w1.heap.size, 3, none⟩ = _ := KR0.out.cell (p := w1.heap.size) (cs := (sC A a1 c1)) (i := 3) (.tail _ (.tail _ (.tail _ (.head _)))) rfl
          have HZ := s15 SA.out SA.out TA9.out TA9.out
          rw [(sel_all SA.out).1] at HZ
          replace HZ := hide HZ
          go_wp2_with fail
          refine (HZ.out).mono ?_
          rintro e_ w71 ⟨zo, zc, rfl, htz, b_⟩
          have K71 := hide (KR0.out.ext b_)
          have TA10 := hide (TA9.out.ext b_)
          have TY10 := hide (TY9.out.ext b_)
          have TZ10 := hide htz
          clear htz
          clear b_ a_0 a_1 a_2 a_3
          have K72 := hide (K71.out.add (w71.heap.size) (sC A zo zc) (by first | rfl | simp))
          have TA11 := hide (TA10.out.ext (alloc_below _ (.cells (sC A zo zc) 24)))
          have TZ11 := hide (TZ10.out.ext (alloc_below _ (.cells (sC A zo zc) 24)))
          have TY11 := hide (TY10.out.ext (alloc_below _ (.cells (sC A zo zc) 24)))
          have a_0 : (w71.alloc (.cells (sC A zo zc) 24)).cell? ⟨w1.heap.size, 0, none⟩ = _ := K72.out.cell (p := w1.heap.size) (cs := (sC A a1 c1)) (i := 0) (.tail _ (.tail _ (.tail _ (.tail _ (.head _))))) rfl
          have a_1 : (w71.alloc (.cells (sC A zo zc) 24)).cell? ⟨w1.heap.size, 1, none⟩ = _ := K72.out.cell (p := w1.heap.size) (cs := (sC A a1 c1)) (i := 1) (.tail _ (.tail _ (.tail _ (.tail _ (.head _))))) rfl
          have a_2 : (w71.alloc (.cells (sC A zo zc) 24)).cell? ⟨w1.heap.size, 2, none⟩ = _ := K72.out.cell (p := w1.heap.size) (cs := (sC A a1 c1)) (i := 2) (.tail _ (.tail _ (.tail _ (.tail _ (.head _))))) rfl
          have a_3 : (w71.alloc (.cells (sC A zo zc) 24)).cell? ⟨w1.heap.size, 3, none⟩ = _ := K72.out.cell (p := w1.heap.size) (cs := (sC A a1 c1)) (i := 3) (.tail _ (.tail _ (.tail _ (.tail _ (.head _))))) rfl
          have HU := hide (s16_self SA.out TA11.out)
          go_wp2_with fail
          refine (HU.out).mono ?_
          rintro e_ w73 ⟨uo, uc, rfl, htu, b_⟩
          have K73 := hide (K72.out.ext b_)
          have TA12 := hide (TA11.out.ext b_)
          have TZ12 := hide (TZ11.out.ext b_)
          have TY12 := hide (TY11.out.ext b_)
          have TU12 := hide htu
          clear htu
          clear b_ a_0 a_1 a_2 a_3
          have K74 := hide (K73.out.add (w73.heap.size) (sC A uo uc) (by first | rfl | simp))
          have TA13 := hide (TA12.out.ext (alloc_below _ (.cells (sC A uo uc) 24)))
          have TZ13 := hide (TZ12.out.ext (alloc_below _ (.cells (sC A uo uc) 24)))
          have TU13 := hide (TU12.out.ext (alloc_below _ (.cells (sC A uo uc) 24)))
          have TY13 := hide (TY12.out.ext (alloc_below _ (.cells (sC A uo uc) 24)))
          have a_0 : (w73.alloc (.cells (sC A uo uc) 24)).cell? ⟨w1.heap.size, 0, none⟩ = _ := K74.out.cell (p := w1.heap.size) (cs := (sC A a1 c1)) (i := 0) (.tail _ (.tail _ (.tail _ (.tail _ (.tail _ (.head _)))))) rfl
          have a_1 : (w73.alloc (.cells (sC A uo uc) 24)).cell? ⟨w1.heap.size, 1, none⟩ = _ := K74.out.cell (p := w1.heap.size) (cs := (sC A a1 c1)) (i := 1) (.tail _ (.tail _ (.tail _ (.tail _ (.tail _ (.head _)))))) rfl
          have a_2 : (w73.alloc (.cells (sC A uo uc) 24)).cell? ⟨w1.heap.size, 2, none⟩ = _ := K74.out.cell (p := w1.heap.size) (cs := (sC A a1 c1)) (i := 2) (.tail _ (.tail _ (.tail _ (.tail _ (.tail _ (.head _)))))) rfl
          have a_3 : (w73.alloc (.cells (sC A uo uc) 24)).cell? ⟨w1.heap.size, 3, none⟩ = _ := K74.out.cell (p := w1.heap.size) (cs := (sC A a1 c1)) (i := 3) (.tail _ (.tail _ (.tail _ (.tail _ (.tail _ (.head _)))))) rfl
          have z_0 : (w73.alloc (.cells (sC A uo uc) 24)).cell? ⟨w71.heap.size, 0, none⟩ = _ := K74.out.cell (p := w71.heap.size) (cs := (sC A zo zc)) (i := 0) (.tail _ (.head _)) rfl
          have z_1 : (w73.alloc (.cells (sC A uo uc) 24)).cell? ⟨w71.heap.size, 1, none⟩ = _ := K74.out.cell (p := w71.heap.size) (cs := (sC A zo zc)) (i := 1) (.tail _ (.head _)) rfl
          have z_2 : (w73.alloc (.cells (sC A uo uc) 24)).cell? ⟨w71.heap.size, 2, none⟩ = _ := K74.out.cell (p := w71.heap.size) (cs := (sC A zo zc)) (i := 2) (.tail _ (.head _)) rfl
          have z_3 : (w73.alloc (.cells (sC A uo uc) 24)).cell? ⟨w71.heap.size, 3, none⟩ = _ := K74.out.cell (p := w71.heap.size) (cs := (sC A zo zc)) (i := 3) (.tail _ (.head _)) rfl
          have HS1 := hide (same_self TZ13.out TA13.out)
          go_wp2_with fail
          refine (HS1.out).mono ?_
          rintro e_ w75 ⟨rfl, b_⟩
          have K75 := hide (K74.out.ext b_)
          have TA14 := hide (TA13.out.ext b_)
          have TU14 := hide (TU13.out.ext b_)
          have TY14 := hide (TY13.out.ext b_)
          clear b_ a_0 a_1 a_2 a_3 z_0 z_1 z_2 z_3
          have a_0 : w75.cell? ⟨w1.heap.size, 0, none⟩ = _ := K75.out.cell (p := w1.heap.size) (cs := (sC A a1 c1)) (i := 0) (.tail _ (.tail _ (.tail _ (.tail _ (.tail _ (.head _)))))) rfl
          have a_1 : w75.cell? ⟨w1.heap.size, 1, none⟩ = _ := K75.out.cell (p := w1.heap.size) (cs := (sC A a1 c1)) (i := 1) (.tail _ (.tail _ (.tail _ (.tail _ (.tail _ (.head _)))))) rfl
          have a_2 : w75.cell? ⟨w1.heap.size, 2, none⟩ = _ := K75.out.cell (p := w1.heap.size) (cs := (sC A a1 c1)) (i := 2) (.tail _ (.tail _ (.tail _ (.tail _ (.tail _ (.head _)))))) rfl
          have a_3 : w75.cell? ⟨w1.heap.size, 3, none⟩ = _ := K75.out.cell (p := w1.heap.size) (cs := (sC A a1 c1)) (i := 3) (.tail _ (.tail _ (.tail _ (.tail _ (.tail _ (.head _)))))) rfl
          have u_0 : w75.cell? ⟨w73.heap.size, 0, none⟩ = _ := K75.out.cell (p := w73.heap.size) (cs := (sC A uo uc)) (i := 0) (.head _) rfl
          have u_1 : w75.cell? ⟨w73.heap.size, 1, none⟩ = _ := K75.out.cell (p := w73.heap.size) (cs := (sC A uo uc)) (i := 1) (.head _) rfl
          have u_2 : w75.cell? ⟨w73.heap.size, 2, none⟩ = _ := K75.out.cell (p := w73.heap.size) (cs := (sC A uo uc)) (i := 2) (.head _) rfl
          have u_3 : w75.cell? ⟨w73.heap.size, 3, none⟩ = _ := K75.out.cell (p := w73.heap.size) (cs := (sC A uo uc)) (i := 3) (.head _) rfl
          have HS2 := hide (same_self TU14.out TA14.out)
          go_wp2_with fail
          refine (HS2.out).mono ?_
          rintro e_ w76 ⟨rfl, b_⟩
          have K76 := hide (K75.out.ext b_)
          have TA15 := hide (TA14.out.ext b_)
          have TY15 := hide (TY14.out.ext b_)
          clear b_ a_0 a_1 a_2 a_3 u_0 u_1 u_2 u_3
          have HC := hide (s11 SA.out SY.out.2 (fun t ht => (SY.out.1.2.1 t).2 (List.mem_append_left _ ht)) TY15.out TA15.out)
          have y_0 : w76.cell? ⟨w32.heap.size, 0, none⟩ = _ := K76.out.cell (p := w32.heap.size) (cs := (sC Y yo yc)) (i := 0) (.tail _ (.tail _ (.head _))) rfl
          have y_1 : w76.cell? ⟨w32.heap.size, 1, none⟩ = _ := K76.out.cell (p := w32.heap.size) (cs := (sC Y yo yc)) (i := 1) (.tail _ (.tail _ (.head _))) rfl
          have y_2 : w76.cell? ⟨w32.heap.size, 2, none⟩ = _ := K76.out.cell (p := w32.heap.size) (cs := (sC Y yo yc)) (i := 2) (.tail _ (.tail _ (.head _))) rfl
          have y_3 : w76.cell? ⟨w32.heap.size, 3, none⟩ = _ := K76.out.cell (p := w32.heap.size) (cs := (sC Y yo yc)) (i := 3) (.tail _ (.tail _ (.head _))) rfl
          have a_0 : w76.cell? ⟨w1.heap.size, 0, none⟩ = _ := K76.out.cell (p := w1.heap.size) (cs := (sC A a1 c1)) (i := 0) (.tail _ (.tail _ (.tail _ (.tail _ (.tail _ (.head _)))))) rfl
          have a_1 : w76.cell? ⟨w1.heap.size, 1, none⟩ = _ := K76.out.cell (p := w1.heap.size) (cs := (sC A a1 c1)) (i := 1) (.tail _ (.tail _ (.tail _ (.tail _ (.tail _ (.head _)))))) rfl
          have a_2 : w76.cell? ⟨w1.heap.size, 2, none⟩ = _ := K76.out.cell (p := w1.heap.size) (cs := (sC A a1 c1)) (i := 2) (.tail _ (.tail _ (.tail _ (.tail _ (.tail _ (.head _)))))) rfl
          have a_3 : w76.cell? ⟨w1.heap.size, 3, none⟩ = _ := K76.out.cell (p := w1.heap.size) (cs := (sC A a1 c1)) (i := 3) (.tail _ (.tail _ (.tail _ (.tail _ (.tail _ (.head _)))))) rfl
          go_wp2_with fail
          refine (HC.out).mono ?_
          rintro e_ w77 ⟨rfl, b_⟩
          have K77 := hide (K76.out.ext b_)
          clear b_ y_0 y_1 y_2 y_3 a_0 a_1 a_2 a_3
          have K78 := hide (K77.out.add (w77.heap.size) #[.int .i64 6, .int .i64 1, .string ⟨#[]⟩, .slice none 0 0] (by first | rfl | simp))
          have x_3 : (w77.alloc (.cells #[.int .i64 6, .int .i64 1, .string ⟨#[]⟩, .slice none 0 0] 24)).cell? ⟨w31.heap.size, 3, none⟩ = _ := K78.out.cell (p := w31.heap.size) (cs := (sC X xo xc)) (i := 3) (.tail _ (.tail _ (.tail _ (.tail _ (.head _))))) rfl
          have y_3 : (w77.alloc (.cells #[.int .i64 6, .int .i64 1, .string ⟨#[]⟩, .slice none 0 0] 24)).cell? ⟨w32.heap.size, 3, none⟩ = _ := K78.out.cell (p := w32.heap.size) (cs := (sC Y yo yc)) (i := 3) (.tail _ (.tail _ (.tail _ (.head _)))) rfl
          have a_3 : (w77.alloc (.cells #[.int .i64 6, .int .i64 1, .string ⟨#[]⟩, .slice none 0 0] 24)).cell? ⟨w1.heap.size, 3, none⟩ = _ := K78.out.cell (p := w1.heap.size) (cs := (sC A a1 c1)) (i := 3) (.tail _ (.tail _ (.tail _ (.tail _ (.tail _ (.tail _ (.head _))))))) rfl
          have b_3 : (w77.alloc (.cells #[.int .i64 6, .int .i64 1, .string ⟨#[]⟩, .slice none 0 0] 24)).cell? ⟨w3.heap.size, 3, none⟩ = _ := K78.out.cell (p := w3.heap.size) (cs := (sC B a2 c2)) (i := 3) (.tail _ (.tail _ (.tail _ (.tail _ (.tail _ (.head _)))))) rfl
          have c_1 : (w77.alloc (.cells #[.int .i64 6, .int .i64 1, .string ⟨#[]⟩, .slice none 0 0] 24)).cell? ⟨w77.heap.size, 1, none⟩ = _ := K78.out.cell (p := w77.heap.size) (cs := #[.int .i64 6, .int .i64 1, .string ⟨#[]⟩, .slice none 0 0]) (i := 1) (.head _) rfl
          have hcnt : (X.length : Int) + (Y.length : Int) = (A.length : Int) + (B.length : Int) := by
            have h := set_count SA.out SB.out SY.out.1 SY.out.2.flat
            rw [HXE.out] at h
            omega
          have m1 : A.length ≤ 16 := SA.out.len
          have m2 : B.length ≤ 16 := SB.out.len
          have m3 : Y.length ≤ 16 := SY.out.2.len
          go_wp2_with fail
          refine (HW.out _).mono ?_
          rintro e_ w79 ⟨rfl, b_⟩
          have K79 := hide (K78.out.ext b_)
          clear b_ x_3 y_3 a_3 b_3 c_1
          go_wp2
          go_ret
          exact ⟨rfl, K79.out.bel⟩
    · have a_0 : (w31.alloc (.cells (sC X xo xc) 24)).cell? ⟨w1.heap.size, 0, none⟩ = _ := K50.out.cell (p := w1.heap.size) (cs := (sC A a1 c1)) (i := 0) (.tail _ (.tail _ (.head _))) rfl
      have a_1 : (w31.alloc (.cells (sC X xo xc) 24)).cell? ⟨w1.heap.size, 1, none⟩ = _ := K50.out.cell (p := w1.heap.size) (cs := (sC A a1 c1)) (i := 1) (.tail _ (.tail _ (.head _))) rfl
      have a_2 : (w31.alloc (.cells (sC X xo xc) 24)).cell? ⟨w1.heap.size, 2, none⟩ = _ := K50.out.cell (p := w1.heap.size) (cs := (sC A a1 c1)) (i := 2) (.tail _ (.tail _ (.head _))) rfl
      have a_3 : (w31.alloc (.cells (sC X xo xc) 24)).cell? ⟨w1.heap.size, 3, none⟩ = _ := K50.out.cell (p := w1.heap.size) (cs := (sC A a1 c1)) (i := 3) (.tail _ (.tail _ (.head _))) rfl
      have b_0 : (w31.alloc (.cells (sC X xo xc) 24)).cell? ⟨w3.heap.size, 0, none⟩ = _ := K50.out.cell (p := w3.heap.size) (cs := (sC B a2 c2)) (i := 0) (.tail _ (.head _)) rfl
      have b_1 : (w31.alloc (.cells (sC X xo xc) 24)).cell? ⟨w3.heap.size, 1, none⟩ = _ := K50.out.cell (p := w3.heap.size) (cs := (sC B a2 c2)) (i := 1) (.tail _ (.head _)) rfl
      have b_2 : (w31.alloc (.cells (sC X xo xc) 24)).cell? ⟨w3.heap.size, 2, none⟩ = _ := K50.out.cell (p := w3.heap.size) (cs := (sC B a2 c2)) (i := 2) (.tail _ (.head _)) rfl
      have b_3 : (w31.alloc (.cells (sC X xo xc) 24)).cell? ⟨w3.heap.size, 3, none⟩ = _ := K50.out.cell (p := w3.heap.size) (cs := (sC B a2 c2)) (i := 3) (.tail _ (.head _)) rfl
      have HJ := hide (hJ _ TA6.out TB6.out)
      clear hJ
      go_wp2_with fail
      refine (HJ.out).mono ?_
      rintro e_ w32 ⟨yo, yc, rfl, b_⟩
      have K32 := hide (K50.out.ext b_)
      have TA7 := hide (TA6.out.ext b_)
      have TB7 := hide (TB6.out.ext b_)
      have TX7 := hide (TX6.out.ext b_)
      clear b_ a_0 a_1 a_2 a_3 b_0 b_1 b_2 b_3
      obtain ⟨n0, n1⟩ : (E == 0) = false ∧ (E != 0) = true := ⟨by simpa using hE, by simpa using hE⟩
      clear hE
      have K33 := hide (K32.out.add (w32.heap.size) (#[.int .i64 0, .int .i64 0, .string ⟨#[]⟩, .slice yo 0 yc] : Array Value) (by first | rfl | simp))
      have TA8 := hide (TA7.out.ext (alloc_below _ (.cells (#[.int .i64 0, .int .i64 0, .string ⟨#[]⟩, .slice yo 0 yc] : Array Value) 24)))
      have TB8 := hide (TB7.out.ext (alloc_below _ (.cells (#[.int .i64 0, .int .i64 0, .string ⟨#[]⟩, .slice yo 0 yc] : Array Value) 24)))
      have TX8 := hide (TX7.out.ext (alloc_below _ (.cells (#[.int .i64 0, .int .i64 0, .string ⟨#[]⟩, .slice yo 0 yc] : Array Value) 24)))
      have x_3 : (w32.alloc (.cells (#[.int .i64 0, .int .i64 0, .string ⟨#[]⟩, .slice yo 0 yc] : Array Value) 24)).cell? ⟨w31.heap.size, 3, none⟩ = _ := K33.out.cell (p := w31.heap.size) (cs := (sC X xo xc)) (i := 3) (.tail _ (.head _)) rfl
      obtain ⟨WL, hWL⟩ : ∃ WL, (w32.alloc (.cells (#[.int .i64 0, .int .i64 0, .string ⟨#[]⟩, .slice yo 0 yc] : Array Value) 24)) = WL := ⟨_, rfl⟩
      rw [hWL] at TA8 TB8 TX8 K33 x_3
      have hXm : X.length ≤ 16 := by have h := (SetL.sel (b := setT B) (i := true) SA.out).len; rw [HXE.out] at h; exact h
      have hXc := TX8.out.list.2.1
      go_wp2
      go_loopw [62] (fun i wr => ∃ k : Nat, k ≤ X.length ∧ i = .int .i64 (k : Int) ∧ KR w [(w32.heap.size, (#[.int .i64 0, .int .i64 0, .string ⟨#[]⟩, .slice yo 0 yc] : Array Value)), (w31.heap.size, (sC X xo xc)), (w3.heap.size, (sC B a2 c2)), (w1.heap.size, (sC A a1 c1))] wr ∧ Below WL.heap.size WL wr) (fun i _ => X.length - (intOf i).toNat)
      case atStart => exact ⟨0, Nat.zero_le _, rfl, K33.out, Below.refl _ _⟩
      case round =>
        obtain ⟨k, hk, rfl, hK, hB⟩ := hrel
        have KR0 := hide hK
        have BR0 := hide hB
        clear hK hB
        by_cases hlt : k < X.length
        · obtain ⟨x, hx⟩ : ∃ x, X[k]? = some x := ⟨_, List.getElem?_eq_getElem hlt⟩
          obtain ⟨g, o, hxo, hbb, hcs⟩ := TX8.out.list.read (by show 0 < X.length; omega)
          subst hxo
          obtain ⟨xa, xd, hxt, hc4⟩ := hcs k x hx
          obtain ⟨p0, p1, p2, p3⟩ := hc4 wr BR0.out
          have hix := fun w_ => ix_terms w_ g o X.length xc k hlt
          have hxm : x ∈ sel (setT B) true A := by rw [HXE.out]; exact List.mem_of_getElem? hx
          have hxA := (mem_sel.1 hxm).1
          have hxB := (has_iff SB.out.flat (SA.out.flat x hxA)).1 (mem_sel.1 hxm).2
          have TXX := hide (And.intro hxt (And.intro hxA hxB))
          clear hxt hxA hxB hxm hx hcs hc4
          have K61 := hide (KR0.out.add (wr.heap.size) (tvC x xa xd) (by first | rfl | simp))
          have BR1 := hide (Below.chain BR0.out (alloc_below _ (.cells (tvC x xa xd) 24)))
          have HH := hide (has_self SA.out.flat TXX.out.2.1 (TA8.out.ext BR1.out) (TXX.out.1.ext BR1.out))
          simp only [tvC] at HH
          have a_0 : (wr.alloc (.cells (tvC x xa xd) 24)).cell? ⟨w1.heap.size, 0, none⟩ = _ := K61.out.cell (p := w1.heap.size) (cs := (sC A a1 c1)) (i := 0) (.tail _ (.tail _ (.tail _ (.tail _ (.head _))))) rfl
          have a_1 : (wr.alloc (.cells (tvC x xa xd) 24)).cell? ⟨w1.heap.size, 1, none⟩ = _ := K61.out.cell (p := w1.heap.size) (cs := (sC A a1 c1)) (i := 1) (.tail _ (.tail _ (.tail _ (.tail _ (.head _))))) rfl
          have a_2 : (wr.alloc (.cells (tvC x xa xd) 24)).cell? ⟨w1.heap.size, 2, none⟩ = _ := K61.out.cell (p := w1.heap.size) (cs := (sC A a1 c1)) (i := 2) (.tail _ (.tail _ (.tail _ (.tail _ (.head _))))) rfl
          have a_3 : (wr.alloc (.cells (tvC x xa xd) 24)).cell? ⟨w1.heap.size, 3, none⟩ = _ := K61.out.cell (p := w1.heap.size) (cs := (sC A a1 c1)) (i := 3) (.tail _ (.tail _ (.tail _ (.tail _ (.head _))))) rfl
          go_wp2_with fail
          refine (HH.out).mono ?_
          rintro e_ w62 ⟨rfl, b_⟩
          have K62 := hide (K61.out.ext b_)
          have BR2 := hide (Below.chain BR1.out b_)
          clear b_ a_0 a_1 a_2 a_3 p0 p1 p2 p3
          have HH2 := hide (has_self SB.out.flat TXX.out.2.2 (TB8.out.ext BR2.out) (TXX.out.1.ext BR2.out))
          simp only [tvC] at HH2
          have b_0 : w62.cell? ⟨w3.heap.size, 0, none⟩ = _ := K62.out.cell (p := w3.heap.size) (cs := (sC B a2 c2)) (i := 0) (.tail _ (.tail _ (.tail _ (.head _)))) rfl
          have b_1 : w62.cell? ⟨w3.heap.size, 1, none⟩ = _ := K62.out.cell (p := w3.heap.size) (cs := (sC B a2 c2)) (i := 1) (.tail _ (.tail _ (.tail _ (.head _)))) rfl
          have b_2 : w62.cell? ⟨w3.heap.size, 2, none⟩ = _ := K62.out.cell (p := w3.heap.size) (cs := (sC B a2 c2)) (i := 2) (.tail _ (.tail _ (.tail _ (.head _)))) rfl
          have b_3 : w62.cell? ⟨w3.heap.size, 3, none⟩ = _ := K62.out.cell (p := w3.heap.size) (cs := (sC B a2 c2)) (i := 3) (.tail _ (.tail _ (.tail _ (.head _)))) rfl
          have t_0 : w62.cell? ⟨wr.heap.size, 0, none⟩ = _ := K62.out.cell (p := wr.heap.size) (cs := (tvC x xa xd)) (i := 0) (.head _) rfl
          have t_1 : w62.cell? ⟨wr.heap.size, 1, none⟩ = _ := K62.out.cell (p := wr.heap.size) (cs := (tvC x xa xd)) (i := 1) (.head _) rfl
          have t_2 : w62.cell? ⟨wr.heap.size, 2, none⟩ = _ := K62.out.cell (p := wr.heap.size) (cs := (tvC x xa xd)) (i := 2) (.head _) rfl
          have t_3 : w62.cell? ⟨wr.heap.size, 3, none⟩ = _ := K62.out.cell (p := wr.heap.size) (cs := (tvC x xa xd)) (i := 3) (.head _) rfl
          go_wp2_with fail
          refine (HH2.out).mono ?_
          rintro e_ w63 ⟨rfl, b_⟩
          have K63 := hide (K62.out.ext b_)
          have BR3 := hide (Below.chain BR2.out b_)
          clear b_ b_0 b_1 b_2 b_3 t_0 t_1 t_2 t_3
          have KE := hide K63.out.tl
          go_wp2
          go_roundw
          case rel => exact ⟨k + 1, by omega, by go_num, KE.out, BR3.out⟩
          case measure => simp [intOf]; omega
        · obtain rfl : k = X.length := by omega
          have TA9 := hide (TA8.out.ext BR0.out)
          have TB9 := hide (TB8.out.ext BR0.out)
          have a_0 : wr.cell? ⟨w1.heap.size, 0, none⟩ = _ := KR0.out.cell (p := w1.heap.size) (cs := (sC A a1 c1)) (i := 0) (.tail _ (.tail _ (.tail _ (.head _)))) rfl
          have a_1 : wr.cell? ⟨w1.heap.size, 1, none⟩ = _ := KR0.out.cell (p := w1.heap.size) (cs := (sC A a1 c1)) (i := 1) (.tail _ (.tail _ (.tail _ (.head _)))) rfl
          have a_2 : wr.cell? ⟨w1.heap.size, 2, none⟩ = _ := KR0.out.cell (p := w1.heap.size) (cs := (sC A a1 c1)) (i := 2) (.tail _ (.tail _ (.tail _ (.head _)))) rfl
          have a_3 : wr.cell? ⟨w1.heap.size, 3, none⟩ = _ := KR0.out.cell (p := w1.heap.size) (cs := (sC A a1 c1)) (i := 3) (.tail _ (.tail _ (.tail _ (.head _)))) rfl
          have HZ := s15 SA.out SA.out TA9.out TA9.out
          rw [(sel_all SA.out).1] at HZ
          replace HZ := hide HZ
          go_wp2_with fail
          refine (HZ.out).mono ?_
          rintro e_ w71 ⟨zo, zc, rfl, htz, b_⟩
          have K71 := hide (KR0.out.ext b_)
          have TA10 := hide (TA9.out.ext b_)
          have TZ10 := hide htz
          clear htz
          clear b_ a_0 a_1 a_2 a_3
          have K72 := hide (K71.out.add (w71.heap.size) (sC A zo zc) (by first | rfl | simp))
          have TA11 := hide (TA10.out.ext (alloc_below _ (.cells (sC A zo zc) 24)))
          have TZ11 := hide (TZ10.out.ext (alloc_below _ (.cells (sC A zo zc) 24)))
          have a_0 : (w71.alloc (.cells (sC A zo zc) 24)).cell? ⟨w1.heap.size, 0, none⟩ = _ := K72.out.cell (p := w1.heap.size) (cs := (sC A a1 c1)) (i := 0) (.tail _ (.tail _ (.tail _ (.tail _ (.head _))))) rfl
          have a_1 : (w71.alloc (.cells (sC A zo zc) 24)).cell? ⟨w1.heap.size, 1, none⟩ = _ := K72.out.cell (p := w1.heap.size) (cs := (sC A a1 c1)) (i := 1) (.tail _ (.tail _ (.tail _ (.tail _ (.head _))))) rfl
          have a_2 : (w71.alloc (.cells (sC A zo zc) 24)).cell? ⟨w1.heap.size, 2, none⟩ = _ := K72.out.cell (p := w1.heap.size) (cs := (sC A a1 c1)) (i := 2) (.tail _ (.tail _ (.tail _ (.tail _ (.head _))))) rfl
          have a_3 : (w71.alloc (.cells (sC A zo zc) 24)).cell? ⟨w1.heap.size, 3, none⟩ = _ := K72.out.cell (p := w1.heap.size) (cs := (sC A a1 c1)) (i := 3) (.tail _ (.tail _ (.tail _ (.tail _ (.head _))))) rfl
          have HU := hide (s16_self SA.out TA11.out)
          go_wp2_with fail
          refine (HU.out).mono ?_
          rintro e_ w73 ⟨uo, uc, rfl, htu, b_⟩
          have K73 := hide (K72.out.ext b_)
          have TA12 := hide (TA11.out.ext b_)
          have TZ12 := hide (TZ11.out.ext b_)
          have TU12 := hide htu
          clear htu
          clear b_ a_0 a_1 a_2 a_3
          have K74 := hide (K73.out.add (w73.heap.size) (sC A uo uc) (by first | rfl | simp))
          have TA13 := hide (TA12.out.ext (alloc_below _ (.cells (sC A uo uc) 24)))
          have TZ13 := hide (TZ12.out.ext (alloc_below _ (.cells (sC A uo uc) 24)))
          have TU13 := hide (TU12.out.ext (alloc_below _ (.cells (sC A uo uc) 24)))
          have a_0 : (w73.alloc (.cells (sC A uo uc) 24)).cell? ⟨w1.heap.size, 0, none⟩ = _ := K74.out.cell (p := w1.heap.size) (cs := (sC A a1 c1)) (i := 0) (.tail _ (.tail _ (.tail _ (.tail _ (.tail _ (.head _)))))) rfl
          have a_1 : (w73.alloc (.cells (sC A uo uc) 24)).cell? ⟨w1.heap.size, 1, none⟩ = _ := K74.out.cell (p := w1.heap.size) (cs := (sC A a1 c1)) (i := 1) (.tail _ (.tail _ (.tail _ (.tail _ (.tail _ (.head _)))))) rfl
          have a_2 : (w73.alloc (.cells (sC A uo uc) 24)).cell? ⟨w1.heap.size, 2, none⟩ = _ := K74.out.cell (p := w1.heap.size) (cs := (sC A a1 c1)) (i := 2) (.tail _ (.tail _ (.tail _ (.tail _ (.tail _ (.head _)))))) rfl
          have a_3 : (w73.alloc (.cells (sC A uo uc) 24)).cell? ⟨w1.heap.size, 3, none⟩ = _ := K74.out.cell (p := w1.heap.size) (cs := (sC A a1 c1)) (i := 3) (.tail _ (.tail _ (.tail _ (.tail _ (.tail _ (.head _)))))) rfl
          have z_0 : (w73.alloc (.cells (sC A uo uc) 24)).cell? ⟨w71.heap.size, 0, none⟩ = _ := K74.out.cell (p := w71.heap.size) (cs := (sC A zo zc)) (i := 0) (.tail _ (.head _)) rfl
          have z_1 : (w73.alloc (.cells (sC A uo uc) 24)).cell? ⟨w71.heap.size, 1, none⟩ = _ := K74.out.cell (p := w71.heap.size) (cs := (sC A zo zc)) (i := 1) (.tail _ (.head _)) rfl
          have z_2 : (w73.alloc (.cells (sC A uo uc) 24)).cell? ⟨w71.heap.size, 2, none⟩ = _ := K74.out.cell (p := w71.heap.size) (cs := (sC A zo zc)) (i := 2) (.tail _ (.head _)) rfl
          have z_3 : (w73.alloc (.cells (sC A uo uc) 24)).cell? ⟨w71.heap.size, 3, none⟩ = _ := K74.out.cell (p := w71.heap.size) (cs := (sC A zo zc)) (i := 3) (.tail _ (.head _)) rfl
          have HS1 := hide (same_self TZ13.out TA13.out)
          go_wp2_with fail
          refine (HS1.out).mono ?_
          rintro e_ w75 ⟨rfl, b_⟩
          have K75 := hide (K74.out.ext b_)
          have TA14 := hide (TA13.out.ext b_)
          have TU14 := hide (TU13.out.ext b_)
          clear b_ a_0 a_1 a_2 a_3 z_0 z_1 z_2 z_3
          have a_0 : w75.cell? ⟨w1.heap.size, 0, none⟩ = _ := K75.out.cell (p := w1.heap.size) (cs := (sC A a1 c1)) (i := 0) (.tail _ (.tail _ (.tail _ (.tail _ (.tail _ (.head _)))))) rfl
          have a_1 : w75.cell? ⟨w1.heap.size, 1, none⟩ = _ := K75.out.cell (p := w1.heap.size) (cs := (sC A a1 c1)) (i := 1) (.tail _ (.tail _ (.tail _ (.tail _ (.tail _ (.head _)))))) rfl
          have a_2 : w75.cell? ⟨w1.heap.size, 2, none⟩ = _ := K75.out.cell (p := w1.heap.size) (cs := (sC A a1 c1)) (i := 2) (.tail _ (.tail _ (.tail _ (.tail _ (.tail _ (.head _)))))) rfl
          have a_3 : w75.cell? ⟨w1.heap.size, 3, none⟩ = _ := K75.out.cell (p := w1.heap.size) (cs := (sC A a1 c1)) (i := 3) (.tail _ (.tail _ (.tail _ (.tail _ (.tail _ (.head _)))))) rfl
          have u_0 : w75.cell? ⟨w73.heap.size, 0, none⟩ = _ := K75.out.cell (p := w73.heap.size) (cs := (sC A uo uc)) (i := 0) (.head _) rfl
          have u_1 : w75.cell? ⟨w73.heap.size, 1, none⟩ = _ := K75.out.cell (p := w73.heap.size) (cs := (sC A uo uc)) (i := 1) (.head _) rfl
          have u_2 : w75.cell? ⟨w73.heap.size, 2, none⟩ = _ := K75.out.cell (p := w73.heap.size) (cs := (sC A uo uc)) (i := 2) (.head _) rfl
          have u_3 : w75.cell? ⟨w73.heap.size, 3, none⟩ = _ := K75.out.cell (p := w73.heap.size) (cs := (sC A uo uc)) (i := 3) (.head _) rfl
          have HS2 := hide (same_self TU14.out TA14.out)
          go_wp2_with fail
          refine (HS2.out).mono ?_
          rintro e_ w76 ⟨rfl, b_⟩
          have K76 := hide (K75.out.ext b_)
          have TA15 := hide (TA14.out.ext b_)
          clear b_ a_0 a_1 a_2 a_3 u_0 u_1 u_2 u_3
          go_wp2_with fail
          refine (HW.out _).mono ?_
          rintro e_ wz ⟨rfl, b_⟩
          have KZ := hide (K76.out.ext b_)
          clear b_
          go_wp2
          go_ret
          exact ⟨rfl, KZ.out.bel⟩
theorem OpSets_any {l m : List Tm} {ao : Option Addr} {c : Nat} {bo : Option Addr} {d : Nat} {w : World} (hl : LAt w l ao c) (hm : LAt w m bo d) : Calls Tryz.prog 5 #[.slice ao l.length c, .slice bo m.length d] w fun e w' => e = .returned (.bool true) ∧ Below w.heap.size w w' := by
  cases hf : fitB l with
  | false => exact sets_a hl hm hf
  | true =>
    cases hg : fitB m with
    | false => exact sets_b hl hm hf hg
    | true => exact sets_c hl hm hf hg
end Go.Proofs.YtlfhppicglfinaaGreat
