/- Two lists held against each other, term by term; two terms, down to so many lists in one another. -/
import Derived.Test.YteiacgpaocnofaaGreatVw
namespace Go.Proofs.YteiacgpaocnofaaGreat
open Go.RowKit
/-- What the call tells of two terms. -/
def CmpC (d : Nat) : Prop := ∀ (a b : Tm) (a1 : Option Addr) (c1 : Nat) (a2 : Option Addr) (c2 : Nat) (w : World), TAt w a a1 c1 → TAt w b a2 c2 →
  Calls Tryz.prog 159 #[vw a.k a.n a.s a1 a.l.length c1 (d : Int), vw b.k b.n b.s a2 b.l.length c2 (d : Int)] w fun e w' => e = .returned (.int .i64 (cmpT d a b)) ∧ Below w.heap.size w w'
set_option maxRecDepth 100000 in
theorem clo_any {d : Nat} (hd : d < 100) (h : CmpC d) {a b : Tm} {a1 : Option Addr} {c1 : Nat} {a2 : Option Addr} {c2 : Nat} {g1 g2 : Nat} {w : World} (ha : TAt w a a1 c1) (hb : TAt w b a2 c2) (l1 : g1 < w.heap.size) (l2 : g2 < w.heap.size) (e1 : w.cell? ⟨g1, 4, none⟩ = some (.int .i64 ((d + 1 : Nat) : Int))) (e2 : w.cell? ⟨g2, 4, none⟩ = some (.int .i64 ((d + 1 : Nat) : Int))) :
    Calls Tryz.prog 206 #[tv a a1 c1, tv b a2 c2, .pointer (some ⟨g1, 0, none⟩), .pointer (some ⟨g2, 0, none⟩)] w fun e w' => e = .returned (.int .i64 (cmpT d a b)) ∧ Below w.heap.size w w' := by
  have b1 := alloc_below w (.cells #[.int .i64 a.k, .int .i64 a.n, .string a.s, .slice a1 a.l.length c1] 33)
  have b2 := Below.chain b1 (alloc_below _ (.cells #[.int .i64 b.k, .int .i64 b.n, .string b.s, .slice a2 b.l.length c2] 33))
  have HC := hide (h a b a1 c1 a2 c2 _ (ha.ext b2) (hb.ext b2))
  have f1 := (Below.cell (p := ⟨g1, 4, none⟩) b2 l1).trans e1
  have f2 := (Below.cell (p := ⟨g2, 4, none⟩) b2 l2).trans e2
  have HB := hide b2
  have ed : ((d + 1 : Nat) : Int) - 1 = (d : Int) := by omega
  have hd2 : ((d + 1 : Nat) : Int) ≤ 100 := by omega
  have hd3 : 0 ≤ ((d + 1 : Nat) : Int) := by omega
  unfold tv
  clear b1 b2 e1 e2
  generalize ((d + 1 : Nat) : Int) = D at *
  generalize cmpT d a b = CC at *
  generalize (d : Int) = E at *
  generalize a.k = ak at *
  generalize a.n = an at *
  generalize a.s = aS at *
  generalize a.l.length = al at *
  generalize b.k = bk at *
  generalize b.n = bn at *
  generalize b.s = bS at *
  generalize b.l.length = bl at *
  clear ha hb h
  go_enter Tryz.func206, Tryz.ntmps206
  go_wp2_with fail
  refine HC.out.mono ?_
  rintro e w' ⟨rfl, hb⟩
  have HR := hide (Below.chain HB.out hb)
  clear hb HC
  go_wp2
  go_ret
  exact ⟨rfl, HR.out⟩
theorem drop_at {l : List Tm} {k : Nat} {x : Tm} (h : l[k]? = some x) : l.drop k = x :: l.drop (k + 1) := by
  obtain ⟨h1, h2⟩ := List.getElem?_eq_some_iff.1 h
  rw [← h2]; exact List.drop_eq_getElem_cons h1
set_option maxRecDepth 100000 in
set_option maxHeartbeats 1000000 in
theorem lists_any {d : Nat} (hd : d < 100) (h : CmpC d) {l1 l2 : List Tm} {a1 : Option Addr} {c1 : Nat} {a2 : Option Addr} {c2 : Nat} {g1 g2 : Nat} {w : World} (ha : LAt w l1 a1 c1) (hb : LAt w l2 a2 c2) (lt1 : g1 < w.heap.size) (lt2 : g2 < w.heap.size) (e1 : w.cell? ⟨g1, 4, none⟩ = some (.int .i64 ((d + 1 : Nat) : Int))) (e2 : w.cell? ⟨g2, 4, none⟩ = some (.int .i64 ((d + 1 : Nat) : Int))) :
    Calls Tryz.prog 205 #[.slice a1 l1.length c1, .slice a2 l2.length c2, .func (.func 206) #[] #[.pointer (some ⟨g1, 0, none⟩), .pointer (some ⟨g2, 0, none⟩)]] w fun e w' => e = .returned (.int .i64 (cmpL (cmpT d) l1 l2)) ∧ Below w.heap.size w w' := by
  obtain ⟨R, hR⟩ : ∃ R, cmpL (cmpT d) l1 l2 = R := ⟨_, rfl⟩
  rw [hR]
  have hm1 := ha.1
  have hm2 := ha.2.1
  have hm3 := hb.1
  have hm4 := hb.2.1
  have HH := hide (And.intro ha (And.intro hb (And.intro e1 (And.intro e2 (And.intro lt1 (And.intro lt2 hR))))))
  clear ha hb e1 e2 lt1 lt2 hR
  go_enter Tryz.func205, Tryz.ntmps205
  go_wp2
  go_loopw [13] (fun i wr => ∃ k : Nat, k ≤ l1.length ∧ k ≤ l2.length ∧ i = .int .i64 (k : Int) ∧ cmpL (cmpT d) (l1.drop k) (l2.drop k) = R ∧ Below w.heap.size w wr) (fun i _ => l1.length - (intOf i).toNat)
  case atStart => exact ⟨0, Nat.zero_le _, Nat.zero_le _, rfl, HH.out.2.2.2.2.2.2, Below.refl _ _⟩
  case round =>
    obtain ⟨k, hk1, hk2, rfl, hrest, hB⟩ := hrel
    by_cases hlt : k < l1.length
    · obtain ⟨x, hx⟩ : ∃ x, l1[k]? = some x := ⟨_, List.getElem?_eq_getElem hlt⟩
      obtain ⟨b, o, hao, hbb, hcs⟩ := HH.out.1.read (by omega)
      subst hao
      obtain ⟨xa, xc, hxt, hc4⟩ := hcs k x hx
      obtain ⟨p0, p1, p2, p3⟩ := hc4 wr hB
      have hix := fun w_ => ix_terms w_ b o l1.length c1 k hlt
      have b1 := alloc_below wr (.cells #[.int .i64 x.k, .int .i64 x.n, .string x.s, .slice xa x.l.length xc] 33)
      rw [drop_at hx] at hrest
      by_cases hlt2 : k < l2.length
      · obtain ⟨y, hy⟩ : ∃ y, l2[k]? = some y := ⟨_, List.getElem?_eq_getElem hlt2⟩
        obtain ⟨b', o', hao', hbb', hcs'⟩ := HH.out.2.1.read (by omega)
        subst hao'
        obtain ⟨ya, yc, hyt, hc4'⟩ := hcs' k y hy
        obtain ⟨q0, q1, q2, q3⟩ := hc4' _ (Below.chain hB b1)
        have hix' := fun w_ => ix_terms w_ b' o' l2.length c2 k hlt2
        have hge : decide ((l2.length : Int) ≤ (k : Int)) = false := decide_eq_false (by omega)
        rw [drop_at hy, cmpL] at hrest
        have b2 := alloc_below (wr.alloc (.cells #[.int .i64 x.k, .int .i64 x.n, .string x.s, .slice xa x.l.length xc] 33)) (.cells #[.int .i64 y.k, .int .i64 y.n, .string y.s, .slice ya y.l.length yc] 33)
        have bb := Below.chain (Below.chain hB b1) b2
        have HC := hide (clo_any hd h (hxt.ext bb) (hyt.ext bb) (Nat.lt_of_lt_of_le HH.out.2.2.2.2.1 bb.size) (Nat.lt_of_lt_of_le HH.out.2.2.2.2.2.1 bb.size) ((Below.cell (p := ⟨g1, 4, none⟩) bb HH.out.2.2.2.2.1).trans HH.out.2.2.1) ((Below.cell (p := ⟨g2, 4, none⟩) bb HH.out.2.2.2.2.2.1).trans HH.out.2.2.2.1))
        unfold tv at HC
        have HX := hide (And.intro hrest bb)
        generalize cmpT d x y = CC at *
        generalize x.k = ak at *
        generalize x.n = an at *
        generalize x.s = aS at *
        generalize x.l.length = al at *
        generalize y.k = bk at *
        generalize y.n = bn at *
        generalize y.s = bS at *
        generalize y.l.length = bl at *
        clear hrest bb b1 b2 hB hcs hcs' hc4 hc4' hxt hyt hx hy
        go_wp2_with fail
        refine HC.out.mono ?_
        rintro e w2 ⟨rfl, b3⟩
        have HY := hide (Below.chain HX.out.2 b3)
        clear b3 HC
        by_cases hcc : CC = 0
        · subst hcc
          go_wp2
          go_roundw
          case rel => exact ⟨k + 1, by omega, by omega, by go_num, HX.out.1, HY.out⟩
          case measure => simp [intOf]; omega
        · have hne : (CC != 0) = true := by simpa using hcc
          have hz : CC = R := by have := HX.out.1; unfold lex at this; rw [if_neg hcc] at this; exact this
          clear hcc
          go_wp2
          go_ret
          exact ⟨rfl, HY.out⟩
      · obtain rfl : k = l2.length := by omega
        have hge : decide ((l2.length : Int) ≤ (l2.length : Int)) = true := decide_eq_true (by omega)
        rw [List.drop_length, cmpL] at hrest
        have HX := hide (And.intro hrest (Below.chain hB b1))
        generalize x.k = ak at *
        generalize x.n = an at *
        generalize x.s = aS at *
        generalize x.l.length = al at *
        clear hrest b1 hB hcs hc4 hxt hx
        go_wp2
        go_ret
        exact ⟨by rw [← HX.out.1]; rfl, HX.out.2⟩
    · obtain rfl : k = l1.length := by omega
      rw [List.drop_length] at hrest
      have HX := hide hB
      clear hB
      by_cases hlt2 : l1.length < l2.length
      · obtain ⟨y, hy⟩ : ∃ y, l2[l1.length]? = some y := ⟨_, List.getElem?_eq_getElem hlt2⟩
        rw [drop_at hy, cmpL] at hrest
        have hd1 : decide ((l1.length : Int) < (l2.length : Int)) = true := decide_eq_true (by omega)
        go_wp2
        go_ret
        exact ⟨by first | rfl | (rw [← hrest]; rfl), HX.out⟩
      · have e : l2.drop l1.length = [] := List.drop_eq_nil_of_le (by omega)
        rw [e, cmpL] at hrest
        have hd1 : decide ((l1.length : Int) < (l2.length : Int)) = false := decide_eq_false (by omega)
        go_wp2
        go_ret
        exact ⟨by first | rfl | (rw [← hrest]; rfl), HX.out⟩
end Go.Proofs.YteiacgpaocnofaaGreat
