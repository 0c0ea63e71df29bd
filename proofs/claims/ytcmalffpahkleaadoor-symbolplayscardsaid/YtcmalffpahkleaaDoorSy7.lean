/- Tables as the laws hold them: of blocks of their own, whatever else there is; what each program must know. -/
import Derived.Test.YtcmalffpahkleaaDoorSy6
namespace Go.Proofs.YtcmalffpahkleaaDoor
open Go.RowKit
/-- A table behind a row of calls: since W only blocks of S and new ones were written; it lies in those. -/
def Mn (S : List Nat) (W w : World) (g : Nat) (l : List ByteArray) : Prop := ∃ v mv, TbAt w g v mv l ∧ Kp S W w ∧ ∀ x ∈ bls g v mv, x ∈ S ∨ W.heap.size ≤ x
theorem Mn.new {S : List Nat} {W w w' : World} {g : Nat} {v : Value} {mv : Option Nat} {l' : List ByteArray} (hk : Kp S W w) (hn : ∀ x ∈ bls g v mv, x ∈ S ∨ W.heap.size ≤ x) (h : TbNew w w' g v mv l') : Mn S W w' g l' := by
  obtain ⟨v', mv', h1, h2, h3⟩ := h
  refine ⟨v', mv', h1, hk.next h2 hn, fun x hx => ?_⟩
  rcases h3 x hx with h | h
  · exact hn x h
  · exact .inr (Nat.le_trans hk.size h)
theorem Mn.ext {S : List Nat} {W w w' : World} {g : Nat} {l : List ByteArray} (h : Mn S W w g l) (b : Below w.heap.size w w') : Mn S W w' g l := by
  obtain ⟨v, mv, h1, h2, h3⟩ := h
  exact ⟨v, mv, h1.ext b, h2.trans (Kp.of_below b), h3⟩
theorem Mn.own {S : List Nat} {W w : World} {g : Nat} {l : List ByteArray} (h : Mn S W w g l) : Own l := by obtain ⟨v, mv, h1, _⟩ := h; exact h1.own
theorem Mn.kp {S : List Nat} {W w : World} {g : Nat} {l : List ByteArray} (h : Mn S W w g l) : Kp S W w := by obtain ⟨v, mv, _, h2, _⟩ := h; exact h2
theorem Mn.kn {S : List Nat} {W w : World} {g : Nat} {l : List ByteArray} (h : Mn S W w g l) (hk : KnAt W) (h0 : 0 ∉ S) : KnAt w := hk.kp h.kp h0
theorem Mn.below {W w : World} {g : Nat} {l : List ByteArray} (h : Mn [] W w g l) : Below W.heap.size W w := h.kp.below (Nat.le_refl _) (by simp)
theorem New_mn (w : World) : Calls Tryd.prog 9 #[] w fun e w' => ∃ g, e = .returned (.pointer (some ⟨g, 0, none⟩)) ∧ Mn [] w w' g [] := by
  refine (New_any w).mono ?_
  rintro e w' ⟨g, rfl, h, b, hg⟩
  exact ⟨g, rfl, _, _, h, Kp.of_below b, fun x hx => .inr (by rcases mem_bls.1 hx with rfl | hx | hx; exact hg; cases hx; cases hx)⟩
theorem Number_mn {S : List Nat} {W w : World} (s : ByteArray) {g : Nat} {l : List ByteArray} (hk : KnAt W) (h0 : 0 ∉ S) (h : Mn S W w g l) : Calls Tryd.prog 16 #[.pointer (some ⟨g, 0, none⟩), .string s] w fun e w' => e = .returned (numV l s) ∧ Mn S W w' g (numF l s).2.2 := by
  have hk' := h.kn hk h0
  obtain ⟨v, mv, h1, h2, h3⟩ := h
  refine (Number_any s hk' h1).mono ?_
  rintro e w' ⟨rfl, hN⟩
  exact ⟨rfl, Mn.new h2 h3 hN⟩
theorem Text_mn {S : List Nat} {W w : World} {n : Int} {g : Nat} {l : List ByteArray} (hn : -9223372036854775808 ≤ n ∧ n ≤ 9223372036854775807) (hk : KnAt W) (h0 : 0 ∉ S) (h : Mn S W w g l) : Calls Tryd.prog 10 #[.pointer (some ⟨g, 0, none⟩), .int .i64 n] w fun e w' => e = .returned (txtV l n) ∧ w' = w := by
  have hk' := h.kn hk h0
  obtain ⟨v, mv, h1, h2, h3⟩ := h
  exact Text_any hn hk' h1
theorem Add_mn {S : List Nat} {W w : World} {g : Nat} {l a : List ByteArray} {ao : Option Addr} {c : Nat} (hk : KnAt W) (h0 : 0 ∉ S) (h : Mn S W w g l) (hA : NAt w a ao c) : Calls Tryd.prog 12 #[.pointer (some ⟨g, 0, none⟩), .slice ao a.length c] w fun e w' => e = .returned (.bool (addF l a).isSome) ∧ Mn S W w' g ((addF l a).getD l) := by
  have hk' := h.kn hk h0
  obtain ⟨v, mv, h1, h2, h3⟩ := h
  refine (Add_any hk' h1 hA).mono ?_
  rintro e w' ⟨rfl, hN⟩
  exact ⟨rfl, Mn.new h2 h3 hN⟩
/-- Texts in new memory. -/
def Fresh (w w' : World) (v : Value) (l : List ByteArray) : Prop := ∃ a c, v = .slice a l.length c ∧ NAt w' l a c ∧ ∀ x, v.ownBlock = some x → w.heap.size ≤ x
theorem nat_row {w : World} {v : Value} {l : List ByteArray} (h : w.ownsRow 0 9 1 v l.length (l.map .string)) (hs : ∀ x ∈ l, x.size ≤ 256) : ∃ a c, v = .slice a l.length c ∧ NAt w l a c := by
  obtain ⟨a, c, rfl, hlc, hcm, hcell⟩ := row_slice h
  cases a with
  | none =>
    refine ⟨none, c, rfl, hlc, hcm, 0, 0, fun hne => ?_, fun i s hi => ?_⟩
    · obtain ⟨s, hs⟩ := List.exists_mem_of_ne_nil l hne
      obtain ⟨i, hi⟩ := List.mem_iff_getElem?.1 hs
      obtain ⟨b, hb, _⟩ := hcell i s hi
      cases hb
    · obtain ⟨b, hb, _⟩ := hcell i s hi
      cases hb
  | some p =>
    by_cases hne : l = []
    · subst hne
      exact ⟨some p, c, rfl, hlc, hcm, 0, 0, fun h => absurd rfl h, fun i s hi => by simp at hi⟩
    · obtain ⟨t, ht⟩ := List.exists_mem_of_ne_nil l hne
      obtain ⟨j, hj⟩ := List.mem_iff_getElem?.1 ht
      obtain ⟨b, hb, hbb, _⟩ := hcell j t hj
      refine ⟨some p, c, rfl, hlc, hcm, b, 0, fun _ => ⟨hb, hbb⟩, fun i s hi => ?_⟩
      obtain ⟨b2, hb2, _, hc2⟩ := hcell i s hi
      rw [hb] at hb2
      injection hb2 with hb2
      injection hb2 with hb2
      subst hb2
      exact ⟨by rw [Nat.zero_add]; exact hc2, by have := hs s (List.mem_iff_getElem?.2 ⟨i, hi⟩); omega⟩
theorem Own_mn {S : List Nat} {W w : World} {g : Nat} {l : List ByteArray} (h : Mn S W w g l) : Calls Tryd.prog 19 #[.pointer (some ⟨g, 0, none⟩)] w fun e w' => ∃ a c, e = .returned (.slice a l.length c) ∧ NAt w' l a c ∧ Mn S W w' g l ∧ Below w.heap.size w w' := by
  have hM := h
  obtain ⟨v, mv, h1, h2, h3⟩ := h
  refine (Own_any h1).mono ?_
  rintro e w' ⟨v', rfl, hr, hb, hn⟩
  obtain ⟨a, c, rfl, hN⟩ := nat_row hr h1.own.short
  exact ⟨a, c, rfl, hN, hM.ext hb, hb⟩
theorem Copy_mn {S : List Nat} {W w : World} {g : Nat} {l : List ByteArray} (h : Mn S W w g l) : Calls Tryd.prog 14 #[.pointer (some ⟨g, 0, none⟩)] w fun e w' => ∃ g', e = .returned (.pointer (some ⟨g', 0, none⟩)) ∧ Mn S W w' g' l ∧ Mn S W w' g l ∧ Mn [] w w' g' l := by
  have hM := h
  obtain ⟨v, mv, h1, h2, h3⟩ := h
  refine (Copy_any h1).mono ?_
  rintro e w' ⟨g', v', mv', rfl, hT, hb, hn⟩
  exact ⟨g', rfl, ⟨v', mv', hT, h2.trans (Kp.of_below hb), fun x hx => .inr (Nat.le_trans h2.size (hn x hx))⟩, hM.ext hb, v', mv', hT, Kp.of_below hb, fun x hx => .inr (hn x hx)⟩
def tR : ByteArray := ⟨#[114, 105, 103, 104, 116]⟩
def tX : ByteArray := ⟨#[120]⟩
def tY : ByteArray := ⟨#[121]⟩
theorem aw1 : numF [] tR = (4, true, []) := by decide
theorem aw2 : numF [] tX = (1024, true, [tX]) := by decide
theorem aw3 : numF [tX] tY = (1025, true, [tX, tY]) := by decide
set_option maxRecDepth 100000 in
theorem awake_any {w : World} (hk : KnAt w) : Calls Tryd.prog 8 #[] w fun e w' => e = .returned (.bool true) ∧ Below w.heap.size w w' := by
  have HK := hide hk
  clear hk
  go_enter Tryd.func8, Tryd.ntmps8
  go_wp2_with fail
  refine (New_mn w).mono ?_
  rintro e_ w1 ⟨g, rfl, h1⟩
  have N1 := Number_mn tR HK.out (by simp) h1
  unfold numV at N1
  rw [aw1] at N1
  have N1 := hide N1
  clear h1
  go_wp2_with fail
  refine N1.out.mono ?_
  rintro e_ w2 ⟨rfl, h1⟩
  have N2 := Number_mn tX HK.out (by simp) h1
  unfold numV at N2
  rw [aw2] at N2
  have N2 := hide N2
  clear h1
  go_wp2_with fail
  refine N2.out.mono ?_
  rintro e_ w3 ⟨rfl, h1⟩
  have N3 := Number_mn tY HK.out (by simp) h1
  unfold numV at N3
  rw [aw3] at N3
  have N3 := hide N3
  clear h1
  go_wp2_with fail
  refine N3.out.mono ?_
  rintro e_ w4 ⟨rfl, h1⟩
  have HM := hide h1
  clear h1
  go_wp2
  go_ret
  exact ⟨rfl, HM.out.below⟩
end Go.Proofs.YtcmalffpahkleaaDoor
