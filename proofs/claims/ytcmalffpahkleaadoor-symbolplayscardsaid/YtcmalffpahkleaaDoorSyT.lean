/- The program's table and the page's, side by side: what each call leaves of both. -/
import Derived.Test.YtcmalffpahkleaaDoorSyL
namespace Go.Proofs.YtcmalffpahkleaaDoor
open Go.RowKit
/-- Both tables, a law's variable that holds a call, and what was there before. -/
structure PlSt (w wr : World) (ob : Option (Nat × Array Value)) (g : Nat) (v : Value) (mv : Option Nat) (gp : Nat) (vp : Value) (lt lp : List ByteArray) : Prop where
  kn : KnAt w
  tb : TbAt wr g v mv lt
  pt : PtAt wr gp vp lp
  few : lp.length ≤ 1000
  dis : gp ∉ bls g v mv ∧ ∀ x, vp.ownBlock = some x → x ∉ bls g v mv
  bel : Below w.heap.size w wr
  new : w.heap.size ≤ gp ∧ ∀ x ∈ bls g v mv, w.heap.size ≤ x
  var : ∀ b o, ob = some (b, o) → wr.heap[b]? = some (.cells o 32 (0, 0))
theorem PlSt.kw {w wr : World} {ob : Option (Nat × Array Value)} {g : Nat} {v : Value} {mv : Option Nat} {gp : Nat} {vp : Value} {lt lp : List ByteArray} (h : PlSt w wr ob g v mv gp vp lt lp) : KnAt wr := h.kn.ext h.bel
theorem tb_call {w : World} {g b : Nat} {v : Value} {mv : Option Nat} {l : List ByteArray} {cs : Array Value} (h : TbAt w g v mv l) (hb : w.heap[b]? = some (.cells cs 32 (0, 0))) : b ∉ bls g v mv := by
  intro hm
  rcases mem_bls.1 hm with rfl | hx | hx
  · rw [h.hd] at hb
    injection hb with hb; injection hb with _ hb _; exact absurd hb (by decide)
  · obtain ⟨cs', hc⟩ := row_heap h.row hx
    rw [hc] at hb
    injection hb with hb; injection hb with _ hb _; exact absurd hb (by decide)
  · obtain ⟨_, es, c, hc⟩ := h.mp.lt b hx
    rw [hc] at hb
    injection hb with hb; cases hb
theorem PlSt.t {w wr w' : World} {ob : Option (Nat × Array Value)} {g : Nat} {v : Value} {mv : Option Nat} {gp : Nat} {vp : Value} {lt lp l2 : List ByteArray} (h : PlSt w wr ob g v mv gp vp lt lp) (hN : TbNew wr w' g v mv l2) : ∃ v' mv', PlSt w w' ob g v' mv' gp vp l2 lp := by
  obtain ⟨v', mv', k1, k2, k3⟩ := hN
  have hgp : gp < wr.heap.size := (Array.getElem?_eq_some_iff.1 h.pt.hd).1
  refine ⟨v', mv', h.kn, k1, h.pt.kp k2 h.dis.1 h.dis.2, h.few, ⟨fun hx => ?_, fun x hx hm => ?_⟩, h.bel.trans (k2.below h.bel.size h.new.2), ⟨h.new.1, fun x hx => ?_⟩, fun b o hb => k2.heap (h.var b o hb) (tb_call h.tb (h.var b o hb))⟩
  · rcases k3 gp hx with q | q
    · exact h.dis.1 q
    · omega
  · rcases k3 x hm with q | q
    · exact h.dis.2 x hx q
    · have := (h.pt.row.lt x hx).2; omega
  · rcases k3 x hx with q | q
    · exact h.new.2 x q
    · exact Nat.le_trans h.bel.size q
theorem PlSt.p {w wr w' : World} {ob : Option (Nat × Array Value)} {g : Nat} {v : Value} {mv : Option Nat} {gp : Nat} {vp : Value} {lt lp l2 : List ByteArray} (h : PlSt w wr ob g v mv gp vp lt lp) (hN : PtNew wr w' gp vp l2) (hl : l2.length ≤ 1000) : ∃ vp', PlSt w w' ob g v mv gp vp' lt l2 := by
  obtain ⟨vp', k1, k2, k3⟩ := hN
  refine ⟨vp', h.kn, h.tb.kp k2 (fun x hx e => h.dis.1 (by rw [List.mem_singleton] at e; rw [← e]; exact hx)), k1, hl, ⟨h.dis.1, fun x hx hm => ?_⟩, h.bel.trans (k2.below h.bel.size (fun x hx => by rw [List.mem_singleton.1 hx]; exact h.new.1)), h.new, fun b o hb => k2.heap (h.var b o hb) (fun e => ?_)⟩
  · rcases k3 x hx with q | q
    · exact h.dis.2 x q hm
    · have := h.tb.lt x hm; omega
  · have e1 := List.mem_singleton.1 e
    have h1 := h.var b o hb
    have h2 := h.pt.hd
    rw [e1, h2] at h1
    injection h1 with h1; injection h1 with _ h1 _; exact absurd h1 (by decide)
theorem PlSt.ext {w wr w' : World} {ob : Option (Nat × Array Value)} {g : Nat} {v : Value} {mv : Option Nat} {gp : Nat} {vp : Value} {lt lp : List ByteArray} (h : PlSt w wr ob g v mv gp vp lt lp) (b : Below wr.heap.size wr w') : PlSt w w' ob g v mv gp vp lt lp :=
  ⟨h.kn, h.tb.ext b, h.pt.ext b, h.few, h.dis, Below.chain h.bel b, h.new, fun k o hk => (b.block k (Array.getElem?_eq_some_iff.1 (h.var k o hk)).1).trans (h.var k o hk)⟩
theorem PlSt.drew {w wr : World} {ob : Option (Nat × Array Value)} {g : Nat} {v : Value} {mv : Option Nat} {gp : Nat} {vp : Value} {lt lp : List ByteArray} (h : PlSt w wr ob g v mv gp vp lt lp) : PlSt w wr.drew ob g v mv gp vp lt lp := h.ext (Below.drew (Below.refl _ _))
theorem PlSt.free {w wr : World} {ob : Option (Nat × Array Value)} {g : Nat} {v : Value} {mv : Option Nat} {gp : Nat} {vp : Value} {lt lp : List ByteArray} (h : PlSt w wr ob g v mv gp vp lt lp) : PlSt w wr none g v mv gp vp lt lp := ⟨h.kn, h.tb, h.pt, h.few, h.dis, h.bel, h.new, fun _ _ e => by cases e⟩
/-- A new variable that holds a call. -/
theorem PlSt.hold {w wr : World} {g : Nat} {v : Value} {mv : Option Nat} {gp : Nat} {vp : Value} {lt lp : List ByteArray} (h : PlSt w wr none g v mv gp vp lt lp) (o : Array Value) : PlSt w (wr.alloc (.cells o 32)) (some (wr.heap.size, o)) g v mv gp vp lt lp := by
  have h2 := h.ext (alloc_below wr (.cells o 32))
  exact ⟨h2.kn, h2.tb, h2.pt, h2.few, h2.dis, h2.bel, h2.new, fun b o' e => by injection e with e; injection e with e1 e2; subst e1; subst e2; exact heap_alloc_new _ _⟩
theorem PlSt.reads {w wr : World} {b : Nat} {x : Cl} {a : Option Addr} {c : Nat} {g : Nat} {v : Value} {mv : Option Nat} {gp : Nat} {vp : Value} {lt lp : List ByteArray} (h : PlSt w wr (some (b, clC x a c)) g v mv gp vp lt lp) : wr.cell? ⟨b, 0, none⟩ = some (.int .i64 x.d) ∧ wr.cell? ⟨b, 1, none⟩ = some (.int .i64 x.n) ∧ wr.cell? ⟨b, 2, none⟩ = some (.string x.s) ∧ wr.cell? ⟨b, 3, none⟩ = some (.slice a x.l.length c) := by
  have hr := (row_reads (h.var _ _ rfl)).1
  exact ⟨hr 0, hr 1, hr 2, hr 3⟩
theorem PlSt.prow {w wr : World} {ob : Option (Nat × Array Value)} {g : Nat} {v : Value} {mv : Option Nat} {gp : Nat} {vp : Value} {l : List ByteArray} (h : PlSt w wr ob g v mv gp vp l l) : ∃ a c, wr.cell? ⟨gp, 0, none⟩ = some (.slice a l.length c) ∧ NAt wr l a c := by
  obtain ⟨a, c, rfl, hN⟩ := nat_row h.pt.row h.tb.own.short
  exact ⟨a, c, (row_reads h.pt.hd).1 0, hN⟩
section
variable {w wr : World} {ob : Option (Nat × Array Value)} {g : Nat} {v : Value} {mv : Option Nat} {gp : Nat} {vp : Value} {lt lp : List ByteArray}
theorem PlSt.tText (h : PlSt w wr ob g v mv gp vp lt lp) {n : Int} (hn : -9223372036854775808 ≤ n ∧ n ≤ 9223372036854775807) : Calls Tryd.prog 10 #[.pointer (some ⟨g, 0, none⟩), .int .i64 n] wr fun e w' => e = .returned (txtV lt n) ∧ w' = wr := Text_any hn h.kw h.tb
theorem PlSt.pText (h : PlSt w wr ob g v mv gp vp lt lp) {n : Int} (hn : -9223372036854775808 ≤ n ∧ n ≤ 9223372036854775807) : Calls Tryd.prog 11 #[.pointer (some ⟨gp, 0, none⟩), .int .i64 n] wr fun e w' => e = .returned (txtV lp n) ∧ PlSt w w' ob g v mv gp vp lt lp := by
  refine (pText_any hn h.pt).mono ?_
  rintro e w' ⟨rfl, b⟩
  exact ⟨rfl, h.ext b⟩
theorem PlSt.tNumber (h : PlSt w wr ob g v mv gp vp lt lp) (s : ByteArray) : Calls Tryd.prog 16 #[.pointer (some ⟨g, 0, none⟩), .string s] wr fun e w' => e = .returned (numV lt s) ∧ ∃ v' mv', PlSt w w' ob g v' mv' gp vp (numF lt s).2.2 lp := by
  refine (Number_any s h.kw h.tb).mono ?_
  rintro e w' ⟨rfl, hN⟩
  exact ⟨rfl, h.t hN⟩
theorem PlSt.pNumber (h : PlSt w wr ob g v mv gp vp lt lp) (hO : Own lp) (s : ByteArray) : Calls Tryd.prog 17 #[.pointer (some ⟨gp, 0, none⟩), .string s] wr fun e w' => e = .returned (numV lp s) ∧ ∃ vp', PlSt w w' ob g v mv gp vp' lt (numF lp s).2.2 := by
  refine (pNumber_any s h.pt h.few).mono ?_
  rintro e w' ⟨rfl, hN⟩
  exact ⟨rfl, h.p hN (hO.num s).few⟩
theorem add_own {l a : List ByteArray} (h : Own l) : Own ((addF l a).getD l) := by
  cases e : addF l a with
  | none => exact h
  | some l' => exact Own.add h e
theorem PlSt.tAdd (h : PlSt w wr ob g v mv gp vp lt lp) {a : List ByteArray} {ao : Option Addr} {c : Nat} (hA : NAt wr a ao c) : Calls Tryd.prog 12 #[.pointer (some ⟨g, 0, none⟩), .slice ao a.length c] wr fun e w' => e = .returned (.bool (addF lt a).isSome) ∧ ∃ v' mv', PlSt w w' ob g v' mv' gp vp ((addF lt a).getD lt) lp := by
  refine (Add_any h.kw h.tb hA).mono ?_
  rintro e w' ⟨rfl, hN⟩
  exact ⟨rfl, h.t hN⟩
theorem PlSt.pAdd (h : PlSt w wr ob g v mv gp vp lt lp) (hO : Own lp) {a : List ByteArray} {ao : Option Addr} {c : Nat} (hA : NAt wr a ao c) : Calls Tryd.prog 13 #[.pointer (some ⟨gp, 0, none⟩), .slice ao a.length c] wr fun e w' => e = .returned (.bool (addF lp a).isSome) ∧ ∃ vp', PlSt w w' ob g v mv gp vp' lt ((addF lp a).getD lp) := by
  refine (pAdd_any h.pt h.few hA).mono ?_
  rintro e w' ⟨rfl, hN⟩
  exact ⟨rfl, h.p hN (add_own hO).few⟩
theorem PlSt.tCopy (h : PlSt w wr ob g v mv gp vp lt lp) : Calls Tryd.prog 14 #[.pointer (some ⟨g, 0, none⟩)] wr fun e w' => ∃ g', e = .returned (.pointer (some ⟨g', 0, none⟩)) ∧ ∃ v' mv', PlSt w w' ob g' v' mv' gp vp lt lp := by
  refine (Copy_any h.tb).mono ?_
  rintro e w' ⟨g', v', mv', rfl, hT, hb, hn⟩
  have h2 := h.ext hb
  have hgp : gp < wr.heap.size := (Array.getElem?_eq_some_iff.1 h.pt.hd).1
  refine ⟨g', rfl, v', mv', h2.kn, hT, h2.pt, h2.few, ⟨fun hx => by have := hn _ hx; omega, fun x hx hm => ?_⟩, h2.bel, ⟨h.new.1, fun x hx => Nat.le_trans h.bel.size (hn x hx)⟩, h2.var⟩
  have h3 := hn x hm
  have h4 := (h.pt.row.lt x hx).2
  omega
theorem PlSt.pCopy (h : PlSt w wr ob g v mv gp vp lt lp) : Calls Tryd.prog 15 #[.pointer (some ⟨gp, 0, none⟩)] wr fun e w' => ∃ gp', e = .returned (.pointer (some ⟨gp', 0, none⟩)) ∧ ∃ vp', PlSt w w' ob g v mv gp' vp' lt lp := by
  refine (pCopy_any h.pt h.few).mono ?_
  rintro e w' ⟨g', v', rfl, hT, hb, hg, hn⟩
  have h2 := h.ext hb
  refine ⟨g', rfl, v', h2.kn, h2.tb, hT, h2.few, ⟨fun hx => by have := h.tb.lt _ hx; omega, fun x hx hm => ?_⟩, h2.bel, ⟨Nat.le_trans h.bel.size hg, h.new.2⟩, h2.var⟩
  have h3 := hn x hx
  have h4 := h.tb.lt x hm
  omega
theorem PlSt.tOwn (h : PlSt w wr ob g v mv gp vp lt lp) : Calls Tryd.prog 19 #[.pointer (some ⟨g, 0, none⟩)] wr fun e w' => ∃ a c, e = .returned (.slice a lt.length c) ∧ NAt w' lt a c ∧ PlSt w w' ob g v mv gp vp lt lp := by
  refine (Own_any h.tb).mono ?_
  rintro e w' ⟨v', rfl, hr, hb, _⟩
  obtain ⟨a, c, rfl, hN⟩ := nat_row hr h.tb.own.short
  exact ⟨a, c, rfl, hN, h.ext hb⟩
end
/-- Both new: nothing of their own. -/
theorem pl_start {w w1 : World} {g : Nat} (hk : KnAt w) (ht : TbAt w1 g (.slice none 0 0) none []) (b1 : Below w.heap.size w w1) (hg : w.heap.size ≤ g) : PlSt w (w1.alloc (.cells #[.slice none 0 0] 30)) none g (.slice none 0 0) none w1.heap.size (.slice none 0 0) [] [] := by
  have b2 := alloc_below w1 (.cells #[.slice none 0 0] 30)
  have hlt := ht.lt
  refine ⟨hk, ht.ext b2, ⟨heap_alloc_new _ _, World.ownsRow_nil _ _ _ _⟩, by simp, ⟨fun hx => by have := hlt _ hx; omega, fun x hx => by cases hx⟩, Below.chain b1 b2, ⟨b1.size, fun x hx => ?_⟩, fun _ _ e => by cases e⟩
  rcases mem_bls.1 hx with rfl | hx | hx
  · exact hg
  · cases hx
  · cases hx
end Go.Proofs.YtcmalffpahkleaaDoor
