/- The program's calls Copy and Own; the library's two Clones. -/
import Derived.Test.YtcmalffpahkleaaDoorSy3
import Derived.Laws.Externs
namespace Go.Proofs.YtcmalffpahkleaaDoor
open Go.RowKit
theorem run_equalIn_sl_nil (w : World) (d : Nat) (t e : TypeId) (a : Option Addr) (n c : Nat) (h : Tryd.prog.underlying t = some (.slice e)) : (Op.equalIn (d + 1) t (.slice a n c) (.slice none 0 0)).run Tryd.prog w = .ok a.isNone w := by
  cases a <;> simp [Op.equalIn, run_underlying h]
theorem run_eql_sl_nil (w : World) (t e : TypeId) (a : Option Addr) (n c : Nat) (h : Tryd.prog.underlying t = some (.slice e)) : (binOp .eql t (.slice a n c) (.slice none 0 0)).run Tryd.prog w = .ok (.bool a.isNone) w := by
  simp only [binOp]
  simp [show Op.equal t (.slice a n c) (.slice none 0 0) = Op.equalIn (9999 + 1) t (.slice a n c) (.slice none 0 0) from rfl, run_equalIn_sl_nil w 9999 t e a n c h]
set_option maxRecDepth 100000 in
theorem SClone_any {w : World} {v : Value} {l : List ByteArray} (h : w.ownsRow 0 9 1 v l.length (l.map .string)) (hl : l.length ≤ 1000) : Calls Tryd.prog 22 #[v] w fun e w' => ∃ v', e = .returned v' ∧ w'.ownsRow 0 9 1 v' l.length (l.map .string) ∧ Below w.heap.size w w' ∧ ∀ x, v'.ownBlock = some x → w.heap.size ≤ x := by
  obtain ⟨ie, iz, hie0⟩ := infoS
  have hie := hide hie0
  clear hie0
  obtain ⟨a, c, rfl, hlc, hcm, hcell⟩ := row_slice h
  have hq := fun w_ => run_eql_sl_nil w_ 28 9 a l.length c (by kernel_rfl)
  have hH := hide (And.intro h (And.intro hl (And.intro hlc (And.intro hcm hcell))))
  clear h hl hlc hcm hcell
  cases a with
  | none =>
    go_enter Tryd.func22, Tryd.ntmps22
    go_wp2
    go_ret
    rcases hH.out.1.2 with ⟨_, h0⟩ | ⟨g, cap, cur, hv, _⟩
    · rw [List.eq_nil_of_length_eq_zero h0]
      exact ⟨_, rfl, World.ownsRow_nil _ _ _ _, Below.refl _ _, fun x hx => by cases hx⟩
    · cases hv
  | some p =>
    go_enter Tryd.func22, Tryd.ntmps22
    obtain ⟨g, rfl, hcs⟩ : ∃ g, p = ⟨g, 0, none⟩ ∧ ∀ j u, (l.map Value.string)[j]? = some u → w.cell? ((⟨g, 0, none⟩ : Addr).add j) = some u := by
      have hr := hH.out.1
      rcases hr.2 with ⟨h1, _⟩ | ⟨g, cap, cur, hv, _⟩
      · cases h1
      · injection hv with hv
        injection hv with hv
        subst hv
        exact ⟨g, rfl, hr.cells (g := g) rfl⟩
    have hlt := (hH.out.1.lt g rfl).2
    have hcs := hide hcs
    go_wp2_with (at_builtin; refine wpList_append_own_at _ rfl (.tmp 5) (.tmp 6) 28 rfl w.heap.size 9 ie iz 1 16 (by kernel_rfl) hie.out.1 hie.out.2.1 hie.out.2.2.1 hie.out.2.2.2.1 hie.out.2.2.2.2 (by decide) (.slice (some ⟨w.heap.size, 0, none⟩) 0 0) 0 [] rfl ⟨by simp, .inr ⟨w.heap.size, 0, #[], rfl, Nat.le_refl _, heap_alloc_new _ _, Nat.le_refl _, by decide, rfl, rfl⟩⟩ ⟨g, 0, none⟩ l.length c (l.map .string) rfl (by simp) (fun j u hj => by rw [← hcs.out j u hj]; exact World.cell?_of_block (by rw [Addr.add_mid]; exact Below.heap_alloc _ _ _ hlt)) (fun u hu => by obtain ⟨x, _, rfl⟩ := List.mem_map.1 hu; rfl) (by have := hH.out.2.1; unfold maxLen; omega) (by have := hH.out.2.1; omega) (by simp) ?_)
    intro v' w2 ho2 gr2 _ hat2
    have HA := hide (And.intro ho2 (And.intro gr2 hat2))
    clear ho2 gr2 hat2
    go_wp2
    go_ret
    obtain ⟨ho2, gr2, hat2⟩ := HA.out
    refine ⟨v', rfl, ⟨ho2.1, ?_⟩, ?_, fun x hx => (ho2.lt x hx).1⟩
    · rcases ho2.2 with h | ⟨k, cap, cur, h1, h2, h3⟩
      · exact .inl h
      · exact .inr ⟨k, cap, cur, h1, Nat.zero_le _, h3⟩
    · exact (alloc_below w (.cells #[] 9)).trans ⟨gr2.os, gr2.tape, gr2.output, by have := gr2.size; simp at this ⊢; omega, fun k hk => gr2.block k (by simp; omega) (fun e => by simp [Value.ownBlock] at e; omega)⟩
theorem run_mclone {w : World} {t : TypeId} {r : Nat} {es : Array MapEntry} {clock : Nat} (hb : w.heap[r]? = some (.map es clock)) : (callFunc 26 #[.iface t (.map (some r))]).run Tryd.prog w = .ok (.value (.iface t (.map (some w.heap.size)))) (w.alloc (.map es clock)) := by
  rw [run_callFunc_extern Tryd.func26 (by kernel_rfl) (by kernel_rfl) (by kernel_rfl) (e := Extern.MapsClone.clone) (by kernel_rfl), run_maps_clone_sl w t hb]
  rfl
set_option maxRecDepth 100000 in
set_option maxHeartbeats 1000000 in
theorem MClone_any {w : World} {mv : Option Nat} {l : List ByteArray} (h : MpAt w mv l) : Calls Tryd.prog 23 #[.map mv] w fun e w' => ∃ mv', e = .returned (.map mv') ∧ MpAt w' mv' l ∧ Below w.heap.size w w' ∧ ∀ x, mv' = some x → w.heap.size ≤ x := by
  have hq := fun w_ => run_eql_map_nil_sl (P := Tryd.prog) w_ 43 9 3 mv (by kernel_rfl)
  cases mv with
  | none =>
    have hH := hide h
    clear h
    go_enter Tryd.func23, Tryd.ntmps23
    go_wp2
    go_ret
    exact ⟨none, rfl, hH.out, Below.refl _ _, fun x hx => by cases hx⟩
  | some mb =>
    rcases h with ⟨h, _⟩ | ⟨mb', D, h, h1, h2⟩
    · cases h
    · injection h with h
      subst h
      obtain ⟨es, clock, hb, hF⟩ := h1
      have hlt := (Array.getElem?_eq_some_iff.1 hb).1
      have hrun := run_mclone (t := 43) hb
      have hta := fun w_ v => run_typeAssert_map_sl (P := Tryd.prog) w_ 43 20 9 3 v (by kernel_rfl)
      have hH := hide (And.intro hb (And.intro hF (And.intro h2 hlt)))
      clear hb hF h2 hlt
      go_enter Tryd.func23, Tryd.ntmps23
      go_wp2
      go_ret
      obtain ⟨hb, hF, h2, hlt⟩ := hH.out
      exact ⟨some w.heap.size, rfl, .inr ⟨w.heap.size, D, rfl, ⟨es, clock, heap_alloc_new _ _, hF⟩, h2⟩, alloc_below _ _, fun x hx => by injection hx with hx; omega⟩
end Go.Proofs.YtcmalffpahkleaaDoor
