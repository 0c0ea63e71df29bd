/- What operations tell: truths, numbers, texts; the calls that make them. -/
import Derived.Test.YteiacgpaocnofaaGreatOn
import Derived.Test.YteiacgpaocnofaaGreatSe
import Derived.BigQuiet
namespace Go.Proofs.YteiacgpaocnofaaGreat
open Go.RowKit
def trueT (b : Bool) : Tm := .mk 6 (if b then 1 else 0) ⟨#[]⟩ []
def numT (n : Int) : Tm := .mk 2 n ⟨#[]⟩ []
def textT (s : ByteArray) : Tm := .mk 3 0 s []
/-- A call that tells a flat term and an error's number: what was there stays. -/
def OpF (r : Tm) (E : Int) (w : World) (e : Ending) (w' : World) : Prop := e = .returned (.tuple #[tv r none 0, .int .i64 E]) ∧ Below w.heap.size w w'
abbrev ztC : Array Value := #[.int .i64 0, .int .i64 0, .string ⟨#[]⟩, .slice none 0 0]
set_option maxRecDepth 100000 in
theorem truth_any (b : Bool) (w : World) : Calls Tryz.prog 166 #[.bool b] w (OpF (trueT b) 0 w) := by
  have B0 := hide (alloc_below w (.cells ztC 33))
  have R0 := heap_alloc_last w (.cells ztC 33)
  cases b with
  | true =>
    go_enter Tryz.func166, Tryz.ntmps166
    go_wp2_with (refine wpList_store_row rfl 33 (.tmp 2) (.tmp 5) rfl w.heap.size #[.int .i64 6, .int .i64 1, .string ⟨#[]⟩, .slice none 0 0] rfl rfl 33 ztC R0 (by kernel_rfl) rfl (by kernel_rfl) ?_)
    refine bodyPost_ret_by (results_row_tmp rfl _ _ w.heap.size 33 _ (0, 0) _ rfl (setRow_heap _ _ _ _ _ _ R0) Tryz.underlying33 rfl (by kernel_rfl)) rfl ?_
    exact ⟨rfl, Below.setRow B0.out _ _ (Nat.le_refl _)⟩
  | false =>
    go_enter Tryz.func166, Tryz.ntmps166
    go_wp2_with (refine wpList_store_row rfl 33 (.tmp 2) (.tmp 6) rfl w.heap.size #[.int .i64 6, .int .i64 0, .string ⟨#[]⟩, .slice none 0 0] rfl rfl 33 ztC R0 (by kernel_rfl) rfl (by kernel_rfl) ?_)
    refine bodyPost_ret_by (results_row_tmp rfl _ _ w.heap.size 33 _ (0, 0) _ rfl (setRow_heap _ _ _ _ _ _ R0) Tryz.underlying33 rfl (by kernel_rfl)) rfl ?_
    exact ⟨rfl, Below.setRow B0.out _ _ (Nat.le_refl _)⟩
set_option maxRecDepth 100000 in
theorem number_ok (n : Int) (w : World) : Calls Tryz.prog 167 #[.int .i64 n, .int .i64 0] w (OpF (numT n) 0 w) := by
  have B0 := hide (alloc_below w (.cells ztC 33))
  have R0 := heap_alloc_last w (.cells ztC 33)
  go_enter Tryz.func167, Tryz.ntmps167
  go_wp2_with (refine wpList_store_row rfl 33 (.tmp 4) (.tmp 11) rfl w.heap.size #[.int .i64 2, .int .i64 n, .string ⟨#[]⟩, .slice none 0 0] rfl rfl 33 ztC R0 (by kernel_rfl) rfl (by kernel_rfl) ?_)
  refine bodyPost_ret_by (results_row_tmp rfl _ _ w.heap.size 33 _ (0, 0) _ rfl (setRow_heap _ _ _ _ _ _ R0) Tryz.underlying33 rfl (by kernel_rfl)) rfl ?_
  exact ⟨rfl, Below.setRow B0.out _ _ (Nat.le_refl _)⟩
set_option maxRecDepth 100000 in
theorem number_bad (n E : Int) (hE : (E != 0) = true) (w : World) : Calls Tryz.prog 167 #[.int .i64 n, .int .i64 E] w (OpF zt E w) := by
  have B0 := hide (alloc_below w (.cells ztC 33))
  have R0 := heap_alloc_last w (.cells ztC 33)
  go_enter Tryz.func167, Tryz.ntmps167
  go_wp2_with (refine wpList_store_row rfl 33 (.tmp 4) (.tmp 8) rfl w.heap.size ztC rfl rfl 33 ztC R0 (by kernel_rfl) rfl (by kernel_rfl) ?_)
  refine bodyPost_ret_by (results_row_tmp rfl _ _ w.heap.size 33 _ (0, 0) _ rfl (setRow_heap _ _ _ _ _ _ R0) Tryz.underlying33 rfl (by kernel_rfl)) rfl ?_
  exact ⟨rfl, Below.setRow B0.out _ _ (Nat.le_refl _)⟩
def numR (z : Int) : Tm := if inB z then numT z else zt
theorem number_any (z : Int) (w : World) : Calls Tryz.prog 167 #[.int .i64 (numV z), .int .i64 (numE z)] w (OpF (numR z) (numE z) w) := by
  by_cases h : inB z
  · rw [(num_in h).1, (num_in h).2, show numR z = numT z from if_pos h]; exact number_ok z w
  · rw [(num_out h).1, (num_out h).2, show numR z = zt from if_neg h]; exact number_bad 0 5 rfl w
abbrev tvC (t : Tm) (a : Option Addr) (c : Nat) : Array Value := #[.int .i64 t.k, .int .i64 t.n, .string t.s, .slice a t.l.length c]
abbrev s8 (ak an : Int) (aS : ByteArray) (aa : Option Addr) (al ac : Nat) (bk bn : Int) (bS : ByteArray) (ba : Option Addr) (bl bc : Nat) : Array Value := #[.int .i64 ak, .int .i64 an, .string aS, .slice aa al ac, .int .i64 bk, .int .i64 bn, .string bS, .slice ba bl bc]
/-- Two terms, as one value. -/
abbrev sv (a : Tm) (a1 : Option Addr) (c1 : Nat) (b : Tm) (a2 : Option Addr) (c2 : Nat) : Value := .agg (s8 a.k a.n a.s a1 a.l.length c1 b.k b.n b.s a2 b.l.length c2)
/-- Its terms are of kinds that there are, and have no lists. -/
def Lo (r : Tm) : Prop := ∀ x ∈ r.l, x.l = [] ∧ x.k ≠ 0
theorem Lo.flat {r : Tm} (h : Fl r) : Lo r := fun x hx => by rw [h.1] at hx; simp at hx
/-- A term stays while a zero term's block is filled. -/
theorem TAt.put {w : World} {r : Tm} {a : Option Addr} {c : Nat} (h : TAt w r a c) (hl : Lo r) {P : Nat} (hP : w.heap[P]? = some (.cells ztC 33 (0, 0))) (cs : Array Value) : TAt (w.setRow P cs) r a c := by
  have hf := h.fits
  obtain ⟨h1, h2, b, o, A, C, hb, hc⟩ := h.list
  refine LAt.term ⟨h1, h2, b, o, A, C, fun hne => ⟨(hb hne).1, by simpa using (hb hne).2⟩, fun i x hx => ?_⟩ hf
  obtain ⟨c4, hx4⟩ := hc i x hx
  obtain ⟨xl, xk⟩ := hl x (List.mem_of_getElem? hx)
  have hbP : b ≠ P := by
    intro e
    subst e
    have h0 := c4.1
    rw [cell_of_row _ _ _ _ _ _ hP] at h0
    have hz : ∀ j : Nat, (ztC : Array Value)[j]? = some (Value.int .i64 x.k) → x.k = 0 := fun j hj => by
      match j, hj with
      | 0, hj => simp at hj; exact hj.symm
      | 1, hj => simp at hj; exact hj.symm
      | 2, hj => simp at hj
      | 3, hj => simp at hj
      | j + 4, hj => simp at hj
    exact xk (hz _ h0)
  refine ⟨⟨?_, ?_, ?_, ?_⟩, LAt.term (by rw [xl]; exact LAt.nil _ _ _ hx4.fits.2.2.2.2) hx4.fits⟩
  · rw [cell_setRow_other _ _ _ _ (by exact hbP)]; exact c4.1
  · rw [cell_setRow_other _ _ _ _ (by exact hbP)]; exact c4.2.1
  · rw [cell_setRow_other _ _ _ _ (by exact hbP)]; exact c4.2.2.1
  · rw [cell_setRow_other _ _ _ _ (by exact hbP)]; exact c4.2.2.2
theorem mayV_k0 {n : Int} {s : ByteArray} {l : Nat} : mayV 0 n s l = false := by
  unfold mayV
  rw [if_neg (by decide), if_neg (by decide), if_neg (by decide), if_neg (by decide), if_neg (by decide)]
theorem one_k0 {k0 : Int} {x : Tm} (h : oneB k0 x = true) : x.k ≠ 0 := by
  intro e
  unfold oneB fixV at h
  rw [e, mayV_k0] at h
  simp at h
theorem SetR.lo {l : List Tm} {r : Tm} {E : Int} (h : SetR l r E) : Lo r := by
  cases hf : fitB l with
  | true =>
    obtain ⟨_, zs, rfl, hz, hfl⟩ := h.1 hf
    have ho := hf
    unfold fitB at ho
    simp only [Bool.and_eq_true, decide_eq_true_eq, List.all_eq_true] at ho
    exact fun x hx => ⟨(hfl x hx).1, one_k0 (ho.2 x ((hz.2.1 x).1 hx))⟩
  | false =>
    obtain ⟨_, rfl⟩ := h.2 hf
    exact fun x hx => by simp [zt, Tm.l] at hx
/-- A call that tells a term of which R holds, and an error's number: what was there stays. -/
def OpA (R : Tm → Int → Prop) (w : World) (e : Ending) (w' : World) : Prop := ∃ r a c E, e = .returned (.tuple #[tv r a c, .int .i64 E]) ∧ TAt w' r a c ∧ R r E ∧ Lo r ∧ Below w.heap.size w w'
theorem OpF.toA {r : Tm} {E : Int} {w w' : World} {e : Ending} {R : Tm → Int → Prop} (h : OpF r E w e w') (hf : Fl r) (hR : R r E) : OpA R w e w' := ⟨r, none, 0, E, h.1, hf.at w', hR, .flat hf, h.2⟩
theorem OpA.imp {R S : Tm → Int → Prop} {w w' : World} {e : Ending} (h : OpA R w e w') (hS : ∀ r E, R r E → S r E) : OpA S w e w' := by
  obtain ⟨r, a, c, E, h1, h2, h3, h4, h5⟩ := h
  exact ⟨r, a, c, E, h1, h2, hS _ _ h3, h4, h5⟩
theorem OpA.below {R : Tm → Int → Prop} {w0 w w' : World} {e : Ending} (h : OpA R w e w') (hb : Below w0.heap.size w0 w) : OpA R w0 e w' := by
  obtain ⟨r, a, c, E, h1, h2, h3, h4, h5⟩ := h
  exact ⟨r, a, c, E, h1, h2, h3, h4, Below.chain hb h5⟩
theorem two_alloc (w : World) (cs : Array Value) (t : TypeId) : Below w.heap.size w ((w.alloc (.cells cs t)).alloc (.cells ztC 33)) ∧ ((w.alloc (.cells cs t)).alloc (.cells ztC 33)).heap[w.heap.size + 1]? = some (.cells ztC 33 (0, 0)) ∧ ((w.alloc (.cells cs t)).alloc (.cells ztC 33)).heap[w.heap.size]? = some (.cells cs t (0, 0)) := by
  refine ⟨Below.chain (alloc_below _ _) (alloc_below _ _), ?_, Below.heap (alloc_below _ _) (by simp) (heap_alloc_last w _)⟩
  have h := heap_alloc_last (w.alloc (.cells cs t)) (.cells ztC 33)
  rwa [show (w.alloc (.cells cs t)).heap.size = w.heap.size + 1 by simp] at h
theorem trueT_fl (b : Bool) : Fl (trueT b) := by
  cases b <;> exact ⟨rfl, ⟨by decide, by decide⟩, ⟨by decide, by decide⟩, by decide, by decide, by decide⟩
theorem zt_fl : Fl zt := ⟨rfl, ⟨by decide, by decide⟩, ⟨by decide, by decide⟩, by decide, by decide, by decide⟩
theorem numT_fl {z : Int} (h : inB z) : Fl (numT z) := ⟨rfl, ⟨by show (-9223372036854775808 : Int) ≤ 2; decide, by show (2 : Int) ≤ 9223372036854775807; decide⟩, h, by show (0 : Nat) ≤ 9223372036854775807; decide, Nat.le_refl 0, Nat.zero_le _⟩
theorem numR_fl (z : Int) : Fl (numR z) := by
  unfold numR
  split
  · exact numT_fl ‹_›
  · exact zt_fl
theorem textT_fl {s : ByteArray} (h : s.size ≤ 9223372036854775807) : Fl (textT s) := ⟨rfl, ⟨by show (-9223372036854775808 : Int) ≤ 3; decide, by show (3 : Int) ≤ 9223372036854775807; decide⟩, ⟨by show (-9223372036854775808 : Int) ≤ 0; decide, by show (0 : Int) ≤ 9223372036854775807; decide⟩, h, Nat.le_refl 0, Nat.zero_le _⟩
end Go.Proofs.YteiacgpaocnofaaGreat
