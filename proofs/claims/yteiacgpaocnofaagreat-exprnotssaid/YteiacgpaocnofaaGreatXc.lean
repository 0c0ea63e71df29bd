/- The steps of the machine that does the operations of an expression. -/
import Derived.Test.YteiacgpaocnofaaGreatXb
/- A term put on the machine's stack. -/
namespace Go.Proofs.YteiacgpaocnofaaGreat
open Go.RowKit
/-- A world with a term put in a place of the stack's row. -/
abbrev putZ (w : World) (q i : Nat) (z : Zt) : World := (((w.setCell ⟨q, i * 4, none⟩ (.int .i64 z.1.k)).setCell ⟨q, i * 4 + 1, none⟩ (.int .i64 z.1.n)).setCell ⟨q, i * 4 + 2, none⟩ (.string z.1.s)).setCell ⟨q, i * 4 + 3, none⟩ (.slice z.2.1 z.1.l.length z.2.2)
theorem set_last4 {xs : List Value} {n : Nat} (h : xs.length = n * 4) (a b c d a' b' c' d' : Value) : ((((xs ++ [a, b, c, d]).set (n * 4) a').set (n * 4 + 1) b').set (n * 4 + 2) c').set (n * 4 + 3) d' = xs ++ [a', b', c', d'] := by
  rw [List.set_append_right _ _ (by omega), List.set_append_right _ _ (by omega), List.set_append_right _ _ (by omega), List.set_append_right _ _ (by omega), h]
  simp
theorem putZ_row {w : World} {B q n cap : Nat} {Z : List Zt} (hn : Z.length = n) (h : w.ownsRow B 33 4 (.slice (some ⟨q, 0, none⟩) (n + 1) cap) (n + 1) (zcs Z ++ tc zt)) (z : Zt) :
    (putZ w q n z).ownsRow B 33 4 (.slice (some ⟨q, 0, none⟩) (n + 1) cap) (n + 1) (zcs (Z ++ [z])) := by
  have h4 := (((((h.stored (n * 4) (.int .i64 z.1.k)).1.stored (n * 4 + 1) (.int .i64 z.1.n)).1.stored (n * 4 + 2) (.string z.1.s)).1).stored (n * 4 + 3) (.slice z.2.1 z.1.l.length z.2.2)).1
  have e := set_last4 (xs := zcs Z) (n := n) (by rw [zcs_len, hn]) (.int .i64 0) (.int .i64 0) (.string ⟨#[]⟩) (.slice none 0 0) (.int .i64 z.1.k) (.int .i64 z.1.n) (.string z.1.s) (.slice z.2.1 z.1.l.length z.2.2)
  rw [zcs_app, zcs_one]
  rw [show zc z = [.int .i64 z.1.k, .int .i64 z.1.n, .string z.1.s, .slice z.2.1 z.1.l.length z.2.2] from rfl, ← e]
  exact h4
theorem putZ_other {w : World} {q n k : Nat} {z : Zt} (hk : k ≠ q) : (putZ w q n z).heap[k]? = w.heap[k]? := by
  unfold putZ
  rw [Below.heap_setCell _ ⟨q, n * 4 + 3, none⟩ _ k hk, Below.heap_setCell _ ⟨q, n * 4 + 2, none⟩ _ k hk, Below.heap_setCell _ ⟨q, n * 4 + 1, none⟩ _ k hk, Below.heap_setCell _ ⟨q, n * 4, none⟩ _ k hk]
theorem sc_keep (w : World) (p : Addr) (u : Value) : (w.setCell p u).os = w.os ∧ (w.setCell p u).tape = w.tape ∧ (w.setCell p u).output = w.output ∧ (w.setCell p u).heap.size = w.heap.size := ⟨rfl, rfl, rfl, by simp⟩
theorem putZ_keep (w : World) (q n : Nat) (z : Zt) : (putZ w q n z).os = w.os ∧ (putZ w q n z).tape = w.tape ∧ (putZ w q n z).output = w.output ∧ (putZ w q n z).heap.size = w.heap.size := by
  have a := sc_keep w ⟨q, n * 4, none⟩ (.int .i64 z.1.k)
  have b := sc_keep (w.setCell ⟨q, n * 4, none⟩ (.int .i64 z.1.k)) ⟨q, n * 4 + 1, none⟩ (.int .i64 z.1.n)
  have c := sc_keep ((w.setCell ⟨q, n * 4, none⟩ (.int .i64 z.1.k)).setCell ⟨q, n * 4 + 1, none⟩ (.int .i64 z.1.n)) ⟨q, n * 4 + 2, none⟩ (.string z.1.s)
  have d := sc_keep (((w.setCell ⟨q, n * 4, none⟩ (.int .i64 z.1.k)).setCell ⟨q, n * 4 + 1, none⟩ (.int .i64 z.1.n)).setCell ⟨q, n * 4 + 2, none⟩ (.string z.1.s)) ⟨q, n * 4 + 3, none⟩ (.slice z.2.1 z.1.l.length z.2.2)
  exact ⟨d.1.trans (c.1.trans (b.1.trans a.1)), d.2.1.trans (c.2.1.trans (b.2.1.trans a.2.1)), d.2.2.1.trans (c.2.2.1.trans (b.2.2.1.trans a.2.2.1)), d.2.2.2.trans (c.2.2.2.trans (b.2.2.2.trans a.2.2.2))⟩
/-- Behind the growth: what stands where. -/
structure PuF (B : Nat) (w : World) (g q cap : Nat) (nv bv rv sv : Value) (Z : List Zt) (w' : World) : Prop where
  row : w'.ownsRow B 33 4 (.slice (some ⟨q, 0, none⟩) (Z.length + 1) cap) (Z.length + 1) (zcs Z ++ tc zt)
  mv : Mv g w sv w' (.slice (some ⟨q, 0, none⟩) (Z.length + 1) cap)
  ne : q ≠ g
  cell : w'.heap[g]? = some (.cells #[nv, bv, rv, sv] 56 (0, 0))
theorem PuF.of {B g q cap : Nat} {w W w' : World} {nv bv rv sv : Value} {Z : List Zt} (hc : w.heap[g]? = some (.cells #[nv, bv, rv, sv] 56 (0, 0))) (hs : StkAt B w g sv Z) (hW : Below w.heap.size w W)
    (hr : w'.ownsRow B 33 4 (.slice (some ⟨q, 0, none⟩) (Z.length + 1) cap) (Z.length + 1) (zcs Z ++ tc zt)) (hg : W.grownBy w' sv.ownBlock) (hat : (Value.slice (some ⟨q, 0, none⟩) (Z.length + 1) cap).ownBlock = sv.ownBlock ∨ (Value.slice (some ⟨q, 0, none⟩) (Z.length + 1) cap).ownBlock = some W.heap.size) :
    PuF B w g q cap nv bv rv sv Z w' := by
  have hgl := (Array.getElem?_eq_some_iff.1 hc).1
  have hWs := hW.size
  refine ⟨hr, ⟨hg.os.trans hW.os, hg.tape.trans hW.tape, hg.output.trans hW.output, Nat.le_trans hW.size hg.size, fun k hk h1 h2 => ?_, fun p hp => ?_⟩, fun e => ?_, ?_⟩
  · exact (hg.block k (by omega) (fun e => h2 e.symm)).trans (hW.block k hk)
  · rcases hat with e | e
    · exact .inl (e ▸ hp)
    · rw [e] at hp
      injection hp with hp
      exact .inr (by omega)
  · subst e
    rcases hat with e | e
    · exact hs.ng e.symm
    · injection e with e
      have : q = W.heap.size := e
      omega
  · exact (hg.block g (by omega) (fun e => hs.ng e.symm)).trans (Below.heap hW hgl hc)
theorem PuF.tail {B g q cap : Nat} {w w' : World} {nv bv rv sv : Value} {Z : List Zt} (h : PuF B w g q cap nv bv rv sv Z w') : w'.cell? ⟨q, Z.length * 4, none⟩ = some (.int .i64 0) ∧ w'.cell? ⟨q, Z.length * 4 + 1, none⟩ = some (.int .i64 0) ∧ w'.cell? ⟨q, Z.length * 4 + 2, none⟩ = some (.string ⟨#[]⟩) ∧ w'.cell? ⟨q, Z.length * 4 + 3, none⟩ = some (.slice none 0 0) := by
  have key : ∀ j u, j < 4 → (tc zt)[j]? = some u → w'.cell? ⟨q, Z.length * 4 + j, none⟩ = some u := fun j u hj hu => by
    rw [h.row.cellAt (Z.length * 4 + j) (by omega), List.getElem?_append_right (by rw [zcs_len]; omega), zcs_len, show Z.length * 4 + j - Z.length * 4 = j by omega]
    exact hu
  exact ⟨key 0 _ (by omega) rfl, key 1 _ (by omega) rfl, key 2 _ (by omega) rfl, key 3 _ (by omega) rfl⟩
theorem heap_set3 {w : World} {g : Nat} {a b c d u : Value} {t : TypeId} (h : w.heap[g]? = some (.cells #[a, b, c, d] t (0, 0))) : (w.setCell ⟨g, 3, none⟩ u).heap[g]? = some (.cells #[a, b, c, u] t (0, 0)) := heap_setCell_same _ _ _ _ _ _ h
/-- What is done when a term is on the stack. -/
def PuD (B : Nat) (w : World) (g : Nat) (nv bv rv sv : Value) (Z : List Zt) (z : Zt) (W : World) : Prop := ∃ sv', W.heap[g]? = some (.cells #[nv, bv, rv, sv'] 56 (0, 0)) ∧ StkAt B W g sv' (Z ++ [z]) ∧ Mv g w sv W sv'
theorem PuD.of {B g : Nat} {w w2 W : World} {nv bv rv sv : Value} {Z : List Zt} {z : Zt} (h : PuD B w2 g nv bv rv sv Z z W) (he : Below w.heap.size w w2) : PuD B w g nv bv rv sv Z z W := by
  obtain ⟨sv', h1, h2, h3⟩ := h
  exact ⟨sv', h1, h2, (Mv.ext he).trans h3⟩
theorem put_done {B g q cap : Nat} {w w' W : World} {nv bv rv sv : Value} {Z : List Zt} {z : Zt} (hs : StkAt B w g sv Z) (hz : Okz w g sv z) (h : PuF B w g q cap nv bv rv sv Z w')
    (hrow : W.ownsRow B 33 4 (.slice (some ⟨q, 0, none⟩) (Z.length + 1) cap) (Z.length + 1) (zcs (Z ++ [z]))) (hcell : W.heap[g]? = some (.cells #[nv, bv, rv, .slice (some ⟨q, 0, none⟩) (Z.length + 1) cap] 56 (0, 0)))
    (ho : W.os = w'.os) (ht : W.tape = w'.tape) (hu : W.output = w'.output) (hsz : w'.heap.size ≤ W.heap.size) (hb : ∀ k, k ≠ g → k ≠ q → W.heap[k]? = w'.heap[k]?) : PuD B w g nv bv rv sv Z z W := by
  have m2 : Mv g w' (.slice (some ⟨q, 0, none⟩) (Z.length + 1) cap) W (.slice (some ⟨q, 0, none⟩) (Z.length + 1) cap) := ⟨ho, ht, hu, hsz, fun k _ h1 h2 => hb k h1 (fun e => h2 (by rw [e]; rfl)), fun _ h => .inl h⟩
  have m := h.mv.trans m2
  refine ⟨_, hcell, ⟨by rw [List.length_append]; exact hrow, fun e => h.ne (by injection e), fun y hy => ?_⟩, m⟩
  rcases List.mem_append.1 hy with hy | hy
  · exact (hs.ok y hy).mv m
  · obtain rfl : y = z := by simpa using hy
    exact hz.mv m
theorem put_done1 {B g q cap : Nat} {w w' : World} {nv bv rv sv : Value} {Z : List Zt} {z : Zt} (hs : StkAt B w g sv Z) (hz : Okz w g sv z) (h : PuF B w g q cap nv bv rv sv Z w') : PuD B w g nv bv rv sv Z z ((putZ w' q Z.length z).setCell ⟨g, 3, none⟩ (.slice (some ⟨q, 0, none⟩) (Z.length + 1) cap)) := by
  have hrow := putZ_row rfl h.row z
  have k1 := sc_keep (putZ w' q Z.length z) ⟨g, 3, none⟩ (.slice (some ⟨q, 0, none⟩) (Z.length + 1) cap)
  have k2 := putZ_keep w' q Z.length z
  refine put_done hs hz h ⟨hrow.1, ?_⟩ (heap_set3 ((putZ_other (Ne.symm h.ne)).trans h.cell)) (k1.1.trans k2.1) (k1.2.1.trans k2.2.1) (k1.2.2.1.trans k2.2.2.1) (Nat.le_of_eq (k1.2.2.2.trans k2.2.2.2).symm) fun k h1 h2 => (Below.heap_setCell _ ⟨g, 3, none⟩ _ k h1).trans (putZ_other h2)
  rcases hrow.2 with h1 | ⟨p, cap', cur, e, hb, hr, hn⟩
  · exact .inl h1
  · have ep : q = p := by injection e with e1; injection e1 with e1; injection e1
    exact .inr ⟨p, cap', cur, e, hb, (Below.heap_setCell _ ⟨g, 3, none⟩ _ p (fun e => h.ne (ep.trans e))).trans hr, hn⟩
theorem put_done2 {B g q cap : Nat} {w w' : World} {nv bv rv sv : Value} {Z : List Zt} {z : Zt} (hs : StkAt B w g sv Z) (hz : Okz w g sv z) (h : PuF B w g q cap nv bv rv sv Z w') : PuD B w g nv bv rv sv Z z (putZ (w'.setCell ⟨g, 3, none⟩ (.slice (some ⟨q, 0, none⟩) (Z.length + 1) cap)) q Z.length z) := by
  have hr0 : (w'.setCell ⟨g, 3, none⟩ (.slice (some ⟨q, 0, none⟩) (Z.length + 1) cap)).ownsRow B 33 4 (.slice (some ⟨q, 0, none⟩) (Z.length + 1) cap) (Z.length + 1) (zcs Z ++ tc zt) := ⟨h.row.1, by
    rcases h.row.2 with h1 | ⟨p, cap', cur, e, hb, hr, hn⟩
    · exact .inl h1
    · have ep : q = p := by injection e with e1; injection e1 with e1; injection e1
      exact .inr ⟨p, cap', cur, e, hb, (Below.heap_setCell _ ⟨g, 3, none⟩ _ p (fun e => h.ne (ep.trans e))).trans hr, hn⟩⟩
  have k2 := sc_keep w' ⟨g, 3, none⟩ (.slice (some ⟨q, 0, none⟩) (Z.length + 1) cap)
  have k1 := putZ_keep (w'.setCell ⟨g, 3, none⟩ (.slice (some ⟨q, 0, none⟩) (Z.length + 1) cap)) q Z.length z
  exact put_done hs hz h (putZ_row rfl hr0 z) ((putZ_other (Ne.symm h.ne)).trans (heap_set3 h.cell)) (k1.1.trans k2.1) (k1.2.1.trans k2.2.1) (k1.2.2.1.trans k2.2.2.1) (Nat.le_of_eq (k1.2.2.2.trans k2.2.2.2).symm) fun k h1 h2 => (putZ_other h2).trans (Below.heap_setCell _ ⟨g, 3, none⟩ _ k h1)
theorem stk_form {w : World} {B n : Nat} {v : Value} {xs : List Value} (h : w.ownsRow B 33 4 v n xs) : ∃ va vc, v = .slice va n vc := by
  rcases h.2 with ⟨rfl, rfl⟩ | ⟨g, cap, cur, rfl, _⟩
  · exact ⟨_, _, rfl⟩
  · exact ⟨_, _, rfl⟩
set_option maxRecDepth 100000 in
set_option maxHeartbeats 2000000 in
theorem push_bad {g : Nat} {z : Zt} {E : Int} {w : World} (hE : E ≠ 0) : Calls Tryz.prog 104 #[.pointer (some ⟨g, 0, none⟩), tv z.1 z.2.1 z.2.2, .int .i64 E] w fun e w' => e = .returned (.int .i64 E) ∧ Below w.heap.size w w' := by
  have HB := hide (alloc_below w (.cells (tvC z.1 z.2.1 z.2.2) 33))
  have d1 : (E != 0) = true := by simpa using hE
  clear hE
  unfold tv
  go_enter Tryz.func104, Tryz.ntmps104
  go_wp2
  go_ret
  exact ⟨rfl, HB.out⟩
set_option maxRecDepth 100000 in
set_option maxHeartbeats 8000000 in
theorem push_any {B g : Nat} {nv bv rv sv : Value} {Z : List Zt} {z : Zt} {w : World} (hc : w.heap[g]? = some (.cells #[nv, bv, rv, sv] 56 (0, 0))) (hs : StkAt B w g sv Z) (hz : Okz w g sv z) (hn : Z.length ≤ 50) (hB : B ≤ w.heap.size) :
    Calls Tryz.prog 104 #[.pointer (some ⟨g, 0, none⟩), tv z.1 z.2.1 z.2.2, .int .i64 0] w fun e w' => e = .returned (.int .i64 0) ∧ PuD B w g nv bv rv sv Z z w' := by
  obtain ⟨va, vc, rfl⟩ := stk_form hs.row
  have bA := alloc_below w (.cells (tvC z.1 z.2.1 z.2.2) 33)
  have HW := hide (And.intro hc (And.intro hs (And.intro hz (And.intro hn hB))))
  have HA := hide (And.intro bA (And.intro (Below.heap bA (Array.getElem?_eq_some_iff.1 hc).1 hc) (hs.ext bA)))
  have hP : w.heap.size ≠ g := fun e => by have := (Array.getElem?_eq_some_iff.1 hc).1; omega
  have hown : (Value.slice va Z.length vc).ownBlock ≠ some w.heap.size := fun e => by have := (hs.row.lt _ e).2; omega
  have mixed : Tryz.prog.follows .mixedOrders = true := by kernel_rfl
  unfold tv
  clear hc hs hz hn hB bA
  go_enter Tryz.func104, Tryz.ntmps104
  go_upto_region 3 with fail
  have ra := heap_alloc_last w (.cells (tvC z.1 z.2.1 z.2.2) 33)
  generalize hPe : w.heap.size = P at *
  have HP := hide (And.intro hP (And.intro hown hPe))
  generalize w.alloc (.cells (tvC z.1 z.2.1 z.2.2) 33) = w2 at *
  have y0 := cell_of_row _ _ 0 _ _ _ ra
  have y1 := cell_of_row _ _ 1 _ _ _ ra
  have y2 := cell_of_row _ _ 2 _ _ _ ra
  have y3 := cell_of_row _ _ 3 _ _ _ ra
  simp only [List.getElem?_toArray, List.getElem?_cons_zero, List.getElem?_cons_succ] at y0 y1 y2 y3
  have m3 := cell_of_row _ _ 3 _ _ _ HA.out.2.1
  simp only [List.getElem?_toArray, List.getElem?_cons_zero, List.getElem?_cons_succ] at m3
  have rA := Below.heap (alloc_below w2 (.cells ztC 33)) (Array.getElem?_eq_some_iff.1 ra).1 ra
  have x0 := cell_of_row _ _ 0 _ _ _ rA
  have x1 := cell_of_row _ _ 1 _ _ _ rA
  have x2 := cell_of_row _ _ 2 _ _ _ rA
  have x3 := cell_of_row _ _ 3 _ _ _ rA
  simp only [List.getElem?_toArray, List.getElem?_cons_zero, List.getElem?_cons_succ] at x0 x1 x2 x3
  have mA := Below.heap (alloc_below w2 (.cells ztC 33)) (Array.getElem?_eq_some_iff.1 HA.out.2.1).1 HA.out.2.1
  have n3 := cell_of_row _ _ 3 _ _ _ mA
  simp only [List.getElem?_toArray, List.getElem?_cons_zero, List.getElem?_cons_succ] at n3
  have HR := hide ra
  clear ra rA mA hP hown hPe
  have hix0 : ∀ q' cap' w_, (Instr.indexAt 26 (.slice (some ⟨q', 0, none⟩) (Z.length + 1) cap') (.int .i64 (Z.length : Int))).run Tryz.prog w_ = .ok (.pointer (some ⟨q', Z.length * 4, none⟩)) w_ := fun q' cap' w_ => by
    have := ix_terms w_ q' 0 (Z.length + 1) cap' Z.length (by omega)
    rwa [Nat.zero_add] at this
  go_region_law (refine step_append_r appT rfl (.tmp 13) (.tmp 16) rfl (base := B) (n := Z.length) (v := .slice va Z.length vc) (xs := zcs Z) (row_ext HA.out.2.2.row (Below.drew (alloc_below w2 _))) (by first | (simp [Act.eval]; done) | (simp [Act.eval, Act.put]; done)) (ad := ⟨w2.heap.size, 0, none⟩) (m := 1) (c := 1) (news := tc zt) (by first | (simp [Act.eval]; done) | (simp [Act.eval, Act.put]; done)) rfl (zt_news (heap_alloc_last w2 _)) zt_one (by have := HW.out.2.2.2.1; unfold maxLen; omega) (by have := HW.out.2.2.2.1; omega) (by have h1 := HW.out.2.2.2.2; have h2 := HA.out.1.size; have h3 := HP.out.2.2; simp; omega) ?_; intro v' w' hr hg hat; obtain ⟨q, cap, hv', hcap, hcm⟩ := row_form hr; subst hv'; have FX := PuF.of HA.out.2.1 HA.out.2.2 (Below.drew (alloc_below w2 _)) hr hg hat; clear hr hg hat; have fr := FX.row.frozenAt; have fr0 := fr (Z.length * 4); have fr1 := fr (Z.length * 4 + 1); have fr2 := fr (Z.length * 4 + 2); have fr3 := fr (Z.length * 4 + 3); obtain ⟨t0, t1, t2, t3⟩ := FX.tail; have hix := fun w_ => hix0 q cap w_; have cP := (row_reads FX.cell).1 3; have fP := (row_reads FX.cell).2 3; simp only [List.getElem?_toArray, List.getElem?_cons_zero, List.getElem?_cons_succ] at cP; have rP := (FX.mv.block P (Array.getElem?_eq_some_iff.1 HR.out).1 HP.out.1 HP.out.2.1).trans HR.out; have z0 := cell_of_row _ _ 0 _ _ _ rP; have z1 := cell_of_row _ _ 1 _ _ _ rP; have z2 := cell_of_row _ _ 2 _ _ _ rP; have z3 := cell_of_row _ _ 3 _ _ _ rP; simp only [List.getElem?_toArray, List.getElem?_cons_zero, List.getElem?_cons_succ] at z0 z1 z2 z3; have hPg : ¬ g = q := fun e => FX.ne e.symm; have hgP : ¬ q = g := FX.ne; have HFX := hide FX; clear FX fr rP)
  all_goals
    go_wp2
    go_ret
    have hb : Below w.heap.size w w2 := HP.out.2.2 ▸ HA.out.1
    have hd := (put_done1 HA.out.2.2 (HW.out.2.2.1.mv (.ext hb)) HFX.out).of hb
    have hd2 := (put_done2 HA.out.2.2 (HW.out.2.2.1.mv (.ext hb)) HFX.out).of hb
    refine ⟨rfl, ?_⟩
    first | with_reducible exact hd | with_reducible exact hd2
end Go.Proofs.YteiacgpaocnofaaGreat
/- A term taken off the machine's stack. -/
namespace Go.Proofs.YteiacgpaocnofaaGreat
open Go.RowKit
/-- What is done when a term is off the stack. -/
def PoD (B : Nat) (w : World) (g : Nat) (nv bv rv sv : Value) (Z : List Zt) (z : Zt) (W : World) : Prop := ∃ sv', W.heap[g]? = some (.cells #[nv, bv, rv, sv'] 56 (0, 0)) ∧ StkAt B W g sv' Z ∧ Mv g w sv W sv' ∧ Okz W g sv' z
theorem row_less {w : World} {B q n m cap : Nat} {xs ys : List Value} (h : w.ownsRow B 33 4 (.slice (some ⟨q, 0, none⟩) (n + m) cap) (n + m) (xs ++ ys)) (hl : xs.length = n * 4) : w.ownsRow B 33 4 (.slice (some ⟨q, 0, none⟩) n cap) n xs := by
  rcases h.2 with ⟨e, _⟩ | ⟨g, cap', cur, e, hb, hr, hn, hm, hs, ht⟩
  · cases e
  · injection e with e1 e2 e3
    subst e3
    refine ⟨hl, .inr ⟨g, cap, cur, by rw [e1], hb, hr, by omega, hm, hs, ?_⟩⟩
    have : (cur.toList.take ((n + m) * 4)).take (n * 4) = xs := by rw [ht, ← hl, List.take_left']; rfl
    rw [← this, List.take_take, Nat.min_eq_left (by omega)]
theorem upto_terms (q n m cap : Nat) (h : n + m ≤ cap) : ∀ W : World, (Instr.sliceAt 26 (.slice (some ⟨q, 0, none⟩) (n + m) cap) none (some (.int .i64 (n : Int))) none).run Tryz.prog W = .ok (.slice (some ⟨q, 0, none⟩) n cap) W := fun W => by
  have g1 : ¬ ((n : Int) < 0) := by omega
  have g3 : ¬ ((cap : Int) < (n : Int)) := by omega
  go_simp
  intro h
  omega
theorem pop_done {B g q cap : Nat} {w W2 : World} {nv bv rv : Value} {Z : List Zt} {z : Zt} (hc : w.heap[g]? = some (.cells #[nv, bv, rv, .slice (some ⟨q, 0, none⟩) (Z.length + 1) cap] 56 (0, 0))) (hs : StkAt B w g (.slice (some ⟨q, 0, none⟩) (Z.length + 1) cap) (Z ++ [z]))
    (hlow : w.ownsRow B 33 4 (.slice (some ⟨q, 0, none⟩) Z.length cap) Z.length (zcs Z)) (hqg : q ≠ g) (b2 : Below w.heap.size w W2) (cs : Array Value) : PoD B w g nv bv rv (.slice (some ⟨q, 0, none⟩) (Z.length + 1) cap) Z z ((W2.setCell ⟨g, 3, none⟩ (.slice (some ⟨q, 0, none⟩) Z.length cap)).setRow w.heap.size cs) := by
  have hgl := (Array.getElem?_eq_some_iff.1 hc).1
  have hql := (hs.row.lt q rfl).2
  have hoth : ∀ k, k < w.heap.size → k ≠ g → ((W2.setCell ⟨g, 3, none⟩ (.slice (some ⟨q, 0, none⟩) Z.length cap)).setRow w.heap.size cs).heap[k]? = w.heap[k]? := fun k hk h1 =>
    (setRow_other _ _ k _ (by omega)).trans ((Below.heap_setCell _ ⟨g, 3, none⟩ _ k h1).trans (b2.block k hk))
  have k1 := sc_keep W2 ⟨g, 3, none⟩ (.slice (some ⟨q, 0, none⟩) Z.length cap)
  have m : Mv g w (.slice (some ⟨q, 0, none⟩) (Z.length + 1) cap) ((W2.setCell ⟨g, 3, none⟩ (.slice (some ⟨q, 0, none⟩) Z.length cap)).setRow w.heap.size cs) (.slice (some ⟨q, 0, none⟩) Z.length cap) :=
    ⟨k1.1.trans b2.os, k1.2.1.trans b2.tape, k1.2.2.1.trans b2.output, by have := b2.size; simpa using this, fun k hk h1 _ => hoth k hk h1, fun p hp => .inl hp⟩
  refine ⟨_, (setRow_other _ _ g _ (by omega)).trans (heap_set3 (Below.heap b2 hgl hc)), ⟨⟨hlow.1, ?_⟩, hs.ng, fun y hy => (hs.ok y (List.mem_append_left _ hy)).mv m⟩, m, (hs.ok z (by simp)).mv m⟩
  rcases hlow.2 with h1 | ⟨p, cap', cur, e, hb, hr, hn⟩
  · exact .inl h1
  · have ep : q = p := by injection e with e1; injection e1 with e1; injection e1
    exact .inr ⟨p, cap', cur, e, hb, (hoth p (by omega) (by omega)).trans hr, hn⟩
set_option maxRecDepth 100000 in
set_option maxHeartbeats 8000000 in
theorem pop_any {B g : Nat} {nv bv rv sv : Value} {Z : List Zt} {z : Zt} {w : World} (hc : w.heap[g]? = some (.cells #[nv, bv, rv, sv] 56 (0, 0))) (hs : StkAt B w g sv (Z ++ [z])) (hn : Z.length ≤ 50) :
    Calls Tryz.prog 33 #[.pointer (some ⟨g, 0, none⟩)] w fun e w' => e = .returned (tv z.1 z.2.1 z.2.2) ∧ PoD B w g nv bv rv sv Z z w' := by
  have hrow := hs.row
  rw [List.length_append, zcs_app, zcs_one] at hrow
  obtain ⟨q, cap, rfl, hcap, hcm⟩ := row_form hrow
  have hZl : ([z] : List Zt).length = 1 := rfl
  have hlow := row_less (m := 1) hrow (zcs_len Z)
  have hgl := (Array.getElem?_eq_some_iff.1 hc).1
  have hqg : q ≠ g := fun e => hs.ng (by rw [e]; rfl)
  have hql := (hs.row.lt q rfl).2
  have key : ∀ j u, j < 4 → (zc z)[j]? = some u → w.cell? ⟨q, Z.length * 4 + j, none⟩ = some u := fun j u hj hu => by
    rw [hrow.cellAt (Z.length * 4 + j) (by omega), List.getElem?_append_right (by rw [zcs_len]; omega), zcs_len, show Z.length * 4 + j - Z.length * 4 = j by omega]
    exact hu
  have bA := alloc_below w (.cells ztC 33)
  have rA := heap_alloc_last w (.cells ztC 33)
  have p0 := (Below.cell (p := ⟨q, Z.length * 4, none⟩) bA hql).trans (key 0 _ (by omega) rfl)
  have p1 := (Below.cell (p := ⟨q, Z.length * 4 + 1, none⟩) bA hql).trans (key 1 _ (by omega) rfl)
  have p2 := (Below.cell (p := ⟨q, Z.length * 4 + 2, none⟩) bA hql).trans (key 2 _ (by omega) rfl)
  have p3 := (Below.cell (p := ⟨q, Z.length * 4 + 3, none⟩) bA hql).trans (key 3 _ (by omega) rfl)
  have mA := Below.heap bA hgl hc
  have m3 := cell_of_row _ _ 3 _ _ _ mA
  simp only [List.getElem?_toArray, List.getElem?_cons_zero, List.getElem?_cons_succ] at m3
  have HW := hide (And.intro hc (And.intro hs (And.intro hlow (And.intro hqg hgl))))
  have HA := hide (And.intro bA (And.intro rA mA))
  have hix : ∀ w_, (Instr.indexAt 26 (.slice (some ⟨q, 0, none⟩) (Z.length + 1) cap) (.int .i64 (Z.length : Int))).run Tryz.prog w_ = .ok (.pointer (some ⟨q, Z.length * 4, none⟩)) w_ := fun w_ => by
    have := ix_terms w_ q 0 (Z.length + 1) cap Z.length (by omega)
    rwa [Nat.zero_add] at this
  have hsub : ((Z.length + 1 : Nat) : Int) - 1 = (Z.length : Int) := by omega
  have hcl : ¬ ((cap : Int) < (Z.length : Int)) := by omega
  have hcn : ¬ (cap < Z.length) := by omega
  clear hc hs hrow hlow hqg hgl key bA rA mA hql
  go_enter Tryz.func33, Tryz.ntmps33
  go_upto_region 3 with fail
  obtain ⟨bb, rz, r0⟩ := box2 w ztC (tvC z.1 z.2.1 z.2.2) 33 33
  have mB := Below.heap bb HW.out.2.2.2.2 HW.out.1
  have HB := hide (And.intro bb (And.intro rz r0))
  obtain ⟨u0, f0⟩ := row_reads mB
  have n3 := u0 3
  have f3 := f0 3
  simp only [List.getElem?_toArray, List.getElem?_cons_zero, List.getElem?_cons_succ] at n3
  have hsl := upto_terms q Z.length 1 cap (by omega)
  clear u0 f0 mB bb rz r0 p0 p1 p2 p3 m3 HA
  generalize ((w.alloc (.cells ztC 33)).alloc (.cells (tvC z.1 z.2.1 z.2.2) 33)) = W2 at *
  go_upto_region 4 with fail
  have rz := (Below.heap_setCell W2 ⟨g, 3, none⟩ (.slice (some ⟨q, 0, none⟩) Z.length cap) (w.heap.size + 1) (by have := HW.out.2.2.2.2; show w.heap.size + 1 ≠ g; omega)).trans HB.out.2.1
  have r0 := (Below.heap_setCell W2 ⟨g, 3, none⟩ (.slice (some ⟨q, 0, none⟩) Z.length cap) w.heap.size (by have := HW.out.2.2.2.2; show w.heap.size ≠ g; omega)).trans HB.out.2.2
  have HD := hide (pop_done HW.out.1 HW.out.2.1 HW.out.2.2.1 HW.out.2.2.2.1 HB.out.1 (tvC z.1 z.2.1 z.2.2))
  clear n3 f3 hsl
  generalize W2.setCell ⟨g, 3, none⟩ (.slice (some ⟨q, 0, none⟩) Z.length cap) = W3 at *
  have A0 := cell_of_row _ _ 0 _ _ _ rz
  have A1 := cell_of_row _ _ 1 _ _ _ rz
  have A2 := cell_of_row _ _ 2 _ _ _ rz
  have A3 := cell_of_row _ _ 3 _ _ _ rz
  simp only [List.getElem?_toArray, List.getElem?_cons_zero, List.getElem?_cons_succ] at A0 A1 A2 A3
  go_wp2_with (refine wpList_store_row rfl 33 (.tmp 2) (.tmp 27) rfl w.heap.size (tvC z.1 z.2.1 z.2.2) rfl rfl 33 ztC r0 (by kernel_rfl) rfl (by kernel_rfl) ?_)
  refine bodyPost_ret_by (results_cell_row rfl _ _ w.heap.size 33 _ (0, 0) _ rfl (setRow_heap _ _ _ _ _ _ r0) Tryz.underlying33 rfl (by kernel_rfl)) rfl ?_
  exact ⟨rfl, HD.out⟩
end Go.Proofs.YteiacgpaocnofaaGreat
/- The machine's steps: a term is put, an operation of one side done, of two. -/
namespace Go.Proofs.YteiacgpaocnofaaGreat
open Go.RowKit
/-- The stack's terms, the upmost first. -/
def stkL (Z : List Zt) : List Tm := (Z.map (·.1)).reverse
theorem lkR_no {o : Option Tm} {q : Tm} (h : lkR o q false) : o = none := by cases o with | none => rfl | some t => cases h.2
theorem lkR_yes {o : Option Tm} {q : Tm} (h : lkR o q true) : o = some q := by cases o with | none => cases h.2 | some t => rw [h.1]
theorem stkL_push (Z : List Zt) (z : Zt) : stkL (Z ++ [z]) = z.1 :: stkL Z := by simp [stkL]
theorem stkL_len (Z : List Zt) : (stkL Z).length = Z.length := by simp [stkL]
theorem stkL_nil : stkL [] = [] := rfl
/-- A stack that is not empty. -/
theorem stk_top {Z : List Zt} (h : 0 < Z.length) : ∃ Y z, Z = Y ++ [z] := by
  rcases List.eq_nil_or_concat Z with h1 | ⟨Y, z, h1⟩
  · subst h1; simp at h
  · exact ⟨Y, z, by simpa using h1⟩
/-- Where a machine's bindings are. -/
structure Bd where
  nl : List ByteArray
  na : Option Addr
  nc : Nat
  tl : List Tm
  ta : Option Addr
  tc : Nat
abbrev Bd.nv (b : Bd) : Value := .slice b.na b.nl.length b.nc
abbrev Bd.tv (b : Bd) : Value := .slice b.ta b.tl.length b.tc
/-- A machine at work: these operations are still to be done, these terms lie on its stack. -/
structure MS (W0 : World) (b : Bd) (g : Nat) (w : World) (l : List Ox) (ra : Option Addr) (rc : Nat) (sv : Value) (Z : List Zt) : Prop where
  bel : Below W0.heap.size W0 w
  low : W0.heap.size ≤ g
  cell : w.heap[g]? = some (.cells #[b.nv, b.tv, .slice ra l.length rc, sv] 56 (0, 0))
  ops : OAt W0 l ra rc
  stk : StkAt W0.heap.size w g sv Z
theorem MS.lt {W0 w : World} {b : Bd} {g : Nat} {l : List Ox} {ra : Option Addr} {rc : Nat} {sv : Value} {Z : List Zt} (h : MS W0 b g w l ra rc sv Z) : g < w.heap.size := (Array.getElem?_eq_some_iff.1 h.cell).1
theorem MS.ext {W0 w w' : World} {b : Bd} {g : Nat} {l : List Ox} {ra : Option Addr} {rc : Nat} {sv : Value} {Z : List Zt} (h : MS W0 b g w l ra rc sv Z) (he : Below w.heap.size w w') : MS W0 b g w' l ra rc sv Z :=
  ⟨Below.chain h.bel he, h.low, Below.heap he h.lt h.cell, h.ops, h.stk.ext he⟩
/-- What a step answers. -/
def StepA (W0 : World) (b : Bd) (g : Nat) (w : World) (x : Ox) (r : List Ox) (sv : Value) (Z : List Zt) (e : Ending) (w' : World) : Prop :=
  ∃ E r1 ra1 rc1 sv1 Z1, e = .returned (.int .i64 E) ∧ stepR (lkT b.nl b.tl) x r (stkL Z) r1 (if E = 0 then stkL Z1 else []) E ∧ (E = 0 → MS W0 b g w' r1 ra1 rc1 sv1 Z1 ∧ Mv g w sv w' sv1) ∧ Below W0.heap.size W0 w'
/-- A term of memory that was there may be put. -/
theorem MS.okz {W0 w : World} {b : Bd} {g : Nat} {l : List Ox} {ra : Option Addr} {rc : Nat} {sv : Value} {Z : List Zt} (h : MS W0 b g w l ra rc sv Z) {t : Tm} {a : Option Addr} {c : Nat} (ht : TAt W0 t a c) (hf : fixT t = true) : Okz w g sv (t, a, c) :=
  ⟨ht.ext h.bel, hf, fun hne => by
    obtain ⟨bb, o, e, hb⟩ := ht.old hne
    have hl := h.low
    exact ⟨bb, o, e, Nat.lt_of_lt_of_le hb h.bel.size, by omega, fun e2 => by have := h.stk.le _ e2; omega⟩⟩
/-- What a push leaves. -/
theorem MS.pushed {W0 w w' : World} {b : Bd} {g : Nat} {l : List Ox} {ra : Option Addr} {rc : Nat} {sv : Value} {Z : List Zt} {z : Zt} (h : MS W0 b g w l ra rc sv Z) (hp : PuD W0.heap.size w g b.nv b.tv (.slice ra l.length rc) sv Z z w') : ∃ sv', MS W0 b g w' l ra rc sv' (Z ++ [z]) ∧ Mv g w sv w' sv' := by
  obtain ⟨sv', h1, h2, h3⟩ := hp
  exact ⟨sv', ⟨h.bel.trans (h3.below h.low h.stk.le h.bel.size), h.low, h1, h.ops, h2⟩, h3⟩
theorem MS.popped {W0 w w' : World} {b : Bd} {g : Nat} {l : List Ox} {ra : Option Addr} {rc : Nat} {sv : Value} {Z : List Zt} {z : Zt} (h : MS W0 b g w l ra rc sv (Z ++ [z])) (hp : PoD W0.heap.size w g b.nv b.tv (.slice ra l.length rc) sv Z z w') : ∃ sv', MS W0 b g w' l ra rc sv' Z ∧ Mv g w sv w' sv' ∧ Okz w' g sv' z := by
  obtain ⟨sv', h1, h2, h3, h4⟩ := hp
  exact ⟨sv', ⟨h.bel.trans (h3.below h.low h.stk.le h.bel.size), h.low, h1, h.ops, h2⟩, h3, h4⟩
theorem fill4 {w3 : World} {P : Nat} {q : Tm} {qa : Option Addr} {qc : Nat} (h : w3.heap[P]? = some (.cells ztC 33 (0, 0))) : ((((w3.setCell ⟨P, 0, none⟩ (.int .i64 q.k)).setCell ⟨P, 1, none⟩ (.int .i64 q.n)).setCell ⟨P, 2, none⟩ (.string q.s)).setCell ⟨P, 3, none⟩ (.slice qa q.l.length qc)).heap[P]? = some (.cells (tvC q qa qc) 33 (0, 0)) := by
  have h0 : (w3.setCell ⟨P, 0, none⟩ (.int .i64 q.k)).heap[P]? = some (.cells #[.int .i64 q.k, .int .i64 0, .string ⟨#[]⟩, .slice none 0 0] 33 (0, 0)) := heap_setCell_same _ _ _ _ _ _ h
  have h1 : ((w3.setCell ⟨P, 0, none⟩ (.int .i64 q.k)).setCell ⟨P, 1, none⟩ (.int .i64 q.n)).heap[P]? = some (.cells #[.int .i64 q.k, .int .i64 q.n, .string ⟨#[]⟩, .slice none 0 0] 33 (0, 0)) := heap_setCell_same _ _ _ _ _ _ h0
  have h2 : (((w3.setCell ⟨P, 0, none⟩ (.int .i64 q.k)).setCell ⟨P, 1, none⟩ (.int .i64 q.n)).setCell ⟨P, 2, none⟩ (.string q.s)).heap[P]? = some (.cells #[.int .i64 q.k, .int .i64 q.n, .string q.s, .slice none 0 0] 33 (0, 0)) := heap_setCell_same _ _ _ _ _ _ h1
  exact heap_setCell_same _ _ _ _ _ _ h2
variable {W0 w : World} {b : Bd} {g : Nat} {x : Ox} {xa : Option Addr} {xc : Nat} {r : List Ox} {ra : Option Addr} {rc : Nat} {sv : Value} {Z : List Zt}
set_option maxRecDepth 100000 in
set_option maxHeartbeats 8000000 in
theorem put_term (h : MS W0 b g w r ra rc sv Z) (hx : TAt W0 x.t xa xc) (ho : isOpB x = true) (hk : x.kd = 1) (hv : x.t.k ≠ 1) (hn : Z.length ≤ 40) : Calls Tryz.prog 76 #[.pointer (some ⟨g, 0, none⟩), ov x xa xc] w (StepA W0 b g w x r sv Z) := by
  have bA := alloc_below w (.cells (ovC x xa xc) 48)
  have rA := heap_alloc_last w (.cells (ovC x xa xc) 48)
  have h2 := h.ext bA
  have hfix : fixT x.t = true := by unfold fixT; rw [(op_1 ho hk).1]; simpa using hv
  have HP := hide (push_any (z := (x.t, xa, xc)) h2.cell h2.stk (h2.okz hx hfix) (by omega) h2.bel.size)
  have HM := hide (And.intro h2 (And.intro (Mv.ext (g := g) (s := sv) bA) (And.intro hk hv)))
  have d1 : (x.t.k != 1) = true := by simpa using hv
  have A1 := cell_of_row _ _ 1 _ _ _ rA
  have A2 := cell_of_row _ _ 2 _ _ _ rA
  have A3 := cell_of_row _ _ 3 _ _ _ rA
  have A4 := cell_of_row _ _ 4 _ _ _ rA
  simp only [List.getElem?_toArray, List.getElem?_cons_zero, List.getElem?_cons_succ] at A1 A2 A3 A4
  clear bA rA h2 hfix h hx ho hk hv hn
  unfold ov
  unfold tv at HP
  go_enter Tryz.func76, Tryz.ntmps76
  go_wp2_with fail
  refine HP.out.mono ?_
  rintro e_ w1 ⟨rfl, hp⟩
  obtain ⟨sv1, m1, v1⟩ := HM.out.1.pushed hp
  have HF := hide (And.intro m1 (HM.out.2.1.trans v1))
  clear hp m1 v1
  go_wp2
  go_ret
  refine ⟨0, r, ra, rc, sv1, _, rfl, ?_, fun _ => HF.out, HF.out.1.bel⟩
  unfold stepR
  rw [if_pos HM.out.2.2.1, if_neg HM.out.2.2.2, if_pos rfl, stkL_push]
  exact ⟨rfl, rfl, rfl⟩
set_option maxRecDepth 100000 in
set_option maxHeartbeats 8000000 in
theorem put_var (h : MS W0 b g w r ra rc sv Z) (hb : BAt W0 b.nl b.na b.nc b.tl b.ta b.tc) (hm : Mb b.nl b.tl) (hk : x.kd = 1) (hv : x.t.k = 1) (hn : Z.length ≤ 40) : Calls Tryz.prog 76 #[.pointer (some ⟨g, 0, none⟩), ov x xa xc] w (StepA W0 b g w x r sv Z) := by
  have bA := alloc_below w (.cells (ovC x xa xc) 48)
  have rA := heap_alloc_last w (.cells (ovC x xa xc) 48)
  have h2 := h.ext bA
  have HFn := hide (show ∀ W, Below W0.heap.size W0 W → Calls Tryz.prog 37 #[.agg #[b.nv, b.tv], .string x.t.s] W (FindA (lkT b.nl b.tl x.t.s) W0 W) from fun W hW => find_any hb hW hm x.t.s)
  have HFX := hide (show ∀ t, lkT b.nl b.tl x.t.s = some t → fixT t = true from fun t ht => hm.fix (lk_mem ht).1)
  have HM := hide (And.intro h2 (And.intro (Mv.ext (g := g) (s := sv) bA) (And.intro hk hv)))
  have d1 : (x.t.k != 1) = false := by simpa using hv
  have A1 := cell_of_row _ _ 1 _ _ _ rA
  have A2 := cell_of_row _ _ 2 _ _ _ rA
  have A3 := cell_of_row _ _ 3 _ _ _ rA
  have A4 := cell_of_row _ _ 4 _ _ _ rA
  simp only [List.getElem?_toArray, List.getElem?_cons_zero, List.getElem?_cons_succ] at A1 A2 A3 A4
  have m0 := cell_of_row _ _ 0 _ _ _ h2.cell
  have m1 := cell_of_row _ _ 1 _ _ _ h2.cell
  simp only [List.getElem?_toArray, List.getElem?_cons_zero, List.getElem?_cons_succ] at m0 m1
  have HRA := hide rA
  clear bA rA h2 h hk hv
  unfold ov
  go_enter Tryz.func76, Tryz.ntmps76
  go_upto_region 3 with fail
  generalize w.alloc (.cells (ovC x xa xc) 48) = w2 at *
  have HB := hide HM.out.1.bel
  have rX := Below.heap (alloc_below w2 (.cells ztC 33)) (Array.getElem?_eq_some_iff.1 HRA.out).1 HRA.out
  have rM := Below.heap (alloc_below w2 (.cells ztC 33)) HM.out.1.lt HM.out.1.cell
  have x3 := cell_of_row _ _ 3 _ _ _ rX
  have n0 := cell_of_row _ _ 0 _ _ _ rM
  have n1 := cell_of_row _ _ 1 _ _ _ rM
  simp only [List.getElem?_toArray, List.getElem?_cons_zero, List.getElem?_cons_succ] at x3 n0 n1
  clear rX rM
  go_region_with (go_at_call 37; refine (HFn.out _ (by first | exact Below.drew HB.out | exact Below.drew (Below.chain HB.out (alloc_below _ _)) | exact Below.chain (Below.drew HB.out) (alloc_below _ _))).mono ?_; rintro e_ w3 ⟨q, qa, qc, f, rfl, hq, hl, b3⟩; have BB : Below w2.heap.size w2 w3 := (by first | exact Below.chain (Below.refl _ _).drew b3 | exact Below.chain (Below.drew (Below.chain (Below.refl _ _) (alloc_below _ _))) b3 | exact Below.chain (Below.chain (Below.refl _ _).drew (alloc_below _ _)) b3); unfold tv; try (have R5 := Below.heap b3 (Array.getElem?_eq_some_iff.1 (heap_alloc_last w2 (.cells ztC 33))).1 (heap_alloc_last w2 (.cells ztC 33)); obtain ⟨u0, f0⟩ := row_reads R5; have c0 := u0 0; have c1 := u0 1; have c2 := u0 2; have c3 := u0 3; have g0 := f0 0; have g1 := f0 1; have g2 := f0 2; have g3 := f0 3; simp only [List.getElem?_toArray, List.getElem?_cons_zero, List.getElem?_cons_succ] at c0 c1 c2 c3; clear u0 f0))
  all_goals
    simp only [Act.put, List.setIfInBounds_toArray]
    first
      | (have hP := fill4 (q := q) (qa := qa) (qc := qc) R5; have hW := Below.setCell (p := ⟨w2.heap.size, 3, none⟩) (Below.setCell (p := ⟨w2.heap.size, 2, none⟩) (Below.setCell (p := ⟨w2.heap.size, 1, none⟩) (Below.setCell (p := ⟨w2.heap.size, 0, none⟩) BB (Nat.le_refl _) (.int .i64 q.k)) (Nat.le_refl _) (.int .i64 q.n)) (Nat.le_refl _) (.string q.s)) (Nat.le_refl _) (.slice qa q.l.length qc); clear c0 c1 c2 c3 g0 g1 g2 g3 R5; show Exit.then _ _ _ _ ((((w3.setCell ⟨w2.heap.size, 0, none⟩ (.int .i64 q.k)).setCell ⟨w2.heap.size, 1, none⟩ (.int .i64 q.n)).setCell ⟨w2.heap.size, 2, none⟩ (.string q.s)).setCell ⟨w2.heap.size, 3, none⟩ (.slice qa q.l.length qc)); generalize (((w3.setCell ⟨w2.heap.size, 0, none⟩ (.int .i64 q.k)).setCell ⟨w2.heap.size, 1, none⟩ (.int .i64 q.n)).setCell ⟨w2.heap.size, 2, none⟩ (.string q.s)).setCell ⟨w2.heap.size, 3, none⟩ (.slice qa q.l.length qc) = W4 at *)
      | (have hP := heap_alloc_last w3 (.cells (tvC q qa qc) 33); have hW := Below.chain BB (alloc_below w3 (.cells (tvC q qa qc) 33)); generalize w3.alloc (.cells (tvC q qa qc) 33) = W4 at *; generalize w3.heap.size = P at *)
    have e0 := cell_of_row _ _ 0 _ _ _ hP
    have e1 := cell_of_row _ _ 1 _ _ _ hP
    have e2 := cell_of_row _ _ 2 _ _ _ hP
    have e3 := cell_of_row _ _ 3 _ _ _ hP
    replace e0 : _ = some (Value.int .i64 q.k) := e0
    replace e1 : _ = some (Value.int .i64 q.n) := e1
    replace e2 : _ = some (Value.string q.s) := e2
    replace e3 : _ = some (Value.slice qa q.l.length qc) := e3
    have HZ := hide (And.intro (HM.out.1.ext hW) (And.intro (HM.out.2.1.trans (.ext hW)) (And.intro hq hl)))
    clear hP hW BB b3 hq hl A1 A2 A3 A4 m0 m1 x3 n0 n1 HRA
    cases f with
    | false =>
      go_wp2
      go_ret
      refine ⟨8, r, ra, rc, sv, Z, rfl, ?_, fun e => absurd e (by decide), HZ.out.1.bel⟩
      unfold stepR
      rw [if_pos HM.out.2.2.1, if_pos HM.out.2.2.2, lkR_no HZ.out.2.2.2, if_neg (by decide)]
      exact ⟨rfl, rfl, rfl⟩
    | true =>
      have hlk := lkR_yes HZ.out.2.2.2
      have HP := hide (push_any (z := (q, qa, qc)) HZ.out.1.cell HZ.out.1.stk (HZ.out.1.okz HZ.out.2.2.1 (HFX.out q hlk)) (by omega) HZ.out.1.bel.size)
      unfold tv at HP
      have HK := hide hlk
      clear hlk
      go_wp2_with fail
      refine HP.out.mono ?_
      rintro e_ w5 ⟨rfl, hp⟩
      obtain ⟨sv1, m1, v1⟩ := HZ.out.1.pushed hp
      have HF := hide (And.intro m1 (HZ.out.2.1.trans v1))
      clear hp m1 v1
      go_wp2
      go_ret
      refine ⟨0, r, ra, rc, sv1, _, rfl, ?_, fun _ => HF.out, HF.out.1.bel⟩
      unfold stepR
      rw [if_pos HM.out.2.2.1, if_pos HM.out.2.2.2, HK.out, if_pos rfl, stkL_push]
      exact ⟨rfl, rfl, rfl⟩
end Go.Proofs.YteiacgpaocnofaaGreat
/- The machine's steps: operations of one side, of two, lazy ones. -/
namespace Go.Proofs.YteiacgpaocnofaaGreat
open Go.RowKit
variable {W0 w : World} {b : Bd} {g : Nat} {x : Ox} {xa : Option Addr} {xc : Nat} {r : List Ox} {ra : Option Addr} {rc : Nat} {sv : Value} {Z : List Zt}
/-- A result of its own may be put. -/
theorem MS.fresh {w' : World} (h : MS W0 b g w r ra rc sv Z) {t : Tm} {a : Option Addr} {c : Nat} (ht : TAt w' t a c) (hf : fixT t = true) (hr : FreA w.heap.size t a) : Okz w' g sv (t, a, c) :=
  ⟨ht, hf, fun hne => by
    obtain ⟨bb, o, e, hb⟩ := hr hne
    obtain ⟨b2, o2, e2, hb2⟩ := ht.old hne
    rw [e] at e2
    injection e2 with e2
    injection e2 with e2 _ _
    subst e2
    have hl := h.lt
    exact ⟨bb, o, e, hb2, by omega, fun e2 => by have := (h.stk.row.lt _ e2).2; omega⟩⟩
theorem MS.flat (h : MS W0 b g w r ra rc sv Z) {t : Tm} (ht : Fl t) (hf : fixT t = true) : Okz w g sv (t, none, 0) := by
  have _ := h.bel
  exact ⟨ht.at w, hf, fun hne => absurd ht.1 hne⟩
/-- A pop behind a draw. -/
theorem pop_drew {Y : List Zt} {z : Zt} (h : MS W0 b g w r ra rc sv (Y ++ [z])) (hn : Y.length ≤ 50) : Calls Tryz.prog 33 #[.pointer (some ⟨g, 0, none⟩)] w.drew fun e w' => e = .returned (tv z.1 z.2.1 z.2.2) ∧ PoD W0.heap.size w g b.nv b.tv (.slice ra r.length rc) sv Y z w' := by
  have hd := h.ext (Below.drew (Below.refl w.heap.size w))
  refine (pop_any (Z := Y) (z := z) hd.cell hd.stk hn).mono ?_
  rintro e w' ⟨he, sv', p1, p2, p3, p4⟩
  exact ⟨he, sv', p1, p2, (Mv.ext (Below.drew (Below.refl w.heap.size w))).trans p3, p4⟩
set_option maxRecDepth 100000 in
set_option maxHeartbeats 8000000 in
theorem unary_ok {Y : List Zt} {z : Zt} (h : MS W0 b g w r ra rc sv (Y ++ [z])) (hk : x.kd = 2) (hn : Y.length ≤ 40) (hE : (unF x.cd z.1).2 = 0) : Calls Tryz.prog 77 #[.pointer (some ⟨g, 0, none⟩), ov x xa xc] w (StepA W0 b g w x r sv (Y ++ [z])) := by
  obtain ⟨U, EU, hU⟩ : ∃ U EU, unF x.cd z.1 = (U, EU) := ⟨_, _, rfl⟩
  rw [hU] at hE
  have bA := alloc_below w (.cells (ovC x xa xc) 48)
  have rA := heap_alloc_last w (.cells (ovC x xa xc) 48)
  have h2 := h.ext bA
  have HM := hide (And.intro h2 (And.intro (Mv.ext (g := g) (s := sv) bA) (And.intro hk rA)))
  have A5 := cell_of_row _ _ 5 _ _ _ rA
  simp only [List.getElem?_toArray, List.getElem?_cons_zero, List.getElem?_cons_succ] at A5
  have hwg : w.heap.size ≠ g := by have := h.lt; omega
  have hws : sv.ownBlock ≠ some w.heap.size := fun e => by have := (h.stk.row.lt _ e).2; omega
  have HWG := hide (And.intro hwg hws)
  have HU := hide hU
  have e0 : EU = 0 := hE
  clear hE
  have HUA := hide (show ∀ W, TAt W z.1 z.2.1 z.2.2 → Calls Tryz.prog 105 #[.int .i64 x.cd, tv z.1 z.2.1 z.2.2] W (OpF U EU W) ∧ Fl U from fun W hW => by have := Un_any (w := W) x.cd hW; rwa [hU] at this)
  have HG := hide (show GoodR U EU from by have := un_F_good x.cd z.1; rwa [hU] at this)
  clear bA rA h2 h hk hwg hws hU
  subst e0
  unfold ov
  go_enter Tryz.func77, Tryz.ntmps77
  go_upto_region 1 with fail
  generalize w.alloc (.cells (ovC x xa xc) 48) = w2 at *
  have mixed : Tryz.prog.follows .mixedOrders = true := by kernel_rfl
  have HPopD := hide (pop_drew HM.out.1 (by omega))
  go_region_with (first | (go_at_call 33; refine HPopD.out.mono ?_; rintro e_ w3 ⟨rfl, hp⟩; obtain ⟨sv3, m3, v3, z3⟩ := HM.out.1.popped hp; have R3 := (v3.block w.heap.size (Array.getElem?_eq_some_iff.1 HM.out.2.2.2).1 HWG.out.1 HWG.out.2).trans HM.out.2.2.2; have B5 := cell_of_row _ _ 5 _ _ _ R3; simp only [List.getElem?_toArray, List.getElem?_cons_zero, List.getElem?_cons_succ] at B5; have H3 := hide (And.intro m3 (HM.out.2.1.trans v3)); have HUB := hide (HUA.out w3 z3.at_); clear hp m3 v3 z3 R3; unfold tv at HUB ⊢) | (go_at_call 105; refine HUB.out.1.mono ?_; rintro e_ w4 ⟨rfl, b4⟩; have H4 := hide (And.intro (H3.out.1.ext b4) (H3.out.2.trans (.ext b4))); clear b4; have HPs := hide (push_any (z := (U, none, 0)) H4.out.1.cell H4.out.1.stk (H4.out.1.flat HUB.out.2 (HG.out.1 rfl)) (by omega) H4.out.1.bel.size); unfold tv at HPs ⊢) | (go_at_call 104; refine HPs.out.mono ?_; rintro e_ w5 ⟨rfl, hp⟩; obtain ⟨sv5, m5, v5⟩ := H4.out.1.pushed hp; have H5 := hide (And.intro m5 (H4.out.2.trans v5)); clear hp m5 v5))
  all_goals
    go_wp2
    go_ret
    refine ⟨0, r, ra, rc, sv5, _, rfl, ?_, fun _ => H5.out, H5.out.1.bel⟩
    unfold stepR
    rw [if_neg (by rw [HM.out.2.2.1]; decide), if_pos HM.out.2.2.1, stkL_push, if_pos rfl, stkL_push]
    exact ⟨rfl, z.1, stkL Y, rfl, by rw [HU.out], by rw [if_pos rfl, HU.out]⟩
set_option maxRecDepth 100000 in
set_option maxHeartbeats 8000000 in
theorem unary_bad {Y : List Zt} {z : Zt} (h : MS W0 b g w r ra rc sv (Y ++ [z])) (hk : x.kd = 2) (hn : Y.length ≤ 40) (hE : (unF x.cd z.1).2 ≠ 0) : Calls Tryz.prog 77 #[.pointer (some ⟨g, 0, none⟩), ov x xa xc] w (StepA W0 b g w x r sv (Y ++ [z])) := by
  obtain ⟨U, EU, hU⟩ : ∃ U EU, unF x.cd z.1 = (U, EU) := ⟨_, _, rfl⟩
  rw [hU] at hE
  have bA := alloc_below w (.cells (ovC x xa xc) 48)
  have rA := heap_alloc_last w (.cells (ovC x xa xc) 48)
  have h2 := h.ext bA
  have HM := hide (And.intro h2 (And.intro (Mv.ext (g := g) (s := sv) bA) (And.intro hk rA)))
  have A5 := cell_of_row _ _ 5 _ _ _ rA
  simp only [List.getElem?_toArray, List.getElem?_cons_zero, List.getElem?_cons_succ] at A5
  have hwg : w.heap.size ≠ g := by have := h.lt; omega
  have hws : sv.ownBlock ≠ some w.heap.size := fun e => by have := (h.stk.row.lt _ e).2; omega
  have HWG := hide (And.intro hwg hws)
  have HU := hide hU
  have HE := hide (show EU ≠ 0 from hE)
  have HUA := hide (show ∀ W, TAt W z.1 z.2.1 z.2.2 → Calls Tryz.prog 105 #[.int .i64 x.cd, tv z.1 z.2.1 z.2.2] W (OpF U EU W) ∧ Fl U from fun W hW => by have := Un_any (w := W) x.cd hW; rwa [hU] at this)
  clear bA rA h2 h hk hwg hws hU hE
  unfold ov
  go_enter Tryz.func77, Tryz.ntmps77
  go_upto_region 1 with fail
  generalize w.alloc (.cells (ovC x xa xc) 48) = w2 at *
  have mixed : Tryz.prog.follows .mixedOrders = true := by kernel_rfl
  have HPopD := hide (pop_drew HM.out.1 (by omega))
  go_region_with (first | (go_at_call 33; refine HPopD.out.mono ?_; rintro e_ w3 ⟨rfl, hp⟩; obtain ⟨sv3, m3, v3, z3⟩ := HM.out.1.popped hp; have R3 := (v3.block w.heap.size (Array.getElem?_eq_some_iff.1 HM.out.2.2.2).1 HWG.out.1 HWG.out.2).trans HM.out.2.2.2; have B5 := cell_of_row _ _ 5 _ _ _ R3; simp only [List.getElem?_toArray, List.getElem?_cons_zero, List.getElem?_cons_succ] at B5; have H3 := hide (And.intro m3 (HM.out.2.1.trans v3)); have HUB := hide (HUA.out w3 z3.at_); clear hp m3 v3 z3 R3; unfold tv at HUB ⊢) | (go_at_call 105; refine HUB.out.1.mono ?_; rintro e_ w4 ⟨rfl, b4⟩; have H4 := hide (And.intro (H3.out.1.ext b4) (H3.out.2.trans (.ext b4))); clear b4; have HPs := hide (push_bad (g := g) (z := (U, none, 0)) (w := w4) HE.out); unfold tv at HPs ⊢) | (go_at_call 104; refine HPs.out.mono ?_; rintro e_ w5 ⟨rfl, hp⟩; have H5 := hide (H4.out.1.ext hp); clear hp))
  all_goals
    go_wp2
    go_ret
    refine ⟨EU, r, ra, rc, sv3, Y, rfl, ?_, fun e => absurd e HE.out, H5.out.bel⟩
    unfold stepR
    rw [if_neg (by rw [HM.out.2.2.1]; decide), if_pos HM.out.2.2.1, stkL_push, if_neg HE.out]
    exact ⟨rfl, z.1, stkL Y, rfl, by rw [HU.out], by rw [if_neg HE.out]⟩
end Go.Proofs.YteiacgpaocnofaaGreat
/- The machine's steps: operations of two sides. -/
namespace Go.Proofs.YteiacgpaocnofaaGreat
open Go.RowKit
variable {W0 w : World} {b : Bd} {g : Nat} {x : Ox} {xa : Option Addr} {xc : Nat} {r : List Ox} {ra : Option Addr} {rc : Nat} {sv : Value} {Z : List Zt}
/-- A block that is neither the machine's nor the stack's stays. -/
theorem MS.keeps {w' : World} {l : List Ox} {sv' : Value} (h : MS W0 b g w l ra rc sv Z) (m : Mv g w sv w' sv') {P : Nat} {o : Obj} (hP : w.heap[P]? = some o) (h1 : P ≠ g) (h2 : sv.ownBlock ≠ some P) : w'.heap[P]? = some o := by
  have _ := h.bel
  exact (m.block P (Array.getElem?_eq_some_iff.1 hP).1 h1 h2).trans hP
theorem MS.new {l : List Ox} (h : MS W0 b g w l ra rc sv Z) : w.heap.size ≠ g ∧ sv.ownBlock ≠ some w.heap.size := ⟨by have := h.lt; omega, fun e => by have := (h.stk.row.lt _ e).2; omega⟩
theorem Mv.new {w' : World} {sv' : Value} (m : Mv g w sv w' sv') {P : Nat} (hP : P < w.heap.size) (h : sv.ownBlock ≠ some P) : sv'.ownBlock ≠ some P := fun e => by
  rcases m.own P e with e1 | e1
  · exact h e1
  · omega
set_option maxRecDepth 100000 in
set_option maxHeartbeats 8000000 in
theorem binary_any {Y : List Zt} {za zb : Zt} (hM : MaxL W0) (h : MS W0 b g w r ra rc sv (Y ++ [za] ++ [zb])) (hk : x.kd = 3) (hn : Y.length ≤ 40) : Calls Tryz.prog 78 #[.pointer (some ⟨g, 0, none⟩), ov x xa xc] w (StepA W0 b g w x r sv (Y ++ [za] ++ [zb])) := by
  have bA := alloc_below w (.cells (ovC x xa xc) 48)
  have rA := heap_alloc_last w (.cells (ovC x xa xc) 48)
  have h2 := h.ext bA
  have hw := h.new
  have HM := hide (And.intro h2 (And.intro (Mv.ext (g := g) (s := sv) bA) (And.intro hk (And.intro rA hw))))
  have HML := hide hM
  have hlen : (Y ++ [za]).length ≤ 50 := by rw [List.length_append, List.length_singleton]; omega
  have HP := hide (pop_any h2.cell h2.stk hlen)
  clear bA rA h2 h hk hw hM hlen
  unfold ov
  go_enter Tryz.func78, Tryz.ntmps78
  go_wp2_with fail
  refine HP.out.mono ?_
  rintro e_ w3 ⟨rfl, hp⟩
  obtain ⟨sv3, m3, v3, z3⟩ := HM.out.1.popped hp
  have R3 := HM.out.1.keeps v3 HM.out.2.2.2.1 HM.out.2.2.2.2.1 HM.out.2.2.2.2.2
  have hs3 := v3.new (Array.getElem?_eq_some_iff.1 HM.out.2.2.2.1).1 HM.out.2.2.2.2.2
  have bB := alloc_below w3 (.cells (tvC zb.1 zb.2.1 zb.2.2) 33)
  have r4 := heap_alloc_last w3 (.cells (tvC zb.1 zb.2.1 zb.2.2) 33)
  have m4 := m3.ext bB
  have hw3 := m3.new
  have HP2 := hide (pop_any m4.cell m4.stk (by omega))
  have H4 := hide (And.intro m4 (And.intro (HM.out.2.1.trans (v3.trans (.ext bB))) (And.intro (Below.heap bB (Array.getElem?_eq_some_iff.1 R3).1 R3) (And.intro r4 (And.intro (z3.mv (.ext bB)) (And.intro hs3 hw3))))))
  clear hp m3 v3 z3 R3 bB r4 m4 hs3 hw3 HP
  unfold tv
  go_wp2_with fail
  refine HP2.out.mono ?_
  rintro e_ w5 ⟨rfl, hp⟩
  obtain ⟨sv5, m5, v5, z5⟩ := H4.out.1.popped hp
  have R5 := H4.out.1.keeps v5 H4.out.2.2.1 HM.out.2.2.2.2.1 H4.out.2.2.2.2.2.1
  have Q5 := H4.out.1.keeps v5 H4.out.2.2.2.1 H4.out.2.2.2.2.2.2.1 H4.out.2.2.2.2.2.2.2
  have bC := alloc_below w5 (.cells (tvC za.1 za.2.1 za.2.2) 33)
  have r6 := heap_alloc_last w5 (.cells (tvC za.1 za.2.1 za.2.2) 33)
  have m6 := m5.ext bC
  have z6b := (H4.out.2.2.2.2.1.mv v5).mv (.ext bC)
  have z6a := z5.mv (Mv.ext (g := g) (s := sv5) bC)
  have R6 := Below.heap bC (Array.getElem?_eq_some_iff.1 R5).1 R5
  have Q6 := Below.heap bC (Array.getElem?_eq_some_iff.1 Q5).1 Q5
  have HB := hide (Bin_any x.cd (HML.out.ext m6.bel) z6a.at_ z6b.at_)
  have H6 := hide (And.intro m6 (And.intro (H4.out.2.1.trans (v5.trans (.ext bC))) (And.intro z6a z6b)))
  have A5 := cell_of_row _ _ 5 _ _ _ R6
  have p0 := cell_of_row _ _ 0 _ _ _ Q6
  have p1 := cell_of_row _ _ 1 _ _ _ Q6
  have p2 := cell_of_row _ _ 2 _ _ _ Q6
  have p3 := cell_of_row _ _ 3 _ _ _ Q6
  have q0 := cell_of_row _ _ 0 _ _ _ r6
  have q1 := cell_of_row _ _ 1 _ _ _ r6
  have q2 := cell_of_row _ _ 2 _ _ _ r6
  have q3 := cell_of_row _ _ 3 _ _ _ r6
  simp only [List.getElem?_toArray, List.getElem?_cons_zero, List.getElem?_cons_succ] at A5 p0 p1 p2 p3 q0 q1 q2 q3
  clear hp m5 v5 z5 R5 Q5 bC r6 m6 z6a z6b R6 Q6 HP2
  unfold tv at HB ⊢
  go_wp2_with fail
  refine HB.out.mono ?_
  rintro e_ w7 ⟨t, ta', tc', E, rfl, ht, hR, _, b7⟩
  have H7 := hide (And.intro (H6.out.1.ext b7) (And.intro (H6.out.2.1.trans (.ext b7)) (And.intro hR.1 (And.intro ht hR.2))))
  clear b7 hR ht A5 p0 p1 p2 p3 q0 q1 q2 q3 HB
  by_cases e0 : E = 0
  · subst e0
    have HPs := hide (push_any (z := (t, ta', tc')) H7.out.1.cell H7.out.1.stk (H6.out.1.fresh H7.out.2.2.2.1 ((bin_R_good H7.out.2.2.1).1 rfl) H7.out.2.2.2.2) (by omega) H7.out.1.bel.size)
    unfold tv at HPs ⊢
    go_wp2_with fail
    refine HPs.out.mono ?_
    rintro e_ w8 ⟨rfl, hp⟩
    obtain ⟨sv8, m8, v8⟩ := H7.out.1.pushed hp
    have H8 := hide (And.intro m8 (H7.out.2.1.trans v8))
    clear hp m8 v8
    go_wp2
    go_ret
    refine ⟨0, r, ra, rc, sv8, _, rfl, ?_, fun _ => H8.out, H8.out.1.bel⟩
    unfold stepR
    rw [if_neg (by rw [HM.out.2.2.1]; decide), if_neg (by rw [HM.out.2.2.1]; decide), if_pos HM.out.2.2.1, stkL_push, stkL_push, if_pos rfl, stkL_push]
    exact ⟨rfl, zb.1, za.1, stkL Y, t, rfl, H7.out.2.2.1, by rw [if_pos rfl]⟩
  · have HPs := hide (push_bad (g := g) (z := (t, ta', tc')) (w := w7) e0)
    have HE := hide e0
    clear e0
    unfold tv at HPs ⊢
    go_wp2_with fail
    refine HPs.out.mono ?_
    rintro e_ w8 ⟨rfl, hp⟩
    have H8 := hide (H7.out.1.ext hp)
    clear hp
    go_wp2
    go_ret
    refine ⟨E, r, ra, rc, sv5, Y, rfl, ?_, fun e => absurd e HE.out, H8.out.bel⟩
    unfold stepR
    rw [if_neg (by rw [HM.out.2.2.1]; decide), if_neg (by rw [HM.out.2.2.1]; decide), if_pos HM.out.2.2.1, stkL_push, stkL_push, if_neg HE.out]
    exact ⟨rfl, zb.1, za.1, stkL Y, t, rfl, H7.out.2.2.1, by rw [if_neg HE.out]⟩
end Go.Proofs.YteiacgpaocnofaaGreat
/- The machine's steps: lazy operations. -/
namespace Go.Proofs.YteiacgpaocnofaaGreat
open Go.RowKit
variable {W0 w : World} {b : Bd} {g : Nat} {x : Ox} {xa : Option Addr} {xc : Nat} {r : List Ox} {ra : Option Addr} {rc : Nat} {sv : Value} {Z : List Zt}
set_option maxRecDepth 100000 in
set_option maxHeartbeats 2000000 in
theorem tru_no {t : Tm} {a : Option Addr} {c : Nat} (w : World) (h6 : t.k ≠ 6) : Calls Tryz.prog 36 #[tv t a c] w fun e w' => e = .returned (.tuple #[.bool false, .int .i64 7]) ∧ Below w.heap.size w w' := by
  have HB := hide (alloc_below w (.cells (tvC t a c) 33))
  have d1 : (t.k != 6) = true := by simpa using h6
  clear h6
  unfold tv
  go_enter Tryz.func36, Tryz.ntmps36
  go_wp2
  go_ret2
  exact ⟨rfl, HB.out⟩
set_option maxRecDepth 100000 in
set_option maxHeartbeats 2000000 in
theorem tru_yes {t : Tm} {a : Option Addr} {c : Nat} (w : World) (h6 : t.k = 6) : Calls Tryz.prog 36 #[tv t a c] w fun e w' => e = .returned (.tuple #[.bool (t.n == 1), .int .i64 0]) ∧ Below w.heap.size w w' := by
  have HB := hide (alloc_below w (.cells (tvC t a c) 33))
  have d1 : (t.k != 6) = false := by simpa using h6
  clear h6
  unfold tv
  go_enter Tryz.func36, Tryz.ntmps36
  go_wp2
  go_ret2
  exact ⟨rfl, HB.out⟩
/-- What a lazy operation answers: d decides, s may be skipped. -/
def LazyA (W0 : World) (b : Bd) (g : Nat) (w : World) (s : Nat) (d : Bool) (r : List Ox) (sv : Value) (Y : List Zt) (z : Zt) (e : Ending) (w' : World) : Prop :=
  ∃ E r1 ra1 rc1 sv1 Z1, e = .returned (.int .i64 E) ∧ (if z.1.k ≠ 6 then E = 7 ∧ r1 = r ∧ Z1 = [] else E = 0 ∧ (if (z.1.n == 1) = d then r1 = r.drop s ∧ stkL Z1 = z.1 :: stkL Y else r1 = r ∧ stkL Z1 = stkL Y)) ∧ (E = 0 → MS W0 b g w' r1 ra1 rc1 sv1 Z1 ∧ Mv g w sv w' sv1) ∧ Below W0.heap.size W0 w'
theorem heap_set2 {w : World} {g : Nat} {a b c d u : Value} {t : TypeId} (h : w.heap[g]? = some (.cells #[a, b, c, d] t (0, 0))) : (w.setCell ⟨g, 2, none⟩ u).heap[g]? = some (.cells #[a, b, u, d] t (0, 0)) := heap_setCell_same _ _ _ _ _ _ h
/-- Other operations are left to be done. -/
theorem MS.skip (h : MS W0 b g w r ra rc sv Z) {r1 : List Ox} {ra1 : Option Addr} {rc1 : Nat} (ho : OAt W0 r1 ra1 rc1) : MS W0 b g (w.setCell ⟨g, 2, none⟩ (.slice ra1 r1.length rc1)) r1 ra1 rc1 sv Z ∧ Mv g w sv (w.setCell ⟨g, 2, none⟩ (.slice ra1 r1.length rc1)) sv := by
  have k1 := sc_keep w ⟨g, 2, none⟩ (.slice ra1 r1.length rc1)
  have hoth : ∀ k, k ≠ g → (w.setCell ⟨g, 2, none⟩ (.slice ra1 r1.length rc1)).heap[k]? = w.heap[k]? := fun k hk => Below.heap_setCell _ ⟨g, 2, none⟩ _ k hk
  have m : Mv g w sv (w.setCell ⟨g, 2, none⟩ (.slice ra1 r1.length rc1)) sv := ⟨k1.1, k1.2.1, k1.2.2.1, Nat.le_of_eq k1.2.2.2.symm, fun k _ h1 _ => hoth k h1, fun _ h => .inl h⟩
  exact ⟨⟨h.bel.trans (m.below h.low h.stk.le h.bel.size), h.low, heap_set2 h.cell, ho, h.stk.mv m fun q hq => hoth q (fun e => h.stk.ng (by rw [hq, e]))⟩, m⟩
set_option maxRecDepth 100000 in
set_option maxHeartbeats 8000000 in
theorem lazy_any {Y : List Zt} {z : Zt} (h : MS W0 b g w r ra rc sv (Y ++ [z])) (hn : Y.length ≤ 40) (s : Nat) (hs : s ≤ r.length) (d : Bool) : Calls Tryz.prog 107 #[.pointer (some ⟨g, 0, none⟩), .int .i64 (s : Int), .bool d] w (LazyA W0 b g w s d r sv Y z) := by
  have HM := hide h
  have HP := hide (pop_any h.cell h.stk (by omega))
  have HS := hide hs
  clear h hs
  go_enter Tryz.func107, Tryz.ntmps107
  go_wp2_with fail
  refine HP.out.mono ?_
  rintro e_ w3 ⟨rfl, hp⟩
  obtain ⟨sv3, m3, v3, z3⟩ := HM.out.popped hp
  have bB := alloc_below w3 (.cells (tvC z.1 z.2.1 z.2.2) 33)
  have r4 := heap_alloc_last w3 (.cells (tvC z.1 z.2.1 z.2.2) 33)
  have m4 := m3.ext bB
  have hw3 := m3.new
  have H4 := hide (And.intro m4 (And.intro (v3.trans (.ext bB)) (And.intro r4 (And.intro (z3.mv (.ext bB)) hw3))))
  have p0 := cell_of_row _ _ 0 _ _ _ r4
  have p1 := cell_of_row _ _ 1 _ _ _ r4
  have p2 := cell_of_row _ _ 2 _ _ _ r4
  have p3 := cell_of_row _ _ 3 _ _ _ r4
  simp only [List.getElem?_toArray, List.getElem?_cons_zero, List.getElem?_cons_succ] at p0 p1 p2 p3
  clear hp m3 v3 z3 bB r4 m4 hw3 HP
  by_cases h6 : z.1.k = 6
  · have HT := hide (tru_yes (a := z.2.1) (c := z.2.2) (w3.alloc (.cells (tvC z.1 z.2.1 z.2.2) 33)) h6)
    have HK := hide h6
    obtain ⟨tr, htr⟩ : ∃ v, (z.1.n == 1) = v := ⟨_, rfl⟩
    rw [htr] at HT
    replace HT := hide HT.out
    have HTR := hide htr
    clear h6 htr
    unfold tv at HT ⊢
    go_wp2_with fail
    refine HT.out.mono ?_
    rintro e_ w5 ⟨rfl, b5⟩
    have H5 := hide (And.intro (H4.out.1.ext b5) (And.intro (H4.out.2.1.trans (.ext b5)) (And.intro (H4.out.2.2.2.1.mv (.ext b5)) (Below.heap b5 (Array.getElem?_eq_some_iff.1 H4.out.2.2.1).1 H4.out.2.2.1))))
    clear b5 p0 p1 p2 p3 HT
    by_cases hd : tr = d
    · have HD := hide hd
      obtain ⟨a1, c1, hsl, ho1⟩ := os_from H5.out.1.ops s HS.out
      have hdl : (r.drop s).length = r.length - s := List.length_drop
      have m2 := cell_of_row _ _ 2 _ _ _ H5.out.1.cell
      simp only [List.getElem?_toArray, List.getElem?_cons_zero, List.getElem?_cons_succ] at m2
      have f2 := (row_reads H5.out.1.cell).2 2
      have HO := hide ho1
      clear ho1
      subst hd
      have HX := hide hdl
      rw [hdl] at hsl
      clear hdl
      go_upto_region 8 with fail
      have HSk := hide (H5.out.1.skip HO.out)
      have hne : w3.heap.size ≠ g := H4.out.2.2.2.2.1
      have r6 := (Below.heap_setCell w5 ⟨g, 2, none⟩ (.slice a1 (r.drop s).length c1) w3.heap.size hne).trans H5.out.2.2.2
      have HPs := hide (push_any (z := z) HSk.out.1.cell HSk.out.1.stk (H5.out.2.2.1.mv HSk.out.2) (by omega) HSk.out.1.bel.size)
      rw [HX.out] at r6 HPs
      clear m2 f2 hsl hne
      obtain ⟨W6, hW6⟩ : ∃ W, w5.setCell ⟨g, 2, none⟩ (.slice a1 (r.length - s) c1) = W := ⟨_, rfl⟩
      rw [hW6] at r6 HPs ⊢
      replace HPs := hide HPs.out
      have HW6 := hide hW6
      clear hW6
      have p0 := cell_of_row _ _ 0 _ _ _ r6
      have p1 := cell_of_row _ _ 1 _ _ _ r6
      have p2 := cell_of_row _ _ 2 _ _ _ r6
      have p3 := cell_of_row _ _ 3 _ _ _ r6
      simp only [List.getElem?_toArray, List.getElem?_cons_zero, List.getElem?_cons_succ] at p0 p1 p2 p3
      unfold tv at HPs
      go_wp2_with fail
      refine HPs.out.mono ?_
      rintro e_ w7 ⟨rfl, hp⟩
      have HSk2 := HSk.out
      rw [HX.out, HW6.out] at HSk2
      rw [← HX.out] at hp
      obtain ⟨sv7, m7, v7⟩ := MS.pushed HSk2.1 hp
      have H7 := hide (And.intro m7 (H5.out.2.1.trans (HSk2.2.trans v7)))
      clear hp m7 v7 HSk2 p0 p1 p2 p3 r6
      go_wp2
      go_ret
      refine ⟨0, r.drop s, a1, c1, sv7, _, rfl, ?_, fun _ => H7.out, H7.out.1.bel⟩
      rw [if_neg (fun h => h HK.out), HTR.out, if_pos rfl, stkL_push]
      exact ⟨rfl, rfl, rfl⟩
    · have HD := hide hd
      have dd : (tr == d) = false := by simpa using hd
      clear hd
      go_wp2
      go_ret
      refine ⟨0, r, ra, rc, sv3, Y, rfl, ?_, fun _ => ⟨H5.out.1, H5.out.2.1⟩, H5.out.1.bel⟩
      rw [if_neg (fun h => h HK.out), HTR.out, if_neg HD.out]
      exact ⟨rfl, rfl, rfl⟩
  · have HT := hide (tru_no (a := z.2.1) (c := z.2.2) (w3.alloc (.cells (tvC z.1 z.2.1 z.2.2) 33)) h6)
    have HK := hide h6
    clear h6
    unfold tv at HT ⊢
    go_wp2_with fail
    refine HT.out.mono ?_
    rintro e_ w5 ⟨rfl, b5⟩
    have H5 := hide (H4.out.1.ext b5)
    clear b5 p0 p1 p2 p3 HT
    go_wp2
    go_ret
    refine ⟨7, r, ra, rc, sv3, [], rfl, ?_, fun e => absurd e (by decide), H5.out.bel⟩
    rw [if_pos HK.out]
    exact ⟨rfl, rfl, rfl⟩
end Go.Proofs.YteiacgpaocnofaaGreat
/- The machine's steps by kind. -/
namespace Go.Proofs.YteiacgpaocnofaaGreat
open Go.RowKit
variable {W0 w : World} {b : Bd} {g : Nat} {x : Ox} {xa : Option Addr} {xc : Nat} {r : List Ox} {ra : Option Addr} {rc : Nat} {sv : Value} {Z : List Zt}
theorem step_lazy {w' w2 : World} {e : Ending} {s : Nat} {Y : List Zt} {z : Zt} {d : Bool} (hs : x.sk = (s : Int)) (hk : x.kd = 4 ∨ x.kd = 5) (hd : (x.kd == 5) = d) (hm : Mv g w sv w2 sv) (h : LazyA W0 b g w2 s d r sv Y z e w') : StepA W0 b g w x r sv (Y ++ [z]) e w' := by
  obtain ⟨E, r1, ra1, rc1, sv1, Z1, he, h1, h2, h3⟩ := h
  refine ⟨E, r1, ra1, rc1, sv1, Z1, he, ?_, fun e0 => ⟨(h2 e0).1, hm.trans (h2 e0).2⟩, h3⟩
  unfold stepR
  rw [if_neg (by omega), if_neg (by omega), if_neg (by omega), stkL_push]
  refine ⟨z.1, stkL Y, rfl, ?_⟩
  by_cases h6 : z.1.k ≠ 6
  · rw [if_pos h6] at h1 ⊢
    obtain ⟨rfl, rfl, _⟩ := h1
    exact ⟨rfl, rfl, if_neg (by decide)⟩
  · rw [if_neg h6] at h1 ⊢
    obtain ⟨rfl, h1⟩ := h1
    rw [if_pos rfl, hd]
    refine ⟨rfl, ?_⟩
    by_cases hc : (z.1.n == 1) = d
    · rw [if_pos hc] at h1 ⊢
      rw [show x.sk.toNat = s by omega]
      exact h1
    · rw [if_neg hc] at h1 ⊢
      exact h1
set_option maxRecDepth 100000 in
set_option maxHeartbeats 4000000 in
theorem and_any {Y : List Zt} {z : Zt} (h : MS W0 b g w r ra rc sv (Y ++ [z])) (hk : x.kd = 4) (hn : Y.length ≤ 40) (s : Nat) (hs : x.sk = (s : Int)) (hsr : s ≤ r.length) : Calls Tryz.prog 79 #[.pointer (some ⟨g, 0, none⟩), ov x xa xc] w (StepA W0 b g w x r sv (Y ++ [z])) := by
  have bA := alloc_below w (.cells (ovC x xa xc) 48)
  have rA := heap_alloc_last w (.cells (ovC x xa xc) 48)
  have HL := hide (lazy_any (h.ext bA) hn s hsr false)
  have HB := hide (And.intro bA (And.intro hk hs))
  have A6 := cell_of_row _ _ 6 _ _ _ rA
  simp only [List.getElem?_toArray, List.getElem?_cons_zero, List.getElem?_cons_succ] at A6
  rw [hs] at A6
  clear bA rA h hk hsr
  unfold ov
  go_enter Tryz.func79, Tryz.ntmps79
  go_wp2_with fail
  refine HL.out.mono ?_
  rintro e_ w1 hz
  have HZ := hide (step_lazy (d := false) HB.out.2.2 (by have := HB.out.2.1; omega) (by rw [HB.out.2.1]; rfl) (Mv.ext HB.out.1) hz)
  obtain ⟨E, r1, ra1, rc1, sv1, Z1, rfl, _⟩ := hz
  clear HL
  go_wp2
  go_ret
  exact HZ.out
set_option maxRecDepth 100000 in
set_option maxHeartbeats 4000000 in
theorem or_any {Y : List Zt} {z : Zt} (h : MS W0 b g w r ra rc sv (Y ++ [z])) (hk : x.kd = 5) (hn : Y.length ≤ 40) (s : Nat) (hs : x.sk = (s : Int)) (hsr : s ≤ r.length) : Calls Tryz.prog 80 #[.pointer (some ⟨g, 0, none⟩), ov x xa xc] w (StepA W0 b g w x r sv (Y ++ [z])) := by
  have bA := alloc_below w (.cells (ovC x xa xc) 48)
  have rA := heap_alloc_last w (.cells (ovC x xa xc) 48)
  have HL := hide (lazy_any (h.ext bA) hn s hsr true)
  have HB := hide (And.intro bA (And.intro hk hs))
  have A6 := cell_of_row _ _ 6 _ _ _ rA
  simp only [List.getElem?_toArray, List.getElem?_cons_zero, List.getElem?_cons_succ] at A6
  rw [hs] at A6
  clear bA rA h hk hsr
  unfold ov
  go_enter Tryz.func80, Tryz.ntmps80
  go_wp2_with fail
  refine HL.out.mono ?_
  rintro e_ w1 hz
  have HZ := hide (step_lazy (d := true) HB.out.2.2 (by have := HB.out.2.1; omega) (by rw [HB.out.2.1]; rfl) (Mv.ext HB.out.1) hz)
  obtain ⟨E, r1, ra1, rc1, sv1, Z1, rfl, _⟩ := hz
  clear HL
  go_wp2
  go_ret
  exact HZ.out
/-- A method of the machine, as a value. -/
abbrev fvp (f g : Nat) : Value := .func (.func f) #[.pointer (some ⟨g, 0, none⟩)] #[]
abbrev stepV (g : Nat) : Array Value := #[.nilFunc, fvp 76 g, fvp 77 g, fvp 78 g, fvp 79 g, fvp 80 g]
set_option maxRecDepth 100000 in
set_option maxHeartbeats 4000000 in
theorem steps_any (g : Nat) (w : World) : Calls Tryz.prog 57 #[.pointer (some ⟨g, 0, none⟩)] w fun e w' => e = .returned (.agg (stepV g)) ∧ Below w.heap.size w w' := by
  have B0 := hide (alloc_below w (.cells #[.nilFunc, .nilFunc, .nilFunc, .nilFunc, .nilFunc, .nilFunc] 80))
  have R0 := heap_alloc_last w (.cells #[.nilFunc, .nilFunc, .nilFunc, .nilFunc, .nilFunc, .nilFunc] 80)
  go_enter Tryz.func57, Tryz.ntmps57
  go_wp2_with (refine wpList_store_row rfl 80 (.tmp 2) (.tmp 13) rfl w.heap.size (stepV g) rfl rfl 80 #[.nilFunc, .nilFunc, .nilFunc, .nilFunc, .nilFunc, .nilFunc] R0 (by kernel_rfl) rfl (by kernel_rfl) ?_)
  refine bodyPost_ret_by (results_cell_row rfl _ _ w.heap.size 80 _ (0, 0) _ rfl (setRow_heap _ _ _ _ _ _ R0) Tryz.underlying80 rfl (by kernel_rfl)) rfl ?_
  exact ⟨rfl, Below.setRow B0.out _ _ (Nat.le_refl _)⟩
end Go.Proofs.YteiacgpaocnofaaGreat
