/- Bytes that came in, and how a hash and bytes stay while other memory is written. -/
import Derived.Test.YtjkcjlhcfkapkaaDoorAwake
import Derived.Test.YtjkcjlhcfkapkaaDoorDrawn
import Derived.OpenShut
import Derived.Deep.Matrix
import Derived.SizedLaws
namespace Go.Proofs.YtjkcjlhcfkapkaaDoor
open Go.RowKit
/-- A slice of bytes in memory that was there. -/
def BsOld (w : World) (v : Value) (bs : List UInt8) : Prop :=
  ∃ ao c, v = .slice ao bs.length c ∧ bs.length ≤ c ∧ c ≤ maxLen ∧ (ao = none → c = 0) ∧ (bs ≠ [] → ∃ b o, ao = some ⟨b, o, none⟩ ∧ b < w.heap.size ∧ w.rangeAt b o (bs.map bc))
theorem BsOld.at {W w : World} {v : Value} {bs : List UInt8} {g : Nat} (h : BsOld W v bs) (he : Ext W w) (hg : W.heap.size ≤ g) : BsAt w g v bs := by
  obtain ⟨ao, c, e, hc, _, _, hh⟩ := h
  refine ⟨ao, c, e, hc, fun hne => ?_⟩
  obtain ⟨b, o, e1, hb, hr⟩ := hh hne
  exact ⟨b, o, e1, by omega, Nat.lt_of_lt_of_le hb he.size, fun j u hu => (Below.cell he hb).trans (hr j u hu)⟩
theorem BsOld.ext {W w : World} {v : Value} {bs : List UInt8} (h : BsOld W v bs) (he : Ext W w) : BsOld w v bs := by
  obtain ⟨ao, c, e, hc, hm, hn, hh⟩ := h
  refine ⟨ao, c, e, hc, hm, hn, fun hne => ?_⟩
  obtain ⟨b, o, e1, hb, hr⟩ := hh hne
  exact ⟨b, o, e1, Nat.lt_of_lt_of_le hb he.size, fun j u hu => (Below.cell he hb).trans (hr j u hu)⟩
theorem bn_of (n : Int) (h : (Lit.int .u8 n).wf = true) : bn (UInt8.ofNat n.toNat) = n := by
  have hw : 0 ≤ n ∧ n ≤ 255 := bounds_u8 h
  unfold bn
  rw [UInt8.toNat_ofNat']; omega
/-- Numbers as bytes. -/
def bsOf (zs : List Int) (len : Nat) : List UInt8 := (zs.take len).map fun n => UInt8.ofNat n.toNat
theorem bsOld_row {W : World} {a : Option Addr} {len cap : Nat} {zs : List Int}
    (h : (a = none ∧ len = 0 ∧ cap = 0 ∧ zs = []) ∨ ∃ x, a = some x ∧ len ≤ cap ∧ cap ≤ maxLen ∧ zs.length = cap ∧ (∀ i, i < zs.length → W.cell? (x.add i) = some (.int .u8 (zs.getD i 0))) ∧ ∀ n ∈ zs, (Lit.int .u8 n).wf = true) :
    (bsOf zs len).length = len ∧ BsOld W (.slice a len cap) (bsOf zs len) := by
  rcases h with ⟨rfl, rfl, rfl, rfl⟩ | ⟨x, rfl, hl, hm, hz, hcell, hwf⟩
  · exact ⟨rfl, none, 0, rfl, Nat.le_refl _, by unfold maxLen; omega, fun _ => rfl, fun h => absurd rfl h⟩
  · have hlb : (bsOf zs len).length = len := by simp [bsOf]; omega
    refine ⟨hlb, some x, cap, by rw [hlb], by omega, hm, fun h => by (cases h), fun hne => ?_⟩
    have hlen : 0 < len := by
      rcases Nat.eq_zero_or_pos len with h | h
      · subst h; simp [bsOf] at hne
      · exact h
    have h0 := hcell 0 (by omega)
    have hx : x = ⟨x.block, x.off, none⟩ := by
      have h1 : x.add 0 = x := by simp [Addr.add]
      rw [h1] at h0
      cases x with
      | mk b o s =>
        cases s with
        | none => rfl
        | some q => simp [World.cell?] at h0; split at h0 <;> simp at h0
    refine ⟨x.block, x.off, by rw [← hx], ?_, ?_⟩
    · have h1 : x.add 0 = x := by simp [Addr.add]
      rw [h1] at h0
      exact World.block_lt_of_cell? W _ h0
    · intro j u hu
      have hj : j < len := by have := (List.getElem?_eq_some_iff.1 hu).1; rw [List.length_map] at this; omega
      have hc := hcell j (by omega)
      rw [hx, Addr.add_mid] at hc
      rw [hc, ← hu]
      have hjz : j < zs.length := by omega
      simp only [bsOf, List.getElem?_map, List.getElem?_take, hj, if_true, List.getElem?_eq_getElem hjz, Option.map_some, List.getD_eq_getElem?_getD, Option.getD_some, bc]
      rw [bn_of _ (hwf _ (by simp))]
theorem bsOld_of_row {W : World} {a : Option Addr} {len cap : Nat} {zs : List Int}
    (h : (a = none ∧ len = 0 ∧ cap = 0 ∧ zs = []) ∨ ∃ x, a = some x ∧ len ≤ cap ∧ cap ≤ maxLen ∧ zs.length = cap ∧ (∀ i, i < zs.length → W.cell? (x.add i) = some (.int .u8 (zs.getD i 0))) ∧ ∀ n ∈ zs, (Lit.int .u8 n).wf = true) :
    ∃ bs : List UInt8, bs.length = len ∧ BsOld W (.slice a len cap) bs := ⟨_, (bsOld_row h).1, (bsOld_row h).2⟩
theorem weights_all {H : Type} {P : Program} {e : TypeId} {n : Nat} : ∀ {l : List (DataW H)} {d : DataW H}, d ∈ l → n ∈ d.weights P e → n ∈ DataW.weightsAll P e l
  | d' :: r, d, hm, hn => by
    rw [DataW.weightsAll, List.mem_append]
    rcases List.mem_cons.1 hm with h | h
    · subst h; exact .inl hn
    · exact .inr (weights_all h hn)
theorem Hashed.lt {w : World} {g : Nat} {m : List UInt8} (h : Hashed w g m) : g < w.heap.size := by
  obtain ⟨_, _, _, q, _⟩ := h
  exact (Array.getElem?_eq_some_iff.1 q.row).1
theorem Hashed.grown {w w' : World} {g : Nat} {m : List UInt8} {r : Option Nat} (h : Hashed w g m) (hg : w.grownBy w' r) (hne : some g ≠ r) : Hashed w' g m := by
  have hl := h.lt
  obtain ⟨st, p, L, q, i⟩ := h
  exact ⟨st, p, L, ⟨(hg.block g hl hne).trans q.row, q.st8, q.p128⟩, i⟩
theorem Hashed.ext {w w' : World} {g : Nat} {m : List UInt8} (h : Hashed w g m) (he : Ext w w') : Hashed w' g m := h.grown (grown_of_below (r := none) he) (by simp)
theorem Tabs.ext {w w' : World} (h : Tabs w) (he : Ext w w') : Tabs w' := h.below he h.2.2
/-- A store into a block that was not there before leaves all that was. -/
theorem ext_grown {W w w' : World} {g : Nat} (h : Ext W w) (hg : w.grownBy w' (some g)) (hgb : W.heap.size ≤ g) : Ext W w' :=
  Below.trans h ⟨hg.os, hg.tape, hg.output, hg.size, fun k hk => hg.block k (Nat.lt_of_lt_of_le hk h.size) (by simp; omega)⟩
theorem range_ext {w w' : World} {b o : Nat} {cs : List Value} (h : w.rangeAt b o cs) (hb : b < w.heap.size) (he : Ext w w') : w'.rangeAt b o cs := fun j u hu => (Below.cell he hb).trans (h j u hu)
theorem range_grown {w w' : World} {b o : Nat} {cs : List Value} {r : Option Nat} (h : w.rangeAt b o cs) (hg : w.grownBy w' r) (hne : some b ≠ r) : w'.rangeAt b o cs := fun j u hu => hg.cell (h j u hu) hne
/-- Bytes behind bytes of the call's own. -/
theorem wp_append_bytes {o : Oper} {a : Act} {w : World} {K : Act → World → Prop} {Q : Exit → Act → World → Prop} (s x : Operand) (ho : o.op = .call { callee := .builtin .append, args := #[s, x], argTypes := #[22, 22] })
    (base : Nat) (v : Value) (bs1 : List UInt8) (hs : a.eval s = v) (hown : w.ownsRow base 5 1 v bs1.length (bs1.map bc)) (sv : Value) (bs2 : List UInt8) (hx : a.eval x = sv) (hsv : BsOld w sv bs2)
    (hn : bs1.length + bs2.length ≤ 1000000000000) (hbase : base ≤ w.heap.size)
    (h : ∀ v' w', w'.ownsRow base 5 1 v' (bs1 ++ bs2).length ((bs1 ++ bs2).map bc) → w.grownBy w' v.ownBlock → K (a.put o.dst v') w') : o.wp Tryd.prog a w K Q := by
  obtain ⟨i0, hi, hz0, hz1, hz2⟩ := info_parts info5
  obtain ⟨ao, c, rfl, hc, hm, hnil, hh⟩ := hsv
  cases ao with
  | none =>
    obtain rfl := hnil rfl
    have h0 : bs2 = [] := List.eq_nil_of_length_eq_zero (by omega)
    subst h0
    have hrun := run_append_owned_none (P := Tryd.prog) (w := w) base 22 o.type 5 i0 1 und22 hi v bs1.length (bs1.map bc) hown
    have hfin := h v w (by simpa using hown) (grown_refl w _)
    unfold Oper.wp
    simp [execOp, ho, resolve, invoke, builtin, hs, hx, hrun, Result.andThen]
    exact hfin
  | some ad =>
    refine wp_append_own w s x 22 ho base 5 i0 (.int .u8 0) 1 1 und22 hi hz0 hz1 hz2 rfl (by decide) v bs1.length (bs1.map bc) hs hown ad bs2.length c (bs2.map bc) hx (by simp) ?_ ?_ ?_ ?_ hbase ?_
    · intro j u hu
      have hne : bs2 ≠ [] := fun e => by subst e; simp at hu
      obtain ⟨b, o', e1, _, hr⟩ := hh hne
      injection e1 with e1
      subst e1
      rw [Addr.add_mid]; exact hr j u hu
    · intro u hu; rw [List.mem_map] at hu; obtain ⟨x, _, rfl⟩ := hu; rfl
    · unfold maxLen; omega
    · omega
    · intro v' w' h1 h2 _
      refine h v' w' ?_ h2
      rw [List.length_append, List.map_append]; exact h1
/-- What is owned, as bytes that were there. -/
theorem bsOld_of_owns {w : World} {base : Nat} {v : Value} {bs : List UInt8} (h : w.ownsRow base 5 1 v bs.length (bs.map bc)) : BsOld w v bs := by
  rcases h.2 with ⟨rfl, h0⟩ | ⟨b, cap, cur, rfl, hb, hr, hn, hm, _, ht⟩
  · have : bs = [] := List.eq_nil_of_length_eq_zero h0
    subst this
    exact ⟨none, 0, rfl, Nat.le_refl _, by unfold maxLen; omega, fun _ => rfl, fun h => absurd rfl h⟩
  · refine ⟨_, cap, rfl, hn, hm, fun h => by (cases h), fun _ => ⟨b, 0, rfl, (Array.getElem?_eq_some_iff.1 hr).1, ?_⟩⟩
    intro j u hu
    rw [Nat.zero_add, cell_of_row _ _ _ _ _ _ hr]
    rw [← ht, List.getElem?_take] at hu
    split at hu
    · simpa using hu
    · cases hu
/-- The string of bytes that were there, in every later world. -/
theorem run_str_old {w w' : World} {v : Value} {bs : List UInt8} (h : BsOld w v bs) (hg : w.grownBy w' none) : (convert 22 9 v).run Tryd.prog w' = .ok (.string (strOf bs)) w' := by
  obtain ⟨ao, c, rfl, hc, hm, hnil, hh⟩ := h.ext (Ext.of hg)
  by_cases hne : bs = []
  · subst hne
    cases ao with
    | none => rw [run_convert_bytes_nil (P := Tryd.prog) w' 22 5 und22 Tryd.underlying5 _ _ 9 Tryd.underlying9]; rfl
    | some ad =>
      have hl : (loadCells ad 0).run Tryd.prog w' = .ok (([] : List Int).map (Value.int .u8)).toArray w' := by simpa using run_loadCells_list (P := Tryd.prog) w' ad [] (by simp)
      rw [run_convert_bytes_string w' 22 9 5 _ _ _ und22 Tryd.underlying5 Tryd.underlying9]
      have := run_bytesToString (P := Tryd.prog) w' ad 0 c [] hl
      exact this
  · obtain ⟨b, o, rfl, _, hr⟩ := hh hne
    exact run_str_of w' b o c bs hr
/-- Bytes of the call's own, in block g. -/
def Own (w : World) (v : Value) (bs : List UInt8) (g : Nat) : Prop := ∃ cap, v = .slice (some ⟨g, 0, none⟩) bs.length cap ∧ w.ownsRow 0 5 1 v bs.length (bs.map bc)
theorem Own.lt {w : World} {v : Value} {bs : List UInt8} {g : Nat} (h : Own w v bs g) : g < w.heap.size := by
  obtain ⟨cap, rfl, ho⟩ := h
  exact (ho.lt g rfl).2
theorem Own.old {w : World} {v : Value} {bs : List UInt8} {g : Nat} (h : Own w v bs g) : BsOld w v bs := by
  obtain ⟨cap, _, ho⟩ := h
  exact bsOld_of_owns ho
theorem Own.range {w : World} {v : Value} {bs : List UInt8} {g : Nat} (h : Own w v bs g) : w.rangeAt g 0 (bs.map bc) := by
  obtain ⟨cap, rfl, ho⟩ := h
  intro j u hu
  rw [← Addr.add_mid]
  exact ho.cells rfl j u hu
theorem Own.grown {w w' : World} {v : Value} {bs : List UInt8} {g : Nat} {X : Option Nat} (h : Own w v bs g) (hg : w.grownBy w' X) (hne : some g ≠ X) : Own w' v bs g := by
  obtain ⟨cap, rfl, ho⟩ := h
  exact ⟨cap, rfl, ho.kept hg (.inr hne)⟩
theorem own_of {w : World} {base : Nat} {v : Value} {bs : List UInt8} (h : w.ownsRow base 5 1 v bs.length (bs.map bc)) (hn : 0 < bs.length) : ∃ g, base ≤ g ∧ Own w v bs g := by
  rcases h.2 with ⟨_, h0⟩ | ⟨b, cap, cur, rfl, hb, r⟩
  · omega
  · exact ⟨b, hb, cap, rfl, owns_mono h (Nat.zero_le _)⟩
/-- Bytes behind bytes of the call's own: in their block, or in a new one. -/
theorem wp_append_own2 {o : Oper} {a : Act} {w : World} {K : Act → World → Prop} {Q : Exit → Act → World → Prop} (s x : Operand) (ho : o.op = .call { callee := .builtin .append, args := #[s, x], argTypes := #[22, 22] })
    (v : Value) (bs1 : List UInt8) (g : Nat) (hs : a.eval s = v) (hown : Own w v bs1 g) (sv : Value) (bs2 : List UInt8) (hx : a.eval x = sv) (hsv : BsOld w sv bs2)
    (hn : bs1.length + bs2.length ≤ 1000000000000)
    (h : ∀ v' w' g', Own w' v' (bs1 ++ bs2) g' → w.grownBy w' (some g) → (g' = g ∨ w.heap.size ≤ g') → K (a.put o.dst v') w') : o.wp Tryd.prog a w K Q := by
  obtain ⟨i0, hi, hz0, hz1, hz2⟩ := info_parts info5
  obtain ⟨ao, c, rfl, hc, hm, hnil, hh⟩ := hsv
  have hlen : (bs1 ++ bs2).length = bs1.length + bs2.length := List.length_append
  cases ao with
  | none =>
    obtain rfl := hnil rfl
    have h0 : bs2 = [] := List.eq_nil_of_length_eq_zero (by omega)
    subst h0
    have hfin := h v w g (by simpa using hown) (grown_refl w _) (.inl rfl)
    obtain ⟨cap, _, ho'⟩ := hown
    have hrun := run_append_owned_none (P := Tryd.prog) (w := w) 0 22 o.type 5 i0 1 und22 hi v bs1.length (bs1.map bc) ho'
    unfold Oper.wp
    simp [execOp, ho, resolve, invoke, builtin, hs, hx, hrun, Result.andThen]
    exact hfin
  | some ad =>
    have hnews : ∀ j u, (bs2.map bc)[j]? = some u → w.cell? (ad.add j) = some u := by
      intro j u hu
      have hne : bs2 ≠ [] := fun e => by subst e; simp at hu
      obtain ⟨b, o', e1, _, hr⟩ := hh hne
      injection e1 with e1
      subst e1
      rw [Addr.add_mid]; exact hr j u hu
    have hone : ∀ u ∈ bs2.map bc, u.oneCell' = true := by intro u hu; rw [List.mem_map] at hu; obtain ⟨x, _, rfl⟩ := hu; rfl
    have hrange := hown.range
    have hlt := hown.lt
    obtain ⟨cap, rfl, ho'⟩ := hown
    by_cases hfit : bs1.length + bs2.length ≤ cap
    · obtain ⟨w', hrun, h1, h2⟩ := run_append_fits (P := Tryd.prog) w 0 22 o.type 5 i0 1 und22 hi hz1 g bs1.length cap (bs1.map bc) ho' ad bs2.length c (bs2.map bc) (by simp) hnews hone hfit
      have hfin := h _ w' g ⟨cap, by rw [hlen], by rw [hlen, List.map_append]; exact h1⟩ h2 (.inl rfl)
      unfold Oper.wp
      simp [execOp, ho, resolve, invoke, builtin, hs, hx, hrun, Result.andThen]
      exact hfin
    · obtain ⟨v', w', hrun, h1, h2⟩ := run_append_arg_grows (P := Tryd.prog) w 22 o.type 5 i0 (.int .u8 0) 1 1 und22 hi hz0 hz1 hz2 rfl (by decide) ⟨g, 0, none⟩ bs1.length cap (bs1.map bc) (by simp) (fun j u hu => by rw [Addr.add_mid]; exact hrange j u hu) ad bs2.length c (bs2.map bc) (by simp) hnews (by omega) (by unfold maxLen; omega) (by omega)
      have h1' : w'.ownsRow w.heap.size 5 1 v' (bs1 ++ bs2).length ((bs1 ++ bs2).map bc) := by rw [hlen, List.map_append]; exact h1
      obtain ⟨g', hg', hown'⟩ := own_of h1' (by rw [hlen]; have : bs1.length ≤ cap := by { rcases ho'.2 with ⟨e, _⟩ | ⟨_, _, _, e, _, _, e2, _⟩; cases e; injection e with _ _ e3; omega }; omega)
      have hfin := h v' w' g' hown' ⟨h2.os, h2.tape, h2.output, h2.size, fun k hk _ => h2.block k hk (by simp)⟩ (.inr hg')
      unfold Oper.wp
      simp [execOp, ho, resolve, invoke, builtin, hs, hx, hrun, Result.andThen]
      exact hfin
theorem wpList_append_own2 {ops : Array Oper} {rest : List Oper} {o : Oper} {a : Act} {w : World} {Q : Exit → Act → World → Prop} (hgd : o.guard = none) (s x : Operand) (ho : o.op = .call { callee := .builtin .append, args := #[s, x], argTypes := #[22, 22] })
    (v : Value) (bs1 : List UInt8) (g : Nat) (hs : a.eval s = v) (hown : Own w v bs1 g) (sv : Value) (bs2 : List UInt8) (hx : a.eval x = sv) (hsv : BsOld w sv bs2)
    (hn : bs1.length + bs2.length ≤ 1000000000000)
    (h : ∀ v' w' g', Own w' v' (bs1 ++ bs2) g' → w.grownBy w' (some g) → (g' = g ∨ w.heap.size ≤ g') → wpList Tryd.prog ops Q rest (a.put o.dst v') w') : wpList Tryd.prog ops Q (o :: rest) a w :=
  wpList_plain hgd fun _ hK => wp_append_own2 s x ho v bs1 g hs hown sv bs2 hx hsv hn fun v' w' g' h1 h2 h3 => hK _ _ (h v' w' g' h1 h2 h3)
theorem bsAt_of_owns' {w : World} {v : Value} {bs : List UInt8} {g h : Nat} (hb : Own w v bs g) (hne : g ≠ h) : BsAt w h v bs := by
  have hr := hb.range
  have hl := hb.lt
  obtain ⟨cap, rfl, ho⟩ := hb
  refine ⟨_, cap, rfl, ?_, fun _ => ⟨g, 0, rfl, hne, hl, hr⟩⟩
  rcases ho.2 with ⟨e, _⟩ | ⟨_, _, _, e, _, _, e2, _⟩
  · cases e
  · injection e with _ _ e3; omega
theorem wpList_append_bytes {ops : Array Oper} {rest : List Oper} {o : Oper} {a : Act} {w : World} {Q : Exit → Act → World → Prop} (hgd : o.guard = none) (s x : Operand) (ho : o.op = .call { callee := .builtin .append, args := #[s, x], argTypes := #[22, 22] })
    (base : Nat) (v : Value) (bs1 : List UInt8) (hs : a.eval s = v) (hown : w.ownsRow base 5 1 v bs1.length (bs1.map bc)) (sv : Value) (bs2 : List UInt8) (hx : a.eval x = sv) (hsv : BsOld w sv bs2)
    (hn : bs1.length + bs2.length ≤ 1000000000000) (hbase : base ≤ w.heap.size)
    (h : ∀ v' w', w'.ownsRow base 5 1 v' (bs1 ++ bs2).length ((bs1 ++ bs2).map bc) → w.grownBy w' v.ownBlock → wpList Tryd.prog ops Q rest (a.put o.dst v') w') : wpList Tryd.prog ops Q (o :: rest) a w :=
  wpList_plain hgd fun _ hK => wp_append_bytes s x ho base v bs1 hs hown sv bs2 hx hsv hn hbase fun v' w' h1 h2 => hK _ _ (h v' w' h1 h2)
/-- A slice of slices of bytes in memory that was there. -/
def RowsOld (w : World) (v : Value) (vs : Nat → Value) (rows : List (List UInt8)) : Prop :=
  ∃ ao c, v = .slice ao rows.length c ∧ ∀ i, i < rows.length → BsOld w (vs i) (rows.getD i []) ∧ (rows.getD i []).length ≤ 140737488351232 ∧ ∃ b o, ao = some ⟨b, o, none⟩ ∧ b < w.heap.size ∧ w.cell? ⟨b, o + i, none⟩ = some (vs i)
/-- The bytes of some rows, one behind the other; how many. -/
def flat (rows : List (List UInt8)) : List UInt8 := rows.flatten
def total (rows : List (List UInt8)) : Nat := (flat rows).length
theorem flat_succ (rows : List (List UInt8)) (k : Nat) (h : k < rows.length) : flat (rows.take (k + 1)) = flat (rows.take k) ++ rows.getD k [] := by
  unfold flat
  rw [List.take_succ_eq_append_getElem h, List.flatten_append, List.getD_eq_getElem?_getD, List.getElem?_eq_getElem h]
  simp
theorem total_succ (rows : List (List UInt8)) (k : Nat) (h : k < rows.length) : total (rows.take (k + 1)) = total (rows.take k) + (rows.getD k []).length := by
  unfold total; rw [flat_succ rows k h, List.length_append]
theorem total_le (rows : List (List UInt8)) (h : ∀ i, i < rows.length → (rows.getD i []).length ≤ 140737488351232) : ∀ k, k ≤ rows.length → total (rows.take k) ≤ k * 140737488351232
  | 0, _ => by simp [total, flat]
  | k + 1, hk => by
    rw [total_succ rows k (by omega)]
    have := total_le rows h k (by omega)
    have := h k (by omega)
    omega
theorem total_take_le (rows : List (List UInt8)) (k : Nat) : total (rows.take k) ≤ total rows := by
  unfold total flat
  conv => rhs; rw [← List.take_append_drop k rows, List.flatten_append, List.length_append]
  omega
/-- Rows of bytes that came in. -/
theorem rowsOld_of {H : Type} {enc : TypeId × Value → H} {W : World} {fuel : Nat} {cs : List Value} {x : DataW H × List MemPlace} (h : DataW.trod enc Tryd.prog W 0 (fun _ => true) true fuel 26 cs = some x)
    (hw : ∀ n ∈ x.1.weights Tryd.prog 26, n ≤ reachBytes) {a : Option Addr} {len cap : Nat} (hcs : cs = [.slice a len cap]) :
    ∃ (vs : Nat → Value) (R : List (List UInt8)), R.length = len ∧ RowsOld W (.slice a len cap) vs R ∧ len ≤ 140737488351232 := by
  rcases Deep.open_int_rows Tryd.underlying26 Tryd.underlying22 Tryd.underlying5 (by kernel_rfl) (by kernel_rfl) h with ⟨e, _⟩ | ⟨ad, len', cap', A, L, C, Z, e, _, hl, hm, hx, hr⟩
  · rw [hcs] at e
    simp at e
    obtain ⟨rfl, rfl, rfl⟩ := e
    exact ⟨fun _ => undef, [], rfl, ⟨none, 0, rfl, fun i hi => absurd hi (by simp)⟩, by omega⟩
  · rw [hcs] at e
    simp at e
    obtain ⟨rfl, rfl, rfl⟩ := e
    have hb22 : Tryd.prog.bytesOf 22 = 24 := by kernel_rfl
    have hb5 : Tryd.prog.bytesOf 5 = 1 := by kernel_rfl
    rw [hx] at hw
    have hlen24 : len * 24 ≤ reachBytes := by
      have := hw ((len + (cap - len)) * 24) (by simp [DataW.weights, Tryd.underlying26, hb22])
      have h2 : len * 24 ≤ (len + (cap - len)) * 24 := Nat.mul_le_mul_right _ (by omega)
      omega
    refine ⟨fun r => .slice (A r) (L r) (C r), (List.range len).map fun r => bsOf (Z r) (L r), by simp, ⟨some ad, cap, by simp, ?_⟩, by unfold reachBytes at hlen24; omega⟩
    intro i hi
    have hi' : i < len := by simpa using hi
    have hgd : ((List.range len).map fun r => bsOf (Z r) (L r)).getD i [] = bsOf (Z i) (L i) := by
      rw [List.getD_eq_getElem?_getD, List.getElem?_map, List.getElem?_range hi']; rfl
    rw [hgd]
    obtain ⟨hc, h1, h2, h3, h4, h5, h6⟩ := hr i (by omega)
    have hrow : (A i = none ∧ L i = 0 ∧ C i = 0 ∧ Z i = []) ∨ ∃ x, A i = some x ∧ L i ≤ C i ∧ C i ≤ maxLen ∧ (Z i).length = C i ∧ (∀ j, j < (Z i).length → W.cell? (x.add j) = some (.int .u8 ((Z i).getD j 0))) ∧ ∀ n ∈ Z i, (Lit.int .u8 n).wf = true := by
      cases hA : A i with
      | none =>
        have := h5 hA
        exact .inl ⟨rfl, by omega, this, List.eq_nil_of_length_eq_zero (by omega)⟩
      | some x => exact .inr ⟨x, rfl, h1, h2, h3, fun j hj => (h6 x hA).2 j (by omega), h4⟩
    have hbr := bsOld_row hrow
    refine ⟨hbr.2, ?_, ?_⟩
    · rw [hbr.1]
      cases hA : A i with
      | none => have := h5 hA; omega
      | some x =>
        have := hw ((Z i).length * 1) (by
          simp only [DataW.weights, Tryd.underlying26]
          refine List.mem_cons_of_mem _ (List.mem_append_left _ (weights_all (List.mem_map.2 ⟨i, List.mem_range.2 hi', rfl⟩) ?_))
          simp [Deep.intRow, hA, DataW.weights, Tryd.underlying22, hb5, ChangeShapes.lits]
          left; omega)
        unfold reachBytes at this; omega
    · have hx0 : ∃ b o, ad = ⟨b, o, none⟩ := by
        have h0 := (hr 0 (by omega)).1
        have e0 : ad.add 0 = ad := by simp [Addr.add]
        rw [e0] at h0
        cases ad with
        | mk b o s =>
          cases s with
          | none => exact ⟨b, o, rfl⟩
          | some q => simp [World.cell?] at h0; split at h0 <;> simp at h0
      obtain ⟨b, o, rfl⟩ := hx0
      rw [Addr.add_mid] at hc
      exact ⟨b, o, rfl, World.block_lt_of_cell? W _ hc, hc⟩
theorem own_empty (w : World) : Own (w.alloc (.cells #[] 5)) (.slice (some ⟨w.heap.size, 0, none⟩) 0 0) [] w.heap.size :=
  ⟨0, rfl, World.ownsRow_made w #[] 0 (Nat.zero_le _) (by unfold maxLen; omega) rfl⟩
theorem run_str_at {w w' : World} {b o : Nat} {bs : List UInt8} {X : Option Nat} (c : Nat) (h : w.rangeAt b o (bs.map bc)) (hg : w.grownBy w' X) (hne : some b ≠ X) : (convert 22 9 (.slice (some ⟨b, o, none⟩) bs.length c)).run Tryd.prog w' = .ok (.string (strOf bs)) w' :=
  run_str_of w' b o c bs (range_grown h hg hne)
end Go.Proofs.YtjkcjlhcfkapkaaDoor
