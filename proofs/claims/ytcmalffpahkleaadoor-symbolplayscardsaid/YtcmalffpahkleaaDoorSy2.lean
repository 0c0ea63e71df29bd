/- The program's call put: a text that is new comes to a table's own. -/
import Derived.Test.YtcmalffpahkleaaDoorSy1
namespace Go.Proofs.YtcmalffpahkleaaDoor
open Go.RowKit
theorem i64_wrap (n : Int) (h : -9223372036854775808 ≤ n ∧ n ≤ 9223372036854775807) : IntKind.i64.wrap n = n := by
  rw [IntKind.wrap_i64]; omega
theorem row_val {w : World} {base e size n : Nat} {v : Value} {xs : List Value} (h : w.ownsRow base e size v n xs) : ∃ a c, v = .slice a n c := by
  rcases h.2 with ⟨rfl, rfl⟩ | ⟨g, cap, cur, rfl, _⟩
  · exact ⟨none, 0, rfl⟩
  · exact ⟨_, cap, rfl⟩
/-- What append wants to know of strings. -/
theorem infoS : ∃ i z, Tryd.prog.info? 9 = some i ∧ i.zero = some z ∧ i.size = 1 ∧ i.bytes = 16 ∧ z.cells.size = 1 := by
  have hi : (Tryd.prog.info? 9).map (fun i => (i.zero, i.size, i.bytes)) = some (some (.string ⟨#[]⟩), 1, 16) := by kernel_rfl
  cases he : Tryd.prog.info? 9 with
  | none => rw [he] at hi; cases hi
  | some i =>
    rw [he] at hi
    simp only [Option.map_some, Option.some.injEq, Prod.mk.injEq] at hi
    exact ⟨i, _, rfl, hi.1, hi.2.1, hi.2.2, rfl⟩
/-- A text more in the map. -/
theorem mp_put {w : World} {mb : Nat} {D : DataW Unit} {l : List ByteArray} {s : ByteArray} (hn : s ∉ l) (h2 : ∀ s : ByteArray, Maps.has D (ky s) = (place l s).isSome ∧ ∀ i, place l s = some i → D.atKey (ky s) (.lit (.int .i64 0)) = .lit (.int .i64 (1024 + (i : Int))))
    (hD : Maps.IsMap D) (h1 : w.ownsMap Tryd.prog 9 (plainElem Tryd.prog 3) mb (l.length + 1) (D.put (ky s) (.lit (.int .i64 (1024 + (l.length : Int)))))) : MpAt w (some mb) (l ++ [s]) := by
  refine .inr ⟨mb, _, rfl, by rw [List.length_append]; exact h1, fun t => ?_⟩
  by_cases ht : t = s
  · subst ht
    rw [Maps.has_put_same hD (by simp [ky, WideAt.IsKeyLit]), place_last hn]
    refine ⟨rfl, fun i hi => ?_⟩
    injection hi with hi
    subst hi
    exact Maps.atKey_put_same hD (by simp [ky, WideAt.IsKeyLit]) _ _
  · have hk : ky t ≠ ky s := fun e => ht (ky_inj e)
    rw [Maps.has_put_other hk, place_app_ne ht]
    refine ⟨(h2 t).1, fun i hi => ?_⟩
    rw [Maps.atKey_put_other hk]
    exact (h2 t).2 i hi
/-- What put answers. -/
def ptV (l : List ByteArray) : Value := if 1000 ≤ l.length then .tuple #[.int .i64 0, .bool false] else .tuple #[.int .i64 (1024 + (l.length : Int)), .bool true]
def ptL (l : List ByteArray) (s : ByteArray) : List ByteArray := if 1000 ≤ l.length then l else l ++ [s]
set_option maxRecDepth 100000 in
theorem put_full {w : World} {s : ByteArray} {g : Nat} {v : Value} {mv : Option Nat} {l : List ByteArray} (hT : TbAt w g v mv l) (h : 1000 ≤ l.length) : Calls Tryd.prog 25 #[.pointer (some ⟨g, 0, none⟩), .string s] w fun e w' => e = .returned (.tuple #[.int .i64 0, .bool false]) ∧ w' = w := by
  obtain ⟨a, c, rfl, hlc, hcm, _⟩ := row_slice hT.row
  have hc : w.cell? ⟨g, 0, none⟩ = some (.slice a l.length c) := (row_reads hT.hd).1 0
  have hge : decide ((1000 : Int) ≤ (l.length : Int)) = true := decide_eq_true (by omega)
  have hT := hide hT
  clear h
  go_enter Tryd.func25, Tryd.ntmps25
  go_wp2
  go_ret2
  exact ⟨rfl, rfl⟩
/-- The map's own map, new. -/
theorem mp_made (w : World) : (w.alloc (.map #[] 0)).ownsMap (H := Unit) Tryd.prog 9 (plainElem Tryd.prog 3) w.heap.size 0 (.map []) := World.ownsMap_made w _ _ _
set_option maxRecDepth 100000 in
set_option maxHeartbeats 1000000 in
theorem put_room {w : World} {s : ByteArray} {g : Nat} {v : Value} {mv : Option Nat} {l : List ByteArray} (hT : TbAt w g v mv l) (h : l.length < 1000) (hs : s.size ≤ 256) (hf : fnd l s = none) : Calls Tryd.prog 25 #[.pointer (some ⟨g, 0, none⟩), .string s] w fun e w' => ∃ v' mv', e = .returned (.tuple #[.int .i64 (1024 + (l.length : Int)), .bool true]) ∧ TbAt w' g v' mv' (l ++ [s]) ∧ Kp (bls g v mv) w w' ∧ ∀ x ∈ bls g v' mv', x ∈ bls g v mv ∨ w.heap.size ≤ x := by
  obtain ⟨a, c, rfl, hlc, hcm, _⟩ := row_slice hT.row
  obtain ⟨ie, iz, hie0⟩ := infoS
  have hie := hide hie0
  clear hie0
  have hmm := @run_makeMap Tryd.prog
  have hc : w.cell? ⟨g, 0, none⟩ = some (.slice a l.length c) := (row_reads hT.hd).1 0
  have hc1 : w.cell? ⟨g, 1, none⟩ = some (.map mv) := (row_reads hT.hd).1 1
  have hz1 : w.frozen? ⟨g, 1, none⟩ = false := (row_reads hT.hd).2 1
  have hge : decide ((1000 : Int) ≤ (l.length : Int)) = false := decide_eq_false (by omega)
  have hsum : IntKind.i64.wrap (1024 + (l.length : Int)) = 1024 + (l.length : Int) := i64_wrap _ (by omega)
  have hnew := (fnd_none.1 hf).2
  have hcA : (w.alloc (.map #[] 0)).cell? ⟨g, 1, none⟩ = some (.map mv) := (row_reads (Below.heap_alloc w (.map #[] 0) g (Array.getElem?_eq_some_iff.1 hT.hd).1 |>.trans hT.hd)).1 1
  have hzA : (w.alloc (.map #[] 0)).frozen? ⟨g, 1, none⟩ = false := (row_reads (Below.heap_alloc w (.map #[] 0) g (Array.getElem?_eq_some_iff.1 hT.hd).1 |>.trans hT.hd)).2 1
  have hH := hide (And.intro hT (And.intro h (And.intro hs (And.intro hf (And.intro hnew (And.intro hlc hcm))))))
  cases mv with
  | none =>
    have hmn : ∀ w_ : World, (binOp .eql 43 (.map none) (.map none)).run Tryd.prog w_ = .ok (.bool true) w_ := fun w_ => run_eql_map_nil_sl w_ 43 9 3 none (by kernel_rfl)
    clear hT h hs hf hnew hlc hcm
    go_enter Tryd.func25, Tryd.ntmps25
    go_upto_region 5 with fail
    obtain ⟨w1, hw1⟩ : ∃ w1, (w.alloc (.map #[] 0)).setCell ⟨g, 1, none⟩ (.map (some w.heap.size)) = w1 := ⟨_, rfl⟩
    obtain ⟨mb, hmb⟩ : ∃ mb, w.heap.size = mb := ⟨_, rfl⟩
    have HW : Hid (w1.heap[g]? = some (.cells #[.slice a l.length c, .map (some mb)] 45 (0, 0)) ∧ w1.ownsRow 0 9 1 (.slice a l.length c) l.length (l.map .string) ∧ (∃ D : DataW Unit, w1.ownsMap Tryd.prog 9 (plainElem Tryd.prog 3) mb l.length D ∧ Maps.IsMap D ∧
        ∀ s : ByteArray, Maps.has D (ky s) = (place l s).isSome ∧ ∀ i, place l s = some i → D.atKey (ky s) (.lit (.int .i64 0)) = .lit (.int .i64 (1024 + (i : Int)))) ∧ Kp (bls g (.slice a l.length c) none) w w1 ∧ (mb ∈ bls g (.slice a l.length c) none ∨ w.heap.size ≤ mb) ∧ mb ≠ g ∧ (Value.slice a l.length c).ownBlock ≠ some mb) := by
      obtain ⟨hT, hl, _⟩ := hH.out
      have hlt := hT.lt
      have hg : g < w.heap.size := hlt g (mem_bls.2 (.inl rfl))
      have ne := hT.ne
      have h1 := heap_setCell_same _ g 1 _ _ (.map (some w.heap.size)) (Below.heap_alloc w (.map #[] 0) g hg |>.trans hT.hd)
      have k1 : Kp [g] w w1 := by rw [← hw1]; exact ((Kp.refl _ w).alloc _).setCell (by simp) _
      have k0 : Kp [g] (w.alloc (.map #[] 0)) w1 := by rw [← hw1]; exact (Kp.refl _ _).setCell (by simp) _
      have hl0 : l = [] := by rcases hT.mp with h | ⟨_, _, h, _⟩; exact h.2; cases h
      subst hl0
      refine ⟨by rw [← hmb, ← hw1]; exact h1, row_kp hT.row k1 (fun x hx => by simp only [List.mem_singleton]; intro e; subst e; exact ne.1 hx), ⟨.map [], map_kp (by rw [← hmb]; exact mp_made w) k0 (by simp; omega), ⟨[], rfl⟩, fun s => ⟨rfl, fun i hi => by cases hi⟩⟩, k1.mono (by simp [mem_bls]), .inr (by omega), by omega, fun e => ?_⟩
      have := hlt mb (mem_bls.2 (.inr (.inl e)))
      omega
    rw [hw1, hmb]
    clear hw1 hmb hcA hzA hc hc1 hz1 hmm hmn
    have q0 := (row_reads HW.out.1).1 0
    have q1 := (row_reads HW.out.1).1 1
    simp only [List.getElem?_toArray, List.getElem?_cons_zero, List.getElem?_cons_succ] at q0 q1
    have z0 := (row_reads HW.out.1).2 0
    go_wp2_with (at_builtin; refine wpList_append_own_at _ rfl (.tmp 32) (.tmp 34) 28 rfl 0 9 ie iz 1 16 (by kernel_rfl) hie.out.1 hie.out.2.1 hie.out.2.2.1 hie.out.2.2.2.1 hie.out.2.2.2.2 (by decide) (.slice a l.length c) l.length (l.map .string) rfl (HW.out.2.1.alloc _) ⟨w1.heap.size, 0, none⟩ 1 1 [.string s] rfl rfl (cell_one_new _ _ _) (by simp [Value.oneCell']) (by have := hH.out.2.1; unfold maxLen; omega) (by have := hH.out.2.1; omega) (Nat.zero_le _) ?_)
    intro v' w2 ho2 gr2 _ hat2
    obtain ⟨a2, c2, rfl⟩ := row_val ho2
    have HA := hide (And.intro ho2 (And.intro gr2 hat2))
    clear ho2 gr2 hat2 q0 q1 z0
    obtain ⟨H2, HM, HV⟩ : Hid (w2.heap[g]? = some (.cells #[.slice a l.length c, .map (some mb)] 45 (0, 0))) ∧ Hid ((w2.setCell ⟨g, 0, none⟩ (Value.slice a2 (l.length + 1) c2)).heap[g]? = some (.cells #[(Value.slice a2 (l.length + 1) c2), .map (some mb)] 45 (0, 0))) ∧ Hid (w2.ownsRow 0 9 1 (Value.slice a2 (l.length + 1) c2) (l.length + 1) ((l ++ [s]).map .string) ∧ Kp (bls g (.slice a l.length c) none) w w2 ∧ (∀ x, (Value.slice a2 (l.length + 1) c2).ownBlock = some x → x ≠ g ∧ x ≠ mb ∧ (x ∈ bls g (.slice a l.length c) none ∨ w.heap.size ≤ x)) ∧ w1.heap.size ≤ w2.heap.size ∧ Kp (Value.slice a l.length c).ownBlock.toList w1 w2) := by
      obtain ⟨h1, h2, ⟨D, h3, _⟩, h4, h5, h6, h7⟩ := HW.out
      obtain ⟨ho2, gr2, hat2⟩ := HA.out
      have hsz : w1.heap.size + 1 = (w1.alloc (.cells #[.string s] 9)).heap.size := by simp
      have ne := hH.out.1.ne
      have hg1 := (Array.getElem?_eq_some_iff.1 h1).1
      have hm1 := h3.lt
      have kk : Kp (Value.slice a l.length c).ownBlock.toList w1 w2 := ((Kp.refl _ w1).alloc _).trans (Kp.grown gr2 (fun k hk => .inl (by rw [hk]; simp)))
      have e2 : w2.heap[g]? = some (.cells #[.slice a l.length c, .map (some mb)] 45 (0, 0)) := kk.heap h1 (fun e => by rw [Option.mem_toList] at e; exact ne.1 e)
      refine ⟨⟨e2⟩, ⟨heap_setCell_same _ g 0 _ _ (Value.slice a2 (l.length + 1) c2) e2⟩, ⟨by rw [List.map_append]; exact ho2, h4.next kk (fun x hx => .inl (mem_bls.2 (.inr (.inl (by rw [Option.mem_toList] at hx; exact hx))))), fun x hx => ?_, kk.size, kk⟩⟩
      rcases hat2 with e | e
      · rw [e] at hx
        exact ⟨fun q => ne.1 (by rw [hx, q]), fun q => h7 (by rw [hx, q]), .inl (mem_bls.2 (.inr (.inl hx)))⟩
      · rw [e] at hx
        injection hx with hx
        have := h4.size
        exact ⟨by omega, by omega, .inr (by omega)⟩
    have q0 := (row_reads H2.out).1 0
    have z0 := (row_reads H2.out).2 0
    have q1 := (row_reads HM.out).1 1
    simp only [List.getElem?_toArray, List.getElem?_cons_zero, List.getElem?_cons_succ] at q0 q1
    obtain ⟨D, hD, hDm, hDs⟩ := HW.out.2.2.1
    have hD3 : Hid ((w2.setCell ⟨g, 0, none⟩ (Value.slice a2 (l.length + 1) c2)).ownsMap Tryd.prog 9 (plainElem Tryd.prog 3) mb l.length D) := by
      obtain ⟨h1, h2, _, h4, h5, h6, h7⟩ := HW.out
      refine ⟨map_kp hD (HV.out.2.2.2.2.mono (T := g :: (Value.slice a l.length c).ownBlock.toList) (fun x hx => List.mem_cons_of_mem _ hx) |>.setCell (by simp) _) (fun e => ?_)⟩
      simp only [List.mem_cons, Option.mem_toList] at e
      rcases e with e | e
      · exact h6 e
      · exact h7 e
    have hDD := hide (And.intro hDm hDs)
    clear hD hDm hDs
    go_wp2_with (at_mapUpdate; refine wpList_mapUpdate_own _ rfl _ _ _ 43 rfl 9 3 keyed (by kernel_rfl) _ mb l.length D rfl hD3.out (by have := hH.out.2.1; unfold maxLen; omega) _ _ _ rfl rfl (key_str (by have := hH.out.2.2.1; unfold maxLen; omega)) _ [] (plainElem_int Tryd.underlying3 (by have := hH.out.2.1; simp [Lit.wf, IntKind.min, IntKind.max, IntKind.signed, IntKind.bits]; omega)) ?_)
    intro w4 ho4 gr4
    have H4 := hide (And.intro ho4 gr4)
    clear ho4 gr4
    go_wp2
    go_ret2
    obtain ⟨h1, h2, _, h4, h5, h6, h7⟩ := HW.out
    have k4 : Kp [mb] (w2.setCell ⟨g, 0, none⟩ (Value.slice a2 (l.length + 1) c2)) w4 := Kp.grown H4.out.2 (fun k hk => .inl (by injection hk with hk; simp [hk]))
    have hb4 : ∀ x ∈ [mb], x ∈ bls g (.slice a l.length c) none ∨ w.heap.size ≤ x := fun x hx => by rw [List.mem_singleton.1 hx]; exact h5
    refine ⟨(Value.slice a2 (l.length + 1) c2), some mb, rfl, ⟨hH.out.1.own.snoc hH.out.2.2.1 hH.out.2.2.2.1 hH.out.2.1, k4.heap HM.out (by simp; omega), ?_, mp_put hH.out.2.2.2.2.1 hDD.out.2 hDD.out.1 H4.out.1⟩, (HV.out.2.1.setCell (mem_bls.2 (.inl rfl)) _).next k4 hb4, fun x hx => ?_⟩
    · rw [List.length_append]
      have k5 : Kp [g, mb] w2 w4 := ((Kp.refl [g, mb] w2).setCell (by simp) (Value.slice a2 (l.length + 1) c2)).trans (k4.mono (by simp))
      exact row_kp HV.out.1 k5 (fun x hx => by have := HV.out.2.2.1 x hx; simp only [List.mem_cons, List.not_mem_nil, or_false, not_or]; exact ⟨this.1, this.2.1⟩)
    · rcases mem_bls.1 hx with rfl | hx | hx
      · exact .inl (mem_bls.2 (.inl rfl))
      · exact (HV.out.2.2.1 x hx).2.2
      · injection hx with hx
        subst hx
        exact h5
  | some mb =>
    have hmn : ∀ w_ : World, (binOp .eql 43 (.map (some mb)) (.map none)).run Tryd.prog w_ = .ok (.bool false) w_ := fun w_ => run_eql_map_nil_sl w_ 43 9 3 (some mb) (by kernel_rfl)
    clear hT h hs hf hnew hlc hcm
    go_enter Tryd.func25, Tryd.ntmps25
    go_upto_region 5 with fail
    obtain ⟨w1, hw1⟩ : ∃ w1, w = w1 := ⟨_, rfl⟩
    have HW : Hid (w1.heap[g]? = some (.cells #[.slice a l.length c, .map (some mb)] 45 (0, 0)) ∧ w1.ownsRow 0 9 1 (.slice a l.length c) l.length (l.map .string) ∧ (∃ D : DataW Unit, w1.ownsMap Tryd.prog 9 (plainElem Tryd.prog 3) mb l.length D ∧ Maps.IsMap D ∧
        ∀ s : ByteArray, Maps.has D (ky s) = (place l s).isSome ∧ ∀ i, place l s = some i → D.atKey (ky s) (.lit (.int .i64 0)) = .lit (.int .i64 (1024 + (i : Int)))) ∧ Kp (bls g (.slice a l.length c) (some mb)) w w1 ∧ (mb ∈ bls g (.slice a l.length c) (some mb) ∨ w.heap.size ≤ mb) ∧ mb ≠ g ∧ (Value.slice a l.length c).ownBlock ≠ some mb) := by
      obtain ⟨hT, hl, _⟩ := hH.out
      have ne := hT.ne
      subst hw1
      refine ⟨hT.hd, hT.row, ?_, Kp.refl _ _, .inl (mem_bls.2 (.inr (.inr rfl))), fun e => ne.2.1 (by rw [e]), fun e => ne.2.2 mb e rfl⟩
      rcases hT.mp with ⟨h, _⟩ | ⟨mb', D, h, h1, h2⟩
      · cases h
      · injection h with h
        subst h
        exact ⟨D, h1, h1.isMap, h2⟩
    have HK1 := hide hw1
    rw (occs := .pos [1]) [hw1]
    clear hw1 hcA hzA hc hc1 hz1 hmm hmn
    have q0 := (row_reads HW.out.1).1 0
    have q1 := (row_reads HW.out.1).1 1
    simp only [List.getElem?_toArray, List.getElem?_cons_zero, List.getElem?_cons_succ] at q0 q1
    have z0 := (row_reads HW.out.1).2 0
    go_wp2_with (at_builtin; refine wpList_append_own_at _ rfl (.tmp 32) (.tmp 34) 28 rfl 0 9 ie iz 1 16 (by kernel_rfl) hie.out.1 hie.out.2.1 hie.out.2.2.1 hie.out.2.2.2.1 hie.out.2.2.2.2 (by decide) (.slice a l.length c) l.length (l.map .string) rfl (HW.out.2.1.alloc _) ⟨w1.heap.size, 0, none⟩ 1 1 [.string s] rfl rfl (cell_one_new _ _ _) (by simp [Value.oneCell']) (by have := hH.out.2.1; unfold maxLen; omega) (by have := hH.out.2.1; omega) (Nat.zero_le _) ?_)
    intro v' w2 ho2 gr2 _ hat2
    obtain ⟨a2, c2, rfl⟩ := row_val ho2
    have HA := hide (And.intro ho2 (And.intro gr2 hat2))
    clear ho2 gr2 hat2 q0 q1 z0
    obtain ⟨H2, HM, HV⟩ : Hid (w2.heap[g]? = some (.cells #[.slice a l.length c, .map (some mb)] 45 (0, 0))) ∧ Hid ((w2.setCell ⟨g, 0, none⟩ (Value.slice a2 (l.length + 1) c2)).heap[g]? = some (.cells #[(Value.slice a2 (l.length + 1) c2), .map (some mb)] 45 (0, 0))) ∧ Hid (w2.ownsRow 0 9 1 (Value.slice a2 (l.length + 1) c2) (l.length + 1) ((l ++ [s]).map .string) ∧ Kp (bls g (.slice a l.length c) (some mb)) w w2 ∧ (∀ x, (Value.slice a2 (l.length + 1) c2).ownBlock = some x → x ≠ g ∧ x ≠ mb ∧ (x ∈ bls g (.slice a l.length c) (some mb) ∨ w.heap.size ≤ x)) ∧ w1.heap.size ≤ w2.heap.size ∧ Kp (Value.slice a l.length c).ownBlock.toList w1 w2) := by
      obtain ⟨h1, h2, ⟨D, h3, _⟩, h4, h5, h6, h7⟩ := HW.out
      obtain ⟨ho2, gr2, hat2⟩ := HA.out
      have hsz : w1.heap.size + 1 = (w1.alloc (.cells #[.string s] 9)).heap.size := by simp
      have ne := hH.out.1.ne
      have hg1 := (Array.getElem?_eq_some_iff.1 h1).1
      have hm1 := h3.lt
      have kk : Kp (Value.slice a l.length c).ownBlock.toList w1 w2 := ((Kp.refl _ w1).alloc _).trans (Kp.grown gr2 (fun k hk => .inl (by rw [hk]; simp)))
      have e2 : w2.heap[g]? = some (.cells #[.slice a l.length c, .map (some mb)] 45 (0, 0)) := kk.heap h1 (fun e => by rw [Option.mem_toList] at e; exact ne.1 e)
      refine ⟨⟨e2⟩, ⟨heap_setCell_same _ g 0 _ _ (Value.slice a2 (l.length + 1) c2) e2⟩, ⟨by rw [List.map_append]; exact ho2, h4.next kk (fun x hx => .inl (mem_bls.2 (.inr (.inl (by rw [Option.mem_toList] at hx; exact hx))))), fun x hx => ?_, kk.size, kk⟩⟩
      rcases hat2 with e | e
      · rw [e] at hx
        exact ⟨fun q => ne.1 (by rw [hx, q]), fun q => h7 (by rw [hx, q]), .inl (mem_bls.2 (.inr (.inl hx)))⟩
      · rw [e] at hx
        injection hx with hx
        have := h4.size
        exact ⟨by omega, by omega, .inr (by omega)⟩
    have q0 := (row_reads H2.out).1 0
    have z0 := (row_reads H2.out).2 0
    have q1 := (row_reads HM.out).1 1
    simp only [List.getElem?_toArray, List.getElem?_cons_zero, List.getElem?_cons_succ] at q0 q1
    obtain ⟨D, hD, hDm, hDs⟩ := HW.out.2.2.1
    have hD3 : Hid ((w2.setCell ⟨g, 0, none⟩ (Value.slice a2 (l.length + 1) c2)).ownsMap Tryd.prog 9 (plainElem Tryd.prog 3) mb l.length D) := by
      obtain ⟨h1, h2, _, h4, h5, h6, h7⟩ := HW.out
      refine ⟨map_kp hD (HV.out.2.2.2.2.mono (T := g :: (Value.slice a l.length c).ownBlock.toList) (fun x hx => List.mem_cons_of_mem _ hx) |>.setCell (by simp) _) (fun e => ?_)⟩
      simp only [List.mem_cons, Option.mem_toList] at e
      rcases e with e | e
      · exact h6 e
      · exact h7 e
    have hDD := hide (And.intro hDm hDs)
    clear hD hDm hDs
    go_wp2_with (at_mapUpdate; refine wpList_mapUpdate_own _ rfl _ _ _ 43 rfl 9 3 keyed (by kernel_rfl) _ mb l.length D rfl hD3.out (by have := hH.out.2.1; unfold maxLen; omega) _ _ _ rfl rfl (key_str (by have := hH.out.2.2.1; unfold maxLen; omega)) _ [] (plainElem_int Tryd.underlying3 (by have := hH.out.2.1; simp [Lit.wf, IntKind.min, IntKind.max, IntKind.signed, IntKind.bits]; omega)) ?_)
    intro w4 ho4 gr4
    have H4 := hide (And.intro ho4 gr4)
    clear ho4 gr4
    go_wp2
    go_ret2
    obtain ⟨h1, h2, _, h4, h5, h6, h7⟩ := HW.out
    have k4 : Kp [mb] (w2.setCell ⟨g, 0, none⟩ (Value.slice a2 (l.length + 1) c2)) w4 := Kp.grown H4.out.2 (fun k hk => .inl (by injection hk with hk; simp [hk]))
    have hb4 : ∀ x ∈ [mb], x ∈ bls g (.slice a l.length c) (some mb) ∨ w.heap.size ≤ x := fun x hx => by rw [List.mem_singleton.1 hx]; exact h5
    refine ⟨(Value.slice a2 (l.length + 1) c2), some mb, rfl, ⟨hH.out.1.own.snoc hH.out.2.2.1 hH.out.2.2.2.1 hH.out.2.1, k4.heap HM.out (by simp; omega), ?_, mp_put hH.out.2.2.2.2.1 hDD.out.2 hDD.out.1 H4.out.1⟩, (HV.out.2.1.setCell (mem_bls.2 (.inl rfl)) _).next k4 hb4, fun x hx => ?_⟩
    · rw [List.length_append]
      have k5 : Kp [g, mb] w2 w4 := ((Kp.refl [g, mb] w2).setCell (by simp) (Value.slice a2 (l.length + 1) c2)).trans (k4.mono (by simp))
      exact row_kp HV.out.1 k5 (fun x hx => by have := HV.out.2.2.1 x hx; simp only [List.mem_cons, List.not_mem_nil, or_false, not_or]; exact ⟨this.1, this.2.1⟩)
    · rcases mem_bls.1 hx with rfl | hx | hx
      · exact .inl (mem_bls.2 (.inl rfl))
      · exact (HV.out.2.2.1 x hx).2.2
      · injection hx with hx
        subst hx
        exact h5
end Go.Proofs.YtcmalffpahkleaaDoor
