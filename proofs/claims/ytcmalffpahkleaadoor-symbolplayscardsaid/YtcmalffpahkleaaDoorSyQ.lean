/- The page's calls Number, Text, Copy, Add. -/
import Derived.Test.YtcmalffpahkleaaDoorSyP
namespace Go.Proofs.YtcmalffpahkleaaDoor
open Go.RowKit
/-- Texts of one row behind those of another that is the call's own. -/
theorem app_own {w : World} {base n m : Nat} {v sv : Value} {xs ys : List Value} (ty : TypeId) (h : w.ownsRow base 9 1 v n xs) (hs : w.ownsRow 0 9 1 sv m ys) (h1 : ∀ u ∈ ys, u.oneCell' = true) (hn : n + m ≤ 100000) (hb : base ≤ w.heap.size) :
    ∃ v' w', (Builtin.append_ #[28, 28] ty #[v, sv]).run Tryd.prog w = .ok v' w' ∧ w'.ownsRow base 9 1 v' (n + m) (xs ++ ys) ∧ w.grownBy w' v.ownBlock ∧ (v'.ownBlock = v.ownBlock ∨ v'.ownBlock = some w.heap.size) := by
  obtain ⟨i, z, hi, hz, hsz, hbt, hzs⟩ := infoS
  have und : Tryd.prog.underlying 28 = some (.slice 9) := by kernel_rfl
  rcases hs.2 with ⟨rfl, rfl⟩ | ⟨g, cap, cur, rfl, _, hr, hnc, hcm, hcs, ht⟩
  · have hy : ys = [] := List.eq_nil_of_length_eq_zero (by simpa using hs.1)
    subst hy
    refine ⟨v, w, ?_, by rw [List.append_nil]; exact h, ⟨rfl, rfl, rfl, Nat.le_refl _, fun _ _ _ => rfl⟩, .inl rfl⟩
    rcases h.2 with ⟨rfl, _⟩ | ⟨g, cap, cur, rfl, _, _, hnc, _⟩
    · simp [Builtin.append_, run_underlying und, sizeOf, typeInfo, hi, Builtin.lenOf, Builtin.firstCells]
    · simp [Builtin.append_, run_underlying und, sizeOf, typeInfo, hi, Builtin.lenOf, Builtin.firstCells, hnc, storeCells]
  · obtain ⟨v', w', hrun, h2, h3, _, h5⟩ := run_append_own_at (P := Tryd.prog) w base 28 ty 9 i z 1 16 und hi hz hsz hbt hzs (by decide) v n xs h ⟨g, 0, none⟩ m cap ys hs.1 (hs.cells (g := g) rfl) h1 (by unfold maxLen; omega) (by omega) hb
    exact ⟨v', w', hrun, h2, h3, h5⟩
theorem run_op_append {P : Program} {o : Oper} {a : Act} {w w' : World} {v' : Value} {s x : Operand} {ts : Array TypeId} (ho : o.op = .call { callee := .builtin .append, args := #[s, x], argTypes := ts }) (hr : (Builtin.append_ ts o.type #[a.eval s, a.eval x]).run P w = .ok v' w') : (execOp a.eval o).run P w = .ok (.value v') w' := by
  unfold execOp
  simp only [ho, resolve, invoke, builtin, Sem.run_bind, Sem.run_pure, Result.andThen_ok, List.map_toArray, List.map_cons, List.map_nil, hr]
theorem wp_val {P : Program} {o : Oper} {a : Act} {w w' : World} {v : Value} {K : Act → World → Prop} {Q : Exit → Act → World → Prop} (h : (execOp a.eval o).run P w = .ok (.value v) w') (hk : K (a.put o.dst v) w') : o.wp P a w K Q := by
  unfold Oper.wp
  rw [h]
  exact hk
theorem wpList_app {ops : Array Oper} {rest : List Oper} {o : Oper} {a : Act} {w : World} {Q : Exit → Act → World → Prop} (hgd : o.guard = none) (s x : Operand) (ho : o.op = .call { callee := .builtin .append, args := #[s, x], argTypes := #[28, 28] })
    {base n m : Nat} {v sv : Value} {xs ys : List Value} (hs : a.eval s = v) (hx : a.eval x = sv) (h : w.ownsRow base 9 1 v n xs) (hy : w.ownsRow 0 9 1 sv m ys) (h1 : ∀ u ∈ ys, u.oneCell' = true) (hn : n + m ≤ 100000) (hb : base ≤ w.heap.size)
    (hk : ∀ v' w', w'.ownsRow base 9 1 v' (n + m) (xs ++ ys) → w.grownBy w' v.ownBlock → (v'.ownBlock = v.ownBlock ∨ v'.ownBlock = some w.heap.size) → wpList Tryd.prog ops Q rest (a.put o.dst v') w') : wpList Tryd.prog ops Q (o :: rest) a w := by
  refine wpList_plain hgd fun K hK => ?_
  obtain ⟨v', w', hrun, h2, h3, h4⟩ := app_own o.type h hy h1 hn hb
  rw [← hs, ← hx] at hrun
  exact wp_val (run_op_append ho hrun) (hK _ _ (hk _ _ h2 h3 h4))
theorem str_one {l : List ByteArray} : ∀ u ∈ l.map Value.string, u.oneCell' = true := fun u hu => by obtain ⟨x, _, rfl⟩ := List.mem_map.1 hu; rfl
/-- The page's table behind a call. -/
def PtNew (w w' : World) (g : Nat) (v : Value) (l : List ByteArray) : Prop := ∃ v', PtAt w' g v' l ∧ Kp [g] w w' ∧ ∀ x, v'.ownBlock = some x → v.ownBlock = some x ∨ w.heap.size ≤ x
set_option maxRecDepth 100000 in
set_option maxHeartbeats 2000000 in
theorem pNumber_any {w : World} {g : Nat} {v : Value} {l : List ByteArray} (s : ByteArray) (hT : PtAt w g v l) (hl : l.length ≤ 1000) : Calls Tryd.prog 17 #[.pointer (some ⟨g, 0, none⟩), .string s] w fun e w' => e = .returned (numV l s) ∧ PtNew w w' g v (numF l s).2.2 := by
  have HF := hide (pfind_any s hT hl)
  have hc : w.cell? ⟨g, 0, none⟩ = some v := (row_reads hT.hd).1 0
  have hg : g < w.heap.size := (Array.getElem?_eq_some_iff.1 hT.hd).1
  have HT := hide hT
  have HL := hide hl
  obtain ⟨a, c, rfl⟩ := row_val hT.row
  have HG : Hid (∀ W, Below w.heap.size w W → W.cell? ⟨g, 0, none⟩ = some (.slice a l.length c)) := ⟨fun W B => (Below.cell (p := ⟨g, 0, none⟩) B hg).trans hc⟩
  have hgsz := hide hg
  clear hT hl hc hg
  cases hf : fnd l s with
  | some n =>
    have e1 : numF l s = ((n : Int), true, l) := by unfold numF; rw [hf]
    have e2 : pfV l s = (n : Int) := by unfold pfV; rw [hf]
    unfold numV
    rw [e1]
    rw [e2] at HF
    have d0 : decide ((0 : Int) ≤ (n : Int)) = true := decide_eq_true (by omega)
    clear hf e1 e2
    go_enter Tryd.func17, Tryd.ntmps17
    go_wp2_with (go_at_call 21; refine HF.out.mono ?_; rintro e_ w1 ⟨rfl, b1⟩)
    go_ret2
    exact ⟨rfl, _, HT.out.ext b1, Kp.of_below b1, fun x hx => .inl hx⟩
  | none =>
    have e2 : pfV l s = -1 := by unfold pfV; rw [hf]
    rw [e2] at HF
    have d0 : decide ((0 : Int) ≤ (-1 : Int)) = false := decide_eq_false (by omega)
    by_cases hbad : 256 < s.size ∨ 1000 ≤ l.length
    · have e1 : numF l s = (0, false, l) := by unfold numF; rw [hf]; simp only; rw [if_pos hbad]
      unfold numV
      rw [e1]
      clear hf e1 e2
      by_cases h2 : 256 < s.size
      · have d2 : decide ((256 : Int) < (s.size : Int)) = true := decide_eq_true (by omega)
        clear h2 hbad
        go_enter Tryd.func17, Tryd.ntmps17
        go_wp2_with (go_at_call 21; refine HF.out.mono ?_; rintro e_ w1 ⟨rfl, b1⟩; have hc1 := HG.out _ b1)
        go_ret2
        exact ⟨rfl, _, HT.out.ext b1, Kp.of_below b1, fun x hx => .inl hx⟩
      · have d2 : decide ((256 : Int) < (s.size : Int)) = false := decide_eq_false (by omega)
        have d3 : decide ((1000 : Int) ≤ (l.length : Int)) = true := decide_eq_true (by omega)
        clear h2 hbad
        go_enter Tryd.func17, Tryd.ntmps17
        go_wp2_with (go_at_call 21; refine HF.out.mono ?_; rintro e_ w1 ⟨rfl, b1⟩; have hc1 := HG.out _ b1)
        go_ret2
        exact ⟨rfl, _, HT.out.ext b1, Kp.of_below b1, fun x hx => .inl hx⟩
    · have e1 : numF l s = (1024 + (l.length : Int), true, l ++ [s]) := by unfold numF; rw [hf]; simp only; rw [if_neg hbad]
      unfold numV
      rw [e1]
      rw [not_or] at hbad
      have d2 : decide ((256 : Int) < (s.size : Int)) = false := decide_eq_false (by omega)
      have d3 : decide ((1000 : Int) ≤ (l.length : Int)) = false := decide_eq_false (by omega)
      have hsum : IntKind.i64.wrap (1023 + ((l.length + 1 : Nat) : Int)) = 1024 + (l.length : Int) := by rw [i64_wrap _ (by omega)]; omega
      clear hf e1 e2 hbad
      go_enter Tryd.func17, Tryd.ntmps17
      go_wp2_with fail
      refine HF.out.mono ?_
      rintro e_ w1 ⟨rfl, b1⟩
      have hc1 := HG.out _ b1
      have HT1 := hide (HT.out.ext b1)
      have B1 := hide b1
      clear b1
      go_wp2_with (at_builtin; refine wpList_app rfl (.const (.slice none 0 0)) (.tmp 28) rfl (base := w1.heap.size) (n := 0) (m := l.length) (xs := []) (ys := l.map .string) rfl rfl (World.ownsRow_nil _ _ _ _) HT1.out.row str_one (by have := HL.out; omega) (Nat.le_refl _) ?_)
      intro v2 w2 ho2 gr2 at2
      have HA2 := hide (And.intro ho2 (And.intro gr2 at2))
      clear ho2 gr2 at2 hc1
      obtain ⟨a2, c2, rfl⟩ := row_val HA2.out.1
      go_wp2_with (at_builtin; refine wpList_app rfl (.tmp 29) (.tmp 31) rfl (base := w1.heap.size) (n := l.length) (m := 1) (xs := l.map .string) (ys := [.string s]) rfl rfl (HA2.out.1.alloc _) ⟨rfl, .inr ⟨w2.heap.size, 1, #[.string s], rfl, Nat.zero_le _, heap_alloc_new _ _, Nat.le_refl _, by decide, rfl, rfl⟩⟩ (by simp [Value.oneCell']) (by have := HL.out; omega) (by have := HA2.out.2.1.size; simp; omega) ?_)
      intro v3 w3 ho3 gr3 at3
      obtain ⟨a3, c3, rfl⟩ := row_val ho3
      have K3 : Below w1.heap.size w1 w3 := by
        obtain ⟨h1, h2, h3⟩ := HA2.out
        have b2 : Below w1.heap.size w1 w2 := ⟨h2.os, h2.tape, h2.output, h2.size, fun k hk => h2.block k hk (fun e => by cases e)⟩
        have b3 := Below.chain b2 (alloc_below w2 (.cells #[.string s] 9))
        refine b3.trans ⟨gr3.os, gr3.tape, gr3.output, by have := gr3.size; exact this, fun k hk => gr3.block k (Nat.lt_of_lt_of_le hk b3.size) (fun e => ?_)⟩
        rcases h3 with h | h
        · rw [h] at e; cases e
        · rw [h] at e; injection e with e; omega
      have hgr := K3.block g (Nat.lt_of_lt_of_le hgsz.out B1.out.size) |>.trans HT1.out.hd
      have q0 : w3.cell? ⟨g, 0, none⟩ = some (.slice a l.length c) := (row_reads hgr).1 0
      have q1 := (row_reads hgr).2 0
      have HM : Hid ((w3.setCell ⟨g, 0, none⟩ (.slice a3 (l.length + 1) c3)).heap[g]? = some (.cells #[.slice a3 (l.length + 1) c3] 30 (0, 0))) := ⟨heap_setCell_same w3 g 0 _ _ _ hgr⟩
      have r0 : (w3.setCell ⟨g, 0, none⟩ (.slice a3 (l.length + 1) c3)).cell? ⟨g, 0, none⟩ = some (.slice a3 (l.length + 1) c3) := (row_reads HM.out).1 0
      have HB := hide (And.intro ho3 K3)
      clear ho3 gr3 at3 K3 hgr
      obtain ⟨N, hN⟩ : ∃ N, l.length + 1 = N := ⟨_, rfl⟩
      rw [hN] at HM HB r0 hsum ⊢
      have HN := hide hN
      clear hN
      go_wp2
      go_ret2
      obtain ⟨ho3, K3⟩ := HB.out
      have kk : Kp [g] w3 (w3.setCell ⟨g, 0, none⟩ (.slice a3 N c3)) := (Kp.refl _ _).setCell (by simp) _
      have hlt := ho3.lt
      have hw1 := B1.out.size
      have hgs := hgsz.out
      refine ⟨rfl, _, ⟨HM.out, ?_⟩, (Kp.of_below (Below.chain B1.out K3)).trans kk, fun x hx => .inr (by have := (hlt x hx).1; omega)⟩
      have hr : w3.ownsRow 0 9 1 (.slice a3 N c3) (l ++ [s]).length ((l ++ [s]).map .string) := by
        have e1 : (l ++ [s]).length = N := by simp [HN.out]
        rw [e1, List.map_append]
        refine ⟨ho3.1, ?_⟩
        rcases ho3.2 with h | ⟨k, cap, cur, h1, h2, h3⟩
        · exact .inl h
        · exact .inr ⟨k, cap, cur, h1, Nat.zero_le _, h3⟩
      exact row_kp hr kk (fun x hx => by have := (hlt x hx).1; simp; omega)
set_option maxRecDepth 100000 in
set_option maxHeartbeats 2000000 in
theorem pText_any {w : World} {n : Int} {g : Nat} {v : Value} {l : List ByteArray} (hn : -9223372036854775808 ≤ n ∧ n ≤ 9223372036854775807) (hT : PtAt w g v l) : Calls Tryd.prog 11 #[.pointer (some ⟨g, 0, none⟩), .int .i64 n] w fun e w' => e = .returned (txtV l n) ∧ Below w.heap.size w w' := by
  obtain ⟨a, c, rfl, hlc, hcm, hcell⟩ := row_slice hT.row
  have hc : w.cell? ⟨g, 0, none⟩ = some (.slice a l.length c) := (row_reads hT.hd).1 0
  have hH := hide (And.intro hT (And.intro hlc (And.intro hcm (And.intro hcell hn))))
  have HKN := Known_any w
  obtain ⟨L, hL⟩ : ∃ L, kno.map Value.string = L := ⟨_, rfl⟩
  have hL := hide hL
  rw [hL.out] at HKN
  have HKN := hide HKN
  have HR := hide (Below.refl w.heap.size w)
  unfold txtV txtF
  by_cases h0 : n < 0
  · rw [if_pos h0]
    have d0 : decide (0 ≤ n) = false := decide_eq_false (by omega)
    have d24 : decide (1024 ≤ n) = false := decide_eq_false (by omega)
    clear hT hlc hcm hcell hn h0
    go_enter Tryd.func11, Tryd.ntmps11
    go_wp2
    go_ret2
    exact ⟨rfl, HR.out⟩
  · rw [if_neg h0]
    have d0 : decide (0 ≤ n) = true := decide_eq_true (by omega)
    by_cases h16 : n < 16
    · rw [if_pos h16]
      have d16 : decide (n < 16) = true := decide_eq_true h16
      obtain ⟨i, rfl⟩ : ∃ i : Nat, n = (i : Int) := ⟨n.toNat, by omega⟩
      obtain ⟨x, hx⟩ : ∃ x, kno[i]? = some x := ⟨_, List.getElem?_eq_getElem (by rw [kno_len]; omega)⟩
      have hix := kn_ix i x hx hL.out
      rw [Int.toNat_natCast, hx]
      have d0' : decide ((0 : Int) ≤ (i : Int)) = true := d0
      clear hT hlc hcm hcell hn h0 hx h16
      go_enter Tryd.func11, Tryd.ntmps11
      go_wp2_with (go_at_call 20; refine HKN.out.mono ?_; rintro e_ w1 ⟨rfl, b1⟩)
      go_ret2
      exact ⟨rfl, b1⟩
    · rw [if_neg h16]
      have d16 : decide (n < 16) = false := decide_eq_false h16
      by_cases h24 : 1024 ≤ n
      · rw [if_pos h24]
        have d24 : decide (1024 ≤ n) = true := decide_eq_true h24
        obtain ⟨i, rfl⟩ : ∃ i : Nat, n = 1024 + (i : Int) := ⟨n.toNat - 1024, by omega⟩
        have hsub : IntKind.i64.wrap (1024 + (i : Int) - 1024) = (i : Int) := by rw [i64_wrap _ (by omega)]; omega
        have e1 : (1024 + (i : Int)).toNat - 1024 = i := by omega
        rw [e1]
        obtain ⟨m, hm⟩ : ∃ m, 1024 + (i : Int) = m := ⟨_, rfl⟩
        rw [hm] at d0 d16 d24 hsub ⊢
        cases hx : l[i]? with
        | none =>
          have hle : l.length ≤ i := List.getElem?_eq_none_iff.1 hx
          have dl : decide (i < l.length) = false := decide_eq_false (by omega)
          clear hT hlc hcm hcell hn h0 hx h16 h24 e1 hm hle
          go_enter Tryd.func11, Tryd.ntmps11
          go_wp2
          go_ret2
          exact ⟨rfl, HR.out⟩
        | some x =>
          have hlt : i < l.length := (List.getElem?_eq_some_iff.1 hx).1
          have dl : decide (i < l.length) = true := decide_eq_true hlt
          obtain ⟨b, rfl, hb, hcx⟩ := hcell i x hx
          have hix := fun w_ => ix_strs w_ b l.length c i hlt
          clear hT hlc hcm hcell hn h0 hx h16 h24 e1 hm hlt hb
          go_enter Tryd.func11, Tryd.ntmps11
          go_wp2
          go_ret2
          exact ⟨rfl, HR.out⟩
      · rw [if_neg h24]
        have d24 : decide (1024 ≤ n) = false := decide_eq_false h24
        clear hT hlc hcm hcell hn h0 h16 h24
        go_enter Tryd.func11, Tryd.ntmps11
        go_wp2
        go_ret2
        exact ⟨rfl, HR.out⟩
set_option maxRecDepth 100000 in
theorem pCopy_any {w : World} {g : Nat} {v : Value} {l : List ByteArray} (hT : PtAt w g v l) (hl : l.length ≤ 1000) : Calls Tryd.prog 15 #[.pointer (some ⟨g, 0, none⟩)] w fun e w' => ∃ g' v', e = .returned (.pointer (some ⟨g', 0, none⟩)) ∧ PtAt w' g' v' l ∧ Below w.heap.size w w' ∧ w.heap.size ≤ g' ∧ ∀ x, v'.ownBlock = some x → w.heap.size ≤ x := by
  obtain ⟨a, c, rfl⟩ := row_val hT.row
  have hc : w.cell? ⟨g, 0, none⟩ = some (.slice a l.length c) := (row_reads hT.hd).1 0
  have HT := hide hT
  have HL := hide hl
  clear hT hl
  go_enter Tryd.func15, Tryd.ntmps15
  go_wp2_with (at_builtin; refine wpList_app rfl (.const (.slice none 0 0)) (.tmp 6) rfl (base := w.heap.size) (n := 0) (m := l.length) (xs := []) (ys := l.map .string) rfl rfl (World.ownsRow_nil _ _ _ _) HT.out.row str_one (by have := HL.out; omega) (Nat.le_refl _) ?_)
  intro v2 w2 ho2 gr2 at2
  have HA2 := hide (And.intro ho2 (And.intro gr2 at2))
  clear ho2 gr2 at2 hc
  obtain ⟨a2, n2, c2, rfl⟩ : ∃ a2 n2 c2, v2 = .slice a2 n2 c2 := by
    obtain ⟨a3, c3, h⟩ := row_val HA2.out.1
    exact ⟨a3, _, c3, h⟩
  go_wp2
  go_ret
  obtain ⟨h1, h2, h3⟩ := HA2.out
  have b2 : Below w.heap.size w w2 := ⟨h2.os, h2.tape, h2.output, h2.size, fun k hk => h2.block k hk (fun e => by cases e)⟩
  have b3 := alloc_below w2 (.cells #[.slice a2 n2 c2] 30)
  have hr : w2.ownsRow 0 9 1 (.slice a2 n2 c2) l.length (l.map .string) := by
    refine ⟨h1.1, ?_⟩
    rcases h1.2 with h | ⟨k, cap, cur, q1, q2, q3⟩
    · exact .inl h
    · exact .inr ⟨k, cap, cur, q1, Nat.zero_le _, q3⟩
  exact ⟨w2.heap.size, _, rfl, ⟨heap_alloc_new w2 _, row_kp hr (Kp.of_below (S := []) b3) (by simp)⟩, Below.chain b2 b3, b2.size, fun x hx => (h1.lt x hx).1⟩
theorem padd_one {l : List ByteArray} {s : ByteArray} (r : List ByteArray) : (∃ n : Nat, pfV l s = (n : Int) ∧ addF l (s :: r) = none) ∨ (pfV l s = -1 ∧ (numF l s).2.1 = false ∧ addF l (s :: r) = none) ∨ (pfV l s = -1 ∧ (numF l s).2.1 = true ∧ (numF l s).2.2 = l ++ [s] ∧ l.length < 1000 ∧ addF l (s :: r) = addF (l ++ [s]) r) := by
  unfold numF pfV
  cases hf : fnd l s with
  | some n =>
    refine .inl ⟨n, rfl, ?_⟩
    unfold addF
    rw [if_pos (.inr (.inl (by rw [hf]; simp)))]
  | none =>
    simp only
    by_cases h : 256 < s.size ∨ 1000 ≤ l.length
    · rw [if_pos h]
      refine .inr (.inl ⟨trivial, rfl, ?_⟩)
      unfold addF
      rw [if_pos (by rcases h with h | h; exact .inl h; exact .inr (.inr h))]
    · rw [if_neg h]
      rw [not_or] at h
      refine .inr (.inr ⟨trivial, rfl, rfl, by omega, ?_⟩)
      conv => lhs; unfold addF
      rw [if_neg (by rw [hf]; simp; omega)]
/-- What the page's loop keeps. -/
structure PaSt (w wr : World) (g2 : Nat) (v v2 : Value) (l lk a r : List ByteArray) : Prop where
  at_ : PtAt wr g2 v2 lk
  len : lk.length ≤ 1000
  eq : addF l a = addF lk r
  bel : Below w.heap.size w wr
  blk : ∀ x, v2.ownBlock = some x → v.ownBlock = some x ∨ w.heap.size ≤ x
  g2 : w.heap.size ≤ g2
theorem pa_bad {w wr w4 : World} {g g2 : Nat} {v v2 : Value} {l lk a r r2 : List ByteArray} {s : ByteArray} (hT : PtAt w g v l) (h : PaSt w wr g2 v v2 l lk a r) (hr : r = s :: r2) (hno : addF lk (s :: r2) = none) (k4 : Kp [g2] wr w4) :
    Ending.returned (.bool false) = .returned (.bool (addF l a).isSome) ∧ PtNew w w4 g v ((addF l a).getD l) := by
  rw [h.eq, hr, hno]
  have b4 : Below w.heap.size w w4 := h.bel.trans (k4.below h.bel.size (fun x hx => by rw [List.mem_singleton.1 hx]; exact h.g2))
  exact ⟨rfl, v, hT.ext b4, Kp.of_below b4, fun x hx => .inl hx⟩
theorem pa_end {w wr : World} {g g2 : Nat} {v v2 : Value} {l lk a : List ByteArray} (hT : PtAt w g v l) (h : PaSt w wr g2 v v2 l lk a []) (hgr : wr.heap[g]? = some (.cells #[v] 30 (0, 0))) :
    Ending.returned (.bool true) = .returned (.bool (addF l a).isSome) ∧ PtNew w (wr.setCell ⟨g, 0, none⟩ v2) g v ((addF l a).getD l) := by
  have e : addF l a = some lk := by rw [h.eq]; unfold addF; rfl
  rw [e]
  have hg : g < w.heap.size := (Array.getElem?_eq_some_iff.1 hT.hd).1
  have k1 : Kp [g] wr (wr.setCell ⟨g, 0, none⟩ v2) := (Kp.refl _ _).setCell (by simp) _
  refine ⟨rfl, v2, ⟨heap_setCell_same wr g 0 _ _ v2 hgr, row_kp h.at_.row k1 (fun x hx e => ?_)⟩, (Kp.of_below h.bel).trans k1, h.blk⟩
  rw [List.mem_singleton.1 e] at hx
  obtain ⟨cs, hc⟩ := row_heap h.at_.row hx
  rw [hgr] at hc
  injection hc with hc; injection hc with _ hc _; exact absurd hc (by decide)
set_option maxRecDepth 100000 in
set_option maxHeartbeats 2000000 in
theorem pAdd_any {w : World} {g : Nat} {v : Value} {l a : List ByteArray} {ao : Option Addr} {c : Nat} (hT : PtAt w g v l) (hl : l.length ≤ 1000) (hA : NAt w a ao c) : Calls Tryd.prog 13 #[.pointer (some ⟨g, 0, none⟩), .slice ao a.length c] w fun e w' => e = .returned (.bool (addF l a).isSome) ∧ PtNew w w' g v ((addF l a).getD l) := by
  have hg : g < w.heap.size := (Array.getElem?_eq_some_iff.1 hT.hd).1
  obtain ⟨a1, c1, rfl⟩ := row_val hT.row
  have hc : w.cell? ⟨g, 0, none⟩ = some (.slice a1 l.length c1) := (row_reads hT.hd).1 0
  have HT := hide hT
  have HA := hide hA
  have HGS := hide hg
  have HS : Hid (PaSt w (w.alloc (.cells #[.slice a1 l.length c1] 30)) w.heap.size (.slice a1 l.length c1) (.slice a1 l.length c1) l (l ++ a.take 0) a (a.drop 0)) := by
    have b := alloc_below w (.cells #[.slice a1 l.length c1] 30)
    refine ⟨⟨⟨heap_alloc_new w _, ?_⟩, by simpa using hl, by simp, b, fun x hx => .inl hx, Nat.le_refl _⟩⟩
    rw [List.take_zero, List.append_nil]
    exact row_kp hT.row (Kp.of_below (S := []) b) (by simp)
  clear hT hl hA hg
  go_enter Tryd.func13, Tryd.ntmps13
  go_wp2
  generalize w.alloc (.cells #[.slice a1 l.length c1] 30) = w1 at HS ⊢
  obtain ⟨g2, hg2⟩ : ∃ g2, w.heap.size = g2 := ⟨_, rfl⟩
  have HS2 : Hid (PaSt w w1 g2 (.slice a1 l.length c1) (.slice a1 l.length c1) l (l ++ a.take 0) a (a.drop 0)) := by rw [← hg2]; exact HS
  rw [hg2]
  clear HS hg2 hc
  go_loopw [18] (fun i wr => ∃ (k : Nat) (v2 : Value), k ≤ a.length ∧ i = .int .i64 (k : Int) ∧ PaSt w wr g2 (.slice a1 l.length c1) v2 l (l ++ a.take k) a (a.drop k)) (fun i _ => a.length - (intOf i).toNat)
  case atStart => exact ⟨0, _, Nat.zero_le _, rfl, HS2.out⟩
  case round =>
    obtain ⟨k, v3, hk, rfl, hS⟩ := hrel
    have H3 := hide hS
    clear hS HS2
    by_cases hlt : k < a.length
    · have dl : decide (k < a.length) = true := decide_eq_true hlt
      obtain ⟨s, hs⟩ : ∃ s, a[k]? = some s := ⟨_, List.getElem?_eq_getElem hlt⟩
      obtain ⟨b, o, rfl, hbb, hrd⟩ := HA.out.read (by omega)
      have hcs := (hrd k s hs).2 _ H3.out.bel
      have hix := fun w_ => ix_names w_ b o a.length c k hlt
      have hk1 := step_of hlt HA.out.1 HA.out.2.1
      have HF := pfind_any s H3.out.at_ H3.out.len
      have hone := padd_one (l := l ++ a.take k) (s := s) (a.drop (k + 1))
      have hdrop : a.drop k = s :: a.drop (k + 1) := by rw [List.drop_eq_getElem_cons hlt]; rw [List.getElem?_eq_getElem hlt] at hs; injection hs with hs; rw [hs]
      have htake : l ++ a.take (k + 1) = l ++ a.take k ++ [s] := by rw [List.take_add_one, hs, List.append_assoc]; rfl
      have HD := hide (And.intro hdrop (And.intro htake hlt))
      clear hdrop htake hrd hbb hs hk hlt
      rcases hone with ⟨n, hp, hno⟩ | ⟨hp, hy, hno⟩ | ⟨hp, hy, hnl, hll, hyes⟩
      · rw [hp] at HF
        have HF := hide HF
        have d0 : decide ((0 : Int) ≤ (n : Int)) = true := decide_eq_true (by omega)
        have HO := hide hno
        clear hp hno
        go_wp2_with (go_at_call 21; refine HF.out.mono ?_; rintro e_ w4 ⟨rfl, b4⟩)
        go_ret
        exact pa_bad HT.out H3.out HD.out.1 HO.out (Kp.of_below b4)
      · rw [hp] at HF
        have HF := hide HF
        have d0 : decide ((0 : Int) ≤ (-1 : Int)) = false := decide_eq_false (by omega)
        have HO := hide (And.intro hno hy)
        clear hp hno hy
        go_wp2_with fail
        refine HF.out.mono ?_
        rintro e_ w4 ⟨rfl, b4⟩
        have HN := pNumber_any s (H3.out.at_.ext b4) H3.out.len
        unfold numV at HN
        rw [HO.out.2] at HN
        have HN := hide HN
        have B4 := hide b4
        clear b4
        go_wp2_with (go_at_call 17; refine HN.out.mono ?_; rintro e_ w5 ⟨rfl, v5, h5, k5, n5⟩)
        go_ret
        exact pa_bad HT.out H3.out HD.out.1 HO.out.1 ((Kp.of_below B4.out).trans k5)
      · rw [hp] at HF
        have HF := hide HF
        have d0 : decide ((0 : Int) ≤ (-1 : Int)) = false := decide_eq_false (by omega)
        have HO := hide (And.intro hyes (And.intro hy (And.intro hnl hll)))
        clear hp hyes hy hnl hll
        go_wp2_with fail
        refine HF.out.mono ?_
        rintro e_ w4 ⟨rfl, b4⟩
        have HN := pNumber_any s (H3.out.at_.ext b4) H3.out.len
        unfold numV at HN
        rw [HO.out.2.1, HO.out.2.2.1] at HN
        have HN := hide HN
        have B4 := hide b4
        clear b4
        go_wp2_with (go_at_call 17; refine HN.out.mono ?_; rintro e_ w5 ⟨rfl, hN5⟩; have HN5 := hide hN5; clear hN5)
        obtain ⟨v5, h5, k5, n5⟩ := HN5.out
        obtain ⟨d1, d2, d3⟩ := HD.out
        have h := H3.out
        have k6 : Kp [g2] wr w5 := (Kp.of_below B4.out).trans k5
        refine ⟨⟨k + 1, v5, d3, by simp, ?_⟩, by simp only [intOf]; omega⟩
        rw [d2]
        refine ⟨h5, by have := HO.out.2.2.2; simp only [List.length_append, List.length_singleton] at this ⊢; omega, by rw [h.eq, d1, HO.out.1], h.bel.trans (k6.below h.bel.size (fun x hx => by rw [List.mem_singleton.1 hx]; exact h.g2)), fun x hx => ?_, h.g2⟩
        rcases n5 x hx with q | q
        · exact h.blk x q
        · exact .inr (Nat.le_trans (Nat.le_trans h.bel.size B4.out.size) q)
    · have dl : decide (k < a.length) = false := decide_eq_false hlt
      have hka : k = a.length := by omega
      subst hka
      have HE : Hid (PaSt w wr g2 (.slice a1 l.length c1) v3 l (l ++ a) a []) := by
        have h := H3.out
        rw [List.take_length, List.drop_length] at h
        exact ⟨h⟩
      have p0 : wr.cell? ⟨g2, 0, none⟩ = some v3 := (row_reads HE.out.at_.hd).1 0
      have hgr := HE.out.bel.block g HGS.out |>.trans HT.out.hd
      have q0 := (row_reads hgr).2 0
      have r0 : wr.cell? ⟨g, 0, none⟩ = some (.slice a1 l.length c1) := (row_reads hgr).1 0
      obtain ⟨a3, n3, c3, rfl⟩ : ∃ a3 n3 c3, v3 = .slice a3 n3 c3 := by
        obtain ⟨a3, c3, h⟩ := row_val HE.out.at_.row
        exact ⟨a3, _, c3, h⟩
      have HGR := hide hgr
      clear hgr hlt hk H3
      go_wp2
      go_ret
      exact pa_end HT.out HE.out HGR.out
end Go.Proofs.YtcmalffpahkleaaDoor
