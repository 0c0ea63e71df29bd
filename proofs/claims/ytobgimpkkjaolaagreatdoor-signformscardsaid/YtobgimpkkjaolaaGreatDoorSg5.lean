/- The keys and signatures of seeds; the law's own seed, and the key that every program must know. -/
import Derived.Test.YtobgimpkkjaolaaGreatDoorSg4
namespace Go.Proofs.YtobgimpkkjaolaaGreatDoor
open Go.RowKit
/-- The key of a seed, and what it signs. -/
def pubB (l : List Nat) : List Nat := if l.length = 32 then pubOf (scn l) else []
def sigB (l m : List Nat) : List Nat := if l.length = 32 then sigOf (scn l) (scp l) m else []
theorem own_nil (w : World) (b : Nat) (h : b ≤ w.heap.size) : Own w b (.slice none 0 0) [] := by
  have h2 : Own w w.heap.size (.slice none 0 0) [] := ⟨World.ownsRow_nil _ _ _ _, by simp⟩
  exact h2.low h
set_option maxRecDepth 100000 in
set_option maxHeartbeats 1000000 in
theorem Public_any {v : Value} {l : List Nat} {w : World} (h : BsAt w v l) (LDi : LaidW 2 exw w) (ht : Sh.Tabs w) :
    Calls Tryz.prog 7 #[v] w fun e w' => ∃ v, e = .returned v ∧ Own w' w.heap.size v (pubB l) ∧ Below w.heap.size w w' := by
  unfold pubB
  by_cases hl : l.length = 32
  · rw [if_pos hl]
    have H1 := hide (secretOf_any h ht (by omega))
    have H2 : Hid (∀ (W : World) (a p : Value), Below w.heap.size w W → BsAt W a (scn l) → BsAt W p (scp l) → Calls Tryz.prog 15 #[.agg #[a, p]] W fun e w' => ∃ v, e = .returned v ∧ Own w' W.heap.size v (pubOf (scn l)) ∧ Below W.heap.size W w') := fun W a p hW ha hp => public_any ha hp (LDi.step hW)
    obtain ⟨ao, c, rfl, _, _⟩ := h.len
    rw [hl] at H1 ⊢
    generalize hA : scn l = A at *
    generalize hP : scp l = P at *
    generalize hQ : pubOf A = Q at *
    clear h LDi ht hl hA hP hQ
    go_enter Tryz.func7, Tryz.ntmps7
    go_wp2_with fail
    refine H1.out.mono ?_
    rintro e w1 ⟨a, p, rfl, ha, hp, b1⟩
    have HC := hide (And.intro b1 (H2.out w1 a p b1 ha hp))
    clear ha hp b1
    go_wp2_with fail
    refine HC.out.2.mono ?_
    rintro e w2 ⟨v2, rfl, o2, b2⟩
    have R := hide (And.intro (o2.low HC.out.1.size) (Below.chain HC.out.1 b2))
    clear o2 b2
    go_wp2
    go_ret
    exact ⟨_, rfl, R.out.1, R.out.2⟩
  · rw [if_neg hl]
    obtain ⟨ao, c, rfl, _, hm⟩ := h.len
    have hd : ((l.length : Int) == 32) = false := by rw [beq_eq_false_iff_ne]; omega
    clear h LDi ht hl
    go_enter Tryz.func7, Tryz.ntmps7
    go_wp2
    go_ret
    exact ⟨_, rfl, own_nil _ _ (Nat.le_refl _), Below.refl _ _⟩
set_option maxRecDepth 100000 in
set_option maxHeartbeats 1000000 in
theorem Sign_any {v mv : Value} {l m : List Nat} {w : World} (h : BsAt w v l) (hmv : BsAt w mv m) (hm : m.length ≤ 1000000) (LDi : LaidW 2 exw w) (ht : Sh.Tabs w) (hL : Sc.Laid w) :
    Calls Tryz.prog 9 #[v, mv] w fun e w' => ∃ v, e = .returned v ∧ Own w' w.heap.size v (sigB l m) ∧ Below w.heap.size w w' := by
  unfold sigB
  by_cases hl : l.length = 32
  · rw [if_pos hl]
    have H1 := hide (secretOf_any h ht (by omega))
    have H2 : Hid (∀ (W : World) (a p : Value), Below w.heap.size w W → BsAt W a (scn l) → BsAt W p (scp l) → Calls Tryz.prog 21 #[.agg #[a, p], mv] W fun e w' => ∃ v, e = .returned v ∧ Own w' W.heap.size v (sigOf (scn l) (scp l) m) ∧ Below W.heap.size W w') := fun W a p hW ha hp => sign_any ha hp (hmv.ext hW) (scp_len l) hm (LDi.step hW) (ht.below hW ht.2.2) (hL.step hW) (scn_len l)
    obtain ⟨ao, c, rfl, _, _⟩ := h.len
    rw [hl] at H1 ⊢
    generalize hA : scn l = A at *
    generalize hP : scp l = P at *
    generalize hQ : sigOf A P m = Q at *
    clear h LDi ht hl hA hP hQ hmv hL
    go_enter Tryz.func9, Tryz.ntmps9
    go_wp2_with fail
    refine H1.out.mono ?_
    rintro e w1 ⟨a, p, rfl, ha, hp, b1⟩
    have HC := hide (And.intro b1 (H2.out w1 a p b1 ha hp))
    clear ha hp b1
    go_wp2_with fail
    refine HC.out.2.mono ?_
    rintro e w2 ⟨v2, rfl, o2, b2⟩
    have R := hide (And.intro (o2.low HC.out.1.size) (Below.chain HC.out.1 b2))
    clear o2 b2
    go_wp2
    go_ret
    exact ⟨_, rfl, R.out.1, R.out.2⟩
  · rw [if_neg hl]
    obtain ⟨ao, c, rfl, _, hm⟩ := h.len
    have hd : ((l.length : Int) == 32) = false := by rw [beq_eq_false_iff_ne]; omega
    clear h LDi ht hl hmv hL
    go_enter Tryz.func9, Tryz.ntmps9
    go_wp2
    go_ret
    exact ⟨_, rfl, own_nil _ _ (Nat.le_refl _), Below.refl _ _⟩
/-- 32 bytes of these. -/
def fullb (l : List Nat) : List Nat := (l ++ zz 32).take 32
theorem fullb_len (l : List Nat) : (fullb l).length = 32 := by simp [fullb, zz_len]
theorem own_none0 {w : World} : Own (w.alloc (.cells #[] 5)) w.heap.size (.slice (some ⟨w.heap.size, 0, none⟩) 0 0) [] := own_lit [] (by simp) (by simp)
theorem Own.cut {w : World} {base g n c k : Nat} {l : List Nat} (h : Own w base (.slice (some ⟨g, 0, none⟩) n c) l) (hk : k ≤ l.length) : Own w base (.slice (some ⟨g, 0, none⟩) k c) (l.take k) := by
  have hl := h.row
  refine ⟨?_, take_lim h.lim k⟩
  have e : (l.take k).length = k := by rw [List.length_take]; omega
  rw [e]
  refine ⟨by rw [nv_len, e, Nat.mul_one], ?_⟩
  rcases hl.2 with ⟨e1, _⟩ | ⟨b, cap, cur, e1, hb, hr, hn, hm, hs, ht⟩
  · cases e1
  · injection e1 with e1 e2 e3
    injection e1 with e1
    injection e1 with e4 _ _
    subst e3 e4
    refine .inr ⟨g, c, cur, rfl, hb, hr, by omega, hm, hs, ?_⟩
    have h3 := congrArg (List.take k) ht
    rw [List.take_take, Nat.min_eq_left (by omega)] at h3
    rw [Nat.mul_one, h3]
    unfold nv
    rw [List.map_take]
theorem below_gr {w a b : World} {v : Value} {l : List Nat} {base : Nat} (h : Below w.heap.size w a) (ho : Own a base v l) (hb : w.heap.size ≤ base) (hg : a.grownBy b v.ownBlock) : Below w.heap.size w b :=
  h.grown hg h.size (fun k hk => Nat.le_trans hb (ho.row.lt k hk).1)
set_option maxRecDepth 100000 in
set_option maxHeartbeats 1000000 in
theorem seed_any {v : Value} {l : List Nat} {w : World} (h : BsAt w v l) (hl : l.length ≤ 100) : Calls Tryz.prog 11 #[v] w fun e w' => ∃ v, e = .returned v ∧ Own w' w.heap.size v (fullb l) ∧ Below w.heap.size w w' := by
  have H := hide h
  have HL := hide hl
  obtain ⟨ao, c, rfl, _, _⟩ := h.len
  clear h hl
  go_enter Tryz.func11, Tryz.ntmps11
  have B1 := hide ((Below.refl w.heap.size w).alloc (Nat.le_refl _) (.cells #[] 5))
  go_wp2_with (at_builtin; refine wpList_append_b rfl (.tmp 3) (.tmp 4) rfl (base := w.heap.size) (l := []) (m := l) own_none0 (H.out.ext B1.out) (by have := HL.out; simp; omega) (by simp) ?_)
  intro v1 w1 o1 g1
  have B2 := hide (below_gr B1.out own_none0 (Nat.le_refl _) g1)
  have O1 := hide o1
  have S1 : Hid (w.heap.size ≤ w1.heap.size) := B2.out.size
  clear g1 B1 o1
  go_wp2_with (at_builtin; refine wpList_append_z rfl 32 (by decide) (.tmp 5) _ rfl rfl (base := w.heap.size) O1.out (by have := HL.out; simp; omega) S1.out ?_)
  intro v2 w2 o2 g2
  have B3 := hide (below_gr B2.out O1.out (Nat.le_refl _) g2)
  clear g2 B2 O1 S1
  have hlen : (l ++ zz 32).length = l.length + 32 := by simp [zz_len]
  obtain ⟨g, cap, rfl, _, _, hc, hm⟩ := o2.form (by omega)
  have HB := hide (Own.cut (k := 32) o2 (by omega))
  rw [hlen] at hc ⊢
  have hcc : (32 : Nat) ≤ cap := by omega
  clear hlen hc HL o2
  go_wp2
  go_ret
  exact ⟨_, rfl, HB.out, B3.out⟩
/-- Bytes behind bytes, at a region's list, where a guard lets it be done. -/
theorem wpList_append_bw {ops : Array Oper} {rest : List Oper} {o : Oper} {a : Act} {w : World} {Q : Exit → Act → World → Prop} (hgd : Region.wanted o (yielded ops a.tmps) = true) (s x : Operand) (ho : o.op = .call { callee := .builtin .append, args := #[s, x], argTypes := #[22, 22] })
    {base : Nat} {l m : List Nat} (h : Own w base (a.eval s) l) (hs : BsAt w (a.eval x) m) (hn : l.length + m.length ≤ 1000000000000) (hb : base ≤ w.heap.size)
    (hk : ∀ v' w', Own w' base v' (l ++ m) → w.grownBy w' (a.eval s).ownBlock → wpList Tryz.prog ops Q rest (a.put o.dst v') w') : wpList Tryz.prog ops Q (o :: rest) a w := by
  refine wpList_step fun K hK => ?_
  simp only [hgd, if_true]
  obtain ⟨v', w', hr, h1, h2⟩ := append_run o.type h hs hn hb
  exact Oper.wp_value (run_op_append ho hr) (hK _ _ (hk v' w' h1 h2))
end Go.Proofs.YtobgimpkkjaolaaGreatDoor
