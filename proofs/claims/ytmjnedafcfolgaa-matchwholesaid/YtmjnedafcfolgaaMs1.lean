/- Sets of steps: the program's calls that put a step in, and that empty the set. -/
import Derived.Test.YtmjnedafcfolgaaMs0
namespace Go.Proofs.Ytmjnedafcfolgaa
open Go.RowKit
theorem infoI : ∃ i, Try.prog.info? 3 = some i ∧ i.size = 1 := by
  have he : (Try.prog.info? 3).map (fun i => i.size) = some 1 := by kernel_rfl
  cases hi : Try.prog.info? 3 with
  | none => rw [hi] at he; cases he
  | some i => rw [hi] at he; simp at he; exact ⟨i, rfl, he⟩
/-- A number put behind others of a row with room. -/
theorem wpList_append_room {ops : Array Oper} {rest : List Oper} {o : Oper} {a : Act} {w : World} {Q : Exit → Act → World → Prop} (hgd : o.guard = none) (s x : Operand) (ho : o.op = .call { callee := .builtin .append, args := #[s, x], argTypes := #[42, 42] })
    {g n N b c : Nat} {cur : Array Value} {z : Int} (hs : a.eval s = .slice (some ⟨g, 0, none⟩) n N) (hx : a.eval x = .slice (some ⟨b, 0, none⟩) 1 c) (hr : w.heap[g]? = some (.cells cur 3 (0, 0))) (hb : w.cell? ⟨b, 0, none⟩ = some (.int .i64 z)) (hn : n < N) (hc : cur.size = N)
    (hk : ∀ cs : Array Value, cs.size = N → (∀ j, j < n → cs[j]? = cur[j]?) → cs[n]? = some (.int .i64 z) → wpList Try.prog ops Q rest (a.put o.dst (.slice (some ⟨g, 0, none⟩) (n + 1) N)) (w.setRow g cs)) : wpList Try.prog ops Q (o :: rest) a w := by
  obtain ⟨i, hi, hsz⟩ := infoI
  refine wpList_plain hgd fun K hK => ?_
  have hrun := Go.run_append_room (P := Try.prog) w 42 o.type 3 i (by kernel_rfl) hi g n N cur hr ⟨b, 0, none⟩ 1 c [.int .i64 z] (by simp [hsz]) (fun j u h => by
    obtain ⟨rfl, rfl⟩ : j = 0 ∧ Value.int .i64 z = u := by cases j with
      | zero => simp at h; exact ⟨rfl, h⟩
      | succ j => simp at h
    exact hb) (by simp [Value.oneCell']) (by omega) (by simp [hsz]; omega)
  rw [← hs, ← hx] at hrun
  refine Oper.wp_value (run_op_append ho hrun) (hK _ _ (hk _ ?_ ?_ ?_))
  · simp [hsz]; omega
  · intro j hj
    simp [hsz]
    rw [List.getElem?_append_left (by simp; omega), List.getElem?_take, if_pos hj]
    simp
  · simp [hsz]
    rw [List.getElem?_append_right (by simp; omega), List.length_take, Array.length_toList, Nat.min_eq_left (by omega), Nat.sub_self]
    rfl
/-- A new member's mark, its number in the list, and the list's length. -/
theorem ss_add {w w' : World} {x : Sb} {N : Nat} {L : List Nat} (h : SsAt w x N L) {i : Nat} (hi : i < N) (hn : i ∉ L) {cur cs bs : Array Value} (hcur : w.heap[x.a]? = some (.cells cur 3 (0, 0))) (hc : cs.size = N) (h1 : ∀ j, j < L.length → cs[j]? = cur[j]?) (h2 : cs[L.length]? = some (.int .i64 (i : Int)))
    (hbs : w.heap[x.b]? = some (.cells bs 4 (0, 0))) (k1 : w'.heap[x.k]? = some (.cells #[.slice (some ⟨x.a, 0, none⟩) (L.length + 1) N, .slice (some ⟨x.b, 0, none⟩) N N] 45 (0, 0))) (k2 : w'.heap[x.a]? = some (.cells cs 3 (0, 0))) (k3 : w'.heap[x.b]? = some (.cells (bs.setIfInBounds i (.bool true)) 4 (0, 0))) : SsAt w' x N (ins L i) := by
  obtain ⟨g1, g2, ⟨cs', g3, g4, g5⟩, bs', g6, g7, g8⟩ := h
  rw [hcur] at g3
  injection g3 with g3; injection g3 with g3; subst g3
  rw [hbs] at g6
  injection g6 with g6; injection g6 with g6; subst g6
  have hf : Few N (ins L i) := g1.1.ins hi
  have he : ins L i = L ++ [i] := by unfold ins; rw [if_neg hn]
  rw [he] at hf ⊢
  refine ⟨⟨hf, g1.2⟩, by rw [k1]; simp, ⟨cs, k2, hc, fun j y hj => ?_⟩, _, k3, by simpa using g7, fun j hj => ?_⟩
  · by_cases hl : j < L.length
    · rw [List.getElem?_append_left hl] at hj
      rw [h1 j hl]
      exact g5 j y hj
    · rw [List.getElem?_append_right (by omega)] at hj
      obtain ⟨h0, rfl⟩ : j - L.length = 0 ∧ i = y := by
        cases hd : j - L.length with
        | zero => rw [hd] at hj; simp at hj; exact ⟨rfl, hj⟩
        | succ d => rw [hd] at hj; simp at hj
      obtain rfl : j = L.length := by omega
      exact h2
  · rw [Array.getElem?_setIfInBounds]
    by_cases hij : i = j
    · subst hij
      rw [if_pos rfl, if_pos (by omega)]
      simp
    · rw [if_neg hij, g8 j hj]
      congr 2
      simp
      omega
set_option maxRecDepth 100000 in
set_option maxHeartbeats 2000000 in
theorem sadd_any {w : World} {x : Sb} {N : Nat} {L : List Nat} (h : SsAt w x N L) {i : Nat} (hi : i < N) : Calls Try.prog 23 #[.pointer (some ⟨x.k, 0, none⟩), .int .i64 (i : Int)] w fun e w' => e = .returned (.tuple #[]) ∧ SsAt w' x N (ins L i) ∧ Kp x.all w w' := by
  have H := hide h
  have HN := hide h.ne
  obtain ⟨g1, g2, ⟨cs, g3, g4, g5⟩, bs, g6, g7, g8⟩ := h
  have c1 := (row_reads g2).1 1
  simp only [List.getElem?_toArray, List.getElem?_cons_zero, List.getElem?_cons_succ] at c1
  have c2 := (row_reads g6).1 i
  have hN : N ≤ 1000 := g1.2.2
  have hL := few_lt g1.1
  rw [g8 i hi] at c2
  by_cases hm : i ∈ L
  · rw [decide_eq_true hm] at c2
    clear g1 g2 g3 g4 g5 g6 g7 g8
    go_enter Try.func23, Try.ntmps23
    go_wp2
    refine bodyPost_ret (results_none rfl _ _ _) rfl ?_
    refine ⟨rfl, ?_, Kp.refl _ _⟩
    unfold ins
    rw [if_pos hm]
    exact H.out
  · rw [decide_eq_false hm] at c2
    have hroom : L.length < N := g1.1.room hi hm
    have f2 := (row_reads g6).2 i
    have b1 : (w.setCell ⟨x.b, i, none⟩ (.bool true)).heap[x.b]? = some (.cells (bs.setIfInBounds i (.bool true)) 4 (0, 0)) := heap_setCell_same _ _ _ _ _ _ g6
    have b2 : (w.setCell ⟨x.b, i, none⟩ (.bool true)).heap[x.k]? = some (.cells #[.slice (some ⟨x.a, 0, none⟩) L.length N, .slice (some ⟨x.b, 0, none⟩) N N] 45 (0, 0)) := (heap_setCell_other _ _ _ _ HN.out.2.1).trans g2
    have b3 : (w.setCell ⟨x.b, i, none⟩ (.bool true)).heap[x.a]? = some (.cells cs 3 (0, 0)) := (heap_setCell_other _ _ _ _ HN.out.2.2).trans g3
    have b4 : Kp x.all w (w.setCell ⟨x.b, i, none⟩ (.bool true)) := (Kp.refl _ _).setCell (by simp [Sb.all]) _
    obtain ⟨d1, _⟩ := (row_reads b2).1 0 |> fun h => And.intro h trivial
    simp only [List.getElem?_toArray, List.getElem?_cons_zero] at d1
    have HB := hide (And.intro b1 (And.intro b2 (And.intro b3 b4)))
    have HG := hide (And.intro g3 (And.intro g6 (And.intro g4 hm)))
    have b3' := hide b3
    clear g1 g2 g3 g4 g5 g6 g7 g8 b1 b2 b3 b4
    go_enter Try.func23, Try.ntmps23
    obtain ⟨w1, hw1⟩ : ∃ w1, w.setCell ⟨x.b, i, none⟩ (.bool true) = w1 := ⟨_, rfl⟩
    rw [hw1] at HB d1 b3'
    have HW := hide (And.intro ((Below.heap (alloc_below w1 (.cells #[.int .i64 (i : Int)] 3)) (Array.getElem?_eq_some_iff.1 HB.out.2.2.1).1 HB.out.2.2.1)) (heap_alloc_new w1 (.cells #[.int .i64 (i : Int)] 3)))
    go_wp2_with (at_builtin; (refine wpList_append_room (g := x.a) (n := L.length) (N := N) (b := w1.heap.size) (c := 1) (cur := cs) (z := (i : Int)) rfl (.tmp 21) (.tmp 23) rfl ?c4 ?c5 ?c2 ?c1 ?c6 ?c3 ?_))
    case c4 => rfl
    case c5 => rfl
    case c2 => exact HW.out.1
    case c1 => exact (row_reads HW.out.2).1 0
    case c6 => exact hroom
    case c3 => exact HG.out.2.2.1
    intro cs' e1 e2 e3
    have HC := hide (And.intro e1 (And.intro e2 e3))
    clear e1 e2 e3
    have k1 : ((w1.alloc (.cells #[.int .i64 (i : Int)] 3)).setRow x.a cs').heap[x.k]? = some (.cells #[.slice (some ⟨x.a, 0, none⟩) L.length N, .slice (some ⟨x.b, 0, none⟩) N N] 45 (0, 0)) := (setRow_other _ _ _ _ HN.out.1).trans (Below.heap (alloc_below _ _) (Array.getElem?_eq_some_iff.1 HB.out.2.1).1 HB.out.2.1)
    have k2 : ((w1.alloc (.cells #[.int .i64 (i : Int)] 3)).setRow x.a cs').heap[x.a]? = some (.cells cs' 3 (0, 0)) := setRow_heap _ _ _ _ _ _ HW.out.1
    have k3 : ((w1.alloc (.cells #[.int .i64 (i : Int)] 3)).setRow x.a cs').heap[x.b]? = some (.cells (bs.setIfInBounds i (.bool true)) 4 (0, 0)) := (setRow_other _ _ _ _ (Ne.symm HN.out.2.2)).trans (Below.heap (alloc_below _ _) (Array.getElem?_eq_some_iff.1 HB.out.1).1 HB.out.1)
    have k4 : Kp x.all w ((w1.alloc (.cells #[.int .i64 (i : Int)] 3)).setRow x.a cs') := (HB.out.2.2.2.alloc _).setRow (by simp [Sb.all]) _
    generalize (w1.alloc (.cells #[.int .i64 (i : Int)] 3)).setRow x.a cs' = w2 at *
    have f3 := (row_reads k1).1 0
    simp only [List.getElem?_toArray, List.getElem?_cons_zero] at f3
    have f4 := (row_reads k1).2 0
    have HK := hide (And.intro k1 (And.intro k2 (And.intro k3 k4)))
    clear k1 k2 k3 k4
    go_wp2
    go_end0
    refine ⟨rfl, ss_add H.out hi HG.out.2.2.2 HG.out.1 HC.out.1 HC.out.2.1 HC.out.2.2 HG.out.2.1 ?_ ((heap_setCell_other _ _ _ _ (Ne.symm HN.out.1)).trans HK.out.2.1) ((heap_setCell_other _ _ _ _ (Ne.symm HN.out.2.1)).trans HK.out.2.2.1), HK.out.2.2.2.setCell (by simp [Sb.all]) _⟩
    rw [heap_setCell_same _ _ _ _ _ _ HK.out.1]
    rfl
theorem setCells_row (b : Nat) (t : TypeId) : ∀ (vs : List Value) (o : Nat) (w : World) (cs : Array Value), w.heap[b]? = some (.cells cs t (0, 0)) → o + vs.length ≤ cs.size →
    ∃ cs' : Array Value, (w.setCells b o vs).heap[b]? = some (.cells cs' t (0, 0)) ∧ cs'.size = cs.size ∧ (∀ j, j < o → cs'[j]? = cs[j]?) ∧ (∀ j, j < vs.length → cs'[o + j]? = vs[j]?) := by
  intro vs
  induction vs with
  | nil => intro o w cs h _; exact ⟨cs, h, rfl, fun _ _ => rfl, fun j hj => by simp at hj⟩
  | cons v vs ih =>
    intro o w cs h hl
    rw [List.length_cons] at hl
    obtain ⟨cs', h1, h2, h3, h4⟩ := ih (o + 1) (w.setCell ⟨b, o, none⟩ v) (cs.setIfInBounds o v) (heap_setCell_same _ _ _ _ _ _ h) (by simp; omega)
    refine ⟨cs', h1, by rw [h2]; simp, fun j hj => ?_, fun j hj => ?_⟩
    · rw [h3 j (by omega), Array.getElem?_setIfInBounds, if_neg (by omega)]
    · cases j with
      | zero =>
        rw [Nat.add_zero, h3 o (by omega), Array.getElem?_setIfInBounds, if_pos rfl, if_pos (by omega)]
        rfl
      | succ j =>
        rw [List.length_cons] at hj
        rw [show o + (j + 1) = o + 1 + j by omega, h4 j (by omega), List.getElem?_cons_succ]
theorem setCells_kp (b : Nat) {S : List Nat} (hb : b ∈ S) : ∀ (vs : List Value) (o : Nat) (w : World), Kp S w (w.setCells b o vs) := by
  intro vs
  induction vs with
  | nil => intro o w; exact Kp.refl _ _
  | cons v vs ih => intro o w; exact ((Kp.refl S w).setCell hb v).trans (ih _ _)
set_option maxRecDepth 100000 in
set_option maxHeartbeats 2000000 in
theorem sclear_any {w : World} {x : Sb} {N : Nat} {L : List Nat} (h : SsAt w x N L) : Calls Try.prog 17 #[.pointer (some ⟨x.k, 0, none⟩)] w fun e w' => e = .returned (.tuple #[]) ∧ SsAt w' x N [] ∧ Kp x.all w w' := by
  have HN := hide h.ne
  obtain ⟨g1, g2, ⟨cs, g3, g4, g5⟩, bs, g6, g7, g8⟩ := h
  have c0 := (row_reads g2).1 0
  simp only [List.getElem?_toArray, List.getElem?_cons_zero] at c0
  have f0 := (row_reads g2).2 0
  have hL := few_lt g1.1
  obtain ⟨w1, hw1⟩ : ∃ w1, w.setCell ⟨x.k, 0, none⟩ (.slice (some ⟨x.a, 0, none⟩) 0 N) = w1 := ⟨_, rfl⟩
  have b1 : w1.heap[x.k]? = some (.cells #[.slice (some ⟨x.a, 0, none⟩) 0 N, .slice (some ⟨x.b, 0, none⟩) N N] 45 (0, 0)) := by
    rw [← hw1, heap_setCell_same _ _ _ _ _ _ g2]
    rfl
  have b2 : w1.heap[x.a]? = some (.cells cs 3 (0, 0)) := by rw [← hw1]; exact (heap_setCell_other _ _ _ _ (Ne.symm HN.out.1)).trans g3
  have b3 : w1.heap[x.b]? = some (.cells bs 4 (0, 0)) := by rw [← hw1]; exact (heap_setCell_other _ _ _ _ (Ne.symm HN.out.2.1)).trans g6
  have b4 : Kp x.all w w1 := by rw [← hw1]; exact (Kp.refl _ _).setCell (by simp [Sb.all]) _
  have d1 := (row_reads b1).1 1
  simp only [List.getElem?_toArray, List.getElem?_cons_zero, List.getElem?_cons_succ] at d1
  have hcl : ∀ ty, (Builtin.clear_ #[43] ty #[.slice (some ⟨x.b, 0, none⟩) N N]).run Try.prog w1 = .ok (.tuple #[]) (w1.setCells x.b 0 (List.replicate N (.bool false))) :=
    fun ty => Lib.run_clear_slice w1 43 4 ty (.bool false) (by kernel_rfl) (fun w => by kernel_rfl) rfl rfl x.b 0 N N g1.2.1 (fun j hj => by rw [(row_reads b3).1, Nat.zero_add, g8 j hj]; rfl) (fun j _ => (row_reads b3).2 _)
  obtain ⟨cs', e1, e2, _, e3⟩ := setCells_row x.b 4 (List.replicate N (.bool false)) 0 w1 bs b3 (by simp; omega)
  have e4 := setCells_kp x.b (S := [x.b]) (by simp) (List.replicate N (.bool false)) 0 w1
  have HF : Hid (SsAt (w1.setCells x.b 0 (List.replicate N (.bool false))) x N [] ∧ Kp x.all w (w1.setCells x.b 0 (List.replicate N (.bool false)))) := by
    refine ⟨⟨⟨Few.nil N, g1.2⟩, e4.heap b1 (by simpa using HN.out.2.1), ⟨cs, e4.heap b2 (by simpa using HN.out.2.2), g4, fun j y h => by simp at h⟩, cs', e1, by rw [e2]; exact g7, fun j hj => ?_⟩, b4.trans (e4.mono (by intro y hy; simp at hy; subst hy; simp [Sb.all]))⟩
    have := e3 j (by simpa using hj)
    rw [Nat.zero_add, List.getElem?_replicate, if_pos hj] at this
    rw [this]
    simp
  generalize w1.setCells x.b 0 (List.replicate N (.bool false)) = w2 at *
  clear b1 b2 b3 b4 e1 e2 e3 e4 g1 g2 g3 g4 g5 g6 g7 g8
  go_enter Try.func17, Try.ntmps17
  go_wp2_with (simp only [hcl])
  go_end0
  exact ⟨rfl, HF.out.1, HF.out.2⟩
end Go.Proofs.Ytmjnedafcfolgaa
