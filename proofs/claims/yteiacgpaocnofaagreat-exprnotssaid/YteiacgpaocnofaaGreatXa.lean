/- Expressions and bindings: the calls that ask whether they may be. -/
import Derived.Test.YteiacgpaocnofaaGreatMs
import Derived.Test.YteiacgpaocnofaaGreatTb
import Derived.Test.YteiacgpaocnofaaGreatTy7
import Derived.Test.YteiacgpaocnofaaGreatMb
import Derived.Test.YteiacgpaocnofaaGreatTz
import Derived.Test.YteiacgpaocnofaaGreatUn
import Derived.Test.YteiacgpaocnofaaGreatOq
import Derived.BigQuiet
/- Expressions: operations, one behind the other; how many terms they leave. -/
namespace Go.Proofs.YteiacgpaocnofaaGreat
open Go.RowKit
/-- An operation: its kind, term, code, and how many it may skip. -/
structure Ox where
  kd : Int
  t : Tm
  cd : Int
  sk : Int
def zeroT (t : Tm) : Bool := (t.k == 0) && (t.n == 0) && t.s.toList.isEmpty && ((t.l.length : Int) == 0)
def isOpB (x : Ox) : Bool :=
  if x.kd = 1 then mayT x.t && (x.cd == 0) && (x.sk == 0)
  else if x.kd = 2 then zeroT x.t && (x.sk == 0) && decide (1 ≤ x.cd) && decide (x.cd ≤ 3)
  else if x.kd = 3 then zeroT x.t && (x.sk == 0) && decide (1 ≤ x.cd) && decide (x.cd ≤ 19)
  else if x.kd = 4 ∨ x.kd = 5 then zeroT x.t && (x.cd == 0) && decide (1 ≤ x.sk)
  else false
def takesN (k : Int) : Int := if k = 2 ∨ k = 4 ∨ k = 5 then 1 else if k = 3 then 2 else 0
theorem takes_le (k : Int) : 0 ≤ takesN k ∧ takesN k ≤ 2 := by unfold takesN; split; · omega
                                                               split <;> omega
theorem op_kind {x : Ox} (h : isOpB x = true) : x.kd = 1 ∨ x.kd = 2 ∨ x.kd = 3 ∨ x.kd = 4 ∨ x.kd = 5 := by
  unfold isOpB at h
  by_cases h1 : x.kd = 1
  · omega
  rw [if_neg h1] at h
  by_cases h2 : x.kd = 2
  · omega
  rw [if_neg h2] at h
  by_cases h3 : x.kd = 3
  · omega
  rw [if_neg h3] at h
  by_cases h4 : x.kd = 4 ∨ x.kd = 5
  · omega
  · rw [if_neg h4] at h; cases h
theorem op_1 {x : Ox} (h : isOpB x = true) (hk : x.kd = 1) : mayT x.t = true ∧ x.cd = 0 ∧ x.sk = 0 := by
  unfold isOpB at h
  rw [if_pos hk] at h
  simp only [Bool.and_eq_true, beq_iff_eq] at h
  exact ⟨h.1.1, h.1.2, h.2⟩
theorem op_2 {x : Ox} (h : isOpB x = true) (hk : x.kd = 2) : zeroT x.t = true ∧ x.sk = 0 ∧ 1 ≤ x.cd ∧ x.cd ≤ 3 := by
  unfold isOpB at h
  rw [if_neg (by omega), if_pos hk] at h
  simp only [Bool.and_eq_true, beq_iff_eq, decide_eq_true_eq] at h
  exact ⟨h.1.1.1, h.1.1.2, h.1.2, h.2⟩
theorem op_3 {x : Ox} (h : isOpB x = true) (hk : x.kd = 3) : zeroT x.t = true ∧ x.sk = 0 ∧ 1 ≤ x.cd ∧ x.cd ≤ 19 := by
  unfold isOpB at h
  rw [if_neg (by omega), if_neg (by omega), if_pos hk] at h
  simp only [Bool.and_eq_true, beq_iff_eq, decide_eq_true_eq] at h
  exact ⟨h.1.1.1, h.1.1.2, h.1.2, h.2⟩
theorem op_45 {x : Ox} (h : isOpB x = true) (hk : x.kd = 4 ∨ x.kd = 5) : zeroT x.t = true ∧ x.cd = 0 ∧ 1 ≤ x.sk := by
  unfold isOpB at h
  rw [if_neg (by omega), if_neg (by omega), if_neg (by omega), if_pos hk] at h
  simp only [Bool.and_eq_true, beq_iff_eq, decide_eq_true_eq] at h
  exact ⟨h.1.1, h.1.2, h.2⟩
theorem op_sk {x : Ox} (h : isOpB x = true) : 0 ≤ x.sk := by
  rcases op_kind h with h1 | h1 | h1 | h1 | h1
  · have := (op_1 h h1).2.2; omega
  · have := (op_2 h h1).2.1; omega
  · have := (op_3 h h1).2.1; omega
  · have := (op_45 h (.inl h1)).2.2; omega
  · have := (op_45 h (.inr h1)).2.2; omega
/-- How many terms lie on the stack behind these operations, if so many lay on it ahead of them, and if they may be. -/
def hgF : Nat → List Ox → Int → Option Int
  | 0, _, _ => none
  | _ + 1, [], h => some h
  | f + 1, x :: r, h =>
    if isOpB x = true ∧ takesN x.kd ≤ h ∧ x.sk ≤ (r.length : Int) ∧ (0 < x.sk → hgF f (r.take x.sk.toNat) 0 = some 1) then hgF f (r.drop x.sk.toNat) (h + (1 - takesN x.kd)) else none
theorem hgF_fuel : ∀ (f g : Nat) (l : List Ox) (h : Int), l.length < f → l.length < g → hgF f l h = hgF g l h
  | 0, _, _, _, hf, _ => absurd hf (by omega)
  | _ + 1, 0, _, _, _, hg => absurd hg (by omega)
  | _ + 1, _ + 1, [], _, _, _ => rfl
  | f + 1, g + 1, x :: r, h, hf, hg => by
    have hf' : r.length < f := by simpa using hf
    have hg' : r.length < g := by simpa using hg
    have e1 : hgF f (r.take x.sk.toNat) 0 = hgF g (r.take x.sk.toNat) 0 := hgF_fuel f g _ _ (by rw [List.length_take]; omega) (by rw [List.length_take]; omega)
    have e2 : hgF f (r.drop x.sk.toNat) (h + (1 - takesN x.kd)) = hgF g (r.drop x.sk.toNat) (h + (1 - takesN x.kd)) := hgF_fuel f g _ _ (by rw [List.length_drop]; omega) (by rw [List.length_drop]; omega)
    show (if _ then _ else _) = (if _ then _ else _)
    rw [e1, e2]
def hg (l : List Ox) (h : Int) : Option Int := hgF (l.length + 1) l h
theorem hg_nil (h : Int) : hg [] h = some h := rfl
theorem hg_cons (x : Ox) (r : List Ox) (h : Int) : hg (x :: r) h = if isOpB x = true ∧ takesN x.kd ≤ h ∧ x.sk ≤ (r.length : Int) ∧ (0 < x.sk → hg (r.take x.sk.toNat) 0 = some 1) then hg (r.drop x.sk.toNat) (h + (1 - takesN x.kd)) else none := by
  have e1 : hgF (r.length + 1) (r.take x.sk.toNat) 0 = hg (r.take x.sk.toNat) 0 := hgF_fuel _ _ _ _ (by rw [List.length_take]; omega) (by omega)
  have e2 : hgF (r.length + 1) (r.drop x.sk.toNat) (h + (1 - takesN x.kd)) = hg (r.drop x.sk.toNat) (h + (1 - takesN x.kd)) := hgF_fuel _ _ _ _ (by rw [List.length_drop]; omega) (by omega)
  rw [← e1, ← e2]
  rfl
/-- What a first operation must be. -/
structure HgC (x : Ox) (r : List Ox) (h h' : Int) : Prop where
  op : isOpB x = true
  low : takesN x.kd ≤ h
  skip : x.sk ≤ (r.length : Int)
  inn : 0 < x.sk → hg (r.take x.sk.toNat) 0 = some 1
  rest : hg (r.drop x.sk.toNat) (h + (1 - takesN x.kd)) = some h'
theorem hg_some {x : Ox} {r : List Ox} {h h' : Int} (e : hg (x :: r) h = some h') : HgC x r h h' := by
  rw [hg_cons] at e
  by_cases c : isOpB x = true ∧ takesN x.kd ≤ h ∧ x.sk ≤ (r.length : Int) ∧ (0 < x.sk → hg (r.take x.sk.toNat) 0 = some 1)
  · rw [if_pos c] at e
    exact ⟨c.1, c.2.1, c.2.2.1, c.2.2.2, e⟩
  · rw [if_neg c] at e; cases e
theorem HgC.some {x : Ox} {r : List Ox} {h h' : Int} (c : HgC x r h h') : hg (x :: r) h = Option.some h' := by
  rw [hg_cons, if_pos ⟨c.op, c.low, c.skip, c.inn⟩]; exact c.rest
theorem hg_shift : ∀ (n : Nat) (l : List Ox), l.length ≤ n → ∀ (h h' d : Int), hg l h = some h' → 0 ≤ d → hg l (h + d) = some (h' + d)
  | _, [], _, h, h', d, e, _ => by
    rw [hg_nil] at e ⊢
    injection e with e
    rw [e]
  | 0, x :: r, hn, _, _, _, _, _ => by simp at hn
  | n + 1, x :: r, hn, h, h', d, e, hd => by
    have c := hg_some e
    have ih := hg_shift n (r.drop x.sk.toNat) (by rw [List.length_drop]; simp at hn; omega) _ _ d c.rest hd
    exact HgC.some ⟨c.op, by have := c.low; omega, c.skip, c.inn, by rw [← ih]; congr 1; omega⟩
theorem hg_app : ∀ (n : Nat) (l m : List Ox), l.length ≤ n → ∀ (h h' : Int), hg l h = some h' → hg (l ++ m) h = hg m h'
  | _, [], m, _, h, h', e => by
    rw [hg_nil] at e
    injection e with e
    rw [List.nil_append, e]
  | 0, x :: r, _, hn, _, _, _ => by simp at hn
  | n + 1, x :: r, m, hn, h, h', e => by
    have c := hg_some e
    have hsk := op_sk c.op
    have hk : x.sk.toNat ≤ r.length := by have := c.skip; omega
    have ih := hg_app n (r.drop x.sk.toNat) m (by rw [List.length_drop]; simp at hn; omega) _ _ c.rest
    have ed : (r ++ m).drop x.sk.toNat = r.drop x.sk.toNat ++ m := List.drop_append_of_le_length hk
    have et : (r ++ m).take x.sk.toNat = r.take x.sk.toNat := List.take_append_of_le_length hk
    rw [List.cons_append, hg_cons, ed, et, if_pos ⟨c.op, c.low, by rw [List.length_append]; have := c.skip; omega, c.inn⟩]
    exact ih
/-- A lazy operation: with and without what it skips. -/
theorem hg_lazy {x : Ox} {r : List Ox} {h h' : Int} (e : hg (x :: r) h = some h') (hk : x.kd = 4 ∨ x.kd = 5) : hg r (h - 1) = some h' ∧ hg (r.drop x.sk.toNat) h = some h' := by
  have c := hg_some e
  have ht : takesN x.kd = 1 := by unfold takesN; rw [if_pos (by omega)]
  have hr := c.rest
  rw [ht, show h + (1 - 1) = h by omega] at hr
  have hl := c.low
  rw [ht] at hl
  have hs := (op_45 c.op hk).2.2
  have h1 := hg_shift _ _ (Nat.le_refl _) _ _ (h - 1) (c.inn (by omega)) (by omega)
  rw [show (0 : Int) + (h - 1) = h - 1 by omega, show (1 : Int) + (h - 1) = h by omega] at h1
  refine ⟨?_, hr⟩
  have h2 := hg_app _ (r.take x.sk.toNat) (r.drop x.sk.toNat) (Nat.le_refl _) _ _ h1
  rw [List.take_append_drop] at h2
  rw [h2]; exact hr
theorem hg_flat {x : Ox} {r : List Ox} {h h' : Int} (e : hg (x :: r) h = some h') (hk : ¬ (x.kd = 4 ∨ x.kd = 5)) : x.sk = 0 ∧ hg r (h + (1 - takesN x.kd)) = some h' := by
  have c := hg_some e
  have h0 : x.sk = 0 := by
    rcases op_kind c.op with h1 | h1 | h1 | h1 | h1
    · exact (op_1 c.op h1).2.2
    · exact (op_2 c.op h1).2.1
    · exact (op_3 c.op h1).2.1
    · exact absurd (.inl h1) hk
    · exact absurd (.inr h1) hk
  have hr := c.rest
  rw [h0] at hr
  exact ⟨h0, by simpa using hr⟩
theorem hg_low : ∀ (n : Nat) (l : List Ox), l.length ≤ n → ∀ (h h' : Int), hg l h = some h' → 0 ≤ h → 0 ≤ h'
  | _, [], _, h, h', e, h0 => by
    rw [hg_nil] at e
    injection e with e
    omega
  | 0, x :: r, hn, _, _, _, _ => by simp at hn
  | n + 1, x :: r, hn, h, h', e, h0 => by
    have c := hg_some e
    exact hg_low n (r.drop x.sk.toNat) (by rw [List.length_drop]; simp at hn; omega) _ _ c.rest (by have := c.low; have := takes_le x.kd; omega)
/-- They are an expression, of themselves. -/
def lvB (l : List Ox) : Bool := hg l 0 == some 1
def mayE (l : List Ox) : Bool := decide (l.length ≤ 32) && lvB l
theorem may_hg {l : List Ox} (h : mayE l = true) : l.length ≤ 32 ∧ hg l 0 = some 1 := by
  unfold mayE lvB at h
  simp only [Bool.and_eq_true, decide_eq_true_eq, beq_iff_eq] at h
  exact h
theorem may_of {l : List Ox} (h1 : l.length ≤ 32) (h2 : hg l 0 = some 1) : mayE l = true := by
  unfold mayE lvB
  rw [h2, decide_eq_true h1]; rfl
end Go.Proofs.YteiacgpaocnofaaGreat
/- Operations in memory. -/
namespace Go.Proofs.YteiacgpaocnofaaGreat
open Go.RowKit
abbrev ovC (x : Ox) (a : Option Addr) (c : Nat) : Array Value := #[.int .i64 x.kd, .int .i64 x.t.k, .int .i64 x.t.n, .string x.t.s, .slice a x.t.l.length c, .int .i64 x.cd, .int .i64 x.sk]
/-- An operation's value. -/
def ov (x : Ox) (a : Option Addr) (c : Nat) : Value := .agg (ovC x a c)
def OFit (x : Ox) : Prop := (-9223372036854775808 ≤ x.kd ∧ x.kd ≤ 9223372036854775807) ∧ (-9223372036854775808 ≤ x.cd ∧ x.cd ≤ 9223372036854775807) ∧ (-9223372036854775808 ≤ x.sk ∧ x.sk ≤ 9223372036854775807)
/-- What seven cells hold. -/
def O7 (w : World) (b o : Nat) (x : Ox) (a : Option Addr) (c : Nat) : Prop :=
  w.cell? ⟨b, o, none⟩ = some (.int .i64 x.kd) ∧ w.cell? ⟨b, o + 1, none⟩ = some (.int .i64 x.t.k) ∧ w.cell? ⟨b, o + 2, none⟩ = some (.int .i64 x.t.n) ∧ w.cell? ⟨b, o + 3, none⟩ = some (.string x.t.s) ∧ w.cell? ⟨b, o + 4, none⟩ = some (.slice a x.t.l.length c) ∧ w.cell? ⟨b, o + 5, none⟩ = some (.int .i64 x.cd) ∧ w.cell? ⟨b, o + 6, none⟩ = some (.int .i64 x.sk)
theorem O7.ext {W w : World} {b o : Nat} {x : Ox} {a : Option Addr} {c : Nat} (h : O7 W b o x a c) (hb : b < W.heap.size) (he : Below W.heap.size W w) : O7 w b o x a c :=
  ⟨(Below.cell (p := ⟨b, o, none⟩) he hb).trans h.1, (Below.cell (p := ⟨b, o + 1, none⟩) he hb).trans h.2.1, (Below.cell (p := ⟨b, o + 2, none⟩) he hb).trans h.2.2.1, (Below.cell (p := ⟨b, o + 3, none⟩) he hb).trans h.2.2.2.1, (Below.cell (p := ⟨b, o + 4, none⟩) he hb).trans h.2.2.2.2.1, (Below.cell (p := ⟨b, o + 5, none⟩) he hb).trans h.2.2.2.2.2.1, (Below.cell (p := ⟨b, o + 6, none⟩) he hb).trans h.2.2.2.2.2.2⟩
/-- Operations in memory, one behind the other. -/
def OAt (w : World) (l : List Ox) (ao : Option Addr) (c : Nat) : Prop :=
  l.length ≤ c ∧ c ≤ 9223372036854775807 ∧ ∃ (b o : Nat) (A : Nat → Option Addr) (C : Nat → Nat), (l ≠ [] → ao = some ⟨b, o, none⟩ ∧ b < w.heap.size) ∧ ∀ i x, l[i]? = some x → O7 w b (o + i * 7) x (A i) (C i) ∧ TAt w x.t (A i) (C i) ∧ OFit x
theorem OAt.ext {W w : World} {l : List Ox} {ao : Option Addr} {c : Nat} (h : OAt W l ao c) (he : Below W.heap.size W w) : OAt w l ao c := by
  obtain ⟨h1, h2, b, o, A, C, hb, hc⟩ := h
  exact ⟨h1, h2, b, o, A, C, fun hne => ⟨(hb hne).1, Nat.lt_of_lt_of_le (hb hne).2 he.size⟩, fun i x hx => ⟨(hc i x hx).1.ext (hb (fun e => by rw [e] at hx; simp at hx)).2 he, (hc i x hx).2.1.ext he, (hc i x hx).2.2⟩⟩
theorem OAt.nil (w : World) (ao : Option Addr) (c : Nat) (hc : c ≤ 9223372036854775807) : OAt w [] ao c := ⟨Nat.zero_le _, hc, 0, 0, fun _ => none, fun _ => 0, fun h => absurd rfl h, fun i x h => by simp at h⟩
theorem OAt.read {w : World} {l : List Ox} {ao : Option Addr} {c : Nat} (h : OAt w l ao c) (hne : 0 < l.length) :
    ∃ b o, ao = some ⟨b, o, none⟩ ∧ b < w.heap.size ∧ ∀ i x, l[i]? = some x → ∃ a' c', TAt w x.t a' c' ∧ OFit x ∧ ∀ W, Below w.heap.size w W → O7 W b (o + i * 7) x a' c' := by
  obtain ⟨_, _, b, o, A, C, hb, hc⟩ := h
  obtain ⟨e, hbb⟩ := hb (fun e => by rw [e] at hne; simp at hne)
  exact ⟨b, o, e, hbb, fun i x hx => ⟨A i, C i, (hc i x hx).2.1, (hc i x hx).2.2, fun W he => (hc i x hx).1.ext hbb he⟩⟩
/-- The first one. -/
theorem OAt.head {w : World} {x : Ox} {r : List Ox} {ao : Option Addr} {c : Nat} (h : OAt w (x :: r) ao c) :
    ∃ b o a' c', ao = some ⟨b, o, none⟩ ∧ b < w.heap.size ∧ TAt w x.t a' c' ∧ OFit x ∧ ∀ W, Below w.heap.size w W → O7 W b o x a' c' := by
  obtain ⟨b, o, e, hb, hc⟩ := h.read (by simp)
  obtain ⟨a', c', h1, h2, h3⟩ := hc 0 x rfl
  exact ⟨b, o, a', c', e, hb, h1, h2, fun W hW => by have := h3 W hW; rwa [Nat.zero_mul, Nat.add_zero] at this⟩
theorem ix_ops0 (w : World) (b o n c : Nat) (hk : 0 < n) : (Instr.indexAt 22 (.slice (some ⟨b, o, none⟩) n c) (.int .i64 0)).run Tryz.prog w = .ok (.pointer (some ⟨b, o, none⟩)) w := by
  have h2 : ¬ ((n : Int) ≤ 0) := by omega
  go_simp
theorem ix_ops (w : World) (b o n c k : Nat) (hk : k < n) : (Instr.indexAt 22 (.slice (some ⟨b, o, none⟩) n c) (.int .i64 (k : Int))).run Tryz.prog w = .ok (.pointer (some ⟨b, o + k * 7, none⟩)) w := by
  have h1 : decide ((k : Int) < 0) = false := decide_eq_false (by omega)
  have h2 : ¬ ((n : Int) ≤ (k : Int)) := by omega
  go_simp
/-- The operations from a place on. -/
theorem os_from {w : World} {l : List Ox} {ao : Option Addr} {c : Nat} (h : OAt w l ao c) (k : Nat) (hk : k ≤ l.length) :
    ∃ a' c', (∀ W : World, (Instr.sliceAt 22 (.slice ao l.length c) (some (.int .i64 (k : Int))) none none).run Tryz.prog W = .ok (.slice a' (l.drop k).length c') W) ∧ OAt w (l.drop k) a' c' := by
  obtain ⟨hc, hm, b, o, A, C, hb, hr⟩ := h
  have hlen : (l.drop k).length = l.length - k := List.length_drop
  rw [hlen]
  have g1 : ¬ ((k : Int) < 0) := by omega
  have g2 : ¬ ((l.length : Int) < (k : Int)) := by omega
  have g3 : ¬ ((c : Int) < (l.length : Int)) := by omega
  have g4 : ¬ ((l.length : Int) < 0) := by omega
  cases ao with
  | none =>
    have hn0 : l = [] := by
      cases l with
      | nil => rfl
      | cons x r => exact absurd (hb (by simp)).1 (by simp)
    subst hn0
    obtain rfl : k = 0 := by simpa using hk
    exact ⟨none, c, fun W => by go_simp, OAt.nil w none c hm⟩
  | some ad =>
    by_cases hcc : c = k
    · have hkl : k = l.length := by omega
      have hd : l.drop k = [] := List.drop_eq_nil_of_le (by omega)
      refine ⟨some ad, 0, fun W => ?_, by rw [hd]; exact OAt.nil _ _ _ (by omega)⟩
      rw [show l.length - k = 0 by omega]
      generalize l.length = n at *
      subst hkl
      go_simp
    · refine ⟨some (ad.add (k * 7)), c - k, fun W => by go_simp, by rw [hlen]; omega, by omega, b, o + k * 7, fun i => A (k + i), fun i => C (k + i), fun hne => ?_, fun i x hx => ?_⟩
      · obtain ⟨e4, hbb⟩ := hb (fun e => hne (by rw [e]; simp))
        injection e4 with e4
        subst e4
        exact ⟨by simp [Addr.add], hbb⟩
      · rw [List.getElem?_drop] at hx
        have h1 := hr _ _ hx
        rw [show o + k * 7 + i * 7 = o + (k + i) * 7 by omega]
        exact h1
/-- The operations up to a place. -/
theorem os_upto {w : World} {l : List Ox} {ao : Option Addr} {c : Nat} (h : OAt w l ao c) (k : Nat) (hk : k ≤ l.length) :
    (∀ W : World, (Instr.sliceAt 22 (.slice ao l.length c) none (some (.int .i64 (k : Int))) none).run Tryz.prog W = .ok (.slice ao (l.take k).length c) W) ∧ OAt w (l.take k) ao c := by
  obtain ⟨hc, hm, b, o, A, C, hb, hr⟩ := h
  have hlen : (l.take k).length = k := by rw [List.length_take]; omega
  rw [hlen]
  have g1 : ¬ ((k : Int) < 0) := by omega
  have g3 : ¬ ((c : Int) < (k : Int)) := by omega
  refine ⟨fun W => ?_, by rw [hlen]; omega, hm, b, o, A, C, fun hne => ?_, fun i x hx => ?_⟩
  · cases ao with
    | none =>
      have hn0 : l.length = 0 := by
        cases l with
        | nil => rfl
        | cons x r => exact absurd (hb (by simp)).1 (by simp)
      rw [hn0] at hk ⊢
      obtain rfl : k = 0 := by omega
      go_simp
    | some ad => go_simp; intro h; omega
  · exact hb (fun e => hne (by rw [e]; simp))
  · rw [List.getElem?_take] at hx
    split at hx
    · exact hr _ _ hx
    · cases hx
end Go.Proofs.YteiacgpaocnofaaGreat
/- Regions over operations. -/
namespace Go.Proofs.YteiacgpaocnofaaGreat
open Go.RowKit
/-- A pointer to an operation. -/
def iox (x : Ox) (a : Option Addr) (c : Nat) : STy := ⟨fun w v => ∃ b of, v = .pointer (some ⟨b, of, none⟩) ∧ b < w.heap.size ∧ O7 w b of x a c, fun hx ⟨b, of, h1, h2, h3⟩ => ⟨b, of, h1, Nat.lt_of_lt_of_le h2 (Below.size hx), h3.ext h2 hx⟩⟩
theorem iox_row {w : World} {g : Nat} {x : Ox} {a : Option Addr} {c : Nat} {ty : TypeId} {fr : Nat × Nat} (h : w.heap[g]? = some (.cells (ovC x a c) ty fr)) : (iox x a c).p w (.pointer (some ⟨g, 0, none⟩)) :=
  ⟨g, 0, rfl, (Array.getElem?_eq_some_iff.1 h).1, cell_of_row _ _ _ _ _ _ h, cell_of_row _ _ _ _ _ _ h, cell_of_row _ _ _ _ _ _ h, cell_of_row _ _ _ _ _ _ h, cell_of_row _ _ _ _ _ _ h, cell_of_row _ _ _ _ _ _ h, cell_of_row _ _ _ _ _ _ h⟩
section
variable {ops : Array Oper} {Q : Exit → Act → World → Prop} {o : Oper} {a : Act} {w : World} {T : STy}
theorem g_fo0 (hw : Region.wanted o (yielded ops a.tmps) = true) {x : Operand} {t : Ox} {ta : Option Addr} {tc : Nat} (ho : o.op = .fieldAddr 48 x 0) (h : (iox t ta tc).p w (a.eval x)) : Gives Tryz.prog ops Q o (icp (.int .i64 t.kd)) a w := by
  obtain ⟨b, of, e, hb, hc⟩ := h
  refine g_run hw (v := .pointer (some ⟨b, of + 0, none⟩)) ?_ (Ext.refl w) ⟨b, of + 0, rfl, hb, hc.1⟩
  unfold execOp
  simp only [ho, e]
  go_simp
theorem g_fo1 (hw : Region.wanted o (yielded ops a.tmps) = true) {x : Operand} {t : Ox} {ta : Option Addr} {tc : Nat} (ho : o.op = .fieldAddr 48 x 1) (h : (iox t ta tc).p w (a.eval x)) : Gives Tryz.prog ops Q o (itp t.t ta tc) a w := by
  obtain ⟨b, of, e, hb, hc⟩ := h
  refine g_run hw (v := .pointer (some ⟨b, of + 1, none⟩)) ?_ (Ext.refl w) ⟨b, of + 1, rfl, hb, hc.2.1, hc.2.2.1, hc.2.2.2.1, hc.2.2.2.2.1⟩
  unfold execOp
  simp only [ho, e]
  go_simp
theorem g_fo2 (hw : Region.wanted o (yielded ops a.tmps) = true) {x : Operand} {t : Ox} {ta : Option Addr} {tc : Nat} (ho : o.op = .fieldAddr 48 x 2) (h : (iox t ta tc).p w (a.eval x)) : Gives Tryz.prog ops Q o (icp (.int .i64 t.cd)) a w := by
  obtain ⟨b, of, e, hb, hc⟩ := h
  refine g_run hw (v := .pointer (some ⟨b, of + 5, none⟩)) ?_ (Ext.refl w) ⟨b, of + 5, rfl, hb, hc.2.2.2.2.2.1⟩
  unfold execOp
  simp only [ho, e]
  go_simp
theorem g_fo3 (hw : Region.wanted o (yielded ops a.tmps) = true) {x : Operand} {t : Ox} {ta : Option Addr} {tc : Nat} (ho : o.op = .fieldAddr 48 x 3) (h : (iox t ta tc).p w (a.eval x)) : Gives Tryz.prog ops Q o (icp (.int .i64 t.sk)) a w := by
  obtain ⟨b, of, e, hb, hc⟩ := h
  refine g_run hw (v := .pointer (some ⟨b, of + 6, none⟩)) ?_ (Ext.refl w) ⟨b, of + 6, rfl, hb, hc.2.2.2.2.2.2⟩
  unfold execOp
  simp only [ho, e]
  go_simp
end
end Go.Proofs.YteiacgpaocnofaaGreat
/- Which operations may be: the program's calls isZero, takes, isOp. -/
namespace Go.Proofs.YteiacgpaocnofaaGreat
open Go.RowKit
theorem icmp_eql (m n : Int) : icmp .eql m n = (m == n) := by
  show decide (m = n) = (m == n)
  cases h : (m == n) with
  | true => simpa using h
  | false => simpa using h
set_option maxRecDepth 100000 in
set_option maxHeartbeats 4000000 in
theorem zero_any {t : Tm} {a : Option Addr} {c : Nat} (w : World) : Calls Tryz.prog 83 #[tv t a c] w fun e w' => e = .returned (.bool (zeroT t)) ∧ Below w.heap.size w w' := by
  have HB := hide (alloc_below w (.cells #[.int .i64 t.k, .int .i64 t.n, .string t.s, .slice a t.l.length c] 33))
  unfold tv zeroT
  generalize t.k = ak at *
  generalize t.n = an at *
  generalize t.s = aS at *
  generalize t.l.length = al at *
  cases h1 : (ak == 0) with
  | false =>
    go_enter Tryz.func83, Tryz.ntmps83
    go_wp2
    go_ret
    exact ⟨rfl, HB.out⟩
  | true =>
  cases h2 : (an == 0) with
  | false =>
    go_enter Tryz.func83, Tryz.ntmps83
    go_wp2
    go_ret
    exact ⟨rfl, HB.out⟩
  | true =>
  cases h3 : aS.toList.isEmpty with
  | false =>
    go_enter Tryz.func83, Tryz.ntmps83
    go_wp2
    go_ret
    exact ⟨rfl, HB.out⟩
  | true =>
  cases h4 : ((al : Int) == 0) with
  | false =>
    go_enter Tryz.func83, Tryz.ntmps83
    go_wp2
    go_ret
    exact ⟨rfl, HB.out⟩
  | true =>
    go_enter Tryz.func83, Tryz.ntmps83
    go_wp2
    go_ret
    exact ⟨rfl, HB.out⟩
theorem h_zero {t : Tm} {a : Option Addr} {c : Nat} {w : World} {v : Value} {Z : Bool} (e : v = tv t a c) (hz : zeroT t = Z) : Hands Tryz.prog 83 #[v] w (isv (.bool Z)) := by
  subst e; subst hz
  exact (zero_any w).mono fun _ _ ⟨he, hb⟩ => ⟨_, he, hb, rfl⟩
set_option maxRecDepth 100000 in
set_option maxHeartbeats 4000000 in
theorem takes_any (k : Int) (w : World) : Calls Tryz.prog 60 #[.int .i64 k] w fun e w' => e = .returned (.int .i64 (takesN k)) ∧ w' = w := by
  unfold takesN
  by_cases h2 : k = 2
  · subst h2
    rw [if_pos (.inl rfl)]
    go_enter Tryz.func60, Tryz.ntmps60
    go_wp2
    go_ret
    exact ⟨rfl, rfl⟩
  by_cases h4 : k = 4
  · subst h4
    rw [if_pos (.inr (.inl rfl))]
    go_enter Tryz.func60, Tryz.ntmps60
    go_wp2
    go_ret
    exact ⟨rfl, rfl⟩
  by_cases h5 : k = 5
  · subst h5
    rw [if_pos (.inr (.inr rfl))]
    go_enter Tryz.func60, Tryz.ntmps60
    go_wp2
    go_ret
    exact ⟨rfl, rfl⟩
  rw [if_neg (by omega)]
  have d2 : (k == 2) = false := by simpa using h2
  have d4 : (k == 4) = false := by simpa using h4
  have d5 : (k == 5) = false := by simpa using h5
  by_cases h3 : k = 3
  · subst h3
    rw [if_pos rfl]
    go_enter Tryz.func60, Tryz.ntmps60
    go_wp2
    go_ret
    exact ⟨rfl, rfl⟩
  · rw [if_neg h3]
    have d3 : (k == 3) = false := by simpa using h3
    clear h2 h3 h4 h5
    go_enter Tryz.func60, Tryz.ntmps60
    go_wp2
    go_ret
    exact ⟨rfl, rfl⟩
/-- What the walk of one operation starts from. -/
structure IsO (w : World) (x : Ox) (xa : Option Addr) (xc : Nat) (W : World) : Prop where
  bel : Below w.heap.size w W
  row : W.heap[w.heap.size]? = some (.cells (ovC x xa xc) 48 (0, 0))
  at_ : TAt W x.t xa xc
theorem IsO.new {w : World} {x : Ox} {xa : Option Addr} {xc : Nat} (h : TAt w x.t xa xc) : IsO w x xa xc (w.alloc (.cells (ovC x xa xc) 48)) := ⟨alloc_below _ _, heap_alloc_last _ _, h.ext (alloc_below _ _)⟩
theorem IsO.ext {w W V : World} {x : Ox} {xa : Option Addr} {xc : Nat} (h : IsO w x xa xc W) (he : Below W.heap.size W V) : IsO w x xa xc V := ⟨Below.chain h.bel he, Below.heap he (Array.getElem?_eq_some_iff.1 h.row).1 h.row, h.at_.ext he⟩
/-- The operation's parts as truths. -/
def opB (k : Int) (M Z C0 S0 c1 c3 c19 s1 : Bool) : Bool :=
  if k = 1 then M && C0 && S0 else if k = 2 then Z && S0 && c1 && c3 else if k = 3 then Z && S0 && c1 && c19 else if k = 4 ∨ k = 5 then Z && C0 && s1 else false
theorem opB_is (x : Ox) : isOpB x = opB x.kd (mayT x.t) (zeroT x.t) (x.cd == 0) (x.sk == 0) (decide (1 ≤ x.cd)) (decide (x.cd ≤ 3)) (decide (x.cd ≤ 19)) (decide (1 ≤ x.sk)) := rfl
set_option maxRecDepth 100000 in
set_option maxHeartbeats 16000000 in
theorem isOp_one {x : Ox} {xa : Option Addr} {xc : Nat} {w : World} (h : TAt w x.t xa xc) (hk : x.kd = 1) : Calls Tryz.prog 59 #[ov x xa xc] w fun e w' => e = .returned (.bool (isOpB x)) ∧ Below w.heap.size w w' := by
  rw [opB_is, hk]
  obtain ⟨Z, hZ⟩ : ∃ Z, zeroT x.t = Z := ⟨_, rfl⟩
  obtain ⟨C0, hC⟩ : ∃ Z, icmp .eql x.cd 0 = Z := ⟨_, rfl⟩
  obtain ⟨S0, hS⟩ : ∃ Z, icmp .eql x.sk 0 = Z := ⟨_, rfl⟩
  obtain ⟨c1, hc1⟩ : ∃ Z, decide (1 ≤ x.cd) = Z := ⟨_, rfl⟩
  obtain ⟨c3, hc3⟩ : ∃ Z, decide (x.cd ≤ 3) = Z := ⟨_, rfl⟩
  obtain ⟨c19, hc19⟩ : ∃ Z, decide (x.cd ≤ 19) = Z := ⟨_, rfl⟩
  obtain ⟨s1, hs1⟩ : ∃ Z, decide (1 ≤ x.sk) = Z := ⟨_, rfl⟩
  obtain ⟨M, hM⟩ : ∃ M, mayT x.t = M := ⟨_, rfl⟩
  have HM := hide (show ∀ W, TAt W x.t xa xc → Calls Tryz.prog 84 #[tv x.t xa xc] W fun e w' => e = .returned (.bool M) ∧ Below W.heap.size W w' from fun W hT => by rw [← hM]; exact May_any hT)
  rw [← icmp_eql, ← icmp_eql, hM, hZ, hC, hS, hc1, hc3, hc19, hs1]
  rw [show opB 1 M Z C0 S0 c1 c3 c19 s1 = (M && C0 && S0) from rfl]
  have HI := hide (IsO.new h)
  clear h
  unfold ov
  go_enter Tryz.func59, Tryz.ntmps59
  go_wp2_with fail
  refine wp_region_typed (tys := fun ix_ => List.getD [iox x xa xc, itp (x.t) xa xc, isv (tv (x.t) xa xc), isv (.bool Z), icp (.int .i64 x.cd), isv (.int .i64 x.cd), isv (.bool C0), icp (.int .i64 x.sk), isv (.int .i64 x.sk), isv (.bool S0)] ix_ anyv) (pre := [(1, 0)])
    (plan := [([(1, 0)], 1), ([(6, 1)], 2), ([(7, 2)], 3), ([(1, 0)], 4), ([(9, 4)], 5), ([(10, 5)], 6), ([(1, 0)], 7), ([(12, 7)], 8), ([(13, 8)], 9), ([(8, 3)], 3), ([(11, 6)], 6), ([(14, 9)], 9)])
    (by kernel_rfl) 72 (by kernel_rfl) rfl ⟨iox_row HI.out.row, trivial⟩
      (OkL.cons (fun a w_ X_ h => g_fo1 (wanted_none rfl) rfl h.1)
      (OkL.cons (fun a w_ X_ h => g_ldt (wanted_none rfl) rfl h.1 rfl)
      (OkL.cons (fun a w_ X_ h => g_call1 (wanted_none rfl) (by kernel_rfl) rfl (h_zero h.1 hZ))
      (OkL.cons (fun a w_ X_ h => g_fo2 (wanted_none rfl) rfl h.1)
      (OkL.cons (fun a w_ X_ h => g_ld3 (wanted_none rfl) rfl h.1 rfl)
      (OkL.cons (fun a w_ X_ h => g_cI (wanted_none rfl) rfl rfl h.1 rfl hC)
      (OkL.cons (fun a w_ X_ h => g_fo3 (wanted_none rfl) rfl h.1)
      (OkL.cons (fun a w_ X_ h => g_ld3 (wanted_none rfl) rfl h.1 rfl)
      (OkL.cons (fun a w_ X_ h => g_cI (wanted_none rfl) rfl rfl h.1 rfl hS)
      (OkL.cons (fun a w_ X_ h => g_move (wanted_none rfl) (.inr rfl) h.1)
      (OkL.cons (fun a w_ X_ h => g_move (wanted_none rfl) (.inr rfl) h.1)
      (OkL.cons (fun a w_ X_ h => g_move (wanted_none rfl) (.inr rfl) h.1)
      OkL.nil)))))))))))) ?_
  rintro w1 X1 v6 - _ rfl _ rfl v9 - _ rfl _ rfl v12 - _ rfl _ rfl _ rfl _ rfl _ rfl
  refine FinL.done ?_
  simp only [Act.put, List.setIfInBounds_toArray, List.set_cons_zero, List.set_cons_succ]
  have HI1 := hide (HI.out.ext X1)
  have g0 := cell_of_row _ _ 0 _ _ _ HI1.out.row
  have g1 := cell_of_row _ _ 1 _ _ _ HI1.out.row
  have g2 := cell_of_row _ _ 2 _ _ _ HI1.out.row
  have g3 := cell_of_row _ _ 3 _ _ _ HI1.out.row
  have g4 := cell_of_row _ _ 4 _ _ _ HI1.out.row
  have g5 := cell_of_row _ _ 5 _ _ _ HI1.out.row
  have g6 := cell_of_row _ _ 6 _ _ _ HI1.out.row
  simp only [List.getElem?_toArray, List.getElem?_cons_zero, List.getElem?_cons_succ] at g0 g1 g2 g3 g4 g5 g6
  clear hZ hC hS HI X1
  rw [hk] at g0
  have HM1 := hide (HM.out w1 HI1.out.at_)
  unfold tv at HM1
  clear hM HM hc1 hc3 hc19 hs1
  go_wp2_with fail
  refine HM1.out.mono ?_
  rintro e_ w2 ⟨rfl, b2⟩
  have HB2 := hide (Below.chain HI1.out.bel b2)
  clear b2 HM1 HI1 g0 g1 g2 g3 g4 g5 g6
  cases M with
  | false => go_wp2; go_ret; exact ⟨rfl, HB2.out⟩
  | true =>
  cases C0 with
  | false => go_wp2; go_ret; exact ⟨rfl, HB2.out⟩
  | true =>
  cases S0 with
  | false => go_wp2; go_ret; exact ⟨rfl, HB2.out⟩
  | true => go_wp2; go_ret; exact ⟨rfl, HB2.out⟩
set_option maxRecDepth 100000 in
set_option maxHeartbeats 16000000 in
theorem isOp_two {x : Ox} {xa : Option Addr} {xc : Nat} {w : World} (h : TAt w x.t xa xc) (hk : x.kd = 2) : Calls Tryz.prog 59 #[ov x xa xc] w fun e w' => e = .returned (.bool (isOpB x)) ∧ Below w.heap.size w w' := by
  rw [opB_is, hk]
  obtain ⟨Z, hZ⟩ : ∃ Z, zeroT x.t = Z := ⟨_, rfl⟩
  obtain ⟨C0, hC⟩ : ∃ Z, icmp .eql x.cd 0 = Z := ⟨_, rfl⟩
  obtain ⟨S0, hS⟩ : ∃ Z, icmp .eql x.sk 0 = Z := ⟨_, rfl⟩
  obtain ⟨c1, hc1⟩ : ∃ Z, decide (1 ≤ x.cd) = Z := ⟨_, rfl⟩
  obtain ⟨c3, hc3⟩ : ∃ Z, decide (x.cd ≤ 3) = Z := ⟨_, rfl⟩
  obtain ⟨c19, hc19⟩ : ∃ Z, decide (x.cd ≤ 19) = Z := ⟨_, rfl⟩
  obtain ⟨s1, hs1⟩ : ∃ Z, decide (1 ≤ x.sk) = Z := ⟨_, rfl⟩
  obtain ⟨M, hM⟩ : ∃ M, mayT x.t = M := ⟨_, rfl⟩
  have HM := hide (show ∀ W, TAt W x.t xa xc → Calls Tryz.prog 84 #[tv x.t xa xc] W fun e w' => e = .returned (.bool M) ∧ Below W.heap.size W w' from fun W hT => by rw [← hM]; exact May_any hT)
  rw [← icmp_eql, ← icmp_eql, hM, hZ, hC, hS, hc1, hc3, hc19, hs1]
  rw [show opB 2 M Z C0 S0 c1 c3 c19 s1 = (Z && S0 && c1 && c3) from rfl]
  have HI := hide (IsO.new h)
  clear h
  unfold ov
  go_enter Tryz.func59, Tryz.ntmps59
  go_wp2_with fail
  refine wp_region_typed (tys := fun ix_ => List.getD [iox x xa xc, itp (x.t) xa xc, isv (tv (x.t) xa xc), isv (.bool Z), icp (.int .i64 x.cd), isv (.int .i64 x.cd), isv (.bool C0), icp (.int .i64 x.sk), isv (.int .i64 x.sk), isv (.bool S0)] ix_ anyv) (pre := [(1, 0)])
    (plan := [([(1, 0)], 1), ([(6, 1)], 2), ([(7, 2)], 3), ([(1, 0)], 4), ([(9, 4)], 5), ([(10, 5)], 6), ([(1, 0)], 7), ([(12, 7)], 8), ([(13, 8)], 9), ([(8, 3)], 3), ([(11, 6)], 6), ([(14, 9)], 9)])
    (by kernel_rfl) 72 (by kernel_rfl) rfl ⟨iox_row HI.out.row, trivial⟩
      (OkL.cons (fun a w_ X_ h => g_fo1 (wanted_none rfl) rfl h.1)
      (OkL.cons (fun a w_ X_ h => g_ldt (wanted_none rfl) rfl h.1 rfl)
      (OkL.cons (fun a w_ X_ h => g_call1 (wanted_none rfl) (by kernel_rfl) rfl (h_zero h.1 hZ))
      (OkL.cons (fun a w_ X_ h => g_fo2 (wanted_none rfl) rfl h.1)
      (OkL.cons (fun a w_ X_ h => g_ld3 (wanted_none rfl) rfl h.1 rfl)
      (OkL.cons (fun a w_ X_ h => g_cI (wanted_none rfl) rfl rfl h.1 rfl hC)
      (OkL.cons (fun a w_ X_ h => g_fo3 (wanted_none rfl) rfl h.1)
      (OkL.cons (fun a w_ X_ h => g_ld3 (wanted_none rfl) rfl h.1 rfl)
      (OkL.cons (fun a w_ X_ h => g_cI (wanted_none rfl) rfl rfl h.1 rfl hS)
      (OkL.cons (fun a w_ X_ h => g_move (wanted_none rfl) (.inr rfl) h.1)
      (OkL.cons (fun a w_ X_ h => g_move (wanted_none rfl) (.inr rfl) h.1)
      (OkL.cons (fun a w_ X_ h => g_move (wanted_none rfl) (.inr rfl) h.1)
      OkL.nil)))))))))))) ?_
  rintro w1 X1 v6 - _ rfl _ rfl v9 - _ rfl _ rfl v12 - _ rfl _ rfl _ rfl _ rfl _ rfl
  refine FinL.done ?_
  simp only [Act.put, List.setIfInBounds_toArray, List.set_cons_zero, List.set_cons_succ]
  have HI1 := hide (HI.out.ext X1)
  have g0 := cell_of_row _ _ 0 _ _ _ HI1.out.row
  have g1 := cell_of_row _ _ 1 _ _ _ HI1.out.row
  have g2 := cell_of_row _ _ 2 _ _ _ HI1.out.row
  have g3 := cell_of_row _ _ 3 _ _ _ HI1.out.row
  have g4 := cell_of_row _ _ 4 _ _ _ HI1.out.row
  have g5 := cell_of_row _ _ 5 _ _ _ HI1.out.row
  have g6 := cell_of_row _ _ 6 _ _ _ HI1.out.row
  simp only [List.getElem?_toArray, List.getElem?_cons_zero, List.getElem?_cons_succ] at g0 g1 g2 g3 g4 g5 g6
  clear hZ hC hS HI X1
  rw [hk] at g0
  clear HM hc19 hs1 hk
  cases Z with
  | false => go_wp2; go_ret; exact ⟨rfl, HI1.out.bel⟩
  | true =>
  cases S0 with
  | false => go_wp2; go_ret; exact ⟨rfl, HI1.out.bel⟩
  | true =>
  cases c1 with
  | false => go_wp2; go_ret; exact ⟨rfl, HI1.out.bel⟩
  | true =>
  cases c3 with
  | false => go_wp2; go_ret; exact ⟨rfl, HI1.out.bel⟩
  | true =>
  go_wp2; go_ret; exact ⟨rfl, HI1.out.bel⟩
set_option maxRecDepth 100000 in
set_option maxHeartbeats 16000000 in
theorem isOp_three {x : Ox} {xa : Option Addr} {xc : Nat} {w : World} (h : TAt w x.t xa xc) (hk : x.kd = 3) : Calls Tryz.prog 59 #[ov x xa xc] w fun e w' => e = .returned (.bool (isOpB x)) ∧ Below w.heap.size w w' := by
  rw [opB_is, hk]
  obtain ⟨Z, hZ⟩ : ∃ Z, zeroT x.t = Z := ⟨_, rfl⟩
  obtain ⟨C0, hC⟩ : ∃ Z, icmp .eql x.cd 0 = Z := ⟨_, rfl⟩
  obtain ⟨S0, hS⟩ : ∃ Z, icmp .eql x.sk 0 = Z := ⟨_, rfl⟩
  obtain ⟨c1, hc1⟩ : ∃ Z, decide (1 ≤ x.cd) = Z := ⟨_, rfl⟩
  obtain ⟨c3, hc3⟩ : ∃ Z, decide (x.cd ≤ 3) = Z := ⟨_, rfl⟩
  obtain ⟨c19, hc19⟩ : ∃ Z, decide (x.cd ≤ 19) = Z := ⟨_, rfl⟩
  obtain ⟨s1, hs1⟩ : ∃ Z, decide (1 ≤ x.sk) = Z := ⟨_, rfl⟩
  obtain ⟨M, hM⟩ : ∃ M, mayT x.t = M := ⟨_, rfl⟩
  have HM := hide (show ∀ W, TAt W x.t xa xc → Calls Tryz.prog 84 #[tv x.t xa xc] W fun e w' => e = .returned (.bool M) ∧ Below W.heap.size W w' from fun W hT => by rw [← hM]; exact May_any hT)
  rw [← icmp_eql, ← icmp_eql, hM, hZ, hC, hS, hc1, hc3, hc19, hs1]
  rw [show opB 3 M Z C0 S0 c1 c3 c19 s1 = (Z && S0 && c1 && c19) from rfl]
  have HI := hide (IsO.new h)
  clear h
  unfold ov
  go_enter Tryz.func59, Tryz.ntmps59
  go_wp2_with fail
  refine wp_region_typed (tys := fun ix_ => List.getD [iox x xa xc, itp (x.t) xa xc, isv (tv (x.t) xa xc), isv (.bool Z), icp (.int .i64 x.cd), isv (.int .i64 x.cd), isv (.bool C0), icp (.int .i64 x.sk), isv (.int .i64 x.sk), isv (.bool S0)] ix_ anyv) (pre := [(1, 0)])
    (plan := [([(1, 0)], 1), ([(6, 1)], 2), ([(7, 2)], 3), ([(1, 0)], 4), ([(9, 4)], 5), ([(10, 5)], 6), ([(1, 0)], 7), ([(12, 7)], 8), ([(13, 8)], 9), ([(8, 3)], 3), ([(11, 6)], 6), ([(14, 9)], 9)])
    (by kernel_rfl) 72 (by kernel_rfl) rfl ⟨iox_row HI.out.row, trivial⟩
      (OkL.cons (fun a w_ X_ h => g_fo1 (wanted_none rfl) rfl h.1)
      (OkL.cons (fun a w_ X_ h => g_ldt (wanted_none rfl) rfl h.1 rfl)
      (OkL.cons (fun a w_ X_ h => g_call1 (wanted_none rfl) (by kernel_rfl) rfl (h_zero h.1 hZ))
      (OkL.cons (fun a w_ X_ h => g_fo2 (wanted_none rfl) rfl h.1)
      (OkL.cons (fun a w_ X_ h => g_ld3 (wanted_none rfl) rfl h.1 rfl)
      (OkL.cons (fun a w_ X_ h => g_cI (wanted_none rfl) rfl rfl h.1 rfl hC)
      (OkL.cons (fun a w_ X_ h => g_fo3 (wanted_none rfl) rfl h.1)
      (OkL.cons (fun a w_ X_ h => g_ld3 (wanted_none rfl) rfl h.1 rfl)
      (OkL.cons (fun a w_ X_ h => g_cI (wanted_none rfl) rfl rfl h.1 rfl hS)
      (OkL.cons (fun a w_ X_ h => g_move (wanted_none rfl) (.inr rfl) h.1)
      (OkL.cons (fun a w_ X_ h => g_move (wanted_none rfl) (.inr rfl) h.1)
      (OkL.cons (fun a w_ X_ h => g_move (wanted_none rfl) (.inr rfl) h.1)
      OkL.nil)))))))))))) ?_
  rintro w1 X1 v6 - _ rfl _ rfl v9 - _ rfl _ rfl v12 - _ rfl _ rfl _ rfl _ rfl _ rfl
  refine FinL.done ?_
  simp only [Act.put, List.setIfInBounds_toArray, List.set_cons_zero, List.set_cons_succ]
  have HI1 := hide (HI.out.ext X1)
  have g0 := cell_of_row _ _ 0 _ _ _ HI1.out.row
  have g1 := cell_of_row _ _ 1 _ _ _ HI1.out.row
  have g2 := cell_of_row _ _ 2 _ _ _ HI1.out.row
  have g3 := cell_of_row _ _ 3 _ _ _ HI1.out.row
  have g4 := cell_of_row _ _ 4 _ _ _ HI1.out.row
  have g5 := cell_of_row _ _ 5 _ _ _ HI1.out.row
  have g6 := cell_of_row _ _ 6 _ _ _ HI1.out.row
  simp only [List.getElem?_toArray, List.getElem?_cons_zero, List.getElem?_cons_succ] at g0 g1 g2 g3 g4 g5 g6
  clear hZ hC hS HI X1
  rw [hk] at g0
  clear HM hc3 hs1 hk
  cases Z with
  | false => go_wp2; go_ret; exact ⟨rfl, HI1.out.bel⟩
  | true =>
  cases S0 with
  | false => go_wp2; go_ret; exact ⟨rfl, HI1.out.bel⟩
  | true =>
  cases c1 with
  | false => go_wp2; go_ret; exact ⟨rfl, HI1.out.bel⟩
  | true =>
  cases c19 with
  | false => go_wp2; go_ret; exact ⟨rfl, HI1.out.bel⟩
  | true =>
  go_wp2; go_ret; exact ⟨rfl, HI1.out.bel⟩
set_option maxRecDepth 100000 in
set_option maxHeartbeats 16000000 in
theorem isOp_four {x : Ox} {xa : Option Addr} {xc : Nat} {w : World} (h : TAt w x.t xa xc) (hk : x.kd = 4) : Calls Tryz.prog 59 #[ov x xa xc] w fun e w' => e = .returned (.bool (isOpB x)) ∧ Below w.heap.size w w' := by
  rw [opB_is, hk]
  obtain ⟨Z, hZ⟩ : ∃ Z, zeroT x.t = Z := ⟨_, rfl⟩
  obtain ⟨C0, hC⟩ : ∃ Z, icmp .eql x.cd 0 = Z := ⟨_, rfl⟩
  obtain ⟨S0, hS⟩ : ∃ Z, icmp .eql x.sk 0 = Z := ⟨_, rfl⟩
  obtain ⟨c1, hc1⟩ : ∃ Z, decide (1 ≤ x.cd) = Z := ⟨_, rfl⟩
  obtain ⟨c3, hc3⟩ : ∃ Z, decide (x.cd ≤ 3) = Z := ⟨_, rfl⟩
  obtain ⟨c19, hc19⟩ : ∃ Z, decide (x.cd ≤ 19) = Z := ⟨_, rfl⟩
  obtain ⟨s1, hs1⟩ : ∃ Z, decide (1 ≤ x.sk) = Z := ⟨_, rfl⟩
  obtain ⟨M, hM⟩ : ∃ M, mayT x.t = M := ⟨_, rfl⟩
  have HM := hide (show ∀ W, TAt W x.t xa xc → Calls Tryz.prog 84 #[tv x.t xa xc] W fun e w' => e = .returned (.bool M) ∧ Below W.heap.size W w' from fun W hT => by rw [← hM]; exact May_any hT)
  rw [← icmp_eql, ← icmp_eql, hM, hZ, hC, hS, hc1, hc3, hc19, hs1]
  rw [show opB 4 M Z C0 S0 c1 c3 c19 s1 = (Z && C0 && s1) from rfl]
  have HI := hide (IsO.new h)
  clear h
  unfold ov
  go_enter Tryz.func59, Tryz.ntmps59
  go_wp2_with fail
  refine wp_region_typed (tys := fun ix_ => List.getD [iox x xa xc, itp (x.t) xa xc, isv (tv (x.t) xa xc), isv (.bool Z), icp (.int .i64 x.cd), isv (.int .i64 x.cd), isv (.bool C0), icp (.int .i64 x.sk), isv (.int .i64 x.sk), isv (.bool S0)] ix_ anyv) (pre := [(1, 0)])
    (plan := [([(1, 0)], 1), ([(6, 1)], 2), ([(7, 2)], 3), ([(1, 0)], 4), ([(9, 4)], 5), ([(10, 5)], 6), ([(1, 0)], 7), ([(12, 7)], 8), ([(13, 8)], 9), ([(8, 3)], 3), ([(11, 6)], 6), ([(14, 9)], 9)])
    (by kernel_rfl) 72 (by kernel_rfl) rfl ⟨iox_row HI.out.row, trivial⟩
      (OkL.cons (fun a w_ X_ h => g_fo1 (wanted_none rfl) rfl h.1)
      (OkL.cons (fun a w_ X_ h => g_ldt (wanted_none rfl) rfl h.1 rfl)
      (OkL.cons (fun a w_ X_ h => g_call1 (wanted_none rfl) (by kernel_rfl) rfl (h_zero h.1 hZ))
      (OkL.cons (fun a w_ X_ h => g_fo2 (wanted_none rfl) rfl h.1)
      (OkL.cons (fun a w_ X_ h => g_ld3 (wanted_none rfl) rfl h.1 rfl)
      (OkL.cons (fun a w_ X_ h => g_cI (wanted_none rfl) rfl rfl h.1 rfl hC)
      (OkL.cons (fun a w_ X_ h => g_fo3 (wanted_none rfl) rfl h.1)
      (OkL.cons (fun a w_ X_ h => g_ld3 (wanted_none rfl) rfl h.1 rfl)
      (OkL.cons (fun a w_ X_ h => g_cI (wanted_none rfl) rfl rfl h.1 rfl hS)
      (OkL.cons (fun a w_ X_ h => g_move (wanted_none rfl) (.inr rfl) h.1)
      (OkL.cons (fun a w_ X_ h => g_move (wanted_none rfl) (.inr rfl) h.1)
      (OkL.cons (fun a w_ X_ h => g_move (wanted_none rfl) (.inr rfl) h.1)
      OkL.nil)))))))))))) ?_
  rintro w1 X1 v6 - _ rfl _ rfl v9 - _ rfl _ rfl v12 - _ rfl _ rfl _ rfl _ rfl _ rfl
  refine FinL.done ?_
  simp only [Act.put, List.setIfInBounds_toArray, List.set_cons_zero, List.set_cons_succ]
  have HI1 := hide (HI.out.ext X1)
  have g0 := cell_of_row _ _ 0 _ _ _ HI1.out.row
  have g1 := cell_of_row _ _ 1 _ _ _ HI1.out.row
  have g2 := cell_of_row _ _ 2 _ _ _ HI1.out.row
  have g3 := cell_of_row _ _ 3 _ _ _ HI1.out.row
  have g4 := cell_of_row _ _ 4 _ _ _ HI1.out.row
  have g5 := cell_of_row _ _ 5 _ _ _ HI1.out.row
  have g6 := cell_of_row _ _ 6 _ _ _ HI1.out.row
  simp only [List.getElem?_toArray, List.getElem?_cons_zero, List.getElem?_cons_succ] at g0 g1 g2 g3 g4 g5 g6
  clear hZ hC hS HI X1
  rw [hk] at g0
  clear HM hc1 hc3 hc19 hk
  cases Z with
  | false => go_wp2; go_ret; exact ⟨rfl, HI1.out.bel⟩
  | true =>
  cases C0 with
  | false => go_wp2; go_ret; exact ⟨rfl, HI1.out.bel⟩
  | true =>
  cases s1 with
  | false => go_wp2; go_ret; exact ⟨rfl, HI1.out.bel⟩
  | true =>
  go_wp2; go_ret; exact ⟨rfl, HI1.out.bel⟩
set_option maxRecDepth 100000 in
set_option maxHeartbeats 16000000 in
theorem isOp_five {x : Ox} {xa : Option Addr} {xc : Nat} {w : World} (h : TAt w x.t xa xc) (hk : x.kd = 5) : Calls Tryz.prog 59 #[ov x xa xc] w fun e w' => e = .returned (.bool (isOpB x)) ∧ Below w.heap.size w w' := by
  rw [opB_is, hk]
  obtain ⟨Z, hZ⟩ : ∃ Z, zeroT x.t = Z := ⟨_, rfl⟩
  obtain ⟨C0, hC⟩ : ∃ Z, icmp .eql x.cd 0 = Z := ⟨_, rfl⟩
  obtain ⟨S0, hS⟩ : ∃ Z, icmp .eql x.sk 0 = Z := ⟨_, rfl⟩
  obtain ⟨c1, hc1⟩ : ∃ Z, decide (1 ≤ x.cd) = Z := ⟨_, rfl⟩
  obtain ⟨c3, hc3⟩ : ∃ Z, decide (x.cd ≤ 3) = Z := ⟨_, rfl⟩
  obtain ⟨c19, hc19⟩ : ∃ Z, decide (x.cd ≤ 19) = Z := ⟨_, rfl⟩
  obtain ⟨s1, hs1⟩ : ∃ Z, decide (1 ≤ x.sk) = Z := ⟨_, rfl⟩
  obtain ⟨M, hM⟩ : ∃ M, mayT x.t = M := ⟨_, rfl⟩
  have HM := hide (show ∀ W, TAt W x.t xa xc → Calls Tryz.prog 84 #[tv x.t xa xc] W fun e w' => e = .returned (.bool M) ∧ Below W.heap.size W w' from fun W hT => by rw [← hM]; exact May_any hT)
  rw [← icmp_eql, ← icmp_eql, hM, hZ, hC, hS, hc1, hc3, hc19, hs1]
  rw [show opB 5 M Z C0 S0 c1 c3 c19 s1 = (Z && C0 && s1) from rfl]
  have HI := hide (IsO.new h)
  clear h
  unfold ov
  go_enter Tryz.func59, Tryz.ntmps59
  go_wp2_with fail
  refine wp_region_typed (tys := fun ix_ => List.getD [iox x xa xc, itp (x.t) xa xc, isv (tv (x.t) xa xc), isv (.bool Z), icp (.int .i64 x.cd), isv (.int .i64 x.cd), isv (.bool C0), icp (.int .i64 x.sk), isv (.int .i64 x.sk), isv (.bool S0)] ix_ anyv) (pre := [(1, 0)])
    (plan := [([(1, 0)], 1), ([(6, 1)], 2), ([(7, 2)], 3), ([(1, 0)], 4), ([(9, 4)], 5), ([(10, 5)], 6), ([(1, 0)], 7), ([(12, 7)], 8), ([(13, 8)], 9), ([(8, 3)], 3), ([(11, 6)], 6), ([(14, 9)], 9)])
    (by kernel_rfl) 72 (by kernel_rfl) rfl ⟨iox_row HI.out.row, trivial⟩
      (OkL.cons (fun a w_ X_ h => g_fo1 (wanted_none rfl) rfl h.1)
      (OkL.cons (fun a w_ X_ h => g_ldt (wanted_none rfl) rfl h.1 rfl)
      (OkL.cons (fun a w_ X_ h => g_call1 (wanted_none rfl) (by kernel_rfl) rfl (h_zero h.1 hZ))
      (OkL.cons (fun a w_ X_ h => g_fo2 (wanted_none rfl) rfl h.1)
      (OkL.cons (fun a w_ X_ h => g_ld3 (wanted_none rfl) rfl h.1 rfl)
      (OkL.cons (fun a w_ X_ h => g_cI (wanted_none rfl) rfl rfl h.1 rfl hC)
      (OkL.cons (fun a w_ X_ h => g_fo3 (wanted_none rfl) rfl h.1)
      (OkL.cons (fun a w_ X_ h => g_ld3 (wanted_none rfl) rfl h.1 rfl)
      (OkL.cons (fun a w_ X_ h => g_cI (wanted_none rfl) rfl rfl h.1 rfl hS)
      (OkL.cons (fun a w_ X_ h => g_move (wanted_none rfl) (.inr rfl) h.1)
      (OkL.cons (fun a w_ X_ h => g_move (wanted_none rfl) (.inr rfl) h.1)
      (OkL.cons (fun a w_ X_ h => g_move (wanted_none rfl) (.inr rfl) h.1)
      OkL.nil)))))))))))) ?_
  rintro w1 X1 v6 - _ rfl _ rfl v9 - _ rfl _ rfl v12 - _ rfl _ rfl _ rfl _ rfl _ rfl
  refine FinL.done ?_
  simp only [Act.put, List.setIfInBounds_toArray, List.set_cons_zero, List.set_cons_succ]
  have HI1 := hide (HI.out.ext X1)
  have g0 := cell_of_row _ _ 0 _ _ _ HI1.out.row
  have g1 := cell_of_row _ _ 1 _ _ _ HI1.out.row
  have g2 := cell_of_row _ _ 2 _ _ _ HI1.out.row
  have g3 := cell_of_row _ _ 3 _ _ _ HI1.out.row
  have g4 := cell_of_row _ _ 4 _ _ _ HI1.out.row
  have g5 := cell_of_row _ _ 5 _ _ _ HI1.out.row
  have g6 := cell_of_row _ _ 6 _ _ _ HI1.out.row
  simp only [List.getElem?_toArray, List.getElem?_cons_zero, List.getElem?_cons_succ] at g0 g1 g2 g3 g4 g5 g6
  clear hZ hC hS HI X1
  rw [hk] at g0
  clear HM hc1 hc3 hc19 hk
  cases Z with
  | false => go_wp2; go_ret; exact ⟨rfl, HI1.out.bel⟩
  | true =>
  cases C0 with
  | false => go_wp2; go_ret; exact ⟨rfl, HI1.out.bel⟩
  | true =>
  cases s1 with
  | false => go_wp2; go_ret; exact ⟨rfl, HI1.out.bel⟩
  | true =>
  go_wp2; go_ret; exact ⟨rfl, HI1.out.bel⟩
set_option maxRecDepth 100000 in
set_option maxHeartbeats 16000000 in
theorem isOp_none {x : Ox} {xa : Option Addr} {xc : Nat} {w : World} (h : TAt w x.t xa xc) (n1 : x.kd ≠ 1) (n2 : x.kd ≠ 2) (n3 : x.kd ≠ 3) (n4 : x.kd ≠ 4) (n5 : x.kd ≠ 5) : Calls Tryz.prog 59 #[ov x xa xc] w fun e w' => e = .returned (.bool (isOpB x)) ∧ Below w.heap.size w w' := by
  rw [opB_is]
  obtain ⟨Z, hZ⟩ : ∃ Z, zeroT x.t = Z := ⟨_, rfl⟩
  obtain ⟨C0, hC⟩ : ∃ Z, icmp .eql x.cd 0 = Z := ⟨_, rfl⟩
  obtain ⟨S0, hS⟩ : ∃ Z, icmp .eql x.sk 0 = Z := ⟨_, rfl⟩
  obtain ⟨c1, hc1⟩ : ∃ Z, decide (1 ≤ x.cd) = Z := ⟨_, rfl⟩
  obtain ⟨c3, hc3⟩ : ∃ Z, decide (x.cd ≤ 3) = Z := ⟨_, rfl⟩
  obtain ⟨c19, hc19⟩ : ∃ Z, decide (x.cd ≤ 19) = Z := ⟨_, rfl⟩
  obtain ⟨s1, hs1⟩ : ∃ Z, decide (1 ≤ x.sk) = Z := ⟨_, rfl⟩
  obtain ⟨M, hM⟩ : ∃ M, mayT x.t = M := ⟨_, rfl⟩
  have HM := hide (show ∀ W, TAt W x.t xa xc → Calls Tryz.prog 84 #[tv x.t xa xc] W fun e w' => e = .returned (.bool M) ∧ Below W.heap.size W w' from fun W hT => by rw [← hM]; exact May_any hT)
  rw [← icmp_eql, ← icmp_eql, hM, hZ, hC, hS, hc1, hc3, hc19, hs1]
  rw [show opB x.kd M Z C0 S0 c1 c3 c19 s1 = false from by unfold opB; rw [if_neg n1, if_neg n2, if_neg n3, if_neg (by omega)]]
  have HI := hide (IsO.new h)
  clear h
  unfold ov
  go_enter Tryz.func59, Tryz.ntmps59
  go_wp2_with fail
  refine wp_region_typed (tys := fun ix_ => List.getD [iox x xa xc, itp (x.t) xa xc, isv (tv (x.t) xa xc), isv (.bool Z), icp (.int .i64 x.cd), isv (.int .i64 x.cd), isv (.bool C0), icp (.int .i64 x.sk), isv (.int .i64 x.sk), isv (.bool S0)] ix_ anyv) (pre := [(1, 0)])
    (plan := [([(1, 0)], 1), ([(6, 1)], 2), ([(7, 2)], 3), ([(1, 0)], 4), ([(9, 4)], 5), ([(10, 5)], 6), ([(1, 0)], 7), ([(12, 7)], 8), ([(13, 8)], 9), ([(8, 3)], 3), ([(11, 6)], 6), ([(14, 9)], 9)])
    (by kernel_rfl) 72 (by kernel_rfl) rfl ⟨iox_row HI.out.row, trivial⟩
      (OkL.cons (fun a w_ X_ h => g_fo1 (wanted_none rfl) rfl h.1)
      (OkL.cons (fun a w_ X_ h => g_ldt (wanted_none rfl) rfl h.1 rfl)
      (OkL.cons (fun a w_ X_ h => g_call1 (wanted_none rfl) (by kernel_rfl) rfl (h_zero h.1 hZ))
      (OkL.cons (fun a w_ X_ h => g_fo2 (wanted_none rfl) rfl h.1)
      (OkL.cons (fun a w_ X_ h => g_ld3 (wanted_none rfl) rfl h.1 rfl)
      (OkL.cons (fun a w_ X_ h => g_cI (wanted_none rfl) rfl rfl h.1 rfl hC)
      (OkL.cons (fun a w_ X_ h => g_fo3 (wanted_none rfl) rfl h.1)
      (OkL.cons (fun a w_ X_ h => g_ld3 (wanted_none rfl) rfl h.1 rfl)
      (OkL.cons (fun a w_ X_ h => g_cI (wanted_none rfl) rfl rfl h.1 rfl hS)
      (OkL.cons (fun a w_ X_ h => g_move (wanted_none rfl) (.inr rfl) h.1)
      (OkL.cons (fun a w_ X_ h => g_move (wanted_none rfl) (.inr rfl) h.1)
      (OkL.cons (fun a w_ X_ h => g_move (wanted_none rfl) (.inr rfl) h.1)
      OkL.nil)))))))))))) ?_
  rintro w1 X1 v6 - _ rfl _ rfl v9 - _ rfl _ rfl v12 - _ rfl _ rfl _ rfl _ rfl _ rfl
  refine FinL.done ?_
  simp only [Act.put, List.setIfInBounds_toArray, List.set_cons_zero, List.set_cons_succ]
  have HI1 := hide (HI.out.ext X1)
  have g0 := cell_of_row _ _ 0 _ _ _ HI1.out.row
  have g1 := cell_of_row _ _ 1 _ _ _ HI1.out.row
  have g2 := cell_of_row _ _ 2 _ _ _ HI1.out.row
  have g3 := cell_of_row _ _ 3 _ _ _ HI1.out.row
  have g4 := cell_of_row _ _ 4 _ _ _ HI1.out.row
  have g5 := cell_of_row _ _ 5 _ _ _ HI1.out.row
  have g6 := cell_of_row _ _ 6 _ _ _ HI1.out.row
  simp only [List.getElem?_toArray, List.getElem?_cons_zero, List.getElem?_cons_succ] at g0 g1 g2 g3 g4 g5 g6
  clear hZ hC hS HI X1
  have d1 : (x.kd == 1) = false := by simpa using n1
  have d2 : (x.kd == 2) = false := by simpa using n2
  have d3 : (x.kd == 3) = false := by simpa using n3
  have d4 : (x.kd == 4) = false := by simpa using n4
  have d5 : (x.kd == 5) = false := by simpa using n5
  clear HM hc1 hc3 hc19 hs1 n1 n2 n3 n4 n5
  go_wp2
  go_ret
  exact ⟨rfl, HI1.out.bel⟩
theorem isOp_any {x : Ox} {xa : Option Addr} {xc : Nat} {w : World} (h : TAt w x.t xa xc) : Calls Tryz.prog 59 #[ov x xa xc] w fun e w' => e = .returned (.bool (isOpB x)) ∧ Below w.heap.size w w' := by
  by_cases h1 : x.kd = 1
  · exact isOp_one h h1
  by_cases h2 : x.kd = 2
  · exact isOp_two h h2
  by_cases h3 : x.kd = 3
  · exact isOp_three h h3
  by_cases h4 : x.kd = 4
  · exact isOp_four h h4
  by_cases h5 : x.kd = 5
  · exact isOp_five h h5
  exact isOp_none h h1 h2 h3 h4 h5
end Go.Proofs.YteiacgpaocnofaaGreat
/- Whether operations leave one term: the program's calls leavesOne, May. -/
namespace Go.Proofs.YteiacgpaocnofaaGreat
open Go.RowKit
def lenV : Value → Nat
  | .slice _ n _ => n
  | _ => 0
/-- A truth, told by a call that keeps what was there. -/
def Ans (v : Bool) (w : World) (e : Ending) (w' : World) : Prop := e = .returned (.bool v) ∧ Below w.heap.size w w'
theorem hg_none {x : Ox} {r : List Ox} {h : Int} (c : ¬ (isOpB x = true ∧ takesN x.kd ≤ h ∧ x.sk ≤ (r.length : Int) ∧ (0 < x.sk → hg (r.take x.sk.toNat) 0 = some 1))) : (hg (x :: r) h == some 1) = false := by rw [hg_cons, if_neg c]; rfl
def LvC (n : Nat) : Prop := ∀ (l : List Ox), l.length ≤ n → ∀ (a : Option Addr) (c : Nat) (w : World), OAt w l a c → Calls Tryz.prog 38 #[.slice a l.length c] w (Ans (lvB l) w)
set_option maxRecDepth 100000 in
set_option maxHeartbeats 8000000 in
theorem leaves_step {n : Nat} (hn : n < 32) (ih : 0 < n → LvC n) : LvC (n + 1) := by
  intro l hl a c w h
  have IH := hide ih
  obtain ⟨LV, hLV⟩ : ∃ v, lvB l = v := ⟨_, rfl⟩
  rw [hLV]
  have HL := hide (show (hg l 0 == some 1) = LV from hLV)
  have HO := hide h
  have hl32 : l.length ≤ 32 := by omega
  have HN := hide (And.intro hl hl32)
  clear h hLV ih hl32 hl
  go_enter Tryz.func38, Tryz.ntmps38
  go_wp2
  go_loopw [0, 3] (fun s h wr => ∃ (l' : List Ox) (a' : Option Addr) (c' : Nat) (k : Int), s = .slice a' l'.length c' ∧ h = .int .i64 k ∧ OAt wr l' a' c' ∧ (hg l' k == some 1) = LV ∧ (0 ≤ k ∧ k + (l'.length : Int) ≤ 32 ∧ l'.length ≤ n + 1) ∧ Below w.heap.size w wr) (fun s _ _ => lenV s)
  case atStart => exact ⟨l, a, c, 0, rfl, rfl, HO.out, HL.out, ⟨Int.le_refl 0, by have := HN.out.2; omega, HN.out.1⟩, Below.refl _ _⟩
  case round =>
    obtain ⟨l', a', c', k, rfl, rfl, hA, hv, hk, hB⟩ := hrel
    clear HO HL HN
    cases l' with
    | nil =>
      rw [hg_nil] at hv
      have HV := hide hv
      have HB := hide hB
      clear hv hB hA hk
      simp only [List.length_nil]
      go_wp2
      go_ret
      exact ⟨by rw [← HV.out]; rfl, HB.out⟩
    | cons x r =>
      obtain ⟨b, o, xa, xc, rfl, hb, hT, hF, h7⟩ := hA.head
      obtain ⟨a2, c2, hs1, hA2⟩ := os_from hA 1 (by simp)
      replace hs1 : ∀ W : World, (Instr.sliceAt 22 (.slice (some ⟨b, o, none⟩) (r.length + 1) c') (some (.int .i64 1)) none none).run Tryz.prog W = .ok (.slice a2 r.length c2) W := hs1
      replace hA2 : OAt wr r a2 c2 := hA2
      obtain ⟨p0, p1, p2, p3, p4, p5, p6⟩ := h7 wr (Below.refl _ _)
      have hix := fun w_ => ix_ops0 w_ b o (r.length + 1) c' (Nat.succ_pos _)
      have bA := alloc_below wr (.cells (ovC x xa xc) 48)
      have HC := hide (isOp_any (hT.ext bA))
      unfold ov at HC
      have HK := hide hk
      have HV := hide hv
      have HB := hide (And.intro (Below.chain hB bA) (And.intro (hA2.ext bA) (And.intro (heap_alloc_last wr (.cells (ovC x xa xc) 48)) hF)))
      have hpos : decide ((0 : Int) < ((r.length + 1 : Nat) : Int)) = true := decide_eq_true (by omega)
      clear hA hA2 hT hF h7 hB hk hv bA
      simp only [List.length_cons]
      obtain ⟨OB, hOB⟩ : ∃ v, isOpB x = v := ⟨_, rfl⟩
      rw [hOB] at HC
      replace HC := hide HC.out
      go_wp2_with fail
      refine HC.out.mono ?_
      rintro e_ w2 ⟨rfl, b2⟩
      have R2 := hide (Below.heap b2 (Array.getElem?_eq_some_iff.1 HB.out.2.2.1).1 HB.out.2.2.1)
      have HB2 := hide (And.intro (Below.chain HB.out.1 b2) (And.intro (HB.out.2.1.ext b2) HB.out.2.2.2))
      have g0 := cell_of_row _ _ 0 _ _ _ R2.out
      have g6 := cell_of_row _ _ 6 _ _ _ R2.out
      simp only [List.getElem?_toArray, List.getElem?_cons_zero, List.getElem?_cons_succ] at g0 g6
      clear b2 HB HC p0 p1 p2 p3 p4 p5 p6 hix hs1 hpos
      cases OB with
      | false =>
        have HR := hide (HV.out.symm.trans (hg_none (fun c => by rw [hOB] at c; cases c.1)))
        clear hOB HV
        go_wp2
        go_ret
        exact ⟨by rw [HR.out]; rfl, HB2.out.1⟩
      | true =>
      go_wp2_with fail
      refine (takes_any _ _).mono ?_
      rintro e_ w3 ⟨rfl, rfl⟩
      have htk := takes_le x.kd
      by_cases hlow : k < takesN x.kd
      · have HR := hide (HV.out.symm.trans (hg_none (fun c => by have := c.2.1; omega)))
        have d1 : decide (k < takesN x.kd) = true := decide_eq_true hlow
        clear hOB HV hlow htk
        generalize takesN x.kd = tk at *
        go_wp2
        go_ret
        exact ⟨by rw [HR.out]; rfl, HB2.out.1⟩
      have d1 : decide (k < takesN x.kd) = false := decide_eq_false hlow
      go_wp2_with fail
      refine (takes_any _ _).mono ?_
      rintro e_ w3 ⟨rfl, rfl⟩
      obtain ⟨tk, htke⟩ : ∃ v, takesN x.kd = v := ⟨_, rfl⟩
      have HT := hide htke
      rw [htke] at d1 htk hlow
      have hsum : k + (1 - tk) = k + (1 - tk) := rfl
      have hw1 : -9223372036854775808 ≤ 1 - tk ∧ 1 - tk ≤ 9223372036854775807 := by omega
      have hw2 : -9223372036854775808 ≤ k + (1 - tk) ∧ k + (1 - tk) ≤ 9223372036854775807 := by have := HK.out; omega
      have HLo := hide (show tk ≤ k by omega)
      have HW := hide htk
      have HO := hide hOB
      clear htk hlow hOB
      rw [htke]
      clear htke
      by_cases hlong : (r.length : Int) < x.sk
      · have HR := hide (HV.out.symm.trans (hg_none (fun c => by have := c.2.2.1; omega)))
        have d2 : decide ((r.length : Int) < x.sk) = true := decide_eq_true hlong
        clear HV hlong
        go_wp2
        go_ret
        exact ⟨by rw [HR.out]; rfl, HB2.out.1⟩
      have d2 : decide ((r.length : Int) < x.sk) = false := decide_eq_false hlong
      have hsk := op_sk HO.out
      obtain ⟨s, hs⟩ : ∃ s : Nat, x.sk = (s : Int) := ⟨x.sk.toNat, by omega⟩
      have hsr : s ≤ r.length := by omega
      have hsn : x.sk.toNat = s := by omega
      obtain ⟨a3, c3, hd3, hA3⟩ := os_from HB2.out.2.1 s hsr
      rw [hs] at g6 d2
      have e2 : decide (r.length < s) = false := decide_eq_false (by omega)
      clear d2
      by_cases hs0 : s = 0
      · subst hs0
        have hnext : (hg r (k + (1 - tk)) == some 1) = LV := by
          rw [← HV.out, hg_cons, if_pos ⟨HO.out, by rw [HT.out]; exact HLo.out, by omega, fun h => absurd h (by omega)⟩, hsn, List.drop_zero, HT.out]
        have HX := hide (And.intro HB2.out.2.1 (And.intro hnext HB2.out.1))
        clear hA3 hd3 hnext HV HB2 hs hsn hsk hsr hlong
        go_wp2
        go_roundw
        case rel =>
          refine ⟨r, a2, c2, k + (1 - tk), rfl, by go_num, HX.out.1, HX.out.2.1, ⟨?_, ?_, ?_⟩, HX.out.2.2⟩
          · have := HLo.out; have := HW.out; omega
          · have h1 := HK.out; have h2 := HW.out; simp only [List.length_cons] at h1; omega
          · have := HK.out.2.2; simp only [List.length_cons] at this; omega
        case measure => simp [lenV]
      · have d3 : decide (0 < s) = true := decide_eq_true (by omega)
        obtain ⟨ht3, hA4⟩ := os_upto HB2.out.2.1 s hsr
        have hlt : (r.take s).length = s := by rw [List.length_take]; omega
        have HI := hide (IH.out (by have h9 := HK.out.2.2; simp only [List.length_cons] at h9; omega) (r.take s) (by rw [hlt]; have := HK.out.2.2; simp only [List.length_cons] at this; omega) _ _ w3 hA4)
        obtain ⟨IN, hIN⟩ : ∃ v, lvB (r.take s) = v := ⟨_, rfl⟩
        rw [hIN, hlt] at HI
        rw [hlt] at ht3
        replace HI := hide HI.out
        have HIN := hide hIN
        have HX := hide (And.intro hs (And.intro hsn (And.intro hA3 (And.intro hsr hlong))))
        clear hA4 hA3 hs hsn hsk hIN hlt hsr hlong hs0
        go_wp2_with fail
        refine HI.out.mono ?_
        rintro e_ w4 ⟨rfl, b4⟩
        have R4 := hide (Below.heap b4 (Array.getElem?_eq_some_iff.1 R2.out).1 R2.out)
        have q0 := cell_of_row _ _ 0 _ _ _ R4.out
        have q6 := cell_of_row _ _ 6 _ _ _ R4.out
        simp only [List.getElem?_toArray, List.getElem?_cons_zero, List.getElem?_cons_succ] at q0 q6
        have HS := hide HX.out.1
        rw [HX.out.1] at q6
        clear g0 g6
        cases IN with
        | false =>
          have HR := hide (HV.out.symm.trans (hg_none (fun c => by
            have h1 := c.2.2.2 (by have := of_decide_eq_true d3; have := HX.out.1; omega)
            rw [HX.out.2.1] at h1
            have h2 := HIN.out
            unfold lvB at h2
            rw [h1] at h2
            cases h2)))
          have HB4 := hide (Below.chain HB2.out.1 b4)
          clear HV b4
          go_wp2
          go_ret
          exact ⟨by rw [HR.out]; rfl, HB4.out⟩
        | true =>
          have hnext : (hg (r.drop s) (k + (1 - tk)) == some 1) = LV := by
            have h2 := HIN.out
            unfold lvB at h2
            rw [← HV.out, hg_cons, if_pos ⟨HO.out, by rw [HT.out]; exact HLo.out, (show x.sk ≤ (r.length : Int) by have := HX.out; omega), fun _ => by rw [HX.out.2.1]; exact beq_iff_eq.1 h2⟩, HX.out.2.1, HT.out]
          have HY := hide (And.intro (HX.out.2.2.1.ext b4) (And.intro hnext (Below.chain HB2.out.1 b4)))
          clear hnext HV HB2 b4
          go_wp2
          go_roundw
          case rel =>
            refine ⟨r.drop s, a3, c3, k + (1 - tk), by rw [List.length_drop], by go_num, HY.out.1, HY.out.2.1, ⟨?_, ?_, ?_⟩, HY.out.2.2⟩
            · have := HLo.out; have := HW.out; omega
            · have h1 := HK.out; have h2 := HW.out; simp only [List.length_cons] at h1; rw [List.length_drop]; omega
            · have := HK.out.2.2; simp only [List.length_cons] at this; rw [List.length_drop]; omega
          case measure => simp [lenV]; omega
theorem leaves_all : ∀ n : Nat, n < 32 → LvC (n + 1)
  | 0, h => leaves_step h fun e => absurd e (Nat.lt_irrefl 0)
  | n + 1, h => leaves_step h fun _ => leaves_all n (by omega)
theorem leaves_any {l : List Ox} (hl : l.length ≤ 32) {a : Option Addr} {c : Nat} {w : World} (h : OAt w l a c) : Calls Tryz.prog 38 #[.slice a l.length c] w (Ans (lvB l) w) :=
  leaves_all 31 (by decide) l hl a c w h
set_option maxRecDepth 100000 in
set_option maxHeartbeats 2000000 in
theorem EMay_any {l : List Ox} {a : Option Addr} {c : Nat} {w : World} (h : OAt w l a c) : Calls Tryz.prog 18 #[.agg #[.slice a l.length c]] w (Ans (mayE l) w) := by
  have bA := alloc_below w (.cells #[.slice a l.length c] 24)
  have HB := hide bA
  unfold mayE
  by_cases h32 : l.length ≤ 32
  · have HC := hide (leaves_any h32 (h.ext bA))
    rw [decide_eq_true h32, Bool.true_and]
    generalize lvB l = LV at *
    have d1 : decide ((l.length : Int) ≤ 32) = true := decide_eq_true (by omega)
    have d2 : decide (l.length ≤ 32) = true := decide_eq_true h32
    clear h bA h32
    generalize l.length = n at *
    go_enter Tryz.func18, Tryz.ntmps18
    go_wp2_with fail
    refine HC.out.mono ?_
    rintro e_ w1 ⟨rfl, b1⟩
    have HR := hide (Below.chain HB.out b1)
    clear b1
    go_wp2
    go_ret
    exact ⟨rfl, HR.out⟩
  · rw [decide_eq_false h32, Bool.false_and]
    have d1 : decide ((l.length : Int) ≤ 32) = false := decide_eq_false (by omega)
    have d2 : decide (l.length ≤ 32) = false := decide_eq_false h32
    clear h bA h32
    generalize l.length = n at *
    go_enter Tryz.func18, Tryz.ntmps18
    go_wp2
    go_ret
    exact ⟨rfl, HB.out⟩
end Go.Proofs.YteiacgpaocnofaaGreat
/- Bindings: names that rise, and what they are bound to; a name looked for by halves. -/
namespace Go.Proofs.YteiacgpaocnofaaGreat
open Go.RowKit
/-- One text ahead of another. -/
abbrev slB (a b : ByteArray) : Bool := Op.bytesLess a.toList b.toList
theorem sl_iff (a b : ByteArray) : slB a b = true ↔ cmpS a b < 0 := by
  unfold cmpS slB
  constructor
  · intro h; rw [if_pos h]; decide
  · intro h
    split at h
    · assumption
    · split at h <;> omega
theorem sl_irr (a : ByteArray) : slB a a = false := by
  cases h : slB a a with
  | false => rfl
  | true => have h1 := (sl_iff a a).1 h; have h2 := ord_S.refl a; omega
theorem sl_trans {a b c : ByteArray} (h : slB a b = true) (k : slB b c = true) : slB a c = true := by
  rw [sl_iff] at h k ⊢
  exact (ord_S.trans a b c (by omega) (by omega)).2.1 h
theorem sl_not {a b : ByteArray} (h : slB a b = false) (hne : a ≠ b) : slB b a = true := by
  rw [sl_iff]
  have h1 : ¬ cmpS a b < 0 := fun e => by rw [(sl_iff a b).2 e] at h; cases h
  have h2 := ord_S.anti a b
  have h3 : cmpS a b ≠ 0 := fun e => hne (cmpS_zero e)
  omega
theorem eq_iff {a b : ByteArray} : (a.toList == b.toList) = true ↔ a = b := by
  constructor
  · intro h; exact toList_inj (by simpa using h)
  · intro h; subst h; simp
/-- Names in memory. -/
def NAt (w : World) (l : List ByteArray) (ao : Option Addr) (c : Nat) : Prop :=
  l.length ≤ c ∧ c ≤ 9223372036854775807 ∧ ∃ (b o : Nat), (l ≠ [] → ao = some ⟨b, o, none⟩ ∧ b < w.heap.size) ∧ ∀ i s, l[i]? = some s → w.cell? ⟨b, o + i, none⟩ = some (.string s) ∧ s.size ≤ 9223372036854775807
theorem NAt.ext {W w : World} {l : List ByteArray} {ao : Option Addr} {c : Nat} (h : NAt W l ao c) (he : Below W.heap.size W w) : NAt w l ao c := by
  obtain ⟨h1, h2, b, o, hb, hc⟩ := h
  exact ⟨h1, h2, b, o, fun hne => ⟨(hb hne).1, Nat.lt_of_lt_of_le (hb hne).2 he.size⟩, fun i s hs => ⟨(Below.cell (p := ⟨b, o + i, none⟩) he (hb (fun e => by rw [e] at hs; simp at hs)).2).trans (hc i s hs).1, (hc i s hs).2⟩⟩
theorem NAt.read {w : World} {l : List ByteArray} {ao : Option Addr} {c : Nat} (h : NAt w l ao c) (hne : 0 < l.length) : ∃ b o, ao = some ⟨b, o, none⟩ ∧ b < w.heap.size ∧ ∀ i s, l[i]? = some s → s.size ≤ 9223372036854775807 ∧ ∀ W, Below w.heap.size w W → W.cell? ⟨b, o + i, none⟩ = some (.string s) := by
  obtain ⟨_, _, b, o, hb, hc⟩ := h
  obtain ⟨e, hbb⟩ := hb (fun e => by rw [e] at hne; simp at hne)
  exact ⟨b, o, e, hbb, fun i s hs => ⟨(hc i s hs).2, fun W he => (Below.cell (p := ⟨b, o + i, none⟩) he hbb).trans (hc i s hs).1⟩⟩
theorem ix_names (w : World) (b o n c k : Nat) (hk : k < n) : (Instr.indexAt 25 (.slice (some ⟨b, o, none⟩) n c) (.int .i64 (k : Int))).run Tryz.prog w = .ok (.pointer (some ⟨b, o + k, none⟩)) w := by
  have h1 : decide ((k : Int) < 0) = false := decide_eq_false (by omega)
  have h2 : ¬ ((n : Int) ≤ (k : Int)) := by omega
  go_simp
/-- They rise. -/
def riseN (l : List ByteArray) : Prop := ∀ (i j : Nat) (a b : ByteArray), i < j → l[i]? = some a → l[j]? = some b → slB a b = true
/-- What a name is bound to. -/
def lkT : List ByteArray → List Tm → ByteArray → Option Tm
  | n :: nl, t :: tl, s => if n = s then some t else lkT nl tl s
  | _, _, _ => none
theorem lk_at : ∀ {nl : List ByteArray} {tl : List Tm} {i : Nat} {s : ByteArray} {t : Tm}, riseN nl → nl[i]? = some s → tl[i]? = some t → lkT nl tl s = some t
  | [], _, _, _, _, _, h, _ => by simp at h
  | _ :: _, [], _, _, _, _, _, h => by simp at h
  | n :: nl, t :: tl, 0, s, u, _, h1, h2 => by
    obtain rfl : n = s := by simpa using h1
    obtain rfl : t = u := by simpa using h2
    unfold lkT
    rw [if_pos rfl]
  | n :: nl, t :: tl, i + 1, s, u, hr, h1, h2 => by
    have hlt := hr 0 (i + 1) n s (by omega) rfl h1
    unfold lkT
    rw [if_neg (fun e => by subst e; rw [sl_irr] at hlt; cases hlt)]
    exact lk_at (i := i) (fun a b x y hab ha hb => hr (a + 1) (b + 1) x y (by omega) (by simpa using ha) (by simpa using hb)) (by simpa using h1) (by simpa using h2)
theorem lk_none : ∀ {nl : List ByteArray} {tl : List Tm} {s : ByteArray}, s ∉ nl → lkT nl tl s = none
  | [], _, _, _ => by unfold lkT; rfl
  | _ :: _, [], _, _ => by unfold lkT; rfl
  | n :: nl, t :: tl, s, h => by
    unfold lkT
    rw [if_neg (fun e => h (by rw [e]; simp))]
    exact lk_none (fun e => h (List.mem_cons_of_mem _ e))
theorem lk_mem : ∀ {nl : List ByteArray} {tl : List Tm} {s : ByteArray} {t : Tm}, lkT nl tl s = some t → t ∈ tl ∧ s ∈ nl
  | [], _, _, _, h => by unfold lkT at h; cases h
  | _ :: _, [], _, _, h => by unfold lkT at h; cases h
  | n :: nl, t :: tl, s, u, h => by
    unfold lkT at h
    by_cases e : n = s
    · rw [if_pos e] at h
      injection h with h
      subst h; subst e; exact ⟨by simp, by simp⟩
    · rw [if_neg e] at h
      exact ⟨List.mem_cons_of_mem _ (lk_mem h).1, List.mem_cons_of_mem _ (lk_mem h).2⟩
set_option maxRecDepth 100000 in
theorem isNaN_any (a : ByteArray) (w : World) : Calls Tryz.prog 108 #[.string a] w fun e w' => e = .returned (.bool false) ∧ w' = w := by
  have ha : (a.toList == a.toList) = true := by simp
  go_enter Tryz.func108, Tryz.ntmps108
  go_wp2
  go_ret
  first | exact ⟨rfl, rfl⟩ | exact ⟨by simp, rfl⟩
set_option maxRecDepth 100000 in
theorem isNaN2_any (a : ByteArray) (w : World) : Calls Tryz.prog 82 #[.string a] w fun e w' => e = .returned (.bool false) ∧ w' = w := by
  have ha : (a.toList == a.toList) = true := by simp
  go_enter Tryz.func82, Tryz.ntmps82
  go_wp2
  go_ret
  first | exact ⟨rfl, rfl⟩ | exact ⟨by simp, rfl⟩
set_option maxRecDepth 100000 in
theorem cLess_any (a b : ByteArray) (w : World) : Calls Tryz.prog 81 #[.string a, .string b] w fun e w' => e = .returned (.bool (slB a b)) ∧ w' = w := by
  unfold slB
  cases h : Op.bytesLess a.toList b.toList with
  | true =>
    go_enter Tryz.func81, Tryz.ntmps81
    go_wp2_with (go_at_call 108; refine (isNaN_any _ _).mono ?_; rintro e w' ⟨rfl, rfl⟩)
    go_ret
    exact ⟨rfl, rfl⟩
  | false =>
    go_enter Tryz.func81, Tryz.ntmps81
    go_wp2_with (go_at_call 108; refine (isNaN_any _ _).mono ?_; rintro e w' ⟨rfl, rfl⟩)
    go_ret
    exact ⟨rfl, rfl⟩
/-- Where a name is, and whether it is there. -/
def Found (l : List ByteArray) (s : ByteArray) (i : Nat) (f : Bool) : Prop := i ≤ l.length ∧ (f = true → l[i]? = some s) ∧ (f = false → s ∉ l)
theorem found_end {l : List ByteArray} {s : ByteArray} {i : Nat} (hr : riseN l) (hi : i ≤ l.length) (hlo : ∀ t a, t < i → l[t]? = some a → slB a s = true) (hhi : ∀ t a, i ≤ t → l[t]? = some a → slB a s = false) :
    (l[i]? ≠ some s → s ∉ l) := by
  intro hne hm
  obtain ⟨k, hk⟩ := List.mem_iff_getElem?.1 hm
  rcases Nat.lt_trichotomy k i with h | h | h
  · have := hlo k s h hk; rw [sl_irr] at this; cases this
  · subst h; exact hne hk
  · have hkl := (List.getElem?_eq_some_iff.1 hk).1
    obtain ⟨y, hy⟩ : ∃ y, l[i]? = some y := ⟨_, List.getElem?_eq_getElem (by omega)⟩
    have h1 := hr i k y s h hy hk
    rw [hhi i y (Nat.le_refl i) hy] at h1
    cases h1
set_option maxHeartbeats 8000000 in
set_option maxRecDepth 1000000 in
theorem BSearch_any {l : List ByteArray} {ao : Option Addr} {c : Nat} {w : World} (s : ByteArray) (h : NAt w l ao c) (hr : riseN l) (hn : l.length ≤ 32) :
    Calls Tryz.prog 58 #[.slice ao l.length c, .string s] w fun e w' => (∃ i f, e = .returned (.tuple #[.int .i64 (i : Nat), .bool f]) ∧ Found l s i f) ∧ Below w.heap.size w w' := by
  have HH := hide h
  have HR := hide hr
  have HN := hide hn
  clear h hr
  go_enter Tryz.func58, Tryz.ntmps58
  go_wp2
  go_loopw [7, 8] (fun s7 s8 wr => ∃ lo hi : Nat, s7 = .int .i64 (lo : Int) ∧ s8 = .int .i64 (hi : Int) ∧ lo ≤ hi ∧ hi ≤ l.length ∧ Below w.heap.size w wr ∧ (∀ t a, t < lo → l[t]? = some a → slB a s = true) ∧ (∀ t a, hi ≤ t → l[t]? = some a → slB a s = false)) (fun s7 s8 _ => (intOf s8).toNat - (intOf s7).toNat)
  case atStart => exact ⟨0, l.length, rfl, rfl, Nat.zero_le _, Nat.le_refl _, Below.refl _ _, fun t _ ht => absurd ht (Nat.not_lt_zero t), fun t a h1 h2 => by have := (List.getElem?_eq_some_iff.1 h2).1; omega⟩
  case round =>
    obtain ⟨lo, hi, rfl, rfl, hlh, hin, hB, h1, h2⟩ := hrel
    have I := hide (And.intro h1 h2)
    clear h1 h2
    by_cases hlt : lo < hi
    · obtain ⟨y, hy⟩ : ∃ y, l[(lo + hi) / 2]? = some y := ⟨_, List.getElem?_eq_getElem (by omega)⟩
      obtain ⟨b, o, rfl, hb, hc⟩ := HH.out.read (by omega)
      have cm := (hc _ y hy).2 wr hB
      have hix := fun w_ => ix_names w_ b o l.length c ((lo + hi) / 2) (by omega)
      have HY := hide hy
      have HB := hide hB
      clear hc hy hB
      have hL := HN.out
      cases hyx : slB y s with
      | true =>
        have HX := hide hyx
        go_wp2_with fail
        refine (cLess_any _ _ _).mono ?_
        rintro e_ w2 ⟨rfl, rfl⟩
        rw [hyx]
        clear hyx
        go_wp2
        go_roundw
        case rel =>
          refine ⟨(lo + hi) / 2 + 1, hi, by first | rfl | (congr 1; omega), rfl, by omega, hin, HB.out, fun t a ht ha => ?_, I.out.2⟩
          rcases Nat.lt_or_ge t ((lo + hi) / 2) with h | h
          · exact sl_trans (HR.out t _ a y h ha HY.out) HX.out
          · obtain rfl : t = (lo + hi) / 2 := by omega
            rw [HY.out] at ha
            injection ha with ha
            subst ha
            exact HX.out
        case measure => simp [intOf]; omega
      | false =>
        have HX := hide hyx
        go_wp2_with fail
        refine (cLess_any _ _ _).mono ?_
        rintro e_ w2 ⟨rfl, rfl⟩
        rw [hyx]
        clear hyx
        go_wp2
        go_roundw
        case rel =>
          refine ⟨lo, (lo + hi) / 2, rfl, by first | rfl | (congr 1; omega), by omega, by omega, HB.out, I.out.1, fun t a ht ha => ?_⟩
          rcases Nat.lt_or_ge ((lo + hi) / 2) t with h | h
          · cases hts : slB a s with
            | false => rfl
            | true => have := sl_trans (HR.out _ t y a h HY.out ha) hts; rw [HX.out] at this; cases this
          · obtain rfl : t = (lo + hi) / 2 := by omega
            rw [HY.out] at ha
            injection ha with ha
            subst ha
            exact HX.out
        case measure => simp [intOf]; omega
    · have : hi = lo := by omega
      subst this
      have HE := hide (found_end HR.out hin I.out.1 I.out.2)
      have HB := hide hB
      clear hB
      by_cases hn : hi < l.length
      · obtain ⟨y, hy⟩ : ∃ y, l[hi]? = some y := ⟨_, List.getElem?_eq_getElem (by omega)⟩
        obtain ⟨b, o, rfl, hb, hc⟩ := HH.out.read (by omega)
        have cm := (hc _ y hy).2 wr HB.out
        have hix := fun w_ => ix_names w_ b o l.length c hi hn
        have HY := hide hy
        clear hc hy
        cases hyx : (y.toList == s.toList) with
        | true =>
          have HX := hide (eq_iff.1 hyx)
          go_wp2_with (go_at_call 82; refine (isNaN2_any _ _).mono ?_; rintro e w' ⟨rfl, rfl⟩)
          go_ret2
          exact ⟨⟨hi, true, rfl, by omega, fun _ => by rw [HY.out, HX.out], fun e => by cases e⟩, HB.out⟩
        | false =>
          have HX := hide (show y ≠ s from fun e => by rw [eq_iff.2 e] at hyx; cases hyx)
          go_wp2_with (go_at_call 82; refine (isNaN2_any _ _).mono ?_; rintro e w' ⟨rfl, rfl⟩)
          go_ret2
          exact ⟨⟨hi, false, rfl, by omega, (fun e => by cases e), fun _ => HE.out (by rw [HY.out]; intro e; injection e with e; exact HX.out e)⟩, HB.out⟩
      · go_wp2_with (go_at_call 82; refine (isNaN2_any _ _).mono ?_; rintro e w' ⟨rfl, rfl⟩)
        go_ret2
        exact ⟨⟨hi, false, rfl, by omega, (fun e => by cases e), fun _ => HE.out (by rw [List.getElem?_eq_none (by omega)]; simp)⟩, HB.out⟩
end Go.Proofs.YteiacgpaocnofaaGreat
/- Bindings that may be: the program's calls mayPair, MayBind. -/
namespace Go.Proofs.YteiacgpaocnofaaGreat
open Go.RowKit
/-- Bindings, as a value. -/
def bv (nl : List ByteArray) (na : Option Addr) (nc : Nat) (tl : List Tm) (ta : Option Addr) (tc : Nat) : Value := .agg #[.slice na nl.length nc, .slice ta tl.length tc]
abbrev nmD (l : List ByteArray) (i : Nat) : ByteArray := l.getD i ⟨#[]⟩
abbrev tmD (l : List Tm) (i : Nat) : Tm := l.getD i default
def pairB (nl : List ByteArray) (tl : List Tm) (i : Nat) : Bool := (decide (i = 0) || slB (nmD nl (i - 1)) (nmD nl i)) && nameB (nmD nl i) && fixT (tmD tl i)
def mbB (nl : List ByteArray) (tl : List Tm) : Bool := decide (nl.length = tl.length) && decide (nl.length ≤ 32) && (List.range nl.length).all (pairB nl tl)
theorem nmD_at {l : List ByteArray} {i : Nat} (h : i < l.length) : l[i]? = some (nmD l i) := by rw [List.getElem?_eq_getElem h, nmD, List.getD_eq_getElem?_getD, List.getElem?_eq_getElem h]; rfl
theorem tmD_at {l : List Tm} {i : Nat} (h : i < l.length) : l[i]? = some (tmD l i) := by rw [List.getElem?_eq_getElem h, tmD, List.getD_eq_getElem?_getD, List.getElem?_eq_getElem h]; rfl
structure Mb (nl : List ByteArray) (tl : List Tm) : Prop where
  len : nl.length = tl.length
  few : nl.length ≤ 32
  pair : ∀ i, i < nl.length → pairB nl tl i = true
theorem mb_iff {nl : List ByteArray} {tl : List Tm} : mbB nl tl = true ↔ Mb nl tl := by
  unfold mbB
  simp only [Bool.and_eq_true, decide_eq_true_eq, List.all_eq_true, List.mem_range]
  exact ⟨fun h => ⟨h.1.1, h.1.2, h.2⟩, fun h => ⟨⟨h.len, h.few⟩, h.pair⟩⟩
theorem Mb.step {nl : List ByteArray} {tl : List Tm} (h : Mb nl tl) {i : Nat} (hi : i + 1 < nl.length) : slB (nmD nl i) (nmD nl (i + 1)) = true := by
  have := h.pair (i + 1) hi
  unfold pairB at this
  simp only [Bool.and_eq_true, Bool.or_eq_true, decide_eq_true_eq] at this
  rcases this.1.1 with e | e
  · omega
  · simpa using e
theorem Mb.name {nl : List ByteArray} {tl : List Tm} (h : Mb nl tl) {s : ByteArray} (hs : s ∈ nl) : nameB s = true := by
  obtain ⟨i, hi⟩ := List.mem_iff_getElem?.1 hs
  have hl := (List.getElem?_eq_some_iff.1 hi).1
  have := h.pair i hl
  unfold pairB at this
  simp only [Bool.and_eq_true] at this
  rw [nmD_at hl] at hi
  injection hi with hi
  rw [← hi]; exact this.1.2
theorem Mb.fix {nl : List ByteArray} {tl : List Tm} (h : Mb nl tl) {t : Tm} (ht : t ∈ tl) : fixT t = true := by
  obtain ⟨i, hi⟩ := List.mem_iff_getElem?.1 ht
  have hl := (List.getElem?_eq_some_iff.1 hi).1
  have := h.pair i (by rw [h.len]; exact hl)
  unfold pairB at this
  simp only [Bool.and_eq_true] at this
  rw [tmD_at hl] at hi
  injection hi with hi
  rw [← hi]; exact this.2
theorem Mb.rise {nl : List ByteArray} {tl : List Tm} (h : Mb nl tl) : riseN nl := by
  have key : ∀ (d i : Nat), i + d + 1 < nl.length → slB (nmD nl i) (nmD nl (i + d + 1)) = true := by
    intro d
    induction d with
    | zero => intro i hi; exact h.step hi
    | succ d ih => intro i hi; exact sl_trans (ih i (by omega)) (h.step (i := i + d + 1) (by omega))
  intro i j a b hij ha hb
  have hj := (List.getElem?_eq_some_iff.1 hb).1
  rw [nmD_at (by omega)] at ha hb
  injection ha with ha
  injection hb with hb
  subst ha; subst hb
  have := key (j - i - 1) i (by omega)
  rwa [show i + (j - i - 1) + 1 = j by omega] at this
abbrev bvC (nl : List ByteArray) (na : Option Addr) (nc : Nat) (tl : List Tm) (ta : Option Addr) (tc : Nat) : Array Value := #[.slice na nl.length nc, .slice ta tl.length tc]
/-- Bindings in memory. -/
structure BAt (w : World) (nl : List ByteArray) (na : Option Addr) (nc : Nat) (tl : List Tm) (ta : Option Addr) (tc : Nat) : Prop where
  nm : NAt w nl na nc
  tm : LAt w tl ta tc
theorem BAt.ext {W w : World} {nl : List ByteArray} {na : Option Addr} {nc : Nat} {tl : List Tm} {ta : Option Addr} {tc : Nat} (h : BAt W nl na nc tl ta tc) (he : Below W.heap.size W w) : BAt w nl na nc tl ta tc := ⟨h.nm.ext he, h.tm.ext he⟩
variable {nl : List ByteArray} {na : Option Addr} {nc : Nat} {tl : List Tm} {ta : Option Addr} {tc : Nat} {w : World}
set_option maxRecDepth 100000 in
set_option maxHeartbeats 8000000 in
/-- Behind the order of names: the name itself, and what it is bound to. -/
theorem mayPair_any (h : BAt w nl na nc tl ta tc) {k : Nat} (hk : k < nl.length) (hk2 : k < tl.length) : Calls Tryz.prog 40 #[bv nl na nc tl ta tc, .int .i64 (k : Int)] w (Ans (pairB nl tl k) w) := by
  obtain ⟨PR, hPR⟩ : ∃ v, pairB nl tl k = v := ⟨_, rfl⟩
  rw [hPR]
  have HP := hide hPR
  clear hPR
  obtain ⟨b, o, rfl, hb, hc⟩ := h.nm.read (by omega)
  obtain ⟨bb, o2, rfl, hb2, hc2⟩ := h.tm.read (by omega)
  obtain ⟨S, hS⟩ : ∃ S, nmD nl k = S := ⟨_, rfl⟩
  obtain ⟨T, hT⟩ : ∃ T, tmD tl k = T := ⟨_, rfl⟩
  have hs := nmD_at hk
  have ht := tmD_at hk2
  rw [hS] at hs
  rw [hT] at ht
  obtain ⟨xa, xc, hxt, hx4⟩ := hc2 k T ht
  have bA := alloc_below w (.cells (bvC nl (some ⟨b, o, none⟩) nc tl (some ⟨bb, o2, none⟩) tc) 28)
  have cS := (hc k S hs).2 _ bA
  obtain ⟨NM, hNM⟩ : ∃ v, nameB S = v := ⟨_, rfl⟩
  have HN := hide (show ∀ W, Calls Tryz.prog 62 #[.string S] W (Ans NM W) from fun W => by rw [← hNM]; exact Name_any S (hc k S hs).1 W)
  obtain ⟨FX, hFX⟩ : ∃ v, fixT T = v := ⟨_, rfl⟩
  have HF := hide (show ∀ W, TAt W T xa xc → Calls Tryz.prog 63 #[tv T xa xc] W (Ans FX W) from fun W hW => by rw [← hFX]; exact Fixed_any hW)
  have HX := hide (And.intro bA (And.intro (heap_alloc_last w (.cells (bvC nl (some ⟨b, o, none⟩) nc tl (some ⟨bb, o2, none⟩) tc) 28)) (And.intro hxt hx4)))
  have hix := fun w_ => ix_names w_ b o nl.length nc k hk
  have hit := fun w_ => ix_terms w_ bb o2 tl.length tc k hk2
  have HPV : Hid (PR = ((decide (k = 0) || slB (nmD nl (k - 1)) S) && NM && FX)) := hide (by rw [← HP.out, ← hNM, ← hFX, ← hS, ← hT]; rfl)
  have HCP := hide (fun (h0 : 0 < k) => (hc (k - 1) _ (nmD_at (l := nl) (by omega))).2 _ bA)
  have HIP := hide (fun (h0 : 0 < k) w_ => ix_names w_ b o nl.length nc (k - 1) (by omega))
  have hkb : k < 9223372036854775807 := by have := h.nm.1; have := h.nm.2.1; omega
  clear hc hc2 hxt hx4 hs ht h hS hT HP hNM hFX
  obtain ⟨G, hG⟩ : ∃ v, (decide (k = 0) || slB (nmD nl (k - 1)) S) = v := ⟨_, rfl⟩
  rw [hG] at HPV
  replace HPV := hide HPV.out
  unfold bv
  by_cases h0 : k = 0
  · have hG2 : G = true := by rw [← hG, decide_eq_true h0]; rfl
    have d0 : decide ((0 : Int) < (k : Int)) = false := decide_eq_false (by omega)
    have d1 : decide (0 < k) = false := decide_eq_false (by omega)
    subst hG2
    clear hG HCP HIP h0
    go_enter Tryz.func40, Tryz.ntmps40
    go_wp2_with fail
    go_quiet (fail)
    go_wp2_with fail
    refine (HN.out _).mono ?_
    rintro e_ w2 ⟨rfl, b2⟩
    have BB := Below.chain (below_drewN' (Below.refl _ _) _) b2
    have R2 := Below.heap BB (Array.getElem?_eq_some_iff.1 HX.out.2.1).1 HX.out.2.1
    have HB2 := hide (Below.chain HX.out.1 BB)
    have q0 := cell_of_row _ _ 0 _ _ _ R2
    have q1 := cell_of_row _ _ 1 _ _ _ R2
    simp only [List.getElem?_toArray, List.getElem?_cons_zero, List.getElem?_cons_succ] at q0 q1
    obtain ⟨p0, p1, p2, p3⟩ := HX.out.2.2.2 w2 HB2.out
    have HF2 := hide (HF.out w2 (HX.out.2.2.1.ext HB2.out))
    unfold tv at HF2
    clear b2 BB R2 cS
    cases NM with
    | false =>
      go_wp2
      go_ret
      exact ⟨by rw [HPV.out]; rfl, HB2.out⟩
    | true =>
      go_wp2_with fail
      refine HF2.out.mono ?_
      rintro e_ w3 ⟨rfl, b3⟩
      have HB3 := hide (Below.chain HB2.out b3)
      clear b3
      go_wp2
      go_ret
      exact ⟨by rw [HPV.out]; rfl, HB3.out⟩
  · have hp : 0 < k := by omega
    have cP := HCP.out hp
    have hip := HIP.out hp
    have d0 : decide ((0 : Int) < (k : Int)) = true := decide_eq_true (by omega)
    have d1 : decide (0 < k) = true := decide_eq_true hp
    have hk1 : (k : Int) - 1 = ((k - 1 : Nat) : Int) := by omega
    have hkw : IntKind.i64.wrap ((k - 1 : Nat) : Int) = ((k - 1 : Nat) : Int) := by rw [IntKind.wrap_i64]; omega
    rw [decide_eq_false h0, Bool.false_or] at hG
    generalize nmD nl (k - 1) = P at *
    cases G with
    | false =>
      unfold slB at hG
      go_enter Tryz.func40, Tryz.ntmps40
      go_wp2_with fail
      go_quiet (fail)
      go_wp2
      go_ret
      exact ⟨by rw [HPV.out]; rfl, below_drewN' HX.out.1 _⟩
    | true =>
      unfold slB at hG
      clear HCP HIP h0
      go_enter Tryz.func40, Tryz.ntmps40
      go_wp2_with fail
      go_quiet (fail)
      go_wp2_with fail
      refine (HN.out _).mono ?_
      rintro e_ w2 ⟨rfl, b2⟩
      have BB := Below.chain (below_drewN' (Below.refl _ _) _) b2
      have R2 := Below.heap BB (Array.getElem?_eq_some_iff.1 HX.out.2.1).1 HX.out.2.1
      have HB2 := hide (Below.chain HX.out.1 BB)
      have q0 := cell_of_row _ _ 0 _ _ _ R2
      have q1 := cell_of_row _ _ 1 _ _ _ R2
      simp only [List.getElem?_toArray, List.getElem?_cons_zero, List.getElem?_cons_succ] at q0 q1
      obtain ⟨p0, p1, p2, p3⟩ := HX.out.2.2.2 w2 HB2.out
      have HF2 := hide (HF.out w2 (HX.out.2.2.1.ext HB2.out))
      unfold tv at HF2
      clear b2 BB R2 cS
      cases NM with
      | false =>
        go_wp2
        go_ret
        exact ⟨by rw [HPV.out]; rfl, HB2.out⟩
      | true =>
        go_wp2_with fail
        refine HF2.out.mono ?_
        rintro e_ w3 ⟨rfl, b3⟩
        have HB3 := hide (Below.chain HB2.out b3)
        clear b3
        go_wp2
        go_ret
        exact ⟨by rw [HPV.out]; rfl, HB3.out⟩
set_option maxRecDepth 100000 in
set_option maxHeartbeats 8000000 in
theorem MayBind_any (h : BAt w nl na nc tl ta tc) : Calls Tryz.prog 20 #[bv nl na nc tl ta tc] w (Ans (mbB nl tl) w) := by
  have bA := alloc_below w (.cells (bvC nl na nc tl ta tc) 28)
  have HX := hide (And.intro bA (And.intro (heap_alloc_last w (.cells (bvC nl na nc tl ta tc) 28)) h))
  have hm1 := h.nm.1
  have hm2 := h.nm.2.1
  have hm3 := h.tm.1
  have hm4 := h.tm.2.1
  unfold mbB bv
  by_cases hl : nl.length = tl.length
  · have d0 : decide (nl.length = tl.length) = true := decide_eq_true hl
    by_cases h32 : nl.length ≤ 32
    · have HL := hide hl
      have HH := hide h32
      rw [d0, decide_eq_true h32, Bool.true_and, Bool.true_and]
      have e1 : decide ((32 : Int) < (nl.length : Int)) = false := decide_eq_false (by omega)
      have e2 : decide (32 < nl.length) = false := decide_eq_false (by omega)
      have e3 : ((nl.length : Int) != (tl.length : Int)) = false := by simp [hl]
      have e4 : (nl.length != tl.length) = false := by simp [hl]
      obtain ⟨AL, hAL⟩ : ∃ v, (List.range nl.length).all (pairB nl tl) = v := ⟨_, rfl⟩
      have HAL := hide hAL
      rw [hAL]
      clear hAL d0 hl
      go_enter Tryz.func20, Tryz.ntmps20
      go_wp2
      clear e1 e2 e3 e4
      go_loopw [20] (fun i wr => ∃ k : Nat, k ≤ nl.length ∧ i = .int .i64 (k : Int) ∧ (∀ j, j < k → pairB nl tl j = true) ∧ Below w.heap.size w wr ∧ wr.heap[w.heap.size]? = some (.cells (bvC nl na nc tl ta tc) 28 (0, 0))) (fun i _ => nl.length - (intOf i).toNat)
      case atStart => exact ⟨0, Nat.zero_le _, rfl, fun j hj => absurd hj (Nat.not_lt_zero j), HX.out.1, HX.out.2.1⟩
      case round =>
        obtain ⟨k, hk, rfl, hall, hB, hrow⟩ := hrel
        have q0 := cell_of_row _ _ 0 _ _ _ hrow
        have q1 := cell_of_row _ _ 1 _ _ _ hrow
        simp only [List.getElem?_toArray, List.getElem?_cons_zero, List.getElem?_cons_succ] at q0 q1
        have HW := hide (And.intro hall (And.intro hB hrow))
        by_cases hlt : k < nl.length
        · have HC := hide (mayPair_any (HX.out.2.2.ext hB) hlt (by rw [← HL.out]; exact hlt))
          obtain ⟨PB, hPB⟩ : ∃ v, pairB nl tl k = v := ⟨_, rfl⟩
          rw [hPB] at HC
          replace HC := hide HC.out
          have HPB := hide hPB
          unfold bv at HC
          clear hall hB hrow hPB
          go_wp2_with fail
          refine HC.out.mono ?_
          rintro e_ w2 ⟨rfl, b2⟩
          have HB2 := hide (And.intro (Below.chain HW.out.2.1 b2) (Below.heap b2 (Array.getElem?_eq_some_iff.1 HW.out.2.2).1 HW.out.2.2))
          clear b2 q0 q1
          cases PB with
          | false =>
            have HV := hide (show AL = false from by
              rw [← HAL.out, List.all_eq_false]
              exact ⟨k, List.mem_range.2 hlt, by rw [HPB.out]; decide⟩)
            go_wp2
            go_ret
            exact ⟨by rw [HV.out]; rfl, HB2.out.1⟩
          | true =>
            go_wp2
            go_roundw
            case rel => exact ⟨k + 1, by omega, by go_num, fun j hj => by
              rcases Nat.lt_or_ge j k with h | h
              · exact HW.out.1 j h
              · obtain rfl : j = k := by omega
                exact HPB.out, HB2.out.1, HB2.out.2⟩
            case measure => simp [intOf]; omega
        · obtain rfl : k = nl.length := by omega
          have HV := hide (show AL = true from by
            rw [← HAL.out, List.all_eq_true]
            exact fun j hj => HW.out.1 j (List.mem_range.1 hj))
          clear hall hB hrow
          go_wp2
          go_ret
          exact ⟨by rw [HV.out]; rfl, HW.out.2.1⟩
    · rw [decide_eq_false h32, Bool.and_false, Bool.false_and]
      have e1 : decide ((32 : Int) < (nl.length : Int)) = true := decide_eq_true (by omega)
      have e2 : decide (32 < nl.length) = true := decide_eq_true (by omega)
      have e3 : ((nl.length : Int) != (tl.length : Int)) = false := by simp [hl]
      have e4 : (nl.length != tl.length) = false := by simp [hl]
      clear h hl h32 d0
      go_enter Tryz.func20, Tryz.ntmps20
      go_wp2
      go_ret
      exact ⟨rfl, HX.out.1⟩
  · rw [decide_eq_false hl, Bool.false_and, Bool.false_and]
    have e3 : ((nl.length : Int) != (tl.length : Int)) = true := by simp; omega
    have e4 : (nl.length != tl.length) = true := by simp [hl]
    clear h hl
    go_enter Tryz.func20, Tryz.ntmps20
    go_wp2
    go_ret
    exact ⟨rfl, HX.out.1⟩
end Go.Proofs.YteiacgpaocnofaaGreat
