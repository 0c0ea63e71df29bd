/- Means for the walks: memory that stays, rows of steps, a reader of a pattern in memory. -/
import Derived.Test.YtmjnedafcfolgaaRxMath
import Derived.Test.YtmjnedafcfolgaaMb
import Derived.WalkKit
import Derived.WalkSpells
import Derived.WalkLawsBesides
import Derived.Deep.WholeRow
import Derived.Deep.MidRow
import Derived.Deep.RegionHeld3
import Derived.Deep.QuietTactic
import Derived.BigQuiet
import Derived.Laws.Externs
import Derived.Laws.OwnMore
import Derived.ArgAppend
import Derived.Maps.AppendAt
import Derived.Deep.LoopGhost
import Derived.Deep.Cut
namespace Go.Proofs.Ytmjnedafcfolgaa
open Go.RowKit
theorem hide {p : Prop} (h : p) : Hid p := h
theorem Below.chain {w a b : World} (h : Below w.heap.size w a) (k : Below a.heap.size a b) : Below w.heap.size w b := h.trans (k.mono h.size)
theorem Below.heap {B : Nat} {W w1 : World} (h : Below B W w1) {g : Nat} {o : Obj} (hg : g < B) (hr : W.heap[g]? = some o) : w1.heap[g]? = some o := (h.block g hg).trans hr
theorem Below.setRow {B : Nat} {a w : World} (h : Below B a w) (g : Nat) (cs : Array Value) (hg : B ≤ g) : Below B a (w.setRow g cs) :=
  h.trans ⟨rfl, rfl, rfl, by simp, fun k hk => setRow_other w g k cs (by omega)⟩
theorem row_reads {w : World} {g : Nat} {cs : Array Value} {t : TypeId} (h : w.heap[g]? = some (.cells cs t (0, 0))) : (∀ i, w.cell? ⟨g, i, none⟩ = cs[i]?) ∧ (∀ i, w.frozen? ⟨g, i, none⟩ = false) :=
  ⟨fun _ => cell_of_row _ _ _ _ _ _ h, fun _ => frozen_of_row _ _ _ _ _ h⟩
theorem alloc_below (w : World) (o : Obj) : Below w.heap.size w (w.alloc o) := (Below.refl _ _).alloc (Nat.le_refl _) _
theorem grown_alloc (w : World) (X : Option Nat) (o : Obj) : w.grownBy (w.alloc o) X := Ext.gr (alloc_below w o) X
theorem grown_trans {a b c : World} {X : Option Nat} (h : a.grownBy b X) (k : b.grownBy c X) : a.grownBy c X := gr_trans h k (fun _ e => .inl e)
theorem below_of_grown {w w' : World} {X : Option Nat} (h : w.grownBy w' X) (hX : ∀ k, X = some k → w.heap.size ≤ k) : Below w.heap.size w w' :=
  ⟨h.os, h.tape, h.output, h.size, fun k hk => h.block k hk (fun e => by have := hX k e.symm; omega)⟩
theorem run_op_append {P : Program} {o : Oper} {a : Act} {w w' : World} {v' : Value} {s x : Operand} {ts : Array TypeId} (ho : o.op = .call { callee := .builtin .append, args := #[s, x], argTypes := ts }) (hr : (Builtin.append_ ts o.type #[a.eval s, a.eval x]).run P w = .ok v' w') : (execOp a.eval o).run P w = .ok (.value v') w' := by
  unfold execOp
  simp only [ho, resolve, invoke, builtin, Sem.run_bind, Sem.run_pure, Result.andThen_ok, List.map_toArray, List.map_cons, List.map_nil, hr]
/-- What append wants to know of a type of slices. -/
structure AppTy (t e size bytes : Nat) : Prop where
  und : Try.prog.underlying t = some (.slice e)
  info : ∃ i z, Try.prog.info? e = some i ∧ i.zero = some z ∧ i.size = size ∧ i.bytes = bytes ∧ z.cells.size = size
  pos : 0 < size
theorem appTy_of {t e size bytes : Nat} (z : Value) (hu : Try.prog.underlying t = some (.slice e)) (hi : (Try.prog.info? e).map (fun i => (i.zero, i.size, i.bytes)) = some (some z, size, bytes)) (hz : z.cells.size = size) (hp : 0 < size) : AppTy t e size bytes := by
  refine ⟨hu, ?_, hp⟩
  cases he : Try.prog.info? e with
  | none => rw [he] at hi; cases hi
  | some i =>
    rw [he] at hi
    simp only [Option.map_some, Option.some.injEq, Prod.mk.injEq] at hi
    exact ⟨i, z, rfl, hi.1, hi.2.1, hi.2.2, hz⟩
theorem appI : AppTy 34 49 7 56 := appTy_of (.agg #[.int .i64 0, .int .u64 0, .int .u64 0, .int .u64 0, .int .u64 0, .int .i64 0, .int .i64 0]) (by kernel_rfl) (by kernel_rfl) (by kernel_rfl) (by decide)
theorem appS : AppTy 57 34 1 24 := appTy_of (.slice none 0 0) (by kernel_rfl) (by kernel_rfl) (by kernel_rfl) (by decide)
theorem row_ext {w w' : World} {base e size n : Nat} {v : Value} {xs : List Value} (h : w.ownsRow base e size v n xs) (he : Below w.heap.size w w') : w'.ownsRow base e size v n xs :=
  ⟨h.1, by
    rcases h.2 with h1 | ⟨g, cap, cur, hv, hb, hr, hn⟩
    · exact .inl h1
    · exact .inr ⟨g, cap, cur, hv, hb, (he.block g (Array.getElem?_eq_some_iff.1 hr).1).trans hr, hn⟩⟩
/-- A row of the call's own stays while a block under its base is written. -/
theorem row_gr {w w' : World} {base e size n : Nat} {v : Value} {xs : List Value} (h : w.ownsRow base e size v n xs) {g : Nat} (hg : w.grownBy w' (some g)) (hb : g < base) : w'.ownsRow base e size v n xs :=
  ⟨h.1, by
    rcases h.2 with h1 | ⟨k, cap, cur, hv, hk, hr, hn⟩
    · exact .inl h1
    · exact .inr ⟨k, cap, cur, hv, hk, (hg.block k (Array.getElem?_eq_some_iff.1 hr).1 (fun e => by injection e with e; omega)).trans hr, hn⟩⟩
theorem row_blk {w : World} {base e size n : Nat} {v : Value} {xs : List Value} (h : w.ownsRow base e size v n xs) : ∀ k, v.ownBlock = some k → base ≤ k := fun k hk => (h.lt k hk).1
/-- A slice of so many things, of so many cells each. -/
def CsAt (w : World) (size n : Nat) (v : Value) (xs : List Value) : Prop :=
  xs.length = n * size ∧ ∃ (b o c : Nat) (ao : Option Addr), v = .slice ao n c ∧ n ≤ c ∧ c ≤ 9223372036854775807 ∧ (0 < n → ao = some ⟨b, o, none⟩ ∧ b < w.heap.size ∧ ∀ j u, xs[j]? = some u → w.cell? ⟨b, o + j, none⟩ = some u) ∧ ∀ u ∈ xs, u.oneCell' = true
theorem CsAt.ext {W w : World} {size n : Nat} {v : Value} {xs : List Value} (h : CsAt W size n v xs) (he : Below W.heap.size W w) : CsAt w size n v xs := by
  obtain ⟨h1, b, o, c, ao, hv, hn, hm, hh, ho⟩ := h
  exact ⟨h1, b, o, c, ao, hv, hn, hm, fun h0 => ⟨(hh h0).1, Nat.lt_of_lt_of_le (hh h0).2.1 he.size, fun j u hu => (Below.cell (p := ⟨b, o + j, none⟩) he (hh h0).2.1).trans ((hh h0).2.2 j u hu)⟩, ho⟩
theorem row_cs {w : World} {base e size n : Nat} {v : Value} {xs : List Value} (h : w.ownsRow base e size v n xs) (h1 : ∀ u ∈ xs, u.oneCell' = true) : CsAt w size n v xs := by
  refine ⟨h.1, ?_⟩
  rcases h.2 with ⟨rfl, h0⟩ | ⟨g, cap, cur, rfl, hb, hr, hn, hm, hs, ht⟩
  · subst h0; exact ⟨0, 0, 0, none, rfl, Nat.le_refl _, by omega, fun h => absurd h (by omega), h1⟩
  · refine ⟨g, 0, cap, _, rfl, hn, by unfold maxLen at hm; omega, fun _ => ⟨rfl, (Array.getElem?_eq_some_iff.1 hr).1, fun j u hu => ?_⟩, h1⟩
    rw [Nat.zero_add, cell_of_row _ _ _ _ _ _ hr]
    have hj : j < n * size := by have := (List.getElem?_eq_some_iff.1 hu).1; rw [h.1] at this; exact this
    rw [← ht, List.getElem?_take, if_pos hj] at hu
    simpa using hu
/-- Things behind things of the call's own. -/
theorem cs_append {t e size bytes n m base : Nat} {w : World} {v sv : Value} {xs ys : List Value} (hA : AppTy t e size bytes) (ty : TypeId) (h : w.ownsRow base e size v n xs) (hs : CsAt w size m sv ys) (hn : n + m ≤ 1000000000000000) (hby : (n + m) * bytes ≤ 140737488355328) (hb : base ≤ w.heap.size) :
    ∃ v' w', (Builtin.append_ #[t, t] ty #[v, sv]).run Try.prog w = .ok v' w' ∧ w'.ownsRow base e size v' (n + m) (xs ++ ys) ∧ w.grownBy w' v.ownBlock := by
  obtain ⟨i, z, hi, hz, hsz, hbt, hzs⟩ := hA.info
  obtain ⟨hl, b, o, c, ao, rfl, hc, hmax, hh, h1⟩ := hs
  cases ao with
  | none =>
    have h0 : m = 0 := by
      rcases Nat.eq_zero_or_pos m with h0 | h0
      · exact h0
      · cases (hh h0).1
    subst h0
    have hy : ys = [] := List.eq_nil_of_length_eq_zero (by omega)
    subst hy
    refine ⟨v, w, ?_, by rw [List.append_nil]; exact h, grown_refl w _⟩
    have und := hA.und
    rcases h.2 with ⟨rfl, _⟩ | ⟨g, cap, cur, rfl, _, _, hnc, _⟩
    · simp [Builtin.append_, run_underlying und, sizeOf, typeInfo, hi, Builtin.lenOf, Builtin.firstCells]
    · simp [Builtin.append_, run_underlying und, sizeOf, typeInfo, hi, Builtin.lenOf, Builtin.firstCells, hnc, storeCells]
  | some ad =>
    obtain ⟨v', w', hr, h2, h3, _⟩ := run_append_own (P := Try.prog) w base t ty e i z size bytes hA.und hi hz hsz hbt hzs hA.pos v n xs h ad m c ys hl (fun j u hu => by
      have hj := (List.getElem?_eq_some_iff.1 hu).1
      have h0 : 0 < m := by
        rcases Nat.eq_zero_or_pos m with h0 | h0
        · subst h0; omega
        · exact h0
      obtain ⟨e1, hbb, hcell⟩ := hh h0
      injection e1 with e1
      subst e1
      rw [Addr.add_mid]
      exact hcell j u hu) h1 (by unfold maxLen; omega) hby hb
    exact ⟨v', w', hr, h2, h3⟩
theorem wpList_append_cs {t e size bytes : Nat} (hA : AppTy t e size bytes) {ops : Array Oper} {rest : List Oper} {o : Oper} {a : Act} {w : World} {Q : Exit → Act → World → Prop} (hgd : o.guard = none) (s x : Operand) (ho : o.op = .call { callee := .builtin .append, args := #[s, x], argTypes := #[t, t] })
    {base n m : Nat} {xs ys : List Value} (h : w.ownsRow base e size (a.eval s) n xs) (hs : CsAt w size m (a.eval x) ys) (hn : n + m ≤ 1000000000000000) (hby : (n + m) * bytes ≤ 140737488355328) (hb : base ≤ w.heap.size)
    (hk : ∀ v' w', w'.ownsRow base e size v' (n + m) (xs ++ ys) → w.grownBy w' (a.eval s).ownBlock → wpList Try.prog ops Q rest (a.put o.dst v') w') : wpList Try.prog ops Q (o :: rest) a w := by
  refine wpList_plain hgd fun K hK => ?_
  obtain ⟨v', w', hr, h2, h3⟩ := cs_append hA o.type h hs hn hby hb
  exact Oper.wp_value (run_op_append ho hr) (hK _ _ (hk v' w' h2 h3))
/-- The cells of a step. -/
def ic (i : In) : List Value := [.int .i64 i.k, .int .u64 (i.s 0 : Int), .int .u64 (i.s 1 : Int), .int .u64 (i.s 2 : Int), .int .u64 (i.s 3 : Int), .int .i64 i.x, .int .i64 i.y]
def ics : List In → List Value
  | [] => []
  | i :: l => ic i ++ ics l
theorem ics_len (l : List In) : (ics l).length = l.length * 7 := by
  induction l with
  | nil => rfl
  | cons i l ih => simp only [ics, List.length_append, ih, List.length_cons, show (ic i).length = 7 from rfl]; omega
theorem ics_app (a b : List In) : ics (a ++ b) = ics a ++ ics b := by
  induction a with
  | nil => rfl
  | cons i l ih => simp [ics, ih, List.append_assoc]
theorem ics_one (l : List In) : ∀ u ∈ ics l, u.oneCell' = true := by
  induction l with
  | nil => intro u h; cases h
  | cons i l ih =>
    intro u h
    simp only [ics, List.mem_append] at h
    rcases h with h | h
    · simp [ic] at h
      rcases h with rfl | rfl | rfl | rfl | rfl | rfl | rfl <;> rfl
    · exact ih u h
theorem ics_at (l : List In) : ∀ (j q : Nat) (i : In), l[j]? = some i → q < 7 → (ics l)[j * 7 + q]? = (ic i)[q]? := by
  induction l with
  | nil => intro j q i h; simp at h
  | cons a l ih =>
    intro j q i h hq
    cases j with
    | zero =>
      simp at h; subst h
      simp only [ics, Nat.zero_mul, Nat.zero_add]
      have h7 : (ic a).length = 7 := rfl
      rw [List.getElem?_append_left (by rw [h7]; exact hq)]
    | succ j =>
      simp only [List.getElem?_cons_succ] at h
      simp only [ics]
      have h7 : (ic a).length = 7 := rfl
      rw [List.getElem?_append_right (by rw [h7]; omega), h7, show (j + 1) * 7 + q - 7 = j * 7 + q by omega]
      exact ih j q i h hq
/-- A slice that holds steps, in a block of steps. -/
def LsAt (w : World) (v : Value) (l : List In) : Prop := CsAt w 7 l.length v (ics l) ∧ ∀ k, v.ownBlock = some k → ∃ c fr, w.heap[k]? = some (.cells c 49 fr)
theorem LsAt.ext {W w : World} {v : Value} {l : List In} (h : LsAt W v l) (he : Below W.heap.size W w) : LsAt w v l :=
  ⟨CsAt.ext h.1 he, fun k hk => by
    obtain ⟨c, fr, hr⟩ := h.2 k hk
    exact ⟨c, fr, Below.heap he (Array.getElem?_eq_some_iff.1 hr).1 hr⟩⟩
theorem LsAt.nil (w : World) : LsAt w (.slice none 0 0) [] := ⟨⟨rfl, 0, 0, 0, none, rfl, Nat.le_refl _, by omega, fun h => absurd h (by simp), fun u h => by cases h⟩, fun k hk => by cases hk⟩
theorem LsAt.len {w : World} {v : Value} {l : List In} (h : LsAt w v l) : ∃ ao c, v = .slice ao l.length c ∧ l.length ≤ c ∧ c ≤ 9223372036854775807 := by
  obtain ⟨⟨_, b, o, c, ao, hv, hn, hm, _⟩, _⟩ := h
  exact ⟨ao, c, hv, hn, hm⟩
/-- Steps stay while a block of another kind is written. -/
theorem LsAt.off {w w' : World} {v : Value} {l : List In} (h : LsAt w v l) {X : Option Nat} (hg : w.grownBy w' X) {T : TypeId} (hT : T ≠ 49) (hX : ∀ k, X = some k → ∃ c fr, w.heap[k]? = some (.cells c T fr)) : LsAt w' v l := by
  obtain ⟨⟨h1, b, o, c, ao, hv, hn, hm, hh, ho⟩, h2⟩ := h
  have hne : ∀ k, v.ownBlock = some k → some k ≠ X := fun k hk e => by
    obtain ⟨c1, f1, r1⟩ := h2 k hk
    obtain ⟨c2, f2, r2⟩ := hX k e.symm
    rw [r1] at r2
    injection r2 with r2
    injection r2 with _ r2 _
    exact hT r2.symm
  refine ⟨⟨h1, b, o, c, ao, hv, hn, hm, fun h0 => ?_, ho⟩, fun k hk => ?_⟩
  · obtain ⟨e1, hb, hc⟩ := hh h0
    exact ⟨e1, Nat.lt_of_lt_of_le hb hg.size, fun j u hu => hg.cell (hc j u hu) (hne b (by rw [hv, e1]; rfl))⟩
  · obtain ⟨c1, f1, r1⟩ := h2 k hk
    exact ⟨c1, f1, (hg.block k (Array.getElem?_eq_some_iff.1 r1).1 (hne k hk)).trans r1⟩
/-- A row of steps of the call's own. -/
def Ro (w : World) (base : Nat) (v : Value) (l : List In) : Prop := w.ownsRow base 49 7 v l.length (ics l)
theorem row_ty {w : World} {base e size n : Nat} {v : Value} {xs : List Value} (h : w.ownsRow base e size v n xs) : ∀ k, v.ownBlock = some k → ∃ c fr, w.heap[k]? = some (.cells c e fr) := fun k hk => by
  rcases h.2 with ⟨rfl, _⟩ | ⟨g, cap, cur, rfl, _, hr, _⟩
  · cases hk
  · injection hk with hk; subst hk; exact ⟨cur, _, hr⟩
theorem Ro.at {w : World} {base : Nat} {v : Value} {l : List In} (h : Ro w base v l) : LsAt w v l := ⟨row_cs h (ics_one l), row_ty h⟩
theorem Ro.nil (w : World) (base : Nat) : Ro w base (.slice none 0 0) [] := World.ownsRow_nil _ _ _ _
theorem Ro.ext {w w' : World} {base : Nat} {v : Value} {l : List In} (h : Ro w base v l) (he : Below w.heap.size w w') : Ro w' base v l := row_ext h he
theorem Ro.gr {w w' : World} {base : Nat} {v : Value} {l : List In} (h : Ro w base v l) {g : Nat} (hg : w.grownBy w' (some g)) (hb : g < base) : Ro w' base v l := row_gr h hg hb
/-- A text's bytes as numbers. -/
def bl (s : ByteArray) : List Nat := s.data.toList.map UInt8.toNat
def bt (s : ByteArray) (i : Nat) : Nat := (s.data[i]?.getD 0).toNat
theorem bl_len (s : ByteArray) : (bl s).length = s.size := by unfold bl; rw [List.length_map, Array.length_toList]; rfl
theorem bl_lt (s : ByteArray) : ∀ c ∈ bl s, c < 256 := by
  intro c h
  simp only [bl, List.mem_map] at h
  obtain ⟨x, _, rfl⟩ := h
  exact x.toNat_lt
theorem str_ix (s : ByteArray) (k : Nat) (hk : k < s.size) (w : World) : (Instr.index 9 (.string s) (.int .i64 (k : Int))).run Try.prog w = .ok (.int .u8 (bt s k : Int)) w := by
  rw [run_index_string w 9 s .i64 (k : Int) (by kernel_rfl), dif_pos ⟨by omega, by omega⟩]
  have h2 : k < s.data.size := hk
  have h3 : (s.data[k]?.getD 0) = s.data[k] := by rw [Array.getElem?_eq_getElem h2]; rfl
  unfold bt
  rw [h3]
  simp [ByteArray.getElem_eq_getElem_data]
theorem bt_of {s : ByteArray} {i c : Nat} {t : List Nat} (h : (bl s).drop i = c :: t) : bt s i = c ∧ i < s.size ∧ (bl s).drop (i + 1) = t := by
  have h1 : (bl s)[i]? = some c := by
    have := congrArg (fun l => l[0]?) h
    simpa using this
  have h2 : i < s.size := by rw [← bl_len]; exact (List.getElem?_eq_some_iff.1 h1).1
  refine ⟨?_, h2, ?_⟩
  · unfold bl at h1
    rw [List.getElem?_map] at h1
    unfold bt
    cases hx : s.data.toList[i]? with
    | none => rw [hx] at h1; cases h1
    | some x =>
      rw [hx] at h1
      simp only [Option.map_some, Option.some.injEq] at h1
      rw [← Array.getElem?_toList, hx]
      exact h1
  · rw [← List.drop_drop, h]; rfl
/-- A reader of a pattern: in block g, these bytes yet to read, so many parentheses open. -/
def PAt (w : World) (g : Nat) (s : ByteArray) (r : List Nat) (d : Nat) : Prop :=
  ∃ i : Nat, (i + r.length = s.size ∧ s.size ≤ 256 ∧ d ≤ 20) ∧ (bl s).drop i = r ∧ w.heap[g]? = some (.cells #[.string s, .int .i64 (i : Int), .int .i64 (d : Int)] 52 (0, 0))
theorem PAt.lt {w : World} {g : Nat} {s : ByteArray} {r : List Nat} {d : Nat} (h : PAt w g s r d) : g < w.heap.size := by
  obtain ⟨i, _, _, hr⟩ := h
  exact (Array.getElem?_eq_some_iff.1 hr).1
theorem PAt.ext {w w' : World} {g : Nat} {s : ByteArray} {r : List Nat} {d : Nat} (h : PAt w g s r d) (he : Below w.heap.size w w') : PAt w' g s r d := by
  have hg := h.lt
  obtain ⟨i, h1, h2, hr⟩ := h
  exact ⟨i, h1, h2, Below.heap he hg hr⟩
theorem PAt.gr {w w' : World} {g : Nat} {s : ByteArray} {r : List Nat} {d : Nat} (h : PAt w g s r d) {X : Option Nat} (he : w.grownBy w' X) (hX : ∀ k, X = some k → g < k) : PAt w' g s r d := by
  have hg := h.lt
  obtain ⟨i, h1, h2, hr⟩ := h
  exact ⟨i, h1, h2, (he.block g hg (fun e => by have := hX g e.symm; omega)).trans hr⟩
theorem heap_set3 {w : World} {g : Nat} {a b c u : Value} {t : TypeId} (hr : w.heap[g]? = some (.cells #[a, b, c] t (0, 0))) : (w.setCell ⟨g, 1, none⟩ u).heap[g]? = some (.cells #[a, u, c] t (0, 0)) := by
  rw [heap_setCell_same _ _ _ _ _ _ hr]
  rfl
theorem heap_set32 {w : World} {g : Nat} {a b c u : Value} {t : TypeId} (hr : w.heap[g]? = some (.cells #[a, b, c] t (0, 0))) : (w.setCell ⟨g, 2, none⟩ u).heap[g]? = some (.cells #[a, b, u] t (0, 0)) := by
  rw [heap_setCell_same _ _ _ _ _ _ hr]
  rfl
theorem grown_set (w : World) (g i : Nat) (v : Value) : w.grownBy (w.setCell ⟨g, i, none⟩ v) (some g) :=
  ⟨rfl, rfl, rfl, by simp, fun k _ hne => Below.heap_setCell w ⟨g, i, none⟩ v k (fun e => hne (by rw [e]))⟩
theorem drewN_below (w : World) (k : Nat) : Below w.heap.size w (w.drewN k) := ⟨rfl, rfl, rfl, Nat.le_refl _, fun _ _ => rfl⟩
/-- What the reader's cells hold, and what it is one byte on, or with other parentheses open. -/
theorem PAt.cells {w : World} {g : Nat} {s : ByteArray} {r : List Nat} {d : Nat} (h : PAt w g s r d) : ∃ i : Nat, (0 ≤ (i : Int) ∧ (i : Int) ≤ 256) ∧ d ≤ 20 ∧ w.cell? ⟨g, 0, none⟩ = some (.string s) ∧ w.cell? ⟨g, 1, none⟩ = some (.int .i64 (i : Int)) ∧ w.cell? ⟨g, 2, none⟩ = some (.int .i64 (d : Int)) ∧ w.frozen? ⟨g, 1, none⟩ = false ∧ w.frozen? ⟨g, 2, none⟩ = false ∧
    Hid (∀ c t, r = c :: t → PAt (w.setCell ⟨g, 1, none⟩ (.int .i64 ((i : Int) + 1))) g s t d) ∧ Hid (∀ d' : Nat, d' ≤ 20 → PAt (w.setCell ⟨g, 2, none⟩ (.int .i64 (d' : Int))) g s r d') := by
  obtain ⟨i, hi, hb, hr⟩ := h
  obtain ⟨x0, y0⟩ := row_reads hr
  refine ⟨i, ⟨by omega, by omega⟩, hi.2.2, x0 0, x0 1, x0 2, y0 1, y0 2, fun c t hrt => ?_, fun d' hd => ⟨i, ⟨hi.1, hi.2.1, hd⟩, hb, heap_set32 hr⟩⟩
  subst hrt
  exact ⟨i + 1, ⟨by have := hi.1; simp at this; omega, hi.2.1, hi.2.2⟩, (bt_of hb).2.2, heap_set3 hr⟩
theorem sl_from (x : ByteArray) (j : Nat) (h : j ≤ x.size) (w : World) : (Instr.sliceAt 9 (.string x) (some (.int .i64 (j : Int))) none none).run Try.prog w = .ok (.string (x.extract j x.size)) w := by
  have h0 : ¬ ((j : Int) < 0) := by omega
  have h1 : ¬ ((x.size : Int) < (j : Int)) := by omega
  go_simp
theorem bl_extract (s : ByteArray) (i : Nat) : bl (s.extract i s.size) = (bl s).drop i := by
  have h : (s.extract i s.size).data.toList = s.data.toList.drop i := by
    rw [ByteArray.data_extract, Array.toList_extract]
    have hs : s.size = s.data.toList.length := rfl
    rw [List.extract_eq_take_drop, hs]
    exact List.take_of_length_le (by rw [List.length_drop]; exact Nat.le_refl _)
  unfold bl
  rw [h, List.map_drop]
/-- What the reader has yet to read, as a text. -/
theorem PAt.rest {w : World} {g : Nat} {s : ByteArray} {r : List Nat} {d : Nat} (h : PAt w g s r d) : ∃ (i : Nat) (u : ByteArray), w.cell? ⟨g, 0, none⟩ = some (.string s) ∧ w.cell? ⟨g, 1, none⟩ = some (.int .i64 (i : Int)) ∧ (∀ W : World, (Instr.sliceAt 9 (.string s) (some (.int .i64 (i : Int))) none none).run Try.prog W = .ok (.string u) W) ∧ bl u = r := by
  obtain ⟨i, hi, hb, hr⟩ := h
  obtain ⟨x0, y0⟩ := row_reads hr
  exact ⟨i, s.extract i s.size, x0 0, x0 1, sl_from s i (by omega), (bl_extract s i).trans hb⟩
theorem bt_bl {u : ByteArray} {r : List Nat} (h : bl u = r) (k c : Nat) (hk : r[k]? = some c) : k < u.size ∧ bt u k = c := by
  have h1 : (bl u).drop k = c :: r.drop (k + 1) := by
    rw [h]
    exact List.drop_eq_getElem_cons (List.getElem?_eq_some_iff.1 hk).1 ▸ by rw [(List.getElem?_eq_some_iff.1 hk).2]
  exact ⟨(bt_of h1).2.1, (bt_of h1).1⟩
/-- Steps stay while the reader goes on. -/
theorem LsAt.gr {w w' : World} {v : Value} {l : List In} (h : LsAt w v l) {g : Nat} {s : ByteArray} {r : List Nat} {d : Nat} (hp : PAt w g s r d) (hg : w.grownBy w' (some g)) : LsAt w' v l := by
  obtain ⟨i, _, _, hr⟩ := hp
  exact h.off hg (T := 52) (by decide) (fun k hk => by injection hk with hk; subst hk; exact ⟨_, _, hr⟩)
end Go.Proofs.Ytmjnedafcfolgaa
