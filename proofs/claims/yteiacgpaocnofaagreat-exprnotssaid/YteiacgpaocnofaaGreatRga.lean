/- Patterns, as the program reads them. -/
import Derived.Test.YteiacgpaocnofaaGreatRows
import Derived.WalkKit
import Derived.Test.YteiacgpaocnofaaGreatMb
import Derived.WalkSpells
import Derived.WalkLawsBesides
import Derived.Deep.WholeRow
import Derived.Deep.MidRow
import Derived.Deep.RegionHeld3
import Derived.Deep.QuietTactic
import Derived.BigQuiet
import Derived.Laws.Externs
import Derived.Laws.OwnMore
import Derived.ArgAppend
import Derived.Maps.AppendAt
import Derived.Deep.LoopGhost
import Derived.Deep.Cut
import Derived.Laws.ShiftsVarLaws
/- Patterns: their steps, and how they are read, as functions of lists of bytes. -/
namespace Go.Proofs.YteiacgpaocnofaaGreat.Rg
set_option maxRecDepth 100000
/-- What reading answers: what was read, and what is left; or the error's number. -/
inductive Rd (α : Type)
  | ok (a : α) (r : List Nat)
  | bad (e : Nat)
/-- A step. -/
structure In where
  k : Int
  s : Nat → Nat
  x : Int
  y : Int
def zs : Nat → Nat := fun _ => 0
def putS (s : Nat → Nat) (c : Nat) : Nat → Nat := fun j => if j = c / 64 then s j ||| 2 ^ (c % 64) else s j
/-- So many bytes from one on put in. -/
def addN (s : Nat → Nat) (c : Nat) : Nat → Nat → Nat
  | 0 => s
  | n + 1 => addN (putS s c) (c + 1) n
def addS (s : Nat → Nat) (lo hi : Nat) : Nat → Nat := addN s lo (hi + 1 - lo)
def othS (s : Nat → Nat) : Nat → Nat := fun j => 2 ^ 64 - 1 - s j
def charI (s : Nat → Nat) : In := ⟨1, s, 0, 0⟩
def stepI (k : Int) : In := ⟨k, zs, 0, 0⟩
def splitI (x y : Int) : In := ⟨2, zs, x, y⟩
def jumpI (x : Int) : In := ⟨3, zs, x, 0⟩
def onlyI (c : Nat) : In := charI (addS zs c c)
def eitherL (a b : List In) : List In := splitI 1 ((a.length : Int) + 2) :: (a ++ (jumpI ((b.length : Int) + 1) :: b))
def starL (a : List In) : List In := splitI 1 ((a.length : Int) + 2) :: (a ++ [jumpI (-(a.length : Int) - 1)])
def plusL (a : List In) : List In := a ++ [splitI (-(a.length : Int)) 1]
def optL (a : List In) : List In := splitI 1 ((a.length : Int) + 1) :: a
def plI (n : Nat) (i : In) : In := if i.k = 2 then ⟨i.k, i.s, Go.RowKit.wrap64 (i.x + n), Go.RowKit.wrap64 (i.y + n)⟩ else if i.k = 3 then ⟨i.k, i.s, Go.RowKit.wrap64 (i.x + n), i.y⟩ else i
/-- The steps from number n on, placed. -/
def plF (n : Nat) : List In → List In
  | [] => []
  | i :: l => plI n i :: plF (n + 1) l
theorem plF_len (l : List In) : ∀ n, (plF n l).length = l.length := by
  induction l with
  | nil => intro n; rfl
  | cons i l ih => intro n; simp [plF, ih]
theorem plF_at (l : List In) : ∀ n j, (plF n l)[j]? = l[j]?.map (plI (n + j)) := by
  induction l with
  | nil => intro n j; simp [plF]
  | cons i l ih =>
    intro n j
    cases j with
    | zero => simp [plF]
    | succ j => simp only [plF, List.getElem?_cons_succ, ih, Nat.add_assoc, Nat.add_comm 1 j]
theorem plF_app (a b : List In) : ∀ n, plF n (a ++ b) = plF n a ++ plF (n + a.length) b := by
  induction a with
  | nil => intro n; simp [plF]
  | cons i l ih => intro n; simp [plF, ih, Nat.add_comm, Nat.add_left_comm]
def memberS : List Nat → Option (Nat × List Nat)
  | [] => none
  | c :: t => if c = 93 then none else if c = 92 then (match t with | [] => none | e :: u => some (e, u)) else some (c, t)
def btw : List Nat → Bool
  | a :: b :: _ => a == 45 && b != 93
  | _ => false
def spanS (r : List Nat) : Option (Nat × Nat × List Nat) :=
  match memberS r with
  | none => none
  | some (lo, t) => if btw t then (match memberS t.tail with | none => none | some (hi, u) => if lo ≤ hi then some (lo, hi, u) else none) else some (lo, lo, t)
def clsF : Nat → (Nat → Nat) → List Nat → Rd (Nat → Nat)
  | 0, _, _ => .bad 3
  | f + 1, s, r =>
    match spanS r with
    | none => .bad 3
    | some (lo, hi, t) => if t.head? = some 93 then .ok (addS s lo hi) t.tail else clsF f (addS s lo hi) t
def classS (r : List Nat) : Rd (List In) :=
  if r.head? = some 94 then (match clsF (r.tail.length + 1) zs r.tail with | .bad e => .bad e | .ok s t => .ok [charI (othS s)] t)
  else (match clsF (r.length + 1) zs r with | .bad e => .bad e | .ok s t => .ok [charI s] t)
def repA (a : List In) (t : List Nat) : List In :=
  if t.head? = some 42 then starL a else if t.head? = some 43 then plusL a else if t.head? = some 63 then optL a else a
def repR (t : List Nat) : List Nat :=
  if t.head? = some 42 then t.tail else if t.head? = some 43 then t.tail else if t.head? = some 63 then t.tail else t
def groupF (pat : Nat → List Nat → Rd (List In)) (d : Nat) (t : List Nat) : Rd (List In) :=
  if d = 20 then .bad 4 else match pat (d + 1) t with | .bad e => .bad e | .ok st r => if r.head? = some 41 then .ok st r.tail else .bad 3
def escS (t : List Nat) : Rd (List In) := match t with | [] => .bad 3 | e :: u => .ok [onlyI e] u
def atomF (pat : Nat → List Nat → Rd (List In)) (d c : Nat) (t : List Nat) : Rd (List In) :=
  if c = 92 then escS t
  else if c = 46 then .ok [charI (othS zs)] t
  else if c = 91 then classS t
  else if c = 40 then groupF pat d t
  else if c = 94 then .ok [stepI 4] t
  else if c = 36 then .ok [stepI 5] t
  else if c = 42 ∨ c = 43 ∨ c = 63 then .bad 3
  else .ok [onlyI c] t
def rowF (pat : Nat → List Nat → Rd (List In)) (d : Nat) : Nat → List Nat → Rd (List In)
  | 0, _ => .bad 3
  | f + 1, r =>
    match r with
    | [] => .ok [] []
    | c :: t => if c = 124 ∨ c = 41 then .ok [] (c :: t) else
      match atomF pat d c t with
      | .bad e => .bad e
      | .ok a u => match rowF pat d f (repR u) with
        | .bad e => .bad e
        | .ok b v => .ok (repA a u ++ b) v
def altF (pat : Nat → List Nat → Rd (List In)) (d : Nat) : Nat → List Nat → Rd (List In)
  | 0, _ => .bad 3
  | f + 1, r =>
    match rowF pat d (r.length + 1) r with
    | .bad e => .bad e
    | .ok a t => if t.head? = some 124 then (match altF pat d f t.tail with | .bad e => .bad e | .ok b u => .ok (eitherL a b) u) else .ok a t
def patF : Nat → Nat → List Nat → Rd (List In)
  | 0, _, _ => .bad 3
  | f + 1, d, r => altF (patF f) d (r.length + 1) r
/-- A pattern's program before it is placed. -/
def comp (r : List Nat) : Rd (List In) :=
  if 256 < r.length then .bad 4 else match patF 21 0 r with | .bad e => .bad e | .ok st t => if t = [] then .ok (st ++ [stepI 6]) [] else .bad 3
def Rd.err {α : Type} : Rd α → Nat
  | .ok _ _ => 0
  | .bad e => e
def Rd.got {α : Type} : Rd (List α) → List α
  | .ok a _ => a
  | .bad _ => []
/-! How long: at most three steps for each byte. -/
theorem member_len {r t : List Nat} {c : Nat} (h : memberS r = some (c, t)) : t.length < r.length := by
  unfold memberS at h
  split at h
  · cases h
  · rename_i c' t'
    split at h
    · cases h
    · split at h
      · split at h
        · cases h
        · injection h with h; injection h with h1 h2; subst h2; simp; omega
      · injection h with h; injection h with h1 h2; subst h2; simp
theorem span_len {r t : List Nat} {lo hi : Nat} (h : spanS r = some (lo, hi, t)) : t.length < r.length := by
  unfold spanS at h
  split at h
  · cases h
  · rename_i lo' t' hm
    have h1 := member_len hm
    split at h
    · split at h
      · cases h
      · rename_i hi' u hm2
        have h2 := member_len hm2
        split at h
        · injection h with h; injection h with _ h; injection h with _ h; subst h; simp at h2; omega
        · cases h
    · injection h with h; injection h with _ h; injection h with _ h; subst h; exact h1
theorem cls_len : ∀ (f : Nat) (s s' : Nat → Nat) (r t : List Nat), clsF f s r = .ok s' t → t.length + 2 ≤ r.length := by
  intro f
  induction f with
  | zero => intro s s' r t h; cases h
  | succ f ih =>
    intro s s' r t h
    unfold clsF at h
    split at h
    · cases h
    · rename_i lo hi u hs
      have h1 := span_len hs
      split at h
      · rename_i hh
        injection h with _ h
        subst h
        cases u with
        | nil => simp at hh
        | cons a u => simp at h1 ⊢; omega
      · have := ih _ _ _ _ h
        omega
theorem class_len {r t : List Nat} {a : List In} (h : classS r = .ok a t) : a.length = 1 ∧ t.length ≤ r.length := by
  unfold classS at h
  split at h
  · split at h
    · cases h
    · rename_i hc
      have := cls_len _ _ _ _ _ hc
      injection h with h1 h2
      subst h1 h2
      simp at this ⊢; omega
  · split at h
    · cases h
    · rename_i hc
      have := cls_len _ _ _ _ _ hc
      injection h with h1 h2
      subst h1 h2
      simp at this ⊢; omega
/-- A way to read what parentheses hold that keeps the count. -/
def Short (pat : Nat → List Nat → Rd (List In)) : Prop := ∀ d r a t, pat d r = .ok a t → a.length + 3 * t.length ≤ 3 * r.length
theorem group_len {pat : Nat → List Nat → Rd (List In)} (hp : Short pat) {d : Nat} {t u : List Nat} {a : List In} (h : groupF pat d t = .ok a u) : a.length + 3 * u.length ≤ 3 * t.length := by
  unfold groupF at h
  split at h
  · cases h
  · split at h
    · cases h
    · rename_i st r hr
      have := hp _ _ _ _ hr
      split at h
      · injection h with h1 h2; subst h1 h2; simp; omega
      · cases h
theorem atom_len {pat : Nat → List Nat → Rd (List In)} (hp : Short pat) {d c : Nat} {t u : List Nat} {a : List In} (h : atomF pat d c t = .ok a u) : a.length + 3 * u.length ≤ 3 * t.length + 1 := by
  unfold atomF at h
  split at h
  · unfold escS at h
    split at h
    · cases h
    · injection h with h1 h2; subst h1 h2; simp; omega
  split at h
  · injection h with h1 h2; subst h1 h2; simp; omega
  split at h
  · have := class_len h; omega
  split at h
  · have := group_len hp h; omega
  split at h
  · injection h with h1 h2; subst h1 h2; simp; omega
  split at h
  · injection h with h1 h2; subst h1 h2; simp; omega
  split at h
  · cases h
  · injection h with h1 h2; subst h1 h2; simp; omega
theorem rep_len (a : List In) (t : List Nat) : (repA a t).length + 3 * (repR t).length ≤ a.length + 3 * t.length := by
  unfold repA repR
  cases t with
  | nil => simp
  | cons c t =>
    simp only [List.head?_cons, Option.some.injEq, List.tail_cons]
    split
    · simp [starL]; omega
    split
    · simp [plusL]; omega
    split
    · simp [optL]; omega
    · simp
theorem repR_len (t : List Nat) : (repR t).length ≤ t.length := by
  unfold repR
  split
  · simp
  split
  · simp
  split
  · simp
  · exact Nat.le_refl _
theorem row_len {pat : Nat → List Nat → Rd (List In)} (hp : Short pat) (d : Nat) : ∀ (f : Nat) (r : List Nat) (a : List In) (t : List Nat), rowF pat d f r = .ok a t → a.length + 3 * t.length ≤ 3 * r.length := by
  intro f
  induction f with
  | zero => intro r a t h; cases h
  | succ f ih =>
    intro r a t h
    unfold rowF at h
    split at h
    · injection h with h1 h2; subst h1 h2; simp
    · split at h
      · injection h with h1 h2; subst h1 h2; simp
      · split at h
        · cases h
        · rename_i x u hx
          split at h
          · cases h
          · rename_i b v hb
            injection h with h1 h2
            subst h1 h2
            have := ih _ _ _ hb
            have := atom_len hp hx
            have := rep_len x u
            simp; omega
theorem alt_len {pat : Nat → List Nat → Rd (List In)} (hp : Short pat) (d : Nat) : ∀ (f : Nat) (r : List Nat) (a : List In) (t : List Nat), altF pat d f r = .ok a t → a.length + 3 * t.length ≤ 3 * r.length := by
  intro f
  induction f with
  | zero => intro r a t h; cases h
  | succ f ih =>
    intro r a t h
    unfold altF at h
    split at h
    · cases h
    · rename_i x u hx
      have := row_len hp d _ _ _ _ hx
      split at h
      · rename_i hh
        split at h
        · cases h
        · rename_i b v hb
          have := ih _ _ _ hb
          injection h with h1 h2
          subst h1 h2
          cases u with
          | nil => simp at hh
          | cons c u => simp [eitherL] at *; omega
      · injection h with h1 h2; subst h1 h2; omega
theorem pat_len : ∀ f, Short (patF f) := by
  intro f
  induction f with
  | zero => intro d r a t h; cases h
  | succ f ih => intro d r a t h; exact alt_len ih d _ _ _ _ h
end Go.Proofs.YteiacgpaocnofaaGreat.Rg
/- Means for the walks: memory that stays, rows of steps, a reader of a pattern in memory. -/
namespace Go.Proofs.YteiacgpaocnofaaGreat.Rg
set_option maxRecDepth 100000
open Go.RowKit
theorem hide {p : Prop} (h : p) : Hid p := h
theorem Below.chain {w a b : World} (h : Below w.heap.size w a) (k : Below a.heap.size a b) : Below w.heap.size w b := h.trans (k.mono h.size)
theorem Below.heap {B : Nat} {W w1 : World} (h : Below B W w1) {g : Nat} {o : Obj} (hg : g < B) (hr : W.heap[g]? = some o) : w1.heap[g]? = some o := (h.block g hg).trans hr
theorem Below.setRow {B : Nat} {a w : World} (h : Below B a w) (g : Nat) (cs : Array Value) (hg : B ≤ g) : Below B a (w.setRow g cs) :=
  h.trans ⟨rfl, rfl, rfl, by simp, fun k hk => setRow_other w g k cs (by omega)⟩
theorem row_reads {w : World} {g : Nat} {cs : Array Value} {t : TypeId} (h : w.heap[g]? = some (.cells cs t (0, 0))) : (∀ i, w.cell? ⟨g, i, none⟩ = cs[i]?) ∧ (∀ i, w.frozen? ⟨g, i, none⟩ = false) :=
  ⟨fun _ => cell_of_row _ _ _ _ _ _ h, fun _ => frozen_of_row _ _ _ _ _ h⟩
theorem alloc_below (w : World) (o : Obj) : Below w.heap.size w (w.alloc o) := (Below.refl _ _).alloc (Nat.le_refl _) _
theorem grown_alloc (w : World) (X : Option Nat) (o : Obj) : w.grownBy (w.alloc o) X := Ext.gr (alloc_below w o) X
theorem grown_trans {a b c : World} {X : Option Nat} (h : a.grownBy b X) (k : b.grownBy c X) : a.grownBy c X := gr_trans h k (fun _ e => .inl e)
theorem below_of_grown {w w' : World} {X : Option Nat} (h : w.grownBy w' X) (hX : ∀ k, X = some k → w.heap.size ≤ k) : Below w.heap.size w w' :=
  ⟨h.os, h.tape, h.output, h.size, fun k hk => h.block k hk (fun e => by have := hX k e.symm; omega)⟩
theorem run_op_append {P : Program} {o : Oper} {a : Act} {w w' : World} {v' : Value} {s x : Operand} {ts : Array TypeId} (ho : o.op = .call { callee := .builtin .append, args := #[s, x], argTypes := ts }) (hr : (Builtin.append_ ts o.type #[a.eval s, a.eval x]).run P w = .ok v' w') : (execOp a.eval o).run P w = .ok (.value v') w' := by
  unfold execOp
  simp only [ho, resolve, invoke, builtin, Sem.run_bind, Sem.run_pure, Result.andThen_ok, List.map_toArray, List.map_cons, List.map_nil, hr]
/-- What append wants to know of a type of slices. -/
structure AppTy (t e size bytes : Nat) : Prop where
  und : Tryz.prog.underlying t = some (.slice e)
  info : ∃ i z, Tryz.prog.info? e = some i ∧ i.zero = some z ∧ i.size = size ∧ i.bytes = bytes ∧ z.cells.size = size
  pos : 0 < size
theorem appTy_of {t e size bytes : Nat} (z : Value) (hu : Tryz.prog.underlying t = some (.slice e)) (hi : (Tryz.prog.info? e).map (fun i => (i.zero, i.size, i.bytes)) = some (some z, size, bytes)) (hz : z.cells.size = size) (hp : 0 < size) : AppTy t e size bytes := by
  refine ⟨hu, ?_, hp⟩
  cases he : Tryz.prog.info? e with
  | none => rw [he] at hi; cases hi
  | some i =>
    rw [he] at hi
    simp only [Option.map_some, Option.some.injEq, Prod.mk.injEq] at hi
    exact ⟨i, z, rfl, hi.1, hi.2.1, hi.2.2, hz⟩
theorem appI : AppTy 173 184 7 56 := appTy_of (.agg #[.int .i64 0, .int .u64 0, .int .u64 0, .int .u64 0, .int .u64 0, .int .i64 0, .int .i64 0]) (by kernel_rfl) (by kernel_rfl) (by kernel_rfl) (by decide)
theorem appS : AppTy 207 173 1 24 := appTy_of (.slice none 0 0) (by kernel_rfl) (by kernel_rfl) (by kernel_rfl) (by decide)
theorem row_ext {w w' : World} {base e size n : Nat} {v : Value} {xs : List Value} (h : w.ownsRow base e size v n xs) (he : Below w.heap.size w w') : w'.ownsRow base e size v n xs :=
  ⟨h.1, by
    rcases h.2 with h1 | ⟨g, cap, cur, hv, hb, hr, hn⟩
    · exact .inl h1
    · exact .inr ⟨g, cap, cur, hv, hb, (he.block g (Array.getElem?_eq_some_iff.1 hr).1).trans hr, hn⟩⟩
/-- A row of the call's own stays while a block under its base is written. -/
theorem row_gr {w w' : World} {base e size n : Nat} {v : Value} {xs : List Value} (h : w.ownsRow base e size v n xs) {g : Nat} (hg : w.grownBy w' (some g)) (hb : g < base) : w'.ownsRow base e size v n xs :=
  ⟨h.1, by
    rcases h.2 with h1 | ⟨k, cap, cur, hv, hk, hr, hn⟩
    · exact .inl h1
    · exact .inr ⟨k, cap, cur, hv, hk, (hg.block k (Array.getElem?_eq_some_iff.1 hr).1 (fun e => by injection e with e; omega)).trans hr, hn⟩⟩
theorem row_blk {w : World} {base e size n : Nat} {v : Value} {xs : List Value} (h : w.ownsRow base e size v n xs) : ∀ k, v.ownBlock = some k → base ≤ k := fun k hk => (h.lt k hk).1
/-- A slice of so many things, of so many cells each. -/
def CsAt (w : World) (size n : Nat) (v : Value) (xs : List Value) : Prop :=
  xs.length = n * size ∧ ∃ (b o c : Nat) (ao : Option Addr), v = .slice ao n c ∧ n ≤ c ∧ c ≤ 9223372036854775807 ∧ (0 < n → ao = some ⟨b, o, none⟩ ∧ b < w.heap.size ∧ ∀ j u, xs[j]? = some u → w.cell? ⟨b, o + j, none⟩ = some u) ∧ ∀ u ∈ xs, u.oneCell' = true
theorem CsAt.ext {W w : World} {size n : Nat} {v : Value} {xs : List Value} (h : CsAt W size n v xs) (he : Below W.heap.size W w) : CsAt w size n v xs := by
  obtain ⟨h1, b, o, c, ao, hv, hn, hm, hh, ho⟩ := h
  exact ⟨h1, b, o, c, ao, hv, hn, hm, fun h0 => ⟨(hh h0).1, Nat.lt_of_lt_of_le (hh h0).2.1 he.size, fun j u hu => (Below.cell (p := ⟨b, o + j, none⟩) he (hh h0).2.1).trans ((hh h0).2.2 j u hu)⟩, ho⟩
theorem row_cs {w : World} {base e size n : Nat} {v : Value} {xs : List Value} (h : w.ownsRow base e size v n xs) (h1 : ∀ u ∈ xs, u.oneCell' = true) : CsAt w size n v xs := by
  refine ⟨h.1, ?_⟩
  rcases h.2 with ⟨rfl, h0⟩ | ⟨g, cap, cur, rfl, hb, hr, hn, hm, hs, ht⟩
  · subst h0; exact ⟨0, 0, 0, none, rfl, Nat.le_refl _, by omega, fun h => absurd h (by omega), h1⟩
  · refine ⟨g, 0, cap, _, rfl, hn, by unfold maxLen at hm; omega, fun _ => ⟨rfl, (Array.getElem?_eq_some_iff.1 hr).1, fun j u hu => ?_⟩, h1⟩
    rw [Nat.zero_add, cell_of_row _ _ _ _ _ _ hr]
    have hj : j < n * size := by have := (List.getElem?_eq_some_iff.1 hu).1; rw [h.1] at this; exact this
    rw [← ht, List.getElem?_take, if_pos hj] at hu
    simpa using hu
/-- Things behind things of the call's own. -/
theorem cs_append {t e size bytes n m base : Nat} {w : World} {v sv : Value} {xs ys : List Value} (hA : AppTy t e size bytes) (ty : TypeId) (h : w.ownsRow base e size v n xs) (hs : CsAt w size m sv ys) (hn : n + m ≤ 1000000000000000) (hby : (n + m) * bytes ≤ 140737488355328) (hb : base ≤ w.heap.size) :
    ∃ v' w', (Builtin.append_ #[t, t] ty #[v, sv]).run Tryz.prog w = .ok v' w' ∧ w'.ownsRow base e size v' (n + m) (xs ++ ys) ∧ w.grownBy w' v.ownBlock := by
  obtain ⟨i, z, hi, hz, hsz, hbt, hzs⟩ := hA.info
  obtain ⟨hl, b, o, c, ao, rfl, hc, hmax, hh, h1⟩ := hs
  cases ao with
  | none =>
    have h0 : m = 0 := by
      rcases Nat.eq_zero_or_pos m with h0 | h0
      · exact h0
      · cases (hh h0).1
    subst h0
    have hy : ys = [] := List.eq_nil_of_length_eq_zero (by omega)
    subst hy
    refine ⟨v, w, ?_, by rw [List.append_nil]; exact h, grown_refl w _⟩
    have und := hA.und
    rcases h.2 with ⟨rfl, _⟩ | ⟨g, cap, cur, rfl, _, _, hnc, _⟩
    · simp [Builtin.append_, run_underlying und, sizeOf, typeInfo, hi, Builtin.lenOf, Builtin.firstCells]
    · simp [Builtin.append_, run_underlying und, sizeOf, typeInfo, hi, Builtin.lenOf, Builtin.firstCells, hnc, storeCells]
  | some ad =>
    obtain ⟨v', w', hr, h2, h3, _⟩ := run_append_own (P := Tryz.prog) w base t ty e i z size bytes hA.und hi hz hsz hbt hzs hA.pos v n xs h ad m c ys hl (fun j u hu => by
      have hj := (List.getElem?_eq_some_iff.1 hu).1
      have h0 : 0 < m := by
        rcases Nat.eq_zero_or_pos m with h0 | h0
        · subst h0; omega
        · exact h0
      obtain ⟨e1, hbb, hcell⟩ := hh h0
      injection e1 with e1
      subst e1
      rw [Addr.add_mid]
      exact hcell j u hu) h1 (by unfold maxLen; omega) hby hb
    exact ⟨v', w', hr, h2, h3⟩
theorem wpList_append_cs {t e size bytes : Nat} (hA : AppTy t e size bytes) {ops : Array Oper} {rest : List Oper} {o : Oper} {a : Act} {w : World} {Q : Exit → Act → World → Prop} (hgd : o.guard = none) (s x : Operand) (ho : o.op = .call { callee := .builtin .append, args := #[s, x], argTypes := #[t, t] })
    {base n m : Nat} {xs ys : List Value} (h : w.ownsRow base e size (a.eval s) n xs) (hs : CsAt w size m (a.eval x) ys) (hn : n + m ≤ 1000000000000000) (hby : (n + m) * bytes ≤ 140737488355328) (hb : base ≤ w.heap.size)
    (hk : ∀ v' w', w'.ownsRow base e size v' (n + m) (xs ++ ys) → w.grownBy w' (a.eval s).ownBlock → wpList Tryz.prog ops Q rest (a.put o.dst v') w') : wpList Tryz.prog ops Q (o :: rest) a w := by
  refine wpList_plain hgd fun K hK => ?_
  obtain ⟨v', w', hr, h2, h3⟩ := cs_append hA o.type h hs hn hby hb
  exact Oper.wp_value (run_op_append ho hr) (hK _ _ (hk v' w' h2 h3))
/-- The cells of a step. -/
def ic (i : In) : List Value := [.int .i64 i.k, .int .u64 (i.s 0 : Int), .int .u64 (i.s 1 : Int), .int .u64 (i.s 2 : Int), .int .u64 (i.s 3 : Int), .int .i64 i.x, .int .i64 i.y]
def ics : List In → List Value
  | [] => []
  | i :: l => ic i ++ ics l
theorem ics_len (l : List In) : (ics l).length = l.length * 7 := by
  induction l with
  | nil => rfl
  | cons i l ih => simp only [ics, List.length_append, ih, List.length_cons, show (ic i).length = 7 from rfl]; omega
theorem ics_app (a b : List In) : ics (a ++ b) = ics a ++ ics b := by
  induction a with
  | nil => rfl
  | cons i l ih => simp [ics, ih, List.append_assoc]
theorem ics_one (l : List In) : ∀ u ∈ ics l, u.oneCell' = true := by
  induction l with
  | nil => intro u h; cases h
  | cons i l ih =>
    intro u h
    simp only [ics, List.mem_append] at h
    rcases h with h | h
    · simp [ic] at h
      rcases h with rfl | rfl | rfl | rfl | rfl | rfl | rfl <;> rfl
    · exact ih u h
theorem ics_at (l : List In) : ∀ (j q : Nat) (i : In), l[j]? = some i → q < 7 → (ics l)[j * 7 + q]? = (ic i)[q]? := by
  induction l with
  | nil => intro j q i h; simp at h
  | cons a l ih =>
    intro j q i h hq
    cases j with
    | zero =>
      simp at h; subst h
      simp only [ics, Nat.zero_mul, Nat.zero_add]
      have h7 : (ic a).length = 7 := rfl
      rw [List.getElem?_append_left (by rw [h7]; exact hq)]
    | succ j =>
      simp only [List.getElem?_cons_succ] at h
      simp only [ics]
      have h7 : (ic a).length = 7 := rfl
      rw [List.getElem?_append_right (by rw [h7]; omega), h7, show (j + 1) * 7 + q - 7 = j * 7 + q by omega]
      exact ih j q i h hq
/-- A slice that holds steps, in a block of steps. -/
def LsAt (w : World) (v : Value) (l : List In) : Prop := CsAt w 7 l.length v (ics l) ∧ ∀ k, v.ownBlock = some k → ∃ c fr, w.heap[k]? = some (.cells c 184 fr)
theorem LsAt.ext {W w : World} {v : Value} {l : List In} (h : LsAt W v l) (he : Below W.heap.size W w) : LsAt w v l :=
  ⟨CsAt.ext h.1 he, fun k hk => by
    obtain ⟨c, fr, hr⟩ := h.2 k hk
    exact ⟨c, fr, Below.heap he (Array.getElem?_eq_some_iff.1 hr).1 hr⟩⟩
theorem LsAt.nil (w : World) : LsAt w (.slice none 0 0) [] := ⟨⟨rfl, 0, 0, 0, none, rfl, Nat.le_refl _, by omega, fun h => absurd h (by simp), fun u h => by cases h⟩, fun k hk => by cases hk⟩
theorem LsAt.len {w : World} {v : Value} {l : List In} (h : LsAt w v l) : ∃ ao c, v = .slice ao l.length c ∧ l.length ≤ c ∧ c ≤ 9223372036854775807 := by
  obtain ⟨⟨_, b, o, c, ao, hv, hn, hm, _⟩, _⟩ := h
  exact ⟨ao, c, hv, hn, hm⟩
/-- Steps stay while a block of another kind is written. -/
theorem LsAt.off {w w' : World} {v : Value} {l : List In} (h : LsAt w v l) {X : Option Nat} (hg : w.grownBy w' X) {T : TypeId} (hT : T ≠ 184) (hX : ∀ k, X = some k → ∃ c fr, w.heap[k]? = some (.cells c T fr)) : LsAt w' v l := by
  obtain ⟨⟨h1, b, o, c, ao, hv, hn, hm, hh, ho⟩, h2⟩ := h
  have hne : ∀ k, v.ownBlock = some k → some k ≠ X := fun k hk e => by
    obtain ⟨c1, f1, r1⟩ := h2 k hk
    obtain ⟨c2, f2, r2⟩ := hX k e.symm
    rw [r1] at r2
    injection r2 with r2
    injection r2 with _ r2 _
    exact hT r2.symm
  refine ⟨⟨h1, b, o, c, ao, hv, hn, hm, fun h0 => ?_, ho⟩, fun k hk => ?_⟩
  · obtain ⟨e1, hb, hc⟩ := hh h0
    exact ⟨e1, Nat.lt_of_lt_of_le hb hg.size, fun j u hu => hg.cell (hc j u hu) (hne b (by rw [hv, e1]; rfl))⟩
  · obtain ⟨c1, f1, r1⟩ := h2 k hk
    exact ⟨c1, f1, (hg.block k (Array.getElem?_eq_some_iff.1 r1).1 (hne k hk)).trans r1⟩
/-- A row of steps of the call's own. -/
def Ro (w : World) (base : Nat) (v : Value) (l : List In) : Prop := w.ownsRow base 184 7 v l.length (ics l)
theorem row_ty {w : World} {base e size n : Nat} {v : Value} {xs : List Value} (h : w.ownsRow base e size v n xs) : ∀ k, v.ownBlock = some k → ∃ c fr, w.heap[k]? = some (.cells c e fr) := fun k hk => by
  rcases h.2 with ⟨rfl, _⟩ | ⟨g, cap, cur, rfl, _, hr, _⟩
  · cases hk
  · injection hk with hk; subst hk; exact ⟨cur, _, hr⟩
theorem Ro.at {w : World} {base : Nat} {v : Value} {l : List In} (h : Ro w base v l) : LsAt w v l := ⟨row_cs h (ics_one l), row_ty h⟩
theorem Ro.nil (w : World) (base : Nat) : Ro w base (.slice none 0 0) [] := World.ownsRow_nil _ _ _ _
theorem Ro.ext {w w' : World} {base : Nat} {v : Value} {l : List In} (h : Ro w base v l) (he : Below w.heap.size w w') : Ro w' base v l := row_ext h he
theorem Ro.gr {w w' : World} {base : Nat} {v : Value} {l : List In} (h : Ro w base v l) {g : Nat} (hg : w.grownBy w' (some g)) (hb : g < base) : Ro w' base v l := row_gr h hg hb
/-- A text's bytes as numbers. -/
def bl (s : ByteArray) : List Nat := s.data.toList.map UInt8.toNat
def bt (s : ByteArray) (i : Nat) : Nat := (s.data[i]?.getD 0).toNat
theorem bl_len (s : ByteArray) : (bl s).length = s.size := by unfold bl; rw [List.length_map, Array.length_toList]; rfl
theorem bl_lt (s : ByteArray) : ∀ c ∈ bl s, c < 256 := by
  intro c h
  simp only [bl, List.mem_map] at h
  obtain ⟨x, _, rfl⟩ := h
  exact x.toNat_lt
theorem str_ix (s : ByteArray) (k : Nat) (hk : k < s.size) (w : World) : (Instr.index 9 (.string s) (.int .i64 (k : Int))).run Tryz.prog w = .ok (.int .u8 (bt s k : Int)) w := by
  rw [run_index_string w 9 s .i64 (k : Int) (by kernel_rfl), dif_pos ⟨by omega, by omega⟩]
  have h2 : k < s.data.size := hk
  have h3 : (s.data[k]?.getD 0) = s.data[k] := by rw [Array.getElem?_eq_getElem h2]; rfl
  unfold bt
  rw [h3]
  simp [ByteArray.getElem_eq_getElem_data]
theorem bt_of {s : ByteArray} {i c : Nat} {t : List Nat} (h : (bl s).drop i = c :: t) : bt s i = c ∧ i < s.size ∧ (bl s).drop (i + 1) = t := by
  have h1 : (bl s)[i]? = some c := by
    have := congrArg (fun l => l[0]?) h
    simpa using this
  have h2 : i < s.size := by rw [← bl_len]; exact (List.getElem?_eq_some_iff.1 h1).1
  refine ⟨?_, h2, ?_⟩
  · unfold bl at h1
    rw [List.getElem?_map] at h1
    unfold bt
    cases hx : s.data.toList[i]? with
    | none => rw [hx] at h1; cases h1
    | some x =>
      rw [hx] at h1
      simp only [Option.map_some, Option.some.injEq] at h1
      rw [← Array.getElem?_toList, hx]
      exact h1
  · rw [← List.drop_drop, h]; rfl
/-- A reader of a pattern: in block g, these bytes yet to read, so many parentheses open. -/
def PAt (w : World) (g : Nat) (s : ByteArray) (r : List Nat) (d : Nat) : Prop :=
  ∃ i : Nat, (i + r.length = s.size ∧ s.size ≤ 256 ∧ d ≤ 20) ∧ (bl s).drop i = r ∧ w.heap[g]? = some (.cells #[.string s, .int .i64 (i : Int), .int .i64 (d : Int)] 194 (0, 0))
theorem PAt.lt {w : World} {g : Nat} {s : ByteArray} {r : List Nat} {d : Nat} (h : PAt w g s r d) : g < w.heap.size := by
  obtain ⟨i, _, _, hr⟩ := h
  exact (Array.getElem?_eq_some_iff.1 hr).1
theorem PAt.ext {w w' : World} {g : Nat} {s : ByteArray} {r : List Nat} {d : Nat} (h : PAt w g s r d) (he : Below w.heap.size w w') : PAt w' g s r d := by
  have hg := h.lt
  obtain ⟨i, h1, h2, hr⟩ := h
  exact ⟨i, h1, h2, Below.heap he hg hr⟩
theorem PAt.gr {w w' : World} {g : Nat} {s : ByteArray} {r : List Nat} {d : Nat} (h : PAt w g s r d) {X : Option Nat} (he : w.grownBy w' X) (hX : ∀ k, X = some k → g < k) : PAt w' g s r d := by
  have hg := h.lt
  obtain ⟨i, h1, h2, hr⟩ := h
  exact ⟨i, h1, h2, (he.block g hg (fun e => by have := hX g e.symm; omega)).trans hr⟩
theorem heap_set3 {w : World} {g : Nat} {a b c u : Value} {t : TypeId} (hr : w.heap[g]? = some (.cells #[a, b, c] t (0, 0))) : (w.setCell ⟨g, 1, none⟩ u).heap[g]? = some (.cells #[a, u, c] t (0, 0)) := by
  rw [heap_setCell_same _ _ _ _ _ _ hr]
  rfl
theorem heap_set32 {w : World} {g : Nat} {a b c u : Value} {t : TypeId} (hr : w.heap[g]? = some (.cells #[a, b, c] t (0, 0))) : (w.setCell ⟨g, 2, none⟩ u).heap[g]? = some (.cells #[a, b, u] t (0, 0)) := by
  rw [heap_setCell_same _ _ _ _ _ _ hr]
  rfl
theorem grown_set (w : World) (g i : Nat) (v : Value) : w.grownBy (w.setCell ⟨g, i, none⟩ v) (some g) :=
  ⟨rfl, rfl, rfl, by simp, fun k _ hne => Below.heap_setCell w ⟨g, i, none⟩ v k (fun e => hne (by rw [e]))⟩
theorem drewN_below (w : World) (k : Nat) : Below w.heap.size w (w.drewN k) := ⟨rfl, rfl, rfl, Nat.le_refl _, fun _ _ => rfl⟩
/-- What the reader's cells hold, and what it is one byte on, or with other parentheses open. -/
theorem PAt.cells {w : World} {g : Nat} {s : ByteArray} {r : List Nat} {d : Nat} (h : PAt w g s r d) : ∃ i : Nat, (0 ≤ (i : Int) ∧ (i : Int) ≤ 256) ∧ d ≤ 20 ∧ w.cell? ⟨g, 0, none⟩ = some (.string s) ∧ w.cell? ⟨g, 1, none⟩ = some (.int .i64 (i : Int)) ∧ w.cell? ⟨g, 2, none⟩ = some (.int .i64 (d : Int)) ∧ w.frozen? ⟨g, 1, none⟩ = false ∧ w.frozen? ⟨g, 2, none⟩ = false ∧
    Hid (∀ c t, r = c :: t → PAt (w.setCell ⟨g, 1, none⟩ (.int .i64 ((i : Int) + 1))) g s t d) ∧ Hid (∀ d' : Nat, d' ≤ 20 → PAt (w.setCell ⟨g, 2, none⟩ (.int .i64 (d' : Int))) g s r d') := by
  obtain ⟨i, hi, hb, hr⟩ := h
  obtain ⟨x0, y0⟩ := row_reads hr
  refine ⟨i, ⟨by omega, by omega⟩, hi.2.2, x0 0, x0 1, x0 2, y0 1, y0 2, fun c t hrt => ?_, fun d' hd => ⟨i, ⟨hi.1, hi.2.1, hd⟩, hb, heap_set32 hr⟩⟩
  subst hrt
  exact ⟨i + 1, ⟨by have := hi.1; simp at this; omega, hi.2.1, hi.2.2⟩, (bt_of hb).2.2, heap_set3 hr⟩
theorem sl_from (x : ByteArray) (j : Nat) (h : j ≤ x.size) (w : World) : (Instr.sliceAt 9 (.string x) (some (.int .i64 (j : Int))) none none).run Tryz.prog w = .ok (.string (x.extract j x.size)) w := by
  have h0 : ¬ ((j : Int) < 0) := by omega
  have h1 : ¬ ((x.size : Int) < (j : Int)) := by omega
  go_simp
theorem bl_extract (s : ByteArray) (i : Nat) : bl (s.extract i s.size) = (bl s).drop i := by
  have h : (s.extract i s.size).data.toList = s.data.toList.drop i := by
    rw [ByteArray.data_extract, Array.toList_extract]
    have hs : s.size = s.data.toList.length := rfl
    rw [List.extract_eq_take_drop, hs]
    exact List.take_of_length_le (by rw [List.length_drop]; exact Nat.le_refl _)
  unfold bl
  rw [h, List.map_drop]
/-- What the reader has yet to read, as a text. -/
theorem PAt.rest {w : World} {g : Nat} {s : ByteArray} {r : List Nat} {d : Nat} (h : PAt w g s r d) : ∃ (i : Nat) (u : ByteArray), w.cell? ⟨g, 0, none⟩ = some (.string s) ∧ w.cell? ⟨g, 1, none⟩ = some (.int .i64 (i : Int)) ∧ (∀ W : World, (Instr.sliceAt 9 (.string s) (some (.int .i64 (i : Int))) none none).run Tryz.prog W = .ok (.string u) W) ∧ bl u = r := by
  obtain ⟨i, hi, hb, hr⟩ := h
  obtain ⟨x0, y0⟩ := row_reads hr
  exact ⟨i, s.extract i s.size, x0 0, x0 1, sl_from s i (by omega), (bl_extract s i).trans hb⟩
theorem bt_bl {u : ByteArray} {r : List Nat} (h : bl u = r) (k c : Nat) (hk : r[k]? = some c) : k < u.size ∧ bt u k = c := by
  have h1 : (bl u).drop k = c :: r.drop (k + 1) := by
    rw [h]
    exact List.drop_eq_getElem_cons (List.getElem?_eq_some_iff.1 hk).1 ▸ by rw [(List.getElem?_eq_some_iff.1 hk).2]
  exact ⟨(bt_of h1).2.1, (bt_of h1).1⟩
/-- Steps stay while the reader goes on. -/
theorem LsAt.gr {w w' : World} {v : Value} {l : List In} (h : LsAt w v l) {g : Nat} {s : ByteArray} {r : List Nat} {d : Nat} (hp : PAt w g s r d) (hg : w.grownBy w' (some g)) : LsAt w' v l := by
  obtain ⟨i, _, _, hr⟩ := hp
  exact h.off hg (T := 194) (by decide) (fun k hk => by injection hk with hk; subst hk; exact ⟨_, _, hr⟩)
end Go.Proofs.YteiacgpaocnofaaGreat.Rg
/- A byte of the pattern: which is next, whether it is that one. -/
namespace Go.Proofs.YteiacgpaocnofaaGreat.Rg
set_option maxRecDepth 100000
open Go.RowKit
set_option maxRecDepth 100000 in
theorem next_nil {w : World} {g : Nat} {s : ByteArray} {d : Nat} (h : PAt w g s [] d) : Calls Tryz.prog 220 #[.pointer (some ⟨g, 0, none⟩)] w fun e w' => e = .returned (.tuple #[.int .u8 0, .bool false]) ∧ PAt w' g s [] d ∧ w.grownBy w' (some g) := by
  have H0 := hide h
  obtain ⟨i, hi, _, hr⟩ := h
  obtain ⟨x0, _⟩ := row_reads hr
  have c0 := x0 0
  have c1 := x0 1
  simp only [List.getElem?_toArray, List.getElem?_cons_zero, List.getElem?_cons_succ] at c0 c1
  have hd : ((i : Int) == (s.size : Int)) = true := beq_iff_eq.2 (by have := hi.1; simp at this; omega)
  clear x0 hr hi
  go_enter Tryz.func220, Tryz.ntmps220
  go_wp2_with fail
  go_quiet (fail)
  have HA := hide (And.intro (H0.out.ext (drewN_below w nq)) (Ext.gr (drewN_below w nq) (some g)))
  generalize w.drewN nq = w2 at HA ⊢
  go_wp2
  go_ret2
  exact ⟨rfl, HA.out.1, HA.out.2⟩
set_option maxRecDepth 100000 in
theorem next_cons {w : World} {g : Nat} {s : ByteArray} {c : Nat} {t : List Nat} {d : Nat} (h : PAt w g s (c :: t) d) : Calls Tryz.prog 220 #[.pointer (some ⟨g, 0, none⟩)] w fun e w' => e = .returned (.tuple #[.int .u8 (c : Int), .bool true]) ∧ PAt w' g s (c :: t) d ∧ w.grownBy w' (some g) := by
  have H0 := hide h
  obtain ⟨i, hi, hb, hr⟩ := h
  obtain ⟨b1, b2, _⟩ := bt_of hb
  obtain ⟨x0, _⟩ := row_reads hr
  have c0 := x0 0
  have c1 := x0 1
  simp only [List.getElem?_toArray, List.getElem?_cons_zero, List.getElem?_cons_succ] at c0 c1
  have hd : ((i : Int) == (s.size : Int)) = false := beq_eq_false_iff_ne.2 (by omega)
  have hix := str_ix s i b2
  rw [b1] at hix
  clear x0 hi hb b1 b2
  have HR := hide hr
  clear hr
  go_enter Tryz.func220, Tryz.ntmps220
  go_wp2_with fail
  go_quiet (fail)
  have HA := hide (And.intro (H0.out.ext (drewN_below w nq)) (Ext.gr (drewN_below w nq) (some g)))
  have HR2 := hide (Below.heap (drewN_below w nq) H0.out.lt HR.out)
  clear c0 c1
  generalize w.drewN nq = w2 at HA HR2 ⊢
  obtain ⟨x0, _⟩ := row_reads HR2.out
  have c0 := x0 0
  have c1 := x0 1
  simp only [List.getElem?_toArray, List.getElem?_cons_zero, List.getElem?_cons_succ] at c0 c1
  clear x0
  go_wp2_with fail
  go_quiet (fail)
  have HB := hide (And.intro (HA.out.1.ext (drewN_below w2 nq)) (grown_trans HA.out.2 (Ext.gr (drewN_below w2 nq) (some g))))
  generalize w2.drewN nq = w3 at HB ⊢
  go_wp2
  go_ret2
  exact ⟨rfl, HB.out.1, HB.out.2⟩
end Go.Proofs.YteiacgpaocnofaaGreat.Rg
/- Bytes taken, bytes of classes, and ranges of them, as they are read. -/
namespace Go.Proofs.YteiacgpaocnofaaGreat.Rg
set_option maxRecDepth 100000
open Go.RowKit
set_option maxRecDepth 100000 in
theorem take_yes {w : World} {g : Nat} {s : ByteArray} {k : Nat} {t : List Nat} {d : Nat} (h : PAt w g s (k :: t) d) : Calls Tryz.prog 218 #[.pointer (some ⟨g, 0, none⟩), .int .u8 (k : Int)] w fun e w' => e = .returned (.bool true) ∧ PAt w' g s t d ∧ w.grownBy w' (some g) := by
  have H0 := hide h
  clear h
  go_enter Tryz.func218, Tryz.ntmps218
  go_wp2_with fail
  refine (next_cons H0.out).mono ?_
  rintro e_ w1 ⟨rfl, h1_, h2_⟩
  have H1 := hide (And.intro h1_ h2_)
  clear h1_ h2_
  obtain ⟨i, ib, dm, c0, c1, c2, f1, f2, SA, SD⟩ := PAt.cells H1.out.1
  have HS := hide (And.intro (SA.out _ _ rfl) (grown_trans H1.out.2 (grown_set w1 g 1 (.int .i64 ((i : Int) + 1)))))
  clear SA SD
  go_wp2
  go_ret
  exact ⟨rfl, HS.out.1, HS.out.2⟩

set_option maxRecDepth 100000 in
theorem take_no {w : World} {g : Nat} {s : ByteArray} {k : Nat} {r : List Nat} {d : Nat} (h : PAt w g s r d) (hk : r.head? ≠ some k) : Calls Tryz.prog 218 #[.pointer (some ⟨g, 0, none⟩), .int .u8 (k : Int)] w fun e w' => e = .returned (.bool false) ∧ PAt w' g s r d ∧ w.grownBy w' (some g) := by
  have H0 := hide h
  clear h
  cases r with
  | nil =>
    clear hk
    go_enter Tryz.func218, Tryz.ntmps218
    go_wp2_with fail
    refine (next_nil H0.out).mono ?_
    rintro e_ w1 ⟨rfl, h1_, h2_⟩
    have H1 := hide (And.intro h1_ h2_)
    clear h1_ h2_
    go_wp2
    go_ret
    exact ⟨rfl, H1.out.1, H1.out.2⟩

  | cons c t =>
    have hne : ((c : Int) == (k : Int)) = false := beq_eq_false_iff_ne.2 (by intro hc; apply hk; simp; omega)
    clear hk
    go_enter Tryz.func218, Tryz.ntmps218
    go_wp2_with fail
    refine (next_cons H0.out).mono ?_
    rintro e_ w1 ⟨rfl, h1_, h2_⟩
    have H1 := hide (And.intro h1_ h2_)
    clear h1_ h2_
    go_wp2
    go_ret
    exact ⟨rfl, H1.out.1, H1.out.2⟩

set_option maxRecDepth 100000 in
theorem isb_0 {w : World} {g : Nat} {s : ByteArray} {d : Nat} (h : PAt w g s [] d) : Calls Tryz.prog 242 #[.pointer (some ⟨g, 0, none⟩)] w fun e w' => e = .returned (.bool false) ∧ PAt w' g s [] d ∧ w.grownBy w' (some g) := by
  have H0 := hide h
  obtain ⟨i, u, c0, c1, hsl, hu⟩ := PAt.rest h
  have hsz := bl_len u
  rw [hu] at hsz
  have hd : decide ((1 : Int) < (u.size : Int)) = false := decide_eq_false (by simp at hsz; omega)
  clear hu hsz h
  go_enter Tryz.func242, Tryz.ntmps242
  go_wp2_with fail
  go_quiet (fail)
  have HA := hide (And.intro (H0.out.ext (drewN_below w nq)) (Ext.gr (drewN_below w nq) (some g)))
  generalize w.drewN nq = w2 at HA ⊢
  go_wp2
  go_ret
  exact ⟨rfl, HA.out.1, HA.out.2⟩

set_option maxRecDepth 100000 in
theorem isb_1 {w : World} {g : Nat} {s : ByteArray} {d : Nat} {a : Nat} (h : PAt w g s [a] d) : Calls Tryz.prog 242 #[.pointer (some ⟨g, 0, none⟩)] w fun e w' => e = .returned (.bool false) ∧ PAt w' g s [a] d ∧ w.grownBy w' (some g) := by
  have H0 := hide h
  obtain ⟨i, u, c0, c1, hsl, hu⟩ := PAt.rest h
  have hsz := bl_len u
  rw [hu] at hsz
  have hd : decide ((1 : Int) < (u.size : Int)) = false := decide_eq_false (by simp at hsz; omega)
  clear hu hsz h
  go_enter Tryz.func242, Tryz.ntmps242
  go_wp2_with fail
  go_quiet (fail)
  have HA := hide (And.intro (H0.out.ext (drewN_below w nq)) (Ext.gr (drewN_below w nq) (some g)))
  generalize w.drewN nq = w2 at HA ⊢
  go_wp2
  go_ret
  exact ⟨rfl, HA.out.1, HA.out.2⟩

set_option maxRecDepth 100000 in
theorem isb_2 {w : World} {g : Nat} {s : ByteArray} {d : Nat} {a b : Nat} {t : List Nat} (h : PAt w g s (a :: b :: t) d) (ha : a ≠ 45) : Calls Tryz.prog 242 #[.pointer (some ⟨g, 0, none⟩)] w fun e w' => e = .returned (.bool false) ∧ PAt w' g s (a :: b :: t) d ∧ w.grownBy w' (some g) := by
  have H0 := hide h
  obtain ⟨i, u, c0, c1, hsl, hu⟩ := PAt.rest h
  have hsz := bl_len u
  rw [hu] at hsz
  have hd : decide ((1 : Int) < (u.size : Int)) = true := decide_eq_true (by simp at hsz; omega)
  obtain ⟨k0, b0⟩ := bt_bl hu 0 a rfl
  obtain ⟨k1, b1⟩ := bt_bl hu 1 b rfl
  have i0 : ∀ W : World, (Instr.index 9 (.string u) (.int .i64 0)).run Tryz.prog W = .ok (.int .u8 (a : Int)) W := by have := str_ix u 0 k0; rw [b0] at this; exact this
  have i1 : ∀ W : World, (Instr.index 9 (.string u) (.int .i64 1)).run Tryz.prog W = .ok (.int .u8 (b : Int)) W := by have := str_ix u 1 k1; rw [b1] at this; exact this
  clear k0 b0 k1 b1
  have e0 : ((a : Int) == 45) = false := beq_eq_false_iff_ne.2 (by omega)
  clear ha
  clear hu hsz h
  go_enter Tryz.func242, Tryz.ntmps242
  go_wp2_with fail
  go_quiet (fail)
  have HA := hide (And.intro (H0.out.ext (drewN_below w nq)) (Ext.gr (drewN_below w nq) (some g)))
  generalize w.drewN nq = w2 at HA ⊢
  go_wp2
  go_ret
  exact ⟨rfl, HA.out.1, HA.out.2⟩

set_option maxRecDepth 100000 in
theorem isb_3 {w : World} {g : Nat} {s : ByteArray} {d : Nat} {a b : Nat} {t : List Nat} (h : PAt w g s (a :: b :: t) d) (ha : a = 45) (hb : b = 93) : Calls Tryz.prog 242 #[.pointer (some ⟨g, 0, none⟩)] w fun e w' => e = .returned (.bool false) ∧ PAt w' g s (a :: b :: t) d ∧ w.grownBy w' (some g) := by
  have H0 := hide h
  obtain ⟨i, u, c0, c1, hsl, hu⟩ := PAt.rest h
  have hsz := bl_len u
  rw [hu] at hsz
  subst ha hb
  have hd : decide ((1 : Int) < (u.size : Int)) = true := decide_eq_true (by simp at hsz; omega)
  obtain ⟨k0, b0⟩ := bt_bl hu 0 45 rfl
  obtain ⟨k1, b1⟩ := bt_bl hu 1 93 rfl
  have i0 : ∀ W : World, (Instr.index 9 (.string u) (.int .i64 0)).run Tryz.prog W = .ok (.int .u8 45) W := by have := str_ix u 0 k0; rw [b0] at this; exact this
  have i1 : ∀ W : World, (Instr.index 9 (.string u) (.int .i64 1)).run Tryz.prog W = .ok (.int .u8 93) W := by have := str_ix u 1 k1; rw [b1] at this; exact this
  clear k0 b0 k1 b1
  clear hu hsz h
  go_enter Tryz.func242, Tryz.ntmps242
  go_wp2_with fail
  go_quiet (fail)
  have HA := hide (And.intro (H0.out.ext (drewN_below w nq)) (Ext.gr (drewN_below w nq) (some g)))
  generalize w.drewN nq = w2 at HA ⊢
  go_wp2
  go_ret
  exact ⟨rfl, HA.out.1, HA.out.2⟩

set_option maxRecDepth 100000 in
theorem isb_4 {w : World} {g : Nat} {s : ByteArray} {d : Nat} {a b : Nat} {t : List Nat} (h : PAt w g s (a :: b :: t) d) (ha : a = 45) (hb : b ≠ 93) : Calls Tryz.prog 242 #[.pointer (some ⟨g, 0, none⟩)] w fun e w' => e = .returned (.bool true) ∧ PAt w' g s (a :: b :: t) d ∧ w.grownBy w' (some g) := by
  have H0 := hide h
  obtain ⟨i, u, c0, c1, hsl, hu⟩ := PAt.rest h
  have hsz := bl_len u
  rw [hu] at hsz
  subst ha
  have hd : decide ((1 : Int) < (u.size : Int)) = true := decide_eq_true (by simp at hsz; omega)
  obtain ⟨k0, b0⟩ := bt_bl hu 0 45 rfl
  obtain ⟨k1, b1⟩ := bt_bl hu 1 b rfl
  have i0 : ∀ W : World, (Instr.index 9 (.string u) (.int .i64 0)).run Tryz.prog W = .ok (.int .u8 45) W := by have := str_ix u 0 k0; rw [b0] at this; exact this
  have i1 : ∀ W : World, (Instr.index 9 (.string u) (.int .i64 1)).run Tryz.prog W = .ok (.int .u8 (b : Int)) W := by have := str_ix u 1 k1; rw [b1] at this; exact this
  clear k0 b0 k1 b1
  have e1 : ((b : Int) == 93) = false := beq_eq_false_iff_ne.2 (by omega)
  clear hb
  clear hu hsz h
  go_enter Tryz.func242, Tryz.ntmps242
  go_wp2_with fail
  go_quiet (fail)
  have HA := hide (And.intro (H0.out.ext (drewN_below w nq)) (Ext.gr (drewN_below w nq) (some g)))
  generalize w.drewN nq = w2 at HA ⊢
  go_wp2
  go_ret
  refine ⟨?_, HA.out.1, HA.out.2⟩
  show Ending.returned (.bool ((b : Int) != 93)) = _
  rw [bne, e1]
  rfl

set_option maxRecDepth 100000 in
theorem isb_any {w : World} {g : Nat} {s : ByteArray} {r : List Nat} {d : Nat} (h : PAt w g s r d) : Calls Tryz.prog 242 #[.pointer (some ⟨g, 0, none⟩)] w fun e w' => e = .returned (.bool (btw r)) ∧ PAt w' g s r d ∧ w.grownBy w' (some g) := by
  match r, h with
  | [], h => exact isb_0 h
  | [a], h => exact isb_1 h
  | a :: b :: t, h =>
    by_cases ha : a = 45
    · by_cases hb : b = 93
      · rw [show btw (a :: b :: t) = false by subst ha hb; rfl]; exact isb_3 h ha hb
      · rw [show btw (a :: b :: t) = true by subst ha; simp [btw, hb]]; exact isb_4 h ha hb
    · rw [show btw (a :: b :: t) = false by simp [btw, ha]]; exact isb_2 h ha

set_option maxRecDepth 100000 in
theorem mem_a {w : World} {g : Nat} {s : ByteArray} {d : Nat} (h : PAt w g s [] d) : Calls Tryz.prog 241 #[.pointer (some ⟨g, 0, none⟩)] w fun e w' => e = .returned (.tuple #[.int .u8 0, .bool false]) ∧ w.grownBy w' (some g) := by
  have H0 := hide h
  clear h
  go_enter Tryz.func241, Tryz.ntmps241
  go_wp2_with fail
  refine (next_nil H0.out).mono ?_
  rintro e_ w1 ⟨rfl, h1_, h2_⟩
  have H1 := hide (And.intro h1_ h2_)
  clear h1_ h2_
  go_wp2
  go_ret2
  exact ⟨rfl, H1.out.2⟩

set_option maxRecDepth 100000 in
theorem mem_b {w : World} {g : Nat} {s : ByteArray} {t : List Nat} {d : Nat} (h : PAt w g s (93 :: t) d) : Calls Tryz.prog 241 #[.pointer (some ⟨g, 0, none⟩)] w fun e w' => e = .returned (.tuple #[.int .u8 0, .bool false]) ∧ w.grownBy w' (some g) := by
  have H0 := hide h
  clear h
  go_enter Tryz.func241, Tryz.ntmps241
  go_wp2_with fail
  refine (next_cons H0.out).mono ?_
  rintro e_ w1 ⟨rfl, h1_, h2_⟩
  have H1 := hide (And.intro h1_ h2_)
  clear h1_ h2_
  go_wp2
  go_ret2
  exact ⟨rfl, H1.out.2⟩

set_option maxRecDepth 100000 in
theorem mem_c {w : World} {g : Nat} {s : ByteArray} {d : Nat} (h : PAt w g s [92] d) : Calls Tryz.prog 241 #[.pointer (some ⟨g, 0, none⟩)] w fun e w' => e = .returned (.tuple #[.int .u8 0, .bool false]) ∧ w.grownBy w' (some g) := by
  have H0 := hide h
  clear h
  go_enter Tryz.func241, Tryz.ntmps241
  go_wp2_with fail
  refine (next_cons H0.out).mono ?_
  rintro e_ w1 ⟨rfl, h1_, h2_⟩
  have H1 := hide (And.intro h1_ h2_)
  clear h1_ h2_
  obtain ⟨i, ib, dm, c0, c1, c2, f1, f2, SA, SD⟩ := PAt.cells H1.out.1
  have HS := hide (And.intro (SA.out _ _ rfl) (grown_trans H1.out.2 (grown_set w1 g 1 (.int .i64 ((i : Int) + 1)))))
  clear SA SD
  go_wp2_with fail
  refine (next_nil HS.out.1).mono ?_
  rintro e_ w3 ⟨rfl, h1_, h2_⟩
  have H3 := hide (And.intro h1_ h2_)
  clear h1_ h2_
  have HE := hide (grown_trans HS.out.2 H3.out.2)
  go_wp2
  go_ret2
  exact ⟨rfl, HE.out⟩

set_option maxRecDepth 100000 in
theorem mem_d {w : World} {g : Nat} {s : ByteArray} {a : Nat} {u : List Nat} {d : Nat} (h : PAt w g s (92 :: a :: u) d) : Calls Tryz.prog 241 #[.pointer (some ⟨g, 0, none⟩)] w fun e w' => e = .returned (.tuple #[.int .u8 (a : Int), .bool true]) ∧ PAt w' g s u d ∧ w.grownBy w' (some g) := by
  have H0 := hide h
  clear h
  go_enter Tryz.func241, Tryz.ntmps241
  go_wp2_with fail
  refine (next_cons H0.out).mono ?_
  rintro e_ w1 ⟨rfl, h1_, h2_⟩
  have H1 := hide (And.intro h1_ h2_)
  clear h1_ h2_
  obtain ⟨i, ib, dm, c0, c1, c2, f1, f2, SA, SD⟩ := PAt.cells H1.out.1
  have HS := hide (And.intro (SA.out _ _ rfl) (grown_trans H1.out.2 (grown_set w1 g 1 (.int .i64 ((i : Int) + 1)))))
  clear SA SD
  go_wp2_with fail
  refine (next_cons HS.out.1).mono ?_
  rintro e_ w3 ⟨rfl, h1_, h2_⟩
  have H3 := hide (And.intro h1_ h2_)
  clear h1_ h2_
  obtain ⟨ib, ibb, dmb, c0b, c1b, c2b, f1b, f2b, SAb, SDb⟩ := PAt.cells H3.out.1
  have HT := hide (And.intro (SAb.out _ _ rfl) (grown_trans (grown_trans HS.out.2 H3.out.2) (grown_set w3 g 1 (.int .i64 ((ib : Int) + 1)))))
  clear SAb SDb
  go_wp2
  go_ret2
  exact ⟨rfl, HT.out.1, HT.out.2⟩

set_option maxRecDepth 100000 in
theorem mem_e {w : World} {g : Nat} {s : ByteArray} {a : Nat} {u : List Nat} {d : Nat} (h : PAt w g s (a :: u) d) (n1 : a ≠ 93) (n2 : a ≠ 92) : Calls Tryz.prog 241 #[.pointer (some ⟨g, 0, none⟩)] w fun e w' => e = .returned (.tuple #[.int .u8 (a : Int), .bool true]) ∧ PAt w' g s u d ∧ w.grownBy w' (some g) := by
  have H0 := hide h
  clear h
  have e1 : ((a : Int) == 93) = false := beq_eq_false_iff_ne.2 (by omega)
  have e2 : ((a : Int) == 92) = false := beq_eq_false_iff_ne.2 (by omega)
  clear n1 n2
  go_enter Tryz.func241, Tryz.ntmps241
  go_wp2_with fail
  refine (next_cons H0.out).mono ?_
  rintro e_ w1 ⟨rfl, h1_, h2_⟩
  have H1 := hide (And.intro h1_ h2_)
  clear h1_ h2_
  obtain ⟨i, ib, dm, c0, c1, c2, f1, f2, SA, SD⟩ := PAt.cells H1.out.1
  have HS := hide (And.intro (SA.out _ _ rfl) (grown_trans H1.out.2 (grown_set w1 g 1 (.int .i64 ((i : Int) + 1)))))
  clear SA SD
  go_wp2
  go_ret2
  exact ⟨rfl, HS.out.1, HS.out.2⟩

set_option maxRecDepth 100000 in
theorem member_none {w : World} {g : Nat} {s : ByteArray} {r : List Nat} {d : Nat} (h : PAt w g s r d) (hm : memberS r = none) : Calls Tryz.prog 241 #[.pointer (some ⟨g, 0, none⟩)] w fun e w' => e = .returned (.tuple #[.int .u8 0, .bool false]) ∧ w.grownBy w' (some g) := by
  unfold memberS at hm
  split at hm
  · exact mem_a h
  · rename_i c t
    split at hm
    · rename_i hc; subst hc; exact mem_b h
    · split at hm
      · rename_i hc; subst hc
        split at hm
        · exact mem_c h
        · cases hm
      · cases hm

set_option maxRecDepth 100000 in
theorem member_some {w : World} {g : Nat} {s : ByteArray} {r t : List Nat} {c d : Nat} (h : PAt w g s r d) (hm : memberS r = some (c, t)) : Calls Tryz.prog 241 #[.pointer (some ⟨g, 0, none⟩)] w fun e w' => e = .returned (.tuple #[.int .u8 (c : Int), .bool true]) ∧ PAt w' g s t d ∧ w.grownBy w' (some g) := by
  unfold memberS at hm
  split at hm
  · cases hm
  · rename_i c1 t1
    split at hm
    · cases hm
    · rename_i n1
      split at hm
      · rename_i hc; subst hc
        split at hm
        · cases hm
        · injection hm with hm; injection hm with e1 e2; subst e1 e2; exact mem_d h
      · rename_i n2
        injection hm with hm; injection hm with e1 e2; subst e1 e2; exact mem_e h n1 n2

set_option maxRecDepth 100000 in
theorem spn_a {w : World} {g : Nat} {s : ByteArray} {r : List Nat} {d : Nat} (h : PAt w g s r d) (hm : memberS r = none) : Calls Tryz.prog 239 #[.pointer (some ⟨g, 0, none⟩)] w fun e w' => ∃ x y : Int, e = .returned (.tuple #[.int .u8 x, .int .u8 y, .bool false]) ∧ w.grownBy w' (some g) := by
  have H0 := hide (And.intro h hm)
  clear h hm
  go_enter Tryz.func239, Tryz.ntmps239
  go_wp2_with fail
  refine (member_none H0.out.1 H0.out.2).mono ?_
  rintro e_ w1 ⟨rfl, h2_⟩
  have H1 := hide h2_
  clear h2_
  go_wp2
  go_ret3
  exact ⟨_, _, rfl, H1.out⟩

set_option maxRecDepth 100000 in
theorem spn_b {w : World} {g : Nat} {s : ByteArray} {r t : List Nat} {a d : Nat} (h : PAt w g s r d) (hm : memberS r = some (a, t)) (hb : btw t = false) : Calls Tryz.prog 239 #[.pointer (some ⟨g, 0, none⟩)] w fun e w' => e = .returned (.tuple #[.int .u8 (a : Int), .int .u8 (a : Int), .bool true]) ∧ PAt w' g s t d ∧ w.grownBy w' (some g) := by
  have H0 := hide (And.intro h hm)
  clear h hm
  go_enter Tryz.func239, Tryz.ntmps239
  go_wp2_with fail
  refine (member_some H0.out.1 H0.out.2).mono ?_
  rintro e_ w1 ⟨rfl, h1_, h2_⟩
  have H1 := hide (And.intro h1_ h2_)
  clear h1_ h2_
  go_wp2_with fail
  refine (isb_any H1.out.1).mono ?_
  rintro e_ w2 ⟨rfl, h1_, h2_⟩
  have H2 := hide (And.intro h1_ h2_)
  clear h1_ h2_
  have HE := hide (And.intro H2.out.1 (grown_trans H1.out.2 H2.out.2))
  rw [hb]
  clear hb
  go_wp2
  go_ret3
  exact ⟨rfl, HE.out.1, HE.out.2⟩

set_option maxRecDepth 100000 in
theorem spn_c {w : World} {g : Nat} {s : ByteArray} {r t : List Nat} {a x d : Nat} (h : PAt w g s r d) (hm : memberS r = some (a, x :: t)) (hb : btw (x :: t) = true) (hn : memberS t = none) : Calls Tryz.prog 239 #[.pointer (some ⟨g, 0, none⟩)] w fun e w' => ∃ x y : Int, e = .returned (.tuple #[.int .u8 x, .int .u8 y, .bool false]) ∧ w.grownBy w' (some g) := by
  have H0 := hide (And.intro h (And.intro hm hn))
  clear h hm hn
  go_enter Tryz.func239, Tryz.ntmps239
  go_wp2_with fail
  refine (member_some H0.out.1 H0.out.2.1).mono ?_
  rintro e_ w1 ⟨rfl, h1_, h2_⟩
  have H1 := hide (And.intro h1_ h2_)
  clear h1_ h2_
  go_wp2_with fail
  refine (isb_any H1.out.1).mono ?_
  rintro e_ w2 ⟨rfl, h1_, h2_⟩
  have H2 := hide (And.intro h1_ h2_)
  clear h1_ h2_
  rw [hb]
  clear hb
  obtain ⟨i, ib, dm, c0, c1, c2, f1, f2, SA, SD⟩ := PAt.cells H2.out.1
  have HS := hide (And.intro (SA.out _ _ rfl) (grown_trans (grown_trans H1.out.2 H2.out.2) (grown_set w2 g 1 (.int .i64 ((i : Int) + 1)))))
  clear SA SD
  go_wp2_with fail
  refine (member_none HS.out.1 H0.out.2.2).mono ?_
  rintro e_ w3 ⟨rfl, h2_⟩
  have H3 := hide h2_
  clear h2_
  have HE := hide (grown_trans HS.out.2 H3.out)
  go_wp2
  go_ret3
  exact ⟨_, _, rfl, HE.out⟩

set_option maxRecDepth 100000 in
theorem spn_d {w : World} {g : Nat} {s : ByteArray} {r t u : List Nat} {a b x d : Nat} (h : PAt w g s r d) (hm : memberS r = some (a, x :: t)) (hb : btw (x :: t) = true) (hn : memberS t = some (b, u)) (hc : a ≤ b) : Calls Tryz.prog 239 #[.pointer (some ⟨g, 0, none⟩)] w fun e w' => e = .returned (.tuple #[.int .u8 (a : Int), .int .u8 (b : Int), .bool true]) ∧ PAt w' g s u d ∧ w.grownBy w' (some g) := by
  have H0 := hide (And.intro h (And.intro hm hn))
  clear h hm hn
  have hd : decide (a ≤ b) = true := decide_eq_true (by omega)
  clear hc
  go_enter Tryz.func239, Tryz.ntmps239
  go_wp2_with fail
  refine (member_some H0.out.1 H0.out.2.1).mono ?_
  rintro e_ w1 ⟨rfl, h1_, h2_⟩
  have H1 := hide (And.intro h1_ h2_)
  clear h1_ h2_
  go_wp2_with fail
  refine (isb_any H1.out.1).mono ?_
  rintro e_ w2 ⟨rfl, h1_, h2_⟩
  have H2 := hide (And.intro h1_ h2_)
  clear h1_ h2_
  rw [hb]
  clear hb
  obtain ⟨i, ib, dm, c0, c1, c2, f1, f2, SA, SD⟩ := PAt.cells H2.out.1
  have HS := hide (And.intro (SA.out _ _ rfl) (grown_trans (grown_trans H1.out.2 H2.out.2) (grown_set w2 g 1 (.int .i64 ((i : Int) + 1)))))
  clear SA SD
  go_wp2_with fail
  refine (member_some HS.out.1 H0.out.2.2).mono ?_
  rintro e_ w3 ⟨rfl, h1_, h2_⟩
  have H3 := hide (And.intro h1_ h2_)
  clear h1_ h2_
  have HE := hide (And.intro H3.out.1 (grown_trans HS.out.2 H3.out.2))
  go_wp2
  go_ret3
  exact ⟨rfl, HE.out.1, HE.out.2⟩

set_option maxRecDepth 100000 in
theorem spn_e {w : World} {g : Nat} {s : ByteArray} {r t u : List Nat} {a b x d : Nat} (h : PAt w g s r d) (hm : memberS r = some (a, x :: t)) (hb : btw (x :: t) = true) (hn : memberS t = some (b, u)) (hc : ¬ a ≤ b) : Calls Tryz.prog 239 #[.pointer (some ⟨g, 0, none⟩)] w fun e w' => ∃ x y : Int, e = .returned (.tuple #[.int .u8 x, .int .u8 y, .bool false]) ∧ w.grownBy w' (some g) := by
  have H0 := hide (And.intro h (And.intro hm hn))
  clear h hm hn
  have hd : decide (a ≤ b) = false := decide_eq_false (by omega)
  clear hc
  go_enter Tryz.func239, Tryz.ntmps239
  go_wp2_with fail
  refine (member_some H0.out.1 H0.out.2.1).mono ?_
  rintro e_ w1 ⟨rfl, h1_, h2_⟩
  have H1 := hide (And.intro h1_ h2_)
  clear h1_ h2_
  go_wp2_with fail
  refine (isb_any H1.out.1).mono ?_
  rintro e_ w2 ⟨rfl, h1_, h2_⟩
  have H2 := hide (And.intro h1_ h2_)
  clear h1_ h2_
  rw [hb]
  clear hb
  obtain ⟨i, ib, dm, c0, c1, c2, f1, f2, SA, SD⟩ := PAt.cells H2.out.1
  have HS := hide (And.intro (SA.out _ _ rfl) (grown_trans (grown_trans H1.out.2 H2.out.2) (grown_set w2 g 1 (.int .i64 ((i : Int) + 1)))))
  clear SA SD
  go_wp2_with fail
  refine (member_some HS.out.1 H0.out.2.2).mono ?_
  rintro e_ w3 ⟨rfl, h1_, h2_⟩
  have H3 := hide (And.intro h1_ h2_)
  clear h1_ h2_
  have HE := hide (And.intro H3.out.1 (grown_trans HS.out.2 H3.out.2))
  go_wp2
  go_ret3
  exact ⟨_, _, rfl, HE.out.2⟩

set_option maxRecDepth 100000 in
theorem btw_cons {t : List Nat} (h : btw t = true) : ∃ x u, t = x :: u := by
  cases t with
  | nil => cases h
  | cons x u => exact ⟨x, u, rfl⟩

set_option maxRecDepth 100000 in
theorem span_none {w : World} {g : Nat} {s : ByteArray} {r : List Nat} {d : Nat} (h : PAt w g s r d) (hm : spanS r = none) : Calls Tryz.prog 239 #[.pointer (some ⟨g, 0, none⟩)] w fun e w' => ∃ x y : Int, e = .returned (.tuple #[.int .u8 x, .int .u8 y, .bool false]) ∧ w.grownBy w' (some g) := by
  unfold spanS at hm
  split at hm
  · rename_i h1; exact spn_a h h1
  · rename_i lo t h1
    split at hm
    · rename_i hb
      obtain ⟨x, v, rfl⟩ := btw_cons hb
      split at hm
      · rename_i h2; exact spn_c h h1 hb h2
      · rename_i hi u h2
        split at hm
        · cases hm
        · rename_i hc; exact spn_e h h1 hb h2 hc
    · cases hm

set_option maxRecDepth 100000 in
theorem span_some {w : World} {g : Nat} {s : ByteArray} {r u : List Nat} {a b d : Nat} (h : PAt w g s r d) (hm : spanS r = some (a, b, u)) : Calls Tryz.prog 239 #[.pointer (some ⟨g, 0, none⟩)] w fun e w' => e = .returned (.tuple #[.int .u8 (a : Int), .int .u8 (b : Int), .bool true]) ∧ PAt w' g s u d ∧ w.grownBy w' (some g) := by
  unfold spanS at hm
  split at hm
  · cases hm
  · rename_i lo t h1
    split at hm
    · rename_i hb
      obtain ⟨x, v, rfl⟩ := btw_cons hb
      split at hm
      · cases hm
      · rename_i hi u1 h2
        split at hm
        · rename_i hc
          injection hm with hm; injection hm with e1 hm; injection hm with e2 e3; subst e1 e2 e3
          exact spn_d h h1 hb h2 hc
        · cases hm
    · rename_i hb
      injection hm with hm; injection hm with e1 hm; injection hm with e2 e3; subst e1 e2 e3
      exact spn_b h h1 (by simpa using hb)


end Go.Proofs.YteiacgpaocnofaaGreat.Rg
/- Steps made, and rows of them put behind one another: the program's calls. -/
namespace Go.Proofs.YteiacgpaocnofaaGreat.Rg
set_option maxRecDepth 100000
open Go.RowKit
/-- A new slice of one step. -/
theorem one_at {w : World} {g : Nat} {i : In} (h : w.heap[g]? = some (.cells #[.int .i64 i.k, .int .u64 (i.s 0 : Int), .int .u64 (i.s 1 : Int), .int .u64 (i.s 2 : Int), .int .u64 (i.s 3 : Int), .int .i64 i.x, .int .i64 i.y] 184 (0, 0))) : LsAt w (.slice (some ⟨g, 0, none⟩) 1 1) [i] := by
  refine ⟨⟨rfl, g, 0, 1, _, rfl, Nat.le_refl _, by omega, fun _ => ⟨rfl, (Array.getElem?_eq_some_iff.1 h).1, fun j u hu => ?_⟩, ics_one _⟩, fun k hk => by injection hk with hk; subst hk; exact ⟨_, _, h⟩⟩
  rw [Nat.zero_add, cell_of_row _ _ _ _ _ _ h]
  simpa [ics, ic] using hu
set_option maxRecDepth 100000 in
theorem step_any (k : Int) {w : World} : Calls Tryz.prog 210 #[.int .i64 k] w fun e w' => ∃ v, e = .returned v ∧ LsAt w' v [stepI k] ∧ Below w.heap.size w w' := by
  have HA := hide (And.intro (one_at (i := stepI k) (heap_alloc_last w (.cells #[.int .i64 k, .int .u64 0, .int .u64 0, .int .u64 0, .int .u64 0, .int .i64 0, .int .i64 0] 184))) (alloc_below w (.cells #[.int .i64 k, .int .u64 0, .int .u64 0, .int .u64 0, .int .u64 0, .int .i64 0, .int .i64 0] 184)))
  go_enter Tryz.func210, Tryz.ntmps210
  go_wp2
  go_ret
  exact ⟨_, rfl, HA.out.1, HA.out.2⟩

set_option maxRecDepth 100000 in
theorem split_any (x y : Int) {w : World} : Calls Tryz.prog 223 #[.int .i64 x, .int .i64 y] w fun e w' => ∃ v, e = .returned v ∧ LsAt w' v [splitI x y] ∧ Below w.heap.size w w' := by
  have HA := hide (And.intro (one_at (i := splitI x y) (heap_alloc_last w (.cells #[.int .i64 2, .int .u64 0, .int .u64 0, .int .u64 0, .int .u64 0, .int .i64 x, .int .i64 y] 184))) (alloc_below w (.cells #[.int .i64 2, .int .u64 0, .int .u64 0, .int .u64 0, .int .u64 0, .int .i64 x, .int .i64 y] 184)))
  go_enter Tryz.func223, Tryz.ntmps223
  go_wp2
  go_ret
  exact ⟨_, rfl, HA.out.1, HA.out.2⟩

set_option maxRecDepth 100000 in
theorem jump_any (x : Int) {w : World} : Calls Tryz.prog 224 #[.int .i64 x] w fun e w' => ∃ v, e = .returned v ∧ LsAt w' v [jumpI x] ∧ Below w.heap.size w w' := by
  have HA := hide (And.intro (one_at (i := jumpI x) (heap_alloc_last w (.cells #[.int .i64 3, .int .u64 0, .int .u64 0, .int .u64 0, .int .u64 0, .int .i64 x, .int .i64 0] 184))) (alloc_below w (.cells #[.int .i64 3, .int .u64 0, .int .u64 0, .int .u64 0, .int .u64 0, .int .i64 x, .int .i64 0] 184)))
  go_enter Tryz.func224, Tryz.ntmps224
  go_wp2
  go_ret
  exact ⟨_, rfl, HA.out.1, HA.out.2⟩

/-- A set of bytes as a value. -/
abbrev sv (s : Nat → Nat) : Value := .agg #[.int .u64 (s 0 : Int), .int .u64 (s 1 : Int), .int .u64 (s 2 : Int), .int .u64 (s 3 : Int)]
set_option maxRecDepth 100000 in
theorem char_any (s : Nat → Nat) {w : World} : Calls Tryz.prog 237 #[sv s] w fun e w' => ∃ v, e = .returned v ∧ LsAt w' v [charI s] ∧ Below w.heap.size w w' := by
  have HA := hide (And.intro (one_at (w := (w.alloc (.cells #[.int .u64 (s 0 : Int), .int .u64 (s 1 : Int), .int .u64 (s 2 : Int), .int .u64 (s 3 : Int)] 215)).alloc (.cells #[.int .i64 1, .int .u64 (s 0 : Int), .int .u64 (s 1 : Int), .int .u64 (s 2 : Int), .int .u64 (s 3 : Int), .int .i64 0, .int .i64 0] 184)) (g := w.heap.size + 1) (i := charI s) (by have h9 := heap_alloc_last (w.alloc (.cells #[.int .u64 (s 0 : Int), .int .u64 (s 1 : Int), .int .u64 (s 2 : Int), .int .u64 (s 3 : Int)] 215)) (.cells #[.int .i64 1, .int .u64 (s 0 : Int), .int .u64 (s 1 : Int), .int .u64 (s 2 : Int), .int .u64 (s 3 : Int), .int .i64 0, .int .i64 0] 184); simpa [charI] using h9)) (Below.chain (alloc_below w (.cells #[.int .u64 (s 0 : Int), .int .u64 (s 1 : Int), .int .u64 (s 2 : Int), .int .u64 (s 3 : Int)] 215)) (alloc_below _ (.cells #[.int .i64 1, .int .u64 (s 0 : Int), .int .u64 (s 1 : Int), .int .u64 (s 2 : Int), .int .u64 (s 3 : Int), .int .i64 0, .int .i64 0] 184))))
  go_enter Tryz.func237, Tryz.ntmps237
  go_wp2
  go_ret
  exact ⟨_, rfl, HA.out.1, HA.out.2⟩

/-- Slices of steps. -/
inductive Lss (w : World) : List Value → List (List In) → Prop
  | nil : Lss w [] []
  | cons {v : Value} {l : List In} {vs : List Value} {ls : List (List In)} : LsAt w v l → Lss w vs ls → Lss w (v :: vs) (l :: ls)
theorem Lss.ext {W w : World} {vs : List Value} {ls : List (List In)} (h : Lss W vs ls) (he : Below W.heap.size W w) : Lss w vs ls := by
  induction h with
  | nil => exact .nil
  | cons h1 _ ih => exact .cons (h1.ext he) ih
theorem Lss.len {w : World} {vs : List Value} {ls : List (List In)} (h : Lss w vs ls) : vs.length = ls.length := by
  induction h with
  | nil => rfl
  | cons _ _ ih => simp [ih]
theorem Lss.at {w : World} {vs : List Value} {ls : List (List In)} (h : Lss w vs ls) : ∀ k, k < vs.length → ∃ v l, vs[k]? = some v ∧ ls[k]? = some l ∧ LsAt w v l := by
  induction h with
  | nil => intro k hk; simp at hk
  | cons h1 _ ih =>
    intro k hk
    cases k with
    | zero => exact ⟨_, _, rfl, rfl, h1⟩
    | succ k => exact ih k (by simp at hk; omega)
theorem take_flat {ls : List (List In)} {k : Nat} {l : List In} (h : ls[k]? = some l) : (ls.take (k + 1)).flatten = (ls.take k).flatten ++ l := by
  rw [List.take_add_one, h, List.flatten_append]
  simp
theorem take_flat_len (ls : List (List In)) (k : Nat) : (ls.take k).flatten.length ≤ ls.flatten.length := by
  have h := congrArg (fun l => l.flatten.length) (List.take_append_drop k ls)
  simp only [List.flatten_append, List.length_append] at h
  omega
set_option maxRecDepth 100000 in
set_option maxHeartbeats 1000000 in
theorem row_any {w : World} {b : Nat} {vs : List Value} {ls : List (List In)} (hb : w.heap[b]? = some (.cells vs.toArray 173 (0, 0))) (hv : Lss w vs ls) (hn : vs.length ≤ 100) (hl : ls.flatten.length ≤ 1000000) : Calls Tryz.prog 209 #[.slice (some ⟨b, 0, none⟩) vs.length vs.length] w fun e w' => ∃ v, e = .returned v ∧ Ro w' w.heap.size v ls.flatten ∧ Below w.heap.size w w' := by
  have H0 := hide (And.intro hb (And.intro hv (And.intro hl hn)))
  have hblt : b < w.heap.size := (Array.getElem?_eq_some_iff.1 hb).1
  clear hb hv hl
  obtain ⟨n, en⟩ : ∃ n, vs.length = n := ⟨_, rfl⟩
  have HE := hide en
  rw [en] at hn ⊢
  clear en
  go_enter Tryz.func209, Tryz.ntmps209
  go_wp2
  go_loopw [3, 8] (fun s3 s8 wr => ∃ (k : Nat) (A : List In), k ≤ n ∧ s8 = .int .i64 (k : Int) ∧ Hid (A = (ls.take k).flatten) ∧ Ro wr w.heap.size s3 A ∧ Below w.heap.size w wr) (fun _ i _ => n - (intOf i).toNat)
  case atStart => exact ⟨0, [], Nat.zero_le _, rfl, hide rfl, Ro.nil _ _, Below.refl _ _⟩
  case round =>
    obtain ⟨k, A, hk, rfl, EA, hR, hB⟩ := hrel
    have HA := hide (And.intro hR hB)
    clear hR hB
    by_cases hlt : k < n
    · obtain ⟨v, l, e1, e2, hvl⟩ := H0.out.2.1.at k (by rw [HE.out]; exact hlt)
      have hr := Below.heap HA.out.2 hblt H0.out.1
      have hcell : wr.cell? ⟨b, k, none⟩ = some v := by rw [cell_of_row _ _ _ _ _ _ hr]; simpa using e1
      have HL := hide (And.intro e2 (hvl.ext HA.out.2))
      clear e1 e2 hvl hr
      have hd : decide ((k : Int) < (n : Int)) = true := decide_eq_true (by omega)
      go_wp2_with (at_builtin; refine wpList_append_cs appI rfl (.tmp 12) (.tmp 13) rfl (base := w.heap.size) HA.out.1 HL.out.2.1 ?c1 ?c2 HA.out.2.size ?_)
      case c1 =>
        have h1 := take_flat_len ls (k + 1)
        rw [take_flat HL.out.1, List.length_append, ← EA.out] at h1
        have := H0.out.2.2.1
        omega
      case c2 =>
        have h1 := take_flat_len ls (k + 1)
        rw [take_flat HL.out.1, List.length_append, ← EA.out] at h1
        have := H0.out.2.2.1
        omega
      intro v2 w2 h2 hg
      have HN := hide (And.intro (show Ro w2 w.heap.size v2 (A ++ l) by unfold Ro; rw [ics_app, List.length_append]; exact h2) (HA.out.2.grown hg HA.out.2.size (row_blk HA.out.1)))
      clear h2 hg
      go_wp2
      go_roundw
      case rel => exact ⟨k + 1, A ++ l, by omega, by go_num, hide (by rw [take_flat HL.out.1, ← EA.out]), HN.out.1, HN.out.2⟩
      case measure => simp [intOf]; omega
    · obtain rfl : k = n := by omega
      obtain rfl : A = ls.flatten := by have h1 := EA.out; rw [List.take_of_length_le (by rw [← H0.out.2.1.len, HE.out]; exact Nat.le_refl _)] at h1; exact h1
      go_wp2
      go_ret
      exact ⟨_, rfl, HA.out.1, HA.out.2⟩

end Go.Proofs.YteiacgpaocnofaaGreat.Rg
/- Steps of what is repeated, of what is one or the other; steps placed: the program's calls. -/
namespace Go.Proofs.YteiacgpaocnofaaGreat.Rg
set_option maxRecDepth 100000
open Go.RowKit
theorem Ex {w w' : World} {v : Value} {l : List In} (B : Hid (Below w.heap.size w w')) (h : Hid (LsAt w v l)) : LsAt w' v l := h.out.ext B.out
theorem En {w w' : World} {ao : Option Addr} {n c : Nat} {l : List In} (B : Hid (Below w.heap.size w w')) (h : Hid (LsAt w (.slice ao l.length c) l)) (e : Hid (l.length = n)) : LsAt w' (.slice ao n c) l := by rw [← e.out]; exact h.out.ext B.out
set_option maxRecDepth 100000 in
set_option maxHeartbeats 1000000 in
theorem star_any {w : World} {va : Value} {a : List In} (ha : LsAt w va a) (hla : a.length ≤ 1000) : Calls Tryz.prog 233 #[va] w fun e w' => ∃ v, e = .returned v ∧ LsAt w' v (starL a) ∧ Below w.heap.size w w' := by
  obtain ⟨oa, ca, rfl, _, _⟩ := ha.len
  obtain ⟨na, ena⟩ : ∃ n, a.length = n := ⟨_, rfl⟩
  have hna : (na : Int) ≤ 1000 := by omega
  have HLa := hide hla
  have HNa := hide ena
  rw [ena]
  clear ena hla
  have Qa := hide ha
  clear ha
  go_enter Tryz.func233, Tryz.ntmps233
  go_wp2_with fail
  refine (split_any 1 ((na : Int) + 2)).mono ?_
  rintro e_ w1 ⟨_, rfl, hx_, b_⟩
  obtain ⟨op, cp, rfl, _, _⟩ := hx_.len
  replace Qa := hide (Qa.out.ext b_)
  have Qp := hide hx_
  have B := hide b_
  clear hx_ b_
  go_wp2_with fail
  refine (jump_any (-(na : Int) - 1)).mono ?_
  rintro e_ w2 ⟨_, rfl, hx_, b_⟩
  obtain ⟨oq, cq, rfl, _, _⟩ := hx_.len
  replace Qa := hide (Qa.out.ext b_)
  replace Qp := hide (Qp.out.ext b_)
  have Qq := hide hx_
  replace B := hide (Below.chain B.out b_)
  clear hx_ b_
  go_wp2_with fail
  have BA := hide (alloc_below w2 (.cells #[.slice op 1 cp, .slice oa na ca, .slice oq 1 cq] 173))
  refine (row_any (ls := [[splitI 1 ((na : Int) + 2)], a, [jumpI (-(na : Int) - 1)]]) (heap_alloc_last w2 (.cells #[.slice op 1 cp, .slice oa na ca, .slice oq 1 cq] 173)) (.cons (Ex BA Qp) (.cons (En BA Qa HNa) (.cons (Ex BA Qq) (.nil)))) (by simp) ?cl).mono ?_
  case cl => simp; have := HLa.out; omega
  rintro e_ wz ⟨_, rfl, hz, bz⟩
  have HZ := hide (And.intro hz.at (Below.chain B.out (Below.chain BA.out bz)))
  clear hz bz
  go_wp2
  go_ret
  refine ⟨_, rfl, ?_, HZ.out.2⟩
  have h9 := HZ.out.1
  rw [show ([[splitI 1 ((na : Int) + 2)], a, [jumpI (-(na : Int) - 1)]] : List (List In)).flatten = starL a by simp [starL, HNa.out]] at h9
  exact h9

set_option maxRecDepth 100000 in
set_option maxHeartbeats 1000000 in
theorem plus_any {w : World} {va : Value} {a : List In} (ha : LsAt w va a) (hla : a.length ≤ 1000) : Calls Tryz.prog 234 #[va] w fun e w' => ∃ v, e = .returned v ∧ LsAt w' v (plusL a) ∧ Below w.heap.size w w' := by
  obtain ⟨oa, ca, rfl, _, _⟩ := ha.len
  obtain ⟨na, ena⟩ : ∃ n, a.length = n := ⟨_, rfl⟩
  have hna : (na : Int) ≤ 1000 := by omega
  have HLa := hide hla
  have HNa := hide ena
  rw [ena]
  clear ena hla
  have Qa := hide ha
  clear ha
  go_enter Tryz.func234, Tryz.ntmps234
  go_wp2_with fail
  refine (split_any (-(na : Int)) 1).mono ?_
  rintro e_ w1 ⟨_, rfl, hx_, b_⟩
  obtain ⟨op, cp, rfl, _, _⟩ := hx_.len
  replace Qa := hide (Qa.out.ext b_)
  have Qp := hide hx_
  have B := hide b_
  clear hx_ b_
  go_wp2_with fail
  have BA := hide (alloc_below w1 (.cells #[.slice oa na ca, .slice op 1 cp] 173))
  refine (row_any (ls := [a, [splitI (-(na : Int)) 1]]) (heap_alloc_last w1 (.cells #[.slice oa na ca, .slice op 1 cp] 173)) (.cons (En BA Qa HNa) (.cons (Ex BA Qp) (.nil))) (by simp) ?cl).mono ?_
  case cl => simp; have := HLa.out; omega
  rintro e_ wz ⟨_, rfl, hz, bz⟩
  have HZ := hide (And.intro hz.at (Below.chain B.out (Below.chain BA.out bz)))
  clear hz bz
  go_wp2
  go_ret
  refine ⟨_, rfl, ?_, HZ.out.2⟩
  have h9 := HZ.out.1
  rw [show ([a, [splitI (-(na : Int)) 1]] : List (List In)).flatten = plusL a by simp [plusL, HNa.out]] at h9
  exact h9

set_option maxRecDepth 100000 in
set_option maxHeartbeats 1000000 in
theorem option_any {w : World} {va : Value} {a : List In} (ha : LsAt w va a) (hla : a.length ≤ 1000) : Calls Tryz.prog 235 #[va] w fun e w' => ∃ v, e = .returned v ∧ LsAt w' v (optL a) ∧ Below w.heap.size w w' := by
  obtain ⟨oa, ca, rfl, _, _⟩ := ha.len
  obtain ⟨na, ena⟩ : ∃ n, a.length = n := ⟨_, rfl⟩
  have hna : (na : Int) ≤ 1000 := by omega
  have HLa := hide hla
  have HNa := hide ena
  rw [ena]
  clear ena hla
  have Qa := hide ha
  clear ha
  go_enter Tryz.func235, Tryz.ntmps235
  go_wp2_with fail
  refine (split_any 1 ((na : Int) + 1)).mono ?_
  rintro e_ w1 ⟨_, rfl, hx_, b_⟩
  obtain ⟨op, cp, rfl, _, _⟩ := hx_.len
  replace Qa := hide (Qa.out.ext b_)
  have Qp := hide hx_
  have B := hide b_
  clear hx_ b_
  go_wp2_with fail
  have BA := hide (alloc_below w1 (.cells #[.slice op 1 cp, .slice oa na ca] 173))
  refine (row_any (ls := [[splitI 1 ((na : Int) + 1)], a]) (heap_alloc_last w1 (.cells #[.slice op 1 cp, .slice oa na ca] 173)) (.cons (Ex BA Qp) (.cons (En BA Qa HNa) (.nil))) (by simp) ?cl).mono ?_
  case cl => simp; have := HLa.out; omega
  rintro e_ wz ⟨_, rfl, hz, bz⟩
  have HZ := hide (And.intro hz.at (Below.chain B.out (Below.chain BA.out bz)))
  clear hz bz
  go_wp2
  go_ret
  refine ⟨_, rfl, ?_, HZ.out.2⟩
  have h9 := HZ.out.1
  rw [show ([[splitI 1 ((na : Int) + 1)], a] : List (List In)).flatten = optL a by simp [optL, HNa.out]] at h9
  exact h9

set_option maxRecDepth 100000 in
set_option maxHeartbeats 1000000 in
theorem either_any {w : World} {va : Value} {a : List In} (ha : LsAt w va a) (hla : a.length ≤ 1000) {vb : Value} {b : List In} (hb : LsAt w vb b) (hlb : b.length ≤ 1000) : Calls Tryz.prog 219 #[va, vb] w fun e w' => ∃ v, e = .returned v ∧ LsAt w' v (eitherL a b) ∧ Below w.heap.size w w' := by
  obtain ⟨oa, ca, rfl, _, _⟩ := ha.len
  obtain ⟨ob, cb, rfl, _, _⟩ := hb.len
  obtain ⟨na, ena⟩ : ∃ n, a.length = n := ⟨_, rfl⟩
  have hna : (na : Int) ≤ 1000 := by omega
  have HLa := hide hla
  have HNa := hide ena
  rw [ena]
  clear ena hla
  obtain ⟨nb, enb⟩ : ∃ n, b.length = n := ⟨_, rfl⟩
  have hnb : (nb : Int) ≤ 1000 := by omega
  have HLb := hide hlb
  have HNb := hide enb
  rw [enb]
  clear enb hlb
  have Qa := hide ha
  clear ha
  have Qb := hide hb
  clear hb
  go_enter Tryz.func219, Tryz.ntmps219
  go_wp2_with fail
  refine (split_any 1 ((na : Int) + 2)).mono ?_
  rintro e_ w1 ⟨_, rfl, hx_, b_⟩
  obtain ⟨op, cp, rfl, _, _⟩ := hx_.len
  replace Qa := hide (Qa.out.ext b_)
  replace Qb := hide (Qb.out.ext b_)
  have Qp := hide hx_
  have B := hide b_
  clear hx_ b_
  go_wp2_with fail
  refine (jump_any ((nb : Int) + 1)).mono ?_
  rintro e_ w2 ⟨_, rfl, hx_, b_⟩
  obtain ⟨oq, cq, rfl, _, _⟩ := hx_.len
  replace Qa := hide (Qa.out.ext b_)
  replace Qb := hide (Qb.out.ext b_)
  replace Qp := hide (Qp.out.ext b_)
  have Qq := hide hx_
  replace B := hide (Below.chain B.out b_)
  clear hx_ b_
  go_wp2_with fail
  have BA := hide (alloc_below w2 (.cells #[.slice op 1 cp, .slice oa na ca, .slice oq 1 cq, .slice ob nb cb] 173))
  refine (row_any (ls := [[splitI 1 ((na : Int) + 2)], a, [jumpI ((nb : Int) + 1)], b]) (heap_alloc_last w2 (.cells #[.slice op 1 cp, .slice oa na ca, .slice oq 1 cq, .slice ob nb cb] 173)) (.cons (Ex BA Qp) (.cons (En BA Qa HNa) (.cons (Ex BA Qq) (.cons (En BA Qb HNb) (.nil))))) (by simp) ?cl).mono ?_
  case cl => simp; have := HLa.out; have := HLb.out; omega
  rintro e_ wz ⟨_, rfl, hz, bz⟩
  have HZ := hide (And.intro hz.at (Below.chain B.out (Below.chain BA.out bz)))
  clear hz bz
  go_wp2
  go_ret
  refine ⟨_, rfl, ?_, HZ.out.2⟩
  have h9 := HZ.out.1
  rw [show ([[splitI 1 ((na : Int) + 2)], a, [jumpI ((nb : Int) + 1)], b] : List (List In)).flatten = eitherL a b by simp [eitherL, HNa.out, HNb.out]] at h9
  exact h9

end Go.Proofs.YteiacgpaocnofaaGreat.Rg
/- Steps placed: the program's call. -/
namespace Go.Proofs.YteiacgpaocnofaaGreat.Rg
set_option maxRecDepth 100000
open Go.RowKit
theorem row_set {w : World} {base e size g cap n : Nat} {xs : List Value} (h : w.ownsRow base e size (.slice (some ⟨g, 0, none⟩) n cap) n xs) (j : Nat) (u : Value) : (w.setCell ⟨g, j, none⟩ u).ownsRow base e size (.slice (some ⟨g, 0, none⟩) n cap) n (xs.set j u) := by
  obtain ⟨h1, h2⟩ := h
  refine ⟨by rw [List.length_set]; exact h1, .inr ?_⟩
  rcases h2 with ⟨h2, _⟩ | ⟨g', cap', cur, hv, hb, hr, hn, hm, hs, ht⟩
  · cases h2
  · injection hv with e1 e2 e3
    injection e1 with e1
    injection e1 with e1
    subst e1 e3
    refine ⟨g, cap, cur.set! j u, rfl, hb, ?_, hn, hm, by simpa using hs, ?_⟩
    · rw [heap_setCell_same _ _ _ _ _ _ hr]
      simp
    · rw [← ht]
      simp only [Array.set!_eq_setIfInBounds, Array.toList_setIfInBounds, List.take_set]
theorem ics_set5 (l : List In) : ∀ (j : Nat) (i : In) (x : Int), l[j]? = some i → (ics l).set (j * 7 + 5) (.int .i64 x) = ics (l.set j ⟨i.k, i.s, x, i.y⟩) := by
  induction l with
  | nil => intro j i x h; simp at h
  | cons a l ih =>
    intro j i x h
    have h7 : (ic a).length = 7 := rfl
    cases j with
    | zero =>
      simp at h; subst h
      rfl
    | succ j =>
      simp only [List.getElem?_cons_succ] at h
      simp only [ics, List.set_cons_succ]
      rw [List.set_append_right _ _ (by rw [h7]; omega), h7, show (j + 1) * 7 + 5 - 7 = j * 7 + 5 by omega, ih j i x h]
theorem ics_set6 (l : List In) : ∀ (j : Nat) (i : In) (y : Int), l[j]? = some i → (ics l).set (j * 7 + 6) (.int .i64 y) = ics (l.set j ⟨i.k, i.s, i.x, y⟩) := by
  induction l with
  | nil => intro j i x h; simp at h
  | cons a l ih =>
    intro j i x h
    have h7 : (ic a).length = 7 := rfl
    cases j with
    | zero =>
      simp at h; subst h
      rfl
    | succ j =>
      simp only [List.getElem?_cons_succ] at h
      simp only [ics, List.set_cons_succ]
      rw [List.set_append_right _ _ (by rw [h7]; omega), h7, show (j + 1) * 7 + 6 - 7 = j * 7 + 6 by omega, ih j i x h]
theorem Ro.set5 {w : World} {base g cap : Nat} {l : List In} (h : Ro w base (.slice (some ⟨g, 0, none⟩) l.length cap) l) {j : Nat} {i : In} (hj : l[j]? = some i) (x : Int) : Ro (w.setCell ⟨g, j * 7 + 5, none⟩ (.int .i64 x)) base (.slice (some ⟨g, 0, none⟩) l.length cap) (l.set j ⟨i.k, i.s, x, i.y⟩) := by
  have h1 := row_set h (j * 7 + 5) (.int .i64 x)
  unfold Ro
  rw [List.length_set, ← ics_set5 l j i x hj]
  exact h1
theorem Ro.set6 {w : World} {base g cap : Nat} {l : List In} (h : Ro w base (.slice (some ⟨g, 0, none⟩) l.length cap) l) {j : Nat} {i : In} (hj : l[j]? = some i) (y : Int) : Ro (w.setCell ⟨g, j * 7 + 6, none⟩ (.int .i64 y)) base (.slice (some ⟨g, 0, none⟩) l.length cap) (l.set j ⟨i.k, i.s, i.x, y⟩) := by
  have h1 := row_set h (j * 7 + 6) (.int .i64 y)
  unfold Ro
  rw [List.length_set, ← ics_set6 l j i y hj]
  exact h1
theorem Ro.reads {w : World} {base g cap n : Nat} {l : List In} (h : Ro w base (.slice (some ⟨g, 0, none⟩) n cap) l) : base ≤ g ∧ g < w.heap.size ∧ (∀ j, w.frozen? ⟨g, j, none⟩ = false) ∧ ∀ (j : Nat) (i : In), l[j]? = some i → w.cell? ⟨g, j * 7, none⟩ = some (.int .i64 i.k) ∧ w.cell? ⟨g, j * 7 + 5, none⟩ = some (.int .i64 i.x) ∧ w.cell? ⟨g, j * 7 + 6, none⟩ = some (.int .i64 i.y) := by
  have hc := h.at
  obtain ⟨h1, h2⟩ := h
  rcases h2 with ⟨h2, _⟩ | ⟨g', cap', cur, hv, hb, hr, hn, hm, hs, ht⟩
  · cases h2
  · injection hv with e1 e2 e3
    injection e1 with e1
    injection e1 with e1
    subst e1 e3
    refine ⟨hb, (Array.getElem?_eq_some_iff.1 hr).1, (row_reads hr).2, fun j i hj => ?_⟩
    have hlt := (List.getElem?_eq_some_iff.1 hj).1
    have hx : ∀ q, q < 7 → w.cell? ⟨g, j * 7 + q, none⟩ = (ic i)[q]? := fun q hq => by
      rw [cell_of_row _ _ _ _ _ _ hr, ← ics_at l j q i hj hq, ← ht, List.getElem?_take, if_pos (by omega)]
      simp
    exact ⟨hx 0 (by omega), hx 5 (by omega), hx 6 (by omega)⟩
/-- So many steps placed. -/
def Pl (l m : List In) (k : Nat) : Prop := m.length = l.length ∧ ∀ j, m[j]? = if j < k then l[j]?.map (plI j) else l[j]?
theorem Pl.zero (l : List In) : Pl l l 0 := ⟨rfl, fun j => by simp⟩
theorem Pl.step {l m : List In} {k : Nat} {i : In} (h : Pl l m k) (hi : l[k]? = some i) : Pl l (m.set k (plI k i)) (k + 1) := by
  refine ⟨by rw [List.length_set]; exact h.1, fun j => ?_⟩
  have hlt := (List.getElem?_eq_some_iff.1 hi).1
  rw [List.getElem?_set]
  by_cases hj : k = j
  · subst hj
    rw [if_pos rfl, if_pos (by rw [h.1]; exact hlt), if_pos (by omega), hi]
    rfl
  · rw [if_neg hj, h.2 j]
    by_cases h2 : j < k
    · rw [if_pos h2, if_pos (by omega)]
    · rw [if_neg h2, if_neg (by omega)]
theorem Pl.same {l m : List In} {k : Nat} {i : In} (h : Pl l m k) (hi : l[k]? = some i) (hp : plI k i = i) : Pl l m (k + 1) := by
  refine ⟨h.1, fun j => ?_⟩
  rw [h.2 j]
  by_cases hj : j = k
  · subst hj
    rw [if_neg (by omega), if_pos (by omega), hi, Option.map_some, hp]
  · by_cases h2 : j < k
    · rw [if_pos h2, if_pos (by omega)]
    · rw [if_neg h2, if_neg (by omega)]
theorem Pl.all {l m : List In} (h : Pl l m l.length) : m = plF 0 l := by
  apply List.ext_getElem?
  intro j
  rw [plF_at, h.2 j, Nat.zero_add]
  by_cases h2 : j < l.length
  · rw [if_pos h2]
  · rw [if_neg h2, List.getElem?_eq_none (by omega)]; rfl
theorem Pl.at {l m : List In} {k : Nat} (h : Pl l m k) (hk : k < l.length) : ∃ i, l[k]? = some i ∧ m[k]? = some i := by
  refine ⟨l[k], List.getElem?_eq_getElem hk, ?_⟩
  rw [h.2 k, if_neg (by omega), List.getElem?_eq_getElem hk]
set_option maxRecDepth 100000 in
set_option maxHeartbeats 2000000 in
theorem place_any {w : World} {base : Nat} {v : Value} {l : List In} (h : Ro w base v l) (hne : l ≠ []) (hl : l.length ≤ 1000) : Calls Tryz.prog 208 #[v] w fun e w' => e = .returned v ∧ Ro w' base v (plF 0 l) ∧ Below base w w' := by
  obtain ⟨g, cap, rfl⟩ : ∃ g cap, v = .slice (some ⟨g, 0, none⟩) l.length cap := by
    rcases h.2 with ⟨_, h2⟩ | ⟨g, cap, _, hv, _⟩
    · exact absurd (List.eq_nil_of_length_eq_zero h2) hne
    · exact ⟨g, cap, hv⟩
  have hc : l.length ≤ cap := by
    obtain ⟨_, _, h3, h4, _⟩ := h.at.len
    injection h3 with _ _ h3
    omega
  have H0 := hide h
  clear h hne
  obtain ⟨n, en⟩ : ∃ n, l.length = n := ⟨_, rfl⟩
  rw [en] at hl hc H0 ⊢
  have HE := hide en
  clear en
  go_enter Tryz.func208, Tryz.ntmps208
  go_wp2
  go_loopw [6] (fun s6 wr => ∃ (k : Nat) (m : List In), k ≤ n ∧ s6 = .int .i64 (k : Int) ∧ Hid (Pl l m k) ∧ Ro wr base (.slice (some ⟨g, 0, none⟩) n cap) m ∧ Below base w wr) (fun i _ => n - (intOf i).toNat)
  case atStart => exact ⟨0, l, Nat.zero_le _, rfl, Pl.zero l, H0.out, Below.refl _ _⟩
  case round =>
    obtain ⟨k, m, hk, rfl, HP, hR, hB⟩ := hrel
    have HR := hide hR
    have HB := hide hB
    have HM := hide (show m.length = n from HP.out.1.trans HE.out)
    clear hR hB
    by_cases hlt : k < n
    · obtain ⟨i, hi1, hi2⟩ := HP.out.at (by rw [HE.out]; exact hlt)
      have HI := hide (And.intro hi1 hi2)
      clear hi1 hi2
      have hd : decide ((k : Int) < (n : Int)) = true := decide_eq_true (by omega)
      obtain ⟨gb, gl, gf, gr⟩ := HR.out.reads
      obtain ⟨r0, r5, r6⟩ := gr k _ HI.out.2
      have f5 := gf (k * 7 + 5)
      have f6 := gf (k * 7 + 6)
      clear gf gr
      by_cases h2 : i.k = 2
      · have e2 : (i.k == (2 : Int)) = true := beq_iff_eq.2 h2
        have HS : Hid (Ro ((wr.setCell ⟨g, k * 7 + 5, none⟩ (.int .i64 (wrap64 (i.x + (k : Int))))).setCell ⟨g, k * 7 + 6, none⟩ (.int .i64 (wrap64 (i.y + (k : Int))))) base (.slice (some ⟨g, 0, none⟩) n cap) (m.set k (plI k i)) ∧ Below base w ((wr.setCell ⟨g, k * 7 + 5, none⟩ (.int .i64 (wrap64 (i.x + (k : Int))))).setCell ⟨g, k * 7 + 6, none⟩ (.int .i64 (wrap64 (i.y + (k : Int)))))) := by
          have q1 := HR.out
          rw [← HM.out] at q1
          have q2 := q1.set5 HI.out.2 (wrap64 (i.x + (k : Int)))
          have hlk : k < m.length := by rw [HM.out]; exact hlt
          have hlen : m.length = (m.set k ⟨i.k, i.s, wrap64 (i.x + (k : Int)), i.y⟩).length := by rw [List.length_set]
          rw [hlen] at q2
          have q3 := q2.set6 (j := k) (i := ⟨i.k, i.s, wrap64 (i.x + (k : Int)), i.y⟩) (by rw [List.getElem?_set_self hlk]) (wrap64 (i.y + (k : Int)))
          rw [List.set_set, List.length_set, HM.out] at q3
          refine ⟨?_, (HB.out.setCell gb _).setCell gb _⟩
          rw [show plI k i = ⟨i.k, i.s, wrap64 (i.x + (k : Int)), wrap64 (i.y + (k : Int))⟩ by unfold plI; rw [if_pos h2]]
          exact q3
        go_wp2
        go_roundw
        case rel => exact ⟨k + 1, _, by omega, by go_num, HP.out.step HI.out.1, HS.out.1, HS.out.2⟩
        case measure => simp [intOf]; omega
      · have e2 : (i.k == (2 : Int)) = false := beq_eq_false_iff_ne.2 h2
        by_cases h3 : i.k = 3
        · have e3 : (i.k == (3 : Int)) = true := beq_iff_eq.2 h3
          have HS : Hid (Ro (wr.setCell ⟨g, k * 7 + 5, none⟩ (.int .i64 (wrap64 (i.x + (k : Int))))) base (.slice (some ⟨g, 0, none⟩) n cap) (m.set k (plI k i)) ∧ Below base w (wr.setCell ⟨g, k * 7 + 5, none⟩ (.int .i64 (wrap64 (i.x + (k : Int)))))) := by
            have q1 := HR.out
            rw [← HM.out] at q1
            have q2 := q1.set5 HI.out.2 (wrap64 (i.x + (k : Int)))
            rw [HM.out] at q2
            refine ⟨?_, HB.out.setCell gb _⟩
            rw [show plI k i = ⟨i.k, i.s, wrap64 (i.x + (k : Int)), i.y⟩ by unfold plI; rw [if_neg h2, if_pos h3]]
            exact q2
          go_wp2
          go_roundw
          case rel => exact ⟨k + 1, _, by omega, by go_num, HP.out.step HI.out.1, HS.out.1, HS.out.2⟩
          case measure => simp [intOf]; omega
        · have e3 : (i.k == (3 : Int)) = false := beq_eq_false_iff_ne.2 h3
          have HS := hide (HP.out.same HI.out.1 (show plI k i = i by unfold plI; rw [if_neg h2, if_neg h3]))
          go_wp2
          go_roundw
          case rel => exact ⟨k + 1, m, by omega, by go_num, HS, HR.out, HB.out⟩
          case measure => simp [intOf]; omega
    · obtain rfl : k = n := by omega
      have HF := hide (show Ro wr base (.slice (some ⟨g, 0, none⟩) k cap) (plF 0 l) by
        obtain rfl : m = plF 0 l := Pl.all (by rw [HE.out]; exact HP.out)
        exact HR.out)
      go_wp2
      go_ret
      exact ⟨rfl, HF.out, HB.out⟩

end Go.Proofs.YteiacgpaocnofaaGreat.Rg
/- Sets of bytes: bytes put in, turned about: the program's calls. -/
namespace Go.Proofs.YteiacgpaocnofaaGreat.Rg
set_option maxRecDepth 100000
open Go.RowKit
theorem put_lt {s : Nat → Nat} (h : ∀ j, s j < 18446744073709551616) (c : Nat) : ∀ j, putS s c j < 18446744073709551616 := by
  intro j
  unfold putS
  have h1 : (2 : Nat) ^ (c % 64) < 2 ^ 64 := Nat.pow_lt_pow_right (by decide) (Nat.mod_lt _ (by decide))
  split
  · exact Nat.or_lt_two_pow (n := 64) (h j) h1
  · exact h j
/-- A variable that holds a set of bytes. -/
def SAt (w : World) (m : Nat) (s : Nat → Nat) : Prop := (∀ j, s j < 18446744073709551616) ∧ w.heap[m]? = some (.cells #[.int .u64 (s 0 : Int), .int .u64 (s 1 : Int), .int .u64 (s 2 : Int), .int .u64 (s 3 : Int)] 215 (0, 0))
theorem SAt.reads {w : World} {m : Nat} {s : Nat → Nat} (h : SAt w m s) (j : Nat) (hj : j < 4) : w.cell? ⟨m, j, none⟩ = some (.int .u64 (s j : Int)) ∧ w.frozen? ⟨m, j, none⟩ = false := by
  obtain ⟨x0, y0⟩ := row_reads h.2
  refine ⟨?_, y0 j⟩
  rw [x0 j]
  obtain rfl | rfl | rfl | rfl : j = 0 ∨ j = 1 ∨ j = 2 ∨ j = 3 := by omega
  all_goals rfl
theorem SAt.put {w : World} {m : Nat} {s : Nat → Nat} (h : SAt w m s) (c : Nat) (hj : c / 64 < 4) : SAt (w.setCell ⟨m, c / 64, none⟩ (.int .u64 ((s (c / 64) ||| 2 ^ (c % 64) : Nat) : Int))) m (putS s c) := by
  refine ⟨put_lt h.1 c, ?_⟩
  unfold putS
  rw [heap_setCell_same _ _ _ _ _ _ h.2]
  obtain h0 | h0 | h0 | h0 : c / 64 = 0 ∨ c / 64 = 1 ∨ c / 64 = 2 ∨ c / 64 = 3 := by omega
  all_goals (rw [h0]; rfl)
theorem SAt.gr {w w' : World} {m : Nat} {s : Nat → Nat} (h : SAt w m s) {g : Nat} (hg : w.grownBy w' (some g)) (hne : m ≠ g) : SAt w' m s := ⟨h.1, (hg.block m (Array.getElem?_eq_some_iff.1 h.2).1 (fun e => by injection e with e; exact hne e)).trans h.2⟩
theorem SAt.ext {w w' : World} {m : Nat} {s : Nat → Nat} (h : SAt w m s) (hb : Below w.heap.size w w') : SAt w' m s := ⟨h.1, Below.heap hb (Array.getElem?_eq_some_iff.1 h.2).1 h.2⟩
theorem SAt.lt {w : World} {m : Nat} {s : Nat → Nat} (h : SAt w m s) : m < w.heap.size := (Array.getElem?_eq_some_iff.1 h.2).1
theorem or_put (x q : Nat) (hx : x < 18446744073709551616) (hq : q < 64) : bits .or .u64 (x : Int) (IntKind.u64.wrap (2 ^ q)) = ((x ||| 2 ^ q : Nat) : Int) := by
  have h1 : (2 : Nat) ^ q < 2 ^ 64 := Nat.pow_lt_pow_right (by decide) hq
  have h2 : IntKind.u64.wrap (2 ^ q) = ((2 ^ q : Nat) : Int) := by
    rw [IntKind.wrap_u64, Int.emod_eq_of_lt (Int.pow_nonneg (by decide)) (by have h3 : ((2 ^ q : Nat) : Int) < ((2 ^ 64 : Nat) : Int) := Int.ofNat_lt.2 h1; simpa using h3)]
    simp
  rw [h2]
  exact bits_or_u64_nat _ _ hx h1
set_option maxRecDepth 100000 in
set_option maxHeartbeats 1000000 in
theorem add_any {w : World} {m lo hi : Nat} {s : Nat → Nat} (h : SAt w m s) (hlo : lo < 256) (hhi : hi < 256) : Calls Tryz.prog 240 #[.pointer (some ⟨m, 0, none⟩), .int .u8 (lo : Int), .int .u8 (hi : Int)] w fun e w' => e = .returned (.tuple #[]) ∧ SAt w' m (addS s lo hi) ∧ w.grownBy w' (some m) := by
  have H0 := hide h
  clear h
  go_enter Tryz.func240, Tryz.ntmps240
  go_wp2
  go_loopw [6] (fun s6 wr => ∃ (c : Nat) (u : Nat → Nat), c ≤ 256 ∧ s6 = .int .i64 (c : Int) ∧ Hid (SAt wr m u) ∧ Hid (w.grownBy wr (some m)) ∧ Hid (addN u c (hi + 1 - c) = addS s lo hi)) (fun i _ => 256 - (intOf i).toNat)
  case atStart => exact ⟨lo, s, by omega, rfl, H0, grown_refl _ _, rfl⟩
  case round =>
    obtain ⟨c, u, hc, rfl, HS, HG, HA⟩ := hrel
    by_cases hle : c ≤ hi
    · have hd : decide ((c : Int) ≤ (hi : Int)) = true := decide_eq_true (by omega)
      obtain ⟨n, hn⟩ : ∃ n, hi + 1 - c = n + 1 := ⟨hi - c, by omega⟩
      have HN := hide (show addN (putS u c) (c + 1) (hi + 1 - (c + 1)) = addS s lo hi by rw [← HA.out, hn, show hi + 1 - (c + 1) = n by omega]; rfl)
      have HP := hide (HS.out.put c (by omega))
      obtain ⟨r1, r2⟩ := HS.out.reads (c / 64) (by omega)
      have q1 : (c : Int).tdiv 64 = ((c / 64 : Nat) : Int) := by rw [Int.tdiv_eq_ediv_of_nonneg (by omega)]; omega
      have q2 : (c : Int).tmod 64 = ((c % 64 : Nat) : Int) := by rw [Int.tmod_eq_emod_of_nonneg (by omega)]; omega
      have q3 := or_put (u (c / 64)) (c % 64) (HS.out.1 _) (Nat.mod_lt _ (by decide))
      have hj : c / 64 < 4 := by omega
      have hq : c % 64 < 64 := Nat.mod_lt _ (by decide)
      clear hn
      generalize c / 64 = j at *
      generalize c % 64 = q at *
      go_wp2_with fail
      go_region
      have HW := hide (And.intro (HP.out.ext (drewN_below _ 1)) (grown_trans (grown_trans HG.out (grown_set wr m j (.int .u64 ((u j ||| 2 ^ q : Nat) : Int)))) (Ext.gr (drewN_below _ 1) _)))
      go_wp2
      go_roundw
      case rel => exact ⟨c + 1, _, by omega, by go_num, hide HW.out.1, hide HW.out.2, HN⟩
      case measure => simp [intOf]; omega
    · have hd : decide ((c : Int) ≤ (hi : Int)) = false := decide_eq_false (by omega)
      have HE := hide (show u = addS s lo hi by rw [← HA.out, show hi + 1 - c = 0 by omega]; rfl)
      go_wp2
      go_end0
      exact ⟨rfl, by rw [← HE.out]; exact HS.out, HG.out⟩

theorem oth_q (x : Nat) (hx : x < 18446744073709551616) : bits .xor .u64 (if IntKind.u64.signed = true then -1 else IntKind.u64.max) (x : Int) = ((2 ^ 64 - 1 - x : Nat) : Int) := by
  have h1 : (if IntKind.u64.signed = true then -1 else IntKind.u64.max) = ((18446744073709551615 : Nat) : Int) := by decide
  have h2 : (BitVec.allOnes 64 ^^^ BitVec.ofNat 64 x).toNat = 2 ^ 64 - 1 - x := by
    rw [BitVec.allOnes_xor, BitVec.toNat_not, BitVec.toNat_ofNat, Nat.mod_eq_of_lt (show x < 2 ^ 64 from hx)]
  rw [BitVec.toNat_xor, BitVec.toNat_ofNat, Nat.mod_eq_of_lt (show x < 2 ^ 64 from hx)] at h2
  rw [h1, bits_xor_u64_nat _ _ (by decide) hx, ← h2]
  rfl
theorem oth_lt (s : Nat → Nat) : ∀ j, othS s j < 18446744073709551616 := by intro j; unfold othS; omega
/-- So many words turned about. -/
def hth (s : Nat → Nat) (k : Nat) : Nat → Nat := fun j => if j < k then othS s j else s j
theorem SAt.oth {w : World} {m k : Nat} {s : Nat → Nat} (hs : ∀ j, s j < 18446744073709551616) (h : SAt w m (hth s k)) (hk : k < 4) : SAt (w.setCell ⟨m, k, none⟩ (.int .u64 ((2 ^ 64 - 1 - s k : Nat) : Int))) m (hth s (k + 1)) := by
  refine ⟨fun j => by unfold hth; split; exact oth_lt s j; exact hs j, ?_⟩
  rw [heap_setCell_same _ _ _ _ _ _ h.2]
  obtain rfl | rfl | rfl | rfl : k = 0 ∨ k = 1 ∨ k = 2 ∨ k = 3 := by omega
  all_goals rfl
theorem sizeB : (Tryz.prog.info? 215).map (·.size) = some 4 := by kernel_rfl
set_option maxRecDepth 100000 in
set_option maxHeartbeats 1000000 in
theorem others_any (s : Nat → Nat) (hs : ∀ j, s j < 18446744073709551616) {w : World} : Calls Tryz.prog 238 #[sv s] w fun e w' => e = .returned (sv (othS s)) ∧ Below w.heap.size w w' := by
  have H1 : Hid (SAt ((w.alloc (.cells #[.int .u64 (s 0 : Int), .int .u64 (s 1 : Int), .int .u64 (s 2 : Int), .int .u64 (s 3 : Int)] 215)).alloc (.cells #[.int .u64 0, .int .u64 0, .int .u64 0, .int .u64 0] 215)) w.heap.size (hth s 0)) := hide ⟨fun j => hs j, Below.heap (alloc_below (w.alloc (.cells #[.int .u64 (s 0 : Int), .int .u64 (s 1 : Int), .int .u64 (s 2 : Int), .int .u64 (s 3 : Int)] 215)) (.cells #[.int .u64 0, .int .u64 0, .int .u64 0, .int .u64 0] 215)) (by simp) (heap_alloc_last _ _)⟩
  have H2 : Hid (((w.alloc (.cells #[.int .u64 (s 0 : Int), .int .u64 (s 1 : Int), .int .u64 (s 2 : Int), .int .u64 (s 3 : Int)] 215)).alloc (.cells #[.int .u64 0, .int .u64 0, .int .u64 0, .int .u64 0] 215)).heap[w.heap.size + 1]? = some (.cells #[.int .u64 0, .int .u64 0, .int .u64 0, .int .u64 0] 215 (0, 0))) := hide (by have h9 := heap_alloc_last (w.alloc (.cells #[.int .u64 (s 0 : Int), .int .u64 (s 1 : Int), .int .u64 (s 2 : Int), .int .u64 (s 3 : Int)] 215)) (.cells #[.int .u64 0, .int .u64 0, .int .u64 0, .int .u64 0] 215); simpa using h9)
  have H3 := hide (Below.chain (alloc_below w (.cells #[.int .u64 (s 0 : Int), .int .u64 (s 1 : Int), .int .u64 (s 2 : Int), .int .u64 (s 3 : Int)] 215)) (alloc_below (w.alloc (.cells #[.int .u64 (s 0 : Int), .int .u64 (s 1 : Int), .int .u64 (s 2 : Int), .int .u64 (s 3 : Int)] 215)) (.cells #[.int .u64 0, .int .u64 0, .int .u64 0, .int .u64 0] 215)))
  go_enter Tryz.func238, Tryz.ntmps238
  go_wp2
  go_loopw [4] (fun s4 wr => ∃ k : Nat, k ≤ 4 ∧ s4 = .int .i64 (k : Int) ∧ Hid (SAt wr w.heap.size (hth s k)) ∧ Hid (wr.heap[w.heap.size + 1]? = some (.cells #[.int .u64 0, .int .u64 0, .int .u64 0, .int .u64 0] 215 (0, 0))) ∧ Hid (Below w.heap.size w wr)) (fun i _ => 4 - (intOf i).toNat)
  case atStart => exact ⟨0, by omega, rfl, H1, H2, H3⟩
  case round =>
    obtain ⟨k, hk, rfl, HS, HZ, HB⟩ := hrel
    by_cases hlt : k < 4
    · have hd : decide ((k : Int) < 4) = true := decide_eq_true (by omega)
      obtain ⟨r1, r2⟩ := HS.out.reads k hlt
      rw [show hth s k k = s k by unfold hth; rw [if_neg (Nat.lt_irrefl k)]] at r1
      have q3 := oth_q (s k) (hs k)
      have HP := hide (HS.out.oth hs hlt)
      have HZ2 := hide ((Below.heap_setCell wr ⟨w.heap.size, k, none⟩ (.int .u64 ((2 ^ 64 - 1 - s k : Nat) : Int)) (w.heap.size + 1) (by simp)).trans HZ.out)
      have HB2 := hide (HB.out.setCell (p := ⟨w.heap.size, k, none⟩) (Nat.le_refl _) (.int .u64 ((2 ^ 64 - 1 - s k : Nat) : Int)))
      generalize ((2 ^ 64 - 1 - s k : Nat) : Int) = x at *
      generalize (s k : Int) = y at *
      go_wp2
      go_roundw
      case rel => exact ⟨k + 1, by omega, by go_num, HP, HZ2, HB2⟩
      case measure => simp [intOf]; omega
    · obtain rfl : k = 4 := by omega
      have HR := hide (HS.out.2)
      go_wp2_with (first
        | (refine wpList_load_row rfl 215 (.tmp 1) rfl w.heap.size rfl 215 #[.int .u64 (othS s 0 : Int), .int .u64 (othS s 1 : Int), .int .u64 (othS s 2 : Int), .int .u64 (othS s 3 : Int)] (0, 0) (.array 4 107) HR.out Tryz.underlying215 rfl sizeB ?_)
        | (refine wpList_store_row rfl 215 (.tmp 2) (.tmp 14) rfl (w.heap.size + 1) #[.int .u64 (othS s 0 : Int), .int .u64 (othS s 1 : Int), .int .u64 (othS s 2 : Int), .int .u64 (othS s 3 : Int)] rfl rfl 215 #[.int .u64 0, .int .u64 0, .int .u64 0, .int .u64 0] HZ.out sizeB rfl (by simp [Value.oneCell']) ?_))
      go_wp2
      refine bodyPost_ret_by (results_cell_row rfl _ _ (w.heap.size + 1) 215 _ (0, 0) _ rfl (setRow_heap _ _ _ _ _ _ HZ.out) Tryz.underlying215 rfl sizeB) rfl ?_
      exact ⟨rfl, Below.setRow HB.out _ _ (by omega)⟩

end Go.Proofs.YteiacgpaocnofaaGreat.Rg
/- Atoms: the program's calls that read one. -/
namespace Go.Proofs.YteiacgpaocnofaaGreat.Rg
set_option maxRecDepth 100000
open Go.RowKit
/-- What a call that reads steps answers: the steps, the reader behind them; or none, and the error. -/
def Ans (w : World) (g : Nat) (s : ByteArray) (d : Nat) (R : Rd (List In)) (e : Ending) (w' : World) : Prop :=
  match R with
  | .ok a u => (∃ v, e = .returned (.tuple #[v, .int .i64 0]) ∧ LsAt w' v a ∧ PAt w' g s u d) ∧ w.grownBy w' (some g)
  | .bad n => (e = .returned (.tuple #[.slice none 0 0, .int .i64 (n : Int)]) ∧ (n = 3 ∨ n = 4)) ∧ w.grownBy w' (some g)
/-- The whole of a variable that holds a set, read. -/
theorem wpList_load_set {ops : Array Oper} {rest : List Oper} {o : Oper} {a : Act} {w : World} {Q : Exit → Act → World → Prop} (hgd : o.guard = none) (x : Operand) (ho : o.op = .load 215 x) {m : Nat} {s : Nat → Nat} (hx : a.eval x = .pointer (some ⟨m, 0, none⟩)) (h : SAt w m s)
    (hk : wpList Tryz.prog ops Q rest (a.put o.dst (sv s)) w) : wpList Tryz.prog ops Q (o :: rest) a w :=
  wpList_load_row hgd 215 x ho m hx 215 #[.int .u64 (s 0 : Int), .int .u64 (s 1 : Int), .int .u64 (s 2 : Int), .int .u64 (s 3 : Int)] (0, 0) (.array 4 107) h.2 Tryz.underlying215 rfl sizeB hk
theorem wpList_store_set {ops : Array Oper} {rest : List Oper} {o : Oper} {a : Act} {w : World} {Q : Exit → Act → World → Prop} (hgd : o.guard = none) (x y : Operand) (ho : o.op = .store 215 x y) {m : Nat} {s u : Nat → Nat} (hx : a.eval x = .pointer (some ⟨m, 0, none⟩)) (hy : a.eval y = sv u) (h : SAt w m s) (hu : ∀ j, u j < 18446744073709551616)
    (hk : ∀ w', SAt w' m u → w.grownBy w' (some m) → wpList Tryz.prog ops Q rest (a.put o.dst undef) w') : wpList Tryz.prog ops Q (o :: rest) a w :=
  wpList_store_row hgd 215 x y ho m #[.int .u64 (u 0 : Int), .int .u64 (u 1 : Int), .int .u64 (u 2 : Int), .int .u64 (u 3 : Int)] hx hy 215 #[.int .u64 (s 0 : Int), .int .u64 (s 1 : Int), .int .u64 (s 2 : Int), .int .u64 (s 3 : Int)] h.2 sizeB rfl (by simp [Value.oneCell'])
    (hk _ ⟨hu, setRow_heap _ _ _ _ _ _ h.2⟩ ⟨rfl, rfl, rfl, by simp, fun k _ hne => setRow_other w m k _ (fun e => hne (by rw [e]))⟩)
theorem zs_new (w : World) : SAt (w.alloc (.cells #[.int .u64 0, .int .u64 0, .int .u64 0, .int .u64 0] 215)) w.heap.size zs := ⟨fun _ => by unfold zs; decide, heap_alloc_last _ _⟩
theorem add_lt {s : Nat → Nat} (h : ∀ j, s j < 18446744073709551616) : ∀ (n c : Nat), ∀ j, addN s c n j < 18446744073709551616 := by
  intro n
  induction n generalizing s with
  | zero => intro c; exact h
  | succ n ih => intro c; exact ih (put_lt h c) _
set_option maxRecDepth 100000 in
set_option maxHeartbeats 1000000 in
theorem first_any {w : World} {g : Nat} {s : ByteArray} {t : List Nat} {d : Nat} (h : PAt w g s t d) : Calls Tryz.prog 229 #[.pointer (some ⟨g, 0, none⟩)] w (Ans w g s d (.ok [stepI 4] t)) := by
  have H0 := hide h
  clear h
  go_enter Tryz.func229, Tryz.ntmps229
  go_wp2_with fail
  refine (step_any 4).mono ?_
  rintro e_ w1 ⟨v, rfl, h1, b1⟩
  have H1 := hide (And.intro h1 b1)
  clear h1 b1
  go_wp2
  go_ret2
  exact ⟨⟨_, rfl, H1.out.1, H0.out.ext H1.out.2⟩, Ext.gr H1.out.2 _⟩

set_option maxRecDepth 100000 in
set_option maxHeartbeats 1000000 in
theorem last_any {w : World} {g : Nat} {s : ByteArray} {t : List Nat} {d : Nat} (h : PAt w g s t d) : Calls Tryz.prog 230 #[.pointer (some ⟨g, 0, none⟩)] w (Ans w g s d (.ok [stepI 5] t)) := by
  have H0 := hide h
  clear h
  go_enter Tryz.func230, Tryz.ntmps230
  go_wp2_with fail
  refine (step_any 5).mono ?_
  rintro e_ w1 ⟨v, rfl, h1, b1⟩
  have H1 := hide (And.intro h1 b1)
  clear h1 b1
  go_wp2
  go_ret2
  exact ⟨⟨_, rfl, H1.out.1, H0.out.ext H1.out.2⟩, Ext.gr H1.out.2 _⟩

set_option maxRecDepth 100000 in
theorem nothing_any {w : World} {g : Nat} {s : ByteArray} {d : Nat} : Calls Tryz.prog 231 #[.pointer (some ⟨g, 0, none⟩)] w (Ans w g s d (.bad 3)) := by
  go_enter Tryz.func231, Tryz.ntmps231
  go_wp2
  go_ret2
  exact ⟨⟨rfl, .inl rfl⟩, grown_refl _ _⟩

set_option maxRecDepth 100000 in
set_option maxHeartbeats 1000000 in
theorem any_any {w : World} {g : Nat} {s : ByteArray} {t : List Nat} {d : Nat} (h : PAt w g s t d) : Calls Tryz.prog 226 #[.pointer (some ⟨g, 0, none⟩)] w (Ans w g s d (.ok [charI (othS zs)] t)) := by
  have H0 := hide h
  clear h
  have HZ := hide (zs_new w)
  have HB := hide (alloc_below w (.cells #[.int .u64 0, .int .u64 0, .int .u64 0, .int .u64 0] 215))
  go_enter Tryz.func226, Tryz.ntmps226
  go_wp2_with (refine wpList_load_set rfl (.tmp 4) rfl rfl HZ.out ?_)
  refine (others_any zs HZ.out.1).mono ?_
  rintro e_ w1 ⟨rfl, b1⟩
  replace HB := hide (Below.chain HB.out b1)
  clear b1
  go_wp2_with fail
  refine (char_any (othS zs)).mono ?_
  rintro e_ w2 ⟨v, rfl, h2, b2⟩
  replace HB := hide (Below.chain HB.out b2)
  have H2 := hide h2
  clear h2 b2
  go_wp2
  go_ret2
  exact ⟨⟨_, rfl, H2.out, H0.out.ext HB.out⟩, Ext.gr HB.out _⟩

set_option maxRecDepth 100000 in
set_option maxHeartbeats 1000000 in
theorem only_any {w : World} {g : Nat} {s : ByteArray} {t : List Nat} {d : Nat} (h : PAt w g s t d) {c : Nat} (hc : c < 256) : Calls Tryz.prog 236 #[.pointer (some ⟨g, 0, none⟩), .int .u8 (c : Int)] w (Ans w g s d (.ok [onlyI c] t)) := by
  have H0 := hide h
  clear h
  have HZ := hide (zs_new w)
  have HB := hide (alloc_below w (.cells #[.int .u64 0, .int .u64 0, .int .u64 0, .int .u64 0] 215))
  go_enter Tryz.func236, Tryz.ntmps236
  go_wp2_with fail
  refine (add_any HZ.out hc hc).mono ?_
  rintro e_ w1 ⟨rfl, h1, g1⟩
  have H1 := hide h1
  replace HB := hide (HB.out.grown g1 (by simp) (fun k hk => by injection hk with hk; omega))
  clear h1 g1
  go_wp2_with (refine wpList_load_set rfl (.tmp 6) rfl rfl H1.out ?_)
  refine (char_any (addS zs c c)).mono ?_
  rintro e_ w2 ⟨v, rfl, h2, b2⟩
  replace HB := hide (Below.chain HB.out b2)
  have H2 := hide h2
  clear h2 b2
  go_wp2
  go_ret2
  exact ⟨⟨_, rfl, H2.out, H0.out.ext HB.out⟩, Ext.gr HB.out _⟩

theorem prev_bt {s : ByteArray} {p t : List Nat} {c i : Nat} (hp : bl s = p ++ c :: t) (hi : i + t.length = s.size) : 1 ≤ i ∧ bt s (i - 1) = c ∧ i - 1 < s.size ∧ c < 256 := by
  have h1 := congrArg List.length hp
  rw [bl_len, List.length_append, List.length_cons] at h1
  have h2 : (bl s).drop (i - 1) = c :: t := by
    rw [hp, show i - 1 = p.length by omega, List.drop_left]
  obtain ⟨b1, b2, _⟩ := bt_of h2
  exact ⟨by omega, b1, b2, bl_lt s c (by rw [hp]; simp)⟩
set_option maxRecDepth 100000 in
set_option maxHeartbeats 1000000 in
theorem itself_any {w : World} {g : Nat} {s : ByteArray} {t : List Nat} {d : Nat} (h : PAt w g s t d) {c : Nat} (hp : ∃ p, bl s = p ++ c :: t) : Calls Tryz.prog 232 #[.pointer (some ⟨g, 0, none⟩)] w (Ans w g s d (.ok [onlyI c] t)) := by
  have H0 := hide h
  obtain ⟨p, hp⟩ := hp
  obtain ⟨i, hi, _, hr⟩ := h
  obtain ⟨h1i, b1, b2, hc⟩ := prev_bt hp hi.1
  obtain ⟨x0, _⟩ := row_reads hr
  have c0 := x0 0
  have c1 := x0 1
  simp only [List.getElem?_toArray, List.getElem?_cons_zero, List.getElem?_cons_succ] at c0 c1
  have hix := str_ix s (i - 1) b2
  rw [b1, show ((i - 1 : Nat) : Int) = (i : Int) - 1 by omega] at hix
  have hi2 : (i : Int) ≤ 256 := by omega
  have hw : IntKind.i64.wrap ((i : Int) - 1) = (i : Int) - 1 := by rw [IntKind.wrap_i64]; omega
  clear x0 hi b1 b2 hr hp h1i
  go_enter Tryz.func232, Tryz.ntmps232
  go_wp2_with fail
  go_region_with (go_at_call 236; refine (only_any (H0.out.ext (Below.refl _ _).drew) hc).mono ?_; rintro e w2 ⟨⟨v, rfl, h2, h3⟩, g2⟩)
  all_goals
    have H2 := hide (And.intro h2 (And.intro h3 (grown_trans (Ext.gr ((Below.refl w.heap.size w).drew) (some g)) g2)))
    clear h2 h3 g2
    first
      | go_ret2
      | (go_wp2; go_ret2)
    exact ⟨⟨_, rfl, H2.out.1, H2.out.2.1⟩, H2.out.2.2⟩

set_option maxRecDepth 100000 in
set_option maxHeartbeats 1000000 in
theorem escaped_any {w : World} {g : Nat} {s : ByteArray} {t : List Nat} {d : Nat} (h : PAt w g s t d) : Calls Tryz.prog 225 #[.pointer (some ⟨g, 0, none⟩)] w (Ans w g s d (escS t)) := by
  have H0 := hide h
  cases t with
  | nil =>
    clear h
    go_enter Tryz.func225, Tryz.ntmps225
    go_wp2_with fail
    refine (next_nil H0.out).mono ?_
    rintro e_ w1 ⟨rfl, h1_, h2_⟩
    have H1 := hide (And.intro h1_ h2_)
    clear h1_ h2_
    go_wp2
    go_ret2
    exact ⟨⟨rfl, .inl rfl⟩, H1.out.2⟩

  | cons c u =>
    have hc : c < 256 := by obtain ⟨i, _, hb, _⟩ := h; exact bl_lt s c (List.mem_of_mem_drop (hb ▸ List.mem_cons_self))
    clear h
    go_enter Tryz.func225, Tryz.ntmps225
    go_wp2_with fail
    refine (next_cons H0.out).mono ?_
    rintro e_ w1 ⟨rfl, h1_, h2_⟩
    have H1 := hide (And.intro h1_ h2_)
    clear h1_ h2_
    obtain ⟨i, ib, dm, c0, c1, c2, f1, f2, SA, SD⟩ := PAt.cells H1.out.1
    have HS := hide (And.intro (SA.out _ _ rfl) (grown_trans H1.out.2 (grown_set w1 g 1 (.int .i64 ((i : Int) + 1)))))
    clear SA SD
    go_wp2_with fail
    refine (only_any HS.out.1 hc).mono ?_
    rintro e_ w2 ⟨⟨v, rfl, h2, h3⟩, g2⟩
    have H2 := hide (And.intro h2 (And.intro h3 (grown_trans HS.out.2 g2)))
    clear h2 h3 g2
    go_wp2
    go_ret2
    exact ⟨⟨_, rfl, H2.out.1, H2.out.2.1⟩, H2.out.2.2⟩

end Go.Proofs.YteiacgpaocnofaaGreat.Rg
/- A class: the program's call. -/
namespace Go.Proofs.YteiacgpaocnofaaGreat.Rg
set_option maxRecDepth 100000
open Go.RowKit
theorem PAt.bytes {w : World} {g : Nat} {s : ByteArray} {r : List Nat} {d : Nat} (h : PAt w g s r d) : ∀ c ∈ r, c < 256 := by
  obtain ⟨i, _, hb, _⟩ := h
  intro c hc
  exact bl_lt s c (List.mem_of_mem_drop (hb ▸ hc))
theorem mem_lt {r t : List Nat} {c : Nat} (hr : ∀ c ∈ r, c < 256) (h : memberS r = some (c, t)) : c < 256 ∧ ∀ c ∈ t, c < 256 := by
  unfold memberS at h
  split at h
  · cases h
  · split at h
    · cases h
    · split at h
      · split at h
        · cases h
        · injection h with h; injection h with h1 h2; subst h1 h2
          exact ⟨hr _ (by simp), fun c hc => hr c (by simp [hc])⟩
      · injection h with h; injection h with h1 h2; subst h1 h2
        exact ⟨hr _ (by simp), fun c hc => hr c (by simp [hc])⟩
theorem span_lt {r t : List Nat} {lo hi : Nat} (hr : ∀ c ∈ r, c < 256) (h : spanS r = some (lo, hi, t)) : lo < 256 ∧ hi < 256 := by
  unfold spanS at h
  split at h
  · cases h
  · rename_i lo' t' hm
    have h1 := mem_lt hr hm
    split at h
    · split at h
      · cases h
      · rename_i hi' u hm2
        have h2 := mem_lt (fun c hc => h1.2 c (List.mem_of_mem_tail hc)) hm2
        split at h
        · injection h with h; injection h with e1 h; injection h with e2 h; subst e1 e2; exact ⟨h1.1, h2.1⟩
        · cases h
    · injection h with h; injection h with e1 h; injection h with e2 h; subst e1 e2; exact ⟨h1.1, h1.1⟩
/-- What becomes of a class's bytes. -/
def fin (neg : Bool) (R : Rd (Nat → Nat)) : Rd (List In) := match R with | .bad e => .bad e | .ok s t => .ok [charI (if neg then othS s else s)] t
theorem cls_none {k : Nat} {u : Nat → Nat} {r : List Nat} (h : spanS r = none) : clsF (k + 1) u r = .bad 3 := by
  unfold clsF; rw [h]
theorem cls_end {k : Nat} {u : Nat → Nat} {r t : List Nat} {lo hi : Nat} (h : spanS r = some (lo, hi, 93 :: t)) : clsF (k + 1) u r = .ok (addS u lo hi) t := by
  unfold clsF; rw [h]; rfl
theorem cls_on {k : Nat} {u : Nat → Nat} {r t : List Nat} {lo hi : Nat} (h : spanS r = some (lo, hi, t)) (h2 : t.head? ≠ some 93) : clsF (k + 1) u r = clsF k (addS u lo hi) t := by
  rw [clsF, h]; simp only []; rw [if_neg h2]
/-- What stands while a class is read. -/
def CR (W w : World) (g : Nat) (s : ByteArray) (d : Nat) (R : Rd (Nat → Nat)) (k : Nat) (b : Bool) (u : Nat → Nat) (r : List Nat) : Prop :=
  SAt w W.heap.size u ∧ PAt w g s r d ∧ W.grownBy w (some g) ∧ (b = true → r.length < k ∧ clsF k u r = R) ∧ (b = false → R = .ok u r)
set_option maxRecDepth 100000 in
set_option maxHeartbeats 2000000 in
theorem class_pos {w : World} {g : Nat} {s : ByteArray} {t : List Nat} {d : Nat} (h : PAt w g s (t) d) (hp : t.head? ≠ some 94) : Calls Tryz.prog 227 #[.pointer (some ⟨g, 0, none⟩)] w (Ans w g s d (fin false (clsF (t.length + 1) zs t))) := by
  have hg := h.lt
  have HZ := hide (zs_new w)
  have HP := hide (h.ext (alloc_below w (.cells #[.int .u64 0, .int .u64 0, .int .u64 0, .int .u64 0] 215)))
  have HB := hide (grown_alloc w (some g) (.cells #[.int .u64 0, .int .u64 0, .int .u64 0, .int .u64 0] 215))
  obtain ⟨R, hR⟩ : ∃ R, clsF (t.length + 1) zs t = R := ⟨_, rfl⟩
  rw [hR]
  have HR := hide hR
  clear h hR
  go_enter Tryz.func227, Tryz.ntmps227
  go_wp2_with fail
  refine (take_no HP.out hp).mono ?_
  rintro e_ w1 ⟨rfl, h1, g1⟩
  have H1 : Hid (CR w w1 g s d R (t.length + 1) true zs t) := hide ⟨HZ.out.gr g1 (by omega), h1, grown_trans HB.out g1, fun _ => ⟨by omega, HR.out⟩, fun e => by cases e⟩
  clear h1 g1 HZ HP HB HR hp
  go_wp2
  go_loopg [6] (t.length + 1) (fun k s6 wr => ∃ (b : Bool) (u : Nat → Nat) (r : List Nat), s6 = .bool b ∧ Hid (CR w wr g s d R k b u r))
  case atStart => exact ⟨true, zs, t, rfl, H1⟩
  case round =>
    obtain ⟨b, u, r, rfl, HX⟩ := hrel
    cases b with
    | true =>
      obtain ⟨k', hk'⟩ : ∃ k', gk = k' + 1 := ⟨gk - 1, by have := (HX.out.2.2.2.1 rfl).1; omega⟩
      have HK := hide hk'
      have HC : Hid (r.length < k' + 1 ∧ clsF (k' + 1) u r = R) := by have h9 := HX.out.2.2.2.1 rfl; rw [hk'] at h9; exact h9
      clear hk'
      cases hs : spanS r with
      | none =>
        obtain rfl : R = .bad 3 := by rw [← HC.out.2]; exact cls_none hs
        have HS := hide hs
        clear hs
        go_wp2_with fail
        refine (span_none HX.out.2.1 HS.out).mono ?_
        rintro e_ w2 ⟨x, y, rfl, g2⟩
        have HE := hide (grown_trans HX.out.2.2.1 g2)
        clear g2
        go_wp2
        go_ret2
        exact ⟨⟨rfl, .inl rfl⟩, HE.out⟩
      | some p =>
        obtain ⟨lo, hi, v⟩ := p
        have hlt := span_lt HX.out.2.1.bytes hs
        have hvl := span_len hs
        have HS := hide (And.intro hs (And.intro hlt hvl))
        clear hs hlt hvl
        go_wp2_with fail
        refine (span_some HX.out.2.1 HS.out.1).mono ?_
        rintro e_ w2 ⟨rfl, h2, g2⟩
        have H2 := hide (And.intro (HX.out.1.gr g2 (by omega)) (And.intro h2 (grown_trans HX.out.2.2.1 g2)))
        clear h2 g2
        go_wp2_with fail
        refine (add_any H2.out.1 HS.out.2.1.1 HS.out.2.1.2).mono ?_
        rintro e_ w3 ⟨rfl, h3, g3⟩
        have H3 := hide (And.intro h3 (And.intro (H2.out.2.1.gr g3 (fun k hk => by injection hk with hk; omega)) (gr_trans H2.out.2.2 g3 (fun k hk => .inr (by injection hk with hk; omega)))))
        clear h3 g3
        by_cases hv : v.head? = some 93
        · obtain ⟨v', rfl⟩ : ∃ v', v = 93 :: v' := by
            cases v with
            | nil => cases hv
            | cons a v => simp at hv; exact ⟨v, by rw [hv]⟩
          clear hv
          go_wp2_with fail
          refine (take_yes H3.out.2.1).mono ?_
          rintro e_ w4 ⟨rfl, h4, g4⟩
          have H4 : Hid (CR w w4 g s d R k' false (addS u lo hi) v') := hide ⟨H3.out.1.gr g4 (by omega), h4, grown_trans H3.out.2.2 g4, fun e => (by cases e), fun _ => by rw [← HC.out.2]; exact cls_end HS.out.1⟩
          clear h4 g4
          go_wp2
          go_roundg k'
          case measure => have := HK.out; omega
          case rel => exact ⟨false, _, _, rfl, H4⟩
        · have HV := hide hv
          clear hv
          go_wp2_with fail
          refine (take_no H3.out.2.1 HV.out).mono ?_
          rintro e_ w4 ⟨rfl, h4, g4⟩
          have H4 : Hid (CR w w4 g s d R k' true (addS u lo hi) v) := hide ⟨H3.out.1.gr g4 (by omega), h4, grown_trans H3.out.2.2 g4, fun _ => ⟨by have h8 := HS.out.2.2; have h9 := HC.out.1; omega, by rw [← HC.out.2, cls_on HS.out.1 HV.out]⟩, fun e => by cases e⟩
          clear h4 g4
          go_wp2
          go_roundg k'
          case measure => have := HK.out; omega
          case rel => exact ⟨true, _, _, rfl, H4⟩

    | false =>
      obtain rfl : R = .ok u r := HX.out.2.2.2.2 rfl
      have HY := hide (And.intro HX.out.1 (And.intro HX.out.2.1 HX.out.2.2.1))
      clear HX
      go_wp2_with (refine wpList_load_set rfl (.tmp 4) rfl rfl HY.out.1 ?_)
      refine (char_any u).mono ?_
      rintro e_ w2 ⟨v, rfl, h2, b2⟩
      have H2 := hide (And.intro h2 (And.intro (HY.out.2.1.ext b2) (grown_trans HY.out.2.2 (Ext.gr b2 _))))
      clear h2 b2
      go_wp2
      go_ret2
      exact ⟨⟨_, rfl, H2.out.1, H2.out.2.1⟩, H2.out.2.2⟩

set_option maxRecDepth 100000 in
set_option maxHeartbeats 2000000 in
theorem class_neg {w : World} {g : Nat} {s : ByteArray} {t : List Nat} {d : Nat} (h : PAt w g s (94 :: t) d) : Calls Tryz.prog 227 #[.pointer (some ⟨g, 0, none⟩)] w (Ans w g s d (fin true (clsF (t.length + 1) zs t))) := by
  have hg := h.lt
  have HZ := hide (zs_new w)
  have HP := hide (h.ext (alloc_below w (.cells #[.int .u64 0, .int .u64 0, .int .u64 0, .int .u64 0] 215)))
  have HB := hide (grown_alloc w (some g) (.cells #[.int .u64 0, .int .u64 0, .int .u64 0, .int .u64 0] 215))
  obtain ⟨R, hR⟩ : ∃ R, clsF (t.length + 1) zs t = R := ⟨_, rfl⟩
  rw [hR]
  have HR := hide hR
  clear h hR
  go_enter Tryz.func227, Tryz.ntmps227
  go_wp2_with fail
  refine (take_yes HP.out).mono ?_
  rintro e_ w1 ⟨rfl, h1, g1⟩
  have H1 : Hid (CR w w1 g s d R (t.length + 1) true zs t) := hide ⟨HZ.out.gr g1 (by omega), h1, grown_trans HB.out g1, fun _ => ⟨by omega, HR.out⟩, fun e => by cases e⟩
  clear h1 g1 HZ HP HB HR
  go_wp2
  go_loopg [6] (t.length + 1) (fun k s6 wr => ∃ (b : Bool) (u : Nat → Nat) (r : List Nat), s6 = .bool b ∧ Hid (CR w wr g s d R k b u r))
  case atStart => exact ⟨true, zs, t, rfl, H1⟩
  case round =>
    obtain ⟨b, u, r, rfl, HX⟩ := hrel
    cases b with
    | true =>
      obtain ⟨k', hk'⟩ : ∃ k', gk = k' + 1 := ⟨gk - 1, by have := (HX.out.2.2.2.1 rfl).1; omega⟩
      have HK := hide hk'
      have HC : Hid (r.length < k' + 1 ∧ clsF (k' + 1) u r = R) := by have h9 := HX.out.2.2.2.1 rfl; rw [hk'] at h9; exact h9
      clear hk'
      cases hs : spanS r with
      | none =>
        obtain rfl : R = .bad 3 := by rw [← HC.out.2]; exact cls_none hs
        have HS := hide hs
        clear hs
        go_wp2_with fail
        refine (span_none HX.out.2.1 HS.out).mono ?_
        rintro e_ w2 ⟨x, y, rfl, g2⟩
        have HE := hide (grown_trans HX.out.2.2.1 g2)
        clear g2
        go_wp2
        go_ret2
        exact ⟨⟨rfl, .inl rfl⟩, HE.out⟩
      | some p =>
        obtain ⟨lo, hi, v⟩ := p
        have hlt := span_lt HX.out.2.1.bytes hs
        have hvl := span_len hs
        have HS := hide (And.intro hs (And.intro hlt hvl))
        clear hs hlt hvl
        go_wp2_with fail
        refine (span_some HX.out.2.1 HS.out.1).mono ?_
        rintro e_ w2 ⟨rfl, h2, g2⟩
        have H2 := hide (And.intro (HX.out.1.gr g2 (by omega)) (And.intro h2 (grown_trans HX.out.2.2.1 g2)))
        clear h2 g2
        go_wp2_with fail
        refine (add_any H2.out.1 HS.out.2.1.1 HS.out.2.1.2).mono ?_
        rintro e_ w3 ⟨rfl, h3, g3⟩
        have H3 := hide (And.intro h3 (And.intro (H2.out.2.1.gr g3 (fun k hk => by injection hk with hk; omega)) (gr_trans H2.out.2.2 g3 (fun k hk => .inr (by injection hk with hk; omega)))))
        clear h3 g3
        by_cases hv : v.head? = some 93
        · obtain ⟨v', rfl⟩ : ∃ v', v = 93 :: v' := by
            cases v with
            | nil => cases hv
            | cons a v => simp at hv; exact ⟨v, by rw [hv]⟩
          clear hv
          go_wp2_with fail
          refine (take_yes H3.out.2.1).mono ?_
          rintro e_ w4 ⟨rfl, h4, g4⟩
          have H4 : Hid (CR w w4 g s d R k' false (addS u lo hi) v') := hide ⟨H3.out.1.gr g4 (by omega), h4, grown_trans H3.out.2.2 g4, fun e => (by cases e), fun _ => by rw [← HC.out.2]; exact cls_end HS.out.1⟩
          clear h4 g4
          go_wp2
          go_roundg k'
          case measure => have := HK.out; omega
          case rel => exact ⟨false, _, _, rfl, H4⟩
        · have HV := hide hv
          clear hv
          go_wp2_with fail
          refine (take_no H3.out.2.1 HV.out).mono ?_
          rintro e_ w4 ⟨rfl, h4, g4⟩
          have H4 : Hid (CR w w4 g s d R k' true (addS u lo hi) v) := hide ⟨H3.out.1.gr g4 (by omega), h4, grown_trans H3.out.2.2 g4, fun _ => ⟨by have h8 := HS.out.2.2; have h9 := HC.out.1; omega, by rw [← HC.out.2, cls_on HS.out.1 HV.out]⟩, fun e => by cases e⟩
          clear h4 g4
          go_wp2
          go_roundg k'
          case measure => have := HK.out; omega
          case rel => exact ⟨true, _, _, rfl, H4⟩

    | false =>
      obtain rfl : R = .ok u r := HX.out.2.2.2.2 rfl
      have HY := hide (And.intro HX.out.1 (And.intro HX.out.2.1 HX.out.2.2.1))
      clear HX
      go_wp2_with (refine wpList_load_set rfl (.tmp 4) rfl rfl HY.out.1 ?_)
      refine (others_any u HY.out.1.1).mono ?_
      rintro e_ w2 ⟨rfl, b2⟩
      have H2 := hide (And.intro (HY.out.1.ext b2) (And.intro (HY.out.2.1.ext b2) (grown_trans HY.out.2.2 (Ext.gr b2 _))))
      clear b2
      go_wp2_with (refine wpList_store_set rfl (.tmp 4) (.tmp 29) rfl rfl rfl H2.out.1 (oth_lt u) ?_)
      intro w3 h3 g3
      have H3 := hide (And.intro h3 (And.intro (H2.out.2.1.gr g3 (fun k hk => by injection hk with hk; omega)) (gr_trans H2.out.2.2 g3 (fun k hk => .inr (by injection hk with hk; omega)))))
      clear h3 g3
      go_wp2_with (refine wpList_load_set rfl (.tmp 4) rfl rfl H3.out.1 ?_)
      refine (char_any (othS u)).mono ?_
      rintro e_ w4 ⟨v, rfl, h4, b4⟩
      have H4 := hide (And.intro h4 (And.intro (H3.out.2.1.ext b4) (grown_trans H3.out.2.2 (Ext.gr b4 _))))
      clear h4 b4
      go_wp2
      go_ret2
      exact ⟨⟨_, rfl, H4.out.1, H4.out.2.1⟩, H4.out.2.2⟩

set_option maxRecDepth 100000 in
theorem class_any {w : World} {g : Nat} {s : ByteArray} {t : List Nat} {d : Nat} (h : PAt w g s t d) : Calls Tryz.prog 227 #[.pointer (some ⟨g, 0, none⟩)] w (Ans w g s d (classS t)) := by
  by_cases hp : t.head? = some 94
  · obtain ⟨u, rfl⟩ : ∃ u, t = 94 :: u := by
      cases t with
      | nil => cases hp
      | cons a v => simp at hp; exact ⟨v, by rw [hp]⟩
    rw [show classS (94 :: u) = fin true (clsF (u.length + 1) zs u) by unfold classS fin; rw [if_pos hp, List.tail_cons]; cases clsF (u.length + 1) zs u <;> rfl]
    exact class_neg h
  · rw [show classS t = fin false (clsF (t.length + 1) zs t) by unfold classS fin; rw [if_neg hp]; cases clsF (t.length + 1) zs t <;> rfl]
    exact class_pos h hp

end Go.Proofs.YteiacgpaocnofaaGreat.Rg
/- What parentheses hold, how an atom is read, how often it is: the program's calls. -/
namespace Go.Proofs.YteiacgpaocnofaaGreat.Rg
set_option maxRecDepth 100000
open Go.RowKit
/-- The call that reads a pattern answers so, with so many parentheses open. -/
def PatC (pat : Nat → List Nat → Rd (List In)) (d : Nat) : Prop := ∀ (w : World) (g : Nat) (s : ByteArray) (t : List Nat), PAt w g s t d → Calls Tryz.prog 207 #[.pointer (some ⟨g, 0, none⟩)] w (Ans w g s d (pat d t))
theorem err_ne {e : Nat} (h : e = 3 ∨ e = 4) : ((e : Int) != 0) = true := by rcases h with rfl | rfl <;> rfl
theorem grp_20 {pat : Nat → List Nat → Rd (List In)} {t : List Nat} : groupF pat 20 t = .bad 4 := by unfold groupF; rw [if_pos rfl]
theorem grp_bad {pat : Nat → List Nat → Rd (List In)} {d e : Nat} {t : List Nat} (hd : d ≠ 20) (h : pat (d + 1) t = .bad e) : groupF pat d t = .bad e := by unfold groupF; rw [if_neg hd, h]
theorem grp_ok {pat : Nat → List Nat → Rd (List In)} {d : Nat} {t u : List Nat} {a : List In} (hd : d ≠ 20) (h : pat (d + 1) t = .ok a (41 :: u)) : groupF pat d t = .ok a u := by unfold groupF; rw [if_neg hd, h]; rfl
theorem grp_open {pat : Nat → List Nat → Rd (List In)} {d : Nat} {t u : List Nat} {a : List In} (hd : d ≠ 20) (h : pat (d + 1) t = .ok a u) (hu : u.head? ≠ some 41) : groupF pat d t = .bad 3 := by unfold groupF; rw [if_neg hd, h]; simp only []; rw [if_neg hu]
set_option maxRecDepth 100000 in
theorem group_20 {w : World} {g : Nat} {s : ByteArray} {t : List Nat} {d : Nat} (h : PAt w g s t d) (hd : d = 20) : Calls Tryz.prog 228 #[.pointer (some ⟨g, 0, none⟩)] w (Ans w g s d (.bad 4)) := by
  subst hd
  obtain ⟨i, ib, dm, c0, c1, c2, f1, f2, SA, SD⟩ := PAt.cells h
  clear h SA SD
  go_enter Tryz.func228, Tryz.ntmps228
  go_wp2
  go_ret2
  exact ⟨⟨rfl, .inr rfl⟩, grown_refl _ _⟩

set_option maxRecDepth 100000 in
set_option maxHeartbeats 1000000 in
theorem group_bad {pat : Nat → List Nat → Rd (List In)} {w : World} {g : Nat} {s : ByteArray} {t : List Nat} {d : Nat} (hP : d < 20 → PatC pat (d + 1)) (h : PAt w g s t d) (hd : d ≠ 20) {e : Nat} (hR : pat (d + 1) t = .bad e) : Calls Tryz.prog 228 #[.pointer (some ⟨g, 0, none⟩)] w (Ans w g s d (.bad e)) := by
  have H0 := hide h
  have HP := hide hP
  clear hP
  obtain ⟨i, ib, dm, c0, c1, c2, f1, f2, SA, SD⟩ := PAt.cells h
  clear h
  have he : ((d : Int) == 20) = false := beq_eq_false_iff_ne.2 (by omega)
  have hd0 : (d : Int) ≤ 20 := by omega
  have HS : Hid (PAt (w.setCell ⟨g, 2, none⟩ (.int .i64 ((d : Int) + 1))) g s t (d + 1) ∧ w.grownBy (w.setCell ⟨g, 2, none⟩ (.int .i64 ((d : Int) + 1))) (some g)) := hide ⟨SD.out (d + 1) (by omega), grown_set _ _ _ _⟩
  have HC := HP.out (by omega) _ _ _ _ HS.out.1
  rw [hR] at HC
  replace HC := hide HC
  clear SA SD hR hd
  go_enter Tryz.func228, Tryz.ntmps228
  go_wp2_with fail
  refine HC.out.mono ?_
  rintro e_ w2 ⟨⟨rfl, he3⟩, g2⟩
  have hne := err_ne he3
  have HE := hide (And.intro he3 (grown_trans HS.out.2 g2))
  clear he3 g2
  go_wp2
  go_ret2
  exact ⟨⟨rfl, HE.out.1⟩, HE.out.2⟩

set_option maxRecDepth 100000 in
set_option maxHeartbeats 1000000 in
theorem group_open {pat : Nat → List Nat → Rd (List In)} {w : World} {g : Nat} {s : ByteArray} {t : List Nat} {d : Nat} (hP : d < 20 → PatC pat (d + 1)) (h : PAt w g s t d) (hd : d ≠ 20) {a : List In} {u : List Nat} (hR : pat (d + 1) t = .ok a u) (hu : u.head? ≠ some 41) : Calls Tryz.prog 228 #[.pointer (some ⟨g, 0, none⟩)] w (Ans w g s d (.bad 3)) := by
  have H0 := hide h
  have HP := hide hP
  clear hP
  obtain ⟨i, ib, dm, c0, c1, c2, f1, f2, SA, SD⟩ := PAt.cells h
  clear h
  have he : ((d : Int) == 20) = false := beq_eq_false_iff_ne.2 (by omega)
  have hd0 : (d : Int) ≤ 20 := by omega
  have HS : Hid (PAt (w.setCell ⟨g, 2, none⟩ (.int .i64 ((d : Int) + 1))) g s t (d + 1) ∧ w.grownBy (w.setCell ⟨g, 2, none⟩ (.int .i64 ((d : Int) + 1))) (some g)) := hide ⟨SD.out (d + 1) (by omega), grown_set _ _ _ _⟩
  have HC := HP.out (by omega) _ _ _ _ HS.out.1
  rw [hR] at HC
  replace HC := hide HC
  clear SA SD hR hd
  go_enter Tryz.func228, Tryz.ntmps228
  go_wp2_with fail
  refine HC.out.mono ?_
  rintro e_ w2 ⟨⟨v, rfl, h2, p2⟩, g2⟩
  have H2 := hide (And.intro h2 (And.intro p2 (grown_trans HS.out.2 g2)))
  clear h2 p2 g2
  go_wp2_with fail
  refine (take_no H2.out.2.1 hu).mono ?_
  rintro e_ w3 ⟨rfl, h3, g3⟩
  have HE := hide (grown_trans H2.out.2.2 g3)
  clear h3 g3
  go_wp2
  go_ret2
  exact ⟨⟨rfl, .inl rfl⟩, HE.out⟩

set_option maxRecDepth 100000 in
set_option maxHeartbeats 1000000 in
theorem group_ok {pat : Nat → List Nat → Rd (List In)} {w : World} {g : Nat} {s : ByteArray} {t : List Nat} {d : Nat} (hP : d < 20 → PatC pat (d + 1)) (h : PAt w g s t d) (hd : d ≠ 20) {a : List In} {u : List Nat} (hR : pat (d + 1) t = .ok a (41 :: u)) : Calls Tryz.prog 228 #[.pointer (some ⟨g, 0, none⟩)] w (Ans w g s d (.ok a u)) := by
  have H0 := hide h
  have HP := hide hP
  clear hP
  obtain ⟨i, ib, dm, c0, c1, c2, f1, f2, SA, SD⟩ := PAt.cells h
  clear h
  have he : ((d : Int) == 20) = false := beq_eq_false_iff_ne.2 (by omega)
  have hd0 : (d : Int) ≤ 20 := by omega
  have HS : Hid (PAt (w.setCell ⟨g, 2, none⟩ (.int .i64 ((d : Int) + 1))) g s t (d + 1) ∧ w.grownBy (w.setCell ⟨g, 2, none⟩ (.int .i64 ((d : Int) + 1))) (some g)) := hide ⟨SD.out (d + 1) (by omega), grown_set _ _ _ _⟩
  have HC := HP.out (by omega) _ _ _ _ HS.out.1
  rw [hR] at HC
  replace HC := hide HC
  clear SA SD hR hd
  go_enter Tryz.func228, Tryz.ntmps228
  go_wp2_with fail
  refine HC.out.mono ?_
  rintro e_ w2 ⟨⟨v, rfl, h2, p2⟩, g2⟩
  have H2 := hide (And.intro h2 (And.intro p2 (grown_trans HS.out.2 g2)))
  clear h2 p2 g2
  go_wp2_with fail
  refine (take_yes H2.out.2.1).mono ?_
  rintro e_ w3 ⟨rfl, h3, g3⟩
  have H3 := hide (And.intro (H2.out.1.gr H2.out.2.1 g3) (And.intro h3 (grown_trans H2.out.2.2 g3)))
  clear h3 g3
  obtain ⟨ib, ibb, dmb, c0b, c1b, c2b, f1b, f2b, SAb, SDb⟩ := PAt.cells H3.out.2.1
  rw [show ((d + 1 : Nat) : Int) = (d : Int) + 1 from rfl] at c2b
  have HF := hide (And.intro (SDb.out d (by omega)) (And.intro (H3.out.1.gr H3.out.2.1 (grown_set w3 g 2 (.int .i64 (d : Int)))) (grown_trans H3.out.2.2 (grown_set w3 g 2 (.int .i64 (d : Int))))))
  clear SAb SDb
  go_wp2
  go_ret2
  exact ⟨⟨_, rfl, HF.out.2.1, HF.out.1⟩, HF.out.2.2⟩

set_option maxRecDepth 100000 in
theorem group_any {pat : Nat → List Nat → Rd (List In)} {w : World} {g : Nat} {s : ByteArray} {t : List Nat} {d : Nat} (hP : d < 20 → PatC pat (d + 1)) (h : PAt w g s t d) : Calls Tryz.prog 228 #[.pointer (some ⟨g, 0, none⟩)] w (Ans w g s d (groupF pat d t)) := by
  by_cases hd : d = 20
  · rw [show groupF pat d t = .bad 4 by subst hd; exact grp_20]
    exact group_20 h hd
  · cases hR : pat (d + 1) t with
    | bad e => rw [grp_bad hd hR]; exact group_bad hP h hd hR
    | ok a u =>
      by_cases hu : u.head? = some 41
      · obtain ⟨v, rfl⟩ : ∃ v, u = 41 :: v := by
          cases u with
          | nil => cases hu
          | cons a v => simp at hu; exact ⟨v, by rw [hu]⟩
        rw [grp_ok hd hR]; exact group_ok hP h hd hR
      · rw [grp_open hd hR hu]; exact group_open hP h hd hR hu

/-- A call that answers v and leaves memory as it was. -/
abbrev Tells (f : FuncId) (args : Array Value) (v : Value) : Prop := ∀ w : World, Calls Tryz.prog f args w fun e w' => e = .returned v ∧ w' = w
set_option maxRecDepth 100000 in
theorem atom_92 (g : Nat) : Tells 221 #[.pointer (some ⟨g, 0, none⟩), .int .u8 92] (.func (.func 225) #[.pointer (some ⟨g, 0, none⟩)] #[]) := by
  intro w
  go_enter Tryz.func221, Tryz.ntmps221
  go_wp2
  go_ret
  exact ⟨rfl, rfl⟩

set_option maxRecDepth 100000 in
theorem atom_46 (g : Nat) : Tells 221 #[.pointer (some ⟨g, 0, none⟩), .int .u8 46] (.func (.func 226) #[.pointer (some ⟨g, 0, none⟩)] #[]) := by
  intro w
  go_enter Tryz.func221, Tryz.ntmps221
  go_wp2
  go_ret
  exact ⟨rfl, rfl⟩

set_option maxRecDepth 100000 in
theorem atom_91 (g : Nat) : Tells 221 #[.pointer (some ⟨g, 0, none⟩), .int .u8 91] (.func (.func 227) #[.pointer (some ⟨g, 0, none⟩)] #[]) := by
  intro w
  go_enter Tryz.func221, Tryz.ntmps221
  go_wp2
  go_ret
  exact ⟨rfl, rfl⟩

set_option maxRecDepth 100000 in
theorem atom_40 (g : Nat) : Tells 221 #[.pointer (some ⟨g, 0, none⟩), .int .u8 40] (.func (.func 228) #[.pointer (some ⟨g, 0, none⟩)] #[]) := by
  intro w
  go_enter Tryz.func221, Tryz.ntmps221
  go_wp2
  go_ret
  exact ⟨rfl, rfl⟩

set_option maxRecDepth 100000 in
theorem atom_94 (g : Nat) : Tells 221 #[.pointer (some ⟨g, 0, none⟩), .int .u8 94] (.func (.func 229) #[.pointer (some ⟨g, 0, none⟩)] #[]) := by
  intro w
  go_enter Tryz.func221, Tryz.ntmps221
  go_wp2
  go_ret
  exact ⟨rfl, rfl⟩

set_option maxRecDepth 100000 in
theorem atom_36 (g : Nat) : Tells 221 #[.pointer (some ⟨g, 0, none⟩), .int .u8 36] (.func (.func 230) #[.pointer (some ⟨g, 0, none⟩)] #[]) := by
  intro w
  go_enter Tryz.func221, Tryz.ntmps221
  go_wp2
  go_ret
  exact ⟨rfl, rfl⟩

set_option maxRecDepth 100000 in
theorem atom_42 (g : Nat) : Tells 221 #[.pointer (some ⟨g, 0, none⟩), .int .u8 42] (.func (.func 231) #[.pointer (some ⟨g, 0, none⟩)] #[]) := by
  intro w
  go_enter Tryz.func221, Tryz.ntmps221
  go_wp2
  go_ret
  exact ⟨rfl, rfl⟩

set_option maxRecDepth 100000 in
theorem atom_43 (g : Nat) : Tells 221 #[.pointer (some ⟨g, 0, none⟩), .int .u8 43] (.func (.func 231) #[.pointer (some ⟨g, 0, none⟩)] #[]) := by
  intro w
  go_enter Tryz.func221, Tryz.ntmps221
  go_wp2
  go_ret
  exact ⟨rfl, rfl⟩

set_option maxRecDepth 100000 in
theorem atom_63 (g : Nat) : Tells 221 #[.pointer (some ⟨g, 0, none⟩), .int .u8 63] (.func (.func 231) #[.pointer (some ⟨g, 0, none⟩)] #[]) := by
  intro w
  go_enter Tryz.func221, Tryz.ntmps221
  go_wp2
  go_ret
  exact ⟨rfl, rfl⟩

set_option maxRecDepth 100000 in
theorem atom_else (g : Nat) {c : Nat} (n92 : c ≠ 92) (n46 : c ≠ 46) (n91 : c ≠ 91) (n40 : c ≠ 40) (n94 : c ≠ 94) (n36 : c ≠ 36) (n42 : c ≠ 42) (n43 : c ≠ 43) (n63 : c ≠ 63) : Tells 221 #[.pointer (some ⟨g, 0, none⟩), .int .u8 (c : Int)] (.func (.func 232) #[.pointer (some ⟨g, 0, none⟩)] #[]) := by
  intro w
  have e92 : ((c : Int) == 92) = false := beq_eq_false_iff_ne.2 (by omega)
  have e46 : ((c : Int) == 46) = false := beq_eq_false_iff_ne.2 (by omega)
  have e91 : ((c : Int) == 91) = false := beq_eq_false_iff_ne.2 (by omega)
  have e40 : ((c : Int) == 40) = false := beq_eq_false_iff_ne.2 (by omega)
  have e94 : ((c : Int) == 94) = false := beq_eq_false_iff_ne.2 (by omega)
  have e36 : ((c : Int) == 36) = false := beq_eq_false_iff_ne.2 (by omega)
  have e42 : ((c : Int) == 42) = false := beq_eq_false_iff_ne.2 (by omega)
  have e43 : ((c : Int) == 43) = false := beq_eq_false_iff_ne.2 (by omega)
  have e63 : ((c : Int) == 63) = false := beq_eq_false_iff_ne.2 (by omega)
  clear n92 n46 n91 n40 n94 n36 n42 n43 n63
  go_enter Tryz.func221, Tryz.ntmps221
  go_wp2
  go_ret
  exact ⟨rfl, rfl⟩

set_option maxRecDepth 100000 in
theorem atom_any {pat : Nat → List Nat → Rd (List In)} {g : Nat} {s : ByteArray} {t : List Nat} {d c : Nat} (hP : d < 20 → PatC pat (d + 1)) (hp : ∃ p, bl s = p ++ c :: t) : ∃ fn, (∀ (xs : Array Value) (w : World), (callFunc fn xs).run Tryz.prog w = .ok (.enter fn xs) w) ∧ Tells 221 #[.pointer (some ⟨g, 0, none⟩), .int .u8 (c : Int)] (.func (.func fn) #[.pointer (some ⟨g, 0, none⟩)] #[]) ∧ ∀ w : World, PAt w g s t d → Calls Tryz.prog fn #[.pointer (some ⟨g, 0, none⟩)] w (Ans w g s d (atomF pat d c t)) := by
  by_cases n92 : c = 92
  · subst n92
    exact ⟨_, Tryz.call225, atom_92 g, fun w h => escaped_any h⟩
  by_cases n46 : c = 46
  · subst n46
    exact ⟨_, Tryz.call226, atom_46 g, fun w h => any_any h⟩
  by_cases n91 : c = 91
  · subst n91
    exact ⟨_, Tryz.call227, atom_91 g, fun w h => class_any h⟩
  by_cases n40 : c = 40
  · subst n40
    exact ⟨_, Tryz.call228, atom_40 g, fun w h => group_any hP h⟩
  by_cases n94 : c = 94
  · subst n94
    exact ⟨_, Tryz.call229, atom_94 g, fun w h => first_any h⟩
  by_cases n36 : c = 36
  · subst n36
    exact ⟨_, Tryz.call230, atom_36 g, fun w h => last_any h⟩
  by_cases n42 : c = 42
  · subst n42
    exact ⟨_, Tryz.call231, atom_42 g, fun w h => nothing_any⟩
  by_cases n43 : c = 43
  · subst n43
    exact ⟨_, Tryz.call231, atom_43 g, fun w h => nothing_any⟩
  by_cases n63 : c = 63
  · subst n63
    exact ⟨_, Tryz.call231, atom_63 g, fun w h => nothing_any⟩
  rw [show atomF pat d c t = .ok [onlyI c] t by unfold atomF; rw [if_neg n92, if_neg n46, if_neg n91, if_neg n40, if_neg n94, if_neg n36, if_neg (by omega)]]
  exact ⟨_, Tryz.call232, atom_else g n92 n46 n91 n40 n94 n36 n42 n43 n63, fun w h => itself_any h hp⟩

set_option maxRecDepth 100000 in
set_option maxHeartbeats 1000000 in
theorem rep_42 {w : World} {g : Nat} {s : ByteArray} {d : Nat} {v : Value} {a : List In} {u : List Nat} (h : PAt w g s (42 :: u) d) (hv : LsAt w v a) (hl : a.length ≤ 1000) : Calls Tryz.prog 222 #[.pointer (some ⟨g, 0, none⟩), v] w fun e w' => ∃ v', e = .returned v' ∧ LsAt w' v' (starL a) ∧ PAt w' g s (u) d ∧ w.grownBy w' (some g) := by
  have H0 := hide (And.intro h (And.intro hv hl))
  clear h hv hl
  go_enter Tryz.func222, Tryz.ntmps222
  go_wp2_with fail
  refine (take_yes H0.out.1).mono ?_
  rintro e_ w1 ⟨rfl, h_, g_⟩
  have T1 := hide (And.intro h_ (And.intro (LsAt.gr H0.out.2.1 H0.out.1 g_) (grown_trans (grown_refl w (some g)) g_)))
  clear h_ g_
  go_wp2_with fail
  refine (star_any T1.out.2.1 H0.out.2.2).mono ?_
  rintro e_ w9 ⟨v9, rfl, h9, b9⟩
  have T9 := hide (And.intro h9 (And.intro (T1.out.1.ext b9) (grown_trans T1.out.2.2 (Ext.gr b9 _))))
  clear h9 b9
  go_wp2
  go_ret
  exact ⟨_, rfl, T9.out.1, T9.out.2.1, T9.out.2.2⟩

set_option maxRecDepth 100000 in
set_option maxHeartbeats 1000000 in
theorem rep_43 {w : World} {g : Nat} {s : ByteArray} {d : Nat} {v : Value} {a : List In} {u : List Nat} (h : PAt w g s (43 :: u) d) (hv : LsAt w v a) (hl : a.length ≤ 1000) : Calls Tryz.prog 222 #[.pointer (some ⟨g, 0, none⟩), v] w fun e w' => ∃ v', e = .returned v' ∧ LsAt w' v' (plusL a) ∧ PAt w' g s (u) d ∧ w.grownBy w' (some g) := by
  have H0 := hide (And.intro h (And.intro hv hl))
  clear h hv hl
  go_enter Tryz.func222, Tryz.ntmps222
  go_wp2_with fail
  refine (take_no H0.out.1 (by simp)).mono ?_
  rintro e_ w1 ⟨rfl, h_, g_⟩
  have T1 := hide (And.intro h_ (And.intro (LsAt.gr H0.out.2.1 H0.out.1 g_) (grown_trans (grown_refl w (some g)) g_)))
  clear h_ g_
  go_wp2_with fail
  refine (take_yes T1.out.1).mono ?_
  rintro e_ w2 ⟨rfl, h_, g_⟩
  have T2 := hide (And.intro h_ (And.intro (LsAt.gr T1.out.2.1 T1.out.1 g_) (grown_trans T1.out.2.2 g_)))
  clear h_ g_
  go_wp2_with fail
  refine (plus_any T2.out.2.1 H0.out.2.2).mono ?_
  rintro e_ w9 ⟨v9, rfl, h9, b9⟩
  have T9 := hide (And.intro h9 (And.intro (T2.out.1.ext b9) (grown_trans T2.out.2.2 (Ext.gr b9 _))))
  clear h9 b9
  go_wp2
  go_ret
  exact ⟨_, rfl, T9.out.1, T9.out.2.1, T9.out.2.2⟩

set_option maxRecDepth 100000 in
set_option maxHeartbeats 1000000 in
theorem rep_63 {w : World} {g : Nat} {s : ByteArray} {d : Nat} {v : Value} {a : List In} {u : List Nat} (h : PAt w g s (63 :: u) d) (hv : LsAt w v a) (hl : a.length ≤ 1000) : Calls Tryz.prog 222 #[.pointer (some ⟨g, 0, none⟩), v] w fun e w' => ∃ v', e = .returned v' ∧ LsAt w' v' (optL a) ∧ PAt w' g s (u) d ∧ w.grownBy w' (some g) := by
  have H0 := hide (And.intro h (And.intro hv hl))
  clear h hv hl
  go_enter Tryz.func222, Tryz.ntmps222
  go_wp2_with fail
  refine (take_no H0.out.1 (by simp)).mono ?_
  rintro e_ w1 ⟨rfl, h_, g_⟩
  have T1 := hide (And.intro h_ (And.intro (LsAt.gr H0.out.2.1 H0.out.1 g_) (grown_trans (grown_refl w (some g)) g_)))
  clear h_ g_
  go_wp2_with fail
  refine (take_no T1.out.1 (by simp)).mono ?_
  rintro e_ w2 ⟨rfl, h_, g_⟩
  have T2 := hide (And.intro h_ (And.intro (LsAt.gr T1.out.2.1 T1.out.1 g_) (grown_trans T1.out.2.2 g_)))
  clear h_ g_
  go_wp2_with fail
  refine (take_yes T2.out.1).mono ?_
  rintro e_ w3 ⟨rfl, h_, g_⟩
  have T3 := hide (And.intro h_ (And.intro (LsAt.gr T2.out.2.1 T2.out.1 g_) (grown_trans T2.out.2.2 g_)))
  clear h_ g_
  go_wp2_with fail
  refine (option_any T3.out.2.1 H0.out.2.2).mono ?_
  rintro e_ w9 ⟨v9, rfl, h9, b9⟩
  have T9 := hide (And.intro h9 (And.intro (T3.out.1.ext b9) (grown_trans T3.out.2.2 (Ext.gr b9 _))))
  clear h9 b9
  go_wp2
  go_ret
  exact ⟨_, rfl, T9.out.1, T9.out.2.1, T9.out.2.2⟩

set_option maxRecDepth 100000 in
set_option maxHeartbeats 1000000 in
theorem rep_none {w : World} {g : Nat} {s : ByteArray} {d : Nat} {v : Value} {a : List In} {u : List Nat} (h : PAt w g s u d) (hv : LsAt w v a) (n1 : u.head? ≠ some 42) (n2 : u.head? ≠ some 43) (n3 : u.head? ≠ some 63) : Calls Tryz.prog 222 #[.pointer (some ⟨g, 0, none⟩), v] w fun e w' => ∃ v', e = .returned v' ∧ LsAt w' v' (a) ∧ PAt w' g s (u) d ∧ w.grownBy w' (some g) := by
  have H0 := hide (And.intro h hv)
  have HN := hide (And.intro n1 (And.intro n2 n3))
  clear h hv n1 n2 n3
  go_enter Tryz.func222, Tryz.ntmps222
  go_wp2_with fail
  refine (take_no H0.out.1 HN.out.1).mono ?_
  rintro e_ w1 ⟨rfl, h_, g_⟩
  have T1 := hide (And.intro h_ (And.intro (LsAt.gr H0.out.2 H0.out.1 g_) (grown_trans (grown_refl w (some g)) g_)))
  clear h_ g_
  go_wp2_with fail
  refine (take_no T1.out.1 HN.out.2.1).mono ?_
  rintro e_ w2 ⟨rfl, h_, g_⟩
  have T2 := hide (And.intro h_ (And.intro (LsAt.gr T1.out.2.1 T1.out.1 g_) (grown_trans T1.out.2.2 g_)))
  clear h_ g_
  go_wp2_with fail
  refine (take_no T2.out.1 HN.out.2.2).mono ?_
  rintro e_ w3 ⟨rfl, h_, g_⟩
  have T3 := hide (And.intro h_ (And.intro (LsAt.gr T2.out.2.1 T2.out.1 g_) (grown_trans T2.out.2.2 g_)))
  clear h_ g_
  go_wp2
  go_ret
  exact ⟨_, rfl, T3.out.2.1, T3.out.1, T3.out.2.2⟩

theorem head_of {u : List Nat} {c : Nat} (h : u.head? = some c) : ∃ v, u = c :: v := by
  cases u with
  | nil => cases h
  | cons a v => simp at h; exact ⟨v, by rw [h]⟩
set_option maxRecDepth 100000 in
theorem repeated_any {w : World} {g : Nat} {s : ByteArray} {d : Nat} {v : Value} {a : List In} {u : List Nat} (h : PAt w g s u d) (hv : LsAt w v a) (hl : a.length ≤ 1000) : Calls Tryz.prog 222 #[.pointer (some ⟨g, 0, none⟩), v] w fun e w' => ∃ v', e = .returned v' ∧ LsAt w' v' (repA a u) ∧ PAt w' g s (repR u) d ∧ w.grownBy w' (some g) := by
  by_cases n1 : u.head? = some 42
  · obtain ⟨x, rfl⟩ := head_of n1
    exact rep_42 h hv hl
  by_cases n2 : u.head? = some 43
  · obtain ⟨x, rfl⟩ := head_of n2
    exact rep_43 h hv hl
  by_cases n3 : u.head? = some 63
  · obtain ⟨x, rfl⟩ := head_of n3
    exact rep_63 h hv hl
  rw [show repA a u = a by unfold repA; rw [if_neg n1, if_neg n2, if_neg n3], show repR u = u by unfold repR; rw [if_neg n1, if_neg n2, if_neg n3]]
  exact rep_none h hv n1 n2 n3

end Go.Proofs.YteiacgpaocnofaaGreat.Rg
/- A row of pieces: the program's call. -/
namespace Go.Proofs.YteiacgpaocnofaaGreat.Rg
set_option maxRecDepth 100000
open Go.RowKit
/-- What was read ahead, and what is read behind it. -/
def rpre (A : List In) : Rd (List In) → Rd (List In)
  | .ok b v => .ok (A ++ b) v
  | .bad e => .bad e
theorem row_nil {pat : Nat → List Nat → Rd (List In)} {d k : Nat} : rowF pat d (k + 1) [] = .ok [] [] := rfl
theorem row_stop {pat : Nat → List Nat → Rd (List In)} {d k c : Nat} {t : List Nat} (h : c = 124 ∨ c = 41) : rowF pat d (k + 1) (c :: t) = .ok [] (c :: t) := by rw [rowF]; rw [if_pos h]
theorem row_bad {pat : Nat → List Nat → Rd (List In)} {d k c e : Nat} {t : List Nat} (h : ¬ (c = 124 ∨ c = 41)) (ha : atomF pat d c t = .bad e) : rowF pat d (k + 1) (c :: t) = .bad e := by rw [rowF]; rw [if_neg h, ha]
theorem row_on {pat : Nat → List Nat → Rd (List In)} {d k c : Nat} {t u : List Nat} {a : List In} (h : ¬ (c = 124 ∨ c = 41)) (ha : atomF pat d c t = .ok a u) (A : List In) : rpre A (rowF pat d (k + 1) (c :: t)) = rpre (A ++ repA a u) (rowF pat d k (repR u)) := by
  rw [rowF, if_neg h, ha]
  simp only []
  cases rowF pat d k (repR u) <;> simp [rpre, List.append_assoc]
/-- What stands while a row is read. -/
def RR (pat : Nat → List Nat → Rd (List In)) (W w : World) (g : Nat) (s : ByteArray) (d n : Nat) (R : Rd (List In)) (k : Nat) (v : Value) (A : List In) (r : List Nat) : Prop :=
  Ro w W.heap.size v A ∧ PAt w g s r d ∧ W.grownBy w (some g) ∧ (r.length < k ∧ rpre A (rowF pat d k r) = R) ∧ A.length + 3 * r.length ≤ n
theorem PAt.pre {w : World} {g : Nat} {s : ByteArray} {c : Nat} {t : List Nat} {d : Nat} (h : PAt w g s (c :: t) d) : (∃ p, bl s = p ++ c :: t) ∧ c < 256 := by
  obtain ⟨i, _, hb, _⟩ := h
  have h1 : bl s = (bl s).take i ++ c :: t := by rw [← hb]; exact (List.take_append_drop i _).symm
  exact ⟨⟨_, h1⟩, bl_lt s c (by rw [h1]; simp)⟩
theorem PAt.short {w : World} {g : Nat} {s : ByteArray} {t : List Nat} {d : Nat} (h : PAt w g s t d) : t.length ≤ 256 := by
  obtain ⟨i, hi, _⟩ := h
  omega
set_option maxRecDepth 100000 in
set_option maxHeartbeats 2000000 in
theorem prow_any {pat : Nat → List Nat → Rd (List In)} {w : World} {g : Nat} {s : ByteArray} {t : List Nat} {d : Nat} (hP : d < 20 → PatC pat (d + 1)) (hq : Short pat) (h : PAt w g s t d) : Calls Tryz.prog 217 #[.pointer (some ⟨g, 0, none⟩)] w (Ans w g s d (rowF pat d (t.length + 1) t)) := by
  have hg := h.lt
  have hsh := h.short
  obtain ⟨R, hR⟩ : ∃ R, rowF pat d (t.length + 1) t = R := ⟨_, rfl⟩
  rw [hR]
  obtain ⟨n, hn⟩ : ∃ n, 3 * t.length = n := ⟨_, rfl⟩
  have hn2 : n ≤ 768 := by omega
  have H1 : Hid (RR pat w w g s d n R (t.length + 1) (.slice none 0 0) [] t) := hide ⟨Ro.nil _ _, h, grown_refl _ _, ⟨by omega, by rw [← hR]; cases rowF pat d (t.length + 1) t <;> rfl⟩, by rw [← hn]; simp⟩
  have HP := hide (And.intro hP hq)
  clear h hR hsh hn hP hq
  go_enter Tryz.func217, Tryz.ntmps217
  go_wp2
  go_loopg [4] (t.length + 1) (fun k s4 wr => ∃ (A : List In) (r : List Nat), Hid (RR pat w wr g s d n R k s4 A r))
  case atStart => exact ⟨[], t, H1⟩
  case round =>
    clear H1
    obtain ⟨A, r, HX⟩ := hrel
    obtain ⟨k, hk⟩ : ∃ k, gk = k + 1 := ⟨gk - 1, by have := HX.out.2.2.2.1.1; omega⟩
    have HK := hide hk
    have HC : Hid (r.length < k + 1 ∧ rpre A (rowF pat d (k + 1) r) = R) := by have h9 := HX.out.2.2.2.1; rw [hk] at h9; exact h9
    clear hk
    cases r with
    | nil =>
      obtain rfl : R = .ok A [] := by rw [← HC.out.2, row_nil]; simp [rpre]
      go_wp2_with fail
      refine (next_nil HX.out.2.1).mono ?_
      rintro e_ w1 ⟨rfl, h1, g1⟩
      have H1 := hide (And.intro (HX.out.1.gr g1 hg) (And.intro h1 (grown_trans HX.out.2.2.1 g1)))
      clear h1 g1
      go_wp2
      go_ret2
      exact ⟨⟨_, rfl, H1.out.1.at, H1.out.2.1⟩, H1.out.2.2⟩
    | cons c t1 =>
      by_cases hc : c = 124 ∨ c = 41
      · obtain rfl : R = .ok A (c :: t1) := by rw [← HC.out.2, row_stop hc]; simp [rpre]
        go_wp2_with fail
        refine (next_cons HX.out.2.1).mono ?_
        rintro e_ w1 ⟨rfl, h1, g1⟩
        have H1 := hide (And.intro (HX.out.1.gr g1 hg) (And.intro h1 (grown_trans HX.out.2.2.1 g1)))
        clear h1 g1 HC HX
        rcases hc with rfl | rfl
        · go_wp2
          go_ret2
          exact ⟨⟨_, rfl, H1.out.1.at, H1.out.2.1⟩, H1.out.2.2⟩
        · go_wp2
          go_ret2
          exact ⟨⟨_, rfl, H1.out.1.at, H1.out.2.1⟩, H1.out.2.2⟩
      · have e1 : ((c : Int) == 124) = false := beq_eq_false_iff_ne.2 (by omega)
        have e2 : ((c : Int) == 41) = false := beq_eq_false_iff_ne.2 (by omega)
        obtain ⟨fn, hcf, ha1, ha2⟩ := atom_any (pat := pat) (g := g) (d := d) HP.out.1 HX.out.2.1.pre.1
        have HF := hide (And.intro ha1 ha2)
        have HNC := hide hc
        clear hc ha1 ha2
        go_wp2_with fail
        refine (next_cons HX.out.2.1).mono ?_
        rintro e_ w1 ⟨rfl, h1, g1⟩
        have H1 := hide (And.intro (HX.out.1.gr g1 hg) (And.intro h1 (grown_trans HX.out.2.2.1 g1)))
        clear h1 g1
        obtain ⟨i, ib, dm, c0, c1, c2, f1, f2, SA, SD⟩ := PAt.cells H1.out.2.1
        have H2 := hide (And.intro (H1.out.1.gr (grown_set w1 g 1 (.int .i64 ((i : Int) + 1))) hg) (And.intro (SA.out _ _ rfl) (grown_trans H1.out.2.2 (grown_set w1 g 1 (.int .i64 ((i : Int) + 1))))))
        clear SA SD
        go_wp2_with fail
        refine (HF.out.1 _).mono ?_
        rintro e_ w_ ⟨rfl, hw_⟩
        replace hw_ := hw_.symm
        subst hw_
        go_wp2_with fail
        have HA := HF.out.2 _ H2.out.2.1
        cases hR : atomF pat d c t1 with
        | bad e =>
          rw [hR] at HA
          obtain rfl : R = .bad e := by rw [← HC.out.2, row_bad HNC.out hR]; rfl
          refine HA.mono ?_
          rintro e_ w3 ⟨⟨rfl, he3⟩, g3⟩
          have hne := err_ne he3
          have HE := hide (And.intro he3 (grown_trans H2.out.2.2 g3))
          clear he3 g3 hR HA
          go_wp2
          go_ret2
          exact ⟨⟨rfl, HE.out.1⟩, HE.out.2⟩
        | ok a u =>
          rw [hR] at HA
          have hl1 := atom_len HP.out.2 hR
          have hl2 := rep_len a u
          have hl3 := repR_len u
          have hl4 := HX.out.2.2.2.2
          have hl5 := HC.out.1
          rw [List.length_cons] at hl4 hl5
          have HL : Hid (a.length ≤ 1000 ∧ (repA a u).length ≤ 1000 ∧ A.length ≤ 1000 ∧ (repR u).length < k ∧ (A ++ repA a u).length + 3 * (repR u).length ≤ n) := hide ⟨by omega, by omega, by omega, by omega, by rw [List.length_append]; omega⟩
          have HRo := hide (show rpre (A ++ repA a u) (rowF pat d k (repR u)) = R by rw [← HC.out.2]; exact (row_on HNC.out hR A).symm)
          clear hl1 hl2 hl3 hl4 hl5 hR
          refine HA.mono ?_
          rintro e_ w3 ⟨⟨v3, rfl, h3, p3⟩, g3⟩
          have H3 := hide (And.intro (H2.out.1.gr g3 hg) (And.intro p3 (And.intro (grown_trans H2.out.2.2 g3) h3)))
          clear h3 p3 g3 HA
          go_wp2_with fail
          refine (repeated_any H3.out.2.1 H3.out.2.2.2 HL.out.1).mono ?_
          rintro e_ w4 ⟨v4, rfl, h4, p4, g4⟩
          have H4 := hide (And.intro (H3.out.1.gr g4 hg) (And.intro p4 (And.intro (grown_trans H3.out.2.2.1 g4) h4)))
          clear h4 p4 g4
          go_wp2_with (at_builtin; refine wpList_append_cs appI rfl (.tmp 42) (.tmp 45) rfl (base := w.heap.size) H4.out.1 H4.out.2.2.2.1 ?c1 ?c2 H4.out.2.2.1.size ?_)
          case c1 => have h9 := HL.out; omega
          case c2 => have h9 := HL.out; omega
          intro v5 w5 h5 g5
          have H5 : Hid (RR pat w w5 g s d n R k v5 (A ++ repA a u) (repR u)) := hide ⟨by unfold Ro; rw [ics_app, List.length_append]; exact h5, H4.out.2.1.gr g5 (fun k hk => by have := row_blk H4.out.1 k hk; omega), gr_trans H4.out.2.2.1 g5 (fun k hk => .inr (row_blk H4.out.1 k hk)), ⟨HL.out.2.2.2.1, HRo.out⟩, HL.out.2.2.2.2⟩
          clear h5 g5
          go_wp2
          go_roundg k
          case measure => have := HK.out; omega
          case rel => exact ⟨_, _, H5⟩

end Go.Proofs.YteiacgpaocnofaaGreat.Rg
/- Patterns read whole, and made into programs: the program's calls. -/
namespace Go.Proofs.YteiacgpaocnofaaGreat.Rg
set_option maxRecDepth 100000
open Go.RowKit
/-- What was read ahead, and what is read behind it. -/
def apre (ls : List (List In)) : Rd (List In) → Rd (List In)
  | .ok b v => .ok (ls.foldr eitherL b) v
  | .bad e => .bad e
theorem alt_bad {pat : Nat → List Nat → Rd (List In)} {d k e : Nat} {r : List Nat} (h : rowF pat d (r.length + 1) r = .bad e) : altF pat d (k + 1) r = .bad e := by rw [altF, h]
theorem alt_last {pat : Nat → List Nat → Rd (List In)} {d k : Nat} {r u : List Nat} {a : List In} (h : rowF pat d (r.length + 1) r = .ok a u) (hu : u.head? ≠ some 124) : altF pat d (k + 1) r = .ok a u := by rw [altF, h]; simp only []; rw [if_neg hu]
theorem alt_on {pat : Nat → List Nat → Rd (List In)} {d k : Nat} {r u : List Nat} {a : List In} (h : rowF pat d (r.length + 1) r = .ok a (124 :: u)) (ls : List (List In)) : apre ls (altF pat d (k + 1) r) = apre (ls ++ [a]) (altF pat d k u) := by
  rw [altF, h]
  simp only [List.head?_cons, if_true, List.tail_cons]
  cases altF pat d k u <;> simp [apre]
theorem eitherL_len (a b : List In) : (eitherL a b).length = a.length + b.length + 2 := by simp [eitherL]; omega
theorem fold_len (a : List In) (ls : List (List In)) : (ls.foldr eitherL a).length = ls.flatten.length + 2 * ls.length + a.length := by
  induction ls with
  | nil => simp
  | cons l ls ih => rw [List.foldr_cons, eitherL_len, ih, List.flatten_cons, List.length_append, List.length_cons]; omega
theorem Lss.gr {w w' : World} {vs : List Value} {ls : List (List In)} (h : Lss w vs ls) {g : Nat} {s : ByteArray} {r : List Nat} {d : Nat} (hp : PAt w g s r d) (hg : w.grownBy w' (some g)) : Lss w' vs ls := by
  induction h with
  | nil => exact .nil
  | cons h1 _ ih => exact .cons (h1.gr hp hg) ih
theorem Lss.snoc {w : World} {vs : List Value} {ls : List (List In)} {v : Value} {l : List In} (h : Lss w vs ls) (hv : LsAt w v l) : Lss w (vs ++ [v]) (ls ++ [l]) := by
  induction h with
  | nil => exact .cons hv .nil
  | cons h1 _ ih => exact .cons h1 ih
theorem Lss.one {w : World} {vs : List Value} {ls : List (List In)} (h : Lss w vs ls) : ∀ u ∈ vs, u.oneCell' = true := by
  induction h with
  | nil => intro u hu; cases hu
  | cons h1 _ ih =>
    intro u hu
    rcases List.mem_cons.1 hu with rfl | hu
    · obtain ⟨_, _, rfl, _⟩ := h1.len; rfl
    · exact ih u hu
theorem Lss.off {w w' : World} {vs : List Value} {ls : List (List In)} (h : Lss w vs ls) {X : Option Nat} (hg : w.grownBy w' X) {T : TypeId} (hT : T ≠ 184) (hX : ∀ k, X = some k → ∃ c fr, w.heap[k]? = some (.cells c T fr)) : Lss w' vs ls := by
  induction h with
  | nil => exact .nil
  | cons h1 _ ih => exact .cons (h1.off hg hT hX) ih
theorem ss_one {w : World} {g : Nat} {v : Value} (h : w.heap[g]? = some (.cells #[v] 173 (0, 0))) (hv : v.oneCell' = true) : CsAt w 1 1 (.slice (some ⟨g, 0, none⟩) 1 1) [v] := by
  refine ⟨rfl, g, 0, 1, _, rfl, Nat.le_refl _, by omega, fun _ => ⟨rfl, (Array.getElem?_eq_some_iff.1 h).1, fun j u hu => ?_⟩, fun u hu => ?_⟩
  · rw [Nat.zero_add, cell_of_row _ _ _ _ _ _ h]
    simpa using hu
  · simp at hu; subst hu; exact hv
theorem row_form {w : World} {base e n : Nat} {v : Value} {xs : List Value} (h : w.ownsRow base e 1 v (n + 1) xs) : ∃ gg cap, v = .slice (some ⟨gg, 0, none⟩) (n + 1) cap ∧ (n + 1 ≤ cap ∧ gg < w.heap.size) ∧ ∀ j x, xs[j]? = some x → w.cell? ⟨gg, j, none⟩ = some x := by
  obtain ⟨h1, h2⟩ := h
  rcases h2 with ⟨_, h2⟩ | ⟨g, cap, cur, rfl, hb, hr, hn, hm, hs, ht⟩
  · omega
  · refine ⟨g, cap, rfl, ⟨hn, (Array.getElem?_eq_some_iff.1 hr).1⟩, fun j x hx => ?_⟩
    rw [cell_of_row _ _ _ _ _ _ hr]
    have hj := (List.getElem?_eq_some_iff.1 hx).1
    rw [← ht, List.getElem?_take, if_pos (by omega)] at hx
    simpa using hx
/-- What stands while alternatives are read. -/
def AR (pat : Nat → List Nat → Rd (List In)) (W w : World) (g : Nat) (s : ByteArray) (d n : Nat) (R : Rd (List In)) (k : Nat) (v : Value) (vs : List Value) (ls : List (List In)) (r : List Nat) : Prop :=
  w.ownsRow W.heap.size 173 1 v vs.length vs ∧ Lss w vs ls ∧ PAt w g s r d ∧ W.grownBy w (some g) ∧ (r.length < k ∧ apre ls (altF pat d k r) = R) ∧ ls.flatten.length + 2 * ls.length + 3 * r.length ≤ n
theorem drop_fold {ls : List (List In)} {q : Nat} {l a : List In} (h : ls[q]? = some l) : (ls.drop q).foldr eitherL a = eitherL l ((ls.drop (q + 1)).foldr eitherL a) := by
  obtain ⟨h1, h2⟩ := List.getElem?_eq_some_iff.1 h
  rw [List.drop_eq_getElem_cons h1, h2, List.foldr_cons]
theorem flat_at {ls : List (List In)} {q : Nat} {l : List In} (h : ls[q]? = some l) : l.length ≤ ls.flatten.length := by
  have h1 := congrArg List.length (take_flat h)
  have h2 := take_flat_len ls (q + 1)
  rw [List.length_append] at h1
  omega
theorem drop_flat (ls : List (List In)) (q : Nat) : (ls.drop q).flatten.length + 2 * (ls.drop q).length ≤ ls.flatten.length + 2 * ls.length := by
  have h1 := congrArg (fun l => l.flatten.length) (List.take_append_drop q ls)
  have h2 := congrArg List.length (List.take_append_drop q ls)
  simp only [List.flatten_append, List.length_append] at h1 h2
  omega
set_option maxRecDepth 100000 in
set_option maxHeartbeats 4000000 in
theorem pat_step {pat : Nat → List Nat → Rd (List In)} {w : World} {g : Nat} {s : ByteArray} {t : List Nat} {d : Nat} (hP : d < 20 → PatC pat (d + 1)) (hq : Short pat) (h : PAt w g s t d) : Calls Tryz.prog 207 #[.pointer (some ⟨g, 0, none⟩)] w (Ans w g s d (altF pat d (t.length + 1) t)) := by
  have hg := h.lt
  have hsh := h.short
  obtain ⟨R, hR⟩ : ∃ R, altF pat d (t.length + 1) t = R := ⟨_, rfl⟩
  rw [hR]
  obtain ⟨n, hn⟩ : ∃ n, 3 * t.length = n := ⟨_, rfl⟩
  have hn2 : n ≤ 768 := by omega
  have H1 : Hid (AR pat w w g s d n R (t.length + 1) (.slice none 0 0) [] [] t) := hide ⟨World.ownsRow_nil _ _ _ _, .nil, h, grown_refl _ _, ⟨by omega, by rw [← hR]; cases altF pat d (t.length + 1) t <;> rfl⟩, by rw [← hn]; simp⟩
  have HP := hide (And.intro hP hq)
  clear h hR hsh hn hP hq
  go_enter Tryz.func207, Tryz.ntmps207
  go_wp2
  go_loopg [4] (t.length + 1) (fun k s4 wr => ∃ (vs : List Value) (ls : List (List In)) (r : List Nat), Hid (AR pat w wr g s d n R k s4 vs ls r))
  case atStart => exact ⟨[], [], t, H1⟩
  case round =>
    clear H1
    obtain ⟨vs, ls, r, HX⟩ := hrel
    obtain ⟨k, hk⟩ : ∃ k, gk = k + 1 := ⟨gk - 1, by have := HX.out.2.2.2.2.1.1; omega⟩
    have HK := hide hk
    have HC : Hid (r.length < k + 1 ∧ apre ls (altF pat d (k + 1) r) = R) := by have h9 := HX.out.2.2.2.2.1; rw [hk] at h9; exact h9
    clear hk
    have HA := prow_any HP.out.1 HP.out.2 HX.out.2.2.1
    cases hR : rowF pat d (r.length + 1) r with
    | bad e =>
      rw [hR] at HA
      obtain rfl : R = .bad e := by rw [← HC.out.2, alt_bad hR]; rfl
      replace HA := hide HA
      clear hR
      go_wp2_with fail
      refine HA.out.mono ?_
      rintro e_ w1 ⟨⟨rfl, he3⟩, g1⟩
      have hne := err_ne he3
      have HE := hide (And.intro he3 (grown_trans HX.out.2.2.2.1 g1))
      clear he3 g1
      go_wp2
      go_ret2
      exact ⟨⟨rfl, HE.out.1⟩, HE.out.2⟩
    | ok a u =>
      rw [hR] at HA
      replace HA := hide HA
      have hl1 := row_len HP.out.2 d _ _ _ _ hR
      have hl4 := HX.out.2.2.2.2.2
      have hl5 := HC.out.1
      have hl6 := HX.out.2.1.len
      have HL : Hid (vs.length = ls.length ∧ vs.length ≤ 1000 ∧ a.length + 3 * u.length ≤ 3 * r.length ∧ ls.flatten.length + 2 * ls.length + a.length + 3 * u.length ≤ n ∧ u.length ≤ k) := hide ⟨hl6, by omega, hl1, by omega, by omega⟩
      have HR := hide hR
      clear hl1 hl4 hl5 hl6 hR
      go_wp2_with fail
      refine HA.out.mono ?_
      rintro e_ w1 ⟨⟨v1, rfl, h1, p1⟩, g1⟩
      obtain ⟨ao, ca, rfl, _, _⟩ := h1.len
      have HW : Hid ((w1.alloc (.cells #[.slice ao a.length ca] 173)).ownsRow w.heap.size 173 1 _ vs.length vs ∧ CsAt (w1.alloc (.cells #[.slice ao a.length ca] 173)) 1 1 (.slice (some ⟨w1.heap.size, 0, none⟩) 1 1) [.slice ao a.length ca]) := hide ⟨row_ext (row_gr HX.out.1 g1 hg) (alloc_below _ _), ss_one (heap_alloc_last _ _) rfl⟩
      have HV : Hid (Lss (w1.alloc (.cells #[.slice ao a.length ca] 173)) (vs ++ [.slice ao a.length ca]) (ls ++ [a]) ∧ PAt (w1.alloc (.cells #[.slice ao a.length ca] 173)) g s u d ∧ w.grownBy (w1.alloc (.cells #[.slice ao a.length ca] 173)) (some g)) :=
        hide ⟨((HX.out.2.1.gr HX.out.2.2.1 g1).snoc h1).ext (alloc_below _ _), p1.ext (alloc_below _ _), grown_trans (grown_trans HX.out.2.2.2.1 g1) (grown_alloc _ _ _)⟩
      clear h1 p1 g1 HA
      obtain ⟨na, hna⟩ : ∃ na, a.length = na := ⟨_, rfl⟩
      rw [hna] at HW HV
      rw [hna]
      have HNA := hide hna
      clear hna
      obtain ⟨m, hm⟩ : ∃ m, vs.length = m := ⟨_, rfl⟩
      rw [hm] at HW
      have HM := hide (And.intro hm (show m ≤ 1000 by rw [← hm]; exact HL.out.2.1))
      clear hm
      go_wp2_with (at_builtin; refine wpList_append_cs appS rfl (.tmp 18) (.tmp 20) rfl (base := w.heap.size) HW.out.1 HW.out.2 ?c1 ?c2 HV.out.2.2.size ?_)
      case c1 => have h9 := HM.out.2; omega
      case c2 => have h9 := HM.out.2; omega
      intro v2 w2 h2 g2
      have H2 := hide (And.intro h2 (And.intro (HV.out.1.off g2 (T := 173) (by decide) (row_ty HW.out.1)) (And.intro (HV.out.2.1.gr g2 (fun k hk => by have := row_blk HW.out.1 k hk; omega)) (gr_trans HV.out.2.2 g2 (fun k hk => .inr (row_blk HW.out.1 k hk))))))
      clear h2 g2 HW HV
      by_cases hu : u.head? = some 124
      · obtain ⟨u', rfl⟩ := head_of hu
        clear hu
        go_wp2_with fail
        refine (take_yes H2.out.2.2.1).mono ?_
        rintro e_ w3 ⟨rfl, h3, g3⟩
        have H3 : Hid (AR pat w w3 g s d n R k v2 (vs ++ [.slice ao na ca]) (ls ++ [a]) u') := hide ⟨by rw [List.length_append, HM.out.1]; exact row_gr H2.out.1 g3 hg, H2.out.2.1.gr H2.out.2.2.1 g3, h3, grown_trans H2.out.2.2.2 g3, ⟨by have h9 := HL.out.2.2.2.2; rw [List.length_cons] at h9; omega, by rw [← HC.out.2]; exact (alt_on HR.out ls).symm⟩, by
          have h9 := HL.out.2.2.2.1
          rw [List.length_cons] at h9
          rw [List.flatten_append, List.length_append, List.length_append, List.length_singleton, show [a].flatten = a by simp]
          omega⟩
        clear h3 g3
        go_wp2
        go_roundg k
        case measure => have := HK.out; omega
        case rel => exact ⟨_, _, _, H3⟩
      · have HU := hide hu
        clear hu
        obtain rfl : R = .ok (ls.foldr eitherL a) u := by rw [← HC.out.2, alt_last HR.out HU.out]; rfl
        go_wp2_with fail
        refine (take_no H2.out.2.2.1 HU.out).mono ?_
        rintro e_ w3 ⟨rfl, h3, g3⟩
        have hrow := row_gr H2.out.1 g3 hg
        obtain ⟨gg, cap, rfl, hcap, hcell⟩ := row_form hrow
        have H3 := hide (And.intro (H2.out.2.1.gr H2.out.2.2.1 g3) (And.intro h3 (And.intro (grown_trans H2.out.2.2.2 g3) hcell)))
        have hml := HM.out.2
        have hc1 : w3.cell? ⟨gg, m, none⟩ = some (.slice ao na ca) := hcell m _ (by rw [List.getElem?_append_right (by rw [HM.out.1]; exact Nat.le_refl _), HM.out.1]; simp)
        have hlast : LsAt w3 (.slice ao na ca) a := by
          obtain ⟨v9, l9, e1, e2, h9⟩ := H3.out.1.at m (by rw [List.length_append, HM.out.1]; simp)
          rw [List.getElem?_append_right (by rw [HM.out.1]; exact Nat.le_refl _), HM.out.1] at e1
          rw [List.getElem?_append_right (by rw [← HL.out.1, HM.out.1]; exact Nat.le_refl _), ← HL.out.1, HM.out.1] at e2
          simp at e1 e2
          subst e1 e2
          exact h9
        have HLA := hide hlast
        clear h3 g3 hrow hcell hlast H2 HX HC
        obtain ⟨hcp, hgg⟩ := hcap
        go_wp2
        go_loopw [8, 9] (fun s8 s9 wr => ∃ (z : Int) (S : List In), (-1 ≤ z ∧ z < m) ∧ s9 = .int .i64 z ∧ Hid (S = (ls.drop (z + 1).toNat).foldr eitherL a) ∧ Hid (LsAt wr s8 S) ∧ Hid (Below w3.heap.size w3 wr)) (fun _ i _ => (intOf i + 1).toNat)
        case atStart => exact ⟨(m : Int) - 1, a, ⟨by omega, by omega⟩, by go_num, hide (by rw [show ((m : Int) - 1 + 1).toNat = ls.length by rw [← HL.out.1, HM.out.1]; omega, List.drop_length]; rfl), HLA, Below.refl _ _⟩
        case round =>
          obtain ⟨z, S, ⟨hz1, hz2⟩, rfl, ES, HS, HB⟩ := hrel
          by_cases hz : 0 ≤ z
          · obtain ⟨q, rfl⟩ : ∃ q : Nat, z = (q : Int) := ⟨z.toNat, by omega⟩
            obtain ⟨v9, l9, e1, e2, h9⟩ := H3.out.1.at q (by rw [List.length_append, HM.out.1]; simp; omega)
            have hcq := (Below.cell (p := ⟨gg, q, none⟩) HB.out hgg).trans (H3.out.2.2.2 q _ e1)
            rw [List.getElem?_append_left (by rw [← HL.out.1, HM.out.1]; omega)] at e2
            have HQ : Hid (LsAt _ v9 l9 ∧ l9.length ≤ 1000 ∧ S.length ≤ 1000 ∧ eitherL l9 S = (ls.drop q).foldr eitherL a) := hide ⟨h9.ext HB.out, by have h8 := flat_at e2; have h7 := HL.out.2.2.2.1; omega, by
              rw [ES.out, fold_len]
              have h8 := drop_flat ls ((q : Int) + 1).toNat
              have h7 := HL.out.2.2.2.1
              omega, by rw [ES.out, show ((q : Int) + 1).toNat = q + 1 by omega]; exact (drop_fold e2).symm⟩
            clear h9 e1 e2
            have hd : decide ((0 : Int) ≤ (q : Int)) = true := decide_eq_true (by omega)
            go_wp2_with fail
            refine (either_any HQ.out.1 HQ.out.2.1 HS.out HQ.out.2.2.1).mono ?_
            rintro e_ w5 ⟨v5, rfl, h5, b5⟩
            have H5 := hide (And.intro h5 (Below.chain HB.out b5))
            clear h5 b5
            go_wp2
            go_roundw
            case rel => exact ⟨(q : Int) - 1, eitherL l9 S, ⟨by omega, by omega⟩, by go_num, hide (by rw [HQ.out.2.2.2]; congr 2; omega), H5.out.1, H5.out.2⟩
            case measure => simp [intOf]
          · obtain rfl : z = -1 := by omega
            have HF := hide (show S = ls.foldr eitherL a by rw [ES.out]; rfl)
            have HE := hide (And.intro (H3.out.2.1.ext HB.out) (grown_trans H3.out.2.2.1 (Ext.gr HB.out _)))
            go_wp2
            go_ret2
            exact ⟨⟨_, rfl, by rw [← HF.out]; exact HS.out, HE.out.1⟩, HE.out.2⟩

/-- The call that reads a pattern, at whatever depth. -/
theorem pat_any : ∀ (f d : Nat), f + d = 20 → PatC (patF (f + 1)) d := by
  intro f
  induction f with
  | zero => intro d hd w g s t h; exact pat_step (pat := patF 0) (fun h20 => by omega) (pat_len 0) h
  | succ f ih => intro d hd w g s t h; exact pat_step (pat := patF (f + 1)) (fun h20 => ih (d + 1) (by omega)) (pat_len (f + 1)) h
end Go.Proofs.YteiacgpaocnofaaGreat.Rg
/- A pattern's program: the program's call; the law's pattern that each program must know. -/
namespace Go.Proofs.YteiacgpaocnofaaGreat.Rg
set_option maxRecDepth 100000
open Go.RowKit
/-- A slice of steps from a block's first cell on. -/
def Got (w : World) (v : Value) (l : List In) : Prop :=
  ∃ g cap, v = .slice (some ⟨g, 0, none⟩) l.length cap ∧ l.length ≤ cap ∧ cap ≤ 9223372036854775807 ∧ g < w.heap.size ∧ ∀ (j : Nat) (i : In), l[j]? = some i → ∀ q, q < 7 → w.cell? ⟨g, j * 7 + q, none⟩ = (ic i)[q]?
theorem Got.ext {w w' : World} {v : Value} {l : List In} (h : Got w v l) (hb : Below w.heap.size w w') : Got w' v l := by
  obtain ⟨g, cap, e, h1, h2, h3, h4⟩ := h
  exact ⟨g, cap, e, h1, h2, Nat.lt_of_lt_of_le h3 hb.size, fun j i hj q hq => (Below.cell (p := ⟨g, j * 7 + q, none⟩) hb h3).trans (h4 j i hj q hq)⟩
theorem Ro.got {w : World} {base : Nat} {v : Value} {l : List In} (h : Ro w base v l) (hl : l ≠ []) : Got w v l := by
  obtain ⟨h1, h2⟩ := h
  rcases h2 with ⟨_, h2⟩ | ⟨g, cap, cur, hv, hb, hr, hn, hm, hs, ht⟩
  · exact absurd (List.eq_nil_of_length_eq_zero h2) hl
  · refine ⟨g, cap, hv, hn, by unfold maxLen at hm; omega, (Array.getElem?_eq_some_iff.1 hr).1, fun j i hj q hq => ?_⟩
    have hlt := (List.getElem?_eq_some_iff.1 hj).1
    rw [cell_of_row _ _ _ _ _ _ hr, ← ics_at l j q i hj hq, ← ht, List.getElem?_take, if_pos (by omega)]
    simp
/-- What Compile answers. -/
def CmpA (w : World) (R : Rd (List In)) (e : Ending) (w' : World) : Prop :=
  match R with
  | .ok l _ => (∃ v, e = .returned (.tuple #[v, .int .i64 0]) ∧ Got w' v (plF 0 l)) ∧ Below w.heap.size w w'
  | .bad n => (e = .returned (.tuple #[.slice none 0 0, .int .i64 (n : Int)]) ∧ (n = 3 ∨ n = 4)) ∧ Below w.heap.size w w'
theorem below_new {w w1 w2 : World} {o : Obj} (h1 : w1 = w.alloc o) (h : w1.grownBy w2 (some w.heap.size)) : Below w.heap.size w w2 :=
  Below.grown (by subst h1; exact alloc_below w o) h (by subst h1; simp) (fun k hk => by injection hk with hk; omega)
theorem comp_long {r : List Nat} (h : 256 < r.length) : comp r = .bad 4 := by unfold comp; rw [if_pos h]
theorem comp_bad {r : List Nat} {e : Nat} (h : ¬ 256 < r.length) (hR : patF 21 0 r = .bad e) : comp r = .bad e := by unfold comp; rw [if_neg h, hR]
theorem comp_ok {r : List Nat} {st : List In} (h : ¬ 256 < r.length) (hR : patF 21 0 r = .ok st []) : comp r = .ok (st ++ [stepI 6]) [] := by unfold comp; rw [if_neg h, hR]; rfl
theorem comp_rest {r t : List Nat} {st : List In} (h : ¬ 256 < r.length) (hR : patF 21 0 r = .ok st t) (ht : t ≠ []) : comp r = .bad 3 := by unfold comp; rw [if_neg h, hR]; simp only []; rw [if_neg ht]
set_option maxRecDepth 100000 in
theorem cmp_long (s : ByteArray) {w : World} (h : 256 < (bl s).length) : Calls Tryz.prog 194 #[.string s] w (CmpA w (.bad 4)) := by
  have hsz : decide ((256 : Int) < (s.size : Int)) = true := decide_eq_true (by rw [bl_len] at h; omega)
  clear h
  go_enter Tryz.func194, Tryz.ntmps194
  go_wp2
  go_ret2
  exact ⟨⟨rfl, .inr rfl⟩, Below.refl _ _⟩

set_option maxRecDepth 100000 in
theorem cmp_bad (s : ByteArray) {w : World} {e : Nat} (hl : ¬ 256 < (bl s).length) (hR : patF 21 0 (bl s) = .bad e) : Calls Tryz.prog 194 #[.string s] w (CmpA w (.bad e)) := by
  have hsz : decide ((256 : Int) < (s.size : Int)) = false := decide_eq_false (by rw [bl_len] at hl; omega)
  have HL := hide hl
  have HW : Hid (PAt (w.alloc (.cells #[.string s, .int .i64 0, .int .i64 0] 194)) w.heap.size s (bl s) 0) := hide ⟨0, ⟨by rw [bl_len]; omega, by rw [bl_len] at hl; omega, by omega⟩, rfl, heap_alloc_last _ _⟩
  have HC := pat_any 20 0 rfl _ _ _ _ HW.out
  rw [hR] at HC
  replace HC := hide HC
  clear hl hR
  go_enter Tryz.func194, Tryz.ntmps194
  go_wp2_with fail
  refine HC.out.mono ?_
  rintro e_ w1 ⟨⟨rfl, he⟩, g1⟩
  have hne := err_ne he
  have HE := hide (And.intro he (below_new rfl g1))
  clear he g1
  go_wp2
  go_ret2
  exact ⟨⟨rfl, HE.out.1⟩, HE.out.2⟩

set_option maxRecDepth 100000 in
theorem cmp_rest (s : ByteArray) {w : World} {st : List In} {t : List Nat} (hl : ¬ 256 < (bl s).length) (hR : patF 21 0 (bl s) = .ok st t) (ht : t ≠ []) : Calls Tryz.prog 194 #[.string s] w (CmpA w (.bad 3)) := by
  have hsz : decide ((256 : Int) < (s.size : Int)) = false := decide_eq_false (by rw [bl_len] at hl; omega)
  have HL := hide hl
  have HW : Hid (PAt (w.alloc (.cells #[.string s, .int .i64 0, .int .i64 0] 194)) w.heap.size s (bl s) 0) := hide ⟨0, ⟨by rw [bl_len]; omega, by rw [bl_len] at hl; omega, by omega⟩, rfl, heap_alloc_last _ _⟩
  have HC := pat_any 20 0 rfl _ _ _ _ HW.out
  rw [hR] at HC
  replace HC := hide HC
  have HT := hide (List.length_pos_iff.2 ht)
  clear hl hR ht
  go_enter Tryz.func194, Tryz.ntmps194
  go_wp2_with fail
  refine HC.out.mono ?_
  rintro e_ w1 ⟨⟨v, rfl, h1, p1⟩, g1⟩
  obtain ⟨i, hi, _, hr⟩ := p1
  obtain ⟨x0, _⟩ := row_reads hr
  have c1 := x0 1
  simp only [List.getElem?_toArray, List.getElem?_cons_zero, List.getElem?_cons_succ] at c1
  have HB := hide (below_new rfl g1)
  have H1 := hide h1
  have hlt : decide (i < s.size) = true := decide_eq_true (by have := HT.out; omega)
  clear x0 hr hi h1 g1
  go_wp2
  go_ret2
  exact ⟨⟨rfl, .inl rfl⟩, HB.out⟩

set_option maxRecDepth 100000 in
set_option maxHeartbeats 1000000 in
theorem cmp_ok (s : ByteArray) {w : World} {st : List In} (hl : ¬ 256 < (bl s).length) (hR : patF 21 0 (bl s) = .ok st []) : Calls Tryz.prog 194 #[.string s] w (CmpA w (.ok (st ++ [stepI 6]) [])) := by
  have hsz : decide ((256 : Int) < (s.size : Int)) = false := decide_eq_false (by rw [bl_len] at hl; omega)
  have HL := hide hl
  have HW : Hid (PAt (w.alloc (.cells #[.string s, .int .i64 0, .int .i64 0] 194)) w.heap.size s (bl s) 0) := hide ⟨0, ⟨by rw [bl_len]; omega, by rw [bl_len] at hl; omega, by omega⟩, rfl, heap_alloc_last _ _⟩
  have HC := pat_any 20 0 rfl _ _ _ _ HW.out
  rw [hR] at HC
  replace HC := hide HC
  have HN : Hid (st.length ≤ 768) := hide (by have h9 := pat_len 21 _ _ _ _ hR; simp at h9; omega)
  clear hl hR
  go_enter Tryz.func194, Tryz.ntmps194
  go_wp2_with fail
  refine HC.out.mono ?_
  rintro e_ w1 ⟨⟨v, rfl, h1, p1⟩, g1⟩
  obtain ⟨i, hi, _, hr⟩ := p1
  obtain ⟨x0, _⟩ := row_reads hr
  have c1 := x0 1
  simp only [List.getElem?_toArray, List.getElem?_cons_zero, List.getElem?_cons_succ] at c1
  have HB := hide (below_new rfl g1)
  have H1 := hide h1
  have hlt : decide (i < s.size) = false := decide_eq_false (by have := hi.1; simp at this; omega)
  clear x0 hr hi h1 g1
  obtain ⟨ao, c, rfl, _, _⟩ := H1.out.len
  obtain ⟨n, hn⟩ : ∃ n, st.length = n := ⟨_, rfl⟩
  rw [hn]
  rw [hn] at H1
  have HNN := hide hn
  clear hn
  go_wp2_with fail
  refine (step_any 6).mono ?_
  rintro e_ w2 ⟨v2, rfl, h2, b2⟩
  obtain ⟨ao2, c2, rfl, _, _⟩ := h2.len
  have H2 := hide (And.intro (H1.out.ext b2) (And.intro h2 (Below.chain HB.out b2)))
  clear h2 b2
  have BA := hide (alloc_below w2 (.cells #[.slice ao n c, .slice ao2 1 c2] 173))
  go_wp2_with fail
  refine (row_any (ls := [st, [stepI 6]]) (heap_alloc_last w2 (.cells #[.slice ao n c, .slice ao2 1 c2] 173)) (.cons (H2.out.1.ext BA.out) (.cons (H2.out.2.1.ext BA.out) .nil)) (by simp) ?cl).mono ?_
  case cl => have := HN.out; simp; omega
  rintro e_ w3 ⟨v3, rfl, h3, b3⟩
  rw [show ([st, [stepI 6]] : List (List In)).flatten = st ++ [stepI 6] by simp] at h3
  have H3 := hide (And.intro h3 (And.intro (Below.chain H2.out.2.2 (Below.chain BA.out b3)) (Nat.le_trans BA.out.size b3.size)))
  clear h3 b3
  go_wp2_with fail
  refine (place_any H3.out.1 (by simp) (by have := HN.out; simp; omega)).mono ?_
  rintro e_ w4 ⟨rfl, h4, b4⟩
  have H4 := hide (And.intro (h4.got (by intro e; have := congrArg List.length e; rw [plF_len] at this; simp at this)) (H3.out.2.1.trans (b4.mono (Nat.le_trans H2.out.2.2.size BA.out.size))))
  clear h4 b4
  go_wp2
  go_ret2
  exact ⟨⟨_, rfl, H4.out.1⟩, H4.out.2⟩

set_option maxRecDepth 100000 in
theorem Compile_any (s : ByteArray) {w : World}  : Calls Tryz.prog 194 #[.string s] w (CmpA w (comp (bl s))) := by
  by_cases hl : 256 < (bl s).length
  · rw [comp_long hl]; exact cmp_long s hl
  · cases hR : patF 21 0 (bl s) with
    | bad e => rw [comp_bad hl hR]; exact cmp_bad s hl hR
    | ok st t =>
      by_cases ht : t = []
      · subst ht; rw [comp_ok hl hR]; exact cmp_ok s hl hR
      · rw [comp_rest hl hR ht]; exact cmp_rest s hl hR ht

end Go.Proofs.YteiacgpaocnofaaGreat.Rg
