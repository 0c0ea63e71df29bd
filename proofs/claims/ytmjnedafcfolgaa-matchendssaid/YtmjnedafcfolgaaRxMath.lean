/- Patterns: their steps, and how they are read, as functions of lists of bytes. -/
import Derived.Test.YtmjnedafcfolgaaRows
import Derived.WalkKit
namespace Go.Proofs.Ytmjnedafcfolgaa
/-- What reading answers: what was read, and what is left; or the error's number. -/
inductive Rd (α : Type)
  | ok (a : α) (r : List Nat)
  | bad (e : Nat)
/-- A step. -/
structure In where
  k : Int
  s : Nat → Nat
  x : Int
  y : Int
def zs : Nat → Nat := fun _ => 0
def putS (s : Nat → Nat) (c : Nat) : Nat → Nat := fun j => if j = c / 64 then s j ||| 2 ^ (c % 64) else s j
/-- So many bytes from one on put in. -/
def addN (s : Nat → Nat) (c : Nat) : Nat → Nat → Nat
  | 0 => s
  | n + 1 => addN (putS s c) (c + 1) n
def addS (s : Nat → Nat) (lo hi : Nat) : Nat → Nat := addN s lo (hi + 1 - lo)
def othS (s : Nat → Nat) : Nat → Nat := fun j => 2 ^ 64 - 1 - s j
def charI (s : Nat → Nat) : In := ⟨1, s, 0, 0⟩
def stepI (k : Int) : In := ⟨k, zs, 0, 0⟩
def splitI (x y : Int) : In := ⟨2, zs, x, y⟩
def jumpI (x : Int) : In := ⟨3, zs, x, 0⟩
def onlyI (c : Nat) : In := charI (addS zs c c)
def eitherL (a b : List In) : List In := splitI 1 ((a.length : Int) + 2) :: (a ++ (jumpI ((b.length : Int) + 1) :: b))
def starL (a : List In) : List In := splitI 1 ((a.length : Int) + 2) :: (a ++ [jumpI (-(a.length : Int) - 1)])
def plusL (a : List In) : List In := a ++ [splitI (-(a.length : Int)) 1]
def optL (a : List In) : List In := splitI 1 ((a.length : Int) + 1) :: a
def plI (n : Nat) (i : In) : In := if i.k = 2 then ⟨i.k, i.s, Go.RowKit.wrap64 (i.x + n), Go.RowKit.wrap64 (i.y + n)⟩ else if i.k = 3 then ⟨i.k, i.s, Go.RowKit.wrap64 (i.x + n), i.y⟩ else i
/-- The steps from number n on, placed. -/
def plF (n : Nat) : List In → List In
  | [] => []
  | i :: l => plI n i :: plF (n + 1) l
theorem plF_len (l : List In) : ∀ n, (plF n l).length = l.length := by
  induction l with
  | nil => intro n; rfl
  | cons i l ih => intro n; simp [plF, ih]
theorem plF_at (l : List In) : ∀ n j, (plF n l)[j]? = l[j]?.map (plI (n + j)) := by
  induction l with
  | nil => intro n j; simp [plF]
  | cons i l ih =>
    intro n j
    cases j with
    | zero => simp [plF]
    | succ j => simp only [plF, List.getElem?_cons_succ, ih, Nat.add_assoc, Nat.add_comm 1 j]
theorem plF_app (a b : List In) : ∀ n, plF n (a ++ b) = plF n a ++ plF (n + a.length) b := by
  induction a with
  | nil => intro n; simp [plF]
  | cons i l ih => intro n; simp [plF, ih, Nat.add_comm, Nat.add_left_comm]
def memberS : List Nat → Option (Nat × List Nat)
  | [] => none
  | c :: t => if c = 93 then none else if c = 92 then (match t with | [] => none | e :: u => some (e, u)) else some (c, t)
def btw : List Nat → Bool
  | a :: b :: _ => a == 45 && b != 93
  | _ => false
def spanS (r : List Nat) : Option (Nat × Nat × List Nat) :=
  match memberS r with
  | none => none
  | some (lo, t) => if btw t then (match memberS t.tail with | none => none | some (hi, u) => if lo ≤ hi then some (lo, hi, u) else none) else some (lo, lo, t)
def clsF : Nat → (Nat → Nat) → List Nat → Rd (Nat → Nat)
  | 0, _, _ => .bad 3
  | f + 1, s, r =>
    match spanS r with
    | none => .bad 3
    | some (lo, hi, t) => if t.head? = some 93 then .ok (addS s lo hi) t.tail else clsF f (addS s lo hi) t
def classS (r : List Nat) : Rd (List In) :=
  if r.head? = some 94 then (match clsF (r.tail.length + 1) zs r.tail with | .bad e => .bad e | .ok s t => .ok [charI (othS s)] t)
  else (match clsF (r.length + 1) zs r with | .bad e => .bad e | .ok s t => .ok [charI s] t)
def repA (a : List In) (t : List Nat) : List In :=
  if t.head? = some 42 then starL a else if t.head? = some 43 then plusL a else if t.head? = some 63 then optL a else a
def repR (t : List Nat) : List Nat :=
  if t.head? = some 42 then t.tail else if t.head? = some 43 then t.tail else if t.head? = some 63 then t.tail else t
def groupF (pat : Nat → List Nat → Rd (List In)) (d : Nat) (t : List Nat) : Rd (List In) :=
  if d = 20 then .bad 4 else match pat (d + 1) t with | .bad e => .bad e | .ok st r => if r.head? = some 41 then .ok st r.tail else .bad 3
def escS (t : List Nat) : Rd (List In) := match t with | [] => .bad 3 | e :: u => .ok [onlyI e] u
def atomF (pat : Nat → List Nat → Rd (List In)) (d c : Nat) (t : List Nat) : Rd (List In) :=
  if c = 92 then escS t
  else if c = 46 then .ok [charI (othS zs)] t
  else if c = 91 then classS t
  else if c = 40 then groupF pat d t
  else if c = 94 then .ok [stepI 4] t
  else if c = 36 then .ok [stepI 5] t
  else if c = 42 ∨ c = 43 ∨ c = 63 then .bad 3
  else .ok [onlyI c] t
def rowF (pat : Nat → List Nat → Rd (List In)) (d : Nat) : Nat → List Nat → Rd (List In)
  | 0, _ => .bad 3
  | f + 1, r =>
    match r with
    | [] => .ok [] []
    | c :: t => if c = 124 ∨ c = 41 then .ok [] (c :: t) else
      match atomF pat d c t with
      | .bad e => .bad e
      | .ok a u => match rowF pat d f (repR u) with
        | .bad e => .bad e
        | .ok b v => .ok (repA a u ++ b) v
def altF (pat : Nat → List Nat → Rd (List In)) (d : Nat) : Nat → List Nat → Rd (List In)
  | 0, _ => .bad 3
  | f + 1, r =>
    match rowF pat d (r.length + 1) r with
    | .bad e => .bad e
    | .ok a t => if t.head? = some 124 then (match altF pat d f t.tail with | .bad e => .bad e | .ok b u => .ok (eitherL a b) u) else .ok a t
def patF : Nat → Nat → List Nat → Rd (List In)
  | 0, _, _ => .bad 3
  | f + 1, d, r => altF (patF f) d (r.length + 1) r
/-- A pattern's program before it is placed. -/
def comp (r : List Nat) : Rd (List In) :=
  if 256 < r.length then .bad 4 else match patF 21 0 r with | .bad e => .bad e | .ok st t => if t = [] then .ok (st ++ [stepI 6]) [] else .bad 3
def Rd.err {α : Type} : Rd α → Nat
  | .ok _ _ => 0
  | .bad e => e
def Rd.got {α : Type} : Rd (List α) → List α
  | .ok a _ => a
  | .bad _ => []
/-! How long: at most three steps for each byte. -/
theorem member_len {r t : List Nat} {c : Nat} (h : memberS r = some (c, t)) : t.length < r.length := by
  unfold memberS at h
  split at h
  · cases h
  · rename_i c' t'
    split at h
    · cases h
    · split at h
      · split at h
        · cases h
        · injection h with h; injection h with h1 h2; subst h2; simp; omega
      · injection h with h; injection h with h1 h2; subst h2; simp
theorem span_len {r t : List Nat} {lo hi : Nat} (h : spanS r = some (lo, hi, t)) : t.length < r.length := by
  unfold spanS at h
  split at h
  · cases h
  · rename_i lo' t' hm
    have h1 := member_len hm
    split at h
    · split at h
      · cases h
      · rename_i hi' u hm2
        have h2 := member_len hm2
        split at h
        · injection h with h; injection h with _ h; injection h with _ h; subst h; simp at h2; omega
        · cases h
    · injection h with h; injection h with _ h; injection h with _ h; subst h; exact h1
theorem cls_len : ∀ (f : Nat) (s s' : Nat → Nat) (r t : List Nat), clsF f s r = .ok s' t → t.length + 2 ≤ r.length := by
  intro f
  induction f with
  | zero => intro s s' r t h; cases h
  | succ f ih =>
    intro s s' r t h
    unfold clsF at h
    split at h
    · cases h
    · rename_i lo hi u hs
      have h1 := span_len hs
      split at h
      · rename_i hh
        injection h with _ h
        subst h
        cases u with
        | nil => simp at hh
        | cons a u => simp at h1 ⊢; omega
      · have := ih _ _ _ _ h
        omega
theorem class_len {r t : List Nat} {a : List In} (h : classS r = .ok a t) : a.length = 1 ∧ t.length ≤ r.length := by
  unfold classS at h
  split at h
  · split at h
    · cases h
    · rename_i hc
      have := cls_len _ _ _ _ _ hc
      injection h with h1 h2
      subst h1 h2
      simp at this ⊢; omega
  · split at h
    · cases h
    · rename_i hc
      have := cls_len _ _ _ _ _ hc
      injection h with h1 h2
      subst h1 h2
      simp at this ⊢; omega
/-- A way to read what parentheses hold that keeps the count. -/
def Short (pat : Nat → List Nat → Rd (List In)) : Prop := ∀ d r a t, pat d r = .ok a t → a.length + 3 * t.length ≤ 3 * r.length
theorem group_len {pat : Nat → List Nat → Rd (List In)} (hp : Short pat) {d : Nat} {t u : List Nat} {a : List In} (h : groupF pat d t = .ok a u) : a.length + 3 * u.length ≤ 3 * t.length := by
  unfold groupF at h
  split at h
  · cases h
  · split at h
    · cases h
    · rename_i st r hr
      have := hp _ _ _ _ hr
      split at h
      · injection h with h1 h2; subst h1 h2; simp; omega
      · cases h
theorem atom_len {pat : Nat → List Nat → Rd (List In)} (hp : Short pat) {d c : Nat} {t u : List Nat} {a : List In} (h : atomF pat d c t = .ok a u) : a.length + 3 * u.length ≤ 3 * t.length + 1 := by
  unfold atomF at h
  split at h
  · unfold escS at h
    split at h
    · cases h
    · injection h with h1 h2; subst h1 h2; simp; omega
  split at h
  · injection h with h1 h2; subst h1 h2; simp; omega
  split at h
  · have := class_len h; omega
  split at h
  · have := group_len hp h; omega
  split at h
  · injection h with h1 h2; subst h1 h2; simp; omega
  split at h
  · injection h with h1 h2; subst h1 h2; simp; omega
  split at h
  · cases h
  · injection h with h1 h2; subst h1 h2; simp; omega
theorem rep_len (a : List In) (t : List Nat) : (repA a t).length + 3 * (repR t).length ≤ a.length + 3 * t.length := by
  unfold repA repR
  cases t with
  | nil => simp
  | cons c t =>
    simp only [List.head?_cons, Option.some.injEq, List.tail_cons]
    split
    · simp [starL]; omega
    split
    · simp [plusL]; omega
    split
    · simp [optL]; omega
    · simp
theorem repR_len (t : List Nat) : (repR t).length ≤ t.length := by
  unfold repR
  split
  · simp
  split
  · simp
  split
  · simp
  · exact Nat.le_refl _
theorem row_len {pat : Nat → List Nat → Rd (List In)} (hp : Short pat) (d : Nat) : ∀ (f : Nat) (r : List Nat) (a : List In) (t : List Nat), rowF pat d f r = .ok a t → a.length + 3 * t.length ≤ 3 * r.length := by
  intro f
  induction f with
  | zero => intro r a t h; cases h
  | succ f ih =>
    intro r a t h
    unfold rowF at h
    split at h
    · injection h with h1 h2; subst h1 h2; simp
    · split at h
      · injection h with h1 h2; subst h1 h2; simp
      · split at h
        · cases h
        · rename_i x u hx
          split at h
          · cases h
          · rename_i b v hb
            injection h with h1 h2
            subst h1 h2
            have := ih _ _ _ hb
            have := atom_len hp hx
            have := rep_len x u
            simp; omega
theorem alt_len {pat : Nat → List Nat → Rd (List In)} (hp : Short pat) (d : Nat) : ∀ (f : Nat) (r : List Nat) (a : List In) (t : List Nat), altF pat d f r = .ok a t → a.length + 3 * t.length ≤ 3 * r.length := by
  intro f
  induction f with
  | zero => intro r a t h; cases h
  | succ f ih =>
    intro r a t h
    unfold altF at h
    split at h
    · cases h
    · rename_i x u hx
      have := row_len hp d _ _ _ _ hx
      split at h
      · rename_i hh
        split at h
        · cases h
        · rename_i b v hb
          have := ih _ _ _ hb
          injection h with h1 h2
          subst h1 h2
          cases u with
          | nil => simp at hh
          | cons c u => simp [eitherL] at *; omega
      · injection h with h1 h2; subst h1 h2; omega
theorem pat_len : ∀ f, Short (patF f) := by
  intro f
  induction f with
  | zero => intro d r a t h; cases h
  | succ f ih => intro d r a t h; exact alt_len ih d _ _ _ _ h
end Go.Proofs.Ytmjnedafcfolgaa
