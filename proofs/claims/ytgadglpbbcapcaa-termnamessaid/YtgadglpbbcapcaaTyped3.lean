/- A region whose operations read, make memory, make variables and fill variables whole: what each of them gives, told by what it reads, holds behind all of them, in whatever order they come. For any program. -/
import Derived.Test.YtgadglpbbcapcaaTyped2
import Derived.Deep.WholeRow
namespace Go
open Go.RowKit
section
variable {P : Program} {Q : Exit → Act → World → Prop} {md : Region.Mode}
/-- ANY ORDER, by what holds behind any part of the operations that waits for nobody outside it. -/
theorem any_of_inv {os : List Oper} (I : (Nat → Prop) → Act → World → Prop)
    (hback : ∀ (i : Nat) (o : Oper), os[i]? = some o → ∀ e ∈ o.after, Region.binds md e = true → e.on < i)
    (hst : ∀ (L : Nat → Prop) (i : Nat) (a : Act) (w : World), i < os.length → ¬ L i → (∀ j, dep md os.toArray i j = true → L j) → I L a w → wpOp P os.toArray Q i (fun a' w' => I (fun j => L j ∨ j = i) a' w') a w)
    (hfin : ∀ (L : Nat → Prop) (a : Act) (w : World), (∀ j, j < os.length → L j) → I L a w → Q .normal a w) :
    ∀ (fuel : Nat) (listed : Array Bool) (a : Act) (w : World), listed.size = os.length → unl listed os.length = fuel → I (fun j => listed.getD j false = true) a w → wpAny P md os.toArray Q fuel listed a w := by
  have fin : ∀ (listed : Array Bool) (a : Act) (w : World), listed.size = os.length → I (fun j => listed.getD j false = true) a w → (∀ j, j < os.length → listed.getD j true = true) → Q .normal a w := fun listed a w hsz h hall =>
    hfin _ a w (fun j hj => by rw [getD_tf (by omega) false true]; exact hall j hj) h
  intro fuel
  induction fuel with
  | zero =>
    intro listed a w hsz hu h
    have hall := unl_zero listed _ hu
    refine ⟨?_, fin listed a w hsz h hall⟩
    cases hr : Region.ready md os.toArray listed with
    | nil => rfl
    | cons i r =>
      have hm : i ∈ Region.ready md os.toArray listed := by rw [hr]; exact List.mem_cons_self ..
      obtain ⟨h1, o, ho, _⟩ := mem_ready.1 hm
      have hi : i < os.length := by simpa using (Array.getElem?_eq_some_iff.1 ho).1
      rw [hall i hi] at h1; cases h1
  | succ fuel ih =>
    intro listed a w hsz hu h
    refine ⟨fun hr => fin listed a w hsz h (fun j => ?_), fun i hi => ?_⟩
    · induction j using Nat.strongRecOn with
      | ind j ihj =>
        intro hj
        cases hlj : listed.getD j true with
        | true => rfl
        | false =>
          exfalso
          have hm : j ∈ Region.ready md os.toArray listed := by
            obtain ⟨o, ho⟩ : ∃ o, os.toArray[j]? = some o := ⟨_, Array.getElem?_eq_getElem (by simpa using hj)⟩
            refine mem_ready.2 ⟨hlj, o, ho, fun e he hb => ?_⟩
            have h1 := hback j o (by simpa using ho) e he hb
            rw [getD_tf (by omega) false true]
            exact ihj e.on h1 (by omega)
          rw [hr] at hm
          cases hm
    · obtain ⟨h1, o, ho, hall⟩ := mem_ready.1 hi
      have hio : i < os.length := by simpa using (Array.getElem?_eq_some_iff.1 ho).1
      refine wpOp_mono ?_ (hst _ i a w hio (by rw [getD_tf (by omega) false true, h1]; simp) (fun j hj => ?_) h)
      · intro a' w' h'
        refine ih _ a' w' (by simpa using hsz) ?_ ?_
        · have := unl_set listed i (by omega) h1 os.length
          rw [if_pos hio] at this
          omega
        · have : (fun j => listed.getD j false = true ∨ j = i) = (fun j => (listed.setIfInBounds i true).getD j false = true) := funext fun j => propext (by
            rw [listed_set _ _ _ _ (by omega)]
            by_cases e : j = i
            · simp [e]
            · simp [e])
          rw [← this]; exact h'
      · unfold dep at hj
        rw [ho] at hj
        simp only [Option.map_some, Option.getD_some] at hj
        obtain ⟨e, he, hb⟩ := Array.any_eq_true'.1 hj
        simp only [Bool.and_eq_true, beq_iff_eq] at hb
        rw [← hb.2]
        exact hall e he hb.1
theorem wp_region_inv {os : List Oper} {id : Nat} {a0 : Act} {w0 : World} (I : (Nat → Prop) → Act → World → Prop) (hm : P.follows .mixedOrders = true)
    (hback : ∀ (i : Nat) (o : Oper), os[i]? = some o → ∀ e ∈ o.after, Region.binds .any e = true → e.on < i)
    (h0 : I (fun _ => False) a0 w0.drew)
    (hst : ∀ (L : Nat → Prop) (i : Nat) (a : Act) (w : World), i < os.length → ¬ L i → (∀ j, dep .any os.toArray i j = true → L j) → I L a w → wpOp P os.toArray Q i (fun a' w' => I (fun j => L j ∨ j = i) a' w') a w)
    (hfin : ∀ (L : Nat → Prop) (a : Act) (w : World), (∀ j, j < os.length → L j) → I L a w → Q .normal a w) :
    (Code.region id os.toArray true).wp P Q a0 w0 := by
  refine wp_region_any hm (any_of_inv I hback hst hfin _ _ _ _ (by simp) (by simpa using unl_all os.length os.length (Nat.le_refl _)) ?_)
  have : (fun _ : Nat => False) = (fun j => (Array.replicate os.length false).getD j false = true) := funext fun j => propext (by
    constructor
    · exact fun h => h.elim
    · intro h
      rcases Nat.lt_or_ge j os.length with hj | hj
      · simp [hj] at h
      · simp [hj] at h)
  rw [this] at h0
  simpa using h0
theorem wp_region_inv_lined {os : List Oper} {id : Nat} {a0 : Act} {w0 : World} (I : (Nat → Prop) → Act → World → Prop)
    (hback : ∀ (i : Nat) (o : Oper), os[i]? = some o → ∀ e ∈ o.after, Region.binds .text e = true → e.on < i)
    (h0 : I (fun _ => False) a0 w0)
    (hst : ∀ (L : Nat → Prop) (i : Nat) (a : Act) (w : World), i < os.length → ¬ L i → (∀ j, dep .text os.toArray i j = true → L j) → (∀ j, j < i → L j) → I L a w → wpOp P os.toArray Q i (fun a' w' => I (fun j => L j ∨ j = i) a' w') a w)
    (hfin : ∀ (L : Nat → Prop) (a : Act) (w : World), (∀ j, j < os.length → L j) → I L a w → Q .normal a w) :
    (Code.region id os.toArray false).wp P Q a0 w0 := by
  have key : ∀ (m k : Nat) (a : Act) (w : World), k + m = os.length → I (fun j => j < k) a w → wpOps P os.toArray Q (List.range' k m) a w := by
    intro m
    induction m with
    | zero => intro k a w hk h; exact hfin _ a w (fun j hj => by omega) h
    | succ m ih =>
      intro k a w hk h
      rw [List.range'_succ, wpOps_cons]
      refine wpOp_mono ?_ (hst _ k a w (by omega) (by omega) (fun j hj => ?_) (fun j hj => hj) h)
      · intro a' w' h'
        have : (fun j => j < k ∨ j = k) = (fun j => j < k + 1) := funext fun j => propext (by omega)
        rw [this] at h'
        exact ih (k + 1) a' w' (by omega) h'
      · obtain ⟨o, ho⟩ : ∃ o, os[k]? = some o := ⟨_, List.getElem?_eq_getElem (by omega)⟩
        unfold dep at hj
        have ho' : os.toArray[k]? = some o := by simpa using ho
        rw [ho'] at hj
        simp only [Option.map_some, Option.getD_some] at hj
        obtain ⟨e, he, hb⟩ := Array.any_eq_true'.1 hj
        simp only [Bool.and_eq_true, beq_iff_eq] at hb
        rw [← hb.2]
        exact hback k o ho e he hb.1
  refine wp_region (by
    rw [List.range_eq_range', List.size_toArray]
    refine key os.length 0 a0 w0 (by omega) ?_
    have : (fun _ : Nat => False) = (fun j => j < 0) := funext fun j => propext ⟨fun h => h.elim, fun h => absurd h (Nat.not_lt_zero _)⟩
    rw [← this]; exact h0)
/-- As it was below B, but for some blocks. -/
structure Lull (B : Nat) (S : List Nat) (w w' : World) : Prop where
  os : w'.os = w.os
  tape : w'.tape = w.tape
  output : w'.output = w.output
  size : w.heap.size ≤ w'.heap.size
  block : ∀ k, k < B → k ∉ S → w'.heap[k]? = w.heap[k]?
theorem Lull.refl (B : Nat) (S : List Nat) (w : World) : Lull B S w w := ⟨rfl, rfl, rfl, Nat.le_refl _, fun _ _ _ => rfl⟩
theorem Lull.trans {B : Nat} {S : List Nat} {a b c : World} (h : Lull B S a b) (k : Lull B S b c) : Lull B S a c :=
  ⟨k.os.trans h.os, k.tape.trans h.tape, k.output.trans h.output, Nat.le_trans h.size k.size, fun i hi hs => (k.block i hi hs).trans (h.block i hi hs)⟩
theorem Lull.of_ext {B : Nat} {S : List Nat} {w w' : World} (h : Ext w w') (hB : B ≤ w.heap.size) : Lull B S w w' := ⟨h.os, h.tape, h.output, h.size, fun i hi _ => h.block i (Nat.lt_of_lt_of_le hi hB)⟩
theorem Lull.drew (B : Nat) (S : List Nat) (w : World) : Lull B S w w.drew := ⟨rfl, rfl, rfl, Nat.le_refl _, fun _ _ _ => rfl⟩
theorem Lull.setRow {B : Nat} {S : List Nat} (w : World) (g : Nat) (cs : Array Value) (hg : g ∈ S ∨ B ≤ g) : Lull B S w (w.setRow g cs) :=
  ⟨rfl, rfl, rfl, Nat.le_of_eq (setRow_size _ _ _).symm, fun i hi hs => setRow_other _ _ _ _ (fun e => by
    subst e
    rcases hg with h | h
    · exact hs h
    · omega)⟩
theorem Lull.below {B C : Nat} {S : List Nat} {w w' : World} (h : Lull B S w w') (hC : C ≤ B) (hS : ∀ s ∈ S, C ≤ s) : Below C w w' :=
  ⟨h.os, h.tape, h.output, h.size, fun k hk => h.block k (by omega) (fun hm => by have := hS k hm; omega)⟩
theorem Lull.ext {w w' : World} (h : Lull w.heap.size [] w w') : Ext w w' := h.below (Nat.le_refl _) (by simp)
/-- What stays so while old memory but for some blocks is as it was. -/
def LullT (B : Nat) (S : List Nat) (T : STy) : Prop := ∀ w w' v, Lull B S w w' → T.p w v → T.p w' v
theorem lull_isv (B : Nat) (S : List Nat) (x : Value) : LullT B S (isv x) := fun _ _ _ _ h => h
theorem lull_any (B : Nat) (S : List Nat) : LullT B S anyv := fun _ _ _ _ _ => trivial
def LullL (B : Nat) (S : List Nat) (soft : List Nat) : Nat → List STy → Prop
  | _, [] => True
  | i, T :: r => (soft.contains i = true ∨ LullT B S T) ∧ LullL B S soft (i + 1) r
theorem LullL.at {B : Nat} {S soft : List Nat} : ∀ {l : List STy} {i : Nat}, LullL B S soft i l → ∀ c, soft.contains (i + c) = false → LullT B S (l.getD c anyv)
  | [], _, _, _, _ => by simpa using lull_any B S
  | T :: r, i, h, 0, hc => by
    rcases h.1 with h1 | h1
    · rw [Nat.add_zero] at hc; rw [hc] at h1; cases h1
    · simpa using h1
  | T :: r, i, h, c + 1, hc => by
    have := LullL.at h.2 c (by rw [show i + 1 + c = i + (c + 1) by omega]; exact hc)
    simpa using this
theorem LullL.get {B : Nat} {S soft : List Nat} {l : List STy} (h : LullL B S soft 0 l) : ∀ c, soft.contains c = false → LullT B S (l.getD c anyv) := fun c hc => h.at c (by rw [Nat.zero_add]; exact hc)
/-- A row of n cells. -/
def RowT (n : Nat) (T : STy) : Prop := ∀ w v, T.p w v → ∃ A : Array Value, v = .agg A ∧ A.size = n ∧ A.all (·.oneCell') = true
/-- What an operation is to the law: it gives a value · it reads a variable that another one fills behind it · it makes a variable · it fills one that an operation made · it fills one that was there. -/
inductive Pk where
  | val (reads : List (Nat × Nat)) (out : Nat)
  | ld (k t out : Nat)
  | alc (ty n : Nat)
  | sto (j s c : Nat)
  | put (k t s c : Nat)
def Pk.out? : Pk → Option Nat
  | .val _ c => some c
  | .ld _ _ c => some c
  | _ => none
def Pk.isAlc : Pk → Bool
  | .alc _ _ => true
  | _ => false
def Pk.isSto (j : Nat) : Pk → Bool
  | .sto i _ _ => i == j
  | _ => false
def Pk.isPut (k : Nat) : Pk → Bool
  | .put i _ _ _ => i == k
  | _ => false
def Pk.src : Pk → List (Nat × Nat)
  | .val r _ => r
  | .ld _ _ _ => []
  | .alc _ _ => []
  | .sto _ s c => [(s, c)]
  | .put _ _ s c => [(s, c)]
def Pk.fills : Pk → Bool
  | .sto _ _ _ => true
  | .put _ _ _ _ => true
  | _ => false
def outOf3 (plan : List Pk) (j : Nat) : Option Nat := (plan[j]?).bind Pk.out?
/-- One operation comes behind another in whatever order. -/
def comes (md : Region.Mode) (M : List Nat) (k i : Nat) : Bool := (match md with | .text => decide (i < k) | _ => false) || waits M k i
/-- The plan fits the region's own order. -/
def planOk3 (md : Region.Mode) (ops : Array Oper) (n : Nat) (soft : List Nat) (ss : List (Nat × Nat)) (pre : List (Nat × Nat)) (plan : List Pk) : Bool :=
  let M := masks md ops ops.size
  plan.length == ops.size && (List.range ops.size).all fun i => match ops[i]?, plan[i]? with
    | some o, some p =>
      (match o.dst with | some d => !p.fills && decide (d < n) && (List.range i).all (fun j => dstOf ops j != some d) && ss.all (fun x => x.2 != d) | none => p.fills) &&
      o.after.all (fun e => !Region.binds md e || decide (e.on < i)) &&
      p.src.all (fun x => (List.range ops.size).any (fun j => dstOf ops j == some x.1 && dep md ops i j && outOf3 plan j == some x.2) ||
        (pre.contains x && (List.range ops.size).all (fun j => dstOf ops j != some x.1 || dep md ops j i || j == i))) &&
      p.src.all (fun x => !soft.contains x.2 || (List.range ops.size).all (fun k => !((plan[k]?).map (·.fills)).getD false || comes md M k i)) &&
      (match p with
        | .ld k t _ => ss.contains (k, t) && (List.range ops.size).all (fun j => !((plan[j]?).map (·.isPut k)).getD false || waits M j i)
        | .sto j _ _ => ((plan[j]?).map (·.isAlc)).getD false && dep md ops i j && (List.range ops.size).all (fun l => l == i || !((plan[l]?).map (·.isSto j)).getD false)
        | .put k t _ _ => ss.contains (k, t) && (List.range ops.size).all (fun l => l == i || !((plan[l]?).map (·.isPut k)).getD false)
        | _ => true)
    | _, _ => false
/-- A variable that was there and is filled: its block, its type, its cells. -/
abbrev Snk := Nat × TypeId × Nat
def SnkOk (S : List Snk) : Prop := ∀ (k k' : Nat) (x y : Snk), S[k]? = some x → S[k']? = some y → x.1 = y.1 → k = k'
theorem snk0 : SnkOk [] := fun k _ _ _ h => by simp at h
theorem snk1 (x : Snk) : SnkOk [x] := fun k k' u v h h' _ => by
  have h1 := (List.getElem?_eq_some_iff.1 h).1
  have h2 := (List.getElem?_eq_some_iff.1 h').1
  simp at h1 h2
  omega
structure PI3 (md : Region.Mode) (ops : Array Oper) (n : Nat) (soft : List Nat) (S : List Snk) (ss : List (Nat × Nat)) (plan : List Pk) (tys : Nat → STy) (a0 : Act) (w0 : World) (L : Nat → Prop) (a : Act) (w : World) : Prop where
  calm : Lull w0.heap.size (S.map (·.1)) w0 w
  size : a.tmps.size = n
  defers : a.defers = a0.defers
  ext : (∀ k p, L k → plan[k]? = some p → p.fills = false) → Ext w0 w
  row : md = .text → ∀ j i, L j → i < j → L i
  val : ∀ j d c, L j → dstOf ops j = some d → outOf3 plan j = some c → (soft.contains c = true → ∀ k p, L k → plan[k]? = some p → p.fills = false) → (tys c).p w (a.tmps.getD d undef)
  alc : ∀ j d ty m, L j → dstOf ops j = some d → plan[j]? = some (.alc ty m) → ∃ g cs, a.tmps.getD d undef = .pointer (some ⟨g, 0, none⟩) ∧ w0.heap.size ≤ g ∧ g < w.heap.size ∧ w.heap[g]? = some (.cells cs ty (0, 0)) ∧ cs.size = m ∧ ∀ i s c, L i → plan[i]? = some (.sto j s c) → (tys c).p w (.agg cs)
  dif : ∀ j j' d d' ty m ty' m', L j → L j' → j ≠ j' → plan[j]? = some (.alc ty m) → plan[j']? = some (.alc ty' m') → dstOf ops j = some d → dstOf ops j' = some d' → a.tmps.getD d undef ≠ a.tmps.getD d' undef
  snk : ∀ k g ty m, S[k]? = some (g, ty, m) → ∃ cs, w.heap[g]? = some (.cells cs ty (0, 0)) ∧ cs.size = m ∧ ((∀ i t s c, L i → plan[i]? ≠ some (.put k t s c)) → w.heap[g]? = w0.heap[g]?) ∧ ∀ i t s c, L i → plan[i]? = some (.put k t s c) → (tys c).p w (.agg cs)
  old : ∀ s, (∀ j, L j → dstOf ops j ≠ some s) → a.tmps.getD s undef = a0.tmps.getD s undef
  closed : ∀ j i, L j → dep md ops j i = true → L i
/-- What is to be shown of an operation. -/
def OkOne3 (P : Program) (ops : Array Oper) (Q : Exit → Act → World → Prop) (S : List Snk) (plan : List Pk) (tys : Nat → STy) (w0 : World) (o : Oper) : Pk → Prop
  | .val r c => ∀ a w, Lull w0.heap.size (S.map (·.1)) w0 w → Reads tys w a r → Gives P ops Q o (tys c) a w
  | .ld k t c => ∀ a w, Lull w0.heap.size (S.map (·.1)) w0 w → a.tmps.getD t undef = .pointer (some ⟨(S.getD k (0, 0, 0)).1, 0, none⟩) → w.heap[(S.getD k (0, 0, 0)).1]? = w0.heap[(S.getD k (0, 0, 0)).1]? → Gives P ops Q o (tys c) a w
  | .alc ty m => o.guard = none ∧ ∀ (a : Act) (w : World), ∃ Z : Array Value, Z.size = m ∧ (execOp a.eval o).run P w = .ok (.value (.pointer (some ⟨w.heap.size, 0, none⟩))) (w.alloc (.cells Z ty))
  | .sto j s c => o.guard = none ∧ ∃ d ty m, dstOf ops j = some d ∧ plan[j]? = some (.alc ty m) ∧ o.op = .store ty (.tmp d) (.tmp s) ∧ (P.info? ty).map (·.size) = some m ∧ RowT m (tys c)
  | .put k t s c => o.guard = none ∧ ∃ g ty m, S[k]? = some (g, ty, m) ∧ o.op = .store ty (.tmp t) (.tmp s) ∧ (P.info? ty).map (·.size) = some m ∧ RowT m (tys c)
section
variable {ops : Array Oper} {n : Nat} {soft : List Nat} {S : List Snk} {ss pre : List (Nat × Nat)} {plan : List Pk} {tys : Nat → STy} {a0 : Act} {w0 : World} {L : Nat → Prop} {a : Act} {w : World}
theorem out_val {j : Nat} {c : Nat} (h : outOf3 plan j = some c) : ∃ p, plan[j]? = some p ∧ p.out? = some c := by
  unfold outOf3 at h
  cases hp : plan[j]? with
  | none => rw [hp] at h; cases h
  | some p => rw [hp] at h; exact ⟨p, rfl, h⟩
/-- What planOk3 says of one operation. -/
structure At3 (md : Region.Mode) (ops : Array Oper) (n : Nat) (soft : List Nat) (ss pre : List (Nat × Nat)) (plan : List Pk) (i : Nat) (o : Oper) (p : Pk) : Prop where
  dst : ∀ d, o.dst = some d → p.fills = false ∧ d < n ∧ (∀ j, j ≠ i → dstOf ops j ≠ some d) ∧ ∀ x ∈ ss, x.2 ≠ d
  nodst : o.dst = none → p.fills = true
  back : ∀ e ∈ o.after, Region.binds md e = true → e.on < i
  src : ∀ x ∈ p.src, (∃ j, dstOf ops j = some x.1 ∧ dep md ops i j = true ∧ outOf3 plan j = some x.2) ∨ (x ∈ pre ∧ ∀ j, dstOf ops j = some x.1 → dep md ops j i = true ∨ j = i)
  soft : ∀ x ∈ p.src, soft.contains x.2 = true → ∀ k q, plan[k]? = some q → q.fills = true → comes md (masks md ops ops.size) k i = true
  ld : ∀ k t c, p = .ld k t c → (k, t) ∈ ss ∧ ∀ j t' s c', plan[j]? = some (.put k t' s c') → waits (masks md ops ops.size) j i = true
  sto : ∀ j s c, p = .sto j s c → (∃ ty m, plan[j]? = some (.alc ty m)) ∧ dep md ops i j = true ∧ ∀ l s' c', l ≠ i → plan[l]? ≠ some (.sto j s' c')
  put : ∀ k t s c, p = .put k t s c → (k, t) ∈ ss ∧ ∀ l t' s' c', l ≠ i → plan[l]? ≠ some (.put k t' s' c')
theorem dst_lt {j : Nat} {d : Nat} (h : dstOf ops j = some d) : j < ops.size := by
  rcases Nat.lt_or_ge j ops.size with h1 | h1
  · exact h1
  · unfold dstOf at h; rw [Array.getElem?_eq_none h1] at h; cases h
theorem plan_at (hp : planOk3 md ops n soft ss pre plan = true) {i : Nat} {o : Oper} {p : Pk} (ho : ops[i]? = some o) (hpl : plan[i]? = some p) : At3 md ops n soft ss pre plan i o p := by
  have hp0 := hp
  unfold planOk3 at hp
  simp only [Bool.and_eq_true, beq_iff_eq, List.all_eq_true, List.mem_range] at hp
  obtain ⟨hlen, hp⟩ := hp
  have hi : i < ops.size := (Array.getElem?_eq_some_iff.1 ho).1
  have pl_lt : ∀ {l : Nat} {q : Pk}, plan[l]? = some q → l < ops.size := fun h => by rw [← hlen]; exact (List.getElem?_eq_some_iff.1 h).1
  have hpi := hp i hi
  simp only [ho, hpl] at hpi
  obtain ⟨⟨⟨⟨h1, h2⟩, h3⟩, h3b⟩, h4⟩ := (by simpa only [Bool.and_eq_true] using hpi : (((_ ∧ _) ∧ _) ∧ _) ∧ _)
  have hdi : ∀ d, o.dst = some d → dstOf ops i = some d := fun d hd => by unfold dstOf; rw [ho]; exact hd
  refine ⟨?_, ?_, ?_, ?_, ?_, ?_, ?_, ?_⟩
  · intro d hd
    rw [hd] at h1
    simp only [Bool.and_eq_true, Bool.not_eq_true', decide_eq_true_eq, List.all_eq_true, List.mem_range, bne_iff_ne] at h1
    obtain ⟨⟨⟨a1, a2⟩, a3⟩, a4⟩ := h1
    refine ⟨a1, a2, ?_, fun x hx => a4 x hx⟩
    intro j hji hj
    rcases Nat.lt_or_ge j i with h | h
    · exact a3 j h hj
    · have hjs := dst_lt hj
      obtain ⟨oj, hoj⟩ : ∃ o, ops[j]? = some o := ⟨_, Array.getElem?_eq_getElem hjs⟩
      obtain ⟨pj, hpj⟩ : ∃ p, plan[j]? = some p := ⟨_, List.getElem?_eq_getElem (by omega)⟩
      have hh := hp j hjs
      simp only [hoj, hpj] at hh
      obtain ⟨⟨⟨⟨hdj, _⟩, _⟩, _⟩, _⟩ := (by simpa only [Bool.and_eq_true] using hh : (((_ ∧ _) ∧ _) ∧ _) ∧ _)
      have hojd : oj.dst = some d := by unfold dstOf at hj; rw [hoj] at hj; exact hj
      rw [hojd] at hdj
      simp only [Bool.and_eq_true, Bool.not_eq_true', decide_eq_true_eq, List.all_eq_true, List.mem_range, bne_iff_ne] at hdj
      exact hdj.1.2 i (by omega) (hdi d hd)
  · intro hd
    rw [hd] at h1
    exact h1
  · intro e he hb
    have h5 := Array.all_eq_true_iff_forall_mem.1 h2 e he
    simpa [hb] using h5
  · intro x hx
    have h5 := List.all_eq_true.1 h3 x hx
    rcases (Bool.or_eq_true _ _).mp h5 with h6 | h6
    · obtain ⟨j, _, hj⟩ := List.any_eq_true.1 h6
      simp only [Bool.and_eq_true, beq_iff_eq] at hj
      exact .inl ⟨j, hj.1.1, hj.1.2, hj.2⟩
    · simp only [Bool.and_eq_true, List.all_eq_true, List.mem_range, Bool.or_eq_true, bne_iff_ne, beq_iff_eq] at h6
      refine .inr ⟨by simpa using h6.1, fun j hj => ?_⟩
      rcases h6.2 j (dst_lt hj) with (h7 | h7) | h7
      · exact absurd hj h7
      · exact .inl h7
      · exact .inr h7
  · intro x hx hsf k q hk hq
    have h5 := List.all_eq_true.1 h3b x hx
    rw [hsf] at h5
    simp only [Bool.not_true, Bool.false_or, List.all_eq_true, List.mem_range, Bool.or_eq_true, Bool.not_eq_true'] at h5
    rcases h5 k (pl_lt hk) with h6 | h6
    · rw [hk] at h6
      simp only [Option.map_some, Option.getD_some] at h6
      rw [hq] at h6; cases h6
    · exact h6
  · rintro k t c rfl
    simp only [Bool.and_eq_true, List.all_eq_true, List.mem_range, Bool.or_eq_true, Bool.not_eq_true'] at h4
    refine ⟨by simpa using h4.1, fun j t' s c' hj => ?_⟩
    rcases h4.2 j (pl_lt hj) with h5 | h5
    · rw [hj] at h5; simp [Pk.isPut] at h5
    · exact h5
  · rintro j s c rfl
    simp only [Bool.and_eq_true, List.all_eq_true, List.mem_range, Bool.or_eq_true, Bool.not_eq_true', beq_iff_eq] at h4
    obtain ⟨⟨b1, b2⟩, b3⟩ := h4
    refine ⟨?_, b2, fun l s' c' hl hpl' => ?_⟩
    · cases hj : plan[j]? with
      | none => rw [hj] at b1; cases b1
      | some q =>
        rw [hj] at b1
        cases q with
        | alc ty m => exact ⟨ty, m, rfl⟩
        | _ => cases b1
    · rcases b3 l (pl_lt hpl') with h5 | h5
      · exact hl h5
      · rw [hpl'] at h5; simp [Pk.isSto] at h5
  · rintro k t s c rfl
    simp only [Bool.and_eq_true, List.all_eq_true, List.mem_range, Bool.or_eq_true, Bool.not_eq_true', beq_iff_eq] at h4
    refine ⟨by simpa using h4.1, fun l t' s' c' hl hpl' => ?_⟩
    rcases h4.2 l (pl_lt hpl') with h5 | h5
    · exact hl h5
    · rw [hpl'] at h5; simp [Pk.isPut] at h5
theorem alc_out {ty m j : Nat} (h : plan[j]? = some (.alc ty m)) (c : Nat) : outOf3 plan j ≠ some c := by
  unfold outOf3; rw [h]; simp [Pk.out?]
/-- What the slots of a step's sources hold. -/
theorem PI3.reads (h : PI3 md ops n soft S ss plan tys a0 w0 L a w) (hl : ∀ c, soft.contains c = false → LullT w0.heap.size (S.map (·.1)) (tys c)) (hpre : Reads tys w0 a0 pre) {i : Nat} {o : Oper} {p : Pk} (hat : At3 md ops n soft ss pre plan i o p) (hn : ¬ L i) (hd : ∀ j, dep md ops i j = true → L j) : Reads tys w a p.src := by
  refine Reads.of_mem fun x hx => ?_
  have nofill : soft.contains x.2 = true → ∀ k q, L k → plan[k]? = some q → q.fills = false := fun hs k q hk hq => by
    cases hf : q.fills with
    | false => rfl
    | true =>
      exfalso
      have hc := hat.soft x hx hs k q hq hf
      unfold comes at hc
      rcases (Bool.or_eq_true _ _).mp hc with h1 | h1
      · cases md with
        | text => exact hn (h.row rfl k i hk (of_decide_eq_true h1))
        | _ => cases h1
      · exact hn (masks_spec h.closed _ k i hk h1)
  rcases hat.src x hx with ⟨j, h1, h2, h3⟩ | ⟨h1, h2⟩
  · exact h.val j _ _ (hd j h2) h1 h3 nofill
  · rw [h.old x.1 (fun j hL hj => by
      rcases h2 j hj with h3 | h3
      · exact hn (h.closed j i hL h3)
      · exact hn (h3 ▸ hL))]
    cases hs : soft.contains x.2 with
    | false => exact hl _ hs _ _ _ h.calm (hpre.mem x h1)
    | true => exact (tys x.2).up (h.ext (nofill hs)) (hpre.mem x h1)
theorem plan_len (hp : planOk3 md ops n soft ss pre plan = true) : plan.length = ops.size := by
  unfold planOk3 at hp
  simp only [Bool.and_eq_true, beq_iff_eq] at hp
  exact hp.1
theorem plan_op (hp : planOk3 md ops n soft ss pre plan = true) {k : Nat} {p : Pk} (h : plan[k]? = some p) : ∃ o, ops[k]? = some o :=
  ⟨_, Array.getElem?_eq_getElem (by rw [← plan_len hp]; exact (List.getElem?_eq_some_iff.1 h).1)⟩
/-- Who fills what an operation made waits for it. -/
theorem sto_dep (hp : planOk3 md ops n soft ss pre plan = true) {k j s c : Nat} (h : plan[k]? = some (.sto j s c)) : dep md ops k j = true := by
  obtain ⟨o, ho⟩ := plan_op hp h
  exact ((plan_at hp ho h).sto j s c rfl).2.1
/-- What fills variables is no soft value. -/
def FillsHard (soft : List Nat) (plan : List Pk) : Prop := ∀ (k : Nat) (q : Pk), plan[k]? = some q → q.fills = true → ∀ c ∈ q.src.map (·.2), soft.contains c = false
def fillsHard (soft : List Nat) (plan : List Pk) : Bool := plan.all fun q => !q.fills || q.src.all fun x => !soft.contains x.2
theorem fills_hard (h : fillsHard soft plan = true) : FillsHard soft plan := fun k q hk hf c hc => by
  have h1 := List.all_eq_true.1 h q (List.mem_of_getElem? hk)
  rw [hf] at h1
  obtain ⟨x, hx, rfl⟩ := List.mem_map.1 hc
  simp only [Bool.not_true, Bool.false_or] at h1
  simpa using List.all_eq_true.1 h1 x hx
/-- A step that only makes memory, and gives a value. -/
theorem PI3.grow {i : Nat} (h : PI3 md ops n soft S ss plan tys a0 w0 L a w) (hp : planOk3 md ops n soft ss pre plan = true) (hrow : md = .text → ∀ j, j < i → L j) (hS : ∀ x ∈ S, x.1 < w0.heap.size) {o : Oper} {p : Pk} (ho : ops[i]? = some o) (hpl : plan[i]? = some p) (hd : ∀ j, dep md ops i j = true → L j)
    {d : Nat} (hod : o.dst = some d) {v : Value} {w' : World} (hx : Ext w w')
    (hv : ∀ c, p.out? = some c → (tys c).p w' v)
    (hal : ∀ ty m, p = .alc ty m → v = .pointer (some ⟨w.heap.size, 0, none⟩) ∧ w.heap.size < w'.heap.size ∧ ∃ cs : Array Value, w'.heap[w.heap.size]? = some (.cells cs ty (0, 0)) ∧ cs.size = m)
    (hnew : ¬ L i) : PI3 md ops n soft S ss plan tys a0 w0 (fun j => L j ∨ j = i) (a.put o.dst v) w' := by
  have hat := plan_at hp ho hpl
  obtain ⟨hf, hdn, hne, _⟩ := hat.dst d hod
  have hdi : dstOf ops i = some d := by unfold dstOf; rw [ho]; exact hod
  have hB : w0.heap.size ≤ w.heap.size := h.calm.size
  have hc : Lull w0.heap.size (S.map (·.1)) w w' := Lull.of_ext hx hB
  have nosto : ∀ j s c, p ≠ .sto j s c := fun j s c e => by rw [e] at hf; cases hf
  have noput : ∀ k t s c, p ≠ .put k t s c := fun k t s c e => by rw [e] at hf; cases hf
  have get_ne : ∀ e, e ≠ d → (a.put o.dst v).tmps.getD e undef = a.tmps.getD e undef := fun e he => by
    rw [hod, getD_put, if_neg (fun hh => he hh.1)]
  have get_eq : (a.put o.dst v).tmps.getD d undef = v := by rw [hod, getD_put, if_pos ⟨rfl, by rw [h.size]; exact hdn⟩]
  have noL : ∀ j e, L j → dstOf ops j = some e → e ≠ d := fun j e hj he hh => by
    subst hh
    by_cases hji : j = i
    · exact hnew (hji ▸ hj)
    · exact hne j hji he
  have newp : ∀ j e ty m, L j → dstOf ops j = some e → plan[j]? = some (.alc ty m) → a.tmps.getD e undef ≠ .pointer (some ⟨w.heap.size, 0, none⟩) := fun j e ty m hj he hjp hh => by
    obtain ⟨g, cs, e1, e2, e3, _⟩ := h.alc j e ty m hj he hjp
    rw [e1] at hh
    cases hh
    exact Nat.lt_irrefl _ e3
  have nof : (∀ k q, (L k ∨ k = i) → plan[k]? = some q → q.fills = false) → ∀ k q, L k → plan[k]? = some q → q.fills = false := fun hh k q hk => hh k q (.inl hk)
  refine ⟨h.calm.trans hc, ?_, ?_, fun hh => (h.ext (nof hh)).trans hx, ?_, ?_, ?_, ?_, ?_, ?_, ?_⟩
  · rw [hod]; show (a.tmps.setIfInBounds d v).size = n
    rw [Array.size_setIfInBounds]; exact h.size
  · rw [hod]; exact h.defers
  · intro hm j k hj hjk
    rcases hj with hj | rfl
    · exact .inl (h.row hm j k hj hjk)
    · exact .inl (hrow hm k hjk)
  · intro j e c hj hje hjc hsf
    rcases hj with hj | rfl
    · rw [get_ne e (noL j e hj hje)]
      exact (tys c).up hx (h.val j e c hj hje hjc (fun hs => nof (hsf hs)))
    · rw [hdi] at hje; cases hje
      rw [get_eq]
      obtain ⟨q, hq, hq2⟩ := out_val hjc
      rw [hpl] at hq; cases hq
      exact hv c hq2
  · intro j e ty m hj hje hjp
    rcases hj with hj | rfl
    · obtain ⟨g, cs, e1, e2, e3, e4, e5, e6⟩ := h.alc j e ty m hj hje hjp
      refine ⟨g, cs, by rw [get_ne e (noL j e hj hje)]; exact e1, e2, Nat.lt_of_lt_of_le e3 hx.size, (hx.block g e3).trans e4, e5, ?_⟩
      intro k s c hk hkp
      rcases hk with hk | rfl
      · exact (tys c).up hx (e6 k s c hk hkp)
      · rw [hpl] at hkp; cases hkp; exact absurd rfl (nosto _ _ _)
    · rw [hdi] at hje; cases hje
      rw [hpl] at hjp; cases hjp
      obtain ⟨e1, e2, cs, e3, e4⟩ := hal ty m rfl
      refine ⟨w.heap.size, cs, by rw [get_eq]; exact e1, hB, e2, e3, e4, ?_⟩
      intro k s c hk hkp
      rcases hk with hk | rfl
      · exact absurd (h.closed k _ hk (sto_dep hp hkp)) hnew
      · rw [hpl] at hkp; cases hkp
  · intro j j' e e' ty m ty' m' hj hj' hjj hjp hjp' hje hje'
    rcases hj with hj | rfl
    · rcases hj' with hj' | rfl
      · rw [get_ne e (noL j e hj hje), get_ne e' (noL j' e' hj' hje')]
        exact h.dif j j' e e' ty m ty' m' hj hj' hjj hjp hjp' hje hje'
      · rw [hdi] at hje'; cases hje'
        rw [hpl] at hjp'; cases hjp'
        rw [get_ne e (noL j e hj hje), get_eq, (hal _ _ rfl).1]
        exact newp j e ty m hj hje hjp
    · rw [hdi] at hje; cases hje
      rw [hpl] at hjp; cases hjp
      rcases hj' with hj' | rfl
      · rw [get_ne e' (noL j' e' hj' hje'), get_eq, (hal _ _ rfl).1]
        exact fun hh => newp j' e' ty' m' hj' hje' hjp' hh.symm
      · exact absurd rfl hjj
  · intro k g ty m hk
    obtain ⟨cs, e1, e2, e3, e4⟩ := h.snk k g ty m hk
    have hg : g < w.heap.size := Nat.lt_of_lt_of_le (hS _ (List.mem_of_getElem? hk)) hB
    refine ⟨cs, (hx.block g hg).trans e1, e2, fun hno => (hx.block g hg).trans (e3 fun q t s c hq => hno q t s c (.inl hq)), ?_⟩
    intro q t s c hq hqp
    rcases hq with hq | rfl
    · exact (tys c).up hx (e4 q t s c hq hqp)
    · rw [hpl] at hqp; cases hqp; exact absurd rfl (noput _ _ _ _)
  · intro s hs
    have hsd : s ≠ d := fun e => hs i (.inr rfl) (by rw [hdi, e])
    rw [get_ne s hsd]
    exact h.old s (fun j hj => hs j (.inl hj))
  · intro j k hj hjk
    rcases hj with hj | rfl
    · exact .inl (h.closed j k hj hjk)
    · exact .inl (hd k hjk)
/-- A step that fills a variable. -/
theorem PI3.fill {i : Nat} (hso : FillsHard soft plan) (h : PI3 md ops n soft S ss plan tys a0 w0 L a w) (hp : planOk3 md ops n soft ss pre plan = true) (hl : ∀ c, soft.contains c = false → LullT w0.heap.size (S.map (·.1)) (tys c)) (hrow : md = .text → ∀ j, j < i → L j) (hS : ∀ x ∈ S, x.1 < w0.heap.size) (hnd : SnkOk S) {o : Oper} {p : Pk} (ho : ops[i]? = some o) (hpl : plan[i]? = some p) (hd : ∀ j, dep md ops i j = true → L j)
    (hod : o.dst = none) {g c : Nat} {cur A : Array Value} {ty : TypeId} (hcur : w.heap[g]? = some (.cells cur ty (0, 0))) (hsz : A.size = cur.size) (hT : (tys c).p w (.agg A))
    (hg : (∃ j d m s, p = .sto j s c ∧ dstOf ops j = some d ∧ plan[j]? = some (.alc ty m) ∧ a.tmps.getD d undef = .pointer (some ⟨g, 0, none⟩) ∧ w0.heap.size ≤ g) ∨ (∃ k t s m, p = .put k t s c ∧ S[k]? = some (g, ty, m)))
    (hnew : ¬ L i) : PI3 md ops n soft S ss plan tys a0 w0 (fun j => L j ∨ j = i) (a.put o.dst undef) (w.setRow g A) := by
  have hat := plan_at hp ho hpl
  have hsc : soft.contains c = false := hso i p hpl (by rcases hg with ⟨_, _, _, s, e, _⟩ | ⟨_, _, s, _, e, _⟩ <;> (rw [e]; rfl)) c (by rcases hg with ⟨_, _, _, s, e, _⟩ | ⟨_, _, s, _, e, _⟩ <;> (rw [e]; exact List.mem_singleton.2 rfl))
  have hgS : g ∈ S.map (·.1) ∨ w0.heap.size ≤ g := by
    rcases hg with ⟨_, _, _, _, _, _, _, _, h5⟩ | ⟨k, t, s, m, _, h2⟩
    · exact .inr h5
    · exact .inl (List.mem_map.2 ⟨_, List.mem_of_getElem? h2, rfl⟩)
  have hc : Lull w0.heap.size (S.map (·.1)) w (w.setRow g A) := Lull.setRow w g A hgS
  have hput : a.put o.dst undef = a := by rw [hod]; rfl
  have nod : ∀ e, dstOf ops i ≠ some e := fun e he => by unfold dstOf at he; rw [ho] at he; rw [show (some o).bind (·.dst) = o.dst from rfl, hod] at he; cases he
  have hrow : (w.setRow g A).heap[g]? = some (.cells A ty (0, 0)) := setRow_heap _ _ _ _ _ _ hcur
  have noval : ∀ x, outOf3 plan i ≠ some x := fun x hx => by
    obtain ⟨q, hq, hq2⟩ := out_val hx
    rw [hpl] at hq; cases hq
    rcases hg with ⟨_, _, _, _, e, _⟩ | ⟨_, _, _, _, e, _⟩ <;> (rw [e] at hq2; cases hq2)
  rw [hput]
  have hfi : p.fills = true := by rcases hg with ⟨_, _, _, _, e, _⟩ | ⟨_, _, _, _, e, _⟩ <;> (rw [e]; rfl)
  have nope : ¬ (∀ k q, (L k ∨ k = i) → plan[k]? = some q → q.fills = false) := fun hh => by have := hh i p (.inr rfl) hpl; rw [hfi] at this; cases this
  refine ⟨h.calm.trans hc, h.size, h.defers, fun hh => absurd hh nope, ?_, ?_, ?_, ?_, ?_, ?_, ?_⟩
  · intro hm j k hj hjk
    rcases hj with hj | rfl
    · exact .inl (h.row hm j k hj hjk)
    · exact .inl (hrow hm k hjk)
  · intro j e x hj hje hjc hsf
    have hns : soft.contains x = false := by
      cases hs : soft.contains x with
      | false => rfl
      | true => exact absurd (hsf hs) nope
    rcases hj with hj | rfl
    · exact hl _ hns _ _ _ hc (h.val j e x hj hje hjc (fun hs => by rw [hns] at hs; cases hs))
    · exact absurd hjc (noval _)
  · intro j e ty' m hj hje hjp
    rcases hj with hj | rfl
    · obtain ⟨g', cs, e1, e2, e3, e4, e5, e6⟩ := h.alc j e ty' m hj hje hjp
      by_cases hgg : g' = g
      · subst hgg
        rw [hcur] at e4
        cases e4
        refine ⟨g', A, e1, e2, by rw [setRow_size]; exact e3, hrow, hsz.trans e5, ?_⟩
        intro k s x hk hkp
        rcases hg with ⟨j2, d2, m2, s2, f1, f2, f3, f4, f5⟩ | ⟨k2, t2, s2, m2, f1, f2⟩
        · have hjj : j = j2 := by
            by_cases hjj : j = j2
            · exact hjj
            · have hL2 : L j2 := hd j2 (by have := (hat.sto j2 s2 c f1).2.1; exact this)
              exact absurd (e1.trans f4.symm) (h.dif j j2 e d2 _ _ _ _ hj hL2 hjj hjp f3 hje f2)
          subst hjj
          rcases hk with hk | rfl
          · have := (hat.sto j s2 c f1).2.2 k s x (fun e => hnew (e ▸ hk))
            exact absurd hkp this
          · rw [hpl, f1] at hkp; cases hkp
            exact hl _ hsc _ _ _ hc hT
        · have := hS _ (List.mem_of_getElem? f2)
          simp only at this
          omega
      · refine ⟨g', cs, e1, e2, by rw [setRow_size]; exact e3, (setRow_other _ _ _ _ hgg).trans e4, e5, ?_⟩
        intro k s x hk hkp
        rcases hk with hk | rfl
        · exact hl _ (hso k _ hkp (by rfl) _ (List.mem_singleton.2 rfl)) _ _ _ hc (e6 k s x hk hkp)
        · rcases hg with ⟨j2, d2, m2, s2, f1, f2, f3, f4, f5⟩ | ⟨k2, t2, s2, m2, f1, f2⟩
          · rw [hpl, f1] at hkp; cases hkp
            rw [hje] at f2; cases f2
            rw [e1] at f4; cases f4
            exact absurd rfl hgg
          · rw [hpl, f1] at hkp; cases hkp
    · exact absurd hje (nod _)
  · intro j j' e e' t1 m1 t2 m2 hj hj' hjj hjp hjp' hje hje'
    rcases hj with hj | rfl
    · rcases hj' with hj' | rfl
      · exact h.dif j j' e e' t1 m1 t2 m2 hj hj' hjj hjp hjp' hje hje'
      · exact absurd hje' (nod _)
    · exact absurd hje (nod _)
  · intro k g' ty' m hk
    obtain ⟨cs, e1, e2, e3, e4⟩ := h.snk k g' ty' m hk
    have hg' := hS _ (List.mem_of_getElem? hk)
    simp only at hg'
    by_cases hgg : g' = g
    · subst hgg
      rw [hcur] at e1
      cases e1
      rcases hg with ⟨j2, d2, m2, s2, f1, f2, f3, f4, f5⟩ | ⟨k2, t2, s2, m2, f1, f2⟩
      · omega
      · have hkk : k = k2 := hnd k k2 _ _ hk f2 rfl
        subst hkk
        refine ⟨A, hrow, hsz.trans e2, fun hno => absurd (hpl.trans (congrArg some f1)) (hno i t2 s2 c (.inr rfl)), ?_⟩
        intro q t s x hq hqp
        rcases hq with hq | rfl
        · exact absurd hqp ((hat.put k t2 s2 c f1).2 q t s x (fun e => hnew (e ▸ hq)))
        · rw [hpl, f1] at hqp; cases hqp
          exact hl _ hsc _ _ _ hc hT
    · refine ⟨cs, (setRow_other _ _ _ _ hgg).trans e1, e2, fun hno => (setRow_other _ _ _ _ hgg).trans (e3 fun q t s x hq => hno q t s x (.inl hq)), ?_⟩
      intro q t s x hq hqp
      rcases hq with hq | rfl
      · exact hl _ (hso q _ hqp (by rfl) _ (List.mem_singleton.2 rfl)) _ _ _ hc (e4 q t s x hq hqp)
      · rcases hg with ⟨j2, d2, m2, s2, f1, f2, f3, f4, f5⟩ | ⟨k2, t2, s2, m2, f1, f2⟩
        · rw [hpl, f1] at hqp; cases hqp
        · rw [hpl, f1] at hqp; cases hqp
          rw [hk] at f2; cases f2
          exact absurd rfl hgg
  · intro s hs
    exact h.old s (fun j hj => hs j (.inl hj))
  · intro j k hj hjk
    rcases hj with hj | rfl
    · exact .inl (h.closed j k hj hjk)
    · exact .inl (hd k hjk)
/-- The variables that were there: what they are, and where their pointers lie. -/
def SnkAt (S : List Snk) (ss : List (Nat × Nat)) (a0 : Act) (w0 : World) : Prop :=
  (∀ x ∈ S, x.1 < w0.heap.size ∧ ∃ cs, w0.heap[x.1]? = some (.cells cs x.2.1 (0, 0)) ∧ cs.size = x.2.2) ∧ (∀ y ∈ ss, y.1 < S.length ∧ a0.tmps.getD y.2 undef = .pointer (some ⟨(S.getD y.1 (0, 0, 0)).1, 0, none⟩))
theorem PI3.step {i : Nat} (hso : FillsHard soft plan) (h : PI3 md ops n soft S ss plan tys a0 w0 L a w) (hp : planOk3 md ops n soft ss pre plan = true) (hl : ∀ c, soft.contains c = false → LullT w0.heap.size (S.map (·.1)) (tys c)) (hrow : md = .text → ∀ j, j < i → L j) (hS : SnkAt S ss a0 w0) (hnd : SnkOk S) (hpre : Reads tys w0 a0 pre)
    (hok : ∀ (i : Nat) (o : Oper) (p : Pk), ops[i]? = some o → plan[i]? = some p → OkOne3 P ops Q S plan tys w0 o p)
    (hi : i < ops.size) (hn : ¬ L i) (hd : ∀ j, dep md ops i j = true → L j) :
    wpOp P ops Q i (fun a' w' => PI3 md ops n soft S ss plan tys a0 w0 (fun j => L j ∨ j = i) a' w') a w := by
  obtain ⟨o, ho⟩ : ∃ o, ops[i]? = some o := ⟨_, Array.getElem?_eq_getElem hi⟩
  obtain ⟨p, hpl⟩ : ∃ p, plan[i]? = some p := ⟨_, List.getElem?_eq_getElem (by rw [plan_len hp]; exact hi)⟩
  have hat := plan_at hp ho hpl
  have hR := h.reads hl hpre hat hn hd
  have hok' := hok i o p ho hpl
  have hS' : ∀ x ∈ S, x.1 < w0.heap.size := fun x hx => (hS.1 x hx).1
  have slot : ∀ k t, (k, t) ∈ ss → a.tmps.getD t undef = .pointer (some ⟨(S.getD k (0, 0, 0)).1, 0, none⟩) := fun k t hk => by
    rw [h.old t (fun j hL hj => ?_)]
    · exact (hS.2 _ hk).2
    · obtain ⟨oj, hoj⟩ : ∃ o, ops[j]? = some o := ⟨_, Array.getElem?_eq_getElem (dst_lt hj)⟩
      obtain ⟨pj, hpj⟩ : ∃ p, plan[j]? = some p := ⟨_, List.getElem?_eq_getElem (by rw [plan_len hp]; exact dst_lt hj)⟩
      have hojd : oj.dst = some t := by unfold dstOf at hj; rw [hoj] at hj; exact hj
      exact ((plan_at hp hoj hpj).dst t hojd).2.2.2 (k, t) hk rfl
  have give : ∀ c, p.out? = some c → p.isAlc = false → Gives P ops Q o (tys c) a w → wpOp P ops Q i (fun a' w' => PI3 md ops n soft S ss plan tys a0 w0 (fun j => L j ∨ j = i) a' w') a w := fun c hc hna hG => by
    refine wpOp_mono ?_ (hG.op ho)
    rintro a' w' ⟨v, rfl, hx, hT⟩
    cases hod : o.dst with
    | none =>
      have := hat.nodst hod
      exfalso
      cases p <;> simp_all [Pk.fills, Pk.out?]
    | some d =>
      rw [← hod]
      refine h.grow hp hrow hS' ho hpl hd hod hx (fun c' hc' => ?_) (fun ty m e => ?_) hn
      · rw [hc] at hc'; cases hc'; exact hT
      · rw [e] at hna; cases hna
  cases p with
  | val r c => exact give c rfl rfl (hok' a w h.calm hR)
  | ld k t c =>
    obtain ⟨h1, h2⟩ := hat.ld k t c rfl
    refine give c rfl rfl (hok' a w h.calm (slot k t h1) ?_)
    rcases hk : S[k]? with _ | ⟨g, ty, m⟩
    · have h3 := (hS.2 _ h1).1
      rw [List.getElem?_eq_getElem h3] at hk
      cases hk
    · have : S.getD k (0, 0, 0) = (g, ty, m) := by rw [List.getD_eq_getElem?_getD, hk]; rfl
      rw [this]
      obtain ⟨cs, e1, e2, e3, e4⟩ := h.snk k g ty m hk
      exact e3 (fun j t' s c' hj hjp => hn (masks_spec h.closed _ j i hj (h2 j t' s c' hjp)))
  | alc ty m =>
    obtain ⟨hg, hrun⟩ := hok'
    obtain ⟨Z, hZ, hr⟩ := hrun a w
    cases hod : o.dst with
    | none => exact absurd (hat.nodst hod) (by simp [Pk.fills])
    | some d =>
      unfold wpOp
      rw [ho]
      simp only [wanted_none hg, if_true]
      refine .inl (Oper.wp_value hr ?_)
      refine h.grow hp hrow hS' ho hpl hd hod ((Below.refl _ _).alloc (Nat.le_refl _) _) (fun c hc => by cases hc) (fun ty' m' e => ?_) hn
      cases e
      exact ⟨rfl, by simp, Z, heap_alloc_last _ _, hZ⟩
  | sto j s c =>
    obtain ⟨hg, d, ty, m, e1, e2, e3, e4, e5⟩ := hok'
    have hLj := hd j (hat.sto j s c rfl).2.1
    obtain ⟨g, cs, f1, f2, f3, f4, f5, _⟩ := h.alc j d ty m hLj e1 e2
    obtain ⟨A, k1, k2, k3⟩ := e5 w _ hR.1
    have hT := hR.1
    rw [k1] at hT
    have hod : o.dst = none := by
      cases hod : o.dst with
      | none => rfl
      | some d => exact absurd (hat.dst d hod).1 (by simp [Pk.fills])
    unfold wpOp
    rw [ho]
    simp only [wanted_none hg, if_true]
    refine .inl (wp_store_row ty (.tmp d) (.tmp s) e3 g A f1 k1 ty cs f4 (by rw [k2]; exact e4) (by rw [k2]; exact f5) k3 ?_)
    exact h.fill hso hp hl hrow hS' hnd ho hpl hd hod f4 (by rw [k2, f5]) hT (.inl ⟨j, d, m, s, rfl, e1, e2, f1, f2⟩) hn
  | put k t s c =>
    obtain ⟨hg, g, ty, m, e1, e3, e4, e5⟩ := hok'
    obtain ⟨h1, h2⟩ := hat.put k t s c rfl
    have hsl := slot k t h1
    have : S.getD k (0, 0, 0) = (g, ty, m) := by rw [List.getD_eq_getElem?_getD, e1]; rfl
    rw [this] at hsl
    obtain ⟨cs, f4, f5, _, _⟩ := h.snk k g ty m e1
    obtain ⟨A, k1, k2, k3⟩ := e5 w _ hR.1
    have hT := hR.1
    rw [k1] at hT
    have hod : o.dst = none := by
      cases hod : o.dst with
      | none => rfl
      | some d => exact absurd (hat.dst d hod).1 (by simp [Pk.fills])
    unfold wpOp
    rw [ho]
    simp only [wanted_none hg, if_true]
    refine .inl (wp_store_row ty (.tmp t) (.tmp s) e3 g A hsl k1 ty cs f4 (by rw [k2]; exact e4) (by rw [k2]; exact f5) k3 ?_)
    exact h.fill hso hp hl hrow hS' hnd ho hpl hd hod f4 (by rw [k2, f5]) hT (.inr ⟨k, t, s, m, rfl, e1⟩) hn
def OkL3 (P : Program) (ops : Array Oper) (Q : Exit → Act → World → Prop) (S : List Snk) (plan : List Pk) (tys : Nat → STy) (w0 : World) : List Oper → List Pk → Prop
  | [], _ => True
  | o :: os, p :: pl => OkOne3 P ops Q S plan tys w0 o p ∧ OkL3 P ops Q S plan tys w0 os pl
  | _ :: _, [] => False
theorem OkL3.nil {pl : List Pk} : OkL3 P ops Q S plan tys w0 [] pl := trivial
theorem OkL3.cons {o : Oper} {os : List Oper} {p : Pk} {pl : List Pk} (h : OkOne3 P ops Q S plan tys w0 o p) (t : OkL3 P ops Q S plan tys w0 os pl) : OkL3 P ops Q S plan tys w0 (o :: os) (p :: pl) := ⟨h, t⟩
theorem OkL3.get : ∀ {os : List Oper} {pl : List Pk}, OkL3 P ops Q S plan tys w0 os pl → ∀ (i : Nat) (o : Oper) (p : Pk), os[i]? = some o → pl[i]? = some p → OkOne3 P ops Q S plan tys w0 o p
  | [], _, _, i, o, p, ho, _ => by simp at ho
  | _ :: _, [], h, _, _, _, _, _ => h.elim
  | _ :: _, _ :: _, h, 0, o, p, ho, hp => by cases ho; cases hp; exact h.1
  | _ :: _, _ :: _, h, i + 1, o, p, ho, hp => OkL3.get h.2 i o p ho hp
/-- With what a variable that operation i makes is filled. -/
def stoOf (i : Nat) : List Pk → Option Nat
  | [] => none
  | .sto j _ c :: r => if j == i then some c else stoOf i r
  | _ :: r => stoOf i r
theorem stoOf_some {i c : Nat} : ∀ {pl : List Pk}, stoOf i pl = some c → ∃ (k s : Nat), pl[k]? = some (Pk.sto i s c)
  | [], h => by cases h
  | p :: r, h => by
    cases p with
    | sto j s c' =>
      unfold stoOf at h
      by_cases e : (j == i) = true
      · rw [if_pos e] at h; cases h
        have := beq_iff_eq.1 e
        subst this
        exact ⟨0, s, rfl⟩
      · rw [if_neg e] at h
        obtain ⟨k, s', hk⟩ := stoOf_some h
        exact ⟨k + 1, s', hk⟩
    | _ =>
      obtain ⟨k, s', hk⟩ := stoOf_some (pl := r) h
      exact ⟨k + 1, s', hk⟩
/-- What a filled variable holds. -/
def Held (tys : Nat → STy) (w : World) (cs : Array Value) (m : Nat) : Option Nat → Prop
  | some c => (tys c).p w (.agg cs)
  | none => cs.size = m
/-- What is told of a value behind them all. -/
def FinV (T : STy) (w : World) (v : Value) : Bool → Prop
  | true => True
  | false => T.p w v
/-- What is to be shown behind them all. -/
def FinL3 (soft : List Nat) (S : List Snk) (plan : List Pk) (tys : Nat → STy) (Q : Exit → Act → World → Prop) (B : Nat) (w : World) : Nat → List Nat → List Oper → List Pk → Act → Prop
  | _, _, [], _, a => Q .normal a w
  | i, gs, o :: os, .val _ c :: pl, a => ∀ v, FinV (tys c) w v (soft.contains c && plan.any (·.fills)) → FinL3 soft S plan tys Q B w (i + 1) gs os pl (a.put o.dst v)
  | i, gs, o :: os, .ld _ _ c :: pl, a => ∀ v, FinV (tys c) w v (soft.contains c && plan.any (·.fills)) → FinL3 soft S plan tys Q B w (i + 1) gs os pl (a.put o.dst v)
  | i, gs, o :: os, .alc ty m :: pl, a => ∀ g cs, B ≤ g ∧ g < w.heap.size ∧ g ∉ gs → w.heap[g]? = some (.cells cs ty (0, 0)) → Held tys w cs m (stoOf i plan) → FinL3 soft S plan tys Q B w (i + 1) (g :: gs) os pl (a.put o.dst (.pointer (some ⟨g, 0, none⟩)))
  | i, gs, _ :: os, .sto _ _ _ :: pl, a => FinL3 soft S plan tys Q B w (i + 1) gs os pl a
  | i, gs, _ :: os, .put k _ _ c :: pl, a => ∀ cs, w.heap[(S.getD k (0, 0, 0)).1]? = some (.cells cs (S.getD k (0, 0, 0)).2.1 (0, 0)) → (tys c).p w (.agg cs) → FinL3 soft S plan tys Q B w (i + 1) gs os pl a
  | _, _, _ :: _, [], _ => True
theorem FinL3.done {i : Nat} {gs : List Nat} {B : Nat} {pl : List Pk} (h : Q .normal a w) : FinL3 soft S plan tys Q B w i gs [] pl a := by
  unfold FinL3; exact h
theorem FinL3.fill {i : Nat} {gs : List Nat} {B : Nat} {o : Oper} {os : List Oper} {j s c : Nat} {pl : List Pk} (h : FinL3 soft S plan tys Q B w (i + 1) gs os pl a) : FinL3 soft S plan tys Q B w i gs (o :: os) (.sto j s c :: pl) a := by
  unfold FinL3; exact h
theorem fin_fill3 {os0 : List Oper} {b : Act} (h : PI3 md os0.toArray n soft S ss plan tys a0 w0 L b w) (hp : planOk3 md os0.toArray n soft ss pre plan = true) (hS : SnkAt S ss a0 w0) (hall : ∀ j, j < os0.length → L j) :
    ∀ (os : List Oper) (pl : List Pk) (i : Nat) (gs : List Nat) (a : Act), os0.drop i = os → plan.drop i = pl → (∀ g ∈ gs, ∃ j d ty m, j < i ∧ dstOf os0.toArray j = some d ∧ plan[j]? = some (.alc ty m) ∧ b.tmps.getD d undef = .pointer (some ⟨g, 0, none⟩)) → FinL3 soft S plan tys Q w0.heap.size w i gs os pl a → Q .normal (fillL b os a) w := by
  intro os
  induction os with
  | nil => intro pl i gs a _ _ _ hf; unfold FinL3 at hf; exact hf
  | cons o os ih =>
    intro pl i gs a hos hpl hgs hf
    have ho : os0[i]? = some o := by
      have := congrArg (·[0]?) hos
      simpa using this
    have hos' : os0.drop (i + 1) = os := by rw [← List.drop_drop, hos]; rfl
    have hi : i < os0.length := (List.getElem?_eq_some_iff.1 ho).1
    have hlen := plan_len hp
    have hil : i < plan.length := by rw [hlen]; simpa using hi
    have ho' : os0.toArray[i]? = some o := by simpa using ho
    cases pl with
    | nil =>
      have := congrArg List.length hpl
      simp at this
      omega
    | cons p pl =>
      have hpp : plan[i]? = some p := by
        have := congrArg (·[0]?) hpl
        simpa using this
      have hpl' : plan.drop (i + 1) = pl := by rw [← List.drop_drop, hpl]; rfl
      have hat := plan_at hp ho' hpp
      have hgs' : ∀ g ∈ gs, ∃ j d ty m, j < i + 1 ∧ dstOf os0.toArray j = some d ∧ plan[j]? = some (.alc ty m) ∧ b.tmps.getD d undef = .pointer (some ⟨g, 0, none⟩) := fun g hg => by
        obtain ⟨j, d, ty, m, h1, h2⟩ := hgs g hg
        exact ⟨j, d, ty, m, by omega, h2⟩
      unfold fillL
      have hdst : p.fills = false → ∃ d, o.dst = some d ∧ dstOf os0.toArray i = some d := fun hfl => by
        cases hod : o.dst with
        | none => have := hat.nodst hod; rw [hfl] at this; cases this
        | some d => exact ⟨d, rfl, by unfold dstOf; rw [ho']; exact hod⟩
      have hnod : p.fills = true → o.dst = none := fun hfl => by
        cases hod : o.dst with
        | none => rfl
        | some d => have := (hat.dst d hod).1; rw [hfl] at this; cases this
      cases p with
      | val r c =>
        obtain ⟨d, hod, hdi⟩ := hdst rfl
        unfold FinL3 at hf
        refine ih pl (i + 1) gs _ hos' hpl' hgs' (hf _ ?_)
        rw [hod]
        cases hs : (soft.contains c && plan.any (·.fills)) with
        | true => exact trivial
        | false => exact h.val i d c (hall i hi) hdi (by unfold outOf3; rw [hpp]; rfl) (fun h2 k q _ hk => by
            rw [h2, Bool.true_and] at hs
            exact (Bool.not_eq_true _).mp (fun h3 => by rw [List.any_eq_true.2 ⟨q, List.mem_of_getElem? hk, h3⟩] at hs; cases hs))
      | ld k t c =>
        obtain ⟨d, hod, hdi⟩ := hdst rfl
        unfold FinL3 at hf
        refine ih pl (i + 1) gs _ hos' hpl' hgs' (hf _ ?_)
        rw [hod]
        cases hs : (soft.contains c && plan.any (·.fills)) with
        | true => exact trivial
        | false => exact h.val i d c (hall i hi) hdi (by unfold outOf3; rw [hpp]; rfl) (fun h2 k q _ hk => by
            rw [h2, Bool.true_and] at hs
            exact (Bool.not_eq_true _).mp (fun h3 => by rw [List.any_eq_true.2 ⟨q, List.mem_of_getElem? hk, h3⟩] at hs; cases hs))
      | alc ty m =>
        obtain ⟨d, hod, hdi⟩ := hdst rfl
        unfold FinL3 at hf
        obtain ⟨g, cs, e1, e2, e3, e4, e5, e6⟩ := h.alc i d ty m (hall i hi) hdi hpp
        have hheld : Held tys w cs m (stoOf i plan) := by
          cases hso : stoOf i plan with
          | none => exact e5
          | some c =>
            obtain ⟨k, s, hk⟩ := stoOf_some hso
            have hkl : k < os0.length := by
              have := (List.getElem?_eq_some_iff.1 hk).1
              rw [hlen] at this; simpa using this
            exact e6 k s c (hall k hkl) hk
        have hni : g ∉ gs := fun hg => by
          obtain ⟨j, d', ty', m', h1, h2, h3, h4⟩ := hgs g hg
          exact h.dif j i d' d ty' m' ty m (hall j (by omega)) (hall i hi) (by omega) h3 hpp h2 hdi (h4.trans e1.symm)
        have hfin := hf g cs ⟨e2, e3, hni⟩ e4 hheld
        rw [hod] at hfin ⊢
        show Q .normal (fillL b os (a.put (some d) (b.tmps.getD d undef))) w
        rw [e1]
        refine ih pl (i + 1) (g :: gs) _ hos' hpl' (fun g' hg' => ?_) hfin
        rcases List.mem_cons.1 hg' with e | e
        · subst e; exact ⟨i, d, ty, m, by omega, hdi, hpp, e1⟩
        · exact hgs' g' e
      | sto j s c =>
        unfold FinL3 at hf
        rw [hnod rfl]
        exact ih pl (i + 1) gs _ hos' hpl' hgs' hf
      | put k t s c =>
        unfold FinL3 at hf
        rw [hnod rfl]
        obtain ⟨h1, _⟩ := hat.put k t s c rfl
        have hk := (hS.2 _ h1).1
        simp only at hk
        have hk2 : S[k]? = some (S.getD k (0, 0, 0)) := by rw [List.getD_eq_getElem?_getD, List.getElem?_eq_getElem hk]; rfl
        obtain ⟨cs, e1, e2, e3, e4⟩ := h.snk k _ _ _ hk2
        exact ih pl (i + 1) gs _ hos' hpl' hgs' (hf cs e1 (e4 i t s c (hall i hi) hpp))
theorem PI3.fin {os : List Oper} (h : PI3 md os.toArray n soft S ss plan tys a0 w0 L a w) (hp : planOk3 md os.toArray n soft ss pre plan = true) (hS : SnkAt S ss a0 w0) (hn : a0.tmps.size = n) (hall : ∀ j, j < os.length → L j) (hf : FinL3 soft S plan tys Q w0.heap.size w 0 [] os plan a0) : Q .normal a w := by
  have hq := fin_fill3 h hp hS hall os plan 0 [] a0 rfl rfl (fun g hg => by cases hg) hf
  have he : fillL a os a0 = a := by
    obtain ⟨h1, h2⟩ := fill_size a os a0
    have h3 : (fillL a os a0).tmps = a.tmps := by
      refine Array.ext (by rw [h1, hn, h.size]) fun s hs1 hs2 => ?_
      have hs : s < a0.tmps.size := by rw [hn, ← h.size]; exact hs2
      have key : (fillL a os a0).tmps.getD s undef = a.tmps.getD s undef := by
        obtain ⟨g1, g2⟩ := fill_get a s os a0 hs
        by_cases hex : ∃ o ∈ os, o.dst = some s
        · exact g1 hex
        · rw [g2 (fun o ho hd => hex ⟨o, ho, hd⟩), h.old s]
          intro j _ hj
          unfold dstOf at hj
          cases ho : os.toArray[j]? with
          | none => rw [ho] at hj; cases hj
          | some o =>
            rw [ho] at hj
            exact hex ⟨o, by simpa using Array.mem_of_getElem? ho, hj⟩
      simpa [Array.getD_eq_getD_getElem?, hs1, hs2] using key
    cases a with
    | mk t d =>
      cases hfa : fillL ⟨t, d⟩ os a0 with
      | mk t' d' =>
        rw [hfa] at h2 h3
        have h4 := h.defers
        simp only at h2 h3 h4
        subst h3
        rw [h2, h4]
  rwa [he] at hq
theorem PI3.start (hS : SnkAt S ss a0 w0) (hn : a0.tmps.size = n) {w1 : World} (hw : w1 = w0 ∨ w1 = w0.drew) : PI3 md ops n soft S ss plan tys a0 w0 (fun _ => False) a0 w1 := by
  have hh : w1.heap = w0.heap := by rcases hw with rfl | rfl <;> rfl
  refine ⟨?_, hn, rfl, ?_, fun _ _ _ h => h.elim, fun _ _ _ h => h.elim, fun _ _ _ _ h => h.elim, fun _ _ _ _ _ _ _ _ h => h.elim, ?_, fun _ _ => rfl, fun _ _ h => h.elim⟩
  · rcases hw with rfl | rfl
    · exact Lull.refl _ _ _
    · exact Lull.drew _ _ _
  · intro _
    rcases hw with rfl | rfl
    · exact Ext.refl _
    · exact Ext.drew _
  · intro k g ty m hk
    obtain ⟨h1, cs, h2, h3⟩ := hS.1 _ (List.mem_of_getElem? hk)
    exact ⟨cs, by rw [hh]; exact h2, h3, fun _ => by rw [hh], fun _ _ _ _ h => h.elim⟩
end
/-- THE REGION THAT DRAWS ITS ORDER. -/
theorem wp_region_typed3 {os : List Oper} {id : Nat} {pre : List (Nat × Nat)} {plan : List Pk} {tl : List STy} {a0 : Act} {w0 : World} (soft : List Nat) (S : List Snk) (ss : List (Nat × Nat)) (hm : P.follows .mixedOrders = true)
    (n : Nat) (hp : planOk3 .any os.toArray n soft ss pre plan = true) (hn : a0.tmps.size = n) (hso : fillsHard soft plan = true) (hl : LullL w0.heap.size (S.map (·.1)) soft 0 tl) (hS : SnkAt S ss a0 w0) (hnd : SnkOk S) (hpre : Reads (fun ix_ => tl.getD ix_ anyv) w0 a0 pre) (hok : OkL3 P os.toArray Q S plan (fun ix_ => tl.getD ix_ anyv) w0 os plan) (hfin : ∀ w, Lull w0.heap.size (S.map (·.1)) w0 w → FinL3 soft S plan (fun ix_ => tl.getD ix_ anyv) Q w0.heap.size w 0 [] os plan a0) :
    (Code.region id os.toArray true).wp P Q a0 w0 := by
  refine wp_region_inv (fun L a w => PI3 .any os.toArray n soft S ss plan (fun ix_ => tl.getD ix_ anyv) a0 w0 L a w) hm (fun i o ho e he hb => ?_) (PI3.start hS hn (.inr rfl)) (fun L i a w hi hL hd h => ?_) (fun L a w hall h => ?_)
  · have ho' : os.toArray[i]? = some o := by simpa using ho
    obtain ⟨p, hpl⟩ : ∃ p, plan[i]? = some p := ⟨_, List.getElem?_eq_getElem (by rw [plan_len hp]; exact (Array.getElem?_eq_some_iff.1 ho').1)⟩
    exact (plan_at hp ho' hpl).back e he hb
  · exact h.step (fills_hard hso) hp (fun c hc => hl.get c hc) (fun e => by cases e) hS hnd hpre (fun i o p ho hpl => hok.get i o p (by simpa using ho) hpl) (by simpa using hi) hL hd
  · exact h.fin hp hS hn hall (hfin w h.calm)
/-- THE REGION IN THE TEXT'S ORDER. -/
theorem wp_region_lined3 {os : List Oper} {id : Nat} {pre : List (Nat × Nat)} {plan : List Pk} {tl : List STy} {a0 : Act} {w0 : World} (soft : List Nat) (S : List Snk) (ss : List (Nat × Nat))
    (n : Nat) (hp : planOk3 .text os.toArray n soft ss pre plan = true) (hn : a0.tmps.size = n) (hso : fillsHard soft plan = true) (hl : LullL w0.heap.size (S.map (·.1)) soft 0 tl) (hS : SnkAt S ss a0 w0) (hnd : SnkOk S) (hpre : Reads (fun ix_ => tl.getD ix_ anyv) w0 a0 pre) (hok : OkL3 P os.toArray Q S plan (fun ix_ => tl.getD ix_ anyv) w0 os plan) (hfin : ∀ w, Lull w0.heap.size (S.map (·.1)) w0 w → FinL3 soft S plan (fun ix_ => tl.getD ix_ anyv) Q w0.heap.size w 0 [] os plan a0) :
    (Code.region id os.toArray false).wp P Q a0 w0 := by
  refine wp_region_inv_lined (fun L a w => PI3 .text os.toArray n soft S ss plan (fun ix_ => tl.getD ix_ anyv) a0 w0 L a w) (fun i o ho e he hb => ?_) (PI3.start hS hn (.inl rfl)) (fun L i a w hi hL hd hr h => ?_) (fun L a w hall h => ?_)
  · have ho' : os.toArray[i]? = some o := by simpa using ho
    obtain ⟨p, hpl⟩ : ∃ p, plan[i]? = some p := ⟨_, List.getElem?_eq_getElem (by rw [plan_len hp]; exact (Array.getElem?_eq_some_iff.1 ho').1)⟩
    exact (plan_at hp ho' hpl).back e he hb
  · exact h.step (fills_hard hso) hp (fun c hc => hl.get c hc) (fun _ => hr) hS hnd hpre (fun i o p ho hpl => hok.get i o p (by simpa using ho) hpl) (by simpa using hi) hL hd
  · exact h.fin hp hS hn hall (hfin w h.calm)
end
end Go
