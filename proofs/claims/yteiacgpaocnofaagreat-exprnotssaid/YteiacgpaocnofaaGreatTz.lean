/- Regions that write on in their own memory; rows of cells, of terms; rising rows as sets. -/
import Derived.Test.YteiacgpaocnofaaGreatMb
import Derived.Deep.WholeRow
import Derived.Test.YteiacgpaocnofaaGreatAw
import Derived.Test.YteiacgpaocnofaaGreatRows
import Derived.WalkKit
import Derived.WalkSpells
/- A region whose operations read, make memory, or write on in memory that the region itself has made (bytes behind bytes): what each of them gives, told by what it reads, holds behind all of them, in whatever order they come. For any program. -/
namespace Go
open Go.RowKit
section
variable {P : Program} {ops : Array Oper} {Q : Exit → Act → World → Prop} {md : Region.Mode}
def GivesW (P : Program) (ops : Array Oper) (Q : Exit → Act → World → Prop) (B : Nat) (o : Oper) (T : STy) (a : Act) (w : World) : Prop :=
  Region.wanted o (yielded ops a.tmps) = true ∧ o.wp P a w (fun a' w' => ∃ v, a' = a.put o.dst v ∧ Below B w w' ∧ T.p w' v) Q
theorem GivesW.op {B : Nat} {i : Nat} {o : Oper} {T : STy} {a : Act} {w : World} (hi : ops[i]? = some o) (h : GivesW P ops Q B o T a w) : wpOp P ops Q i (fun a' w' => ∃ v, a' = a.put o.dst v ∧ Below B w w' ∧ T.p w' v) a w := by
  unfold wpOp
  rw [hi]
  simp only [h.1, if_true]
  exact .inl h.2
/-- Whom an operation waits for, through whomever, as bits. -/
def depMask (md : Region.Mode) (ops : Array Oper) (A : List Nat) (k : Nat) : Nat := ((ops[k]?).map fun o => o.after.toList.foldl (fun m e => if Region.binds md e then m ||| (2 ^ e.on ||| A.getD e.on 0) else m) 0).getD 0
def masks (md : Region.Mode) (ops : Array Oper) : Nat → List Nat
  | 0 => []
  | k + 1 => let A := masks md ops k; A ++ [depMask md ops A k]
def waits (M : List Nat) (j i : Nat) : Bool := (M.getD j 0).testBit i
theorem masks_len (k : Nat) : (masks md ops k).length = k := by
  induction k with
  | zero => rfl
  | succ k ih => simp [masks, ih]
theorem fold_bits (A : List Nat) (i : Nat) : ∀ (l : List Edge) (m : Nat), (l.foldl (fun m e => if Region.binds md e then m ||| (2 ^ e.on ||| A.getD e.on 0) else m) m).testBit i = true → m.testBit i = true ∨ ∃ e ∈ l, Region.binds md e = true ∧ (e.on = i ∨ (A.getD e.on 0).testBit i = true)
  | [], m, h => .inl h
  | e :: l, m, h => by
    rw [List.foldl_cons] at h
    rcases fold_bits A i l _ h with h1 | ⟨e', he', h2⟩
    · by_cases hb : Region.binds md e = true
      · rw [if_pos hb, Nat.testBit_or, Nat.testBit_or, Nat.testBit_two_pow] at h1
        simp only [Bool.or_eq_true, decide_eq_true_eq] at h1
        rcases h1 with h1 | h1
        · exact .inl h1
        · exact .inr ⟨e, List.mem_cons_self .., hb, h1⟩
      · rw [if_neg hb] at h1; exact .inl h1
    · exact .inr ⟨e', List.mem_cons_of_mem _ he', h2⟩
theorem masks_spec {L : Nat → Prop} (hc : ∀ j i, L j → dep md ops j i = true → L i) : ∀ n k i, L k → waits (masks md ops n) k i = true → L i := by
  intro n
  induction n with
  | zero => intro k i _ h; simp [waits, masks] at h
  | succ n ih =>
    intro k i hk h
    unfold waits masks at h
    simp only at h
    rcases Nat.lt_or_ge k n with hkn | hkn
    · refine ih k i hk ?_
      unfold waits
      rwa [List.getD_eq_getElem?_getD, List.getElem?_append_left (by rw [masks_len]; exact hkn), ← List.getD_eq_getElem?_getD] at h
    · rw [List.getD_eq_getElem?_getD, List.getElem?_append_right (by rw [masks_len]; exact hkn), masks_len] at h
      rcases Nat.eq_or_lt_of_le hkn with e | e
      · subst e
        rw [Nat.sub_self] at h
        simp only [List.getElem?_cons_zero, Option.getD_some] at h
        unfold depMask at h
        cases ho : ops[n]? with
        | none => rw [ho] at h; simp at h
        | some o =>
          rw [ho] at h
          simp only [Option.map_some, Option.getD_some] at h
          rcases fold_bits _ i _ _ h with h1 | ⟨e, he, hb, h1⟩
          · simp at h1
          · have hd : dep md ops n e.on = true := by
              unfold dep
              rw [ho]
              simp only [Option.map_some, Option.getD_some]
              exact Array.any_eq_true'.2 ⟨e, by simpa using he, by simp [hb]⟩
            have hL := hc n e.on hk hd
            rcases h1 with h1 | h1
            · exact h1 ▸ hL
            · exact ih e.on i hL h1
      · rw [List.getElem?_eq_none (by simp; omega)] at h
        simp at h
def outOf2 (plan : List (List (Nat × Nat) × Nat × List Nat)) (j : Nat) : Option Nat := (plan[j]?).map (·.2.1)
def killsOf (plan : List (List (Nat × Nat) × Nat × List Nat)) (j : Nat) : List Nat := ((plan[j]?).map (·.2.2)).getD []
def planOk2 (md : Region.Mode) (ops : Array Oper) (n : Nat) (olds : List Nat) (pre : List (Nat × Nat)) (plan : List (List (Nat × Nat) × Nat × List Nat)) : Bool :=
  let M := masks md ops ops.size
  plan.length == ops.size && (List.range ops.size).all fun i => match ops[i]?, plan[i]? with
    | some o, some p =>
      (match o.dst with | some d => decide (d < n) && (List.range i).all (fun j => dstOf ops j != some d) | none => false) &&
      o.after.all (fun e => !Region.binds md e || decide (e.on < i)) &&
      p.1.all (fun x => (List.range ops.size).any (fun j => dstOf ops j == some x.1 && dep md ops i j && outOf2 plan j == some x.2 && (List.range ops.size).all (fun k => !(killsOf plan k).contains j || k == i || waits M k i)) ||
        (pre.contains x && (List.range ops.size).all (fun j => dstOf ops j != some x.1 || dep md ops j i || j == i))) &&
      (p.2.2.isEmpty || (List.range ops.size).all (fun j => j == i || waits M j i || p.2.2.contains j || ((outOf2 plan j).map olds.contains).getD true))
    | _, _ => false
structure PInv2 (md : Region.Mode) (ops : Array Oper) (n : Nat) (plan : List (List (Nat × Nat) × Nat × List Nat)) (tys : Nat → STy) (a0 : Act) (w0 : World) (L : Nat → Prop) (a : Act) (w : World) : Prop where
  ext : Ext w0 w
  size : a.tmps.size = n
  defers : a.defers = a0.defers
  done : ∀ j d c, L j → dstOf ops j = some d → outOf2 plan j = some c → (∀ k, L k → (killsOf plan k).contains j = false) → (tys c).p w (a.tmps.getD d undef)
  old : ∀ s, (∀ j, L j → dstOf ops j ≠ some s) → a.tmps.getD s undef = a0.tmps.getD s undef
  closed : ∀ j i, L j → dep md ops j i = true → L i
def OkOne (P : Program) (ops : Array Oper) (Q : Exit → Act → World → Prop) (tys : Nat → STy) (w0 : World) (o : Oper) (p : List (Nat × Nat) × Nat × List Nat) : Prop :=
  match p.2.2 with
  | [] => ∀ a w, Ext w0 w → Reads tys w a p.1 → Gives P ops Q o (tys p.2.1) a w
  | _ :: _ => ∀ a w, Ext w0 w → Reads tys w a p.1 → GivesW P ops Q w0.heap.size o (tys p.2.1) a w
theorem PInv2.step {n : Nat} {pre : List (Nat × Nat)} {olds : List Nat} {plan : List (List (Nat × Nat) × Nat × List Nat)} {tys : Nat → STy} {a0 : Act} {w0 : World} {L : Nat → Prop} {a : Act} {w : World}
    (hp : planOk2 md ops n olds pre plan = true) (hpre : Reads tys w0 a0 pre)
    (holds : ∀ c, olds.contains c = true → ∀ w w' v, Below w0.heap.size w w' → (tys c).p w v → (tys c).p w' v)
    (hok : ∀ (i : Nat) (o : Oper) (p : List (Nat × Nat) × Nat × List Nat), ops[i]? = some o → plan[i]? = some p → OkOne P ops Q tys w0 o p)
    (h : PInv2 md ops n plan tys a0 w0 L a w) {i : Nat} (hi : i < ops.size) (hn : ¬ L i) (hd : ∀ j, dep md ops i j = true → L j) :
    wpOp P ops Q i (fun a' w' => PInv2 md ops n plan tys a0 w0 (fun j => L j ∨ j = i) a' w') a w := by
  unfold planOk2 at hp
  simp only [Bool.and_eq_true, beq_iff_eq, List.all_eq_true, List.mem_range] at hp
  obtain ⟨hlen, hp⟩ := hp
  have hpi := hp i hi
  obtain ⟨o, ho⟩ : ∃ o, ops[i]? = some o := ⟨_, Array.getElem?_eq_getElem hi⟩
  obtain ⟨p, hpl⟩ : ∃ p, plan[i]? = some p := ⟨_, List.getElem?_eq_getElem (by omega)⟩
  simp only [ho, hpl] at hpi
  obtain ⟨⟨⟨hdst, _⟩, hrs⟩, hkl⟩ := (by simpa only [Bool.and_eq_true] using hpi : ((_ ∧ _) ∧ _) ∧ _)
  obtain ⟨d, hod, hdn, hdd⟩ : ∃ d, o.dst = some d ∧ d < n ∧ ∀ j, j < i → dstOf ops j ≠ some d := by
    cases hod : o.dst with
    | none => rw [hod] at hdst; cases hdst
    | some d =>
      rw [hod] at hdst
      simp only [Bool.and_eq_true, decide_eq_true_eq, List.all_eq_true, List.mem_range, bne_iff_ne] at hdst
      exact ⟨d, rfl, hdst.1, hdst.2⟩
  have hdi : dstOf ops i = some d := by unfold dstOf; rw [ho]; exact hod
  have hne : ∀ j, j ≠ i → dstOf ops j ≠ some d := by
    intro j hji hj
    have hjs : j < ops.size := by
      rcases Nat.lt_or_ge j ops.size with h | h
      · exact h
      · unfold dstOf at hj; rw [Array.getElem?_eq_none h] at hj; cases hj
    rcases Nat.lt_or_ge j i with h | h
    · exact hdd j h hj
    · have hij : i < j := by omega
      obtain ⟨oj, hoj⟩ : ∃ o, ops[j]? = some o := ⟨_, Array.getElem?_eq_getElem hjs⟩
      obtain ⟨pj, hpj⟩ : ∃ p, plan[j]? = some p := ⟨_, List.getElem?_eq_getElem (by omega)⟩
      have hh := hp j hjs
      simp only [hoj, hpj] at hh
      obtain ⟨⟨⟨hdj, _⟩, _⟩, _⟩ := (by simpa only [Bool.and_eq_true] using hh : ((_ ∧ _) ∧ _) ∧ _)
      have : oj.dst = some d := by unfold dstOf at hj; rw [hoj] at hj; exact hj
      rw [this] at hdj
      simp only [Bool.and_eq_true, decide_eq_true_eq, List.all_eq_true, List.mem_range, bne_iff_ne] at hdj
      exact hdj.2 i hij hdi
  have hR : Reads tys w a p.1 := by
    refine Reads.of_mem fun x hx => ?_
    have h1 := List.all_eq_true.1 hrs x hx
    rcases (Bool.or_eq_true _ _).mp h1 with h2 | h2
    · obtain ⟨j, _, hj⟩ := List.any_eq_true.1 h2
      simp only [Bool.and_eq_true, beq_iff_eq, List.all_eq_true, List.mem_range, Bool.or_eq_true, Bool.not_eq_true'] at hj
      refine h.done j _ _ (hd j hj.1.1.2) hj.1.1.1 hj.1.2 fun k hk => ?_
      have hks : k < ops.size ∨ (killsOf plan k).contains j = false := by
        rcases Nat.lt_or_ge k ops.size with hks | hks
        · exact .inl hks
        · refine .inr ?_
          unfold killsOf
          rw [List.getElem?_eq_none (by omega)]
          rfl
      rcases hks with hks | hks
      · rcases hj.2 k hks with (h3 | h3) | h3
        · exact h3
        · exact absurd (h3 ▸ hk) hn
        · exact absurd (masks_spec h.closed ops.size k i hk h3) hn
      · exact hks
    · simp only [Bool.and_eq_true, List.all_eq_true, List.mem_range, Bool.or_eq_true, bne_iff_ne, beq_iff_eq] at h2
      rw [h.old x.1 (fun j hL hj => by
        have hjs : j < ops.size := by
          rcases Nat.lt_or_ge j ops.size with h | h
          · exact h
          · unfold dstOf at hj; rw [Array.getElem?_eq_none h] at hj; cases hj
        rcases h2.2 j hjs with (h3 | h3) | h3
        · exact h3 hj
        · exact hn (h.closed j i hL h3)
        · exact hn (h3 ▸ hL))]
      exact (tys x.2).up h.ext (hpre.mem x (by simpa using h2.1))
  have hki : killsOf plan i = p.2.2 := by unfold killsOf; rw [hpl]; rfl
  have fin : ∀ w' v, Below w0.heap.size w w' → (p.2.2 = [] → Ext w w') → (tys p.2.1).p w' v → PInv2 md ops n plan tys a0 w0 (fun j => L j ∨ j = i) (a.put (some d) v) w' := by
    intro w' v hb hx hT
    refine ⟨Below.trans h.ext hb, ?_, h.defers, ?_, ?_, ?_⟩
    · show (a.tmps.setIfInBounds d v).size = n
      rw [Array.size_setIfInBounds]; exact h.size
    · intro j e c hj hje hjc hnk
      rw [getD_put]
      by_cases hji : j = i
      · subst hji
        rw [hdi] at hje
        cases hje
        rw [if_pos ⟨rfl, by rw [h.size]; exact hdn⟩]
        unfold outOf2 at hjc
        rw [hpl] at hjc
        cases hjc
        exact hT
      · rw [if_neg (fun hh => hne j hji (by rw [hje, hh.1]))]
        have hjL := hj.resolve_right hji
        have hty := h.done j e c hjL hje hjc (fun k hk => hnk k (.inl hk))
        by_cases hke : p.2.2 = []
        · exact (tys c).up (hx hke) hty
        · have hjs : j < ops.size := by
            rcases Nat.lt_or_ge j ops.size with h | h
            · exact h
            · unfold dstOf at hje; rw [Array.getElem?_eq_none h] at hje; cases hje
          simp only [Bool.or_eq_true, List.isEmpty_iff, hke, false_or, List.all_eq_true, List.mem_range] at hkl
          rcases hkl j hjs with ((h3 | h3) | h3) | h3
          · exact absurd (by simpa using h3) hji
          · exact absurd (masks_spec h.closed ops.size j i hjL h3) hn
          · have := hnk i (.inr rfl)
            rw [hki, h3] at this
            cases this
          · rw [hjc] at h3
            exact holds c (by simpa using h3) w w' _ hb hty
    · intro s hs
      rw [getD_put, if_neg (fun hh => hs i (.inr rfl) (by rw [hdi, hh.1]))]
      exact h.old s (fun j hj => hs j (.inl hj))
    · intro j k hj hjk
      rcases hj with hj | rfl
      · exact .inl (h.closed j k hj hjk)
      · exact .inl (hd k hjk)
  have hone := hok i o p ho hpl
  unfold OkOne at hone
  split at hone
  · rename_i hk
    refine wpOp_mono ?_ ((hone a w h.ext hR).op ho)
    rintro a' w' ⟨v, rfl, hx, hT⟩
    rw [hod]
    exact fin w' v (Below.mono hx (Below.size h.ext)) (fun _ => hx) hT
  · rename_i hk
    refine wpOp_mono ?_ ((hone a w h.ext hR).op ho)
    rintro a' w' ⟨v, rfl, hx, hT⟩
    rw [hod]
    exact fin w' v hx (fun e => by rw [e] at hk; cases hk) hT
/-- What is to be shown of each operation. -/
def OkL2 (P : Program) (ops : Array Oper) (Q : Exit → Act → World → Prop) (tys : Nat → STy) (w0 : World) : List Oper → List (List (Nat × Nat) × Nat × List Nat) → Prop
  | [], _ => True
  | o :: os, p :: pl => OkOne P ops Q tys w0 o p ∧ OkL2 P ops Q tys w0 os pl
  | _ :: _, [] => False
theorem OkL2.nil {tys : Nat → STy} {w0 : World} {pl : List (List (Nat × Nat) × Nat × List Nat)} : OkL2 P ops Q tys w0 [] pl := trivial
theorem OkL2.cons {tys : Nat → STy} {w0 : World} {o : Oper} {os : List Oper} {rs : List (Nat × Nat)} {c : Nat} {pl : List (List (Nat × Nat) × Nat × List Nat)} (h : ∀ a w, Ext w0 w → Reads tys w a rs → Gives P ops Q o (tys c) a w) (t : OkL2 P ops Q tys w0 os pl) : OkL2 P ops Q tys w0 (o :: os) ((rs, c, []) :: pl) := ⟨h, t⟩
theorem OkL2.wcons {tys : Nat → STy} {w0 : World} {o : Oper} {os : List Oper} {rs : List (Nat × Nat)} {c k : Nat} {ks : List Nat} {pl : List (List (Nat × Nat) × Nat × List Nat)} (h : ∀ a w, Ext w0 w → Reads tys w a rs → GivesW P ops Q w0.heap.size o (tys c) a w) (t : OkL2 P ops Q tys w0 os pl) : OkL2 P ops Q tys w0 (o :: os) ((rs, c, k :: ks) :: pl) := ⟨h, t⟩
theorem OkL2.get {tys : Nat → STy} {w0 : World} : ∀ {os : List Oper} {pl : List (List (Nat × Nat) × Nat × List Nat)}, OkL2 P ops Q tys w0 os pl → ∀ (i : Nat) (o : Oper) (p : List (Nat × Nat) × Nat × List Nat), os[i]? = some o → pl[i]? = some p → OkOne P ops Q tys w0 o p
  | [], _, _, i, o, p, ho, _ => by simp at ho
  | _ :: _, [], h, _, _, _, _, _ => h.elim
  | _ :: _, _ :: _, h, 0, o, p, ho, hp => by cases ho; cases hp; exact h.1
  | _ :: _, _ :: _, h, i + 1, o, p, ho, hp => OkL2.get h.2 i o p ho hp
/-- What is left of the plan behind all: what was written on is nobody's. -/
def finPlan (plan : List (List (Nat × Nat) × Nat × List Nat)) (all : List (List (Nat × Nat) × Nat × List Nat)) : Nat → List (List (Nat × Nat) × Nat)
  | _ => plan.zipIdx.map fun x => ([], if all.any (fun p => p.2.2.contains x.2) then 0 else x.1.2.1 + 1)
def finTys (tys : Nat → STy) : Nat → STy
  | 0 => anyv
  | c + 1 => tys c
theorem finPlan_get (plan : List (List (Nat × Nat) × Nat × List Nat)) (i : Nat) (p : List (Nat × Nat) × Nat) (h : (finPlan plan plan 0)[i]? = some p) : ∃ q, plan[i]? = some q ∧ p.2 = if plan.any (fun p => p.2.2.contains i) then 0 else q.2.1 + 1 := by
  unfold finPlan at h
  rw [List.getElem?_map, List.getElem?_zipIdx] at h
  cases hq : plan[i]? with
  | none => rw [hq] at h; cases h
  | some q =>
    rw [hq] at h
    simp only [Option.map_some, Option.some.injEq, Nat.zero_add] at h
    exact ⟨q, rfl, by rw [← h]⟩
theorem PInv2.fin {os : List Oper} {n : Nat} {pre : List (Nat × Nat)} {olds : List Nat} {plan : List (List (Nat × Nat) × Nat × List Nat)} {tys : Nat → STy} {a0 : Act} {w0 : World} {L : Nat → Prop} {a : Act} {w : World}
    (hp : planOk2 md os.toArray n olds pre plan = true) (hn : a0.tmps.size = n) (h : PInv2 md os.toArray n plan tys a0 w0 L a w) (hall : ∀ j, j < os.length → L j) (hf : FinL (finTys tys) Q w os (finPlan plan plan 0) a0) : Q .normal a w := by
  unfold planOk2 at hp
  simp only [Bool.and_eq_true, beq_iff_eq, List.all_eq_true, List.mem_range] at hp
  obtain ⟨hlen, hp⟩ := hp
  have hl : os.length = (finPlan plan plan 0).length := by unfold finPlan; simp at hlen ⊢; omega
  have hq := fin_fill (b := a) hl (fun i o p ho hpf => by
    obtain ⟨q, hpl, hpq⟩ := finPlan_get plan i p hpf
    have hi : i < os.length := (List.getElem?_eq_some_iff.1 ho).1
    have hpi := hp i (by simpa using hi)
    have ho' : os.toArray[i]? = some o := by simpa using ho
    simp only [ho', hpl] at hpi
    obtain ⟨⟨⟨hdst, _⟩, _⟩, _⟩ := (by simpa only [Bool.and_eq_true] using hpi : ((_ ∧ _) ∧ _) ∧ _)
    cases hod : o.dst with
    | none => rw [hod] at hdst; cases hdst
    | some d =>
      rw [hpq]
      by_cases hk : plan.any (fun p => p.2.2.contains i) = true
      · rw [if_pos hk]; trivial
      · rw [if_neg hk]
        refine h.done i d q.2.1 (hall i hi) (by unfold dstOf; rw [ho']; exact hod) (by unfold outOf2; rw [hpl]; rfl) fun k _ => ?_
        cases hc : (killsOf plan k).contains i with
        | false => rfl
        | true =>
          exfalso
          apply hk
          unfold killsOf at hc
          cases hpk : plan[k]? with
          | none => rw [hpk] at hc; simp at hc
          | some pk =>
            rw [hpk] at hc
            exact List.any_eq_true.2 ⟨pk, List.mem_of_getElem? hpk, hc⟩) hf
  have he : fillL a os a0 = a := by
    obtain ⟨h1, h2⟩ := fill_size a os a0
    have h3 : (fillL a os a0).tmps = a.tmps := by
      refine Array.ext (by rw [h1, hn, h.size]) fun s hs1 hs2 => ?_
      have hs : s < a0.tmps.size := by rw [hn, ← h.size]; exact hs2
      have key : (fillL a os a0).tmps.getD s undef = a.tmps.getD s undef := by
        obtain ⟨g1, g2⟩ := fill_get a s os a0 hs
        by_cases hex : ∃ o ∈ os, o.dst = some s
        · exact g1 hex
        · rw [g2 (fun o ho hd => hex ⟨o, ho, hd⟩), h.old s]
          intro j _ hj
          unfold dstOf at hj
          cases ho : os.toArray[j]? with
          | none => rw [ho] at hj; cases hj
          | some o =>
            rw [ho] at hj
            exact hex ⟨o, by simpa using Array.mem_of_getElem? ho, hj⟩
      simpa [Array.getD_eq_getD_getElem?, hs1, hs2] using key
    cases a with
    | mk t d =>
      cases hfa : fillL ⟨t, d⟩ os a0 with
      | mk t' d' =>
        rw [hfa] at h2 h3
        have h4 := h.defers
        simp only at h2 h3 h4
        subst h3
        rw [h2, h4]
  rwa [he] at hq
theorem PInv2.mono {n : Nat} {plan : List (List (Nat × Nat) × Nat × List Nat)} {tys : Nat → STy} {a0 : Act} {w0 : World} {L L' : Nat → Prop} {a : Act} {w : World} (hL : ∀ j, L j ↔ L' j) (h : PInv2 md ops n plan tys a0 w0 L a w) : PInv2 md ops n plan tys a0 w0 L' a w := by
  have : L = L' := funext fun j => propext (hL j)
  subst this; exact h
theorem any_of_plan2 {os : List Oper} {n : Nat} {pre : List (Nat × Nat)} {olds : List Nat} {plan : List (List (Nat × Nat) × Nat × List Nat)} {tys : Nat → STy} {a0 : Act} {w0 : World}
    (hp : planOk2 md os.toArray n olds pre plan = true) (hn : a0.tmps.size = n) (hpre : Reads tys w0 a0 pre) (holds : ∀ c, olds.contains c = true → ∀ w w' v, Below w0.heap.size w w' → (tys c).p w v → (tys c).p w' v) (hok : OkL2 P os.toArray Q tys w0 os plan) (hfin : ∀ w, Ext w0 w → FinL (finTys tys) Q w os (finPlan plan plan 0) a0) :
    ∀ (fuel : Nat) (listed : Array Bool) (a : Act) (w : World), listed.size = os.length → unl listed os.length = fuel → PInv2 md os.toArray n plan tys a0 w0 (fun j => listed.getD j false = true) a w → wpAny P md os.toArray Q fuel listed a w := by
  have hok' : ∀ (i : Nat) (o : Oper) (p : List (Nat × Nat) × Nat × List Nat), os.toArray[i]? = some o → plan[i]? = some p → OkOne P os.toArray Q tys w0 o p := fun i o p ho hpl => hok.get i o p (by simpa using ho) hpl
  have fin : ∀ (listed : Array Bool) (a : Act) (w : World), listed.size = os.length → PInv2 md os.toArray n plan tys a0 w0 (fun j => listed.getD j false = true) a w → (∀ j, j < os.length → listed.getD j true = true) → Q .normal a w := fun listed a w hsz h hall =>
    h.fin hp hn (fun j hj => by rw [getD_tf (by omega) false true]; exact hall j hj) (hfin w h.ext)
  intro fuel
  induction fuel with
  | zero =>
    intro listed a w hsz hu h
    have hall := unl_zero listed _ hu
    refine ⟨?_, fin listed a w hsz h hall⟩
    cases hr : Region.ready md os.toArray listed with
    | nil => rfl
    | cons i r =>
      have hm : i ∈ Region.ready md os.toArray listed := by rw [hr]; exact List.mem_cons_self ..
      obtain ⟨h1, o, ho, _⟩ := mem_ready.1 hm
      have hi : i < os.length := by simpa using (Array.getElem?_eq_some_iff.1 ho).1
      rw [hall i hi] at h1; cases h1
  | succ fuel ih =>
    intro listed a w hsz hu h
    refine ⟨fun hr => fin listed a w hsz h (fun j => ?_), fun i hi => ?_⟩
    · induction j using Nat.strongRecOn with
      | ind j ihj =>
        intro hj
        cases hlj : listed.getD j true with
        | true => rfl
        | false =>
          exfalso
          have hm : j ∈ Region.ready md os.toArray listed := by
            obtain ⟨o, ho⟩ : ∃ o, os.toArray[j]? = some o := ⟨_, Array.getElem?_eq_getElem (by simpa using hj)⟩
            refine mem_ready.2 ⟨hlj, o, ho, fun e he hb => ?_⟩
            have hp' := hp
            unfold planOk2 at hp'
            simp only [Bool.and_eq_true, beq_iff_eq, List.all_eq_true, List.mem_range] at hp'
            have hpj := hp'.2 j (by simpa using hj)
            obtain ⟨p, hpl⟩ : ∃ p, plan[j]? = some p := ⟨_, List.getElem?_eq_getElem (by have := hp'.1; simp at this; omega)⟩
            simp only [ho, hpl] at hpj
            obtain ⟨⟨⟨_, haf⟩, _⟩, _⟩ := (by simpa only [Bool.and_eq_true] using hpj : ((_ ∧ _) ∧ _) ∧ _)
            have h1 := Array.all_eq_true_iff_forall_mem.1 haf e he
            simp only [hb, Bool.not_true, Bool.false_or, decide_eq_true_eq] at h1
            rw [getD_tf (by omega) false true]
            exact ihj e.on h1 (by omega)
          rw [hr] at hm
          cases hm
    · obtain ⟨h1, o, ho, hall⟩ := mem_ready.1 hi
      have hio : i < os.length := by simpa using (Array.getElem?_eq_some_iff.1 ho).1
      refine wpOp_mono ?_ (h.step hp hpre holds hok' (i := i) (by simpa using hio) (by rw [getD_tf (by omega) false true, h1]; simp) (fun j hj => ?_))
      · intro a' w' h'
        refine ih _ a' w' (by simpa using hsz) ?_ (h'.mono fun j => ?_)
        · have := unl_set listed i (by omega) h1 os.length
          rw [if_pos hio] at this
          omega
        · rw [listed_set _ _ _ _ (by omega)]
          by_cases e : j = i
          · simp [e]
          · simp [e]
      · unfold dep at hj
        rw [ho] at hj
        simp only [Option.map_some, Option.getD_some] at hj
        obtain ⟨e, he, hb⟩ := Array.any_eq_true'.1 hj
        simp only [Bool.and_eq_true, beq_iff_eq] at hb
        rw [← hb.2]
        exact hall e he hb.1
theorem PInv2.start {n : Nat} {plan : List (List (Nat × Nat) × Nat × List Nat)} {tys : Nat → STy} {a0 : Act} {w0 w : World} (hx : Ext w0 w) (hn : a0.tmps.size = n) : PInv2 md ops n plan tys a0 w0 (fun _ => False) a0 w :=
  ⟨hx, hn, rfl, fun _ _ _ h => h.elim, fun _ _ => rfl, fun _ _ h => h.elim⟩
/-- THE REGION THAT DRAWS ITS ORDER. -/
theorem wp_region_typed2 {os : List Oper} {id : Nat} {pre : List (Nat × Nat)} {plan : List (List (Nat × Nat) × Nat × List Nat)} {tys : Nat → STy} {a0 : Act} {w0 : World} (hm : P.follows .mixedOrders = true) (olds : List Nat)
    (n : Nat) (hp : planOk2 .any os.toArray n olds pre plan = true) (hn : a0.tmps.size = n) (holds : ∀ c, olds.contains c = true → ∀ w w' v, Below w0.heap.size w w' → (tys c).p w v → (tys c).p w' v) (hpre : Reads tys w0 a0 pre) (hok : OkL2 P os.toArray Q tys w0 os plan) (hfin : ∀ w, Ext w0 w → FinL (finTys tys) Q w os (finPlan plan plan 0) a0) :
    (Code.region id os.toArray true).wp P Q a0 w0 :=
  wp_region_any hm (any_of_plan2 hp hn hpre holds hok hfin _ _ _ _ (by simp) (by simpa using unl_all os.length os.length (Nat.le_refl _)) ((PInv2.start (Ext.drew w0) hn).mono fun j => by
    constructor
    · exact fun h => h.elim
    · intro h
      rcases Nat.lt_or_ge j os.length with hj | hj
      · simp [hj] at h
      · simp [hj] at h))
end
end Go
/- A region whose operations read, make memory, make variables and fill variables whole: what each of them gives, told by what it reads, holds behind all of them, in whatever order they come. For any program. -/
namespace Go
open Go.RowKit
section
variable {P : Program} {Q : Exit → Act → World → Prop} {md : Region.Mode}
/-- ANY ORDER, by what holds behind any part of the operations that waits for nobody outside it. -/
theorem any_of_inv {os : List Oper} (I : (Nat → Prop) → Act → World → Prop)
    (hback : ∀ (i : Nat) (o : Oper), os[i]? = some o → ∀ e ∈ o.after, Region.binds md e = true → e.on < i)
    (hst : ∀ (L : Nat → Prop) (i : Nat) (a : Act) (w : World), i < os.length → ¬ L i → (∀ j, dep md os.toArray i j = true → L j) → I L a w → wpOp P os.toArray Q i (fun a' w' => I (fun j => L j ∨ j = i) a' w') a w)
    (hfin : ∀ (L : Nat → Prop) (a : Act) (w : World), (∀ j, j < os.length → L j) → I L a w → Q .normal a w) :
    ∀ (fuel : Nat) (listed : Array Bool) (a : Act) (w : World), listed.size = os.length → unl listed os.length = fuel → I (fun j => listed.getD j false = true) a w → wpAny P md os.toArray Q fuel listed a w := by
  have fin : ∀ (listed : Array Bool) (a : Act) (w : World), listed.size = os.length → I (fun j => listed.getD j false = true) a w → (∀ j, j < os.length → listed.getD j true = true) → Q .normal a w := fun listed a w hsz h hall =>
    hfin _ a w (fun j hj => by rw [getD_tf (by omega) false true]; exact hall j hj) h
  intro fuel
  induction fuel with
  | zero =>
    intro listed a w hsz hu h
    have hall := unl_zero listed _ hu
    refine ⟨?_, fin listed a w hsz h hall⟩
    cases hr : Region.ready md os.toArray listed with
    | nil => rfl
    | cons i r =>
      have hm : i ∈ Region.ready md os.toArray listed := by rw [hr]; exact List.mem_cons_self ..
      obtain ⟨h1, o, ho, _⟩ := mem_ready.1 hm
      have hi : i < os.length := by simpa using (Array.getElem?_eq_some_iff.1 ho).1
      rw [hall i hi] at h1; cases h1
  | succ fuel ih =>
    intro listed a w hsz hu h
    refine ⟨fun hr => fin listed a w hsz h (fun j => ?_), fun i hi => ?_⟩
    · induction j using Nat.strongRecOn with
      | ind j ihj =>
        intro hj
        cases hlj : listed.getD j true with
        | true => rfl
        | false =>
          exfalso
          have hm : j ∈ Region.ready md os.toArray listed := by
            obtain ⟨o, ho⟩ : ∃ o, os.toArray[j]? = some o := ⟨_, Array.getElem?_eq_getElem (by simpa using hj)⟩
            refine mem_ready.2 ⟨hlj, o, ho, fun e he hb => ?_⟩
            have h1 := hback j o (by simpa using ho) e he hb
            rw [getD_tf (by omega) false true]
            exact ihj e.on h1 (by omega)
          rw [hr] at hm
          cases hm
    · obtain ⟨h1, o, ho, hall⟩ := mem_ready.1 hi
      have hio : i < os.length := by simpa using (Array.getElem?_eq_some_iff.1 ho).1
      refine wpOp_mono ?_ (hst _ i a w hio (by rw [getD_tf (by omega) false true, h1]; simp) (fun j hj => ?_) h)
      · intro a' w' h'
        refine ih _ a' w' (by simpa using hsz) ?_ ?_
        · have := unl_set listed i (by omega) h1 os.length
          rw [if_pos hio] at this
          omega
        · have : (fun j => listed.getD j false = true ∨ j = i) = (fun j => (listed.setIfInBounds i true).getD j false = true) := funext fun j => propext (by
            rw [listed_set _ _ _ _ (by omega)]
            by_cases e : j = i
            · simp [e]
            · simp [e])
          rw [← this]; exact h'
      · unfold dep at hj
        rw [ho] at hj
        simp only [Option.map_some, Option.getD_some] at hj
        obtain ⟨e, he, hb⟩ := Array.any_eq_true'.1 hj
        simp only [Bool.and_eq_true, beq_iff_eq] at hb
        rw [← hb.2]
        exact hall e he hb.1
theorem wp_region_inv {os : List Oper} {id : Nat} {a0 : Act} {w0 : World} (I : (Nat → Prop) → Act → World → Prop) (hm : P.follows .mixedOrders = true)
    (hback : ∀ (i : Nat) (o : Oper), os[i]? = some o → ∀ e ∈ o.after, Region.binds .any e = true → e.on < i)
    (h0 : I (fun _ => False) a0 w0.drew)
    (hst : ∀ (L : Nat → Prop) (i : Nat) (a : Act) (w : World), i < os.length → ¬ L i → (∀ j, dep .any os.toArray i j = true → L j) → I L a w → wpOp P os.toArray Q i (fun a' w' => I (fun j => L j ∨ j = i) a' w') a w)
    (hfin : ∀ (L : Nat → Prop) (a : Act) (w : World), (∀ j, j < os.length → L j) → I L a w → Q .normal a w) :
    (Code.region id os.toArray true).wp P Q a0 w0 := by
  refine wp_region_any hm (any_of_inv I hback hst hfin _ _ _ _ (by simp) (by simpa using unl_all os.length os.length (Nat.le_refl _)) ?_)
  have : (fun _ : Nat => False) = (fun j => (Array.replicate os.length false).getD j false = true) := funext fun j => propext (by
    constructor
    · exact fun h => h.elim
    · intro h
      rcases Nat.lt_or_ge j os.length with hj | hj
      · simp [hj] at h
      · simp [hj] at h)
  rw [this] at h0
  simpa using h0
theorem wp_region_inv_lined {os : List Oper} {id : Nat} {a0 : Act} {w0 : World} (I : (Nat → Prop) → Act → World → Prop)
    (hback : ∀ (i : Nat) (o : Oper), os[i]? = some o → ∀ e ∈ o.after, Region.binds .text e = true → e.on < i)
    (h0 : I (fun _ => False) a0 w0)
    (hst : ∀ (L : Nat → Prop) (i : Nat) (a : Act) (w : World), i < os.length → ¬ L i → (∀ j, dep .text os.toArray i j = true → L j) → (∀ j, j < i → L j) → I L a w → wpOp P os.toArray Q i (fun a' w' => I (fun j => L j ∨ j = i) a' w') a w)
    (hfin : ∀ (L : Nat → Prop) (a : Act) (w : World), (∀ j, j < os.length → L j) → I L a w → Q .normal a w) :
    (Code.region id os.toArray false).wp P Q a0 w0 := by
  have key : ∀ (m k : Nat) (a : Act) (w : World), k + m = os.length → I (fun j => j < k) a w → wpOps P os.toArray Q (List.range' k m) a w := by
    intro m
    induction m with
    | zero => intro k a w hk h; exact hfin _ a w (fun j hj => by omega) h
    | succ m ih =>
      intro k a w hk h
      rw [List.range'_succ, wpOps_cons]
      refine wpOp_mono ?_ (hst _ k a w (by omega) (by omega) (fun j hj => ?_) (fun j hj => hj) h)
      · intro a' w' h'
        have : (fun j => j < k ∨ j = k) = (fun j => j < k + 1) := funext fun j => propext (by omega)
        rw [this] at h'
        exact ih (k + 1) a' w' (by omega) h'
      · obtain ⟨o, ho⟩ : ∃ o, os[k]? = some o := ⟨_, List.getElem?_eq_getElem (by omega)⟩
        unfold dep at hj
        have ho' : os.toArray[k]? = some o := by simpa using ho
        rw [ho'] at hj
        simp only [Option.map_some, Option.getD_some] at hj
        obtain ⟨e, he, hb⟩ := Array.any_eq_true'.1 hj
        simp only [Bool.and_eq_true, beq_iff_eq] at hb
        rw [← hb.2]
        exact hback k o ho e he hb.1
  refine wp_region (by
    rw [List.range_eq_range', List.size_toArray]
    refine key os.length 0 a0 w0 (by omega) ?_
    have : (fun _ : Nat => False) = (fun j => j < 0) := funext fun j => propext ⟨fun h => h.elim, fun h => absurd h (Nat.not_lt_zero _)⟩
    rw [← this]; exact h0)
/-- As it was below B, but for some blocks. -/
structure Lull (B : Nat) (S : List Nat) (w w' : World) : Prop where
  os : w'.os = w.os
  tape : w'.tape = w.tape
  output : w'.output = w.output
  size : w.heap.size ≤ w'.heap.size
  block : ∀ k, k < B → k ∉ S → w'.heap[k]? = w.heap[k]?
theorem Lull.refl (B : Nat) (S : List Nat) (w : World) : Lull B S w w := ⟨rfl, rfl, rfl, Nat.le_refl _, fun _ _ _ => rfl⟩
theorem Lull.trans {B : Nat} {S : List Nat} {a b c : World} (h : Lull B S a b) (k : Lull B S b c) : Lull B S a c :=
  ⟨k.os.trans h.os, k.tape.trans h.tape, k.output.trans h.output, Nat.le_trans h.size k.size, fun i hi hs => (k.block i hi hs).trans (h.block i hi hs)⟩
theorem Lull.of_ext {B : Nat} {S : List Nat} {w w' : World} (h : Ext w w') (hB : B ≤ w.heap.size) : Lull B S w w' := ⟨h.os, h.tape, h.output, h.size, fun i hi _ => h.block i (Nat.lt_of_lt_of_le hi hB)⟩
theorem Lull.drew (B : Nat) (S : List Nat) (w : World) : Lull B S w w.drew := ⟨rfl, rfl, rfl, Nat.le_refl _, fun _ _ _ => rfl⟩
theorem Lull.setRow {B : Nat} {S : List Nat} (w : World) (g : Nat) (cs : Array Value) (hg : g ∈ S ∨ B ≤ g) : Lull B S w (w.setRow g cs) :=
  ⟨rfl, rfl, rfl, Nat.le_of_eq (setRow_size _ _ _).symm, fun i hi hs => setRow_other _ _ _ _ (fun e => by
    subst e
    rcases hg with h | h
    · exact hs h
    · omega)⟩
theorem Lull.below {B C : Nat} {S : List Nat} {w w' : World} (h : Lull B S w w') (hC : C ≤ B) (hS : ∀ s ∈ S, C ≤ s) : Below C w w' :=
  ⟨h.os, h.tape, h.output, h.size, fun k hk => h.block k (by omega) (fun hm => by have := hS k hm; omega)⟩
theorem Lull.ext {w w' : World} (h : Lull w.heap.size [] w w') : Ext w w' := h.below (Nat.le_refl _) (by simp)
/-- What stays so while old memory but for some blocks is as it was. -/
def LullT (B : Nat) (S : List Nat) (T : STy) : Prop := ∀ w w' v, Lull B S w w' → T.p w v → T.p w' v
theorem lull_isv (B : Nat) (S : List Nat) (x : Value) : LullT B S (isv x) := fun _ _ _ _ h => h
theorem lull_any (B : Nat) (S : List Nat) : LullT B S anyv := fun _ _ _ _ _ => trivial
def LullL (B : Nat) (S : List Nat) (soft : List Nat) : Nat → List STy → Prop
  | _, [] => True
  | i, T :: r => (soft.contains i = true ∨ LullT B S T) ∧ LullL B S soft (i + 1) r
theorem LullL.at {B : Nat} {S soft : List Nat} : ∀ {l : List STy} {i : Nat}, LullL B S soft i l → ∀ c, soft.contains (i + c) = false → LullT B S (l.getD c anyv)
  | [], _, _, _, _ => by simpa using lull_any B S
  | T :: r, i, h, 0, hc => by
    rcases h.1 with h1 | h1
    · rw [Nat.add_zero] at hc; rw [hc] at h1; cases h1
    · simpa using h1
  | T :: r, i, h, c + 1, hc => by
    have := LullL.at h.2 c (by rw [show i + 1 + c = i + (c + 1) by omega]; exact hc)
    simpa using this
theorem LullL.get {B : Nat} {S soft : List Nat} {l : List STy} (h : LullL B S soft 0 l) : ∀ c, soft.contains c = false → LullT B S (l.getD c anyv) := fun c hc => h.at c (by rw [Nat.zero_add]; exact hc)
/-- A row of n cells. -/
def RowT (n : Nat) (T : STy) : Prop := ∀ w v, T.p w v → ∃ A : Array Value, v = .agg A ∧ A.size = n ∧ A.all (·.oneCell') = true
/-- What an operation is to the law: it gives a value · it reads a variable that another one fills behind it · it makes a variable · it fills one that an operation made · it fills one that was there. -/
inductive Pk where
  | val (reads : List (Nat × Nat)) (out : Nat)
  | ld (k t out : Nat)
  | alc (ty n : Nat)
  | sto (j s c : Nat)
  | put (k t s c : Nat)
def Pk.out? : Pk → Option Nat
  | .val _ c => some c
  | .ld _ _ c => some c
  | _ => none
def Pk.isAlc : Pk → Bool
  | .alc _ _ => true
  | _ => false
def Pk.isSto (j : Nat) : Pk → Bool
  | .sto i _ _ => i == j
  | _ => false
def Pk.isPut (k : Nat) : Pk → Bool
  | .put i _ _ _ => i == k
  | _ => false
def Pk.src : Pk → List (Nat × Nat)
  | .val r _ => r
  | .ld _ _ _ => []
  | .alc _ _ => []
  | .sto _ s c => [(s, c)]
  | .put _ _ s c => [(s, c)]
def Pk.fills : Pk → Bool
  | .sto _ _ _ => true
  | .put _ _ _ _ => true
  | _ => false
def outOf3 (plan : List Pk) (j : Nat) : Option Nat := (plan[j]?).bind Pk.out?
/-- One operation comes behind another in whatever order. -/
def comes (md : Region.Mode) (M : List Nat) (k i : Nat) : Bool := (match md with | .text => decide (i < k) | _ => false) || waits M k i
/-- The plan fits the region's own order. -/
def planOk3 (md : Region.Mode) (ops : Array Oper) (n : Nat) (soft : List Nat) (ss : List (Nat × Nat)) (pre : List (Nat × Nat)) (plan : List Pk) : Bool :=
  let M := masks md ops ops.size
  plan.length == ops.size && (List.range ops.size).all fun i => match ops[i]?, plan[i]? with
    | some o, some p =>
      (match o.dst with | some d => !p.fills && decide (d < n) && (List.range i).all (fun j => dstOf ops j != some d) && ss.all (fun x => x.2 != d) | none => p.fills) &&
      o.after.all (fun e => !Region.binds md e || decide (e.on < i)) &&
      p.src.all (fun x => (List.range ops.size).any (fun j => dstOf ops j == some x.1 && dep md ops i j && outOf3 plan j == some x.2) ||
        (pre.contains x && (List.range ops.size).all (fun j => dstOf ops j != some x.1 || dep md ops j i || j == i))) &&
      p.src.all (fun x => !soft.contains x.2 || (List.range ops.size).all (fun k => !((plan[k]?).map (·.fills)).getD false || comes md M k i)) &&
      (match p with
        | .ld k t _ => ss.contains (k, t) && (List.range ops.size).all (fun j => !((plan[j]?).map (·.isPut k)).getD false || waits M j i)
        | .sto j _ _ => ((plan[j]?).map (·.isAlc)).getD false && dep md ops i j && (List.range ops.size).all (fun l => l == i || !((plan[l]?).map (·.isSto j)).getD false)
        | .put k t _ _ => ss.contains (k, t) && (List.range ops.size).all (fun l => l == i || !((plan[l]?).map (·.isPut k)).getD false)
        | _ => true)
    | _, _ => false
/-- A variable that was there and is filled: its block, its type, its cells. -/
abbrev Snk := Nat × TypeId × Nat
def SnkOk (S : List Snk) : Prop := ∀ (k k' : Nat) (x y : Snk), S[k]? = some x → S[k']? = some y → x.1 = y.1 → k = k'
theorem snk0 : SnkOk [] := fun k _ _ _ h => by simp at h
theorem snk1 (x : Snk) : SnkOk [x] := fun k k' u v h h' _ => by
  have h1 := (List.getElem?_eq_some_iff.1 h).1
  have h2 := (List.getElem?_eq_some_iff.1 h').1
  simp at h1 h2
  omega
structure PI3 (md : Region.Mode) (ops : Array Oper) (n : Nat) (soft : List Nat) (S : List Snk) (ss : List (Nat × Nat)) (plan : List Pk) (tys : Nat → STy) (a0 : Act) (w0 : World) (L : Nat → Prop) (a : Act) (w : World) : Prop where
  calm : Lull w0.heap.size (S.map (·.1)) w0 w
  size : a.tmps.size = n
  defers : a.defers = a0.defers
  ext : (∀ k p, L k → plan[k]? = some p → p.fills = false) → Ext w0 w
  row : md = .text → ∀ j i, L j → i < j → L i
  val : ∀ j d c, L j → dstOf ops j = some d → outOf3 plan j = some c → (soft.contains c = true → ∀ k p, L k → plan[k]? = some p → p.fills = false) → (tys c).p w (a.tmps.getD d undef)
  alc : ∀ j d ty m, L j → dstOf ops j = some d → plan[j]? = some (.alc ty m) → ∃ g cs, a.tmps.getD d undef = .pointer (some ⟨g, 0, none⟩) ∧ w0.heap.size ≤ g ∧ g < w.heap.size ∧ w.heap[g]? = some (.cells cs ty (0, 0)) ∧ cs.size = m ∧ ∀ i s c, L i → plan[i]? = some (.sto j s c) → (tys c).p w (.agg cs)
  dif : ∀ j j' d d' ty m ty' m', L j → L j' → j ≠ j' → plan[j]? = some (.alc ty m) → plan[j']? = some (.alc ty' m') → dstOf ops j = some d → dstOf ops j' = some d' → a.tmps.getD d undef ≠ a.tmps.getD d' undef
  snk : ∀ k g ty m, S[k]? = some (g, ty, m) → ∃ cs, w.heap[g]? = some (.cells cs ty (0, 0)) ∧ cs.size = m ∧ ((∀ i t s c, L i → plan[i]? ≠ some (.put k t s c)) → w.heap[g]? = w0.heap[g]?) ∧ ∀ i t s c, L i → plan[i]? = some (.put k t s c) → (tys c).p w (.agg cs)
  old : ∀ s, (∀ j, L j → dstOf ops j ≠ some s) → a.tmps.getD s undef = a0.tmps.getD s undef
  closed : ∀ j i, L j → dep md ops j i = true → L i
/-- What is to be shown of an operation. -/
def OkOne3 (P : Program) (ops : Array Oper) (Q : Exit → Act → World → Prop) (S : List Snk) (plan : List Pk) (tys : Nat → STy) (w0 : World) (o : Oper) : Pk → Prop
  | .val r c => ∀ a w, Lull w0.heap.size (S.map (·.1)) w0 w → Reads tys w a r → Gives P ops Q o (tys c) a w
  | .ld k t c => ∀ a w, Lull w0.heap.size (S.map (·.1)) w0 w → a.tmps.getD t undef = .pointer (some ⟨(S.getD k (0, 0, 0)).1, 0, none⟩) → w.heap[(S.getD k (0, 0, 0)).1]? = w0.heap[(S.getD k (0, 0, 0)).1]? → Gives P ops Q o (tys c) a w
  | .alc ty m => o.guard = none ∧ ∀ (a : Act) (w : World), ∃ Z : Array Value, Z.size = m ∧ (execOp a.eval o).run P w = .ok (.value (.pointer (some ⟨w.heap.size, 0, none⟩))) (w.alloc (.cells Z ty))
  | .sto j s c => o.guard = none ∧ ∃ d ty m, dstOf ops j = some d ∧ plan[j]? = some (.alc ty m) ∧ o.op = .store ty (.tmp d) (.tmp s) ∧ (P.info? ty).map (·.size) = some m ∧ RowT m (tys c)
  | .put k t s c => o.guard = none ∧ ∃ g ty m, S[k]? = some (g, ty, m) ∧ o.op = .store ty (.tmp t) (.tmp s) ∧ (P.info? ty).map (·.size) = some m ∧ RowT m (tys c)
section
variable {ops : Array Oper} {n : Nat} {soft : List Nat} {S : List Snk} {ss pre : List (Nat × Nat)} {plan : List Pk} {tys : Nat → STy} {a0 : Act} {w0 : World} {L : Nat → Prop} {a : Act} {w : World}
theorem out_val {j : Nat} {c : Nat} (h : outOf3 plan j = some c) : ∃ p, plan[j]? = some p ∧ p.out? = some c := by
  unfold outOf3 at h
  cases hp : plan[j]? with
  | none => rw [hp] at h; cases h
  | some p => rw [hp] at h; exact ⟨p, rfl, h⟩
/-- What planOk3 says of one operation. -/
structure At3 (md : Region.Mode) (ops : Array Oper) (n : Nat) (soft : List Nat) (ss pre : List (Nat × Nat)) (plan : List Pk) (i : Nat) (o : Oper) (p : Pk) : Prop where
  dst : ∀ d, o.dst = some d → p.fills = false ∧ d < n ∧ (∀ j, j ≠ i → dstOf ops j ≠ some d) ∧ ∀ x ∈ ss, x.2 ≠ d
  nodst : o.dst = none → p.fills = true
  back : ∀ e ∈ o.after, Region.binds md e = true → e.on < i
  src : ∀ x ∈ p.src, (∃ j, dstOf ops j = some x.1 ∧ dep md ops i j = true ∧ outOf3 plan j = some x.2) ∨ (x ∈ pre ∧ ∀ j, dstOf ops j = some x.1 → dep md ops j i = true ∨ j = i)
  soft : ∀ x ∈ p.src, soft.contains x.2 = true → ∀ k q, plan[k]? = some q → q.fills = true → comes md (masks md ops ops.size) k i = true
  ld : ∀ k t c, p = .ld k t c → (k, t) ∈ ss ∧ ∀ j t' s c', plan[j]? = some (.put k t' s c') → waits (masks md ops ops.size) j i = true
  sto : ∀ j s c, p = .sto j s c → (∃ ty m, plan[j]? = some (.alc ty m)) ∧ dep md ops i j = true ∧ ∀ l s' c', l ≠ i → plan[l]? ≠ some (.sto j s' c')
  put : ∀ k t s c, p = .put k t s c → (k, t) ∈ ss ∧ ∀ l t' s' c', l ≠ i → plan[l]? ≠ some (.put k t' s' c')
theorem dst_lt {j : Nat} {d : Nat} (h : dstOf ops j = some d) : j < ops.size := by
  rcases Nat.lt_or_ge j ops.size with h1 | h1
  · exact h1
  · unfold dstOf at h; rw [Array.getElem?_eq_none h1] at h; cases h
theorem plan_at (hp : planOk3 md ops n soft ss pre plan = true) {i : Nat} {o : Oper} {p : Pk} (ho : ops[i]? = some o) (hpl : plan[i]? = some p) : At3 md ops n soft ss pre plan i o p := by
  have hp0 := hp
  unfold planOk3 at hp
  simp only [Bool.and_eq_true, beq_iff_eq, List.all_eq_true, List.mem_range] at hp
  obtain ⟨hlen, hp⟩ := hp
  have hi : i < ops.size := (Array.getElem?_eq_some_iff.1 ho).1
  have pl_lt : ∀ {l : Nat} {q : Pk}, plan[l]? = some q → l < ops.size := fun h => by rw [← hlen]; exact (List.getElem?_eq_some_iff.1 h).1
  have hpi := hp i hi
  simp only [ho, hpl] at hpi
  obtain ⟨⟨⟨⟨h1, h2⟩, h3⟩, h3b⟩, h4⟩ := (by simpa only [Bool.and_eq_true] using hpi : (((_ ∧ _) ∧ _) ∧ _) ∧ _)
  have hdi : ∀ d, o.dst = some d → dstOf ops i = some d := fun d hd => by unfold dstOf; rw [ho]; exact hd
  refine ⟨?_, ?_, ?_, ?_, ?_, ?_, ?_, ?_⟩
  · intro d hd
    rw [hd] at h1
    simp only [Bool.and_eq_true, Bool.not_eq_true', decide_eq_true_eq, List.all_eq_true, List.mem_range, bne_iff_ne] at h1
    obtain ⟨⟨⟨a1, a2⟩, a3⟩, a4⟩ := h1
    refine ⟨a1, a2, ?_, fun x hx => a4 x hx⟩
    intro j hji hj
    rcases Nat.lt_or_ge j i with h | h
    · exact a3 j h hj
    · have hjs := dst_lt hj
      obtain ⟨oj, hoj⟩ : ∃ o, ops[j]? = some o := ⟨_, Array.getElem?_eq_getElem hjs⟩
      obtain ⟨pj, hpj⟩ : ∃ p, plan[j]? = some p := ⟨_, List.getElem?_eq_getElem (by omega)⟩
      have hh := hp j hjs
      simp only [hoj, hpj] at hh
      obtain ⟨⟨⟨⟨hdj, _⟩, _⟩, _⟩, _⟩ := (by simpa only [Bool.and_eq_true] using hh : (((_ ∧ _) ∧ _) ∧ _) ∧ _)
      have hojd : oj.dst = some d := by unfold dstOf at hj; rw [hoj] at hj; exact hj
      rw [hojd] at hdj
      simp only [Bool.and_eq_true, Bool.not_eq_true', decide_eq_true_eq, List.all_eq_true, List.mem_range, bne_iff_ne] at hdj
      exact hdj.1.2 i (by omega) (hdi d hd)
  · intro hd
    rw [hd] at h1
    exact h1
  · intro e he hb
    have h5 := Array.all_eq_true_iff_forall_mem.1 h2 e he
    simpa [hb] using h5
  · intro x hx
    have h5 := List.all_eq_true.1 h3 x hx
    rcases (Bool.or_eq_true _ _).mp h5 with h6 | h6
    · obtain ⟨j, _, hj⟩ := List.any_eq_true.1 h6
      simp only [Bool.and_eq_true, beq_iff_eq] at hj
      exact .inl ⟨j, hj.1.1, hj.1.2, hj.2⟩
    · simp only [Bool.and_eq_true, List.all_eq_true, List.mem_range, Bool.or_eq_true, bne_iff_ne, beq_iff_eq] at h6
      refine .inr ⟨by simpa using h6.1, fun j hj => ?_⟩
      rcases h6.2 j (dst_lt hj) with (h7 | h7) | h7
      · exact absurd hj h7
      · exact .inl h7
      · exact .inr h7
  · intro x hx hsf k q hk hq
    have h5 := List.all_eq_true.1 h3b x hx
    rw [hsf] at h5
    simp only [Bool.not_true, Bool.false_or, List.all_eq_true, List.mem_range, Bool.or_eq_true, Bool.not_eq_true'] at h5
    rcases h5 k (pl_lt hk) with h6 | h6
    · rw [hk] at h6
      simp only [Option.map_some, Option.getD_some] at h6
      rw [hq] at h6; cases h6
    · exact h6
  · rintro k t c rfl
    simp only [Bool.and_eq_true, List.all_eq_true, List.mem_range, Bool.or_eq_true, Bool.not_eq_true'] at h4
    refine ⟨by simpa using h4.1, fun j t' s c' hj => ?_⟩
    rcases h4.2 j (pl_lt hj) with h5 | h5
    · rw [hj] at h5; simp [Pk.isPut] at h5
    · exact h5
  · rintro j s c rfl
    simp only [Bool.and_eq_true, List.all_eq_true, List.mem_range, Bool.or_eq_true, Bool.not_eq_true', beq_iff_eq] at h4
    obtain ⟨⟨b1, b2⟩, b3⟩ := h4
    refine ⟨?_, b2, fun l s' c' hl hpl' => ?_⟩
    · cases hj : plan[j]? with
      | none => rw [hj] at b1; cases b1
      | some q =>
        rw [hj] at b1
        cases q with
        | alc ty m => exact ⟨ty, m, rfl⟩
        | _ => cases b1
    · rcases b3 l (pl_lt hpl') with h5 | h5
      · exact hl h5
      · rw [hpl'] at h5; simp [Pk.isSto] at h5
  · rintro k t s c rfl
    simp only [Bool.and_eq_true, List.all_eq_true, List.mem_range, Bool.or_eq_true, Bool.not_eq_true', beq_iff_eq] at h4
    refine ⟨by simpa using h4.1, fun l t' s' c' hl hpl' => ?_⟩
    rcases h4.2 l (pl_lt hpl') with h5 | h5
    · exact hl h5
    · rw [hpl'] at h5; simp [Pk.isPut] at h5
theorem alc_out {ty m j : Nat} (h : plan[j]? = some (.alc ty m)) (c : Nat) : outOf3 plan j ≠ some c := by
  unfold outOf3; rw [h]; simp [Pk.out?]
/-- What the slots of a step's sources hold. -/
theorem PI3.reads (h : PI3 md ops n soft S ss plan tys a0 w0 L a w) (hl : ∀ c, soft.contains c = false → LullT w0.heap.size (S.map (·.1)) (tys c)) (hpre : Reads tys w0 a0 pre) {i : Nat} {o : Oper} {p : Pk} (hat : At3 md ops n soft ss pre plan i o p) (hn : ¬ L i) (hd : ∀ j, dep md ops i j = true → L j) : Reads tys w a p.src := by
  refine Reads.of_mem fun x hx => ?_
  have nofill : soft.contains x.2 = true → ∀ k q, L k → plan[k]? = some q → q.fills = false := fun hs k q hk hq => by
    cases hf : q.fills with
    | false => rfl
    | true =>
      exfalso
      have hc := hat.soft x hx hs k q hq hf
      unfold comes at hc
      rcases (Bool.or_eq_true _ _).mp hc with h1 | h1
      · cases md with
        | text => exact hn (h.row rfl k i hk (of_decide_eq_true h1))
        | _ => cases h1
      · exact hn (masks_spec h.closed _ k i hk h1)
  rcases hat.src x hx with ⟨j, h1, h2, h3⟩ | ⟨h1, h2⟩
  · exact h.val j _ _ (hd j h2) h1 h3 nofill
  · rw [h.old x.1 (fun j hL hj => by
      rcases h2 j hj with h3 | h3
      · exact hn (h.closed j i hL h3)
      · exact hn (h3 ▸ hL))]
    cases hs : soft.contains x.2 with
    | false => exact hl _ hs _ _ _ h.calm (hpre.mem x h1)
    | true => exact (tys x.2).up (h.ext (nofill hs)) (hpre.mem x h1)
theorem plan_len (hp : planOk3 md ops n soft ss pre plan = true) : plan.length = ops.size := by
  unfold planOk3 at hp
  simp only [Bool.and_eq_true, beq_iff_eq] at hp
  exact hp.1
theorem plan_op (hp : planOk3 md ops n soft ss pre plan = true) {k : Nat} {p : Pk} (h : plan[k]? = some p) : ∃ o, ops[k]? = some o :=
  ⟨_, Array.getElem?_eq_getElem (by rw [← plan_len hp]; exact (List.getElem?_eq_some_iff.1 h).1)⟩
/-- Who fills what an operation made waits for it. -/
theorem sto_dep (hp : planOk3 md ops n soft ss pre plan = true) {k j s c : Nat} (h : plan[k]? = some (.sto j s c)) : dep md ops k j = true := by
  obtain ⟨o, ho⟩ := plan_op hp h
  exact ((plan_at hp ho h).sto j s c rfl).2.1
/-- What fills variables is no soft value. -/
def FillsHard (soft : List Nat) (plan : List Pk) : Prop := ∀ (k : Nat) (q : Pk), plan[k]? = some q → q.fills = true → ∀ c ∈ q.src.map (·.2), soft.contains c = false
def fillsHard (soft : List Nat) (plan : List Pk) : Bool := plan.all fun q => !q.fills || q.src.all fun x => !soft.contains x.2
theorem fills_hard (h : fillsHard soft plan = true) : FillsHard soft plan := fun k q hk hf c hc => by
  have h1 := List.all_eq_true.1 h q (List.mem_of_getElem? hk)
  rw [hf] at h1
  obtain ⟨x, hx, rfl⟩ := List.mem_map.1 hc
  simp only [Bool.not_true, Bool.false_or] at h1
  simpa using List.all_eq_true.1 h1 x hx
/-- A step that only makes memory, and gives a value. -/
theorem PI3.grow {i : Nat} (h : PI3 md ops n soft S ss plan tys a0 w0 L a w) (hp : planOk3 md ops n soft ss pre plan = true) (hrow : md = .text → ∀ j, j < i → L j) (hS : ∀ x ∈ S, x.1 < w0.heap.size) {o : Oper} {p : Pk} (ho : ops[i]? = some o) (hpl : plan[i]? = some p) (hd : ∀ j, dep md ops i j = true → L j)
    {d : Nat} (hod : o.dst = some d) {v : Value} {w' : World} (hx : Ext w w')
    (hv : ∀ c, p.out? = some c → (tys c).p w' v)
    (hal : ∀ ty m, p = .alc ty m → v = .pointer (some ⟨w.heap.size, 0, none⟩) ∧ w.heap.size < w'.heap.size ∧ ∃ cs : Array Value, w'.heap[w.heap.size]? = some (.cells cs ty (0, 0)) ∧ cs.size = m)
    (hnew : ¬ L i) : PI3 md ops n soft S ss plan tys a0 w0 (fun j => L j ∨ j = i) (a.put o.dst v) w' := by
  have hat := plan_at hp ho hpl
  obtain ⟨hf, hdn, hne, _⟩ := hat.dst d hod
  have hdi : dstOf ops i = some d := by unfold dstOf; rw [ho]; exact hod
  have hB : w0.heap.size ≤ w.heap.size := h.calm.size
  have hc : Lull w0.heap.size (S.map (·.1)) w w' := Lull.of_ext hx hB
  have nosto : ∀ j s c, p ≠ .sto j s c := fun j s c e => by rw [e] at hf; cases hf
  have noput : ∀ k t s c, p ≠ .put k t s c := fun k t s c e => by rw [e] at hf; cases hf
  have get_ne : ∀ e, e ≠ d → (a.put o.dst v).tmps.getD e undef = a.tmps.getD e undef := fun e he => by
    rw [hod, getD_put, if_neg (fun hh => he hh.1)]
  have get_eq : (a.put o.dst v).tmps.getD d undef = v := by rw [hod, getD_put, if_pos ⟨rfl, by rw [h.size]; exact hdn⟩]
  have noL : ∀ j e, L j → dstOf ops j = some e → e ≠ d := fun j e hj he hh => by
    subst hh
    by_cases hji : j = i
    · exact hnew (hji ▸ hj)
    · exact hne j hji he
  have newp : ∀ j e ty m, L j → dstOf ops j = some e → plan[j]? = some (.alc ty m) → a.tmps.getD e undef ≠ .pointer (some ⟨w.heap.size, 0, none⟩) := fun j e ty m hj he hjp hh => by
    obtain ⟨g, cs, e1, e2, e3, _⟩ := h.alc j e ty m hj he hjp
    rw [e1] at hh
    cases hh
    exact Nat.lt_irrefl _ e3
  have nof : (∀ k q, (L k ∨ k = i) → plan[k]? = some q → q.fills = false) → ∀ k q, L k → plan[k]? = some q → q.fills = false := fun hh k q hk => hh k q (.inl hk)
  refine ⟨h.calm.trans hc, ?_, ?_, fun hh => (h.ext (nof hh)).trans hx, ?_, ?_, ?_, ?_, ?_, ?_, ?_⟩
  · rw [hod]; show (a.tmps.setIfInBounds d v).size = n
    rw [Array.size_setIfInBounds]; exact h.size
  · rw [hod]; exact h.defers
  · intro hm j k hj hjk
    rcases hj with hj | rfl
    · exact .inl (h.row hm j k hj hjk)
    · exact .inl (hrow hm k hjk)
  · intro j e c hj hje hjc hsf
    rcases hj with hj | rfl
    · rw [get_ne e (noL j e hj hje)]
      exact (tys c).up hx (h.val j e c hj hje hjc (fun hs => nof (hsf hs)))
    · rw [hdi] at hje; cases hje
      rw [get_eq]
      obtain ⟨q, hq, hq2⟩ := out_val hjc
      rw [hpl] at hq; cases hq
      exact hv c hq2
  · intro j e ty m hj hje hjp
    rcases hj with hj | rfl
    · obtain ⟨g, cs, e1, e2, e3, e4, e5, e6⟩ := h.alc j e ty m hj hje hjp
      refine ⟨g, cs, by rw [get_ne e (noL j e hj hje)]; exact e1, e2, Nat.lt_of_lt_of_le e3 hx.size, (hx.block g e3).trans e4, e5, ?_⟩
      intro k s c hk hkp
      rcases hk with hk | rfl
      · exact (tys c).up hx (e6 k s c hk hkp)
      · rw [hpl] at hkp; cases hkp; exact absurd rfl (nosto _ _ _)
    · rw [hdi] at hje; cases hje
      rw [hpl] at hjp; cases hjp
      obtain ⟨e1, e2, cs, e3, e4⟩ := hal ty m rfl
      refine ⟨w.heap.size, cs, by rw [get_eq]; exact e1, hB, e2, e3, e4, ?_⟩
      intro k s c hk hkp
      rcases hk with hk | rfl
      · exact absurd (h.closed k _ hk (sto_dep hp hkp)) hnew
      · rw [hpl] at hkp; cases hkp
  · intro j j' e e' ty m ty' m' hj hj' hjj hjp hjp' hje hje'
    rcases hj with hj | rfl
    · rcases hj' with hj' | rfl
      · rw [get_ne e (noL j e hj hje), get_ne e' (noL j' e' hj' hje')]
        exact h.dif j j' e e' ty m ty' m' hj hj' hjj hjp hjp' hje hje'
      · rw [hdi] at hje'; cases hje'
        rw [hpl] at hjp'; cases hjp'
        rw [get_ne e (noL j e hj hje), get_eq, (hal _ _ rfl).1]
        exact newp j e ty m hj hje hjp
    · rw [hdi] at hje; cases hje
      rw [hpl] at hjp; cases hjp
      rcases hj' with hj' | rfl
      · rw [get_ne e' (noL j' e' hj' hje'), get_eq, (hal _ _ rfl).1]
        exact fun hh => newp j' e' ty' m' hj' hje' hjp' hh.symm
      · exact absurd rfl hjj
  · intro k g ty m hk
    obtain ⟨cs, e1, e2, e3, e4⟩ := h.snk k g ty m hk
    have hg : g < w.heap.size := Nat.lt_of_lt_of_le (hS _ (List.mem_of_getElem? hk)) hB
    refine ⟨cs, (hx.block g hg).trans e1, e2, fun hno => (hx.block g hg).trans (e3 fun q t s c hq => hno q t s c (.inl hq)), ?_⟩
    intro q t s c hq hqp
    rcases hq with hq | rfl
    · exact (tys c).up hx (e4 q t s c hq hqp)
    · rw [hpl] at hqp; cases hqp; exact absurd rfl (noput _ _ _ _)
  · intro s hs
    have hsd : s ≠ d := fun e => hs i (.inr rfl) (by rw [hdi, e])
    rw [get_ne s hsd]
    exact h.old s (fun j hj => hs j (.inl hj))
  · intro j k hj hjk
    rcases hj with hj | rfl
    · exact .inl (h.closed j k hj hjk)
    · exact .inl (hd k hjk)
/-- A step that fills a variable. -/
theorem PI3.fill {i : Nat} (hso : FillsHard soft plan) (h : PI3 md ops n soft S ss plan tys a0 w0 L a w) (hp : planOk3 md ops n soft ss pre plan = true) (hl : ∀ c, soft.contains c = false → LullT w0.heap.size (S.map (·.1)) (tys c)) (hrow : md = .text → ∀ j, j < i → L j) (hS : ∀ x ∈ S, x.1 < w0.heap.size) (hnd : SnkOk S) {o : Oper} {p : Pk} (ho : ops[i]? = some o) (hpl : plan[i]? = some p) (hd : ∀ j, dep md ops i j = true → L j)
    (hod : o.dst = none) {g c : Nat} {cur A : Array Value} {ty : TypeId} (hcur : w.heap[g]? = some (.cells cur ty (0, 0))) (hsz : A.size = cur.size) (hT : (tys c).p w (.agg A))
    (hg : (∃ j d m s, p = .sto j s c ∧ dstOf ops j = some d ∧ plan[j]? = some (.alc ty m) ∧ a.tmps.getD d undef = .pointer (some ⟨g, 0, none⟩) ∧ w0.heap.size ≤ g) ∨ (∃ k t s m, p = .put k t s c ∧ S[k]? = some (g, ty, m)))
    (hnew : ¬ L i) : PI3 md ops n soft S ss plan tys a0 w0 (fun j => L j ∨ j = i) (a.put o.dst undef) (w.setRow g A) := by
  have hat := plan_at hp ho hpl
  have hsc : soft.contains c = false := hso i p hpl (by rcases hg with ⟨_, _, _, s, e, _⟩ | ⟨_, _, s, _, e, _⟩ <;> (rw [e]; rfl)) c (by rcases hg with ⟨_, _, _, s, e, _⟩ | ⟨_, _, s, _, e, _⟩ <;> (rw [e]; exact List.mem_singleton.2 rfl))
  have hgS : g ∈ S.map (·.1) ∨ w0.heap.size ≤ g := by
    rcases hg with ⟨_, _, _, _, _, _, _, _, h5⟩ | ⟨k, t, s, m, _, h2⟩
    · exact .inr h5
    · exact .inl (List.mem_map.2 ⟨_, List.mem_of_getElem? h2, rfl⟩)
  have hc : Lull w0.heap.size (S.map (·.1)) w (w.setRow g A) := Lull.setRow w g A hgS
  have hput : a.put o.dst undef = a := by rw [hod]; rfl
  have nod : ∀ e, dstOf ops i ≠ some e := fun e he => by unfold dstOf at he; rw [ho] at he; rw [show (some o).bind (·.dst) = o.dst from rfl, hod] at he; cases he
  have hrow : (w.setRow g A).heap[g]? = some (.cells A ty (0, 0)) := setRow_heap _ _ _ _ _ _ hcur
  have noval : ∀ x, outOf3 plan i ≠ some x := fun x hx => by
    obtain ⟨q, hq, hq2⟩ := out_val hx
    rw [hpl] at hq; cases hq
    rcases hg with ⟨_, _, _, _, e, _⟩ | ⟨_, _, _, _, e, _⟩ <;> (rw [e] at hq2; cases hq2)
  rw [hput]
  have hfi : p.fills = true := by rcases hg with ⟨_, _, _, _, e, _⟩ | ⟨_, _, _, _, e, _⟩ <;> (rw [e]; rfl)
  have nope : ¬ (∀ k q, (L k ∨ k = i) → plan[k]? = some q → q.fills = false) := fun hh => by have := hh i p (.inr rfl) hpl; rw [hfi] at this; cases this
  refine ⟨h.calm.trans hc, h.size, h.defers, fun hh => absurd hh nope, ?_, ?_, ?_, ?_, ?_, ?_, ?_⟩
  · intro hm j k hj hjk
    rcases hj with hj | rfl
    · exact .inl (h.row hm j k hj hjk)
    · exact .inl (hrow hm k hjk)
  · intro j e x hj hje hjc hsf
    have hns : soft.contains x = false := by
      cases hs : soft.contains x with
      | false => rfl
      | true => exact absurd (hsf hs) nope
    rcases hj with hj | rfl
    · exact hl _ hns _ _ _ hc (h.val j e x hj hje hjc (fun hs => by rw [hns] at hs; cases hs))
    · exact absurd hjc (noval _)
  · intro j e ty' m hj hje hjp
    rcases hj with hj | rfl
    · obtain ⟨g', cs, e1, e2, e3, e4, e5, e6⟩ := h.alc j e ty' m hj hje hjp
      by_cases hgg : g' = g
      · subst hgg
        rw [hcur] at e4
        cases e4
        refine ⟨g', A, e1, e2, by rw [setRow_size]; exact e3, hrow, hsz.trans e5, ?_⟩
        intro k s x hk hkp
        rcases hg with ⟨j2, d2, m2, s2, f1, f2, f3, f4, f5⟩ | ⟨k2, t2, s2, m2, f1, f2⟩
        · have hjj : j = j2 := by
            by_cases hjj : j = j2
            · exact hjj
            · have hL2 : L j2 := hd j2 (by have := (hat.sto j2 s2 c f1).2.1; exact this)
              exact absurd (e1.trans f4.symm) (h.dif j j2 e d2 _ _ _ _ hj hL2 hjj hjp f3 hje f2)
          subst hjj
          rcases hk with hk | rfl
          · have := (hat.sto j s2 c f1).2.2 k s x (fun e => hnew (e ▸ hk))
            exact absurd hkp this
          · rw [hpl, f1] at hkp; cases hkp
            exact hl _ hsc _ _ _ hc hT
        · have := hS _ (List.mem_of_getElem? f2)
          simp only at this
          omega
      · refine ⟨g', cs, e1, e2, by rw [setRow_size]; exact e3, (setRow_other _ _ _ _ hgg).trans e4, e5, ?_⟩
        intro k s x hk hkp
        rcases hk with hk | rfl
        · exact hl _ (hso k _ hkp (by rfl) _ (List.mem_singleton.2 rfl)) _ _ _ hc (e6 k s x hk hkp)
        · rcases hg with ⟨j2, d2, m2, s2, f1, f2, f3, f4, f5⟩ | ⟨k2, t2, s2, m2, f1, f2⟩
          · rw [hpl, f1] at hkp; cases hkp
            rw [hje] at f2; cases f2
            rw [e1] at f4; cases f4
            exact absurd rfl hgg
          · rw [hpl, f1] at hkp; cases hkp
    · exact absurd hje (nod _)
  · intro j j' e e' t1 m1 t2 m2 hj hj' hjj hjp hjp' hje hje'
    rcases hj with hj | rfl
    · rcases hj' with hj' | rfl
      · exact h.dif j j' e e' t1 m1 t2 m2 hj hj' hjj hjp hjp' hje hje'
      · exact absurd hje' (nod _)
    · exact absurd hje (nod _)
  · intro k g' ty' m hk
    obtain ⟨cs, e1, e2, e3, e4⟩ := h.snk k g' ty' m hk
    have hg' := hS _ (List.mem_of_getElem? hk)
    simp only at hg'
    by_cases hgg : g' = g
    · subst hgg
      rw [hcur] at e1
      cases e1
      rcases hg with ⟨j2, d2, m2, s2, f1, f2, f3, f4, f5⟩ | ⟨k2, t2, s2, m2, f1, f2⟩
      · omega
      · have hkk : k = k2 := hnd k k2 _ _ hk f2 rfl
        subst hkk
        refine ⟨A, hrow, hsz.trans e2, fun hno => absurd (hpl.trans (congrArg some f1)) (hno i t2 s2 c (.inr rfl)), ?_⟩
        intro q t s x hq hqp
        rcases hq with hq | rfl
        · exact absurd hqp ((hat.put k t2 s2 c f1).2 q t s x (fun e => hnew (e ▸ hq)))
        · rw [hpl, f1] at hqp; cases hqp
          exact hl _ hsc _ _ _ hc hT
    · refine ⟨cs, (setRow_other _ _ _ _ hgg).trans e1, e2, fun hno => (setRow_other _ _ _ _ hgg).trans (e3 fun q t s x hq => hno q t s x (.inl hq)), ?_⟩
      intro q t s x hq hqp
      rcases hq with hq | rfl
      · exact hl _ (hso q _ hqp (by rfl) _ (List.mem_singleton.2 rfl)) _ _ _ hc (e4 q t s x hq hqp)
      · rcases hg with ⟨j2, d2, m2, s2, f1, f2, f3, f4, f5⟩ | ⟨k2, t2, s2, m2, f1, f2⟩
        · rw [hpl, f1] at hqp; cases hqp
        · rw [hpl, f1] at hqp; cases hqp
          rw [hk] at f2; cases f2
          exact absurd rfl hgg
  · intro s hs
    exact h.old s (fun j hj => hs j (.inl hj))
  · intro j k hj hjk
    rcases hj with hj | rfl
    · exact .inl (h.closed j k hj hjk)
    · exact .inl (hd k hjk)
/-- The variables that were there: what they are, and where their pointers lie. -/
def SnkAt (S : List Snk) (ss : List (Nat × Nat)) (a0 : Act) (w0 : World) : Prop :=
  (∀ x ∈ S, x.1 < w0.heap.size ∧ ∃ cs, w0.heap[x.1]? = some (.cells cs x.2.1 (0, 0)) ∧ cs.size = x.2.2) ∧ (∀ y ∈ ss, y.1 < S.length ∧ a0.tmps.getD y.2 undef = .pointer (some ⟨(S.getD y.1 (0, 0, 0)).1, 0, none⟩))
theorem PI3.step {i : Nat} (hso : FillsHard soft plan) (h : PI3 md ops n soft S ss plan tys a0 w0 L a w) (hp : planOk3 md ops n soft ss pre plan = true) (hl : ∀ c, soft.contains c = false → LullT w0.heap.size (S.map (·.1)) (tys c)) (hrow : md = .text → ∀ j, j < i → L j) (hS : SnkAt S ss a0 w0) (hnd : SnkOk S) (hpre : Reads tys w0 a0 pre)
    (hok : ∀ (i : Nat) (o : Oper) (p : Pk), ops[i]? = some o → plan[i]? = some p → OkOne3 P ops Q S plan tys w0 o p)
    (hi : i < ops.size) (hn : ¬ L i) (hd : ∀ j, dep md ops i j = true → L j) :
    wpOp P ops Q i (fun a' w' => PI3 md ops n soft S ss plan tys a0 w0 (fun j => L j ∨ j = i) a' w') a w := by
  obtain ⟨o, ho⟩ : ∃ o, ops[i]? = some o := ⟨_, Array.getElem?_eq_getElem hi⟩
  obtain ⟨p, hpl⟩ : ∃ p, plan[i]? = some p := ⟨_, List.getElem?_eq_getElem (by rw [plan_len hp]; exact hi)⟩
  have hat := plan_at hp ho hpl
  have hR := h.reads hl hpre hat hn hd
  have hok' := hok i o p ho hpl
  have hS' : ∀ x ∈ S, x.1 < w0.heap.size := fun x hx => (hS.1 x hx).1
  have slot : ∀ k t, (k, t) ∈ ss → a.tmps.getD t undef = .pointer (some ⟨(S.getD k (0, 0, 0)).1, 0, none⟩) := fun k t hk => by
    rw [h.old t (fun j hL hj => ?_)]
    · exact (hS.2 _ hk).2
    · obtain ⟨oj, hoj⟩ : ∃ o, ops[j]? = some o := ⟨_, Array.getElem?_eq_getElem (dst_lt hj)⟩
      obtain ⟨pj, hpj⟩ : ∃ p, plan[j]? = some p := ⟨_, List.getElem?_eq_getElem (by rw [plan_len hp]; exact dst_lt hj)⟩
      have hojd : oj.dst = some t := by unfold dstOf at hj; rw [hoj] at hj; exact hj
      exact ((plan_at hp hoj hpj).dst t hojd).2.2.2 (k, t) hk rfl
  have give : ∀ c, p.out? = some c → p.isAlc = false → Gives P ops Q o (tys c) a w → wpOp P ops Q i (fun a' w' => PI3 md ops n soft S ss plan tys a0 w0 (fun j => L j ∨ j = i) a' w') a w := fun c hc hna hG => by
    refine wpOp_mono ?_ (hG.op ho)
    rintro a' w' ⟨v, rfl, hx, hT⟩
    cases hod : o.dst with
    | none =>
      have := hat.nodst hod
      exfalso
      cases p <;> simp_all [Pk.fills, Pk.out?]
    | some d =>
      rw [← hod]
      refine h.grow hp hrow hS' ho hpl hd hod hx (fun c' hc' => ?_) (fun ty m e => ?_) hn
      · rw [hc] at hc'; cases hc'; exact hT
      · rw [e] at hna; cases hna
  cases p with
  | val r c => exact give c rfl rfl (hok' a w h.calm hR)
  | ld k t c =>
    obtain ⟨h1, h2⟩ := hat.ld k t c rfl
    refine give c rfl rfl (hok' a w h.calm (slot k t h1) ?_)
    rcases hk : S[k]? with _ | ⟨g, ty, m⟩
    · have h3 := (hS.2 _ h1).1
      rw [List.getElem?_eq_getElem h3] at hk
      cases hk
    · have : S.getD k (0, 0, 0) = (g, ty, m) := by rw [List.getD_eq_getElem?_getD, hk]; rfl
      rw [this]
      obtain ⟨cs, e1, e2, e3, e4⟩ := h.snk k g ty m hk
      exact e3 (fun j t' s c' hj hjp => hn (masks_spec h.closed _ j i hj (h2 j t' s c' hjp)))
  | alc ty m =>
    obtain ⟨hg, hrun⟩ := hok'
    obtain ⟨Z, hZ, hr⟩ := hrun a w
    cases hod : o.dst with
    | none => exact absurd (hat.nodst hod) (by simp [Pk.fills])
    | some d =>
      unfold wpOp
      rw [ho]
      simp only [wanted_none hg, if_true]
      refine .inl (Oper.wp_value hr ?_)
      refine h.grow hp hrow hS' ho hpl hd hod ((Below.refl _ _).alloc (Nat.le_refl _) _) (fun c hc => by cases hc) (fun ty' m' e => ?_) hn
      cases e
      exact ⟨rfl, by simp, Z, heap_alloc_last _ _, hZ⟩
  | sto j s c =>
    obtain ⟨hg, d, ty, m, e1, e2, e3, e4, e5⟩ := hok'
    have hLj := hd j (hat.sto j s c rfl).2.1
    obtain ⟨g, cs, f1, f2, f3, f4, f5, _⟩ := h.alc j d ty m hLj e1 e2
    obtain ⟨A, k1, k2, k3⟩ := e5 w _ hR.1
    have hT := hR.1
    rw [k1] at hT
    have hod : o.dst = none := by
      cases hod : o.dst with
      | none => rfl
      | some d => exact absurd (hat.dst d hod).1 (by simp [Pk.fills])
    unfold wpOp
    rw [ho]
    simp only [wanted_none hg, if_true]
    refine .inl (wp_store_row ty (.tmp d) (.tmp s) e3 g A f1 k1 ty cs f4 (by rw [k2]; exact e4) (by rw [k2]; exact f5) k3 ?_)
    exact h.fill hso hp hl hrow hS' hnd ho hpl hd hod f4 (by rw [k2, f5]) hT (.inl ⟨j, d, m, s, rfl, e1, e2, f1, f2⟩) hn
  | put k t s c =>
    obtain ⟨hg, g, ty, m, e1, e3, e4, e5⟩ := hok'
    obtain ⟨h1, h2⟩ := hat.put k t s c rfl
    have hsl := slot k t h1
    have : S.getD k (0, 0, 0) = (g, ty, m) := by rw [List.getD_eq_getElem?_getD, e1]; rfl
    rw [this] at hsl
    obtain ⟨cs, f4, f5, _, _⟩ := h.snk k g ty m e1
    obtain ⟨A, k1, k2, k3⟩ := e5 w _ hR.1
    have hT := hR.1
    rw [k1] at hT
    have hod : o.dst = none := by
      cases hod : o.dst with
      | none => rfl
      | some d => exact absurd (hat.dst d hod).1 (by simp [Pk.fills])
    unfold wpOp
    rw [ho]
    simp only [wanted_none hg, if_true]
    refine .inl (wp_store_row ty (.tmp t) (.tmp s) e3 g A hsl k1 ty cs f4 (by rw [k2]; exact e4) (by rw [k2]; exact f5) k3 ?_)
    exact h.fill hso hp hl hrow hS' hnd ho hpl hd hod f4 (by rw [k2, f5]) hT (.inr ⟨k, t, s, m, rfl, e1⟩) hn
def OkL3 (P : Program) (ops : Array Oper) (Q : Exit → Act → World → Prop) (S : List Snk) (plan : List Pk) (tys : Nat → STy) (w0 : World) : List Oper → List Pk → Prop
  | [], _ => True
  | o :: os, p :: pl => OkOne3 P ops Q S plan tys w0 o p ∧ OkL3 P ops Q S plan tys w0 os pl
  | _ :: _, [] => False
theorem OkL3.nil {pl : List Pk} : OkL3 P ops Q S plan tys w0 [] pl := trivial
theorem OkL3.cons {o : Oper} {os : List Oper} {p : Pk} {pl : List Pk} (h : OkOne3 P ops Q S plan tys w0 o p) (t : OkL3 P ops Q S plan tys w0 os pl) : OkL3 P ops Q S plan tys w0 (o :: os) (p :: pl) := ⟨h, t⟩
theorem OkL3.get : ∀ {os : List Oper} {pl : List Pk}, OkL3 P ops Q S plan tys w0 os pl → ∀ (i : Nat) (o : Oper) (p : Pk), os[i]? = some o → pl[i]? = some p → OkOne3 P ops Q S plan tys w0 o p
  | [], _, _, i, o, p, ho, _ => by simp at ho
  | _ :: _, [], h, _, _, _, _, _ => h.elim
  | _ :: _, _ :: _, h, 0, o, p, ho, hp => by cases ho; cases hp; exact h.1
  | _ :: _, _ :: _, h, i + 1, o, p, ho, hp => OkL3.get h.2 i o p ho hp
/-- With what a variable that operation i makes is filled. -/
def stoOf (i : Nat) : List Pk → Option Nat
  | [] => none
  | .sto j _ c :: r => if j == i then some c else stoOf i r
  | _ :: r => stoOf i r
theorem stoOf_some {i c : Nat} : ∀ {pl : List Pk}, stoOf i pl = some c → ∃ (k s : Nat), pl[k]? = some (Pk.sto i s c)
  | [], h => by cases h
  | p :: r, h => by
    cases p with
    | sto j s c' =>
      unfold stoOf at h
      by_cases e : (j == i) = true
      · rw [if_pos e] at h; cases h
        have := beq_iff_eq.1 e
        subst this
        exact ⟨0, s, rfl⟩
      · rw [if_neg e] at h
        obtain ⟨k, s', hk⟩ := stoOf_some h
        exact ⟨k + 1, s', hk⟩
    | _ =>
      obtain ⟨k, s', hk⟩ := stoOf_some (pl := r) h
      exact ⟨k + 1, s', hk⟩
/-- What a filled variable holds. -/
def Held (tys : Nat → STy) (w : World) (cs : Array Value) (m : Nat) : Option Nat → Prop
  | some c => (tys c).p w (.agg cs)
  | none => cs.size = m
/-- What is told of a value behind them all. -/
def FinV (T : STy) (w : World) (v : Value) : Bool → Prop
  | true => True
  | false => T.p w v
/-- What is to be shown behind them all. -/
def FinL3 (soft : List Nat) (S : List Snk) (plan : List Pk) (tys : Nat → STy) (Q : Exit → Act → World → Prop) (B : Nat) (w : World) : Nat → List Nat → List Oper → List Pk → Act → Prop
  | _, _, [], _, a => Q .normal a w
  | i, gs, o :: os, .val _ c :: pl, a => ∀ v, FinV (tys c) w v (soft.contains c && plan.any (·.fills)) → FinL3 soft S plan tys Q B w (i + 1) gs os pl (a.put o.dst v)
  | i, gs, o :: os, .ld _ _ c :: pl, a => ∀ v, FinV (tys c) w v (soft.contains c && plan.any (·.fills)) → FinL3 soft S plan tys Q B w (i + 1) gs os pl (a.put o.dst v)
  | i, gs, o :: os, .alc ty m :: pl, a => ∀ g cs, B ≤ g ∧ g < w.heap.size ∧ g ∉ gs → w.heap[g]? = some (.cells cs ty (0, 0)) → Held tys w cs m (stoOf i plan) → FinL3 soft S plan tys Q B w (i + 1) (g :: gs) os pl (a.put o.dst (.pointer (some ⟨g, 0, none⟩)))
  | i, gs, _ :: os, .sto _ _ _ :: pl, a => FinL3 soft S plan tys Q B w (i + 1) gs os pl a
  | i, gs, _ :: os, .put k _ _ c :: pl, a => ∀ cs, w.heap[(S.getD k (0, 0, 0)).1]? = some (.cells cs (S.getD k (0, 0, 0)).2.1 (0, 0)) → (tys c).p w (.agg cs) → FinL3 soft S plan tys Q B w (i + 1) gs os pl a
  | _, _, _ :: _, [], _ => True
theorem FinL3.done {i : Nat} {gs : List Nat} {B : Nat} {pl : List Pk} (h : Q .normal a w) : FinL3 soft S plan tys Q B w i gs [] pl a := by
  unfold FinL3; exact h
theorem FinL3.fill {i : Nat} {gs : List Nat} {B : Nat} {o : Oper} {os : List Oper} {j s c : Nat} {pl : List Pk} (h : FinL3 soft S plan tys Q B w (i + 1) gs os pl a) : FinL3 soft S plan tys Q B w i gs (o :: os) (.sto j s c :: pl) a := by
  unfold FinL3; exact h
theorem fin_fill3 {os0 : List Oper} {b : Act} (h : PI3 md os0.toArray n soft S ss plan tys a0 w0 L b w) (hp : planOk3 md os0.toArray n soft ss pre plan = true) (hS : SnkAt S ss a0 w0) (hall : ∀ j, j < os0.length → L j) :
    ∀ (os : List Oper) (pl : List Pk) (i : Nat) (gs : List Nat) (a : Act), os0.drop i = os → plan.drop i = pl → (∀ g ∈ gs, ∃ j d ty m, j < i ∧ dstOf os0.toArray j = some d ∧ plan[j]? = some (.alc ty m) ∧ b.tmps.getD d undef = .pointer (some ⟨g, 0, none⟩)) → FinL3 soft S plan tys Q w0.heap.size w i gs os pl a → Q .normal (fillL b os a) w := by
  intro os
  induction os with
  | nil => intro pl i gs a _ _ _ hf; unfold FinL3 at hf; exact hf
  | cons o os ih =>
    intro pl i gs a hos hpl hgs hf
    have ho : os0[i]? = some o := by
      have := congrArg (·[0]?) hos
      simpa using this
    have hos' : os0.drop (i + 1) = os := by rw [← List.drop_drop, hos]; rfl
    have hi : i < os0.length := (List.getElem?_eq_some_iff.1 ho).1
    have hlen := plan_len hp
    have hil : i < plan.length := by rw [hlen]; simpa using hi
    have ho' : os0.toArray[i]? = some o := by simpa using ho
    cases pl with
    | nil =>
      have := congrArg List.length hpl
      simp at this
      omega
    | cons p pl =>
      have hpp : plan[i]? = some p := by
        have := congrArg (·[0]?) hpl
        simpa using this
      have hpl' : plan.drop (i + 1) = pl := by rw [← List.drop_drop, hpl]; rfl
      have hat := plan_at hp ho' hpp
      have hgs' : ∀ g ∈ gs, ∃ j d ty m, j < i + 1 ∧ dstOf os0.toArray j = some d ∧ plan[j]? = some (.alc ty m) ∧ b.tmps.getD d undef = .pointer (some ⟨g, 0, none⟩) := fun g hg => by
        obtain ⟨j, d, ty, m, h1, h2⟩ := hgs g hg
        exact ⟨j, d, ty, m, by omega, h2⟩
      unfold fillL
      have hdst : p.fills = false → ∃ d, o.dst = some d ∧ dstOf os0.toArray i = some d := fun hfl => by
        cases hod : o.dst with
        | none => have := hat.nodst hod; rw [hfl] at this; cases this
        | some d => exact ⟨d, rfl, by unfold dstOf; rw [ho']; exact hod⟩
      have hnod : p.fills = true → o.dst = none := fun hfl => by
        cases hod : o.dst with
        | none => rfl
        | some d => have := (hat.dst d hod).1; rw [hfl] at this; cases this
      cases p with
      | val r c =>
        obtain ⟨d, hod, hdi⟩ := hdst rfl
        unfold FinL3 at hf
        refine ih pl (i + 1) gs _ hos' hpl' hgs' (hf _ ?_)
        rw [hod]
        cases hs : (soft.contains c && plan.any (·.fills)) with
        | true => exact trivial
        | false => exact h.val i d c (hall i hi) hdi (by unfold outOf3; rw [hpp]; rfl) (fun h2 k q _ hk => by
            rw [h2, Bool.true_and] at hs
            exact (Bool.not_eq_true _).mp (fun h3 => by rw [List.any_eq_true.2 ⟨q, List.mem_of_getElem? hk, h3⟩] at hs; cases hs))
      | ld k t c =>
        obtain ⟨d, hod, hdi⟩ := hdst rfl
        unfold FinL3 at hf
        refine ih pl (i + 1) gs _ hos' hpl' hgs' (hf _ ?_)
        rw [hod]
        cases hs : (soft.contains c && plan.any (·.fills)) with
        | true => exact trivial
        | false => exact h.val i d c (hall i hi) hdi (by unfold outOf3; rw [hpp]; rfl) (fun h2 k q _ hk => by
            rw [h2, Bool.true_and] at hs
            exact (Bool.not_eq_true _).mp (fun h3 => by rw [List.any_eq_true.2 ⟨q, List.mem_of_getElem? hk, h3⟩] at hs; cases hs))
      | alc ty m =>
        obtain ⟨d, hod, hdi⟩ := hdst rfl
        unfold FinL3 at hf
        obtain ⟨g, cs, e1, e2, e3, e4, e5, e6⟩ := h.alc i d ty m (hall i hi) hdi hpp
        have hheld : Held tys w cs m (stoOf i plan) := by
          cases hso : stoOf i plan with
          | none => exact e5
          | some c =>
            obtain ⟨k, s, hk⟩ := stoOf_some hso
            have hkl : k < os0.length := by
              have := (List.getElem?_eq_some_iff.1 hk).1
              rw [hlen] at this; simpa using this
            exact e6 k s c (hall k hkl) hk
        have hni : g ∉ gs := fun hg => by
          obtain ⟨j, d', ty', m', h1, h2, h3, h4⟩ := hgs g hg
          exact h.dif j i d' d ty' m' ty m (hall j (by omega)) (hall i hi) (by omega) h3 hpp h2 hdi (h4.trans e1.symm)
        have hfin := hf g cs ⟨e2, e3, hni⟩ e4 hheld
        rw [hod] at hfin ⊢
        show Q .normal (fillL b os (a.put (some d) (b.tmps.getD d undef))) w
        rw [e1]
        refine ih pl (i + 1) (g :: gs) _ hos' hpl' (fun g' hg' => ?_) hfin
        rcases List.mem_cons.1 hg' with e | e
        · subst e; exact ⟨i, d, ty, m, by omega, hdi, hpp, e1⟩
        · exact hgs' g' e
      | sto j s c =>
        unfold FinL3 at hf
        rw [hnod rfl]
        exact ih pl (i + 1) gs _ hos' hpl' hgs' hf
      | put k t s c =>
        unfold FinL3 at hf
        rw [hnod rfl]
        obtain ⟨h1, _⟩ := hat.put k t s c rfl
        have hk := (hS.2 _ h1).1
        simp only at hk
        have hk2 : S[k]? = some (S.getD k (0, 0, 0)) := by rw [List.getD_eq_getElem?_getD, List.getElem?_eq_getElem hk]; rfl
        obtain ⟨cs, e1, e2, e3, e4⟩ := h.snk k _ _ _ hk2
        exact ih pl (i + 1) gs _ hos' hpl' hgs' (hf cs e1 (e4 i t s c (hall i hi) hpp))
theorem PI3.fin {os : List Oper} (h : PI3 md os.toArray n soft S ss plan tys a0 w0 L a w) (hp : planOk3 md os.toArray n soft ss pre plan = true) (hS : SnkAt S ss a0 w0) (hn : a0.tmps.size = n) (hall : ∀ j, j < os.length → L j) (hf : FinL3 soft S plan tys Q w0.heap.size w 0 [] os plan a0) : Q .normal a w := by
  have hq := fin_fill3 h hp hS hall os plan 0 [] a0 rfl rfl (fun g hg => by cases hg) hf
  have he : fillL a os a0 = a := by
    obtain ⟨h1, h2⟩ := fill_size a os a0
    have h3 : (fillL a os a0).tmps = a.tmps := by
      refine Array.ext (by rw [h1, hn, h.size]) fun s hs1 hs2 => ?_
      have hs : s < a0.tmps.size := by rw [hn, ← h.size]; exact hs2
      have key : (fillL a os a0).tmps.getD s undef = a.tmps.getD s undef := by
        obtain ⟨g1, g2⟩ := fill_get a s os a0 hs
        by_cases hex : ∃ o ∈ os, o.dst = some s
        · exact g1 hex
        · rw [g2 (fun o ho hd => hex ⟨o, ho, hd⟩), h.old s]
          intro j _ hj
          unfold dstOf at hj
          cases ho : os.toArray[j]? with
          | none => rw [ho] at hj; cases hj
          | some o =>
            rw [ho] at hj
            exact hex ⟨o, by simpa using Array.mem_of_getElem? ho, hj⟩
      simpa [Array.getD_eq_getD_getElem?, hs1, hs2] using key
    cases a with
    | mk t d =>
      cases hfa : fillL ⟨t, d⟩ os a0 with
      | mk t' d' =>
        rw [hfa] at h2 h3
        have h4 := h.defers
        simp only at h2 h3 h4
        subst h3
        rw [h2, h4]
  rwa [he] at hq
theorem PI3.start (hS : SnkAt S ss a0 w0) (hn : a0.tmps.size = n) {w1 : World} (hw : w1 = w0 ∨ w1 = w0.drew) : PI3 md ops n soft S ss plan tys a0 w0 (fun _ => False) a0 w1 := by
  have hh : w1.heap = w0.heap := by rcases hw with rfl | rfl <;> rfl
  refine ⟨?_, hn, rfl, ?_, fun _ _ _ h => h.elim, fun _ _ _ h => h.elim, fun _ _ _ _ h => h.elim, fun _ _ _ _ _ _ _ _ h => h.elim, ?_, fun _ _ => rfl, fun _ _ h => h.elim⟩
  · rcases hw with rfl | rfl
    · exact Lull.refl _ _ _
    · exact Lull.drew _ _ _
  · intro _
    rcases hw with rfl | rfl
    · exact Ext.refl _
    · exact Ext.drew _
  · intro k g ty m hk
    obtain ⟨h1, cs, h2, h3⟩ := hS.1 _ (List.mem_of_getElem? hk)
    exact ⟨cs, by rw [hh]; exact h2, h3, fun _ => by rw [hh], fun _ _ _ _ h => h.elim⟩
end
/-- THE REGION THAT DRAWS ITS ORDER. -/
theorem wp_region_typed3 {os : List Oper} {id : Nat} {pre : List (Nat × Nat)} {plan : List Pk} {tl : List STy} {a0 : Act} {w0 : World} (soft : List Nat) (S : List Snk) (ss : List (Nat × Nat)) (hm : P.follows .mixedOrders = true)
    (n : Nat) (hp : planOk3 .any os.toArray n soft ss pre plan = true) (hn : a0.tmps.size = n) (hso : fillsHard soft plan = true) (hl : LullL w0.heap.size (S.map (·.1)) soft 0 tl) (hS : SnkAt S ss a0 w0) (hnd : SnkOk S) (hpre : Reads (fun ix_ => tl.getD ix_ anyv) w0 a0 pre) (hok : OkL3 P os.toArray Q S plan (fun ix_ => tl.getD ix_ anyv) w0 os plan) (hfin : ∀ w, Lull w0.heap.size (S.map (·.1)) w0 w → FinL3 soft S plan (fun ix_ => tl.getD ix_ anyv) Q w0.heap.size w 0 [] os plan a0) :
    (Code.region id os.toArray true).wp P Q a0 w0 := by
  refine wp_region_inv (fun L a w => PI3 .any os.toArray n soft S ss plan (fun ix_ => tl.getD ix_ anyv) a0 w0 L a w) hm (fun i o ho e he hb => ?_) (PI3.start hS hn (.inr rfl)) (fun L i a w hi hL hd h => ?_) (fun L a w hall h => ?_)
  · have ho' : os.toArray[i]? = some o := by simpa using ho
    obtain ⟨p, hpl⟩ : ∃ p, plan[i]? = some p := ⟨_, List.getElem?_eq_getElem (by rw [plan_len hp]; exact (Array.getElem?_eq_some_iff.1 ho').1)⟩
    exact (plan_at hp ho' hpl).back e he hb
  · exact h.step (fills_hard hso) hp (fun c hc => hl.get c hc) (fun e => by cases e) hS hnd hpre (fun i o p ho hpl => hok.get i o p (by simpa using ho) hpl) (by simpa using hi) hL hd
  · exact h.fin hp hS hn hall (hfin w h.calm)
/-- THE REGION IN THE TEXT'S ORDER. -/
theorem wp_region_lined3 {os : List Oper} {id : Nat} {pre : List (Nat × Nat)} {plan : List Pk} {tl : List STy} {a0 : Act} {w0 : World} (soft : List Nat) (S : List Snk) (ss : List (Nat × Nat))
    (n : Nat) (hp : planOk3 .text os.toArray n soft ss pre plan = true) (hn : a0.tmps.size = n) (hso : fillsHard soft plan = true) (hl : LullL w0.heap.size (S.map (·.1)) soft 0 tl) (hS : SnkAt S ss a0 w0) (hnd : SnkOk S) (hpre : Reads (fun ix_ => tl.getD ix_ anyv) w0 a0 pre) (hok : OkL3 P os.toArray Q S plan (fun ix_ => tl.getD ix_ anyv) w0 os plan) (hfin : ∀ w, Lull w0.heap.size (S.map (·.1)) w0 w → FinL3 soft S plan (fun ix_ => tl.getD ix_ anyv) Q w0.heap.size w 0 [] os plan a0) :
    (Code.region id os.toArray false).wp P Q a0 w0 := by
  refine wp_region_inv_lined (fun L a w => PI3 .text os.toArray n soft S ss plan (fun ix_ => tl.getD ix_ anyv) a0 w0 L a w) (fun i o ho e he hb => ?_) (PI3.start hS hn (.inl rfl)) (fun L i a w hi hL hd hr h => ?_) (fun L a w hall h => ?_)
  · have ho' : os.toArray[i]? = some o := by simpa using ho
    obtain ⟨p, hpl⟩ : ∃ p, plan[i]? = some p := ⟨_, List.getElem?_eq_getElem (by rw [plan_len hp]; exact (Array.getElem?_eq_some_iff.1 ho').1)⟩
    exact (plan_at hp ho' hpl).back e he hb
  · exact h.step (fills_hard hso) hp (fun c hc => hl.get c hc) (fun _ => hr) hS hnd hpre (fun i o p ho hpl => hok.get i o p (by simpa using ho) hpl) (by simpa using hi) hL hd
  · exact h.fin hp hS hn hall (hfin w h.calm)
end
end Go
/- A region whose last operation stores, and waits for all others, which read and make memory, or write on in memory that the region made: what each of them gives holds behind all of them, in whatever order they come; the store is done last. For any program. -/
namespace Go
open Go.RowKit
section
variable {P : Program} {ops : Array Oper} {Q : Exit → Act → World → Prop} {md : Region.Mode}
def planOk4 (md : Region.Mode) (ops : Array Oper) (n : Nat) (olds : List Nat) (pre : List (Nat × Nat)) (plan : List (List (Nat × Nat) × Nat × List Nat)) : Bool :=
  plan.length + 1 == ops.size && ((List.range (ops.size - 1)).all fun i => match ops[i]?, plan[i]? with
    | some o, some p =>
      (match o.dst with | some d => decide (d < n) && (List.range i).all (fun j => dstOf ops j != some d) | none => false) &&
      o.after.all (fun e => !Region.binds md e || decide (e.on < i)) &&
      p.1.all (fun x => (List.range ops.size).any (fun j => dstOf ops j == some x.1 && dep md ops i j && outOf2 plan j == some x.2 && (List.range ops.size).all (fun k => !(killsOf plan k).contains j || k == i || waits (masks md ops ops.size) k i)) ||
        (pre.contains x && (List.range ops.size).all (fun j => dstOf ops j != some x.1 || dep md ops j i || j == i))) &&
      (p.2.2.isEmpty || (List.range ops.size).all (fun j => j == i || waits (masks md ops ops.size) j i || p.2.2.contains j || ((outOf2 plan j).map olds.contains).getD true))
    | _, _ => false) && (match ops[ops.size - 1]? with | some o => o.dst.isNone && o.after.all (fun e => !Region.binds md e || decide (e.on < ops.size - 1)) | none => false) &&
    (List.range (ops.size - 1)).all (fun j => waits (masks md ops ops.size) (ops.size - 1) j)
theorem PInv2.step4 {n : Nat} {pre : List (Nat × Nat)} {olds : List Nat} {plan : List (List (Nat × Nat) × Nat × List Nat)} {tys : Nat → STy} {a0 : Act} {w0 : World} {L : Nat → Prop} {a : Act} {w : World}
    (hp : planOk4 md ops n olds pre plan = true) (hpre : Reads tys w0 a0 pre)
    (holds : ∀ c, olds.contains c = true → ∀ w w' v, Below w0.heap.size w w' → (tys c).p w v → (tys c).p w' v)
    (hok : ∀ (i : Nat) (o : Oper) (p : List (Nat × Nat) × Nat × List Nat), ops[i]? = some o → plan[i]? = some p → OkOne P ops Q tys w0 o p)
    (h : PInv2 md ops n plan tys a0 w0 L a w) {i : Nat} (hi : i + 1 < ops.size) (hn : ¬ L i) (hd : ∀ j, dep md ops i j = true → L j) :
    wpOp P ops Q i (fun a' w' => PInv2 md ops n plan tys a0 w0 (fun j => L j ∨ j = i) a' w') a w := by
  unfold planOk4 at hp
  simp only [Bool.and_eq_true, beq_iff_eq, List.all_eq_true, List.mem_range] at hp
  obtain ⟨⟨⟨hlen, hp⟩, hz⟩, _⟩ := hp
  have hpi := hp i (by omega)
  obtain ⟨o, ho⟩ : ∃ o, ops[i]? = some o := ⟨_, Array.getElem?_eq_getElem (by omega)⟩
  have hzd : dstOf ops (ops.size - 1) = none := by
    unfold dstOf
    cases hq : ops[ops.size - 1]? with
    | none => rfl
    | some q =>
      rw [hq] at hz
      simp only [Bool.and_eq_true, Option.isNone_iff_eq_none] at hz
      exact hz.1
  obtain ⟨p, hpl⟩ : ∃ p, plan[i]? = some p := ⟨_, List.getElem?_eq_getElem (by omega)⟩
  simp only [ho, hpl] at hpi
  obtain ⟨⟨⟨hdst, _⟩, hrs⟩, hkl⟩ := (by simpa only [Bool.and_eq_true] using hpi : ((_ ∧ _) ∧ _) ∧ _)
  obtain ⟨d, hod, hdn, hdd⟩ : ∃ d, o.dst = some d ∧ d < n ∧ ∀ j, j < i → dstOf ops j ≠ some d := by
    cases hod : o.dst with
    | none => rw [hod] at hdst; cases hdst
    | some d =>
      rw [hod] at hdst
      simp only [Bool.and_eq_true, decide_eq_true_eq, List.all_eq_true, List.mem_range, bne_iff_ne] at hdst
      exact ⟨d, rfl, hdst.1, hdst.2⟩
  have hdi : dstOf ops i = some d := by unfold dstOf; rw [ho]; exact hod
  have hne : ∀ j, j ≠ i → dstOf ops j ≠ some d := by
    intro j hji hj
    have hjs : j < ops.size := by
      rcases Nat.lt_or_ge j ops.size with h | h
      · exact h
      · unfold dstOf at hj; rw [Array.getElem?_eq_none h] at hj; cases hj
    rcases Nat.lt_or_ge j i with h | h
    · exact hdd j h hj
    · have hij : i < j := by omega
      obtain ⟨oj, hoj⟩ : ∃ o, ops[j]? = some o := ⟨_, Array.getElem?_eq_getElem hjs⟩
      have hjz : j < ops.size - 1 := by
        rcases Nat.lt_or_ge j (ops.size - 1) with h | h
        · exact h
        · have : j = ops.size - 1 := by omega
          rw [this, hzd] at hj; cases hj
      obtain ⟨pj, hpj⟩ : ∃ p, plan[j]? = some p := ⟨_, List.getElem?_eq_getElem (by omega)⟩
      have hh := hp j hjz
      simp only [hoj, hpj] at hh
      obtain ⟨⟨⟨hdj, _⟩, _⟩, _⟩ := (by simpa only [Bool.and_eq_true] using hh : ((_ ∧ _) ∧ _) ∧ _)
      have : oj.dst = some d := by unfold dstOf at hj; rw [hoj] at hj; exact hj
      rw [this] at hdj
      simp only [Bool.and_eq_true, decide_eq_true_eq, List.all_eq_true, List.mem_range, bne_iff_ne] at hdj
      exact hdj.2 i hij hdi
  have hR : Reads tys w a p.1 := by
    refine Reads.of_mem fun x hx => ?_
    have h1 := List.all_eq_true.1 hrs x hx
    rcases (Bool.or_eq_true _ _).mp h1 with h2 | h2
    · obtain ⟨j, _, hj⟩ := List.any_eq_true.1 h2
      simp only [Bool.and_eq_true, beq_iff_eq, List.all_eq_true, List.mem_range, Bool.or_eq_true, Bool.not_eq_true'] at hj
      refine h.done j _ _ (hd j hj.1.1.2) hj.1.1.1 hj.1.2 fun k hk => ?_
      have hks : k < ops.size ∨ (killsOf plan k).contains j = false := by
        rcases Nat.lt_or_ge k ops.size with hks | hks
        · exact .inl hks
        · refine .inr ?_
          unfold killsOf
          rw [List.getElem?_eq_none (by omega)]
          rfl
      rcases hks with hks | hks
      · rcases hj.2 k hks with (h3 | h3) | h3
        · exact h3
        · exact absurd (h3 ▸ hk) hn
        · exact absurd (masks_spec h.closed ops.size k i hk h3) hn
      · exact hks
    · simp only [Bool.and_eq_true, List.all_eq_true, List.mem_range, Bool.or_eq_true, bne_iff_ne, beq_iff_eq] at h2
      rw [h.old x.1 (fun j hL hj => by
        have hjs : j < ops.size := by
          rcases Nat.lt_or_ge j ops.size with h | h
          · exact h
          · unfold dstOf at hj; rw [Array.getElem?_eq_none h] at hj; cases hj
        rcases h2.2 j hjs with (h3 | h3) | h3
        · exact h3 hj
        · exact hn (h.closed j i hL h3)
        · exact hn (h3 ▸ hL))]
      exact (tys x.2).up h.ext (hpre.mem x (by simpa using h2.1))
  have hki : killsOf plan i = p.2.2 := by unfold killsOf; rw [hpl]; rfl
  have fin : ∀ w' v, Below w0.heap.size w w' → (p.2.2 = [] → Ext w w') → (tys p.2.1).p w' v → PInv2 md ops n plan tys a0 w0 (fun j => L j ∨ j = i) (a.put (some d) v) w' := by
    intro w' v hb hx hT
    refine ⟨Below.trans h.ext hb, ?_, h.defers, ?_, ?_, ?_⟩
    · show (a.tmps.setIfInBounds d v).size = n
      rw [Array.size_setIfInBounds]; exact h.size
    · intro j e c hj hje hjc hnk
      rw [getD_put]
      by_cases hji : j = i
      · subst hji
        rw [hdi] at hje
        cases hje
        rw [if_pos ⟨rfl, by rw [h.size]; exact hdn⟩]
        unfold outOf2 at hjc
        rw [hpl] at hjc
        cases hjc
        exact hT
      · rw [if_neg (fun hh => hne j hji (by rw [hje, hh.1]))]
        have hjL := hj.resolve_right hji
        have hty := h.done j e c hjL hje hjc (fun k hk => hnk k (.inl hk))
        by_cases hke : p.2.2 = []
        · exact (tys c).up (hx hke) hty
        · have hjs : j < ops.size := by
            rcases Nat.lt_or_ge j ops.size with h | h
            · exact h
            · unfold dstOf at hje; rw [Array.getElem?_eq_none h] at hje; cases hje
          simp only [Bool.or_eq_true, List.isEmpty_iff, hke, false_or, List.all_eq_true, List.mem_range] at hkl
          rcases hkl j hjs with ((h3 | h3) | h3) | h3
          · exact absurd (by simpa using h3) hji
          · exact absurd (masks_spec h.closed ops.size j i hjL h3) hn
          · have := hnk i (.inr rfl)
            rw [hki, h3] at this
            cases this
          · rw [hjc] at h3
            exact holds c (by simpa using h3) w w' _ hb hty
    · intro s hs
      rw [getD_put, if_neg (fun hh => hs i (.inr rfl) (by rw [hdi, hh.1]))]
      exact h.old s (fun j hj => hs j (.inl hj))
    · intro j k hj hjk
      rcases hj with hj | rfl
      · exact .inl (h.closed j k hj hjk)
      · exact .inl (hd k hjk)
  have hone := hok i o p ho hpl
  unfold OkOne at hone
  split at hone
  · rename_i hk
    refine wpOp_mono ?_ ((hone a w h.ext hR).op ho)
    rintro a' w' ⟨v, rfl, hx, hT⟩
    rw [hod]
    exact fin w' v (Below.mono hx (Below.size h.ext)) (fun _ => hx) hT
  · rename_i hk
    refine wpOp_mono ?_ ((hone a w h.ext hR).op ho)
    rintro a' w' ⟨v, rfl, hx, hT⟩
    rw [hod]
    exact fin w' v hx (fun e => by rw [e] at hk; cases hk) hT
theorem PInv2.fin4 {os : List Oper} {n : Nat} {pre : List (Nat × Nat)} {olds : List Nat} {plan : List (List (Nat × Nat) × Nat × List Nat)} {tys : Nat → STy} {a0 : Act} {w0 : World} {L : Nat → Prop} {a : Act} {w : World}
    {st : Oper} (hp : planOk4 md (os ++ [st]).toArray n olds pre plan = true) (hn : a0.tmps.size = n) (h : PInv2 md (os ++ [st]).toArray n plan tys a0 w0 L a w) (hall : ∀ j, j < os.length → L j) (hf : FinL (finTys tys) Q w os (finPlan plan plan 0) a0) : Q .normal a w := by
  unfold planOk4 at hp
  simp only [Bool.and_eq_true, beq_iff_eq, List.all_eq_true, List.mem_range] at hp
  obtain ⟨⟨⟨hlen, hp⟩, hz⟩, _⟩ := hp
  have hzs : (os ++ [st]).toArray.size - 1 = os.length := by simp
  have hzo : (os ++ [st]).toArray[os.length]? = some st := by simp
  have hzd : st.dst = none := by
    rw [hzs, hzo] at hz
    simp only [Bool.and_eq_true, Option.isNone_iff_eq_none] at hz
    exact hz.1
  rw [hzs] at hp
  have hl : os.length = (finPlan plan plan 0).length := by unfold finPlan; simp at hlen ⊢; omega
  have hq := fin_fill (b := a) hl (fun i o p ho hpf => by
    obtain ⟨q, hpl, hpq⟩ := finPlan_get plan i p hpf
    have hi : i < os.length := (List.getElem?_eq_some_iff.1 ho).1
    have hpi := hp i hi
    have ho' : (os ++ [st]).toArray[i]? = some o := by
      rw [List.getElem?_toArray, List.getElem?_append_left hi]; exact ho
    simp only [ho', hpl] at hpi
    obtain ⟨⟨⟨hdst, _⟩, _⟩, _⟩ := (by simpa only [Bool.and_eq_true] using hpi : ((_ ∧ _) ∧ _) ∧ _)
    cases hod : o.dst with
    | none => rw [hod] at hdst; cases hdst
    | some d =>
      rw [hpq]
      by_cases hk : plan.any (fun p => p.2.2.contains i) = true
      · rw [if_pos hk]; trivial
      · rw [if_neg hk]
        refine h.done i d q.2.1 (hall i hi) (by unfold dstOf; rw [ho']; exact hod) (by unfold outOf2; rw [hpl]; rfl) fun k _ => ?_
        cases hc : (killsOf plan k).contains i with
        | false => rfl
        | true =>
          exfalso
          apply hk
          unfold killsOf at hc
          cases hpk : plan[k]? with
          | none => rw [hpk] at hc; simp at hc
          | some pk =>
            rw [hpk] at hc
            exact List.any_eq_true.2 ⟨pk, List.mem_of_getElem? hpk, hc⟩) hf
  have he : fillL a os a0 = a := by
    obtain ⟨h1, h2⟩ := fill_size a os a0
    have h3 : (fillL a os a0).tmps = a.tmps := by
      refine Array.ext (by rw [h1, hn, h.size]) fun s hs1 hs2 => ?_
      have hs : s < a0.tmps.size := by rw [hn, ← h.size]; exact hs2
      have key : (fillL a os a0).tmps.getD s undef = a.tmps.getD s undef := by
        obtain ⟨g1, g2⟩ := fill_get a s os a0 hs
        by_cases hex : ∃ o ∈ os, o.dst = some s
        · exact g1 hex
        · rw [g2 (fun o ho hd => hex ⟨o, ho, hd⟩), h.old s]
          intro j _ hj
          unfold dstOf at hj
          cases ho : (os ++ [st]).toArray[j]? with
          | none => rw [ho] at hj; cases hj
          | some o =>
            rw [ho] at hj
            have hm := Array.mem_of_getElem? ho
            rw [List.mem_toArray, List.mem_append, List.mem_singleton] at hm
            rcases hm with hm | rfl
            · exact hex ⟨o, hm, hj⟩
            · simp only [Option.bind_some, hzd] at hj; cases hj
      simpa [Array.getD_eq_getD_getElem?, hs1, hs2] using key
    cases a with
    | mk t d =>
      cases hfa : fillL ⟨t, d⟩ os a0 with
      | mk t' d' =>
        rw [hfa] at h2 h3
        have h4 := h.defers
        simp only at h2 h3 h4
        subst h3
        rw [h2, h4]
  rwa [he] at hq
theorem wp_region_typed4 {os : List Oper} {st : Oper} {id : Nat} {pre : List (Nat × Nat)} {plan : List (List (Nat × Nat) × Nat × List Nat)} {tys : Nat → STy} {a0 : Act} {w0 : World} (hm : P.follows .mixedOrders = true) (olds : List Nat)
    (n : Nat) (hp : planOk4 .any (os ++ [st]).toArray n olds pre plan = true) (hn : a0.tmps.size = n) (holds : ∀ c, olds.contains c = true → ∀ w w' v, Below w0.heap.size w w' → (tys c).p w v → (tys c).p w' v) (hpre : Reads tys w0 a0 pre)
    (hok : ∀ Q', OkL2 P (os ++ [st]).toArray Q' tys w0 os plan) (hfin : ∀ w, Ext w0 w → FinL (finTys tys) (fun _ a w => wpList P (os ++ [st]).toArray Q [st] a w) w os (finPlan plan plan 0) a0) :
    (Code.region id (os ++ [st]).toArray true).wp P Q a0 w0 := by
  have hzs : (os ++ [st]).toArray.size - 1 = os.length := by simp
  have hzo : (os ++ [st]).toArray[os.length]? = some st := by simp
  have hp0 := hp
  unfold planOk4 at hp0
  simp only [Bool.and_eq_true, beq_iff_eq, List.all_eq_true, List.mem_range] at hp0
  obtain ⟨⟨⟨hlen, hpp⟩, hz⟩, hwz⟩ := hp0
  rw [hzs] at hpp hz hwz
  rw [hzo] at hz
  simp only [Bool.and_eq_true] at hz
  have hok' : ∀ (i : Nat) (o : Oper) (p : List (Nat × Nat) × Nat × List Nat), (os ++ [st]).toArray[i]? = some o → plan[i]? = some p → OkOne P (os ++ [st]).toArray Q tys w0 o p := fun i o p ho hpl => by
    have hi : i < os.length := by
      have := (List.getElem?_eq_some_iff.1 hpl).1
      simp at hlen; omega
    refine (hok Q).get i o p ?_ hpl
    rw [List.getElem?_toArray, List.getElem?_append_left hi] at ho
    exact ho
  have I0 : PInv2 .any (os ++ [st]).toArray n plan tys a0 w0 (fun j => (Array.replicate (os ++ [st]).toArray.size false).getD j false = true) a0 w0.drew := (PInv2.start (Ext.drew w0) hn).mono fun j => by
    constructor
    · exact fun h => h.elim
    · intro h
      have h' : (Array.replicate (os ++ [st]).toArray.size false).getD j false = true := h
      rw [getD_replicate_false] at h'; cases h'
  refine wp_region_any hm (any_of_inv (os := os ++ [st]) (I := fun L a w => (¬ L os.length → PInv2 .any (os ++ [st]).toArray n plan tys a0 w0 L a w) ∧ (L os.length → Q .normal a w ∧ ∀ j, j < os.length → L j))
    (fun i o ho e he hb => ?_) (fun L i a w hi hn2 hd hI => ?_) (fun L a w hall hI => (hI.2 (hall _ (by simp))).1) _ _ _ _ (by simp) (by simpa using unl_all (os ++ [st]).length (os ++ [st]).length (Nat.le_refl _)) ⟨fun _ => I0, fun h => ?_⟩)
  · have hi : i < (os ++ [st]).length := (List.getElem?_eq_some_iff.1 ho).1
    rcases Nat.lt_or_ge i os.length with hi2 | hi2
    · have h1 := hpp i hi2
      obtain ⟨p, hpl⟩ : ∃ p, plan[i]? = some p := ⟨_, List.getElem?_eq_getElem (by simp at hlen; omega)⟩
      have ho' : (os ++ [st]).toArray[i]? = some o := by rw [List.getElem?_toArray]; exact ho
      simp only [ho', hpl] at h1
      obtain ⟨⟨⟨_, haf⟩, _⟩, _⟩ := (by simpa only [Bool.and_eq_true] using h1 : ((_ ∧ _) ∧ _) ∧ _)
      have h2 := Array.all_eq_true_iff_forall_mem.1 haf e he
      simpa [hb] using h2
    · have : i = os.length := by simp at hi; omega
      subst this
      have : o = st := by
        have := hzo; rw [List.getElem?_toArray, ho] at this; cases this; rfl
      subst this
      have h2 := Array.all_eq_true_iff_forall_mem.1 hz.2 e he
      simpa [hb] using h2
  · by_cases hiz : i = os.length
    · subst hiz
      have hI1 := hI.1 hn2
      have hall : ∀ j, j < os.length → L j := fun j hj => by
        have h1 := masks_spec (L := fun j => L j ∨ j = os.length) (md := .any) (ops := (os ++ [st]).toArray) (fun a b ha hb => by
          rcases ha with ha | rfl
          · exact .inl (hI1.closed a b ha hb)
          · exact .inl (hd b hb)) (os ++ [st]).toArray.size os.length j (.inr rfl) (hwz j hj)
        rcases h1 with h1 | h1
        · exact h1
        · omega
      have hf := PInv2.fin4 (Q := fun _ a w => wpList P (os ++ [st]).toArray Q [st] a w) hp hn hI1 hall (hfin w hI1.ext)
      have h2 : wpOp P (os ++ [st]).toArray Q os.length (Q .normal) a w := by
        unfold wpOp
        rw [hzo]
        exact hf
      exact wpOp_mono (fun a' w' h => ⟨fun h3 => absurd (.inr rfl) h3, fun _ => ⟨h, fun j hj => .inl (hall j hj)⟩⟩) h2
    · have hlz : ¬ L os.length := fun h => hn2 ((hI.2 h).2 i (by simp at hi; omega))
      have hI1 := hI.1 hlz
      have h1 := hI1.step4 hp hpre holds hok' (i := i) (by simp at hi ⊢; omega) hn2 hd
      exact wpOp_mono (fun a' w' h => ⟨fun _ => h, fun h3 => by
        rcases h3 with h3 | h3
        · exact absurd h3 hlz
        · exact absurd h3.symm hiz⟩) h1
  · have h' : (Array.replicate (os ++ [st]).toArray.size false).getD os.length false = true := h
    rw [getD_replicate_false] at h'; cases h'
/-- A list and its last. -/
inductive Snoc : List Oper → List Oper → Oper → Prop
  | last (o : Oper) : Snoc [o] [] o
  | cons {a : Oper} {l os : List Oper} {st : Oper} (h : Snoc l os st) : Snoc (a :: l) (a :: os) st
theorem Snoc.eq {l os : List Oper} {st : Oper} (h : Snoc l os st) : l = os ++ [st] := by
  induction h with
  | last o => rfl
  | cons _ ih => rw [ih]; rfl
theorem wp_region_typed4s {l os : List Oper} {st : Oper} {id : Nat} {pre : List (Nat × Nat)} {plan : List (List (Nat × Nat) × Nat × List Nat)} {tys : Nat → STy} {a0 : Act} {w0 : World} (hs : Snoc l os st) (hm : P.follows .mixedOrders = true) (olds : List Nat)
    (n : Nat) (hp : planOk4 .any l.toArray n olds pre plan = true) (hn : a0.tmps.size = n) (holds : ∀ c, olds.contains c = true → ∀ w w' v, Below w0.heap.size w w' → (tys c).p w v → (tys c).p w' v) (hpre : Reads tys w0 a0 pre)
    (hok : ∀ Q', OkL2 P l.toArray Q' tys w0 os plan) (hfin : ∀ w, Ext w0 w → FinL (finTys tys) (fun _ a w => wpList P l.toArray Q [st] a w) w os (finPlan plan plan 0) a0) :
    (Code.region id l.toArray true).wp P Q a0 w0 := by
  have e := hs.eq
  subst e
  exact wp_region_typed4 hm olds n hp hn holds hpre hok hfin
end
end Go
/- Rows of cells: put behind one another, cut; rows of terms within a region: what is the region's own, and what was there before it. -/
namespace Go.Proofs.YteiacgpaocnofaaGreat
set_option maxRecDepth 100000
open Go.RowKit
/-- A slice of so many things, of so many cells each. -/
def CsAt (w : World) (size n : Nat) (v : Value) (xs : List Value) : Prop :=
  xs.length = n * size ∧ ∃ (b o c : Nat) (ao : Option Addr), v = .slice ao n c ∧ n ≤ c ∧ c ≤ 9223372036854775807 ∧ (0 < n → ao = some ⟨b, o, none⟩ ∧ b < w.heap.size ∧ ∀ j u, xs[j]? = some u → w.cell? ⟨b, o + j, none⟩ = some u) ∧ ∀ u ∈ xs, u.oneCell' = true
theorem CsAt.ext {W w : World} {size n : Nat} {v : Value} {xs : List Value} (h : CsAt W size n v xs) (he : Below W.heap.size W w) : CsAt w size n v xs := by
  obtain ⟨h1, b, o, c, ao, hv, hn, hm, hh, ho⟩ := h
  exact ⟨h1, b, o, c, ao, hv, hn, hm, fun h0 => ⟨(hh h0).1, Nat.lt_of_lt_of_le (hh h0).2.1 he.size, fun j u hu => (Below.cell (p := ⟨b, o + j, none⟩) he (hh h0).2.1).trans ((hh h0).2.2 j u hu)⟩, ho⟩
theorem row_cs {w : World} {base e size n : Nat} {v : Value} {xs : List Value} (h : w.ownsRow base e size v n xs) (h1 : ∀ u ∈ xs, u.oneCell' = true) : CsAt w size n v xs := by
  refine ⟨h.1, ?_⟩
  rcases h.2 with ⟨rfl, h0⟩ | ⟨g, cap, cur, rfl, hb, hr, hn, hm, hs, ht⟩
  · subst h0; exact ⟨0, 0, 0, none, rfl, Nat.le_refl _, by omega, fun h => absurd h (by omega), h1⟩
  · refine ⟨g, 0, cap, _, rfl, hn, by unfold maxLen at hm; omega, fun _ => ⟨rfl, (Array.getElem?_eq_some_iff.1 hr).1, fun j u hu => ?_⟩, h1⟩
    rw [Nat.zero_add, cell_of_row _ _ _ _ _ _ hr]
    have hj : j < n * size := by have := (List.getElem?_eq_some_iff.1 hu).1; rw [h.1] at this; exact this
    rw [← ht, List.getElem?_take, if_pos hj] at hu
    simpa using hu
/-- Things behind things of the call's own. -/
theorem cs_append {t e size bytes n m base : Nat} {w : World} {v sv : Value} {xs ys : List Value} (hA : AppTy t e size bytes) (ty : TypeId) (h : w.ownsRow base e size v n xs) (hs : CsAt w size m sv ys) (hn : n + m ≤ 1000000000000000) (hby : (n + m) * bytes ≤ 140737488355328) (hb : base ≤ w.heap.size) :
    ∃ v' w', (Builtin.append_ #[t, t] ty #[v, sv]).run Tryz.prog w = .ok v' w' ∧ w'.ownsRow base e size v' (n + m) (xs ++ ys) ∧ w.grownBy w' v.ownBlock := by
  obtain ⟨i, z, hi, hz, hsz, hbt, hzs⟩ := hA.info
  obtain ⟨hl, b, o, c, ao, rfl, hc, hmax, hh, h1⟩ := hs
  cases ao with
  | none =>
    have h0 : m = 0 := by
      rcases Nat.eq_zero_or_pos m with h0 | h0
      · exact h0
      · cases (hh h0).1
    subst h0
    have hy : ys = [] := List.eq_nil_of_length_eq_zero (by omega)
    subst hy
    refine ⟨v, w, ?_, by rw [List.append_nil]; exact h, grown_refl w _⟩
    have und := hA.und
    rcases h.2 with ⟨rfl, _⟩ | ⟨g, cap, cur, rfl, _, _, hnc, _⟩
    · simp [Builtin.append_, run_underlying und, sizeOf, typeInfo, hi, Builtin.lenOf, Builtin.firstCells]
    · simp [Builtin.append_, run_underlying und, sizeOf, typeInfo, hi, Builtin.lenOf, Builtin.firstCells, hnc, storeCells]
  | some ad =>
    obtain ⟨v', w', hr, h2, h3, _⟩ := run_append_own (P := Tryz.prog) w base t ty e i z size bytes hA.und hi hz hsz hbt hzs hA.pos v n xs h ad m c ys hl (fun j u hu => by
      have hj := (List.getElem?_eq_some_iff.1 hu).1
      have h0 : 0 < m := by
        rcases Nat.eq_zero_or_pos m with h0 | h0
        · subst h0; omega
        · exact h0
      obtain ⟨e1, hbb, hcell⟩ := hh h0
      injection e1 with e1
      subst e1
      rw [Addr.add_mid]
      exact hcell j u hu) h1 (by unfold maxLen; omega) hby hb
    exact ⟨v', w', hr, h2, h3⟩
/-- The things from a place on. -/
theorem cs_from {w : World} {n : Nat} {v : Value} {xs : List Value} (h : CsAt w 4 n v xs) (k : Nat) (hk : k ≤ n) :
    ∃ v', (∀ W : World, (Instr.sliceAt 26 v (some (.int .i64 (k : Int))) none none).run Tryz.prog W = .ok v' W) ∧ CsAt w 4 (n - k) v' (xs.drop (k * 4)) := by
  obtain ⟨hl, b, o, c, ao, rfl, hc, hm, hh, h1⟩ := h
  have hlen : (xs.drop (k * 4)).length = (n - k) * 4 := by rw [List.length_drop, hl]; omega
  have h1' : ∀ u ∈ xs.drop (k * 4), u.oneCell' = true := fun u hu => h1 u (List.mem_of_mem_drop hu)
  have g1 : ¬ ((k : Int) < 0) := by omega
  have g2 : ¬ ((n : Int) < (k : Int)) := by omega
  have g3 : ¬ ((c : Int) < (n : Int)) := by omega
  have g4 : ¬ ((n : Int) < 0) := by omega
  cases ao with
  | none =>
    have hn0 : n = 0 := by
      rcases Nat.eq_zero_or_pos n with h0 | h0
      · exact h0
      · cases (hh h0).1
    subst hn0
    obtain rfl : k = 0 := by omega
    exact ⟨.slice none 0 c, fun W => by go_simp, ⟨hlen, 0, 0, c, none, rfl, by omega, hm, fun h => absurd h (by omega), h1'⟩⟩
  | some ad =>
    by_cases hcc : c = k
    · have hkl : k = n := by omega
      refine ⟨.slice (some ad) 0 0, fun W => by subst hkl; go_simp, ?_⟩
      rw [show n - k = 0 by omega]
      exact ⟨by rw [hlen]; omega, 0, 0, 0, some ad, rfl, by omega, by omega, fun h => absurd h (by omega), h1'⟩
    · refine ⟨.slice (some (ad.add (k * 4))) (n - k) (c - k), fun W => by go_simp, ⟨hlen, b, o + k * 4, c - k, _, rfl, by omega, by omega, fun h0 => ?_, h1'⟩⟩
      obtain ⟨e4, hb, hr⟩ := hh (by omega)
      injection e4 with e4
      subst e4
      refine ⟨by simp [Addr.add], hb, fun j u hu => ?_⟩
      rw [List.getElem?_drop] at hu
      rw [Nat.add_assoc]
      exact hr _ _ hu
/-- The things up to a place. -/
theorem cs_upto {w : World} {n : Nat} {v : Value} {xs : List Value} (h : CsAt w 4 n v xs) (k : Nat) (hk : k ≤ n) :
    ∃ v', (∀ W : World, (Instr.sliceAt 26 v none (some (.int .i64 (k : Int))) none).run Tryz.prog W = .ok v' W) ∧ CsAt w 4 k v' (xs.take (k * 4)) := by
  obtain ⟨hl, b, o, c, ao, rfl, hc, hm, hh, h1⟩ := h
  have hlen : (xs.take (k * 4)).length = k * 4 := by rw [List.length_take, hl]; omega
  have h1' : ∀ u ∈ xs.take (k * 4), u.oneCell' = true := fun u hu => h1 u (List.mem_of_mem_take hu)
  have g1 : ¬ ((k : Int) < 0) := by omega
  have g3 : ¬ ((c : Int) < (k : Int)) := by omega
  refine ⟨.slice ao k c, fun W => ?_, ⟨hlen, b, o, c, ao, rfl, by omega, hm, fun h0 => ?_, h1'⟩⟩
  · cases ao with
    | none =>
      have hn0 : n = 0 := by
        rcases Nat.eq_zero_or_pos n with h0 | h0
        · exact h0
        · cases (hh h0).1
      subst hn0
      obtain rfl : k = 0 := by omega
      go_simp
    | some ad => go_simp; intro h; omega
  · obtain ⟨e4, hb, hr⟩ := hh (by omega)
    refine ⟨e4, hb, fun j u hu => ?_⟩
    rw [List.getElem?_take] at hu
    split at hu
    · exact hr j u hu
    · cases hu
end Go.Proofs.YteiacgpaocnofaaGreat
/- Rows of terms within a region: what is the region's own, and what was there before it. -/
namespace Go.Proofs.YteiacgpaocnofaaGreat
set_option maxRecDepth 100000
open Go.RowKit
/-- What cells say of terms. -/
def TcAt (w : World) (xs : List Value) (zs : List Tm) : Prop :=
  xs.length = zs.length * 4 ∧ ∀ i t, zs[i]? = some t → ∃ a c, xs[i * 4]? = some (.int .i64 t.k) ∧ xs[i * 4 + 1]? = some (.int .i64 t.n) ∧ xs[i * 4 + 2]? = some (.string t.s) ∧ xs[i * 4 + 3]? = some (.slice a t.l.length c) ∧ TAt w t a c
theorem TcAt.ext {W w : World} {xs : List Value} {zs : List Tm} (h : TcAt W xs zs) (he : Below W.heap.size W w) : TcAt w xs zs :=
  ⟨h.1, fun i t ht => by obtain ⟨a, c, h0, h1, h2, h3, h4⟩ := h.2 i t ht; exact ⟨a, c, h0, h1, h2, h3, h4.ext he⟩⟩
theorem TcAt.nil (w : World) : TcAt w [] [] := ⟨rfl, fun i t ht => by simp at ht⟩
theorem TcAt.one {w : World} {t : Tm} {a : Option Addr} {c : Nat} (h : TAt w t a c) : TcAt w [.int .i64 t.k, .int .i64 t.n, .string t.s, .slice a t.l.length c] [t] :=
  ⟨rfl, fun i u hu => by
    have hi : i = 0 := by have := (List.getElem?_eq_some_iff.1 hu).1; simp at this; exact this
    subst hi
    obtain rfl : t = u := by simpa using hu
    exact ⟨a, c, rfl, rfl, rfl, rfl, h⟩⟩
theorem TcAt.append {w : World} {xs ys : List Value} {zs vs : List Tm} (h : TcAt w xs zs) (k : TcAt w ys vs) : TcAt w (xs ++ ys) (zs ++ vs) := by
  refine ⟨by rw [List.length_append, List.length_append, h.1, k.1, Nat.add_mul], fun i t ht => ?_⟩
  rcases Nat.lt_or_ge i zs.length with hi | hi
  · rw [List.getElem?_append_left hi] at ht
    obtain ⟨a, c, h0, h1, h2, h3, h4⟩ := h.2 i t ht
    have hx := h.1
    refine ⟨a, c, ?_, ?_, ?_, ?_, h4⟩ <;> rw [List.getElem?_append_left (by omega)] <;> assumption
  · rw [List.getElem?_append_right hi] at ht
    obtain ⟨a, c, h0, h1, h2, h3, h4⟩ := k.2 _ t ht
    have hx := h.1
    refine ⟨a, c, ?_, ?_, ?_, ?_, h4⟩ <;> rw [List.getElem?_append_right (by omega)]
    · rw [show i * 4 - xs.length = (i - zs.length) * 4 by omega]; exact h0
    · rw [show i * 4 + 1 - xs.length = (i - zs.length) * 4 + 1 by omega]; exact h1
    · rw [show i * 4 + 2 - xs.length = (i - zs.length) * 4 + 2 by omega]; exact h2
    · rw [show i * 4 + 3 - xs.length = (i - zs.length) * 4 + 3 by omega]; exact h3
theorem TcAt.take {w : World} {xs : List Value} {zs : List Tm} (h : TcAt w xs zs) (k : Nat) : TcAt w (xs.take (k * 4)) (zs.take k) := by
  refine ⟨by rw [List.length_take, List.length_take, h.1]; omega, fun i t ht => ?_⟩
  rw [List.getElem?_take] at ht
  split at ht
  · obtain ⟨a, c, h0, h1, h2, h3, h4⟩ := h.2 i t ht
    refine ⟨a, c, ?_, ?_, ?_, ?_, h4⟩ <;> rw [List.getElem?_take, if_pos (by omega)] <;> assumption
  · cases ht
theorem TcAt.drop {w : World} {xs : List Value} {zs : List Tm} (h : TcAt w xs zs) (k : Nat) : TcAt w (xs.drop (k * 4)) (zs.drop k) := by
  refine ⟨by rw [List.length_drop, List.length_drop, h.1]; omega, fun i t ht => ?_⟩
  rw [List.getElem?_drop] at ht
  obtain ⟨a, c, h0, h1, h2, h3, h4⟩ := h.2 _ t ht
  refine ⟨a, c, ?_, ?_, ?_, ?_, h4⟩ <;> rw [List.getElem?_drop]
  · rw [show k * 4 + i * 4 = (k + i) * 4 by omega]; exact h0
  · rw [show k * 4 + (i * 4 + 1) = (k + i) * 4 + 1 by omega]; exact h1
  · rw [show k * 4 + (i * 4 + 2) = (k + i) * 4 + 2 by omega]; exact h2
  · rw [show k * 4 + (i * 4 + 3) = (k + i) * 4 + 3 by omega]; exact h3
/-- A list's cells. -/
def tcg (A : Nat → Option Addr) (C : Nat → Nat) : Nat → List Tm → List Value
  | _, [] => []
  | i, t :: r => .int .i64 t.k :: .int .i64 t.n :: .string t.s :: .slice (A i) t.l.length (C i) :: tcg A C (i + 1) r
theorem tcg_len (A : Nat → Option Addr) (C : Nat → Nat) : ∀ (l : List Tm) (i : Nat), (tcg A C i l).length = l.length * 4
  | [], _ => rfl
  | t :: r, i => by rw [tcg]; simp only [List.length_cons, tcg_len A C r (i + 1)]; omega
theorem tcg_one (A : Nat → Option Addr) (C : Nat → Nat) : ∀ (l : List Tm) (i : Nat), ∀ u ∈ tcg A C i l, u.oneCell' = true
  | [], _, u, hu => by simp [tcg] at hu
  | t :: r, i, u, hu => by
    rw [tcg] at hu
    simp only [List.mem_cons] at hu
    rcases hu with rfl | rfl | rfl | rfl | hu
    · rfl
    · rfl
    · rfl
    · rfl
    · exact tcg_one A C r (i + 1) u hu
theorem tcg_get (A : Nat → Option Addr) (C : Nat → Nat) : ∀ (l : List Tm) (i j : Nat) (t : Tm), l[j]? = some t → (tcg A C i l)[j * 4]? = some (.int .i64 t.k) ∧ (tcg A C i l)[j * 4 + 1]? = some (.int .i64 t.n) ∧ (tcg A C i l)[j * 4 + 2]? = some (.string t.s) ∧ (tcg A C i l)[j * 4 + 3]? = some (.slice (A (i + j)) t.l.length (C (i + j)))
  | [], _, _, _, h => by simp at h
  | x :: r, i, 0, t, h => by
    obtain rfl : x = t := by simpa using h
    exact ⟨rfl, rfl, rfl, rfl⟩
  | x :: r, i, j + 1, t, h => by
    have h' : r[j]? = some t := by simpa using h
    obtain ⟨h0, h1, h2, h3⟩ := tcg_get A C r (i + 1) j t h'
    rw [tcg, show (j + 1) * 4 = j * 4 + 1 + 1 + 1 + 1 by omega]
    refine ⟨by simpa using h0, ?_, ?_, ?_⟩
    · rw [show j * 4 + 1 + 1 + 1 + 1 + 1 = (j * 4 + 1) + 1 + 1 + 1 + 1 by omega]; simpa using h1
    · rw [show j * 4 + 1 + 1 + 1 + 1 + 2 = (j * 4 + 2) + 1 + 1 + 1 + 1 by omega]; simpa using h2
    · rw [show j * 4 + 1 + 1 + 1 + 1 + 3 = (j * 4 + 3) + 1 + 1 + 1 + 1 by omega, show i + (j + 1) = i + 1 + j by omega]; simpa using h3
/-- A slice that holds terms, by its cells. -/
def TsAt (w : World) (v : Value) (zs : List Tm) : Prop := ∃ xs, CsAt w 4 zs.length v xs ∧ TcAt w xs zs
theorem LAt.ts {w : World} {l : List Tm} {a : Option Addr} {c : Nat} (h : LAt w l a c) : TsAt w (.slice a l.length c) l := by
  obtain ⟨h1, h2, b, o, A, C, hb, hc⟩ := h
  refine ⟨tcg A C 0 l, ⟨tcg_len A C l 0, b, o, c, a, rfl, h1, h2, fun h0 => ?_, tcg_one A C l 0⟩, tcg_len A C l 0, fun i t ht => ?_⟩
  · obtain ⟨e, hbb⟩ := hb (fun e => by subst e; simp at h0)
    refine ⟨e, hbb, fun j u hu => ?_⟩
    have hj : j < l.length * 4 := by have := (List.getElem?_eq_some_iff.1 hu).1; rw [tcg_len] at this; exact this
    obtain ⟨t, ht⟩ : ∃ t, l[j / 4]? = some t := ⟨_, List.getElem?_eq_getElem (by omega)⟩
    obtain ⟨⟨c0, c1, c2, c3⟩, _⟩ := hc _ t ht
    obtain ⟨g0, g1, g2, g3⟩ := tcg_get A C l 0 _ t ht
    have h4 : j % 4 = 0 ∨ j % 4 = 1 ∨ j % 4 = 2 ∨ j % 4 = 3 := by omega
    rw [Nat.zero_add] at g3
    rcases h4 with h4 | h4 | h4 | h4
    · rw [show j = j / 4 * 4 by omega, g0] at hu
      cases hu
      rw [show o + j = o + j / 4 * 4 by omega]; exact c0
    · rw [show j = j / 4 * 4 + 1 by omega, g1] at hu
      cases hu
      rw [show o + j = o + j / 4 * 4 + 1 by omega]; exact c1
    · rw [show j = j / 4 * 4 + 2 by omega, g2] at hu
      cases hu
      rw [show o + j = o + j / 4 * 4 + 2 by omega]; exact c2
    · rw [show j = j / 4 * 4 + 3 by omega, g3] at hu
      cases hu
      rw [show o + j = o + j / 4 * 4 + 3 by omega]; exact c3
  · obtain ⟨_, ht2⟩ := hc i t ht
    obtain ⟨g0, g1, g2, g3⟩ := tcg_get A C l 0 i t ht
    rw [Nat.zero_add] at g3
    exact ⟨A i, C i, g0, g1, g2, g3, ht2⟩
theorem TsAt.lat {w : World} {v : Value} {zs : List Tm} (h : TsAt w v zs) : ∃ a c, v = .slice a zs.length c ∧ LAt w zs a c := by
  obtain ⟨xs, ⟨hl, b, o, c, a, rfl, hn, hm, hh, _⟩, h2⟩ := h
  have hch : ∀ i, i < zs.length → ∃ q : Option Addr × Nat, ∀ t, zs[i]? = some t → xs[i * 4]? = some (.int .i64 t.k) ∧ xs[i * 4 + 1]? = some (.int .i64 t.n) ∧ xs[i * 4 + 2]? = some (.string t.s) ∧ xs[i * 4 + 3]? = some (.slice q.1 t.l.length q.2) ∧ TAt w t q.1 q.2 := fun i hi => by
    obtain ⟨a, c, h⟩ := h2.2 i _ (List.getElem?_eq_getElem hi)
    refine ⟨(a, c), fun t ht => ?_⟩
    rw [List.getElem?_eq_getElem hi] at ht
    cases ht
    exact h
  have hch2 : ∀ i, ∃ q : Option Addr × Nat, ∀ t, zs[i]? = some t → xs[i * 4]? = some (.int .i64 t.k) ∧ xs[i * 4 + 1]? = some (.int .i64 t.n) ∧ xs[i * 4 + 2]? = some (.string t.s) ∧ xs[i * 4 + 3]? = some (.slice q.1 t.l.length q.2) ∧ TAt w t q.1 q.2 := fun i => by
    rcases Nat.lt_or_ge i zs.length with hi | hi
    · exact hch i hi
    · exact ⟨(none, 0), fun t ht => by rw [List.getElem?_eq_none hi] at ht; cases ht⟩
  obtain ⟨Q, hQ⟩ := Classical.axiomOfChoice hch2
  refine ⟨a, c, rfl, hn, hm, b, o, fun i => (Q i).1, fun i => (Q i).2, fun hne => ?_, fun i t ht => ?_⟩
  · obtain ⟨e, hb, _⟩ := hh (List.length_pos_iff.2 hne)
    exact ⟨e, hb⟩
  · obtain ⟨_, _, hcell⟩ := hh (by have := (List.getElem?_eq_some_iff.1 ht).1; omega)
    obtain ⟨g0, g1, g2, g3, g4⟩ := hQ i t ht
    exact ⟨⟨hcell _ _ g0, hcell _ _ g1, hcell _ _ g2, hcell _ _ g3⟩, g4⟩
/-- Terms that were there before the region. -/
def oldT (w0 : World) (zs : List Tm) : STy := ⟨fun w v => TsAt w0 v zs ∧ Below w0.heap.size w0 w, fun hx h => ⟨h.1, Below.trans h.2 (Below.mono hx (Below.size h.2))⟩⟩
theorem TsAt.ext {W w : World} {v : Value} {zs : List Tm} (h : TsAt W v zs) (he : Below W.heap.size W w) : TsAt w v zs := by
  obtain ⟨xs, h1, h2⟩ := h
  exact ⟨xs, h1.ext he, h2.ext he⟩
/-- Terms in a block of the region's own; their own lists were there before it. -/
structure OwT (w0 w : World) (v : Value) (zs : List Tm) : Prop where
  row : ∃ xs, w.ownsRow w0.heap.size 33 4 v zs.length xs ∧ (∀ u ∈ xs, u.oneCell' = true) ∧ TcAt w0 xs zs
  bel : Below w0.heap.size w0 w
def ownT (w0 : World) (zs : List Tm) : STy := ⟨fun w v => OwT w0 w v zs, fun hx h => ⟨by obtain ⟨xs, h1, h2, h3⟩ := h.row; exact ⟨xs, row_ext h1 hx, h2, h3⟩, Below.trans h.bel (Below.mono hx (Below.size h.bel))⟩⟩
theorem OwT.ts {w0 w : World} {v : Value} {zs : List Tm} (h : OwT w0 w v zs) : ∃ xs, CsAt w 4 zs.length v xs ∧ TcAt w0 xs zs := by
  obtain ⟨xs, h1, h2, h3⟩ := h.row
  exact ⟨xs, row_cs h1 h2, h3⟩
theorem OwT.at {w0 w : World} {v : Value} {zs : List Tm} (h : OwT w0 w v zs) : TsAt w v zs := by
  obtain ⟨xs, h1, h2⟩ := h.ts
  exact ⟨xs, h1, h2.ext h.bel⟩
theorem oldT_cs {w0 w : World} {v : Value} {zs : List Tm} (h : (oldT w0 zs).p w v) : ∃ xs, CsAt w 4 zs.length v xs ∧ TcAt w0 xs zs := by
  obtain ⟨⟨xs, h1, h2⟩, hb⟩ := h
  exact ⟨xs, h1.ext hb, h2⟩
theorem oldT_mk {w0 w : World} {v : Value} {zs : List Tm} (h : TsAt w0 v zs) (hx : Ext w0 w) : (oldT w0 zs).p w v := ⟨h, hx⟩
theorem oldT_old (w0 : World) (l : List Tm) : ∀ w w' v, Below w0.heap.size w w' → (oldT w0 l).p w v → (oldT w0 l).p w' v := fun _ _ _ hb h => ⟨h.1, Below.trans h.2 hb⟩
theorem isv_old (B : Nat) (x : Value) : ∀ w w' v, Below B w w' → (isv x).p w v → (isv x).p w' v := fun _ _ _ _ h => h
theorem ownT_nil {w0 w : World} (hx : Ext w0 w) : (ownT w0 []).p w (.slice none 0 0) := ⟨⟨[], World.ownsRow_nil _ _ _ _, by simp, TcAt.nil w0⟩, hx⟩
section
variable {ops : Array Oper} {Q : Exit → Act → World → Prop} {o : Oper} {T : STy} {a : Act} {w w0 : World}
theorem g_oT0 (hw : Region.wanted o (yielded ops a.tmps) = true) (ho : o.op = .buildSlice 26 0 #[]) (hx : Ext w0 w) : Gives Tryz.prog ops Q o (ownT w0 []) a w := by
  refine g_run hw (v := .slice (some ⟨w.heap.size, 0, none⟩) 0 0) (w' := w.alloc (.cells #[] 33)) ?_ ((Below.refl _ _).alloc (Nat.le_refl _) _) ⟨⟨[], World.ownsRow_lit (base := w0.heap.size) w #[] 0 (Below.size hx) (by decide) rfl, by simp, TcAt.nil w0⟩, Below.trans hx (Below.mono (alloc_below w _) (Below.size hx))⟩
  unfold execOp
  rw [ho]
  kernel_rfl
theorem g_oT1 (hw : Region.wanted o (yielded ops a.tmps) = true) {x : Operand} {t : Tm} {ta : Option Addr} {tc : Nat} (ho : o.op = .buildSlice 26 1 #[(0, x)]) (hv : a.eval x = tv t ta tc) (ht : TAt w0 t ta tc) (hx : Ext w0 w) : Gives Tryz.prog ops Q o (ownT w0 [t]) a w := by
  refine g_run hw (v := .slice (some ⟨w.heap.size, 0, none⟩) 1 1) (w' := w.alloc (.cells #[.int .i64 t.k, .int .i64 t.n, .string t.s, .slice ta t.l.length tc] 33)) ?_ ((Below.refl _ _).alloc (Nat.le_refl _) _)
    ⟨⟨_, World.ownsRow_lit (base := w0.heap.size) w #[.int .i64 t.k, .int .i64 t.n, .string t.s, .slice ta t.l.length tc] 1 (Below.size hx) (by decide) rfl, fun u hu => ?_, TcAt.one ht⟩, Below.trans hx (Below.mono (alloc_below w _) (Below.size hx))⟩
  · unfold execOp
    unfold tv at hv
    generalize t.k = k at *
    generalize t.n = n at *
    generalize t.s = s at *
    generalize t.l.length = l at *
    generalize a.eval = ev at *
    simp only [ho]
    go_simp
  · simp at hu
    rcases hu with rfl | rfl | rfl | rfl <;> rfl
theorem g_slTf (hw : Region.wanted o (yielded ops a.tmps) = true) {x y : Operand} {zs : List Tm} (k : Nat) (ho : o.op = .slice 26 x (some y) none none) (h : (oldT w0 zs).p w (a.eval x)) (hy : a.eval y = .int .i64 (k : Int)) (hk : k ≤ zs.length) : Gives Tryz.prog ops Q o (oldT w0 (zs.drop k)) a w := by
  obtain ⟨⟨xs, h1, h2⟩, hb⟩ := h
  obtain ⟨v', hr, h3⟩ := cs_from h1 k hk
  refine g_run hw (v := v') ?_ (Ext.refl w) ⟨⟨_, by rw [List.length_drop]; exact h3, h2.drop k⟩, hb⟩
  unfold execOp
  simp only [ho, Option.map_some, Option.map_none, hy]
  rw [Sem.run_bind, hr]
  rfl
theorem g_slTu (hw : Region.wanted o (yielded ops a.tmps) = true) {x y : Operand} {zs : List Tm} (k : Nat) (ho : o.op = .slice 26 x none (some y) none) (h : (oldT w0 zs).p w (a.eval x)) (hy : a.eval y = .int .i64 (k : Int)) (hk : k ≤ zs.length) : Gives Tryz.prog ops Q o (oldT w0 (zs.take k)) a w := by
  obtain ⟨⟨xs, h1, h2⟩, hb⟩ := h
  obtain ⟨v', hr, h3⟩ := cs_upto h1 k hk
  refine g_run hw (v := v') ?_ (Ext.refl w) ⟨⟨_, by rw [List.length_take, Nat.min_eq_left hk]; exact h3, h2.take k⟩, hb⟩
  unfold execOp
  simp only [ho, Option.map_some, Option.map_none, hy]
  rw [Sem.run_bind, hr]
  rfl
theorem g_apT (hw : Region.wanted o (yielded ops a.tmps) = true) {s x : Operand} {zs ys : List Tm} (ho : o.op = .call { callee := .builtin .append, args := #[s, x], argTypes := #[26, 26] }) (hx : Ext w0 w) (h : (ownT w0 zs).p w (a.eval s)) (hs : ∃ xs, CsAt w 4 ys.length (a.eval x) xs ∧ TcAt w0 xs ys) (hn : (zs.length + ys.length) * 56 ≤ 140737488351232) : GivesW Tryz.prog ops Q w0.heap.size o (ownT w0 (zs ++ ys)) a w := by
  obtain ⟨xs, r1, r2, r3⟩ := h.row
  obtain ⟨vs, s1, s2⟩ := hs
  obtain ⟨v', w', hr, h1, h2⟩ := cs_append appT o.type r1 s1 (by omega) (by omega) (Below.size hx)
  have hb : Below w0.heap.size w w' := (Below.refl w0.heap.size w).grown h2 (Below.size hx) (fun k hk => (r1.lt k hk).1)
  refine ⟨hw, Oper.wp_value (run_op_append ho hr) ⟨v', rfl, hb, ⟨⟨_, by rw [List.length_append]; exact h1, fun u hu => ?_, r3.append s2⟩, Below.trans h.bel hb⟩⟩⟩
  rcases List.mem_append.1 hu with h | h
  · exact r2 u h
  · exact s1.2.choose_spec.choose_spec.choose_spec.choose_spec.2.2.2.2 u h
/-- Onto nothing of its own it is new memory. -/
theorem g_apN (hw : Region.wanted o (yielded ops a.tmps) = true) {x : Operand} {ys : List Tm} (ho : o.op = .call { callee := .builtin .append, args := #[.const (.slice none 0 0), x], argTypes := #[26, 26] }) (hx : Ext w0 w) (hs : ∃ xs, CsAt w 4 ys.length (a.eval x) xs ∧ TcAt w0 xs ys) (hn : ys.length * 56 ≤ 140737488351232) : Gives Tryz.prog ops Q o (ownT w0 ys) a w := by
  obtain ⟨vs, s1, s2⟩ := hs
  obtain ⟨v', w', hr, h1, h2⟩ := cs_append (base := w0.heap.size) appT o.type (World.ownsRow_nil w _ _ _) s1 (by omega) (by omega) (Below.size hx)
  have hb : Below w.heap.size w w' := below_of_grown h2 (fun k hk => by cases hk)
  rw [Nat.zero_add, List.nil_append] at h1
  exact g_run hw (run_op_append ho hr) hb ⟨⟨_, h1, s1.2.choose_spec.choose_spec.choose_spec.choose_spec.2.2.2.2, s2⟩, Below.trans hx (Below.mono hb (Below.size hx))⟩
theorem g_fap (hw : Region.wanted o (yielded ops a.tmps) = true) {x : Operand} {b of : Nat} (ho : o.op = .fieldAddr 33 x 3) (h : a.eval x = .pointer (some ⟨b, of, none⟩)) : Gives Tryz.prog ops Q o (isv (.pointer (some ⟨b, of + 3, none⟩))) a w := by
  refine g_run hw (v := .pointer (some ⟨b, of + 3, none⟩)) ?_ (Ext.refl w) rfl
  unfold execOp
  simp only [ho, h]
  go_simp
theorem g_ldl (hw : Region.wanted o (yielded ops a.tmps) = true) {x : Operand} {b of : Nat} {v : Value} (ho : o.op = .load 26 x) (h : a.eval x = .pointer (some ⟨b, of, none⟩)) (hc : w.cell? ⟨b, of, none⟩ = some v) (ht : T.p w v) : Gives Tryz.prog ops Q o T a w := by
  refine g_run hw (v := v) ?_ (Ext.refl w) ht
  unfold execOp
  simp only [ho, h]
  go_simp
theorem g_ldv (hw : Region.wanted o (yielded ops a.tmps) = true) {x : Operand} {b of : Nat} {t : Tm} {ta : Option Addr} {tc : Nat} (ho : o.op = .load 33 x) (h : a.eval x = .pointer (some ⟨b, of, none⟩)) (hb : b < w.heap.size) (hc : C4 w b of t ta tc) (ht : T.p w (tv t ta tc)) : Gives Tryz.prog ops Q o T a w :=
  g_ldt hw ho ⟨b, of, h, hb, hc⟩ ht
end
end Go.Proofs.YteiacgpaocnofaaGreat
/- Numbers held against each other, put together and taken away within a region. For any program. -/
namespace Go
open Go.RowKit
/-- What a comparison of two numbers tells. -/
def icmp (b : BinOp) (m n : Int) : Bool :=
  match b with
  | .lss => decide (m < n)
  | .leq => decide (m ≤ n)
  | .gtr => decide (n < m)
  | .geq => decide (n ≤ m)
  | .eql => decide (m = n)
  | .neq => !decide (m = n)
  | _ => false
def isCmp (b : BinOp) : Bool := match b with | .lss | .leq | .gtr | .geq | .eql | .neq => true | _ => false
theorem neq_t {m n : Int} (h : ¬ m = n) : icmp .neq m n = true := by simp [icmp, h]
theorem neq_f {m n : Int} (h : m = n) : icmp .neq m n = false := by simp [icmp, h]
section
variable {P : Program} {ops : Array Oper} {Q : Exit → Act → World → Prop} {o : Oper} {T : STy} {a : Act} {w : World}
theorem run_icmp (b : BinOp) (hb : isCmp b = true) (t : TypeId) (x y : Operand) (k : IntKind) (m n : Int) (w : World) : (do eqGuard b t x y (.int k m) (.int k n); binOp b t (.int k m) (.int k n) : Sem Value).run P w = .ok (.bool (icmp b m n)) w := by
  cases b <;> first | (cases hb; done) | skip
  all_goals
    simp [eqGuard, binOp, Op.intCmp, icmp]
    try rfl
theorem g_cI (hw : Region.wanted o (yielded ops a.tmps) = true) {b : BinOp} {t u : TypeId} {x y : Operand} {k : IntKind} {m n : Int} {r : Bool} (ho : o.op = .binOp b t x y u) (hb : isCmp b = true) (hx : a.eval x = .int k m) (hy : a.eval y = .int k n) (hr : icmp b m n = r) : Gives P ops Q o (isv (.bool r)) a w :=
  g_bin hw ho (v := .bool r) (by rw [hx, hy, ← hr]; exact run_icmp b hb t x y k m n w) rfl
theorem g_addI (hw : Region.wanted o (yielded ops a.tmps) = true) {t u : TypeId} {x y : Operand} {m n r : Int} (ho : o.op = .binOp .add t x y u) (hx : a.eval x = .int .i64 m) (hy : a.eval y = .int .i64 n) (e : m + n = r) (h : -9223372036854775808 ≤ r ∧ r ≤ 9223372036854775807) : Gives P ops Q o (isv (.int .i64 r)) a w :=
  g_bin hw ho (v := .int .i64 r) (by
    rw [hx, hy]
    simp [eqGuard, binOp, Op.intArith, e]
    rw [IntKind.wrap_i64]; omega) rfl
theorem g_subI (hw : Region.wanted o (yielded ops a.tmps) = true) {t u : TypeId} {x y : Operand} {m n r : Int} (ho : o.op = .binOp .sub t x y u) (hx : a.eval x = .int .i64 m) (hy : a.eval y = .int .i64 n) (e : m - n = r) (h : -9223372036854775808 ≤ r ∧ r ≤ 9223372036854775807) : Gives P ops Q o (isv (.int .i64 r)) a w :=
  g_bin hw ho (v := .int .i64 r) (by
    rw [hx, hy]
    simp [eqGuard, binOp, Op.intArith, e]
    rw [IntKind.wrap_i64]; omega) rfl
end
end Go
namespace Go.Proofs.YteiacgpaocnofaaGreat
set_option maxRecDepth 100000
open Go.RowKit
section
variable {ops : Array Oper} {Q : Exit → Act → World → Prop} {o : Oper} {T : STy} {a : Act} {w : World}
theorem beq_b (d : Bool) : Value.bool (d == d) = .bool true := by simp
theorem bne_b (d : Bool) : Value.bool (d != d) = .bool false := by simp
theorem g_eqb (hw : Region.wanted o (yielded ops a.tmps) = true) {u : TypeId} {x y : Operand} {s r : Bool} (ho : o.op = .binOp .eql 4 x y u) (hx : a.eval x = .bool s) (hy : a.eval y = .bool r) (ht : T.p w (.bool (s == r))) : Gives Tryz.prog ops Q o T a w :=
  g_bin hw ho (v := .bool (s == r)) (by rw [hx, hy]; go_simp) ht
theorem g_neb (hw : Region.wanted o (yielded ops a.tmps) = true) {u : TypeId} {x y : Operand} {s r : Bool} (ho : o.op = .binOp .neq 4 x y u) (hx : a.eval x = .bool s) (hy : a.eval y = .bool r) (ht : T.p w (.bool (s != r))) : Gives Tryz.prog ops Q o T a w :=
  g_bin hw ho (v := .bool (s != r)) (by rw [hx, hy]; go_simp; cases s <;> cases r <;> rfl) ht
theorem g_negI (hw : Region.wanted o (yielded ops a.tmps) = true) {x : Operand} {m r : Int} (ho : o.op = .unOp .neg 3 x) (hx : a.eval x = .int .i64 m) (e : -m = r) (h : -9223372036854775808 ≤ r ∧ r ≤ 9223372036854775807) : Gives Tryz.prog ops Q o (isv (.int .i64 r)) a w :=
  g_run hw (v := .int .i64 r) (by
    unfold execOp
    simp only [ho, hx]
    go_simp
    rw [IntKind.wrap_i64]; omega) (Ext.refl w) rfl
end
end Go.Proofs.YteiacgpaocnofaaGreat
/- The page's set, put together term by term: what is in it so far. -/
namespace Go.Proofs.YteiacgpaocnofaaGreat
set_option maxRecDepth 100000
open Go.RowKit
theorem pair_rise {l : List Tm} (h : l.Pairwise (fun a b => cp a b < 0)) : Rise l := fun j hj => by
  have h1 := List.pairwise_iff_getElem.1 h j (j + 1) (by omega) hj (by omega)
  show cp (l.getD j default) (l.getD (j + 1) default) < 0
  rw [List.getD_eq_getElem?_getD, List.getD_eq_getElem?_getD, List.getElem?_eq_getElem (by omega), List.getElem?_eq_getElem hj]
  exact h1
theorem gt_get {zs : List Tm} {i : Nat} (h : i < zs.length) : gt zs i = zs[i] := by
  show zs.getD i default = _
  rw [List.getD_eq_getElem?_getD, List.getElem?_eq_getElem h]; rfl
/-- One more, at its place. -/
theorem ins_set {l zs : List Tm} {k j : Nat} {x : Tm} (hx : l[k]? = some x) (h : IsSet (l.take k) zs) (hj : j ≤ zs.length) (hlo : ∀ i, i < j → cp (gt zs i) x < 0) (hhi : j < zs.length → ¬ cp (gt zs j) x < 0 ∧ ¬ cp (gt zs j) x = 0) :
    IsSet (l.take (k + 1)) (zs.take j ++ [x] ++ zs.drop j) := by
  have hp := rise_pair h.1
  have hk : k < l.length := (List.getElem?_eq_some_iff.1 hx).1
  have hall : ∀ a ∈ zs.take j, cp a x < 0 := fun a ha => by
    obtain ⟨i, hi, rfl⟩ := List.getElem_of_mem ha
    rw [List.length_take] at hi
    have h1 := hlo i (by omega)
    rw [gt_get (by omega)] at h1
    rw [List.getElem_take]; exact h1
  have hdr : ∀ b ∈ zs.drop j, cp x b < 0 := fun b hb => by
    obtain ⟨i, hi, rfl⟩ := List.getElem_of_mem hb
    rw [List.length_drop] at hi
    rw [List.getElem_drop]
    obtain ⟨h1, h2⟩ := hhi (by omega)
    have h3 := cp_ord.anti x (gt zs j)
    have h4 : cp x (gt zs j) < 0 := by omega
    rw [gt_get (by omega)] at h4
    rcases Nat.eq_zero_or_pos i with hi0 | hi0
    · subst hi0; exact h4
    · have h5 := List.pairwise_iff_getElem.1 hp j (j + i) (by omega) (by omega) (by omega)
      exact (cp_ord.trans _ _ _ (by omega) (by omega)).2.1 h4
  refine ⟨pair_rise ?_, fun t => ?_, ?_⟩
  · rw [List.append_assoc, List.pairwise_append]
    refine ⟨hp.sublist (List.take_sublist _ _), ?_, fun a ha b hb => ?_⟩
    · rw [List.singleton_append, List.pairwise_cons]
      exact ⟨hdr, hp.sublist (List.drop_sublist _ _)⟩
    · rw [List.singleton_append] at hb
      rcases List.mem_cons.1 hb with rfl | hb
      · exact hall a ha
      · have h1 := hall a ha
        have h2 := hdr b hb
        exact (cp_ord.trans _ _ _ (by omega) (by omega)).2.1 h1
  · rw [take_next hx t, ← h.2.1 t]
    have : t ∈ zs ↔ t ∈ zs.take j ∨ t ∈ zs.drop j := by
      rw [← List.mem_append, List.take_append_drop]
    rw [this]
    simp only [List.mem_append, List.mem_singleton]
    constructor
    · rintro ((h1 | h1) | h1)
      · exact .inl (.inl h1)
      · exact .inr h1
      · exact .inl (.inr h1)
    · rintro ((h1 | h1) | h1)
      · exact .inl (.inl h1)
      · exact .inr h1
      · exact .inl (.inr h1)
  · have := h.2.2
    simp only [List.length_append, List.length_take, List.length_drop, List.length_singleton] at this ⊢
    omega
theorem dup_set {l zs : List Tm} {k : Nat} {x : Tm} (hx : l[k]? = some x) (h : IsSet (l.take k) zs) (hm : x ∈ zs) : IsSet (l.take (k + 1)) zs := by
  refine ⟨h.1, fun t => ?_, ?_⟩
  · rw [take_next hx t, ← h.2.1 t]
    constructor
    · exact .inl
    · rintro (h1 | rfl)
      · exact h1
      · exact hm
  · have := h.2.2
    simp only [List.length_take] at this ⊢
    omega
/-- How far the page is. -/
structure RSt (l : List Tm) (w : World) (k : Nat) (zs : List Tm) (sa : Option Addr) (sc : Nat) (wr : World) : Prop where
  v2 : wr.heap[w.heap.size]? = some (.cells #[.int .i64 0, .int .i64 0, .string ⟨#[]⟩, .slice none 0 0] 33 (0, 0))
  v4 : wr.heap[w.heap.size + 1]? = some (.cells #[.int .i64 7, .int .i64 0, .string ⟨#[]⟩, .slice sa zs.length sc] 33 (0, 0))
  row : ∃ xs, wr.ownsRow (w.heap.size + 2) 33 4 (.slice sa zs.length sc) zs.length xs ∧ (∀ u ∈ xs, u.oneCell' = true) ∧ TcAt wr xs zs
  set : IsSet (l.take k) zs
  fit : ∀ j x, j < k → l[j]? = some x → oneB (l.headD default).k x = true
  bel : Below w.heap.size w wr
theorem RSt.flat {l : List Tm} {w wr : World} {k : Nat} {zs : List Tm} {sa : Option Addr} {sc : Nat} (h : RSt l w k zs sa sc wr) : ∀ z ∈ zs, z.l = [] := fun z hz => by
  obtain ⟨i, hi, rfl⟩ := List.getElem_of_mem ((h.set.2.1 z).1 hz)
  rw [List.length_take] at hi
  exact one_flat (h.fit i _ (by omega) (by rw [List.getElem_take]; exact List.getElem?_eq_getElem (by omega)))
theorem RSt.ext {l : List Tm} {w wr w' : World} {k : Nat} {zs : List Tm} {sa : Option Addr} {sc : Nat} (h : RSt l w k zs sa sc wr) (he : Below wr.heap.size wr w') : RSt l w k zs sa sc w' :=
  ⟨Below.heap he (Array.getElem?_eq_some_iff.1 h.v2).1 h.v2, Below.heap he (Array.getElem?_eq_some_iff.1 h.v4).1 h.v4, by obtain ⟨xs, h1, h2, h3⟩ := h.row; exact ⟨xs, row_ext h1 he, h2, h3.ext he⟩, h.set, h.fit, Below.chain h.bel he⟩
theorem RSt.ts {l : List Tm} {w wr : World} {k : Nat} {zs : List Tm} {sa : Option Addr} {sc : Nat} (h : RSt l w k zs sa sc wr) : TsAt wr (.slice sa zs.length sc) zs := by
  obtain ⟨xs, h1, h2, h3⟩ := h.row
  exact ⟨xs, row_cs h1 h2, h3⟩
theorem RSt.lat {l : List Tm} {w wr : World} {k : Nat} {zs : List Tm} {sa : Option Addr} {sc : Nat} (h : RSt l w k zs sa sc wr) : LAt wr zs sa sc := by
  obtain ⟨a, c, e, hL⟩ := h.ts.lat
  injection e with e1 _ e2
  subst e1; subst e2
  exact hL
theorem TcAt.flat {w w' : World} {xs : List Value} {zs : List Tm} (h : TcAt w xs zs) (hf : ∀ z ∈ zs, z.l = []) : TcAt w' xs zs :=
  ⟨h.1, fun i t ht => by
    obtain ⟨a, c, h0, h1, h2, h3, h4⟩ := h.2 i t ht
    have hl := hf t (List.mem_of_getElem? ht)
    exact ⟨a, c, h0, h1, h2, h3, LAt.term (by rw [hl]; exact LAt.nil _ _ _ h4.fits.2.2.2.2) h4.fits⟩⟩
/-- One more is in. -/
theorem RSt.put {l : List Tm} {w wr w3 : World} {k j : Nat} {x : Tm} {zs : List Tm} {sa sa' : Option Addr} {sc sc' : Nat} (h : RSt l w k zs sa sc wr) (ho : OwT wr w3 (.slice sa' (zs.take j ++ [x] ++ zs.drop j).length sc') (zs.take j ++ [x] ++ zs.drop j)) (hset : IsSet (l.take (k + 1)) (zs.take j ++ [x] ++ zs.drop j))
    (hx : l[k]? = some x) (h1 : oneB (l.headD default).k x = true) :
    RSt l w (k + 1) (zs.take j ++ [x] ++ zs.drop j) sa' sc' (w3.setCell ⟨w.heap.size + 1, 3, none⟩ (.slice sa' (zs.take j ++ [x] ++ zs.drop j).length sc')) := by
  have l4 : w.heap.size + 1 < wr.heap.size := (Array.getElem?_eq_some_iff.1 h.v4).1
  have v4 := Below.heap ho.bel l4 h.v4
  have v2 := Below.heap ho.bel (Array.getElem?_eq_some_iff.1 h.v2).1 h.v2
  have hfit : ∀ j' y, j' < k + 1 → l[j']? = some y → oneB (l.headD default).k y = true := fun j' y hj hy => by
    rcases Nat.lt_or_ge j' k with h2 | h2
    · exact h.fit j' y h2 hy
    · have : j' = k := by omega
      subst this
      rw [hx] at hy; cases hy; exact h1
  have hflat : ∀ z ∈ zs.take j ++ [x] ++ zs.drop j, z.l = [] := fun z hz => by
    obtain ⟨i, hi, rfl⟩ := List.getElem_of_mem ((hset.2.1 z).1 hz)
    rw [List.length_take] at hi
    exact one_flat (hfit i _ (by omega) (by rw [List.getElem_take]; exact List.getElem?_eq_getElem (by omega)))
  obtain ⟨xs, r1, r2, r3⟩ := ho.row
  refine ⟨?_, ?_, ⟨xs, ?_, r2, r3.flat hflat⟩, hset, hfit, ?_⟩
  · exact (Below.heap_setCell _ ⟨w.heap.size + 1, 3, none⟩ _ w.heap.size (by show w.heap.size ≠ w.heap.size + 1; omega)).trans v2
  · unfold World.setCell
    simp [Array.getElem?_modify, v4]
  · refine ⟨r1.1, ?_⟩
    rcases r1.2 with h2 | ⟨g, cap, cur, e, hb, hr, hn⟩
    · exact .inl h2
    · exact .inr ⟨g, cap, cur, e, by omega, (Below.heap_setCell _ ⟨w.heap.size + 1, 3, none⟩ _ g (by show g ≠ w.heap.size + 1; omega)).trans hr, hn⟩
  · exact Below.setCell (p := ⟨w.heap.size + 1, 3, none⟩) (Below.chain h.bel ho.bel) (by show w.heap.size ≤ w.heap.size + 1; omega) _
end Go.Proofs.YteiacgpaocnofaaGreat
