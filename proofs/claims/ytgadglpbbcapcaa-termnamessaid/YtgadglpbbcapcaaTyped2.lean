/- A region whose operations read, make memory, or write on in memory that the region itself has made (bytes behind bytes): what each of them gives, told by what it reads, holds behind all of them, in whatever order they come. For any program. -/
import Derived.Test.YtgadglpbbcapcaaMb
namespace Go
open Go.RowKit
section
variable {P : Program} {ops : Array Oper} {Q : Exit → Act → World → Prop} {md : Region.Mode}
def GivesW (P : Program) (ops : Array Oper) (Q : Exit → Act → World → Prop) (B : Nat) (o : Oper) (T : STy) (a : Act) (w : World) : Prop :=
  Region.wanted o (yielded ops a.tmps) = true ∧ o.wp P a w (fun a' w' => ∃ v, a' = a.put o.dst v ∧ Below B w w' ∧ T.p w' v) Q
theorem GivesW.op {B : Nat} {i : Nat} {o : Oper} {T : STy} {a : Act} {w : World} (hi : ops[i]? = some o) (h : GivesW P ops Q B o T a w) : wpOp P ops Q i (fun a' w' => ∃ v, a' = a.put o.dst v ∧ Below B w w' ∧ T.p w' v) a w := by
  unfold wpOp
  rw [hi]
  simp only [h.1, if_true]
  exact .inl h.2
/-- Whom an operation waits for, through whomever, as bits. -/
def depMask (md : Region.Mode) (ops : Array Oper) (A : List Nat) (k : Nat) : Nat := ((ops[k]?).map fun o => o.after.toList.foldl (fun m e => if Region.binds md e then m ||| (2 ^ e.on ||| A.getD e.on 0) else m) 0).getD 0
def masks (md : Region.Mode) (ops : Array Oper) : Nat → List Nat
  | 0 => []
  | k + 1 => let A := masks md ops k; A ++ [depMask md ops A k]
def waits (M : List Nat) (j i : Nat) : Bool := (M.getD j 0).testBit i
theorem masks_len (k : Nat) : (masks md ops k).length = k := by
  induction k with
  | zero => rfl
  | succ k ih => simp [masks, ih]
theorem fold_bits (A : List Nat) (i : Nat) : ∀ (l : List Edge) (m : Nat), (l.foldl (fun m e => if Region.binds md e then m ||| (2 ^ e.on ||| A.getD e.on 0) else m) m).testBit i = true → m.testBit i = true ∨ ∃ e ∈ l, Region.binds md e = true ∧ (e.on = i ∨ (A.getD e.on 0).testBit i = true)
  | [], m, h => .inl h
  | e :: l, m, h => by
    rw [List.foldl_cons] at h
    rcases fold_bits A i l _ h with h1 | ⟨e', he', h2⟩
    · by_cases hb : Region.binds md e = true
      · rw [if_pos hb, Nat.testBit_or, Nat.testBit_or, Nat.testBit_two_pow] at h1
        simp only [Bool.or_eq_true, decide_eq_true_eq] at h1
        rcases h1 with h1 | h1
        · exact .inl h1
        · exact .inr ⟨e, List.mem_cons_self .., hb, h1⟩
      · rw [if_neg hb] at h1; exact .inl h1
    · exact .inr ⟨e', List.mem_cons_of_mem _ he', h2⟩
theorem masks_spec {L : Nat → Prop} (hc : ∀ j i, L j → dep md ops j i = true → L i) : ∀ n k i, L k → waits (masks md ops n) k i = true → L i := by
  intro n
  induction n with
  | zero => intro k i _ h; simp [waits, masks] at h
  | succ n ih =>
    intro k i hk h
    unfold waits masks at h
    simp only at h
    rcases Nat.lt_or_ge k n with hkn | hkn
    · refine ih k i hk ?_
      unfold waits
      rwa [List.getD_eq_getElem?_getD, List.getElem?_append_left (by rw [masks_len]; exact hkn), ← List.getD_eq_getElem?_getD] at h
    · rw [List.getD_eq_getElem?_getD, List.getElem?_append_right (by rw [masks_len]; exact hkn), masks_len] at h
      rcases Nat.eq_or_lt_of_le hkn with e | e
      · subst e
        rw [Nat.sub_self] at h
        simp only [List.getElem?_cons_zero, Option.getD_some] at h
        unfold depMask at h
        cases ho : ops[n]? with
        | none => rw [ho] at h; simp at h
        | some o =>
          rw [ho] at h
          simp only [Option.map_some, Option.getD_some] at h
          rcases fold_bits _ i _ _ h with h1 | ⟨e, he, hb, h1⟩
          · simp at h1
          · have hd : dep md ops n e.on = true := by
              unfold dep
              rw [ho]
              simp only [Option.map_some, Option.getD_some]
              exact Array.any_eq_true'.2 ⟨e, by simpa using he, by simp [hb]⟩
            have hL := hc n e.on hk hd
            rcases h1 with h1 | h1
            · exact h1 ▸ hL
            · exact ih e.on i hL h1
      · rw [List.getElem?_eq_none (by simp; omega)] at h
        simp at h
def outOf2 (plan : List (List (Nat × Nat) × Nat × List Nat)) (j : Nat) : Option Nat := (plan[j]?).map (·.2.1)
def killsOf (plan : List (List (Nat × Nat) × Nat × List Nat)) (j : Nat) : List Nat := ((plan[j]?).map (·.2.2)).getD []
def planOk2 (md : Region.Mode) (ops : Array Oper) (n : Nat) (olds : List Nat) (pre : List (Nat × Nat)) (plan : List (List (Nat × Nat) × Nat × List Nat)) : Bool :=
  let M := masks md ops ops.size
  plan.length == ops.size && (List.range ops.size).all fun i => match ops[i]?, plan[i]? with
    | some o, some p =>
      (match o.dst with | some d => decide (d < n) && (List.range i).all (fun j => dstOf ops j != some d) | none => false) &&
      o.after.all (fun e => !Region.binds md e || decide (e.on < i)) &&
      p.1.all (fun x => (List.range ops.size).any (fun j => dstOf ops j == some x.1 && dep md ops i j && outOf2 plan j == some x.2 && (List.range ops.size).all (fun k => !(killsOf plan k).contains j || k == i || waits M k i)) ||
        (pre.contains x && (List.range ops.size).all (fun j => dstOf ops j != some x.1 || dep md ops j i || j == i))) &&
      (p.2.2.isEmpty || (List.range ops.size).all (fun j => j == i || waits M j i || p.2.2.contains j || ((outOf2 plan j).map olds.contains).getD true))
    | _, _ => false
structure PInv2 (md : Region.Mode) (ops : Array Oper) (n : Nat) (plan : List (List (Nat × Nat) × Nat × List Nat)) (tys : Nat → STy) (a0 : Act) (w0 : World) (L : Nat → Prop) (a : Act) (w : World) : Prop where
  ext : Ext w0 w
  size : a.tmps.size = n
  defers : a.defers = a0.defers
  done : ∀ j d c, L j → dstOf ops j = some d → outOf2 plan j = some c → (∀ k, L k → (killsOf plan k).contains j = false) → (tys c).p w (a.tmps.getD d undef)
  old : ∀ s, (∀ j, L j → dstOf ops j ≠ some s) → a.tmps.getD s undef = a0.tmps.getD s undef
  closed : ∀ j i, L j → dep md ops j i = true → L i
def OkOne (P : Program) (ops : Array Oper) (Q : Exit → Act → World → Prop) (tys : Nat → STy) (w0 : World) (o : Oper) (p : List (Nat × Nat) × Nat × List Nat) : Prop :=
  match p.2.2 with
  | [] => ∀ a w, Ext w0 w → Reads tys w a p.1 → Gives P ops Q o (tys p.2.1) a w
  | _ :: _ => ∀ a w, Ext w0 w → Reads tys w a p.1 → GivesW P ops Q w0.heap.size o (tys p.2.1) a w
theorem PInv2.step {n : Nat} {pre : List (Nat × Nat)} {olds : List Nat} {plan : List (List (Nat × Nat) × Nat × List Nat)} {tys : Nat → STy} {a0 : Act} {w0 : World} {L : Nat → Prop} {a : Act} {w : World}
    (hp : planOk2 md ops n olds pre plan = true) (hpre : Reads tys w0 a0 pre)
    (holds : ∀ c, olds.contains c = true → ∀ w w' v, Below w0.heap.size w w' → (tys c).p w v → (tys c).p w' v)
    (hok : ∀ (i : Nat) (o : Oper) (p : List (Nat × Nat) × Nat × List Nat), ops[i]? = some o → plan[i]? = some p → OkOne P ops Q tys w0 o p)
    (h : PInv2 md ops n plan tys a0 w0 L a w) {i : Nat} (hi : i < ops.size) (hn : ¬ L i) (hd : ∀ j, dep md ops i j = true → L j) :
    wpOp P ops Q i (fun a' w' => PInv2 md ops n plan tys a0 w0 (fun j => L j ∨ j = i) a' w') a w := by
  unfold planOk2 at hp
  simp only [Bool.and_eq_true, beq_iff_eq, List.all_eq_true, List.mem_range] at hp
  obtain ⟨hlen, hp⟩ := hp
  have hpi := hp i hi
  obtain ⟨o, ho⟩ : ∃ o, ops[i]? = some o := ⟨_, Array.getElem?_eq_getElem hi⟩
  obtain ⟨p, hpl⟩ : ∃ p, plan[i]? = some p := ⟨_, List.getElem?_eq_getElem (by omega)⟩
  simp only [ho, hpl] at hpi
  obtain ⟨⟨⟨hdst, _⟩, hrs⟩, hkl⟩ := (by simpa only [Bool.and_eq_true] using hpi : ((_ ∧ _) ∧ _) ∧ _)
  obtain ⟨d, hod, hdn, hdd⟩ : ∃ d, o.dst = some d ∧ d < n ∧ ∀ j, j < i → dstOf ops j ≠ some d := by
    cases hod : o.dst with
    | none => rw [hod] at hdst; cases hdst
    | some d =>
      rw [hod] at hdst
      simp only [Bool.and_eq_true, decide_eq_true_eq, List.all_eq_true, List.mem_range, bne_iff_ne] at hdst
      exact ⟨d, rfl, hdst.1, hdst.2⟩
  have hdi : dstOf ops i = some d := by unfold dstOf; rw [ho]; exact hod
  have hne : ∀ j, j ≠ i → dstOf ops j ≠ some d := by
    intro j hji hj
    have hjs : j < ops.size := by
      rcases Nat.lt_or_ge j ops.size with h | h
      · exact h
      · unfold dstOf at hj; rw [Array.getElem?_eq_none h] at hj; cases hj
    rcases Nat.lt_or_ge j i with h | h
    · exact hdd j h hj
    · have hij : i < j := by omega
      obtain ⟨oj, hoj⟩ : ∃ o, ops[j]? = some o := ⟨_, Array.getElem?_eq_getElem hjs⟩
      obtain ⟨pj, hpj⟩ : ∃ p, plan[j]? = some p := ⟨_, List.getElem?_eq_getElem (by omega)⟩
      have hh := hp j hjs
      simp only [hoj, hpj] at hh
      obtain ⟨⟨⟨hdj, _⟩, _⟩, _⟩ := (by simpa only [Bool.and_eq_true] using hh : ((_ ∧ _) ∧ _) ∧ _)
      have : oj.dst = some d := by unfold dstOf at hj; rw [hoj] at hj; exact hj
      rw [this] at hdj
      simp only [Bool.and_eq_true, decide_eq_true_eq, List.all_eq_true, List.mem_range, bne_iff_ne] at hdj
      exact hdj.2 i hij hdi
  have hR : Reads tys w a p.1 := by
    refine Reads.of_mem fun x hx => ?_
    have h1 := List.all_eq_true.1 hrs x hx
    rcases (Bool.or_eq_true _ _).mp h1 with h2 | h2
    · obtain ⟨j, _, hj⟩ := List.any_eq_true.1 h2
      simp only [Bool.and_eq_true, beq_iff_eq, List.all_eq_true, List.mem_range, Bool.or_eq_true, Bool.not_eq_true'] at hj
      refine h.done j _ _ (hd j hj.1.1.2) hj.1.1.1 hj.1.2 fun k hk => ?_
      have hks : k < ops.size ∨ (killsOf plan k).contains j = false := by
        rcases Nat.lt_or_ge k ops.size with hks | hks
        · exact .inl hks
        · refine .inr ?_
          unfold killsOf
          rw [List.getElem?_eq_none (by omega)]
          rfl
      rcases hks with hks | hks
      · rcases hj.2 k hks with (h3 | h3) | h3
        · exact h3
        · exact absurd (h3 ▸ hk) hn
        · exact absurd (masks_spec h.closed ops.size k i hk h3) hn
      · exact hks
    · simp only [Bool.and_eq_true, List.all_eq_true, List.mem_range, Bool.or_eq_true, bne_iff_ne, beq_iff_eq] at h2
      rw [h.old x.1 (fun j hL hj => by
        have hjs : j < ops.size := by
          rcases Nat.lt_or_ge j ops.size with h | h
          · exact h
          · unfold dstOf at hj; rw [Array.getElem?_eq_none h] at hj; cases hj
        rcases h2.2 j hjs with (h3 | h3) | h3
        · exact h3 hj
        · exact hn (h.closed j i hL h3)
        · exact hn (h3 ▸ hL))]
      exact (tys x.2).up h.ext (hpre.mem x (by simpa using h2.1))
  have hki : killsOf plan i = p.2.2 := by unfold killsOf; rw [hpl]; rfl
  have fin : ∀ w' v, Below w0.heap.size w w' → (p.2.2 = [] → Ext w w') → (tys p.2.1).p w' v → PInv2 md ops n plan tys a0 w0 (fun j => L j ∨ j = i) (a.put (some d) v) w' := by
    intro w' v hb hx hT
    refine ⟨Below.trans h.ext hb, ?_, h.defers, ?_, ?_, ?_⟩
    · show (a.tmps.setIfInBounds d v).size = n
      rw [Array.size_setIfInBounds]; exact h.size
    · intro j e c hj hje hjc hnk
      rw [getD_put]
      by_cases hji : j = i
      · subst hji
        rw [hdi] at hje
        cases hje
        rw [if_pos ⟨rfl, by rw [h.size]; exact hdn⟩]
        unfold outOf2 at hjc
        rw [hpl] at hjc
        cases hjc
        exact hT
      · rw [if_neg (fun hh => hne j hji (by rw [hje, hh.1]))]
        have hjL := hj.resolve_right hji
        have hty := h.done j e c hjL hje hjc (fun k hk => hnk k (.inl hk))
        by_cases hke : p.2.2 = []
        · exact (tys c).up (hx hke) hty
        · have hjs : j < ops.size := by
            rcases Nat.lt_or_ge j ops.size with h | h
            · exact h
            · unfold dstOf at hje; rw [Array.getElem?_eq_none h] at hje; cases hje
          simp only [Bool.or_eq_true, List.isEmpty_iff, hke, false_or, List.all_eq_true, List.mem_range] at hkl
          rcases hkl j hjs with ((h3 | h3) | h3) | h3
          · exact absurd (by simpa using h3) hji
          · exact absurd (masks_spec h.closed ops.size j i hjL h3) hn
          · have := hnk i (.inr rfl)
            rw [hki, h3] at this
            cases this
          · rw [hjc] at h3
            exact holds c (by simpa using h3) w w' _ hb hty
    · intro s hs
      rw [getD_put, if_neg (fun hh => hs i (.inr rfl) (by rw [hdi, hh.1]))]
      exact h.old s (fun j hj => hs j (.inl hj))
    · intro j k hj hjk
      rcases hj with hj | rfl
      · exact .inl (h.closed j k hj hjk)
      · exact .inl (hd k hjk)
  have hone := hok i o p ho hpl
  unfold OkOne at hone
  split at hone
  · rename_i hk
    refine wpOp_mono ?_ ((hone a w h.ext hR).op ho)
    rintro a' w' ⟨v, rfl, hx, hT⟩
    rw [hod]
    exact fin w' v (Below.mono hx (Below.size h.ext)) (fun _ => hx) hT
  · rename_i hk
    refine wpOp_mono ?_ ((hone a w h.ext hR).op ho)
    rintro a' w' ⟨v, rfl, hx, hT⟩
    rw [hod]
    exact fin w' v hx (fun e => by rw [e] at hk; cases hk) hT
/-- What is to be shown of each operation. -/
def OkL2 (P : Program) (ops : Array Oper) (Q : Exit → Act → World → Prop) (tys : Nat → STy) (w0 : World) : List Oper → List (List (Nat × Nat) × Nat × List Nat) → Prop
  | [], _ => True
  | o :: os, p :: pl => OkOne P ops Q tys w0 o p ∧ OkL2 P ops Q tys w0 os pl
  | _ :: _, [] => False
theorem OkL2.nil {tys : Nat → STy} {w0 : World} {pl : List (List (Nat × Nat) × Nat × List Nat)} : OkL2 P ops Q tys w0 [] pl := trivial
theorem OkL2.cons {tys : Nat → STy} {w0 : World} {o : Oper} {os : List Oper} {rs : List (Nat × Nat)} {c : Nat} {pl : List (List (Nat × Nat) × Nat × List Nat)} (h : ∀ a w, Ext w0 w → Reads tys w a rs → Gives P ops Q o (tys c) a w) (t : OkL2 P ops Q tys w0 os pl) : OkL2 P ops Q tys w0 (o :: os) ((rs, c, []) :: pl) := ⟨h, t⟩
theorem OkL2.wcons {tys : Nat → STy} {w0 : World} {o : Oper} {os : List Oper} {rs : List (Nat × Nat)} {c k : Nat} {ks : List Nat} {pl : List (List (Nat × Nat) × Nat × List Nat)} (h : ∀ a w, Ext w0 w → Reads tys w a rs → GivesW P ops Q w0.heap.size o (tys c) a w) (t : OkL2 P ops Q tys w0 os pl) : OkL2 P ops Q tys w0 (o :: os) ((rs, c, k :: ks) :: pl) := ⟨h, t⟩
theorem OkL2.get {tys : Nat → STy} {w0 : World} : ∀ {os : List Oper} {pl : List (List (Nat × Nat) × Nat × List Nat)}, OkL2 P ops Q tys w0 os pl → ∀ (i : Nat) (o : Oper) (p : List (Nat × Nat) × Nat × List Nat), os[i]? = some o → pl[i]? = some p → OkOne P ops Q tys w0 o p
  | [], _, _, i, o, p, ho, _ => by simp at ho
  | _ :: _, [], h, _, _, _, _, _ => h.elim
  | _ :: _, _ :: _, h, 0, o, p, ho, hp => by cases ho; cases hp; exact h.1
  | _ :: _, _ :: _, h, i + 1, o, p, ho, hp => OkL2.get h.2 i o p ho hp
/-- What is left of the plan behind all: what was written on is nobody's. -/
def finPlan (plan : List (List (Nat × Nat) × Nat × List Nat)) (all : List (List (Nat × Nat) × Nat × List Nat)) : Nat → List (List (Nat × Nat) × Nat)
  | _ => plan.zipIdx.map fun x => ([], if all.any (fun p => p.2.2.contains x.2) then 0 else x.1.2.1 + 1)
def finTys (tys : Nat → STy) : Nat → STy
  | 0 => anyv
  | c + 1 => tys c
theorem finPlan_get (plan : List (List (Nat × Nat) × Nat × List Nat)) (i : Nat) (p : List (Nat × Nat) × Nat) (h : (finPlan plan plan 0)[i]? = some p) : ∃ q, plan[i]? = some q ∧ p.2 = if plan.any (fun p => p.2.2.contains i) then 0 else q.2.1 + 1 := by
  unfold finPlan at h
  rw [List.getElem?_map, List.getElem?_zipIdx] at h
  cases hq : plan[i]? with
  | none => rw [hq] at h; cases h
  | some q =>
    rw [hq] at h
    simp only [Option.map_some, Option.some.injEq, Nat.zero_add] at h
    exact ⟨q, rfl, by rw [← h]⟩
theorem PInv2.fin {os : List Oper} {n : Nat} {pre : List (Nat × Nat)} {olds : List Nat} {plan : List (List (Nat × Nat) × Nat × List Nat)} {tys : Nat → STy} {a0 : Act} {w0 : World} {L : Nat → Prop} {a : Act} {w : World}
    (hp : planOk2 md os.toArray n olds pre plan = true) (hn : a0.tmps.size = n) (h : PInv2 md os.toArray n plan tys a0 w0 L a w) (hall : ∀ j, j < os.length → L j) (hf : FinL (finTys tys) Q w os (finPlan plan plan 0) a0) : Q .normal a w := by
  unfold planOk2 at hp
  simp only [Bool.and_eq_true, beq_iff_eq, List.all_eq_true, List.mem_range] at hp
  obtain ⟨hlen, hp⟩ := hp
  have hl : os.length = (finPlan plan plan 0).length := by unfold finPlan; simp at hlen ⊢; omega
  have hq := fin_fill (b := a) hl (fun i o p ho hpf => by
    obtain ⟨q, hpl, hpq⟩ := finPlan_get plan i p hpf
    have hi : i < os.length := (List.getElem?_eq_some_iff.1 ho).1
    have hpi := hp i (by simpa using hi)
    have ho' : os.toArray[i]? = some o := by simpa using ho
    simp only [ho', hpl] at hpi
    obtain ⟨⟨⟨hdst, _⟩, _⟩, _⟩ := (by simpa only [Bool.and_eq_true] using hpi : ((_ ∧ _) ∧ _) ∧ _)
    cases hod : o.dst with
    | none => rw [hod] at hdst; cases hdst
    | some d =>
      rw [hpq]
      by_cases hk : plan.any (fun p => p.2.2.contains i) = true
      · rw [if_pos hk]; trivial
      · rw [if_neg hk]
        refine h.done i d q.2.1 (hall i hi) (by unfold dstOf; rw [ho']; exact hod) (by unfold outOf2; rw [hpl]; rfl) fun k _ => ?_
        cases hc : (killsOf plan k).contains i with
        | false => rfl
        | true =>
          exfalso
          apply hk
          unfold killsOf at hc
          cases hpk : plan[k]? with
          | none => rw [hpk] at hc; simp at hc
          | some pk =>
            rw [hpk] at hc
            exact List.any_eq_true.2 ⟨pk, List.mem_of_getElem? hpk, hc⟩) hf
  have he : fillL a os a0 = a := by
    obtain ⟨h1, h2⟩ := fill_size a os a0
    have h3 : (fillL a os a0).tmps = a.tmps := by
      refine Array.ext (by rw [h1, hn, h.size]) fun s hs1 hs2 => ?_
      have hs : s < a0.tmps.size := by rw [hn, ← h.size]; exact hs2
      have key : (fillL a os a0).tmps.getD s undef = a.tmps.getD s undef := by
        obtain ⟨g1, g2⟩ := fill_get a s os a0 hs
        by_cases hex : ∃ o ∈ os, o.dst = some s
        · exact g1 hex
        · rw [g2 (fun o ho hd => hex ⟨o, ho, hd⟩), h.old s]
          intro j _ hj
          unfold dstOf at hj
          cases ho : os.toArray[j]? with
          | none => rw [ho] at hj; cases hj
          | some o =>
            rw [ho] at hj
            exact hex ⟨o, by simpa using Array.mem_of_getElem? ho, hj⟩
      simpa [Array.getD_eq_getD_getElem?, hs1, hs2] using key
    cases a with
    | mk t d =>
      cases hfa : fillL ⟨t, d⟩ os a0 with
      | mk t' d' =>
        rw [hfa] at h2 h3
        have h4 := h.defers
        simp only at h2 h3 h4
        subst h3
        rw [h2, h4]
  rwa [he] at hq
theorem PInv2.mono {n : Nat} {plan : List (List (Nat × Nat) × Nat × List Nat)} {tys : Nat → STy} {a0 : Act} {w0 : World} {L L' : Nat → Prop} {a : Act} {w : World} (hL : ∀ j, L j ↔ L' j) (h : PInv2 md ops n plan tys a0 w0 L a w) : PInv2 md ops n plan tys a0 w0 L' a w := by
  have : L = L' := funext fun j => propext (hL j)
  subst this; exact h
theorem any_of_plan2 {os : List Oper} {n : Nat} {pre : List (Nat × Nat)} {olds : List Nat} {plan : List (List (Nat × Nat) × Nat × List Nat)} {tys : Nat → STy} {a0 : Act} {w0 : World}
    (hp : planOk2 md os.toArray n olds pre plan = true) (hn : a0.tmps.size = n) (hpre : Reads tys w0 a0 pre) (holds : ∀ c, olds.contains c = true → ∀ w w' v, Below w0.heap.size w w' → (tys c).p w v → (tys c).p w' v) (hok : OkL2 P os.toArray Q tys w0 os plan) (hfin : ∀ w, Ext w0 w → FinL (finTys tys) Q w os (finPlan plan plan 0) a0) :
    ∀ (fuel : Nat) (listed : Array Bool) (a : Act) (w : World), listed.size = os.length → unl listed os.length = fuel → PInv2 md os.toArray n plan tys a0 w0 (fun j => listed.getD j false = true) a w → wpAny P md os.toArray Q fuel listed a w := by
  have hok' : ∀ (i : Nat) (o : Oper) (p : List (Nat × Nat) × Nat × List Nat), os.toArray[i]? = some o → plan[i]? = some p → OkOne P os.toArray Q tys w0 o p := fun i o p ho hpl => hok.get i o p (by simpa using ho) hpl
  have fin : ∀ (listed : Array Bool) (a : Act) (w : World), listed.size = os.length → PInv2 md os.toArray n plan tys a0 w0 (fun j => listed.getD j false = true) a w → (∀ j, j < os.length → listed.getD j true = true) → Q .normal a w := fun listed a w hsz h hall =>
    h.fin hp hn (fun j hj => by rw [getD_tf (by omega) false true]; exact hall j hj) (hfin w h.ext)
  intro fuel
  induction fuel with
  | zero =>
    intro listed a w hsz hu h
    have hall := unl_zero listed _ hu
    refine ⟨?_, fin listed a w hsz h hall⟩
    cases hr : Region.ready md os.toArray listed with
    | nil => rfl
    | cons i r =>
      have hm : i ∈ Region.ready md os.toArray listed := by rw [hr]; exact List.mem_cons_self ..
      obtain ⟨h1, o, ho, _⟩ := mem_ready.1 hm
      have hi : i < os.length := by simpa using (Array.getElem?_eq_some_iff.1 ho).1
      rw [hall i hi] at h1; cases h1
  | succ fuel ih =>
    intro listed a w hsz hu h
    refine ⟨fun hr => fin listed a w hsz h (fun j => ?_), fun i hi => ?_⟩
    · induction j using Nat.strongRecOn with
      | ind j ihj =>
        intro hj
        cases hlj : listed.getD j true with
        | true => rfl
        | false =>
          exfalso
          have hm : j ∈ Region.ready md os.toArray listed := by
            obtain ⟨o, ho⟩ : ∃ o, os.toArray[j]? = some o := ⟨_, Array.getElem?_eq_getElem (by simpa using hj)⟩
            refine mem_ready.2 ⟨hlj, o, ho, fun e he hb => ?_⟩
            have hp' := hp
            unfold planOk2 at hp'
            simp only [Bool.and_eq_true, beq_iff_eq, List.all_eq_true, List.mem_range] at hp'
            have hpj := hp'.2 j (by simpa using hj)
            obtain ⟨p, hpl⟩ : ∃ p, plan[j]? = some p := ⟨_, List.getElem?_eq_getElem (by have := hp'.1; simp at this; omega)⟩
            simp only [ho, hpl] at hpj
            obtain ⟨⟨⟨_, haf⟩, _⟩, _⟩ := (by simpa only [Bool.and_eq_true] using hpj : ((_ ∧ _) ∧ _) ∧ _)
            have h1 := Array.all_eq_true_iff_forall_mem.1 haf e he
            simp only [hb, Bool.not_true, Bool.false_or, decide_eq_true_eq] at h1
            rw [getD_tf (by omega) false true]
            exact ihj e.on h1 (by omega)
          rw [hr] at hm
          cases hm
    · obtain ⟨h1, o, ho, hall⟩ := mem_ready.1 hi
      have hio : i < os.length := by simpa using (Array.getElem?_eq_some_iff.1 ho).1
      refine wpOp_mono ?_ (h.step hp hpre holds hok' (i := i) (by simpa using hio) (by rw [getD_tf (by omega) false true, h1]; simp) (fun j hj => ?_))
      · intro a' w' h'
        refine ih _ a' w' (by simpa using hsz) ?_ (h'.mono fun j => ?_)
        · have := unl_set listed i (by omega) h1 os.length
          rw [if_pos hio] at this
          omega
        · rw [listed_set _ _ _ _ (by omega)]
          by_cases e : j = i
          · simp [e]
          · simp [e]
      · unfold dep at hj
        rw [ho] at hj
        simp only [Option.map_some, Option.getD_some] at hj
        obtain ⟨e, he, hb⟩ := Array.any_eq_true'.1 hj
        simp only [Bool.and_eq_true, beq_iff_eq] at hb
        rw [← hb.2]
        exact hall e he hb.1
theorem PInv2.start {n : Nat} {plan : List (List (Nat × Nat) × Nat × List Nat)} {tys : Nat → STy} {a0 : Act} {w0 w : World} (hx : Ext w0 w) (hn : a0.tmps.size = n) : PInv2 md ops n plan tys a0 w0 (fun _ => False) a0 w :=
  ⟨hx, hn, rfl, fun _ _ _ h => h.elim, fun _ _ => rfl, fun _ _ h => h.elim⟩
/-- THE REGION THAT DRAWS ITS ORDER. -/
theorem wp_region_typed2 {os : List Oper} {id : Nat} {pre : List (Nat × Nat)} {plan : List (List (Nat × Nat) × Nat × List Nat)} {tys : Nat → STy} {a0 : Act} {w0 : World} (hm : P.follows .mixedOrders = true) (olds : List Nat)
    (n : Nat) (hp : planOk2 .any os.toArray n olds pre plan = true) (hn : a0.tmps.size = n) (holds : ∀ c, olds.contains c = true → ∀ w w' v, Below w0.heap.size w w' → (tys c).p w v → (tys c).p w' v) (hpre : Reads tys w0 a0 pre) (hok : OkL2 P os.toArray Q tys w0 os plan) (hfin : ∀ w, Ext w0 w → FinL (finTys tys) Q w os (finPlan plan plan 0) a0) :
    (Code.region id os.toArray true).wp P Q a0 w0 :=
  wp_region_any hm (any_of_plan2 hp hn hpre holds hok hfin _ _ _ _ (by simp) (by simpa using unl_all os.length os.length (Nat.le_refl _)) ((PInv2.start (Ext.drew w0) hn).mono fun j => by
    constructor
    · exact fun h => h.elim
    · intro h
      rcases Nat.lt_or_ge j os.length with hj | hj
      · simp [hj] at h
      · simp [hj] at h))
end
end Go
