/- A region whose last operation stores, and waits for all others, which read and make memory, or write on in memory that the region made: what each of them gives holds behind all of them, in whatever order they come; the store is done last. For any program. -/
import Derived.Test.YtgadglpbbcapcaaTyped3
namespace Go
open Go.RowKit
section
variable {P : Program} {ops : Array Oper} {Q : Exit → Act → World → Prop} {md : Region.Mode}
def planOk4 (md : Region.Mode) (ops : Array Oper) (n : Nat) (olds : List Nat) (pre : List (Nat × Nat)) (plan : List (List (Nat × Nat) × Nat × List Nat)) : Bool :=
  plan.length + 1 == ops.size && ((List.range (ops.size - 1)).all fun i => match ops[i]?, plan[i]? with
    | some o, some p =>
      (match o.dst with | some d => decide (d < n) && (List.range i).all (fun j => dstOf ops j != some d) | none => false) &&
      o.after.all (fun e => !Region.binds md e || decide (e.on < i)) &&
      p.1.all (fun x => (List.range ops.size).any (fun j => dstOf ops j == some x.1 && dep md ops i j && outOf2 plan j == some x.2 && (List.range ops.size).all (fun k => !(killsOf plan k).contains j || k == i || waits (masks md ops ops.size) k i)) ||
        (pre.contains x && (List.range ops.size).all (fun j => dstOf ops j != some x.1 || dep md ops j i || j == i))) &&
      (p.2.2.isEmpty || (List.range ops.size).all (fun j => j == i || waits (masks md ops ops.size) j i || p.2.2.contains j || ((outOf2 plan j).map olds.contains).getD true))
    | _, _ => false) && (match ops[ops.size - 1]? with | some o => o.dst.isNone && o.after.all (fun e => !Region.binds md e || decide (e.on < ops.size - 1)) | none => false) &&
    (List.range (ops.size - 1)).all (fun j => waits (masks md ops ops.size) (ops.size - 1) j)
theorem PInv2.step4 {n : Nat} {pre : List (Nat × Nat)} {olds : List Nat} {plan : List (List (Nat × Nat) × Nat × List Nat)} {tys : Nat → STy} {a0 : Act} {w0 : World} {L : Nat → Prop} {a : Act} {w : World}
    (hp : planOk4 md ops n olds pre plan = true) (hpre : Reads tys w0 a0 pre)
    (holds : ∀ c, olds.contains c = true → ∀ w w' v, Below w0.heap.size w w' → (tys c).p w v → (tys c).p w' v)
    (hok : ∀ (i : Nat) (o : Oper) (p : List (Nat × Nat) × Nat × List Nat), ops[i]? = some o → plan[i]? = some p → OkOne P ops Q tys w0 o p)
    (h : PInv2 md ops n plan tys a0 w0 L a w) {i : Nat} (hi : i + 1 < ops.size) (hn : ¬ L i) (hd : ∀ j, dep md ops i j = true → L j) :
    wpOp P ops Q i (fun a' w' => PInv2 md ops n plan tys a0 w0 (fun j => L j ∨ j = i) a' w') a w := by
  unfold planOk4 at hp
  simp only [Bool.and_eq_true, beq_iff_eq, List.all_eq_true, List.mem_range] at hp
  obtain ⟨⟨⟨hlen, hp⟩, hz⟩, _⟩ := hp
  have hpi := hp i (by omega)
  obtain ⟨o, ho⟩ : ∃ o, ops[i]? = some o := ⟨_, Array.getElem?_eq_getElem (by omega)⟩
  have hzd : dstOf ops (ops.size - 1) = none := by
    unfold dstOf
    cases hq : ops[ops.size - 1]? with
    | none => rfl
    | some q =>
      rw [hq] at hz
      simp only [Bool.and_eq_true, Option.isNone_iff_eq_none] at hz
      exact hz.1
  obtain ⟨p, hpl⟩ : ∃ p, plan[i]? = some p := ⟨_, List.getElem?_eq_getElem (by omega)⟩
  simp only [ho, hpl] at hpi
  obtain ⟨⟨⟨hdst, _⟩, hrs⟩, hkl⟩ := (by simpa only [Bool.and_eq_true] using hpi : ((_ ∧ _) ∧ _) ∧ _)
  obtain ⟨d, hod, hdn, hdd⟩ : ∃ d, o.dst = some d ∧ d < n ∧ ∀ j, j < i → dstOf ops j ≠ some d := by
    cases hod : o.dst with
    | none => rw [hod] at hdst; cases hdst
    | some d =>
      rw [hod] at hdst
      simp only [Bool.and_eq_true, decide_eq_true_eq, List.all_eq_true, List.mem_range, bne_iff_ne] at hdst
      exact ⟨d, rfl, hdst.1, hdst.2⟩
  have hdi : dstOf ops i = some d := by unfold dstOf; rw [ho]; exact hod
  have hne : ∀ j, j ≠ i → dstOf ops j ≠ some d := by
    intro j hji hj
    have hjs : j < ops.size := by
      rcases Nat.lt_or_ge j ops.size with h | h
      · exact h
      · unfold dstOf at hj; rw [Array.getElem?_eq_none h] at hj; cases hj
    rcases Nat.lt_or_ge j i with h | h
    · exact hdd j h hj
    · have hij : i < j := by omega
      obtain ⟨oj, hoj⟩ : ∃ o, ops[j]? = some o := ⟨_, Array.getElem?_eq_getElem hjs⟩
      have hjz : j < ops.size - 1 := by
        rcases Nat.lt_or_ge j (ops.size - 1) with h | h
        · exact h
        · have : j = ops.size - 1 := by omega
          rw [this, hzd] at hj; cases hj
      obtain ⟨pj, hpj⟩ : ∃ p, plan[j]? = some p := ⟨_, List.getElem?_eq_getElem (by omega)⟩
      have hh := hp j hjz
      simp only [hoj, hpj] at hh
      obtain ⟨⟨⟨hdj, _⟩, _⟩, _⟩ := (by simpa only [Bool.and_eq_true] using hh : ((_ ∧ _) ∧ _) ∧ _)
      have : oj.dst = some d := by unfold dstOf at hj; rw [hoj] at hj; exact hj
      rw [this] at hdj
      simp only [Bool.and_eq_true, decide_eq_true_eq, List.all_eq_true, List.mem_range, bne_iff_ne] at hdj
      exact hdj.2 i hij hdi
  have hR : Reads tys w a p.1 := by
    refine Reads.of_mem fun x hx => ?_
    have h1 := List.all_eq_true.1 hrs x hx
    rcases (Bool.or_eq_true _ _).mp h1 with h2 | h2
    · obtain ⟨j, _, hj⟩ := List.any_eq_true.1 h2
      simp only [Bool.and_eq_true, beq_iff_eq, List.all_eq_true, List.mem_range, Bool.or_eq_true, Bool.not_eq_true'] at hj
      refine h.done j _ _ (hd j hj.1.1.2) hj.1.1.1 hj.1.2 fun k hk => ?_
      have hks : k < ops.size ∨ (killsOf plan k).contains j = false := by
        rcases Nat.lt_or_ge k ops.size with hks | hks
        · exact .inl hks
        · refine .inr ?_
          unfold killsOf
          rw [List.getElem?_eq_none (by omega)]
          rfl
      rcases hks with hks | hks
      · rcases hj.2 k hks with (h3 | h3) | h3
        · exact h3
        · exact absurd (h3 ▸ hk) hn
        · exact absurd (masks_spec h.closed ops.size k i hk h3) hn
      · exact hks
    · simp only [Bool.and_eq_true, List.all_eq_true, List.mem_range, Bool.or_eq_true, bne_iff_ne, beq_iff_eq] at h2
      rw [h.old x.1 (fun j hL hj => by
        have hjs : j < ops.size := by
          rcases Nat.lt_or_ge j ops.size with h | h
          · exact h
          · unfold dstOf at hj; rw [Array.getElem?_eq_none h] at hj; cases hj
        rcases h2.2 j hjs with (h3 | h3) | h3
        · exact h3 hj
        · exact hn (h.closed j i hL h3)
        · exact hn (h3 ▸ hL))]
      exact (tys x.2).up h.ext (hpre.mem x (by simpa using h2.1))
  have hki : killsOf plan i = p.2.2 := by unfold killsOf; rw [hpl]; rfl
  have fin : ∀ w' v, Below w0.heap.size w w' → (p.2.2 = [] → Ext w w') → (tys p.2.1).p w' v → PInv2 md ops n plan tys a0 w0 (fun j => L j ∨ j = i) (a.put (some d) v) w' := by
    intro w' v hb hx hT
    refine ⟨Below.trans h.ext hb, ?_, h.defers, ?_, ?_, ?_⟩
    · show (a.tmps.setIfInBounds d v).size = n
      rw [Array.size_setIfInBounds]; exact h.size
    · intro j e c hj hje hjc hnk
      rw [getD_put]
      by_cases hji : j = i
      · subst hji
        rw [hdi] at hje
        cases hje
        rw [if_pos ⟨rfl, by rw [h.size]; exact hdn⟩]
        unfold outOf2 at hjc
        rw [hpl] at hjc
        cases hjc
        exact hT
      · rw [if_neg (fun hh => hne j hji (by rw [hje, hh.1]))]
        have hjL := hj.resolve_right hji
        have hty := h.done j e c hjL hje hjc (fun k hk => hnk k (.inl hk))
        by_cases hke : p.2.2 = []
        · exact (tys c).up (hx hke) hty
        · have hjs : j < ops.size := by
            rcases Nat.lt_or_ge j ops.size with h | h
            · exact h
            · unfold dstOf at hje; rw [Array.getElem?_eq_none h] at hje; cases hje
          simp only [Bool.or_eq_true, List.isEmpty_iff, hke, false_or, List.all_eq_true, List.mem_range] at hkl
          rcases hkl j hjs with ((h3 | h3) | h3) | h3
          · exact absurd (by simpa using h3) hji
          · exact absurd (masks_spec h.closed ops.size j i hjL h3) hn
          · have := hnk i (.inr rfl)
            rw [hki, h3] at this
            cases this
          · rw [hjc] at h3
            exact holds c (by simpa using h3) w w' _ hb hty
    · intro s hs
      rw [getD_put, if_neg (fun hh => hs i (.inr rfl) (by rw [hdi, hh.1]))]
      exact h.old s (fun j hj => hs j (.inl hj))
    · intro j k hj hjk
      rcases hj with hj | rfl
      · exact .inl (h.closed j k hj hjk)
      · exact .inl (hd k hjk)
  have hone := hok i o p ho hpl
  unfold OkOne at hone
  split at hone
  · rename_i hk
    refine wpOp_mono ?_ ((hone a w h.ext hR).op ho)
    rintro a' w' ⟨v, rfl, hx, hT⟩
    rw [hod]
    exact fin w' v (Below.mono hx (Below.size h.ext)) (fun _ => hx) hT
  · rename_i hk
    refine wpOp_mono ?_ ((hone a w h.ext hR).op ho)
    rintro a' w' ⟨v, rfl, hx, hT⟩
    rw [hod]
    exact fin w' v hx (fun e => by rw [e] at hk; cases hk) hT
theorem PInv2.fin4 {os : List Oper} {n : Nat} {pre : List (Nat × Nat)} {olds : List Nat} {plan : List (List (Nat × Nat) × Nat × List Nat)} {tys : Nat → STy} {a0 : Act} {w0 : World} {L : Nat → Prop} {a : Act} {w : World}
    {st : Oper} (hp : planOk4 md (os ++ [st]).toArray n olds pre plan = true) (hn : a0.tmps.size = n) (h : PInv2 md (os ++ [st]).toArray n plan tys a0 w0 L a w) (hall : ∀ j, j < os.length → L j) (hf : FinL (finTys tys) Q w os (finPlan plan plan 0) a0) : Q .normal a w := by
  unfold planOk4 at hp
  simp only [Bool.and_eq_true, beq_iff_eq, List.all_eq_true, List.mem_range] at hp
  obtain ⟨⟨⟨hlen, hp⟩, hz⟩, _⟩ := hp
  have hzs : (os ++ [st]).toArray.size - 1 = os.length := by simp
  have hzo : (os ++ [st]).toArray[os.length]? = some st := by simp
  have hzd : st.dst = none := by
    rw [hzs, hzo] at hz
    simp only [Bool.and_eq_true, Option.isNone_iff_eq_none] at hz
    exact hz.1
  rw [hzs] at hp
  have hl : os.length = (finPlan plan plan 0).length := by unfold finPlan; simp at hlen ⊢; omega
  have hq := fin_fill (b := a) hl (fun i o p ho hpf => by
    obtain ⟨q, hpl, hpq⟩ := finPlan_get plan i p hpf
    have hi : i < os.length := (List.getElem?_eq_some_iff.1 ho).1
    have hpi := hp i hi
    have ho' : (os ++ [st]).toArray[i]? = some o := by
      rw [List.getElem?_toArray, List.getElem?_append_left hi]; exact ho
    simp only [ho', hpl] at hpi
    obtain ⟨⟨⟨hdst, _⟩, _⟩, _⟩ := (by simpa only [Bool.and_eq_true] using hpi : ((_ ∧ _) ∧ _) ∧ _)
    cases hod : o.dst with
    | none => rw [hod] at hdst; cases hdst
    | some d =>
      rw [hpq]
      by_cases hk : plan.any (fun p => p.2.2.contains i) = true
      · rw [if_pos hk]; trivial
      · rw [if_neg hk]
        refine h.done i d q.2.1 (hall i hi) (by unfold dstOf; rw [ho']; exact hod) (by unfold outOf2; rw [hpl]; rfl) fun k _ => ?_
        cases hc : (killsOf plan k).contains i with
        | false => rfl
        | true =>
          exfalso
          apply hk
          unfold killsOf at hc
          cases hpk : plan[k]? with
          | none => rw [hpk] at hc; simp at hc
          | some pk =>
            rw [hpk] at hc
            exact List.any_eq_true.2 ⟨pk, List.mem_of_getElem? hpk, hc⟩) hf
  have he : fillL a os a0 = a := by
    obtain ⟨h1, h2⟩ := fill_size a os a0
    have h3 : (fillL a os a0).tmps = a.tmps := by
      refine Array.ext (by rw [h1, hn, h.size]) fun s hs1 hs2 => ?_
      have hs : s < a0.tmps.size := by rw [hn, ← h.size]; exact hs2
      have key : (fillL a os a0).tmps.getD s undef = a.tmps.getD s undef := by
        obtain ⟨g1, g2⟩ := fill_get a s os a0 hs
        by_cases hex : ∃ o ∈ os, o.dst = some s
        · exact g1 hex
        · rw [g2 (fun o ho hd => hex ⟨o, ho, hd⟩), h.old s]
          intro j _ hj
          unfold dstOf at hj
          cases ho : (os ++ [st]).toArray[j]? with
          | none => rw [ho] at hj; cases hj
          | some o =>
            rw [ho] at hj
            have hm := Array.mem_of_getElem? ho
            rw [List.mem_toArray, List.mem_append, List.mem_singleton] at hm
            rcases hm with hm | rfl
            · exact hex ⟨o, hm, hj⟩
            · simp only [Option.bind_some, hzd] at hj; cases hj
      simpa [Array.getD_eq_getD_getElem?, hs1, hs2] using key
    cases a with
    | mk t d =>
      cases hfa : fillL ⟨t, d⟩ os a0 with
      | mk t' d' =>
        rw [hfa] at h2 h3
        have h4 := h.defers
        simp only at h2 h3 h4
        subst h3
        rw [h2, h4]
  rwa [he] at hq
theorem wp_region_typed4 {os : List Oper} {st : Oper} {id : Nat} {pre : List (Nat × Nat)} {plan : List (List (Nat × Nat) × Nat × List Nat)} {tys : Nat → STy} {a0 : Act} {w0 : World} (hm : P.follows .mixedOrders = true) (olds : List Nat)
    (n : Nat) (hp : planOk4 .any (os ++ [st]).toArray n olds pre plan = true) (hn : a0.tmps.size = n) (holds : ∀ c, olds.contains c = true → ∀ w w' v, Below w0.heap.size w w' → (tys c).p w v → (tys c).p w' v) (hpre : Reads tys w0 a0 pre)
    (hok : ∀ Q', OkL2 P (os ++ [st]).toArray Q' tys w0 os plan) (hfin : ∀ w, Ext w0 w → FinL (finTys tys) (fun _ a w => wpList P (os ++ [st]).toArray Q [st] a w) w os (finPlan plan plan 0) a0) :
    (Code.region id (os ++ [st]).toArray true).wp P Q a0 w0 := by
  have hzs : (os ++ [st]).toArray.size - 1 = os.length := by simp
  have hzo : (os ++ [st]).toArray[os.length]? = some st := by simp
  have hp0 := hp
  unfold planOk4 at hp0
  simp only [Bool.and_eq_true, beq_iff_eq, List.all_eq_true, List.mem_range] at hp0
  obtain ⟨⟨⟨hlen, hpp⟩, hz⟩, hwz⟩ := hp0
  rw [hzs] at hpp hz hwz
  rw [hzo] at hz
  simp only [Bool.and_eq_true] at hz
  have hok' : ∀ (i : Nat) (o : Oper) (p : List (Nat × Nat) × Nat × List Nat), (os ++ [st]).toArray[i]? = some o → plan[i]? = some p → OkOne P (os ++ [st]).toArray Q tys w0 o p := fun i o p ho hpl => by
    have hi : i < os.length := by
      have := (List.getElem?_eq_some_iff.1 hpl).1
      simp at hlen; omega
    refine (hok Q).get i o p ?_ hpl
    rw [List.getElem?_toArray, List.getElem?_append_left hi] at ho
    exact ho
  have I0 : PInv2 .any (os ++ [st]).toArray n plan tys a0 w0 (fun j => (Array.replicate (os ++ [st]).toArray.size false).getD j false = true) a0 w0.drew := (PInv2.start (Ext.drew w0) hn).mono fun j => by
    constructor
    · exact fun h => h.elim
    · intro h
      have h' : (Array.replicate (os ++ [st]).toArray.size false).getD j false = true := h
      rw [getD_replicate_false] at h'; cases h'
  refine wp_region_any hm (any_of_inv (os := os ++ [st]) (I := fun L a w => (¬ L os.length → PInv2 .any (os ++ [st]).toArray n plan tys a0 w0 L a w) ∧ (L os.length → Q .normal a w ∧ ∀ j, j < os.length → L j))
    (fun i o ho e he hb => ?_) (fun L i a w hi hn2 hd hI => ?_) (fun L a w hall hI => (hI.2 (hall _ (by simp))).1) _ _ _ _ (by simp) (by simpa using unl_all (os ++ [st]).length (os ++ [st]).length (Nat.le_refl _)) ⟨fun _ => I0, fun h => ?_⟩)
  · have hi : i < (os ++ [st]).length := (List.getElem?_eq_some_iff.1 ho).1
    rcases Nat.lt_or_ge i os.length with hi2 | hi2
    · have h1 := hpp i hi2
      obtain ⟨p, hpl⟩ : ∃ p, plan[i]? = some p := ⟨_, List.getElem?_eq_getElem (by simp at hlen; omega)⟩
      have ho' : (os ++ [st]).toArray[i]? = some o := by rw [List.getElem?_toArray]; exact ho
      simp only [ho', hpl] at h1
      obtain ⟨⟨⟨_, haf⟩, _⟩, _⟩ := (by simpa only [Bool.and_eq_true] using h1 : ((_ ∧ _) ∧ _) ∧ _)
      have h2 := Array.all_eq_true_iff_forall_mem.1 haf e he
      simpa [hb] using h2
    · have : i = os.length := by simp at hi; omega
      subst this
      have : o = st := by
        have := hzo; rw [List.getElem?_toArray, ho] at this; cases this; rfl
      subst this
      have h2 := Array.all_eq_true_iff_forall_mem.1 hz.2 e he
      simpa [hb] using h2
  · by_cases hiz : i = os.length
    · subst hiz
      have hI1 := hI.1 hn2
      have hall : ∀ j, j < os.length → L j := fun j hj => by
        have h1 := masks_spec (L := fun j => L j ∨ j = os.length) (md := .any) (ops := (os ++ [st]).toArray) (fun a b ha hb => by
          rcases ha with ha | rfl
          · exact .inl (hI1.closed a b ha hb)
          · exact .inl (hd b hb)) (os ++ [st]).toArray.size os.length j (.inr rfl) (hwz j hj)
        rcases h1 with h1 | h1
        · exact h1
        · omega
      have hf := PInv2.fin4 (Q := fun _ a w => wpList P (os ++ [st]).toArray Q [st] a w) hp hn hI1 hall (hfin w hI1.ext)
      have h2 : wpOp P (os ++ [st]).toArray Q os.length (Q .normal) a w := by
        unfold wpOp
        rw [hzo]
        exact hf
      exact wpOp_mono (fun a' w' h => ⟨fun h3 => absurd (.inr rfl) h3, fun _ => ⟨h, fun j hj => .inl (hall j hj)⟩⟩) h2
    · have hlz : ¬ L os.length := fun h => hn2 ((hI.2 h).2 i (by simp at hi; omega))
      have hI1 := hI.1 hlz
      have h1 := hI1.step4 hp hpre holds hok' (i := i) (by simp at hi ⊢; omega) hn2 hd
      exact wpOp_mono (fun a' w' h => ⟨fun _ => h, fun h3 => by
        rcases h3 with h3 | h3
        · exact absurd h3 hlz
        · exact absurd h3.symm hiz⟩) h1
  · have h' : (Array.replicate (os ++ [st]).toArray.size false).getD os.length false = true := h
    rw [getD_replicate_false] at h'; cases h'
/-- A list and its last. -/
inductive Snoc : List Oper → List Oper → Oper → Prop
  | last (o : Oper) : Snoc [o] [] o
  | cons {a : Oper} {l os : List Oper} {st : Oper} (h : Snoc l os st) : Snoc (a :: l) (a :: os) st
theorem Snoc.eq {l os : List Oper} {st : Oper} (h : Snoc l os st) : l = os ++ [st] := by
  induction h with
  | last o => rfl
  | cons _ ih => rw [ih]; rfl
theorem wp_region_typed4s {l os : List Oper} {st : Oper} {id : Nat} {pre : List (Nat × Nat)} {plan : List (List (Nat × Nat) × Nat × List Nat)} {tys : Nat → STy} {a0 : Act} {w0 : World} (hs : Snoc l os st) (hm : P.follows .mixedOrders = true) (olds : List Nat)
    (n : Nat) (hp : planOk4 .any l.toArray n olds pre plan = true) (hn : a0.tmps.size = n) (holds : ∀ c, olds.contains c = true → ∀ w w' v, Below w0.heap.size w w' → (tys c).p w v → (tys c).p w' v) (hpre : Reads tys w0 a0 pre)
    (hok : ∀ Q', OkL2 P l.toArray Q' tys w0 os plan) (hfin : ∀ w, Ext w0 w → FinL (finTys tys) (fun _ a w => wpList P l.toArray Q [st] a w) w os (finPlan plan plan 0) a0) :
    (Code.region id l.toArray true).wp P Q a0 w0 := by
  have e := hs.eq
  subst e
  exact wp_region_typed4 hm olds n hp hn holds hpre hok hfin
end
end Go
