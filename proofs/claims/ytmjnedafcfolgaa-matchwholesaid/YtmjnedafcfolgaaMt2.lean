/- A pattern's steps lead into it; sets of steps, side by side, that are all that can be reached. -/
import Derived.Test.YtmjnedafcfolgaaMt1
namespace Go.Proofs.Ytmjnedafcfolgaa
theorem class_clo {r t : List Nat} {a : List In} (h : classS r = .ok a t) : Clo a := by
  unfold classS at h
  split at h
  · split at h
    · cases h
    · injection h with h1 h2
      subst h1
      exact Clo.one (by show ¬ ((1 : Int) = 2); decide) (by show ¬ ((1 : Int) = 3); decide)
  · split at h
    · cases h
    · injection h with h1 h2
      subst h1
      exact Clo.one (by show ¬ ((1 : Int) = 2); decide) (by show ¬ ((1 : Int) = 3); decide)
theorem clo_char (s : Nat → Nat) : Clo [charI s] := Clo.one (by show ¬ ((1 : Int) = 2); decide) (by show ¬ ((1 : Int) = 3); decide)
theorem clo_only (c : Nat) : Clo [onlyI c] := clo_char _
theorem clo_step {k : Int} (h2 : k ≠ 2) (h3 : k ≠ 3) : Clo [stepI k] := Clo.one h2 h3
/-- A way to read what parentheses hold whose steps lead into it. -/
def Inw (pat : Nat → List Nat → Rd (List In)) : Prop := ∀ d r a t, pat d r = .ok a t → Clo a
theorem atom_clo {pat : Nat → List Nat → Rd (List In)} (hp : Inw pat) {d c : Nat} {t u : List Nat} {a : List In} (h : atomF pat d c t = .ok a u) : Clo a := by
  unfold atomF at h
  split at h
  · unfold escS at h
    split at h
    · cases h
    · injection h with h1 h2; subst h1; exact clo_only _
  split at h
  · injection h with h1 h2; subst h1; exact clo_char _
  split at h
  · exact class_clo h
  split at h
  · unfold groupF at h
    split at h
    · cases h
    · split at h
      · cases h
      · rename_i st r hr
        split at h
        · injection h with h1 h2; subst h1; exact hp _ _ _ _ hr
        · cases h
  split at h
  · injection h with h1 h2; subst h1; exact clo_step (by decide) (by decide)
  split at h
  · injection h with h1 h2; subst h1; exact clo_step (by decide) (by decide)
  split at h
  · cases h
  · injection h with h1 h2; subst h1; exact clo_only _
theorem rep_clo {a : List In} (h : Clo a) (t : List Nat) : Clo (repA a t) := by
  unfold repA
  split
  · exact h.star
  split
  · exact h.plus
  split
  · exact h.opt
  · exact h
theorem row_clo {pat : Nat → List Nat → Rd (List In)} (hp : Inw pat) (d : Nat) : ∀ (f : Nat) (r : List Nat) (a : List In) (t : List Nat), rowF pat d f r = .ok a t → Clo a := by
  intro f
  induction f with
  | zero => intro r a t h; cases h
  | succ f ih =>
    intro r a t h
    unfold rowF at h
    split at h
    · injection h with h1 h2; subst h1; exact Clo.nil
    · split at h
      · injection h with h1 h2; subst h1; exact Clo.nil
      · split at h
        · cases h
        · rename_i x u hx
          split at h
          · cases h
          · rename_i b v hb
            injection h with h1 h2
            subst h1
            exact (rep_clo (atom_clo hp hx) u).app (ih _ _ _ hb)
theorem alt_clo {pat : Nat → List Nat → Rd (List In)} (hp : Inw pat) (d : Nat) : ∀ (f : Nat) (r : List Nat) (a : List In) (t : List Nat), altF pat d f r = .ok a t → Clo a := by
  intro f
  induction f with
  | zero => intro r a t h; cases h
  | succ f ih =>
    intro r a t h
    unfold altF at h
    split at h
    · cases h
    · rename_i x u hx
      have hc := row_clo hp d _ _ _ _ hx
      split at h
      · split at h
        · cases h
        · rename_i b v hb
          injection h with h1 h2
          subst h1
          exact hc.either (ih _ _ _ hb)
      · injection h with h1 h2; subst h1; exact hc
theorem pat_clo : ∀ f, Inw (patF f) := by
  intro f
  induction f with
  | zero => intro d r a t h; cases h
  | succ f ih => intro d r a t h; exact alt_clo ih d _ _ _ _ h
/-- A program: steps that lead into it, and Done. -/
def Pg (l st : List In) : Prop := l = st ++ [stepI 6] ∧ Clo st ∧ st.length ≤ 768
theorem comp_pg {r t : List Nat} {l : List In} (h : comp r = .ok l t) : ∃ st, Pg l st ∧ patF 21 0 r = .ok st [] ∧ t = [] ∧ ¬ 256 < r.length := by
  unfold comp at h
  split at h
  · cases h
  · rename_i hl
    cases hR : patF 21 0 r with
    | bad e => rw [hR] at h; cases h
    | ok x u =>
      rw [hR] at h
      simp only [] at h
      split at h
      · rename_i ht
        subst ht
        injection h with h1 h2
        refine ⟨x, ⟨h1.symm, pat_clo _ _ _ _ _ hR, ?_⟩, rfl, h2.symm, hl⟩
        have := pat_len _ _ _ _ _ hR
        simp at this
        omega
      · cases h
/-- Where a step leads without a byte. -/
def eps (l : List In) (n p i : Nat) : List Nat :=
  match l[i]? with
  | none => []
  | some x => if x.k = 2 then [(x.x + i).toNat, (x.y + i).toNat] else if x.k = 3 then [(x.x + i).toNat] else if x.k = 4 then (if p = 0 then [i + 1] else []) else if x.k = 5 then (if p = n then [i + 1] else []) else []
theorem Pg.split {l st : List In} (h : Pg l st) {i : Nat} {x : In} (hi : l[i]? = some x) (hk : x.k = 2) : ∃ j1 j2 : Nat, x.x + i = j1 ∧ x.y + i = j2 ∧ j1 < l.length ∧ j2 < l.length := by
  obtain ⟨rfl, hc, _⟩ := h
  by_cases h1 : i < st.length
  · rw [List.getElem?_append_left h1] at hi
    have := (hc i x hi).1 hk
    exact ⟨(x.x + i).toNat, (x.y + i).toNat, by omega, by omega, by simp; omega, by simp; omega⟩
  · rw [List.getElem?_append_right (by omega)] at hi
    obtain ⟨_, rfl⟩ := sing hi
    cases hk
theorem Pg.jump {l st : List In} (h : Pg l st) {i : Nat} {x : In} (hi : l[i]? = some x) (hk : x.k = 3) : ∃ j1 : Nat, x.x + i = j1 ∧ j1 < l.length := by
  obtain ⟨rfl, hc, _⟩ := h
  by_cases h1 : i < st.length
  · rw [List.getElem?_append_left h1] at hi
    have := (hc i x hi).2 hk
    exact ⟨(x.x + i).toNat, by omega, by simp; omega⟩
  · rw [List.getElem?_append_right (by omega)] at hi
    obtain ⟨_, rfl⟩ := sing hi
    cases hk
theorem Pg.next {l st : List In} (h : Pg l st) {i : Nat} {x : In} (hi : l[i]? = some x) (hk : x.k ≠ 6) : i + 1 < l.length := by
  obtain ⟨rfl, hc, _⟩ := h
  by_cases h1 : i < st.length
  · simp; omega
  · rw [List.getElem?_append_right (by omega)] at hi
    obtain ⟨_, rfl⟩ := sing hi
    exact absurd rfl hk
theorem eps_split {l : List In} {n p i j1 j2 : Nat} {x : In} (hi : l[i]? = some x) (hk : x.k = 2) (h1 : x.x + i = j1) (h2 : x.y + i = j2) : eps l n p i = [j1, j2] := by
  unfold eps; rw [hi]; simp only []; rw [if_pos hk, h1, h2]; rfl
theorem eps_jump {l : List In} {n p i j1 : Nat} {x : In} (hi : l[i]? = some x) (hk : x.k = 3) (h1 : x.x + i = j1) : eps l n p i = [j1] := by
  unfold eps; rw [hi]; simp only []; rw [if_neg (by omega), if_pos hk, h1]; rfl
theorem eps_fst {l : List In} {n p i : Nat} {x : In} (hi : l[i]? = some x) (hk : x.k = 4) : eps l n p i = if p = 0 then [i + 1] else [] := by
  unfold eps; rw [hi]; simp only []; rw [if_neg (by omega), if_neg (by omega), if_pos hk]
theorem eps_lst {l : List In} {n p i : Nat} {x : In} (hi : l[i]? = some x) (hk : x.k = 5) : eps l n p i = if p = n then [i + 1] else [] := by
  unfold eps; rw [hi]; simp only []; rw [if_neg (by omega), if_neg (by omega), if_neg (by omega), if_pos hk]
theorem eps_none {l : List In} {n p i : Nat} {x : In} (hi : l[i]? = some x) (h2 : x.k ≠ 2) (h3 : x.k ≠ 3) (h4 : x.k ≠ 4) (h5 : x.k ≠ 5) : eps l n p i = [] := by
  unfold eps; rw [hi]; simp only []; rw [if_neg h2, if_neg h3, if_neg h4, if_neg h5]
theorem eps_go {l st : List In} (hp : Pg l st) {s : List Nat} {p i j : Nat} : j ∈ eps l s.length p i ↔ Go1 l s i p j p := by
  constructor
  · intro h
    cases hx : l[i]? with
    | none => unfold eps at h; rw [hx] at h; cases h
    | some x =>
      by_cases h2 : x.k = 2
      · obtain ⟨j1, j2, e1, e2, _, _⟩ := hp.split hx h2
        rw [eps_split hx h2 e1 e2] at h
        simp at h
        rcases h with rfl | rfl
        · exact .spx hx h2 e1.symm
        · exact .spy hx h2 e2.symm
      · by_cases h3 : x.k = 3
        · obtain ⟨j1, e1, _⟩ := hp.jump hx h3
          rw [eps_jump hx h3 e1] at h
          simp at h
          subst h
          exact .jmp hx h3 e1.symm
        · by_cases h4 : x.k = 4
          · rw [eps_fst hx h4] at h
            split at h
            · rename_i h0; simp at h; subst h; exact .fst hx h4 h0
            · cases h
          · by_cases h5 : x.k = 5
            · rw [eps_lst hx h5] at h
              split at h
              · rename_i h0; simp at h; subst h; exact .lst hx h5 h0
              · cases h
            · rw [eps_none hx h2 h3 h4 h5] at h; cases h
  · intro h
    generalize hq : p = q at h
    cases h with
    | spx h1 h2 h3 =>
      obtain ⟨j1, j2, e1, e2, _, _⟩ := hp.split h1 h2
      rw [eps_split h1 h2 e1 e2]
      obtain rfl : j = j1 := by omega
      simp
    | spy h1 h2 h3 =>
      obtain ⟨j1, j2, e1, e2, _, _⟩ := hp.split h1 h2
      rw [eps_split h1 h2 e1 e2]
      obtain rfl : j = j2 := by omega
      simp
    | jmp h1 h2 h3 =>
      obtain ⟨j1, e1, _⟩ := hp.jump h1 h2
      rw [eps_jump h1 h2 e1]
      obtain rfl : j = j1 := by omega
      simp
    | fst h1 h2 h3 => rw [eps_fst h1 h2, if_pos h3]; simp
    | lst h1 h2 h3 => rw [eps_lst h1 h2, if_pos h3]; simp
/-- One step more, unless it is there. -/
def ins (L : List Nat) (i : Nat) : List Nat := if i ∈ L then L else L ++ [i]
def insAll (L : List Nat) (js : List Nat) : List Nat := js.foldl ins L
theorem ins_mem {L : List Nat} {i x : Nat} : x ∈ ins L i ↔ x ∈ L ∨ x = i := by
  unfold ins
  split
  · constructor
    · exact .inl
    · rintro (h | rfl)
      · exact h
      · assumption
  · simp
theorem insAll_mem {js : List Nat} : ∀ {L : List Nat} {x : Nat}, x ∈ insAll L js ↔ x ∈ L ∨ x ∈ js := by
  induction js with
  | nil => intro L x; simp [insAll]
  | cons j js ih =>
    intro L x
    show x ∈ insAll (ins L j) js ↔ _
    rw [ih, ins_mem, List.mem_cons, or_assoc]
theorem ins_pre (L : List Nat) (i : Nat) : ∃ R, ins L i = L ++ R := by
  unfold ins
  split
  · exact ⟨[], by simp⟩
  · exact ⟨[i], rfl⟩
theorem insAll_pre (js : List Nat) : ∀ L : List Nat, ∃ R, insAll L js = L ++ R := by
  induction js with
  | nil => intro L; exact ⟨[], by simp [insAll]⟩
  | cons j js ih =>
    intro L
    obtain ⟨R, hR⟩ := ih (ins L j)
    obtain ⟨Q, hQ⟩ := ins_pre L j
    exact ⟨Q ++ R, by show insAll (ins L j) js = _; rw [hR, hQ, List.append_assoc]⟩
/-- Steps of so many, each once. -/
def Few (N : Nat) (L : List Nat) : Prop := L.Nodup ∧ ∀ x ∈ L, x < N
theorem Few.nil (N : Nat) : Few N [] := ⟨List.nodup_nil, fun x h => by cases h⟩
theorem Few.ins {N : Nat} {L : List Nat} (h : Few N L) {i : Nat} (hi : i < N) : Few N (ins L i) := by
  refine ⟨?_, fun x hx => ?_⟩
  · unfold Go.Proofs.Ytmjnedafcfolgaa.ins
    split
    · exact h.1
    · rename_i hn
      rw [List.nodup_append]
      exact ⟨h.1, by simp, fun a ha b hb => by simp at hb; subst hb; exact fun e => hn (e ▸ ha)⟩
  · rcases ins_mem.1 hx with hx | rfl
    · exact h.2 x hx
    · exact hi
theorem few_len : ∀ (N : Nat) (L : List Nat), Few N L → L.length ≤ N := by
  intro N
  induction N with
  | zero =>
    intro L h
    cases L with
    | nil => simp
    | cons a L => have := h.2 a (by simp); omega
  | succ N ih =>
    intro L h
    have h1 := ih (L.erase N) ⟨h.1.erase _, fun x hx => by
      have h2 := h.2 x (List.mem_of_mem_erase hx)
      have h3 : x ≠ N := fun e => by subst e; exact (List.Nodup.not_mem_erase h.1) hx
      omega⟩
    have h4 := List.length_erase (a := N) (l := L)
    split at h4 <;> omega
theorem Few.room {N : Nat} {L : List Nat} (h : Few N L) {i : Nat} (hi : i < N) (hn : i ∉ L) : L.length < N := by
  have h1 := few_len N _ (h.ins hi)
  unfold Go.Proofs.Ytmjnedafcfolgaa.ins at h1
  rw [if_neg hn] at h1
  simp at h1
  omega
/-- What is reached without a byte. -/
inductive Er (l : List In) (n p : Nat) : Nat → Nat → Prop
  | refl {i : Nat} : Er l n p i i
  | step {i j k : Nat} : Er l n p i j → k ∈ eps l n p j → Er l n p i k
def EC (l : List In) (n p : Nat) (L : List Nat) : Prop := ∀ i ∈ L, ∀ j ∈ eps l n p i, j ∈ L
/-- A row of steps, and with it all that a step leads to without a byte. -/
def Rea (l : List In) (n p : Nat) (L : List Nat) (k : Nat) (M : List Nat) : Prop := EC l n p M ∧ (∀ x ∈ L, x ∈ M) ∧ k ∈ M ∧ ∀ x ∈ M, x ∈ L ∨ Er l n p k x
/-- So far gone through. -/
def Half (l : List In) (n p : Nat) (L : List Nat) (k i : Nat) (M : List Nat) : Prop := (∃ R, M = L ++ R) ∧ k ∈ M ∧ (∀ j, j < i → ∀ a, M[j]? = some a → ∀ b ∈ eps l n p a, b ∈ M) ∧ ∀ x ∈ M, x ∈ L ∨ Er l n p k x
theorem Half.start {l : List In} {n p : Nat} {L : List Nat} (h : EC l n p L) (k : Nat) : Half l n p L k L.length (ins L k) := by
  obtain ⟨R, hR⟩ := ins_pre L k
  refine ⟨⟨R, hR⟩, ins_mem.2 (.inr rfl), fun j hj a ha b hb => ?_, fun x hx => ?_⟩
  · rw [hR, List.getElem?_append_left hj] at ha
    exact ins_mem.2 (.inl (h a (List.mem_of_getElem? ha) b hb))
  · rcases ins_mem.1 hx with hx | rfl
    · exact .inl hx
    · exact .inr .refl
theorem Half.next {l : List In} {n p : Nat} {L M : List Nat} {k i a : Nat} (h : Half l n p L k i M) (hL : EC l n p L) (ha : M[i]? = some a) : Half l n p L k (i + 1) (insAll M (eps l n p a)) := by
  obtain ⟨⟨R, hR⟩, h2, h3, h4⟩ := h
  obtain ⟨Q, hQ⟩ := insAll_pre (eps l n p a) M
  refine ⟨⟨R ++ Q, by rw [hQ, hR, List.append_assoc]⟩, insAll_mem.2 (.inl h2), fun j hj b hb c hc => ?_, fun x hx => ?_⟩
  · have hi := (List.getElem?_eq_some_iff.1 ha).1
    rw [hQ, List.getElem?_append_left (by omega)] at hb
    by_cases hji : j = i
    · subst hji
      rw [ha] at hb
      injection hb with hb
      subst hb
      exact insAll_mem.2 (.inr hc)
    · exact insAll_mem.2 (.inl (h3 j (by omega) b hb c hc))
  · rcases insAll_mem.1 hx with hx | hx
    · exact h4 x hx
    · rcases h4 a (List.mem_of_getElem? ha) with h5 | h5
      · exact .inl (hL a h5 x hx)
      · exact .inr (.step h5 hx)
theorem Half.done {l : List In} {n p : Nat} {L M : List Nat} {k i : Nat} (h : Half l n p L k i M) (hi : M.length ≤ i) : Rea l n p L k M := by
  obtain ⟨⟨R, hR⟩, h2, h3, h4⟩ := h
  refine ⟨fun a ha b hb => ?_, fun x hx => by rw [hR]; exact List.mem_append_left _ hx, h2, h4⟩
  obtain ⟨j, hj⟩ := List.mem_iff_getElem?.1 ha
  exact h3 j (by have := (List.getElem?_eq_some_iff.1 hj).1; omega) a hj b hb
/-- What is reached from where ways begin. -/
inductive Rch (l : List In) (s : List Nat) (St : Nat → Prop) : Nat → Nat → Prop
  | start {p : Nat} : St p → Rch l s St 0 p
  | step {i p j q : Nat} : Rch l s St i p → Go1 l s i p j q → Rch l s St j q
/-- What a step that takes byte number p leads to. -/
def Tk (l : List In) (s : List Nat) (p i : Nat) : Prop := ∃ x c, l[i]? = some x ∧ x.k = 1 ∧ s[p]? = some c ∧ hasS x.s c
/-- All that is reached here, but perhaps for a way that begins here. -/
def Most (l : List In) (s : List Nat) (St : Nat → Prop) (p : Nat) (L : List Nat) : Prop := (∀ i ∈ L, Rch l s St i p) ∧ EC l s.length p L ∧ ∀ i p0, p = p0 + 1 → Rch l s St i p0 → Tk l s p0 i → i + 1 ∈ L
def All (l : List In) (s : List Nat) (St : Nat → Prop) (p : Nat) (L : List Nat) : Prop := ∀ i, i ∈ L ↔ Rch l s St i p
theorem Er.rch {l st : List In} (hp : Pg l st) {s : List Nat} {St : Nat → Prop} {p i j : Nat} (h : Er l s.length p i j) (hi : Rch l s St i p) : Rch l s St j p := by
  induction h with
  | refl => exact hi
  | step _ h ih => exact .step ih ((eps_go hp).1 h)
theorem Most.zero (l : List In) (s : List Nat) (St : Nat → Prop) : Most l s St 0 [] := ⟨fun i h => by (cases h), fun i h => by (cases h), fun i p0 h => by omega⟩
theorem Most.begin {l st : List In} (hp : Pg l st) {s : List Nat} {St : Nat → Prop} {p : Nat} {L M : List Nat} (h : Most l s St p L) (hs : St p) (hr : Rea l s.length p L 0 M) : All l s St p M := by
  have hM : Most l s St p M := by
    refine ⟨fun i hi => ?_, hr.1, fun i p0 e h1 h2 => hr.2.1 _ (h.2.2 i p0 e h1 h2)⟩
    rcases hr.2.2.2 i hi with h1 | h1
    · exact h.1 i h1
    · exact h1.rch hp (.start hs)
  have h0 := hr.2.2.1
  clear h hr
  intro i
  refine ⟨hM.1 i, fun h => ?_⟩
  generalize hq : p = q at h
  induction h with
  | start => exact h0
  | step h1 h2 ih =>
    cases h2 with
    | chr e1 e2 e3 e4 => exact hM.2.2 _ _ hq h1 ⟨_, _, e1, e2, e3, e4⟩
    | spx e1 e2 e3 => subst hq; exact hM.2.1 _ (ih rfl) _ ((eps_go hp).2 (.spx e1 e2 e3))
    | spy e1 e2 e3 => subst hq; exact hM.2.1 _ (ih rfl) _ ((eps_go hp).2 (.spy e1 e2 e3))
    | jmp e1 e2 e3 => subst hq; exact hM.2.1 _ (ih rfl) _ ((eps_go hp).2 (.jmp e1 e2 e3))
    | fst e1 e2 e3 => subst hq; exact hM.2.1 _ (ih rfl) _ ((eps_go hp).2 (.fst e1 e2 e3))
    | lst e1 e2 e3 => subst hq; exact hM.2.1 _ (ih rfl) _ ((eps_go hp).2 (.lst e1 e2 e3))
theorem Most.all {l st : List In} (hp : Pg l st) {s : List Nat} {St : Nat → Prop} {p : Nat} {L : List Nat} (hM : Most l s St p L) (hs : ¬ St p) : All l s St p L := by
  intro i
  refine ⟨hM.1 i, fun h => ?_⟩
  generalize hq : p = q at h
  induction h with
  | start h => subst hq; exact absurd h hs
  | step h1 h2 ih =>
    cases h2 with
    | chr e1 e2 e3 e4 => exact hM.2.2 _ _ hq h1 ⟨_, _, e1, e2, e3, e4⟩
    | spx e1 e2 e3 => subst hq; exact hM.2.1 _ (ih rfl) _ ((eps_go hp).2 (.spx e1 e2 e3))
    | spy e1 e2 e3 => subst hq; exact hM.2.1 _ (ih rfl) _ ((eps_go hp).2 (.spy e1 e2 e3))
    | jmp e1 e2 e3 => subst hq; exact hM.2.1 _ (ih rfl) _ ((eps_go hp).2 (.jmp e1 e2 e3))
    | fst e1 e2 e3 => subst hq; exact hM.2.1 _ (ih rfl) _ ((eps_go hp).2 (.fst e1 e2 e3))
    | lst e1 e2 e3 => subst hq; exact hM.2.1 _ (ih rfl) _ ((eps_go hp).2 (.lst e1 e2 e3))
/-- So many of the steps that were here asked for a byte. -/
def Asked (l : List In) (s : List Nat) (p : Nat) (B : List Nat) (k : Nat) (L : List Nat) : Prop :=
  EC l s.length (p + 1) L ∧ (∀ j, j < k → ∀ i, B[j]? = some i → Tk l s p i → i + 1 ∈ L) ∧ ∀ x ∈ L, ∃ i ∈ B, Tk l s p i ∧ Er l s.length (p + 1) (i + 1) x
theorem Asked.zero (l : List In) (s : List Nat) (p : Nat) (B : List Nat) : Asked l s p B 0 [] := ⟨fun i h => by (cases h), fun j h => by omega, fun i h => by (cases h)⟩
theorem Asked.skip {l : List In} {s : List Nat} {p : Nat} {B : List Nat} {k : Nat} {L : List Nat} (h : Asked l s p B k L) {i : Nat} (hi : B[k]? = some i) (hn : ¬ Tk l s p i) : Asked l s p B (k + 1) L := by
  refine ⟨h.1, fun j hj a ha ht => ?_, h.2.2⟩
  by_cases e : j = k
  · subst e
    rw [hi] at ha
    injection ha with ha
    subst ha
    exact absurd ht hn
  · exact h.2.1 j (by omega) a ha ht
theorem Asked.take {l : List In} {s : List Nat} {p : Nat} {B : List Nat} {k : Nat} {L M : List Nat} (h : Asked l s p B k L) {i : Nat} (hi : B[k]? = some i) (ht : Tk l s p i) (hr : Rea l s.length (p + 1) L (i + 1) M) : Asked l s p B (k + 1) M := by
  refine ⟨hr.1, fun j hj a ha ht2 => ?_, fun x hx => ?_⟩
  · by_cases e : j = k
    · subst e
      rw [hi] at ha
      injection ha with ha
      subst ha
      exact hr.2.2.1
    · exact hr.2.1 _ (h.2.1 j (by omega) a ha ht2)
  · rcases hr.2.2.2 x hx with h1 | h1
    · exact h.2.2 x h1
    · exact ⟨i, List.mem_of_getElem? hi, ht, h1⟩
theorem Asked.most {l st : List In} (hp : Pg l st) {s : List Nat} {St : Nat → Prop} {p : Nat} {B L : List Nat} {k : Nat} (h : Asked l s p B k L) (hk : B.length ≤ k) (hB : All l s St p B) : Most l s St (p + 1) L := by
  refine ⟨fun i hi => ?_, h.1, fun i p0 e h1 h2 => ?_⟩
  · obtain ⟨a, ha, ⟨x, c, e1, e2, e3, e4⟩, h3⟩ := h.2.2 i hi
    exact h3.rch hp (.step ((hB a).1 ha) (.chr e1 e2 e3 e4))
  · obtain rfl : p = p0 := by omega
    obtain ⟨j, hj⟩ := List.mem_iff_getElem?.1 ((hB i).2 h1)
    exact h.2.1 j (by have := (List.getElem?_eq_some_iff.1 hj).1; omega) i hj h2
theorem rch_wn {l : List In} {s : List Nat} {St : Nat → Prop} {i p : Nat} : Rch l s St i p ↔ ∃ p0 n, St p0 ∧ Wn l s n 0 p0 i p := by
  constructor
  · intro h
    induction h with
    | start h => exact ⟨_, 0, h, .nil⟩
    | step _ h ih =>
      obtain ⟨p0, n, h1, h2⟩ := ih
      exact ⟨p0, _, h1, h2.add (Wn.one h)⟩
  · rintro ⟨p0, n, h1, h2⟩
    have : ∀ {n i p j q}, Wn l s n i p j q → Rch l s St i p → Rch l s St j q := by
      intro n i p j q h
      induction h with
      | nil => exact id
      | cons h _ ih => exact fun k => ih (.step k h)
    exact this h2 (.start h1)
theorem Go1.not6 {l : List In} {s : List Nat} {i p j q : Nat} (h : Go1 l s i p j q) (hx : l[i]? = some (stepI 6)) : False := by
  cases h with
  | chr e1 e2 => rw [hx] at e1; injection e1 with e1; subst e1; cases e2
  | spx e1 e2 => rw [hx] at e1; injection e1 with e1; subst e1; cases e2
  | spy e1 e2 => rw [hx] at e1; injection e1 with e1; subst e1; cases e2
  | jmp e1 e2 => rw [hx] at e1; injection e1 with e1; subst e1; cases e2
  | fst e1 e2 => rw [hx] at e1; injection e1 with e1; subst e1; cases e2
  | lst e1 e2 => rw [hx] at e1; injection e1 with e1; subst e1; cases e2
theorem pg_fr {l st : List In} (hp : Pg l st) {s : List Nat} {p q : Nat} : (∃ n, Wn l s n 0 p st.length q) ↔ Fr st s p q := by
  obtain ⟨rfl, hc, _⟩ := hp
  have sa : Sub (st ++ [stepI 6]) 0 st := fun i hi => by rw [Nat.zero_add, List.getElem?_append_left hi]
  constructor
  · rintro ⟨n, h⟩
    obtain ⟨n1, n2, r, w1, w2, _⟩ := Wn.exit hc sa n 0 p _ q (Nat.zero_le _) (.inr (by omega)) h
    rw [Nat.zero_add] at w2
    cases w2 with
    | nil => exact ⟨n1, w1⟩
    | cons g _ =>
      exfalso
      have hd : (st ++ [stepI 6])[st.length]? = some (stepI 6) := by rw [List.getElem?_append_right (Nat.le_refl _), Nat.sub_self]; rfl
      exact g.not6 hd
  · intro h
    obtain ⟨n, w⟩ := h.at sa
    rw [Nat.zero_add] at w
    exact ⟨n, w⟩
/-- What all the steps reached tell. -/
theorem all_done {l st : List In} (hp : Pg l st) {s : List Nat} {St : Nat → Prop} {p : Nat} {L : List Nat} (h : All l s St p L) : st.length ∈ L ↔ ∃ p0, St p0 ∧ Fr st s p0 p := by
  rw [h, rch_wn]
  constructor
  · rintro ⟨p0, n, h1, h2⟩
    exact ⟨p0, h1, (pg_fr hp).1 ⟨n, h2⟩⟩
  · rintro ⟨p0, h1, h2⟩
    obtain ⟨n, h3⟩ := (pg_fr hp).2 h2
    exact ⟨p0, n, h1, h3⟩
end Go.Proofs.Ytmjnedafcfolgaa
