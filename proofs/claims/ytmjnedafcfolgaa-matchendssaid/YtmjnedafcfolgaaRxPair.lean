/- A pattern within parentheses: it is read as it is alone, or it is too deep. -/
import Derived.Test.YtmjnedafcfolgaaRxDeep
namespace Go.Proofs.Ytmjnedafcfolgaa
theorem mem_ext {r t : List Nat} {c : Nat} (h : memberS r = some (c, t)) (u : List Nat) : memberS (r ++ u) = some (c, t ++ u) := by
  unfold memberS at h
  split at h
  · cases h
  · rename_i c' t'
    split at h
    · cases h
    · rename_i n1
      split at h
      · rename_i n2
        split at h
        · cases h
        · rename_i e v
          injection h with h; injection h with e1 e2; subst e1 e2
          show (if c' = 93 then none else if c' = 92 then (match e :: (v ++ u) with | [] => none | e :: u => some (e, u)) else some (c', e :: (v ++ u))) = _
          rw [if_neg n1, if_pos n2]
      · rename_i n2
        injection h with h; injection h with e1 e2; subst e1 e2
        show (if c' = 93 then none else if c' = 92 then (match t' ++ u with | [] => none | e :: u => some (e, u)) else some (c', t' ++ u)) = _
        rw [if_neg n1, if_neg n2]
theorem btw_ext {t : List Nat} (h : t ≠ []) (h2 : t ≠ [45]) (u : List Nat) : btw (t ++ u) = btw t := by
  match t, h, h2 with
  | [], h, _ => exact absurd rfl h
  | [a], _, h2 =>
    have ha : a ≠ 45 := fun e => h2 (by rw [e])
    cases u with
    | nil => rfl
    | cons b u => simp [btw, ha]
  | a :: b :: t, _, _ => rfl
theorem span_ext {r t : List Nat} {lo hi : Nat} (h : spanS r = some (lo, hi, t)) (h1 : t ≠ []) (h2 : t ≠ [45]) (u : List Nat) : spanS (r ++ u) = some (lo, hi, t ++ u) := by
  unfold spanS at h
  split at h
  · cases h
  · rename_i lo' t' hm
    have hm' := mem_ext hm u
    split at h
    · rename_i hb
      obtain ⟨x, v, rfl⟩ := btw_cons hb
      split at h
      · cases h
      · rename_i hi' w hm2
        split at h
        · rename_i hle
          injection h with h; injection h with e1 h; injection h with e2 e3; subst e1 e2 e3
          have hb' : btw ((x :: v) ++ u) = true := by
            rw [btw_ext (by simp) (fun e => by rw [e] at hb; cases hb)]
            exact hb
          have hm2' := mem_ext hm2 u
          unfold spanS
          rw [hm']
          simp only []
          rw [if_pos hb', List.cons_append, List.tail_cons]
          rw [List.tail_cons] at hm2'
          rw [hm2']
          simp only []
          rw [if_pos hle]
        · cases h
    · rename_i hb
      injection h with h; injection h with e1 h; injection h with e2 e3; subst e1 e2 e3
      unfold spanS
      rw [hm']
      simp only []
      rw [btw_ext h1 h2, if_neg hb]
theorem cls_dash (f : Nat) (s : Nat → Nat) : clsF f s [45] = .bad 3 := by
  cases f with
  | zero => rfl
  | succ f =>
    cases f with
    | zero => rfl
    | succ f => rfl
theorem cls_empty (f : Nat) (s : Nat → Nat) : clsF f s [] = .bad 3 := by
  cases f <;> rfl
theorem cls_ext : ∀ (f : Nat) (s s' : Nat → Nat) (r t : List Nat), clsF f s r = .ok s' t → ∀ (f' : Nat) (u : List Nat), f ≤ f' → clsF f' s (r ++ u) = .ok s' (t ++ u) := by
  intro f
  induction f with
  | zero => intro s s' r t h; cases h
  | succ f ih =>
    intro s s' r t h f' u hf
    obtain ⟨f', rfl⟩ : ∃ k, f' = k + 1 := ⟨f' - 1, by omega⟩
    unfold clsF at h
    split at h
    · cases h
    · rename_i lo hi v hs
      split at h
      · rename_i hh
        obtain ⟨x, rfl⟩ := head_of hh
        injection h with e1 e2
        rw [List.tail_cons] at e2
        subst e1 e2
        exact cls_end (span_ext hs (by simp) (by simp) u)
      · rename_i hh
        have n1 : v ≠ [] := fun e => by rw [e, cls_empty] at h; cases h
        have n2 : v ≠ [45] := fun e => by rw [e, cls_dash] at h; cases h
        have h3 := ih _ _ _ _ h f' u (by omega)
        rw [cls_on (span_ext hs n1 n2 u) (by cases v with
          | nil => exact absurd rfl n1
          | cons a v => simpa using hh), h3]
theorem class_ext {r t : List Nat} {a : List In} (h : classS r = .ok a t) (u : List Nat) : classS (r ++ u) = .ok a (t ++ u) := by
  unfold classS at h
  split at h
  · rename_i hh
    obtain ⟨x, rfl⟩ := head_of hh
    split at h
    · cases h
    · rename_i s v hc
      injection h with e1 e2
      subst e1 e2
      rw [List.tail_cons] at hc
      have h3 := cls_ext _ _ _ _ _ hc ((x ++ u).length + 1) u (by simp)
      unfold classS
      rw [List.cons_append, if_pos List.head?_cons, List.tail_cons, h3]
  · rename_i hh
    split at h
    · cases h
    · rename_i s v hc
      injection h with e1 e2
      subst e1 e2
      have hne : r ≠ [] := fun e => by rw [e, cls_empty] at hc; cases hc
      have h3 := cls_ext _ _ _ _ _ hc ((r ++ u).length + 1) u (by simp)
      unfold classS
      rw [if_neg (by cases r with
        | nil => exact absurd rfl hne
        | cons a r => simpa using hh), h3]
/-- Either it is read so, whatever follows its parenthesis, or it is too deep, whatever follows. -/
def Two (F : Nat → List Nat → Rd (List In)) (k : Nat) (a : List In) (t : List Nat) : Prop :=
  (∀ (k' : Nat) (u : List Nat), k ≤ k' → F k' u = .ok a (t ++ 41 :: u)) ∨ ∀ (k' : Nat) (u : List Nat), k ≤ k' → F k' u = .bad 4
/-- So of what is read in parentheses, one deeper. -/
def Deeper (pat pat' : Nat → List Nat → Rd (List In)) (d : Nat) : Prop :=
  ∀ (r : List Nat) (a : List In) (t : List Nat), pat (d + 1) r = .ok a t → d + 1 < 20 → Two (fun _ u => pat' (d + 2) (r ++ 41 :: u)) 0 a t
theorem group_ext {pat pat' : Nat → List Nat → Rd (List In)} {d : Nat} (hp : Deeper pat pat' d) (hd : d < 20) {t u : List Nat} {a : List In} (h : groupF pat d t = .ok a u) : Two (fun _ v => groupF pat' (d + 1) (t ++ 41 :: v)) 0 a u := by
  unfold groupF at h
  split at h
  · cases h
  · split at h
    · cases h
    · rename_i st r hr
      split at h
      · rename_i hh
        obtain ⟨x, rfl⟩ := head_of hh
        injection h with e1 e2
        rw [List.tail_cons] at e2
        subst e1 e2
        by_cases h20 : d + 1 = 20
        · exact .inr (fun _ v _ => by show groupF pat' (d + 1) (t ++ 41 :: v) = _; unfold groupF; rw [if_pos h20])
        · rcases hp t _ _ hr (by omega) with h1 | h1
          · exact .inl (fun _ v _ => grp_ok h20 (by have := h1 0 v (Nat.zero_le _); simpa using this))
          · exact .inr (fun _ v _ => grp_bad h20 (h1 0 v (Nat.zero_le _)))
      · cases h
theorem atom_ext {pat pat' : Nat → List Nat → Rd (List In)} {d : Nat} (hp : Deeper pat pat' d) (hd : d < 20) {c : Nat} {t u : List Nat} {a : List In} (h : atomF pat d c t = .ok a u) : Two (fun _ v => atomF pat' (d + 1) c (t ++ 41 :: v)) 0 a u := by
  unfold atomF at h
  split at h
  · rename_i hc; subst hc
    unfold escS at h
    split at h
    · cases h
    · injection h with e1 e2; subst e1 e2
      exact .inl (fun _ v _ => rfl)
  split at h
  · rename_i hc; subst hc
    injection h with e1 e2; subst e1 e2
    exact .inl (fun _ v _ => rfl)
  split at h
  · rename_i hc; subst hc
    exact .inl (fun _ v _ => class_ext h _)
  split at h
  · rename_i hc; subst hc
    exact group_ext hp hd h
  split at h
  · rename_i hc; subst hc
    injection h with e1 e2; subst e1 e2
    exact .inl (fun _ v _ => rfl)
  split at h
  · rename_i hc; subst hc
    injection h with e1 e2; subst e1 e2
    exact .inl (fun _ v _ => rfl)
  split at h
  · cases h
  · rename_i n1 n2 n3 n4 n5 n6 n7
    injection h with e1 e2; subst e1 e2
    exact .inl (fun _ v _ => by show atomF pat' (d + 1) c (t ++ 41 :: v) = _; unfold atomF; rw [if_neg n1, if_neg n2, if_neg n3, if_neg n4, if_neg n5, if_neg n6, if_neg n7])
theorem rep_ext (a : List In) (t v : List Nat) : repA a (t ++ 41 :: v) = repA a t ∧ repR (t ++ 41 :: v) = repR t ++ 41 :: v := by
  cases t with
  | nil => exact ⟨rfl, rfl⟩
  | cons c t =>
    by_cases h1 : c = 42
    · subst h1; exact ⟨rfl, rfl⟩
    by_cases h2 : c = 43
    · subst h2; exact ⟨rfl, rfl⟩
    by_cases h3 : c = 63
    · subst h3; exact ⟨rfl, rfl⟩
    simp [repA, repR, h1, h2, h3]
theorem row_ext' {pat pat' : Nat → List Nat → Rd (List In)} {d : Nat} (hp : Deeper pat pat' d) (hd : d < 20) : ∀ (k : Nat) (r : List Nat) (a : List In) (t : List Nat), rowF pat d k r = .ok a t → Two (fun k' v => rowF pat' (d + 1) k' (r ++ 41 :: v)) k a t := by
  intro k
  induction k with
  | zero => intro r a t h; cases h
  | succ k ih =>
    intro r a t h
    cases r with
    | nil =>
      rw [row_nil] at h
      injection h with e1 e2; subst e1 e2
      exact .inl (fun k' v hk => by
        obtain ⟨k', rfl⟩ : ∃ q, k' = q + 1 := ⟨k' - 1, by omega⟩
        exact row_stop (.inr rfl))
    | cons c r =>
      by_cases hc : c = 124 ∨ c = 41
      · rw [row_stop hc] at h
        injection h with e1 e2; subst e1 e2
        exact .inl (fun k' v hk => by
          obtain ⟨k', rfl⟩ : ∃ q, k' = q + 1 := ⟨k' - 1, by omega⟩
          exact row_stop hc)
      · rw [rowF, if_neg hc] at h
        cases hx : atomF pat d c r with
        | bad e => rw [hx] at h; cases h
        | ok x w =>
          rw [hx] at h
          simp only [] at h
          cases hb : rowF pat d k (repR w) with
          | bad e => rw [hb] at h; cases h
          | ok b t2 =>
            rw [hb] at h
            simp only [] at h
            injection h with e1 e2; subst e1 e2
            rcases atom_ext hp hd hx with h1 | h1
            · rcases ih _ _ _ hb with h2 | h2
              · exact .inl (fun k' v hk => by
                  obtain ⟨k', rfl⟩ : ∃ q, k' = q + 1 := ⟨k' - 1, by omega⟩
                  have h3 := h1 0 v (Nat.zero_le _)
                  have h4 := h2 k' v (by omega)
                  simp only [] at h3 h4 ⊢
                  rw [List.cons_append, rowF, if_neg hc, h3]
                  simp only []
                  rw [(rep_ext x w v).1, (rep_ext x w v).2, h4])
              · exact .inr (fun k' v hk => by
                  obtain ⟨k', rfl⟩ : ∃ q, k' = q + 1 := ⟨k' - 1, by omega⟩
                  have h3 := h1 0 v (Nat.zero_le _)
                  have h4 := h2 k' v (by omega)
                  simp only [] at h3 h4 ⊢
                  rw [List.cons_append, rowF, if_neg hc, h3]
                  simp only []
                  rw [(rep_ext x w v).2, h4])
            · exact .inr (fun k' v hk => by
                obtain ⟨k', rfl⟩ : ∃ q, k' = q + 1 := ⟨k' - 1, by omega⟩
                exact row_bad hc (h1 0 v (Nat.zero_le _)))
theorem alt_ext {pat pat' : Nat → List Nat → Rd (List In)} {d : Nat} (hp : Deeper pat pat' d) (hd : d < 20) : ∀ (k : Nat) (r : List Nat) (a : List In) (t : List Nat), altF pat d k r = .ok a t → Two (fun k' v => altF pat' (d + 1) k' (r ++ 41 :: v)) k a t := by
  intro k
  induction k with
  | zero => intro r a t h; cases h
  | succ k ih =>
    intro r a t h
    cases hx : rowF pat d (r.length + 1) r with
    | bad e => rw [alt_bad hx] at h; cases h
    | ok x w =>
      have hR := row_ext' hp hd _ _ _ _ hx
      by_cases hw : w.head? = some 124
      · obtain ⟨w', rfl⟩ := head_of hw
        rw [altF, hx] at h
        simp only [List.head?_cons, if_true, List.tail_cons] at h
        cases hb : altF pat d k w' with
        | bad e => rw [hb] at h; cases h
        | ok b t2 =>
          rw [hb] at h
          simp only [] at h
          injection h with e1 e2; subst e1 e2
          rcases hR with h1 | h1
          · rcases ih _ _ _ hb with h2 | h2
            · exact .inl (fun k' v hk => by
                obtain ⟨k', rfl⟩ : ∃ q, k' = q + 1 := ⟨k' - 1, by omega⟩
                have h3 := h1 ((r ++ 41 :: v).length + 1) v (by simp)
                have h4 := h2 k' v (by omega)
                simp only [] at h3 h4 ⊢
                rw [altF, h3]
                simp only [List.cons_append, List.head?_cons, if_true, List.tail_cons]
                rw [h4])
            · exact .inr (fun k' v hk => by
                obtain ⟨k', rfl⟩ : ∃ q, k' = q + 1 := ⟨k' - 1, by omega⟩
                have h3 := h1 ((r ++ 41 :: v).length + 1) v (by simp)
                have h4 := h2 k' v (by omega)
                simp only [] at h3 h4 ⊢
                rw [altF, h3]
                simp only [List.cons_append, List.head?_cons, if_true, List.tail_cons]
                rw [h4])
          · exact .inr (fun k' v hk => by
              obtain ⟨k', rfl⟩ : ∃ q, k' = q + 1 := ⟨k' - 1, by omega⟩
              exact alt_bad (h1 _ v (by simp)))
      · rw [alt_last hx hw] at h
        injection h with e1 e2; subst e1 e2
        rcases hR with h1 | h1
        · exact .inl (fun k' v hk => by
            obtain ⟨k', rfl⟩ : ∃ q, k' = q + 1 := ⟨k' - 1, by omega⟩
            refine alt_last (h1 _ v (by simp)) ?_
            cases w with
            | nil => simp
            | cons c w => simpa using hw)
        · exact .inr (fun k' v hk => by
            obtain ⟨k', rfl⟩ : ∃ q, k' = q + 1 := ⟨k' - 1, by omega⟩
            exact alt_bad (h1 _ v (by simp)))
theorem pat_ext : ∀ (f d : Nat), f + d = 19 → ∀ (r : List Nat) (a : List In) (t : List Nat), patF (f + 2) d r = .ok a t → Two (fun _ u => patF (f + 1) (d + 1) (r ++ 41 :: u)) 0 a t := by
  intro f
  induction f with
  | zero =>
    intro d hd r a t h
    have hp : Deeper (patF 1) (patF 0) d := fun _ _ _ _ h2 => by omega
    rcases alt_ext hp (by omega) _ _ _ _ h with h1 | h1
    · exact .inl (fun _ u _ => h1 _ u (by simp))
    · exact .inr (fun _ u _ => h1 _ u (by simp))
  | succ f ih =>
    intro d hd r a t h
    have hp : Deeper (patF (f + 2)) (patF (f + 1)) d := fun r a t h1 _ => ih (d + 1) (by omega) r a t h1
    rcases alt_ext hp (by omega) _ _ _ _ h with h1 | h1
    · exact .inl (fun _ u _ => h1 _ u (by simp))
    · exact .inr (fun _ u _ => h1 _ u (by simp))
end Go.Proofs.Ytmjnedafcfolgaa
