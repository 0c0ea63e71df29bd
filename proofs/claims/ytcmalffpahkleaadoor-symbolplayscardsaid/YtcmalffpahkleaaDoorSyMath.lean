/- Texts and their numbers: what a table with texts of its own knows, and what comes to them. -/
namespace Go.Proofs.YtcmalffpahkleaaDoor
/-- Where a text stands first in a list. -/
def place : List ByteArray → ByteArray → Option Nat
  | [], _ => none
  | x :: l, s => if x = s then some 0 else (place l s).map (· + 1)
theorem place_none {l : List ByteArray} {s : ByteArray} : place l s = none ↔ s ∉ l := by
  induction l with
  | nil => simp [place]
  | cons x l ih =>
    unfold place
    by_cases h : x = s
    · subst h; simp
    · rw [if_neg h]
      simp only [Option.map_eq_none_iff, ih, List.mem_cons, not_or]
      exact ⟨fun k => ⟨fun e => h e.symm, k⟩, fun k => k.2⟩
theorem place_some {l : List ByteArray} {s : ByteArray} {i : Nat} : place l s = some i ↔ l[i]? = some s ∧ ∀ j, j < i → l[j]? ≠ some s := by
  induction l generalizing i with
  | nil => simp [place]
  | cons x l ih =>
    unfold place
    by_cases h : x = s
    · subst h
      rw [if_pos rfl]
      constructor
      · intro e; injection e with e; subst e; exact ⟨rfl, fun j hj => absurd hj (by omega)⟩
      · rintro ⟨_, k⟩
        cases i with
        | zero => rfl
        | succ i => exact absurd rfl (k 0 (by omega))
    · rw [if_neg h]
      cases i with
      | zero =>
        constructor
        · intro e
          cases hp : place l s with
          | none => rw [hp] at e; simp at e
          | some k => rw [hp] at e; simp at e
        · rintro ⟨k, _⟩; simp at k; exact absurd k h
      | succ i =>
        simp only [Option.map_eq_some_iff, Nat.add_right_cancel_iff, exists_eq_right, List.getElem?_cons_succ]
        rw [ih]
        constructor
        · rintro ⟨a, b⟩
          refine ⟨a, fun j hj => ?_⟩
          cases j with
          | zero => simpa using h
          | succ j => simpa using b j (by omega)
        · rintro ⟨a, b⟩
          exact ⟨a, fun j hj => by simpa using b (j + 1) (by omega)⟩
theorem place_mem {l : List ByteArray} {s : ByteArray} (h : s ∈ l) : ∃ i, place l s = some i := by
  cases hp : place l s with
  | none => exact absurd h (place_none.1 hp)
  | some i => exact ⟨i, rfl⟩
theorem place_lt {l : List ByteArray} {s : ByteArray} {i : Nat} (h : place l s = some i) : i < l.length := (List.getElem?_eq_some_iff.1 (place_some.1 h).1).1
theorem place_nodup {l : List ByteArray} (hn : l.Nodup) {s : ByteArray} {i : Nat} (h : l[i]? = some s) : place l s = some i := by
  refine place_some.2 ⟨h, fun j hj e => ?_⟩
  have := (List.getElem?_inj (List.getElem?_eq_some_iff.1 e).1 hn).1 (e.trans h.symm)
  omega
theorem place_app {l : List ByteArray} {s : ByteArray} {i : Nat} (r : List ByteArray) (h : place l s = some i) : place (l ++ r) s = some i := by
  obtain ⟨a, b⟩ := place_some.1 h
  have hi := place_lt h
  refine place_some.2 ⟨by rw [List.getElem?_append_left hi]; exact a, fun j hj => by rw [List.getElem?_append_left (by omega)]; exact b j hj⟩
theorem place_last {l : List ByteArray} {s : ByteArray} (h : s ∉ l) : place (l ++ [s]) s = some l.length := by
  refine place_some.2 ⟨by rw [List.getElem?_append_right (Nat.le_refl _)]; simp, fun j hj e => ?_⟩
  rw [List.getElem?_append_left hj] at e
  exact h (List.mem_iff_getElem?.2 ⟨j, e⟩)
theorem place_app_ne {l : List ByteArray} {s x : ByteArray} (h : s ≠ x) : place (l ++ [x]) s = place l s := by
  cases hp : place l s with
  | none =>
    have := place_none.1 hp
    exact place_none.2 (by simp only [List.mem_append, List.mem_singleton, not_or]; exact ⟨this, h⟩)
  | some i => exact place_app _ hp
/-- The texts that each table knows of itself. -/
def kno : List ByteArray :=
  (⟨#[114, 101, 97, 100]⟩ : ByteArray) :: ⟨#[119, 114, 105, 116, 101]⟩ :: ⟨#[114, 101, 115, 111, 117, 114, 99, 101]⟩ :: ⟨#[111, 112, 101, 114, 97, 116, 105, 111, 110]⟩ :: ⟨#[114, 105, 103, 104, 116]⟩ :: ⟨#[116, 105, 109, 101]⟩ :: ⟨#[114, 111, 108, 101]⟩ :: ⟨#[111, 119, 110, 101, 114]⟩ :: ⟨#[116, 101, 110, 97, 110, 116]⟩ :: ⟨#[117, 115, 101, 114]⟩ :: ⟨#[116, 101, 97, 109]⟩ :: ⟨#[115, 101, 114, 118, 105, 99, 101]⟩ :: ⟨#[97, 100, 109, 105, 110]⟩ :: ⟨#[101, 109, 97, 105, 108]⟩ :: ⟨#[103, 114, 111, 117, 112]⟩ :: ⟨#[109, 101, 109, 98, 101, 114]⟩ :: []
theorem kno_len : kno.length = 16 := rfl
theorem kno_short {s : ByteArray} (h : s ∈ kno) : s.size ≤ 256 := by
  have : ∀ x ∈ kno, x.size ≤ 256 := by decide
  exact this s h
theorem kno_nodup : kno.Nodup := by decide
/-- A table's own texts, as they may be. -/
structure Own (l : List ByteArray) : Prop where
  few : l.length ≤ 1000
  short : ∀ x ∈ l, x.size ≤ 256
  once : l.Nodup
  new : ∀ x ∈ l, x ∉ kno
theorem Own.nil : Own [] := ⟨by simp, by simp, by simp, by simp⟩
/-- The number of a text that is known. -/
def fnd (l : List ByteArray) (s : ByteArray) : Option Nat :=
  match place kno s with
  | some i => some i
  | none => (place l s).map (1024 + ·)
theorem fnd_none {l : List ByteArray} {s : ByteArray} : fnd l s = none ↔ s ∉ kno ∧ s ∉ l := by
  unfold fnd
  cases h : place kno s with
  | some i =>
    simp only [reduceCtorEq, false_iff, not_and]
    intro k; rw [place_none.2 k] at h; cases h
  | none => simp [place_none, place_none.1 h]
theorem Own.snoc {l : List ByteArray} (h : Own l) {s : ByteArray} (hs : s.size ≤ 256) (hf : fnd l s = none) (hl : l.length < 1000) : Own (l ++ [s]) := by
  obtain ⟨h1, h2⟩ := fnd_none.1 hf
  refine ⟨by simp; omega, fun x hx => ?_, ?_, fun x hx => ?_⟩
  · rcases List.mem_append.1 hx with k | k
    · exact h.short x k
    · rw [List.mem_singleton.1 k]; exact hs
  · rw [List.nodup_append]
    refine ⟨h.once, by simp, fun a ha b hb e => ?_⟩
    rw [List.mem_singleton.1 hb] at e
    exact h2 (e ▸ ha)
  · rcases List.mem_append.1 hx with k | k
    · exact h.new x k
    · rw [List.mem_singleton.1 k]; exact h1
theorem Own.known {l : List ByteArray} (h : Own l) {s : ByteArray} {n : Nat} (hf : fnd l s = some n) : s.size ≤ 256 ∧ n < 1024 + l.length := by
  unfold fnd at hf
  cases hk : place kno s with
  | some i =>
    rw [hk] at hf
    simp only [Option.some.injEq] at hf
    subst hf
    have h2 := place_lt hk
    rw [kno_len] at h2
    exact ⟨kno_short (List.mem_iff_getElem?.2 ⟨i, (place_some.1 hk).1⟩), by omega⟩
  | none =>
    rw [hk] at hf
    simp only [Option.map_eq_some_iff] at hf
    obtain ⟨i, hi, rfl⟩ := hf
    exact ⟨h.short _ (List.mem_iff_getElem?.2 ⟨i, (place_some.1 hi).1⟩), by have := place_lt hi; omega⟩
/-- What Number answers, and the table's own texts behind it. -/
def numF (l : List ByteArray) (s : ByteArray) : Int × Bool × List ByteArray :=
  match fnd l s with
  | some n => ((n : Int), true, l)
  | none => if 256 < s.size ∨ 1000 ≤ l.length then (0, false, l) else (1024 + (l.length : Int), true, l ++ [s])
theorem Own.num {l : List ByteArray} (h : Own l) (s : ByteArray) : Own (numF l s).2.2 := by
  unfold numF
  cases hf : fnd l s with
  | some n => exact h
  | none =>
    simp only
    split
    · exact h
    · exact h.snoc (by omega) hf (by omega)
/-- The text of a number. -/
def txtF (l : List ByteArray) (n : Int) : Option ByteArray :=
  if n < 0 then none else if n < 16 then kno[n.toNat]? else if 1024 ≤ n then l[n.toNat - 1024]? else none
/-- What Add leaves. -/
def addF : List ByteArray → List ByteArray → Option (List ByteArray)
  | l, [] => some l
  | l, s :: r => if 256 < s.size ∨ fnd l s ≠ none ∨ 1000 ≤ l.length then none else addF (l ++ [s]) r
theorem Own.add : ∀ {r l : List ByteArray}, Own l → ∀ {l' : List ByteArray}, addF l r = some l' → Own l'
  | [], _, h, _, e => by unfold addF at e; injection e with e; subst e; exact h
  | s :: r, l, h, l', e => by
    unfold addF at e
    split at e
    · cases e
    · rename_i hc
      simp only [not_or, ne_eq, Decidable.not_not] at hc
      exact Own.add (h.snoc (by omega) hc.2.1 (by omega)) e
/-- What is told of a text is told of it still when more have come. -/
theorem fnd_app {l : List ByteArray} {s : ByteArray} {n : Nat} (r : List ByteArray) (h : fnd l s = some n) : fnd (l ++ r) s = some n := by
  unfold fnd at h ⊢
  cases hk : place kno s with
  | some i => rw [hk] at h; exact h
  | none =>
    rw [hk] at h
    simp only [Option.map_eq_some_iff] at h ⊢
    obtain ⟨i, hi, rfl⟩ := h
    exact ⟨i, place_app _ hi, rfl⟩
theorem num_app (l : List ByteArray) (s : ByteArray) : ∃ r, (numF l s).2.2 = l ++ r := by
  unfold numF
  cases hf : fnd l s with
  | some n => exact ⟨[], by simp⟩
  | none =>
    simp only
    split
    · exact ⟨[], by simp⟩
    · exact ⟨[s], rfl⟩
theorem add_app : ∀ {r l l' : List ByteArray}, addF l r = some l' → l' = l ++ r
  | [], _, _, e => by unfold addF at e; injection e with e; subst e; simp
  | s :: r, l, l', e => by
    unfold addF at e
    split at e
    · cases e
    · rw [add_app e]; simp
/-- A number that is told has that text. -/
theorem txt_fnd {l : List ByteArray} {s : ByteArray} {n : Nat} (h : fnd l s = some n) : txtF l (n : Int) = some s := by
  unfold fnd at h
  unfold txtF
  rw [if_neg (by omega)]
  cases hk : place kno s with
  | some i =>
    rw [hk] at h
    simp only [Option.some.injEq] at h
    subst h
    have h2 := place_lt hk
    rw [kno_len] at h2
    rw [if_pos (by omega)]
    simpa using (place_some.1 hk).1
  | none =>
    rw [hk] at h
    simp only [Option.map_eq_some_iff] at h
    obtain ⟨i, hi, rfl⟩ := h
    rw [if_neg (by omega), if_pos (by omega)]
    have : ((1024 + i : Nat) : Int).toNat - 1024 = i := by omega
    rw [this]
    exact (place_some.1 hi).1
/-- What Number told is known behind it. -/
theorem num_fnd {l : List ByteArray} {s : ByteArray} (h : (numF l s).2.1 = true) : ∃ n : Nat, (numF l s).1 = (n : Int) ∧ fnd (numF l s).2.2 s = some n := by
  unfold numF at h ⊢
  cases hf : fnd l s with
  | some n => exact ⟨n, rfl, hf⟩
  | none =>
    rw [hf] at h
    simp only at h ⊢
    by_cases hc : 256 < s.size ∨ 1000 ≤ l.length
    · rw [if_pos hc] at h; cases h
    · rw [if_neg hc]
      refine ⟨1024 + l.length, by simp, ?_⟩
      obtain ⟨h1, h2⟩ := fnd_none.1 hf
      unfold fnd
      rw [place_none.2 h1]
      simp only [place_last h2, Option.map_some]
end Go.Proofs.YtcmalffpahkleaaDoor
