/- Numbers as bytes of seven bits, and fields of messages as bytes: what is written is read, what is read is written so. -/
import Derived.Test.YtogegmdimfinaaaRows
namespace Go.Proofs.Ytogegmdimfinaaa
/-- The bytes of a number, seven bits each, the lowest first. -/
def vb : Nat → Nat → List Nat
  | 0, n => [n]
  | k + 1, n => if n < 128 then [n] else (n % 128 + 128) :: vb k (n / 128)
def vbn (n : Nat) : List Nat := vb 9 n
/-- What reading a number tells. -/
inductive Rd where
  | bad (e : Nat)
  | ok (n k : Nat)
def rv : Nat → Nat → List Nat → Rd
  | _, _, [] => .bad 2
  | i, acc, c :: t => if i = 9 ∧ 1 < c then .bad 3 else if 0 < i ∧ c = 0 then .bad 3 else if c < 128 then .ok (acc + c * 128 ^ i) (i + 1) else rv (i + 1) (acc + c % 128 * 128 ^ i) t
theorem vb_pos (k n : Nat) : 0 < (vb k n).length := by
  cases k with
  | zero => simp [vb]
  | succ k => unfold vb; split <;> simp
theorem vb_le : ∀ (k n : Nat), (vb k n).length ≤ k + 1
  | 0, n => by simp [vb]
  | k + 1, n => by
    unfold vb
    split
    · simp
    · have := vb_le k (n / 128); simp; omega
theorem vbn_le (n : Nat) : (vbn n).length ≤ 10 := vb_le 9 n
theorem vbn_pos (n : Nat) : 0 < (vbn n).length := vb_pos 9 n
theorem pow_step (i : Nat) (hi : i ≤ 8) (x : Nat) (hx : x < 2 ^ (64 - 7 * i)) : x / 128 < 2 ^ (64 - 7 * (i + 1)) := by
  rw [Nat.div_lt_iff_lt_mul (by decide), show (128 : Nat) = 2 ^ 7 from rfl, ← Nat.pow_add, show 64 - 7 * (i + 1) + 7 = 64 - 7 * i by omega]
  exact hx
theorem vb_lim : ∀ (k i x : Nat), i + k = 9 → x < 2 ^ (64 - 7 * i) → ∀ c ∈ vb k x, c < 256
  | 0, i, x, h, hx, c, hc => by
    obtain rfl : i = 9 := by omega
    simp [vb] at hc; subst hc
    simp at hx; omega
  | k + 1, i, x, h, hx, c, hc => by
    unfold vb at hc
    split at hc
    · simp at hc; omega
    · rcases List.mem_cons.1 hc with e | e
      · omega
      · exact vb_lim k (i + 1) (x / 128) (by omega) (pow_step i (by omega) x hx) c e
theorem rv_vb : ∀ (k i acc x : Nat) (t : List Nat), i + k = 9 → x < 2 ^ (64 - 7 * i) → (0 < i → 0 < x) → rv i acc (vb k x ++ t) = .ok (acc + x * 128 ^ i) (i + (vb k x).length)
  | 0, i, acc, x, t, h, hx, h0 => by
    obtain rfl : i = 9 := by omega
    have := h0 (by decide)
    have hx2 : x < 2 := by simpa using hx
    simp only [vb, List.cons_append, rv]
    rw [if_neg (by omega), if_neg (by omega), if_pos (by omega)]
    simp
  | k + 1, i, acc, x, t, h, hx, h0 => by
    unfold vb
    by_cases hlt : x < 128
    · rw [if_pos hlt]
      simp only [List.cons_append, rv]
      rw [if_neg (by omega), if_neg (fun ⟨h1, h2⟩ => by have := h0 h1; omega), if_pos hlt]
      simp
    · rw [if_neg hlt]
      simp only [List.cons_append, rv]
      rw [if_neg (by omega), if_neg (by omega), if_neg (by omega), rv_vb k (i + 1) _ (x / 128) t (by omega) (pow_step i (by omega) x hx) (fun _ => by omega)]
      rw [List.length_cons, Rd.ok.injEq]
      refine ⟨?_, by omega⟩
      rw [show (x % 128 + 128) % 128 = x % 128 by omega, Nat.pow_succ, Nat.add_assoc, show x / 128 * (128 ^ i * 128) = (128 * (x / 128)) * 128 ^ i by rw [Nat.mul_comm (128 ^ i) 128, ← Nat.mul_assoc, Nat.mul_comm (x / 128) 128], ← Nat.add_mul]
      congr 2; omega
theorem rv_short : ∀ (k i acc x j : Nat), i + k = 9 → x < 2 ^ (64 - 7 * i) → (0 < i → 0 < x) → j < (vb k x).length → rv i acc ((vb k x).take j) = .bad 2
  | k, i, acc, x, 0, _, _, _, _ => by rw [List.take_zero, rv]
  | 0, i, acc, x, j + 1, h, hx, h0, hj => by simp [vb] at hj
  | k + 1, i, acc, x, j + 1, h, hx, h0, hj => by
    unfold vb at hj ⊢
    by_cases hlt : x < 128
    · rw [if_pos hlt] at hj; simp at hj
    · rw [if_neg hlt] at hj ⊢
      simp only [List.take_succ_cons, rv]
      rw [if_neg (by omega), if_neg (by omega), if_neg (by omega)]
      exact rv_short k (i + 1) _ (x / 128) j (by omega) (pow_step i (by omega) x hx) (fun _ => by omega) (by simpa using hj)
theorem rv_back : ∀ (l : List Nat) (i acc n k : Nat), (∀ c ∈ l, c < 256) → i ≤ 9 → rv i acc l = .ok n k →
    ∃ x, i < k ∧ k - i ≤ l.length ∧ n = acc + x * 128 ^ i ∧ x < 2 ^ (64 - 7 * i) ∧ (0 < i → 0 < x) ∧ l.take (k - i) = vb (9 - i) x
  | [], i, acc, n, k, _, _, h => by simp [rv] at h
  | c :: t, i, acc, n, k, hl, hi, h => by
    have hc := hl c (by simp)
    unfold rv at h
    split at h
    · cases h
    · rename_i h9
      split at h
      · cases h
      · rename_i hz
        split at h
        · rename_i hlt
          injection h with h1 h2
          refine ⟨c, by omega, by rw [← h2]; simp, h1.symm, ?_, fun h3 => by omega, ?_⟩
          · by_cases e : i = 9
            · subst e; have : c ≤ 1 := by omega
              simp; omega
            · refine Nat.lt_of_lt_of_le (show c < 2 ^ 8 by omega) (Nat.pow_le_pow_right (by decide) (by omega))
          · rw [← h2, show i + 1 - i = 1 by omega]
            cases hq : 9 - i with
            | zero => simp [vb]
            | succ q => simp [vb, hlt]
        · rename_i hge
          have h9' : i ≠ 9 := fun e => by subst e; omega
          obtain ⟨x, e1, e2, e3, e4, e5, e6⟩ := rv_back t (i + 1) _ n k (fun c hc => hl c (by simp [hc])) (by omega) h
          have hx := e5 (by omega)
          refine ⟨c % 128 + 128 * x, by omega, by simp; omega, ?_, ?_, fun _ => by omega, ?_⟩
          · rw [e3, Nat.pow_succ, Nat.add_mul, Nat.add_assoc]
            congr 2
            rw [Nat.mul_comm (128 ^ i) 128, ← Nat.mul_assoc, Nat.mul_comm x 128]
          · have h3 : 2 ^ (64 - 7 * i) = 128 * 2 ^ (64 - 7 * (i + 1)) := by
              rw [show (128 : Nat) = 2 ^ 7 from rfl, ← Nat.pow_add]; congr 1; omega
            rw [h3]
            generalize 2 ^ (64 - 7 * (i + 1)) = P at e4
            omega
          · rw [show k - i = (k - (i + 1)) + 1 by omega, List.take_succ_cons, e6, show 9 - i = (9 - (i + 1)) + 1 by omega, vb, if_neg (by omega)]
            congr 1
            · omega
            · congr 1; omega
theorem rv_bad : ∀ (l : List Nat) (i acc e : Nat), rv i acc l = .bad e → e = 2 ∨ e = 3
  | [], i, acc, e, h => by rw [rv] at h; injection h with h; exact .inl h.symm
  | c :: t, i, acc, e, h => by
    rw [rv] at h
    split at h
    · injection h with h; exact .inr h.symm
    · split at h
      · injection h with h; exact .inr h.symm
      · split at h
        · cases h
        · exact rv_bad t _ _ e h
theorem rv_size : ∀ (l : List Nat) (i acc n k : Nat), rv i acc l = .ok n k → i < k ∧ k - i ≤ l.length
  | [], i, acc, n, k, h => by rw [rv] at h; cases h
  | c :: t, i, acc, n, k, h => by
    rw [rv] at h
    split at h
    · cases h
    · split at h
      · cases h
      · split at h
        · injection h with h1 h2; simp only [List.length_cons]; omega
        · have := rv_size t _ _ n k h; simp only [List.length_cons]; omega
/-- A field: a number, or bytes. -/
structure Fld where
  num : Nat
  whole : Bool
  n : Nat
  b : List Nat
def limB (l : List Nat) : Prop := ∀ c ∈ l, c < 256
structure Fld.Ok (f : Fld) : Prop where
  lo : 1 ≤ f.num
  hi : f.num ≤ 100
  n : f.n < 18446744073709551616
  len : f.b.length < 18446744073709551616
  lim : limB f.b
  num0 : f.whole = true → f.n = 0
  b0 : f.whole = false → f.b = []
/-- Its bytes. -/
def Fld.enc (f : Fld) : List Nat := if f.whole = true then vbn (8 * f.num + 2) ++ vbn f.b.length ++ f.b else vbn (8 * f.num) ++ vbn f.n
inductive R1 where
  | bad (e : Nat)
  | ok (f : Fld) (t : List Nat)
/-- What is read behind a tag. -/
def fld2 (num wire : Nat) (l : List Nat) : R1 :=
  match rv 0 0 l with
  | .bad e => .bad e
  | .ok n k => if wire = 0 then .ok ⟨num, false, n, []⟩ (l.drop k) else if (l.drop k).length < n then .bad 2 else .ok ⟨num, true, 0, (l.drop k).take n⟩ ((l.drop k).drop n)
def fld1 (l : List Nat) : R1 :=
  match rv 0 0 l with
  | .bad e => .bad e
  | .ok tag k => if (tag / 8 < 1 ∨ 100 < tag / 8) ∨ (tag % 8 ≠ 0 ∧ tag % 8 ≠ 2) then .bad 3 else fld2 (tag / 8) (tag % 8) (l.drop k)
inductive Rs where
  | bad (e : Nat)
  | ok (fs : List Fld)
def Rs.behind (A : List Fld) : Rs → Rs
  | .bad e => .bad e
  | .ok fs => .ok (A ++ fs)
def flds : Nat → List Nat → Rs
  | _, [] => .ok []
  | 0, _ :: _ => .bad 0
  | m + 1, c :: t =>
    match fld1 (c :: t) with
    | .bad e => .bad e
    | .ok f r => (flds m r).behind [f]
theorem rv_enc (n : Nat) (t : List Nat) (h : n < 18446744073709551616) : rv 0 0 (vbn n ++ t) = .ok n (vbn n).length := by
  have := rv_vb 9 0 0 n t rfl h (fun h => absurd h (by decide))
  unfold vbn
  simpa using this
theorem rv_cut (n j : Nat) (h : n < 18446744073709551616) (hj : j < (vbn n).length) : rv 0 0 ((vbn n).take j) = .bad 2 :=
  rv_short 9 0 0 n j rfl h (fun h => absurd h (by decide)) hj
theorem rv_dec {l : List Nat} {n k : Nat} (hl : limB l) (h : rv 0 0 l = .ok n k) : n < 18446744073709551616 ∧ k = (vbn n).length ∧ l = vbn n ++ l.drop k ∧ k ≤ l.length := by
  obtain ⟨x, e1, e2, e3, e4, _, e6⟩ := rv_back l 0 0 n k hl (by decide) h
  have hx : n = x := by simpa using e3
  subst hx
  simp only [Nat.sub_zero] at e2 e6
  have e7 : l.take k = vbn n := e6
  refine ⟨e4, ?_, ?_, e2⟩
  · rw [← e7, List.length_take]; omega
  · rw [← e7, List.take_append_drop]
theorem limB_drop {l : List Nat} (h : limB l) (k : Nat) : limB (l.drop k) := fun c hc => h c (List.mem_of_mem_drop hc)
theorem limB_take {l : List Nat} (h : limB l) (k : Nat) : limB (l.take k) := fun c hc => h c (List.mem_of_mem_take hc)
theorem limB_app {a b : List Nat} (ha : limB a) (hb : limB b) : limB (a ++ b) := fun c hc => (List.mem_append.1 hc).elim (ha c) (hb c)
theorem limB_vbn {n : Nat} (h : n < 18446744073709551616) : limB (vbn n) := vb_lim 9 0 n rfl h
theorem Fld.Ok.limE {f : Fld} (h : f.Ok) : limB f.enc := by
  have := h.hi
  unfold Fld.enc
  split
  · exact limB_app (limB_app (limB_vbn (by omega)) (limB_vbn h.len)) h.lim
  · exact limB_app (limB_vbn (by omega)) (limB_vbn h.n)
theorem fld1_enc {f : Fld} (h : f.Ok) (t : List Nat) : fld1 (f.enc ++ t) = .ok f t := by
  have h1 := h.lo
  have h2 := h.hi
  obtain ⟨num, whole, n, b⟩ := f
  unfold Fld.enc fld1
  dsimp only
  cases whole with
  | true =>
    have hn := h.num0 rfl
    have hb := h.len
    simp only at h1 h2 hn hb
    subst hn
    rw [if_pos rfl, List.append_assoc, List.append_assoc, rv_enc _ _ (by omega)]
    simp only []
    rw [if_neg (by omega), List.drop_left]
    unfold fld2
    rw [rv_enc _ _ hb]
    simp only []
    rw [if_neg (by omega), List.drop_left, if_neg (by simp), List.take_left, List.drop_left, show (8 * num + 2) / 8 = num by omega]
  | false =>
    have hb := h.b0 rfl
    have hn := h.n
    simp only at h1 h2 hn hb
    subst hb
    rw [if_neg (by simp), List.append_assoc, rv_enc _ _ (by omega)]
    simp only []
    rw [if_neg (by omega), List.drop_left]
    unfold fld2
    rw [rv_enc _ _ hn]
    simp only []
    rw [if_pos (by omega), List.drop_left, show 8 * num / 8 = num by omega]
theorem fld1_dec {l t : List Nat} {f : Fld} (hl : limB l) (h : fld1 l = .ok f t) : f.Ok ∧ l = f.enc ++ t := by
  unfold fld1 at h
  split at h
  · cases h
  · rename_i tag k hr
    obtain ⟨a1, a2, a3, a4⟩ := rv_dec hl hr
    split at h
    · cases h
    · rename_i hc
      unfold fld2 at h
      split at h
      · cases h
      · rename_i n k' hr'
        obtain ⟨b1, b2, b3, b4⟩ := rv_dec (limB_drop hl k) hr'
        generalize hr0 : l.drop k = r at *
        split at h
        · rename_i hw
          injection h with h1 h2
          subst h1 h2
          refine ⟨⟨?_, ?_, b1, by simp, fun c hc => absurd hc (by simp), (fun e => by cases e), fun _ => rfl⟩, ?_⟩
          · show 1 ≤ tag / 8; omega
          · show tag / 8 ≤ 100; omega
          · unfold Fld.enc
            rw [if_neg (by simp)]
            show l = vbn (8 * (tag / 8)) ++ vbn n ++ r.drop k'
            rw [show 8 * (tag / 8) = tag by omega, List.append_assoc, ← b3]
            exact a3
        · rename_i hw
          split at h
          · cases h
          · rename_i hlen
            injection h with h1 h2
            subst h1 h2
            have e1 : ((r.drop k').take n).length = n := by rw [List.length_take]; omega
            refine ⟨⟨?_, ?_, by show 0 < _; decide, by show ((r.drop k').take n).length < _; omega, ?_, fun _ => rfl, (fun e => by cases e)⟩, ?_⟩
            · show 1 ≤ tag / 8; omega
            · show tag / 8 ≤ 100; omega
            · show limB ((r.drop k').take n)
              rw [← hr0]; exact limB_take (limB_drop (limB_drop hl _) _) _
            · unfold Fld.enc
              rw [if_pos rfl]
              show l = vbn (8 * (tag / 8) + 2) ++ vbn ((r.drop k').take n).length ++ (r.drop k').take n ++ (r.drop k').drop n
              rw [e1, show 8 * (tag / 8) + 2 = tag by omega, List.append_assoc, List.take_append_drop, List.append_assoc, ← b3]
              exact a3
theorem enc_pos (f : Fld) : 0 < f.enc.length := by
  unfold Fld.enc
  have h1 := vbn_pos (8 * f.num + 2)
  have h2 := vbn_pos (8 * f.num)
  split <;> simp <;> omega
theorem fld1_err {l : List Nat} {e : Nat} (h : fld1 l = .bad e) : e = 2 ∨ e = 3 := by
  unfold fld1 at h
  split at h
  · rename_i e' hr; injection h with h; subst h; exact rv_bad _ _ _ _ hr
  · split at h
    · injection h with h; exact .inr h.symm
    · unfold fld2 at h
      split at h
      · rename_i e' hr; injection h with h; subst h; exact rv_bad _ _ _ _ hr
      · split at h
        · cases h
        · split at h
          · injection h with h; exact .inl h.symm
          · cases h
/-- The bytes of fields. -/
def encs (fs : List Fld) : List Nat := (fs.map Fld.enc).flatten
theorem encs_nil : encs [] = [] := rfl
theorem encs_cons (f : Fld) (fs : List Fld) : encs (f :: fs) = f.enc ++ encs fs := by simp [encs]
theorem encs_app (a b : List Fld) : encs (a ++ b) = encs a ++ encs b := by simp [encs]
theorem flds_cons {l t : List Nat} {f : Fld} {m : Nat} (h : fld1 l = .ok f t) (hl : l ≠ []) : flds (m + 1) l = (flds m t).behind [f] := by
  cases l with
  | nil => exact absurd rfl hl
  | cons c r => rw [flds, h]
theorem flds_bad {l : List Nat} {e m : Nat} (h : fld1 l = .bad e) (hl : l ≠ []) : flds (m + 1) l = .bad e := by
  cases l with
  | nil => exact absurd rfl hl
  | cons c r => rw [flds, h]
theorem flds_encs : ∀ (fs : List Fld) (m : Nat) (t : List Nat), (∀ f ∈ fs, f.Ok) → (encs fs ++ t).length ≤ m → ∃ m', t.length ≤ m' ∧ flds m (encs fs ++ t) = (flds m' t).behind fs
  | [], m, t, _, hm => ⟨m, by simpa [encs_nil] using hm, by rw [encs_nil, List.nil_append]; cases flds m t <;> simp [Rs.behind]⟩
  | f :: fs, m, t, h, hm => by
    have hp := enc_pos f
    rw [encs_cons, List.append_assoc] at hm ⊢
    rw [List.length_append] at hm
    obtain ⟨m, rfl⟩ : ∃ q, m = q + 1 := ⟨m - 1, by omega⟩
    rw [flds_cons (fld1_enc (h f (by simp)) _) (fun e => by have := congrArg List.length e; rw [List.length_append, List.length_nil] at this; omega)]
    obtain ⟨m', h1, h2⟩ := flds_encs fs m t (fun g hg => h g (by simp [hg])) (by omega)
    refine ⟨m', h1, ?_⟩
    rw [h2]
    cases flds m' t <;> simp [Rs.behind]
theorem flds_all {fs : List Fld} {m : Nat} (h : ∀ f ∈ fs, f.Ok) (hm : (encs fs).length ≤ m) : flds m (encs fs) = .ok fs := by
  obtain ⟨m', _, h2⟩ := flds_encs fs m [] h (by simpa using hm)
  rw [List.append_nil] at h2
  rw [h2]
  cases m' <;> simp [flds, Rs.behind]
theorem flds_dec : ∀ (m : Nat) (l : List Nat) (fs : List Fld), limB l → flds m l = .ok fs → (∀ f ∈ fs, f.Ok) ∧ l = encs fs
  | m, [], fs, _, h => by
    have : fs = [] := by
      cases m <;> (unfold flds at h; injection h with h; exact h.symm)
    subst this
    exact ⟨fun _ h => absurd h (by simp), rfl⟩
  | 0, c :: t, fs, _, h => by simp [flds] at h
  | m + 1, c :: t, fs, hl, h => by
    unfold flds at h
    split at h
    · cases h
    · rename_i f r hf
      obtain ⟨h1, h2⟩ := fld1_dec hl hf
      cases hq : flds m r with
      | bad e => rw [hq] at h; cases h
      | ok gs =>
        rw [hq] at h
        injection h with h
        have hr : limB r := fun c hc => hl c (by rw [h2]; simp [hc])
        obtain ⟨h3, h4⟩ := flds_dec m r gs hr hq
        subst h
        refine ⟨fun g hg => ?_, ?_⟩
        · rcases List.mem_append.1 hg with e | e
          · simp at e; subst e; exact h1
          · exact h3 g e
        · rw [h2, List.singleton_append, encs_cons, ← h4]
theorem fld1_cut {f : Fld} (h : f.Ok) : fld1 (f.enc.take (f.enc.length - 1)) = .bad 2 := by
  have h1 := h.lo
  have h2 := h.hi
  obtain ⟨num, whole, n, b⟩ := f
  unfold Fld.enc
  dsimp only
  cases whole with
  | true =>
    have hn := h.num0 rfl
    have hb := h.len
    simp only at h1 h2 hn hb
    subst hn
    rw [if_pos rfl, List.append_assoc]
    have hp := vbn_pos b.length
    have e : (vbn (8 * num + 2) ++ (vbn b.length ++ b)).take ((vbn (8 * num + 2) ++ (vbn b.length ++ b)).length - 1) = vbn (8 * num + 2) ++ (vbn b.length ++ b).take ((vbn b.length ++ b).length - 1) := by
      rw [List.take_append, List.take_of_length_le (by simp; omega)]
      congr 1
      rw [List.length_append, List.length_append]
      congr 1
      omega
    rw [e]
    unfold fld1
    rw [rv_enc _ _ (by omega)]
    simp only []
    rw [if_neg (by omega), List.drop_left]
    unfold fld2
    cases hbq : b with
    | nil =>
      rw [List.append_nil, rv_cut _ _ (by decide) (by have := vbn_pos ([] : List Nat).length; omega)]
    | cons x r =>
      rw [← hbq]
      have hbl : 0 < b.length := by rw [hbq]; simp
      rw [List.take_append, List.take_of_length_le (by simp; omega), rv_enc _ _ hb]
      simp only []
      rw [if_neg (by omega), List.drop_left, if_pos (by simp; omega)]
  | false =>
    have hb := h.b0 rfl
    have hn := h.n
    simp only at h1 h2 hn hb
    subst hb
    rw [if_neg (by simp)]
    have hp := vbn_pos n
    have e : (vbn (8 * num) ++ vbn n).take ((vbn (8 * num) ++ vbn n).length - 1) = vbn (8 * num) ++ (vbn n).take ((vbn n).length - 1) := by
      rw [List.take_append, List.take_of_length_le (by simp; omega)]
      congr 1
      rw [List.length_append]
      congr 1
      omega
    rw [e]
    unfold fld1
    rw [rv_enc _ _ (by omega)]
    simp only []
    rw [if_neg (by omega), List.drop_left]
    unfold fld2
    rw [rv_cut _ _ hn (by omega)]
theorem enc_two (f : Fld) : 2 ≤ f.enc.length := by
  unfold Fld.enc
  have h1 := vbn_pos (8 * f.num + 2)
  have h2 := vbn_pos (8 * f.num)
  have h3 := vbn_pos f.n
  have h4 := vbn_pos f.b.length
  split <;> simp <;> omega
theorem flds_cut {f : Fld} (h : f.Ok) (m : Nat) : flds (m + 1) (f.enc.take (f.enc.length - 1)) = .bad 2 :=
  flds_bad (fld1_cut h) (fun e => by have h1 := congrArg List.length e; have := enc_two f; rw [List.length_take, List.length_nil] at h1; omega)
theorem flds_eight {f : Fld} (h : f.Ok) (m : Nat) (hm : (f.enc ++ [8]).length ≤ m) : flds m (f.enc ++ [8]) = .bad 2 := by
  obtain ⟨m', h1, h2⟩ := flds_encs [f] m [8] (by simpa using h) (by simpa [encs_cons, encs_nil] using hm)
  rw [encs_cons, encs_nil, List.append_nil] at h2
  rw [h2]
  obtain ⟨m', rfl⟩ : ∃ q, m' = q + 1 := ⟨m' - 1, by simp at h1; omega⟩
  rw [flds_bad (e := 2) rfl (by simp)]
  rfl
end Go.Proofs.Ytogegmdimfinaaa
