/- Does a step take a byte: the program's call. A pattern's sets fit their words. -/
import Derived.Test.YtmjnedafcfolgaaMs2
namespace Go.Proofs.Ytmjnedafcfolgaa
open Go.RowKit
/-- Sets of bytes that fit four words. -/
def Sm (l : List In) : Prop := ∀ x ∈ l, ∀ j, x.s j < 18446744073709551616
theorem Sm.nil : Sm [] := fun x h => by cases h
theorem Sm.app {a b : List In} (ha : Sm a) (hb : Sm b) : Sm (a ++ b) := fun x h => by
  rcases List.mem_append.1 h with h | h
  · exact ha x h
  · exact hb x h
theorem Sm.cons {x : In} {a : List In} (hx : ∀ j, x.s j < 18446744073709551616) (ha : Sm a) : Sm (x :: a) := fun y h => by
  rcases List.mem_cons.1 h with rfl | h
  · exact hx
  · exact ha y h
theorem zs_lt : ∀ j, zs j < 18446744073709551616 := fun _ => by unfold zs; decide
theorem Sm.step (k : Int) : Sm [stepI k] := Sm.nil.cons zs_lt
theorem Sm.chr {s : Nat → Nat} (h : ∀ j, s j < 18446744073709551616) : Sm [charI s] := Sm.nil.cons h
theorem Sm.only (c : Nat) : Sm [onlyI c] := Sm.chr (fun j => add_lt zs_lt _ _ j)
theorem othS_lt (s : Nat → Nat) : ∀ j, othS s j < 18446744073709551616 := fun j => by
  have h : othS s j = 2 ^ 64 - 1 - s j := rfl
  rw [h]
  omega
theorem Sm.either {a b : List In} (ha : Sm a) (hb : Sm b) : Sm (eitherL a b) := (ha.app (hb.cons zs_lt)).cons zs_lt
theorem Sm.star {a : List In} (ha : Sm a) : Sm (starL a) := (ha.app (Sm.nil.cons zs_lt)).cons zs_lt
theorem Sm.plus {a : List In} (ha : Sm a) : Sm (plusL a) := ha.app (Sm.nil.cons zs_lt)
theorem Sm.opt {a : List In} (ha : Sm a) : Sm (optL a) := ha.cons zs_lt
theorem cls_sm : ∀ (f : Nat) (s s' : Nat → Nat) (r t : List Nat), clsF f s r = .ok s' t → (∀ j, s j < 18446744073709551616) → ∀ j, s' j < 18446744073709551616 := by
  intro f
  induction f with
  | zero => intro s s' r t h; cases h
  | succ f ih =>
    intro s s' r t h hs
    unfold clsF at h
    split at h
    · cases h
    · split at h
      · injection h with h _
        subst h
        exact fun j => add_lt hs _ _ j
      · exact ih _ _ _ _ h (fun j => add_lt hs _ _ j)
theorem class_sm {r t : List Nat} {a : List In} (h : classS r = .ok a t) : Sm a := by
  unfold classS at h
  split at h
  · split at h
    · cases h
    · injection h with h1 h2
      subst h1
      exact Sm.chr (othS_lt _)
  · split at h
    · cases h
    · rename_i hc
      injection h with h1 h2
      subst h1
      exact Sm.chr (cls_sm _ _ _ _ _ hc zs_lt)
def Ins (pat : Nat → List Nat → Rd (List In)) : Prop := ∀ d r a t, pat d r = .ok a t → Sm a
theorem atom_sm {pat : Nat → List Nat → Rd (List In)} (hp : Ins pat) {d c : Nat} {t u : List Nat} {a : List In} (h : atomF pat d c t = .ok a u) : Sm a := by
  unfold atomF at h
  split at h
  · unfold escS at h
    split at h
    · cases h
    · injection h with h1 h2; subst h1; exact Sm.only _
  split at h
  · injection h with h1 h2; subst h1; exact Sm.chr (othS_lt _)
  split at h
  · exact class_sm h
  split at h
  · unfold groupF at h
    split at h
    · cases h
    · split at h
      · cases h
      · rename_i st r hr
        split at h
        · injection h with h1 h2; subst h1; exact hp _ _ _ _ hr
        · cases h
  split at h
  · injection h with h1 h2; subst h1; exact Sm.step _
  split at h
  · injection h with h1 h2; subst h1; exact Sm.step _
  split at h
  · cases h
  · injection h with h1 h2; subst h1; exact Sm.only _
theorem rep_sm {a : List In} (h : Sm a) (t : List Nat) : Sm (repA a t) := by
  unfold repA
  split
  · exact h.star
  split
  · exact h.plus
  split
  · exact h.opt
  · exact h
theorem row_sm {pat : Nat → List Nat → Rd (List In)} (hp : Ins pat) (d : Nat) : ∀ (f : Nat) (r : List Nat) (a : List In) (t : List Nat), rowF pat d f r = .ok a t → Sm a := by
  intro f
  induction f with
  | zero => intro r a t h; cases h
  | succ f ih =>
    intro r a t h
    unfold rowF at h
    split at h
    · injection h with h1 h2; subst h1; exact Sm.nil
    · split at h
      · injection h with h1 h2; subst h1; exact Sm.nil
      · split at h
        · cases h
        · rename_i x u hx
          split at h
          · cases h
          · rename_i b v hb
            injection h with h1 h2
            subst h1
            exact (rep_sm (atom_sm hp hx) u).app (ih _ _ _ hb)
theorem alt_sm {pat : Nat → List Nat → Rd (List In)} (hp : Ins pat) (d : Nat) : ∀ (f : Nat) (r : List Nat) (a : List In) (t : List Nat), altF pat d f r = .ok a t → Sm a := by
  intro f
  induction f with
  | zero => intro r a t h; cases h
  | succ f ih =>
    intro r a t h
    unfold altF at h
    split at h
    · cases h
    · rename_i x u hx
      have hc := row_sm hp d _ _ _ _ hx
      split at h
      · split at h
        · cases h
        · rename_i b v hb
          injection h with h1 h2
          subst h1
          exact hc.either (ih _ _ _ hb)
      · injection h with h1 h2; subst h1; exact hc
theorem pat_sm : ∀ f, Ins (patF f) := by
  intro f
  induction f with
  | zero => intro d r a t h; cases h
  | succ f ih => intro d r a t h; exact alt_sm ih d _ _ _ _ h
theorem and_bit (X q : Nat) (hX : X < 18446744073709551616) : (bits .and .u64 ((X : Int) / 2 ^ q) 1 == 1) = X.testBit q := by
  have h1 : (X : Int) / 2 ^ q = ((X / 2 ^ q : Nat) : Int) := by simp
  have h2 : X / 2 ^ q < 18446744073709551616 := Nat.lt_of_le_of_lt (Nat.div_le_self _ _) hX
  rw [h1, show (1 : Int) = ((1 : Nat) : Int) from rfl, bits_and_u64_nat _ _ h2 (by decide), Nat.and_one_is_mod, Nat.testBit_eq_decide_div_mod_eq]
  by_cases h3 : X / 2 ^ q % 2 = 1
  · rw [h3]; rfl
  · rw [show X / 2 ^ q % 2 = 0 by omega]; rfl
/-- A step as a value. -/
def iv (z : In) : Value := .agg #[.int .i64 z.k, .int .u64 (z.s 0 : Int), .int .u64 (z.s 1 : Int), .int .u64 (z.s 2 : Int), .int .u64 (z.s 3 : Int), .int .i64 z.x, .int .i64 z.y]
set_option maxRecDepth 100000 in
set_option maxHeartbeats 2000000 in
theorem takes_not {w : World} (z : In) (c : Nat) (hk : z.k ≠ 1) : Calls Try.prog 18 #[iv z, .int .u8 (c : Int)] w fun e w' => e = .returned (.bool false) ∧ Below w.heap.size w w' := by
  have q1 : (z.k == (1 : Int)) = false := beq_eq_false_iff_ne.2 hk
  unfold iv
  have x0 := (row_reads (heap_alloc_last w (.cells #[.int .i64 z.k, .int .u64 (z.s 0 : Int), .int .u64 (z.s 1 : Int), .int .u64 (z.s 2 : Int), .int .u64 (z.s 3 : Int), .int .i64 z.x, .int .i64 z.y] 49))).1 0
  simp only [List.getElem?_toArray, List.getElem?_cons_zero] at x0
  have HB := hide (alloc_below w (.cells #[.int .i64 z.k, .int .u64 (z.s 0 : Int), .int .u64 (z.s 1 : Int), .int .u64 (z.s 2 : Int), .int .u64 (z.s 3 : Int), .int .i64 z.x, .int .i64 z.y] 49))
  clear hk
  go_enter Try.func18, Try.ntmps18
  go_wp2
  go_ret
  exact ⟨rfl, HB.out⟩
set_option maxRecDepth 100000 in
set_option maxHeartbeats 2000000 in
theorem takes_chr {w : World} (z : In) (c : Nat) (hc : c < 256) (hk : z.k = 1) (hs : ∀ j, z.s j < 18446744073709551616) : Calls Try.prog 18 #[iv z, .int .u8 (c : Int)] w fun e w' => e = .returned (.bool ((z.s (c / 64)).testBit (c % 64))) ∧ Below w.heap.size w w' := by
  unfold iv
  rw [hk]
  have h0 := heap_alloc_last w (.cells #[.int .i64 1, .int .u64 (z.s 0 : Int), .int .u64 (z.s 1 : Int), .int .u64 (z.s 2 : Int), .int .u64 (z.s 3 : Int), .int .i64 z.x, .int .i64 z.y] 49)
  have x0 := (row_reads h0).1 0
  simp only [List.getElem?_toArray, List.getElem?_cons_zero] at x0
  have x1 : (w.alloc (.cells #[.int .i64 1, .int .u64 (z.s 0 : Int), .int .u64 (z.s 1 : Int), .int .u64 (z.s 2 : Int), .int .u64 (z.s 3 : Int), .int .i64 z.x, .int .i64 z.y] 49)).cell? ⟨w.heap.size, 1 + c / 64, none⟩ = some (.int .u64 (z.s (c / 64) : Int)) := by
    rw [(row_reads h0).1]
    obtain h0 | h0 | h0 | h0 : c / 64 = 0 ∨ c / 64 = 1 ∨ c / 64 = 2 ∨ c / 64 = 3 := by omega
    all_goals (rw [h0]; rfl)
  have HB := hide (alloc_below w (.cells #[.int .i64 1, .int .u64 (z.s 0 : Int), .int .u64 (z.s 1 : Int), .int .u64 (z.s 2 : Int), .int .u64 (z.s 3 : Int), .int .i64 z.x, .int .i64 z.y] 49))
  have hv := and_bit (z.s (c / 64)) (c % 64) (hs _)
  have q1 : IntKind.u8.wrap ((c : Int) / 64) = ((c / 64 : Nat) : Int) := by rw [IntKind.wrap_u8]; omega
  have q1b : (c : Int) / 64 = ((c / 64 : Nat) : Int) := by omega
  have q1d : IntKind.u8.wrap ((c / 64 : Nat) : Int) = ((c / 64 : Nat) : Int) := by rw [IntKind.wrap_u8]; omega
  have q2d : IntKind.u8.wrap ((c % 64 : Nat) : Int) = ((c % 64 : Nat) : Int) := by rw [IntKind.wrap_u8]; omega
  have q1c : (c : Int).tdiv 64 = ((c / 64 : Nat) : Int) := by rw [Int.tdiv_eq_ediv_of_nonneg (by omega)]; omega
  have q2 : (c : Int).tmod 64 = ((c % 64 : Nat) : Int) := by rw [Int.tmod_eq_emod_of_nonneg (by omega)]; omega
  have ha : ((c / 64 : Nat) : Int) < 4 := by omega
  have han : c / 64 < 4 := by omega
  have hq : c % 64 < 64 := Nat.mod_lt _ (by decide)
  clear h0 hs hk
  generalize z.s (c / 64) = X at *
  generalize c / 64 = a at *
  generalize c % 64 = q at *
  generalize (z.s 0 : Int) = s0 at *
  generalize (z.s 1 : Int) = s1 at *
  generalize (z.s 2 : Int) = s2 at *
  generalize (z.s 3 : Int) = s3 at *
  generalize X.testBit q = b at *
  go_enter Try.func18, Try.ntmps18
  go_wp2
  go_ret
  exact ⟨rfl, HB.out⟩
/-- Does a step take a byte. -/
def tkB (z : In) (c : Nat) : Bool := decide (z.k = 1) && (z.s (c / 64)).testBit (c % 64)
theorem takes_any {w : World} (z : In) (c : Nat) (hc : c < 256) (hs : ∀ j, z.s j < 18446744073709551616) : Calls Try.prog 18 #[iv z, .int .u8 (c : Int)] w fun e w' => e = .returned (.bool (tkB z c)) ∧ Below w.heap.size w w' := by
  by_cases hk : z.k = 1
  · unfold tkB
    rw [decide_eq_true hk, Bool.true_and]
    exact takes_chr z c hc hk hs
  · unfold tkB
    rw [decide_eq_false hk, Bool.false_and]
    exact takes_not z c hk
theorem tkB_iff {l : List In} {s : List Nat} {p i c : Nat} {z : In} (hi : l[i]? = some z) (hc : s[p]? = some c) : tkB z c = true ↔ Tk l s p i := by
  unfold tkB Tk hasS
  rw [Bool.and_eq_true, decide_eq_true_iff]
  constructor
  · rintro ⟨h1, h2⟩; exact ⟨z, c, hi, h1, hc, h2⟩
  · rintro ⟨x, d, h1, h2, h3, h4⟩
    rw [hi] at h1; injection h1 with h1; subst h1
    rw [hc] at h3; injection h3 with h3; subst h3
    exact ⟨h2, h4⟩
end Go.Proofs.Ytmjnedafcfolgaa
