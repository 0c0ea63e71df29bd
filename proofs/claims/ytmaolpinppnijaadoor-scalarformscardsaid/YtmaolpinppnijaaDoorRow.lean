/- Rows of words and bytes in memory: what lies in a block, how it is read and written; numbers as rows. -/
import Derived.Test.YtmaolpinppnijaaDoorLeaf
import Derived.Test.YtmaolpinppnijaaDoorDrawn
import Derived.Deep.WholeRow
import Derived.Deep.MidRow
import Derived.Deep.RegionHeld3
namespace Go.Proofs.YtmaolpinppnijaaDoor
open Go.RowKit
theorem hide {p : Prop} (h : p) : Hid p := h
/-- A row of words as the model has it. -/
def na (l : List Nat) : Array Value := (l.map fun (n : Nat) => Value.int .u64 (n : Int)).toArray
theorem na_size (l : List Nat) : (na l).size = l.length := by simp [na]
theorem na_get (l : List Nat) (k : Nat) (h : k < l.length) : (na l)[k]? = some (.int .u64 ((l.getD k 0 : Nat) : Int)) := by
  simp [na, List.getD_eq_getElem?_getD, h]
theorem na_set (l : List Nat) (k n : Nat) : (na l).setIfInBounds k (.int .u64 (n : Int)) = na (l.set k n) := by
  simp [na, List.map_set]
theorem na4 (a b c d : Nat) : na [a, b, c, d] = #[.int .u64 (a : Int), .int .u64 (b : Int), .int .u64 (c : Int), .int .u64 (d : Int)] := rfl
theorem keep_set {w : World} {g g' n m : Nat} {v x : Value} (hm : g ≠ g' ∨ m ≠ n) (h : w.cell? ⟨g, m, none⟩ = some x) : (w.setCell ⟨g', n, none⟩ v).drew.cell? ⟨g, m, none⟩ = some x := by
  show (w.setCell ⟨g', n, none⟩ v).cell? ⟨g, m, none⟩ = some x
  rw [World.cell?_setCell_other _ _ _ _ (fun e => by injection e with e1 e2; rcases hm with hm | hm; exact hm e1.symm; exact hm e2.symm)]; exact h
theorem heap_alloc_last3 (w : World) (a b c : Obj) : (((w.alloc a).alloc b).alloc c).heap[w.heap.size + 1 + 1]? = some c := by
  have h := heap_alloc_last ((w.alloc a).alloc b) c
  simpa using h
theorem heap_alloc_mid3 (w : World) (a b c : Obj) : (((w.alloc a).alloc b).alloc c).heap[w.heap.size + 1]? = some b := by
  rw [Below.heap_alloc _ _ _ (by simp)]
  have h := heap_alloc_last (w.alloc a) b
  simpa using h
theorem Below.setRow {B : Nat} {a w : World} (h : Below B a w) (g : Nat) (cs : Array Value) (hg : B ≤ g) : Below B a (w.setRow g cs) :=
  h.trans ⟨rfl, rfl, rfl, by simp, fun k hk => setRow_other w g k cs (by omega)⟩
theorem below3 (w : World) (a b c : Obj) : Below w.heap.size w (((w.alloc a).alloc b).alloc c) :=
  (((Below.refl _ _).alloc (Nat.le_refl _) _).alloc (by simp) _).alloc (by simp; omega) _
theorem bcell {W w1 : World} (hb : Below W.heap.size W w1) : (∀ b o, b < W.heap.size → w1.cell? ⟨b, o, none⟩ = W.cell? ⟨b, o, none⟩) ∧ (∀ b o, b < W.heap.size → w1.frozen? ⟨b, o, none⟩ = W.frozen? ⟨b, o, none⟩) :=
  ⟨fun b o h => hb.cell (p := ⟨b, o, none⟩) h, fun b o h => hb.frozen (p := ⟨b, o, none⟩) h⟩
theorem Below.row {B : Nat} {W w1 : World} (h : Below B W w1) {g : Nat} {cs : Array Value} {t : TypeId} (hg : g < B) (hr : W.heap[g]? = some (.cells cs t (0, 0))) :
    (∀ i, w1.cell? ⟨g, i, none⟩ = cs[i]?) ∧ (∀ i, w1.frozen? ⟨g, i, none⟩ = false) := by
  have h1 := (h.block g hg).trans hr
  exact ⟨fun i => cell_of_row _ _ _ _ _ _ h1, fun i => frozen_of_row _ _ _ _ _ h1⟩
theorem heap2_0 (w : World) (a b : Obj) : ((w.alloc a).alloc b).heap[w.heap.size]? = some a := by
  rw [Below.heap_alloc _ _ _ (by simp), heap_alloc_last]
theorem heap2_1 (w : World) (a b : Obj) : ((w.alloc a).alloc b).heap[w.heap.size + 1]? = some b := by
  have h := heap_alloc_last (w.alloc a) b
  simpa using h
theorem below2 (w : World) (a b : Obj) : Below w.heap.size w ((w.alloc a).alloc b) :=
  ((Below.refl _ _).alloc (Nat.le_refl _) _).alloc (by simp) _
theorem set4_row {w : World} {g : Nat} {x0 x1 x2 x3 v0 v1 v2 v3 : Value} {t : TypeId} (h : w.heap[g]? = some (.cells #[x0, x1, x2, x3] t (0, 0))) :
    ((((w.setCell ⟨g, 0, none⟩ v0).setCell ⟨g, 1, none⟩ v1).setCell ⟨g, 2, none⟩ v2).setCell ⟨g, 3, none⟩ v3).heap[g]? = some (.cells #[v0, v1, v2, v3] t (0, 0)) := by
  have h1 := heap_setCell_same w g 0 _ t v0 h
  have h2 := heap_setCell_same _ g 1 _ t v1 h1
  have h3 := heap_setCell_same _ g 2 _ t v2 h2
  exact heap_setCell_same _ g 3 _ t v3 h3
theorem set4_other {w : World} {g k : Nat} (v0 v1 v2 v3 : Value) (h : k ≠ g) :
    ((((w.setCell ⟨g, 0, none⟩ v0).setCell ⟨g, 1, none⟩ v1).setCell ⟨g, 2, none⟩ v2).setCell ⟨g, 3, none⟩ v3).heap[k]? = w.heap[k]? := by
  rw [heap_setCell_other _ _ _ _ (by simpa using h), heap_setCell_other _ _ _ _ (by simpa using h), heap_setCell_other _ _ _ _ (by simpa using h), heap_setCell_other _ _ _ _ (by simpa using h)]
theorem Below.set4 {B : Nat} {a w : World} (h : Below B a w) {g : Nat} (hg : B ≤ g) (v0 v1 v2 v3 : Value) :
    Below B a ((((w.setCell ⟨g, 0, none⟩ v0).setCell ⟨g, 1, none⟩ v1).setCell ⟨g, 2, none⟩ v2).setCell ⟨g, 3, none⟩ v3) :=
  (((h.setCell hg _).setCell hg _).setCell hg _).setCell hg _
theorem Below.heap {B : Nat} {W w1 : World} (h : Below B W w1) {g : Nat} {o : Obj} (hg : g < B) (hr : W.heap[g]? = some o) : w1.heap[g]? = some o := (h.block g hg).trans hr
theorem row_reads {w : World} {g : Nat} {cs : Array Value} {t : TypeId} (h : w.heap[g]? = some (.cells cs t (0, 0))) : (∀ i, w.cell? ⟨g, i, none⟩ = cs[i]?) ∧ (∀ i, w.frozen? ⟨g, i, none⟩ = false) :=
  ⟨fun _ => cell_of_row _ _ _ _ _ _ h, fun _ => frozen_of_row _ _ _ _ _ h⟩
theorem na8 (a b c d e f g i : Nat) : na [a, b, c, d, e, f, g, i] = #[.int .u64 (a : Int), .int .u64 (b : Int), .int .u64 (c : Int), .int .u64 (d : Int), .int .u64 (e : Int), .int .u64 (f : Int), .int .u64 (g : Int), .int .u64 (i : Int)] := rfl
theorem heap_alloc_last4 (w : World) (a b c d : Obj) : ((((w.alloc a).alloc b).alloc c).alloc d).heap[w.heap.size + 1 + 1 + 1]? = some d := by
  have h := heap_alloc_last (((w.alloc a).alloc b).alloc c) d
  simpa using h
/-- A number's four words, as the model has them. -/
def el (n : Nat) : Array Value := #[.int .u64 ((n % 18446744073709551616 : Nat) : Int), .int .u64 ((n / 18446744073709551616 % 18446744073709551616 : Nat) : Int), .int .u64 ((n / 340282366920938463463374607431768211456 % 18446744073709551616 : Nat) : Int), .int .u64 ((n / 6277101735386680763835789423207666416102355444464034512896 % 18446744073709551616 : Nat) : Int)]
theorem el_open (x : Nat) (hx : x < 115792089237316195423570985008687907853269984665640564039457584007913129639936) : ∃ a b c d : Nat, el x = #[.int .u64 (a : Int), .int .u64 (b : Int), .int .u64 (c : Int), .int .u64 (d : Int)] ∧ (a < 18446744073709551616 ∧ b < 18446744073709551616 ∧ c < 18446744073709551616 ∧ d < 18446744073709551616) ∧ val [a, b, c, d] = x := by
  refine ⟨_, _, _, _, rfl, ?_, ?_⟩
  · omega
  · rw [val4]; omega
theorem el_close {a b c d x : Nat} (h : a < 18446744073709551616 ∧ b < 18446744073709551616 ∧ c < 18446744073709551616 ∧ d < 18446744073709551616) (hv : val [a, b, c, d] = x) : #[.int .u64 (a : Int), .int .u64 (b : Int), .int .u64 (c : Int), .int .u64 (d : Int)] = el x := by
  rw [val4] at hv
  have e1 : x % 18446744073709551616 = a := by omega
  have e2 : x / 18446744073709551616 % 18446744073709551616 = b := by omega
  have e3 : x / 340282366920938463463374607431768211456 % 18446744073709551616 = c := by omega
  have e4 : x / 6277101735386680763835789423207666416102355444464034512896 % 18446744073709551616 = d := by omega
  unfold el
  rw [e1, e2, e3, e4]
/-- A row's word is the number's. -/
theorem val_word : ∀ (l : List Nat) (q : Nat), lim l → val l / 18446744073709551616 ^ q % 18446744073709551616 = l.getD q 0 := by
  intro l
  induction l with
  | nil => intro q _; simp [val]
  | cons x t ih =>
    intro q h
    have hx := h 0
    simp only [List.getD_cons_zero] at hx
    cases q with
    | zero => simp only [val, Nat.pow_zero, Nat.div_one, List.getD_cons_zero]; omega
    | succ q =>
      rw [List.getD_cons_succ, ← ih q (fun i => h (i + 1)), val, Nat.pow_succ, Nat.mul_comm (18446744073709551616 ^ q) 18446744073709551616, ← Nat.div_div_eq_div_mul]
      congr 2; omega
/-- A number's word. -/
def wd (x q : Nat) : Nat := x / 18446744073709551616 ^ q % 18446744073709551616
theorem wd_lt (x q : Nat) : wd x q < 18446744073709551616 := Nat.mod_lt _ (by decide)
/-- A number's eight words, as the model has them. -/
def el8 (n : Nat) : Array Value := na [wd n 0, wd n 1, wd n 2, wd n 3, wd n 4, wd n 5, wd n 6, wd n 7]
theorem el8_close {l : List Nat} {x : Nat} (hl : l.length = 8) (h : lim l) (hv : val l = x) : na l = el8 x := by
  have h0 := val_word l 0 h
  have h1 := val_word l 1 h
  have h2 := val_word l 2 h
  have h3 := val_word l 3 h
  have h4 := val_word l 4 h
  have h5 := val_word l 5 h
  have h6 := val_word l 6 h
  have h7 := val_word l 7 h
  rw [hv] at h0 h1 h2 h3 h4 h5 h6 h7
  unfold el8 wd
  rw [h0, h1, h2, h3, h4, h5, h6, h7]
  obtain ⟨a, b, c, d, e, f, g, i, rfl⟩ := eight hl
  rfl
theorem wd_val (x : Nat) : ∀ n, ∀ l : List Nat, l.length = n → (∀ i, i < n → l.getD i 0 = wd x i) → val l = x % 18446744073709551616 ^ n := by
  intro n
  induction n generalizing x with
  | zero =>
    intro l hl _
    have : l = [] := List.eq_nil_of_length_eq_zero hl
    subst this; simp [val, Nat.mod_one]
  | succ n ih =>
    intro l hl hw
    cases l with
    | nil => simp at hl
    | cons a t =>
      have ha := hw 0 (by omega)
      have ht := ih (x / 18446744073709551616) t (by simpa using hl) (fun i hi => by
        have := hw (i + 1) (by omega)
        rw [List.getD_cons_succ] at this
        rw [this, wd, wd, Nat.pow_succ, Nat.mul_comm, Nat.div_div_eq_div_mul])
      simp only [List.getD_cons_zero, wd, Nat.pow_zero, Nat.div_one] at ha
      rw [val, ht, ha, Nat.pow_succ, Nat.mul_comm (18446744073709551616 ^ n), Nat.mod_mul]
theorem el8_open (x : Nat) (hx : x < 18446744073709551616 ^ 8) : ∃ l : List Nat, el8 x = na l ∧ l.length = 8 ∧ lim l ∧ val l = x := by
  refine ⟨_, rfl, rfl, ?_, ?_⟩
  · intro i
    match i with
    | 0 | 1 | 2 | 3 | 4 | 5 | 6 | 7 => exact wd_lt _ _
    | i + 8 => simp
  · rw [wd_val x 8 _ rfl, Nat.mod_eq_of_lt hx]
    intro i hi
    match i, hi with
    | 0, _ | 1, _ | 2, _ | 3, _ | 4, _ | 5, _ | 6, _ | 7, _ => rfl
theorem el_na {l : List Nat} {x : Nat} (hl : l.length = 4) (h : lim l) (hv : val l = x) : na l = el x := by
  obtain ⟨a, b, c, d, rfl⟩ := four hl
  exact el_close (lim4 h) hv
theorem heap3_0 (w : World) (a b c : Obj) : (((w.alloc a).alloc b).alloc c).heap[w.heap.size]? = some a := by
  rw [Below.heap_alloc _ _ _ (by simp; omega)]; exact heap2_0 _ _ _
theorem and_one (a : Nat) (ha : a < 18446744073709551616) : bits BinOp.and IntKind.u64 (a : Int) 1 = ((a % 2 : Nat) : Int) := by
  have h := bits_and_u64_nat a 1 ha (by omega)
  have e : a &&& 1 = a % 2 := Nat.and_two_pow_sub_one_eq_mod a 1
  rw [e] at h
  exact h
/-- Bytes as the model has them. -/
def ba (l : List Nat) : Array Value := (l.map fun (n : Nat) => Value.int .u8 (n : Int)).toArray
theorem ba_get (l : List Nat) (k : Nat) (h : k < l.length) : (ba l)[k]? = some (.int .u8 ((l.getD k 0 : Nat) : Int)) := by
  simp [ba, List.getD_eq_getElem?_getD, h]
theorem ba_set (l : List Nat) (k n : Nat) : (ba l).setIfInBounds k (.int .u8 (n : Int)) = ba (l.set k n) := by
  simp [ba, List.map_set]
/-- A number's byte. -/
def byt (x i : Nat) : Nat := x / 256 ^ i % 256
/-- Its bytes so far. -/
def bys (x : Nat) : Nat → List Nat
  | 0 => List.replicate 32 0
  | k + 1 => (bys x k).set k (byt x k)
theorem bys_len (x : Nat) : ∀ k, (bys x k).length = 32
  | 0 => by simp [bys]
  | k + 1 => by simp [bys, bys_len x k]
theorem bys_get (x : Nat) : ∀ k i, k ≤ 32 → (bys x k).getD i 0 = if i < k then byt x i else 0
  | 0, i, _ => by
    show (List.replicate 32 0).getD i 0 = _
    rw [if_neg (by omega), List.getD_eq_getElem?_getD, List.getElem?_replicate]
    split <;> rfl
  | k + 1, i, h => by
    have ih := bys_get x k i (by omega)
    rw [bys]
    by_cases e : k = i
    · subst e
      have hl := bys_len x k
      simp [List.getD_eq_getElem?_getD, hl, show k < 32 by omega]
    · rw [getD_set_ne' e, ih]
      by_cases h1 : i < k
      · rw [if_pos h1, if_pos (by omega)]
      · rw [if_neg h1, if_neg (by omega)]
theorem byt_word (x i : Nat) : (x / 18446744073709551616 ^ (i / 8) % 18446744073709551616) / 2 ^ (i % 8 * 8) % 256 = byt x i := by
  unfold byt
  have h1 : (18446744073709551616 : Nat) = 2 ^ (i % 8 * 8) * (256 * 2 ^ (56 - i % 8 * 8)) := by
    rw [show (256 : Nat) = 2 ^ 8 from rfl, ← Nat.pow_add, ← Nat.pow_add, show i % 8 * 8 + (8 + (56 - i % 8 * 8)) = 64 by omega]
  have h2 : (18446744073709551616 : Nat) ^ (i / 8) * 2 ^ (i % 8 * 8) = 256 ^ i := by
    rw [show (18446744073709551616 : Nat) = 2 ^ 64 from rfl, show (256 : Nat) = 2 ^ 8 from rfl, ← Nat.pow_mul, ← Nat.pow_mul, ← Nat.pow_add]
    congr 1; omega
  rw [← h2, ← Nat.div_div_eq_div_mul]
  generalize x / 18446744073709551616 ^ (i / 8) = y
  rw [h1, Nat.mod_mul_right_div_self, Nat.mod_mul_right_mod]
theorem make32 (w : World) : (Instr.makeSlice 22 (.int .i64 32) (.int .i64 32)).run Tryd.prog w = .ok (.slice (some ⟨w.heap.size, 0, none⟩) 32 32) (w.alloc (.cells (ba (List.replicate 32 0)) 5)) := by kernel_rfl
/-- A slice of bytes in memory that was there. -/
def BsAt (w : World) (v : Value) (bs : List Nat) : Prop :=
  ∃ (b o c : Nat) (ao : Option Addr), v = .slice ao bs.length c ∧ bs.length ≤ c ∧ c ≤ maxLen ∧ (∀ i, bs.getD i 0 < 256) ∧ (bs ≠ [] → ao = some ⟨b, o, none⟩ ∧ b < w.heap.size ∧ ∀ i, i < bs.length → w.cell? ⟨b, o + i, none⟩ = some (.int .u8 ((bs.getD i 0 : Nat) : Int)))
theorem BsAt.ext {W w : World} {v : Value} {bs : List Nat} (h : BsAt W v bs) (he : Below W.heap.size W w) : BsAt w v bs := by
  obtain ⟨b, o, c, ao, e, hc, hm, hl, hh⟩ := h
  refine ⟨b, o, c, ao, e, hc, hm, hl, fun hne => ?_⟩
  obtain ⟨e1, hb, hr⟩ := hh hne
  exact ⟨e1, Nat.lt_of_lt_of_le hb he.size, fun i hi => (Below.cell (p := ⟨b, o + i, none⟩) he hb).trans (hr i hi)⟩
/-- The number of bytes, the lowest first. -/
def bval : List Nat → Nat
  | [] => 0
  | x :: t => x + 256 * bval t
theorem bval_take : ∀ (l : List Nat) (k : Nat), k < l.length → bval (l.take (k + 1)) = bval (l.take k) + 256 ^ k * l.getD k 0
  | [], k, h => absurd h (by simp)
  | x :: t, 0, _ => by simp [bval]
  | x :: t, k + 1, h => by
    have ih := bval_take t k (by simpa using h)
    rw [List.take_succ_cons, List.take_succ_cons, bval, bval, ih, List.getD_cons_succ, Nat.pow_succ, Nat.mul_add]
    rw [Nat.mul_comm (256 ^ k) 256, Nat.mul_assoc]
    omega
theorem bval_lt : ∀ {l : List Nat}, (∀ i, l.getD i 0 < 256) → ∀ k, bval (l.take k) < 256 ^ k
  | [], _, k => by simp [bval]; exact Nat.pow_pos (by decide)
  | x :: t, h, 0 => by simp [bval]
  | x :: t, h, k + 1 => by
    have ih := bval_lt (l := t) (fun i => h (i + 1)) k
    have hx := h 0
    simp only [List.getD_cons_zero] at hx
    simp only [List.take_succ_cons, bval, Nat.pow_succ]
    omega
/-- A word with a byte put into its place, where there is nothing. -/
theorem or_byte (y x s : Nat) (hy : y < 2 ^ s) (hx : x < 256) (hs : s + 8 ≤ 64) : bits .or .u64 (y : Int) (IntKind.u64.wrap ((x : Int) * 2 ^ s)) = ((y + 2 ^ s * x : Nat) : Int) := by
  have h1 : x * 2 ^ s < 18446744073709551616 := by
    have : x * 2 ^ s < 256 * 2 ^ s := (Nat.mul_lt_mul_right (Nat.two_pow_pos s)).2 hx
    have h2 : 256 * 2 ^ s ≤ 2 ^ 64 := by
      rw [show (256 : Nat) = 2 ^ 8 from rfl, ← Nat.pow_add]; exact Nat.pow_le_pow_right (by decide) (by omega)
    omega
  have h3 : 2 ^ s ≤ 2 ^ 64 := Nat.pow_le_pow_right (by decide) (by omega)
  have e : IntKind.u64.wrap ((x : Int) * 2 ^ s) = ((x * 2 ^ s : Nat) : Int) := by
    rw [show ((x : Int) * 2 ^ s) = ((x * 2 ^ s : Nat) : Int) by simp]
    exact u64_wrap _ h1
  rw [e, bits_or_u64_nat _ _ (by omega) h1, Nat.or_comm, Nat.mul_comm x, ← Nat.two_pow_add_eq_or_of_lt hy, Nat.add_comm]
theorem val_ge : ∀ (l : List Nat) (j : Nat), 18446744073709551616 ^ j * l.getD j 0 ≤ val l
  | [], j => by simp
  | x :: t, 0 => by simp [val]
  | x :: t, j + 1 => by
    have ih := val_ge t j
    rw [List.getD_cons_succ, val, Nat.pow_succ, Nat.mul_comm (18446744073709551616 ^ j), Nat.mul_assoc]
    omega
theorem word_small {l : List Nat} {s j : Nat} (_ : s + 8 ≤ 64) (h : val l < 18446744073709551616 ^ j * 2 ^ s) : l.getD j 0 < 2 ^ s := by
  have h1 := val_ge l j
  exact Nat.lt_of_mul_lt_mul_left (Nat.lt_of_le_of_lt h1 h)
theorem word_pow (k : Nat) : (18446744073709551616 : Nat) ^ (k / 8) * 2 ^ (k % 8 * 8) = 256 ^ k := by
  rw [show (18446744073709551616 : Nat) = 2 ^ 64 from rfl, show (256 : Nat) = 2 ^ 8 from rfl, ← Nat.pow_mul, ← Nat.pow_mul, ← Nat.pow_add]
  congr 1; omega
theorem word_fits {y x s : Nat} (hy : y < 2 ^ s) (hx : x < 256) (hs : s + 8 ≤ 64) : y + 2 ^ s * x < 18446744073709551616 := by
  have h1 : y + 2 ^ s * x < 2 ^ s * 256 := by
    have : 2 ^ s * x + 2 ^ s ≤ 2 ^ s * 256 := by rw [← Nat.mul_succ]; exact Nat.mul_le_mul_left _ hx
    omega
  have h2 : 2 ^ s * 256 ≤ 2 ^ 64 := by
    rw [show (256 : Nat) = 2 ^ 8 from rfl, ← Nat.pow_add]; exact Nat.pow_le_pow_right (by decide) hs
  omega
theorem Below.chain {w a b : World} (h : Below w.heap.size w a) (k : Below a.heap.size a b) : Below w.heap.size w b := h.trans (k.mono h.size)
/-- What a slice of bytes holds. -/
theorem bys_cell {w : World} {g x : Nat} (h : w.heap[g]? = some (.cells (ba (bys x 32)) 5 (0, 0))) (i : Nat) (hi : i < 32) : w.cell? ⟨g, i, none⟩ = some (.int .u8 ((byt x i : Nat) : Int)) := by
  rw [cell_of_row _ _ _ _ _ _ h, ba_get _ _ (by rw [bys_len]; exact hi), bys_get _ _ _ (Nat.le_refl _), if_pos hi]
/-- Rows in memory, and all that was there before. -/
structure At (w W : World) (rows : List (Nat × Array Value × TypeId)) : Prop where
  rows : ∀ p A T, (p, A, T) ∈ rows → W.heap[p]? = some (.cells A T (0, 0)) ∧ p < W.heap.size
  below : Below w.heap.size w W
theorem At.nil {w W : World} (h : Below w.heap.size w W) : At w W [] := ⟨fun _ _ _ hm => absurd hm (by simp), h⟩
theorem At.step {w W W' : World} {rows : List (Nat × Array Value × TypeId)} (h : At w W rows) (k : Below W.heap.size W W') : At w W' rows :=
  ⟨fun p A T hm => ⟨Below.heap k (h.rows p A T hm).2 (h.rows p A T hm).1, Nat.lt_of_lt_of_le (h.rows p A T hm).2 k.size⟩, Below.chain h.below k⟩
theorem At.drew {w W : World} {rows : List (Nat × Array Value × TypeId)} (h : At w W rows) : At w W.drew rows := ⟨h.rows, h.below.drew⟩
theorem At.alloc {w W : World} {rows : List (Nat × Array Value × TypeId)} (h : At w W rows) (A : Array Value) (T : TypeId) : At w (W.alloc (.cells A T)) ((W.heap.size, A, T) :: rows) := by
  refine ⟨fun p B U hm => ?_, h.below.alloc h.below.size _⟩
  rcases List.mem_cons.1 hm with e | e
  · cases e
    exact ⟨heap_alloc_last _ _, by simp⟩
  · have hr := h.rows p B U e
    exact ⟨(Below.heap_alloc _ _ _ hr.2).trans hr.1, by simp; omega⟩
theorem At.more {w W : World} {rows : List (Nat × Array Value × TypeId)} (h : At w W rows) {g : Nat} {A : Array Value} {T : TypeId} (hg : g < W.heap.size) (hr : W.heap[g]? = some (.cells A T (0, 0))) : At w W ((g, A, T) :: rows) := by
  refine ⟨fun p B U hm => ?_, h.below⟩
  rcases List.mem_cons.1 hm with e | e
  · cases e
    exact ⟨hr, hg⟩
  · exact h.rows p B U e
theorem At.rd {w W : World} {rows : List (Nat × Array Value × TypeId)} (h : At w W rows) {p : Nat} {A : Array Value} {T : TypeId} (hm : (p, A, T) ∈ rows) (i : Nat) : W.cell? ⟨p, i, none⟩ = A[i]? := (row_reads (h.rows p A T hm).1).1 i
theorem At.grd {w W : World} {rows : List (Nat × Array Value × TypeId)} (h : At w W rows) {p : Nat} {A : Array Value} {T : TypeId} (hm : (p, A, T) ∈ rows) : ∀ w' : World, W.grownBy w' none → ∀ i, w'.cell? ⟨p, i, none⟩ = A[i]? :=
  fun _ hg i => (h.step (Ext.of hg)).rd hm i
/-- What a slice of bytes is to a test of its length. -/
theorem BsAt.len {w : World} {v : Value} {bs : List Nat} (h : BsAt w v bs) : ∃ (ao : Option Addr) (c : Nat), v = .slice ao bs.length c ∧ bs.length ≤ c ∧ c ≤ 9223372036854775807 := by
  obtain ⟨b, o, c, ao, e, hc, hm, _⟩ := h
  exact ⟨ao, c, e, hc, by unfold maxLen at hm; omega⟩
theorem At.set4 {w W : World} {rows : List (Nat × Array Value × TypeId)} (h : At w W rows) {g : Nat} (hg : w.heap.size ≤ g) (hne : ∀ p A T, (p, A, T) ∈ rows → p ≠ g) (v0 v1 v2 v3 : Value) :
    At w ((((W.setCell ⟨g, 0, none⟩ v0).setCell ⟨g, 1, none⟩ v1).setCell ⟨g, 2, none⟩ v2).setCell ⟨g, 3, none⟩ v3) rows :=
  ⟨fun p A T hm => ⟨(set4_other _ _ _ _ (hne p A T hm)).trans (h.rows p A T hm).1, by simpa using (h.rows p A T hm).2⟩, Below.set4 h.below hg _ _ _ _⟩
/-- A bit of a row's number. -/
theorem bit_word (l : List Nat) (hl : lim l) (j : Nat) : (l.getD (j / 64) 0) / 2 ^ (j % 64) % 2 = val l / 2 ^ j % 2 := by
  have key : ∀ (l : List Nat) (q : Nat), lim l → val l / 18446744073709551616 ^ q % 18446744073709551616 = l.getD q 0 := by
    intro l
    induction l with
    | nil => intro q _; simp [val]
    | cons x t ih =>
      intro q h
      have hx := h 0
      simp only [List.getD_cons_zero] at hx
      cases q with
      | zero => simp only [val, Nat.pow_zero, Nat.div_one, List.getD_cons_zero]; omega
      | succ q =>
        rw [List.getD_cons_succ, ← ih q (fun i => h (i + 1)), val, Nat.pow_succ, Nat.mul_comm (18446744073709551616 ^ q) 18446744073709551616, ← Nat.div_div_eq_div_mul]
        congr 2; omega
  rw [← key l (j / 64) hl]
  have h1 : (18446744073709551616 : Nat) = 2 ^ (j % 64) * (2 * 2 ^ (63 - j % 64)) := by
    rw [← Nat.pow_succ', ← Nat.pow_add, show j % 64 + (63 - j % 64).succ = 64 by omega]
  have h2 : (18446744073709551616 : Nat) ^ (j / 64) * 2 ^ (j % 64) = 2 ^ j := by
    rw [show (18446744073709551616 : Nat) = 2 ^ 64 from rfl, ← Nat.pow_mul, ← Nat.pow_add]
    congr 1; omega
  rw [← h2, ← Nat.div_div_eq_div_mul]
  generalize val l / 18446744073709551616 ^ (j / 64) = y
  rw [h1, Nat.mod_mul_right_div_self, Nat.mod_mul_right_mod]
end Go.Proofs.YtmaolpinppnijaaDoor
