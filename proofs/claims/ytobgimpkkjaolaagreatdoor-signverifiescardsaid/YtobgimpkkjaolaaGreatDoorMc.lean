/- Numbers modulo the order, as the program's calls answer them. -/
import Derived.Test.YtobgimpkkjaolaaGreatDoorRows
import Derived.WalkKit
import Derived.WalkSpells
import Derived.WalkLawsBesides
import Derived.Laws.Externs
import Derived.Shelf.Spec.BitsCarry
import Derived.Shelf.Bits.Mul64
import Derived.Test.YtobgimpkkjaolaaGreatDoorMb
import Derived.Deep.WholeRow
import Derived.Deep.MidRow
import Derived.Deep.RegionHeld3
import Derived.Lib.AppendStr
import Derived.Laws.OwnMore
import Derived.ArgAppend
import Derived.Lib.SlBytesConst
/- Numbers as rows of words of 64 bits: plain arithmetic, for all rows. -/
namespace Go.Proofs.YtobgimpkkjaolaaGreatDoor.Sc
def val : List Nat → Nat
  | [] => 0
  | x :: t => x + 18446744073709551616 * val t
def lim (l : List Nat) : Prop := ∀ i, l.getD i 0 < 18446744073709551616
theorem lim_set {l : List Nat} (h : lim l) (k y : Nat) (hy : y < 18446744073709551616) : lim (l.set k y) := by
  intro i
  have hi := h i
  simp only [List.getD_eq_getElem?_getD, List.getElem?_set] at hi ⊢
  split
  · split
    · exact hy
    · decide
  · exact hi
theorem val_set : ∀ (l : List Nat) (k y : Nat), k < l.length → val (l.set k y) + 18446744073709551616 ^ k * l.getD k 0 = val l + 18446744073709551616 ^ k * y
  | [], k, y, h => absurd h (by simp)
  | x :: t, 0, y, _ => by simp [val]; omega
  | x :: t, k + 1, y, h => by
    have ih := val_set t k y (by simpa using h)
    simp only [List.set_cons_succ, val, List.getD_cons_succ, Nat.pow_succ]
    rw [Nat.mul_comm (18446744073709551616 ^ k), Nat.mul_assoc, Nat.mul_assoc]
    omega
theorem val_take : ∀ (l : List Nat) (k : Nat), k < l.length → val (l.take (k + 1)) = val (l.take k) + 18446744073709551616 ^ k * l.getD k 0
  | [], k, h => absurd h (by simp)
  | x :: t, 0, _ => by simp [val]
  | x :: t, k + 1, h => by
    have ih := val_take t k (by simpa using h)
    rw [List.take_succ_cons, List.take_succ_cons, val, val, ih, List.getD_cons_succ, Nat.pow_succ, Nat.mul_add]
    rw [Nat.mul_comm (18446744073709551616 ^ k) 18446744073709551616, Nat.mul_assoc]
    omega
theorem four {l : List Nat} (h : l.length = 4) : ∃ a b c d, l = [a, b, c, d] := by
  match l, h with
  | [a, b, c, d], _ => exact ⟨a, b, c, d, rfl⟩
theorem eight {l : List Nat} (h : l.length = 8) : ∃ a b c d e f g i, l = [a, b, c, d, e, f, g, i] := by
  match l, h with
  | [a, b, c, d, e, f, g, i], _ => exact ⟨a, b, c, d, e, f, g, i, rfl⟩
theorem val4 (a b c d : Nat) : val [a, b, c, d] = a + 18446744073709551616 * b + 340282366920938463463374607431768211456 * c + 6277101735386680763835789423207666416102355444464034512896 * d := by
  simp only [val]; omega
theorem lim4 {a b c d : Nat} (h : lim [a, b, c, d]) : a < 18446744073709551616 ∧ b < 18446744073709551616 ∧ c < 18446744073709551616 ∧ d < 18446744073709551616 :=
  ⟨h 0, h 1, h 2, h 3⟩
theorem lim4_mk {a b c d : Nat} (h : a < 18446744073709551616 ∧ b < 18446744073709551616 ∧ c < 18446744073709551616 ∧ d < 18446744073709551616) : lim [a, b, c, d] := by
  intro i
  match i with
  | 0 => exact h.1
  | 1 => exact h.2.1
  | 2 => exact h.2.2.1
  | 3 => exact h.2.2.2
  | i + 4 => simp
theorem val_lt : ∀ {l : List Nat}, lim l → val l < 18446744073709551616 ^ l.length
  | [], _ => by simp [val]
  | x :: t, h => by
    have ih := val_lt (l := t) (fun i => h (i + 1))
    have hx := h 0
    simp only [List.getD_cons_zero] at hx
    simp only [val, List.length_cons, Nat.pow_succ]
    omega
theorem mul_step {l : List Nat} {k t x P A Y : Nat} (hk : k < l.length) (hP : 18446744073709551616 ^ k = P) (hx : l.getD k 0 = x) (h : val l + Y = A) :
    val (l.set k (t % 18446744073709551616)) + Y + P * x + t / 18446744073709551616 * 18446744073709551616 ^ (k + 1) = A + P * t := by
  have hs := val_set l k (t % 18446744073709551616) hk
  rw [hP, hx] at hs
  rw [Nat.pow_succ, hP]
  have hd := Nat.div_add_mod t 18446744073709551616
  generalize t % 18446744073709551616 = r at *
  generalize t / 18446744073709551616 = q at *
  have e1 : q * (P * 18446744073709551616) = P * (18446744073709551616 * q) := by
    rw [Nat.mul_comm q, Nat.mul_assoc]
  have e2 : P * (18446744073709551616 * q) + P * r = P * t := by rw [← Nat.mul_add, hd]
  rw [e1]
  omega
theorem scale_step {l : List Nat} {k x y a P T V : Nat} (hk : k < l.length) (hP : 18446744073709551616 ^ k = P) (hx : l.getD k 0 = x) (h : val l + a * P + T = V + y * T) :
    val (l.set k ((x * y + a) % 18446744073709551616)) + (x * y + a) / 18446744073709551616 * 18446744073709551616 ^ (k + 1) + (T + P * x) = V + y * (T + P * x) := by
  have hs := mul_step (t := x * y + a) (Y := 0) hk hP hx rfl
  rw [Nat.mul_add P, ← Nat.mul_assoc P] at hs
  rw [Nat.mul_add, Nat.mul_comm y (P * x)]
  rw [Nat.mul_comm a P] at h
  omega
theorem sub_word (x y b : Nat) (hx : x < 18446744073709551616) (hy : y < 18446744073709551616) (hb : b ≤ 1) :
    (x + 18446744073709551616 - y - b) % 18446744073709551616 + y + b = x + 18446744073709551616 * (if x < y + b then 1 else 0) := by
  split <;> omega
theorem row_step {l : List Nat} {i j x y z a P V T : Nat} (hk : i + j < l.length) (hP : 18446744073709551616 ^ (i + j) = P) (hz : l.getD (i + j) 0 = z) (h : val l + a * P = V + T) :
    val (l.set (i + j) ((x * y + z + a) % 18446744073709551616)) + (x * y + z + a) / 18446744073709551616 * 18446744073709551616 ^ (i + (j + 1)) = V + (T + P * (x * y)) := by
  have hs := mul_step (t := x * y + z + a) (Y := 0) hk hP hz rfl
  rw [Nat.mul_add P, Nat.mul_add P] at hs
  rw [Nat.mul_comm a P] at h
  rw [← Nat.add_assoc i j 1]
  omega
theorem row_step' {l : List Nat} {i j n x y z a V T T' q r : Nat} (hn : i + j = n) (hk : n < l.length) (hz : l.getD n 0 = z) (h : val l + a * 18446744073709551616 ^ n = V + 18446744073709551616 ^ i * (x * T)) (hT : T' = T + 18446744073709551616 ^ j * y)
    (hq : (x * y + z + a) / 18446744073709551616 = q) (hr : (x * y + z + a) % 18446744073709551616 = r) : val (l.set n r) + q * 18446744073709551616 ^ (i + (j + 1)) = V + 18446744073709551616 ^ i * (x * T') := by
  subst hn
  have hst := row_step (x := x) (y := y) hk rfl hz h
  rw [hq, hr] at hst
  rw [hst, hT, Nat.mul_add x, Nat.mul_add (18446744073709551616 ^ i), Nat.pow_add, Nat.mul_assoc (18446744073709551616 ^ i), Nat.mul_left_comm (18446744073709551616 ^ j) x y]
theorem row_end {l : List Nat} {i a V T : Nat} (hk : i + 4 < l.length) (hz : l.getD (i + 4) 0 = 0) (h : val l + a * 18446744073709551616 ^ (i + 4) = V + T) : val (l.set (i + 4) a) = V + T := by
  have hs := val_set l (i + 4) a hk
  rw [hz] at hs
  rw [Nat.mul_comm] at h
  omega
theorem getD_set_ne' {l : List Nat} {k m y : Nat} (h : k ≠ m) : (l.set k y).getD m 0 = l.getD m 0 := by
  simp [List.getD_eq_getElem?_getD, h]
theorem val8 (a b c d e f g i : Nat) : val [a, b, c, d, e, f, g, i] = val [a, b, c, d] + 115792089237316195423570985008687907853269984665640564039457584007913129639936 * val [e, f, g, i] := by
  simp only [val]; omega
theorem word_mul {x y m n : Nat} (hx : x < 18446744073709551616) (hy : y < 18446744073709551616) (hm : m < 18446744073709551616) (hn : n < 18446744073709551616) :
    x * y + m + n < 340282366920938463463374607431768211456 := by
  have h : x * y ≤ 18446744073709551615 * 18446744073709551615 := Nat.mul_le_mul (by omega) (by omega)
  omega
end Go.Proofs.YtobgimpkkjaolaaGreatDoor.Sc
/- The leaves of the field: sums, differences and products of words, as the program's calls answer them, in any world, for all words. -/
namespace Go.Proofs.YtobgimpkkjaolaaGreatDoor.Sc
open Go.RowKit
theorem sub64_nat (x y b : Nat) (hb : b ≤ 1) (w : World) : (callFunc 91 #[.int .u64 (x : Int), .int .u64 (y : Int), .int .u64 (b : Int)]).run Tryz.prog w =
    .ok (.value (.tuple #[.int .u64 (((x + 18446744073709551616 - y - b) % 18446744073709551616 : Nat) : Int), .int .u64 ((if x < y + b then 1 else 0 : Nat) : Int)])) w := by
  rw [run_callFunc_extern Tryz.func91 (by kernel_rfl) (by kernel_rfl) (by kernel_rfl) (e := sub64Entry) (by kernel_rfl), run_sub64 x y b hb]
  rfl
set_option maxHeartbeats 1000000 in
theorem mul64_any (x y : Nat) (hx : x < 18446744073709551616) (hy : y < 18446744073709551616) (w : World) :
    Calls Tryz.prog 113 #[.int .u64 x, .int .u64 y] w fun e w' => e = .returned (.tuple #[.int .u64 ((x * y / 18446744073709551616 : Nat) : Int), .int .u64 ((x * y % 18446744073709551616 : Nat) : Int)]) ∧ w' = w := by
  obtain ⟨bd, bt, bw, hhi⟩ := Lib.mul64_hi x y hx hy
  have ba := Lib.half_mul_le (a := x / 4294967296) (b := y / 4294967296) (by omega) (by omega)
  have bb := Lib.half_mul_le (a := x / 4294967296) (b := y % 4294967296) (by omega) (by omega)
  have bc := Lib.half_mul_le (a := x % 4294967296) (b := y / 4294967296) (by omega) (by omega)
  have ba' : x / 4294967296 * (y / 4294967296) < 18446744073709551616 := by omega
  have bb' : x / 4294967296 * (y % 4294967296) < 18446744073709551616 := by omega
  have bc' : x % 4294967296 * (y / 4294967296) < 18446744073709551616 := by omega
  have bh1 : x / 4294967296 * (y / 4294967296) + (x / 4294967296 * (y % 4294967296) + x % 4294967296 * (y % 4294967296) / 4294967296) / 4294967296 < 18446744073709551616 := by omega
  have bh : x / 4294967296 * (y / 4294967296) + (x / 4294967296 * (y % 4294967296) + x % 4294967296 * (y % 4294967296) / 4294967296) / 4294967296 + ((x / 4294967296 * (y % 4294967296) + x % 4294967296 * (y % 4294967296) / 4294967296) % 4294967296 + x % 4294967296 * (y / 4294967296)) / 4294967296 < 18446744073709551616 := by omega
  go_enter Tryz.func113, Tryz.ntmps113
  go_wp2
  simp only [Mul64.maskN x hx, Mul64.maskN y hy, Mul64.divN, Mul64.mulN, Mul64.addN, Mul64.wrapN _ bd, Mul64.wrapN _ bb', Mul64.wrapN _ bt, Mul64.maskN _ bt, Mul64.wrapN _ bc', Mul64.wrapN _ bw, Mul64.wrapN _ ba', Mul64.wrapN _ bh1, Mul64.wrapN _ bh, Mul64.wrapM (x * y)]
  rw [hhi]
  go_ret2
  exact ⟨rfl, rfl⟩
theorem u64_wrap (a : Nat) (ha : a < 18446744073709551616) : IntKind.u64.wrap (a : Int) = (a : Int) := by rw [IntKind.wrap_u64]; omega
theorem add64_int (x y c : Int) (hx : 0 ≤ x) (hy : 0 ≤ y) (hc0 : 0 ≤ c) (hc : c ≤ 1) (w : World) : (callFunc 114 #[.int .u64 x, .int .u64 y, .int .u64 c]).run Tryz.prog w =
    .ok (.value (.tuple #[.int .u64 ((x + y + c) % 18446744073709551616), .int .u64 ((x + y + c) / 18446744073709551616)])) w := by
  rw [run_callFunc_extern Tryz.func114 (by kernel_rfl) (by kernel_rfl) (by kernel_rfl) (e := add64Entry) (by kernel_rfl), run_add64 x y c hx hy hc0 hc]
  rfl
theorem add64_zero (x y : Int) (hx : 0 ≤ x) (hy : 0 ≤ y) (w : World) : (callFunc 114 #[.int .u64 x, .int .u64 y, .int .u64 0]).run Tryz.prog w =
    .ok (.value (.tuple #[.int .u64 ((x + y) % 18446744073709551616), .int .u64 ((x + y) / 18446744073709551616)])) w := by
  simpa using add64_int x y 0 hx hy (Int.le_refl 0) (by decide) w
theorem ret2 {v1 v2 u1 u2 : Value} (h1 : v1 = u1) (h2 : v2 = u2) : Ending.returned (.tuple #[v1, v2]) = .returned (.tuple #[u1, u2]) := by rw [h1, h2]
theorem mad_num (p m n : Nat) (h : p + m + n < 340282366920938463463374607431768211456) :
    IntKind.u64.wrap (IntKind.u64.wrap (((p / 18446744073709551616 : Nat) : Int) + (((p % 18446744073709551616 : Nat) : Int) + m) / 18446744073709551616) + ((((p % 18446744073709551616 : Nat) : Int) + m) % 18446744073709551616 + n) / 18446744073709551616) = (((p + m + n) / 18446744073709551616 : Nat) : Int)
    ∧ (((p % 18446744073709551616 : Nat) : Int) + m + n) % 18446744073709551616 = (((p + m + n) % 18446744073709551616 : Nat) : Int) := by
  simp only [IntKind.wrap_u64]; omega
set_option maxHeartbeats 1000000 in
theorem mad_any (x y m n : Nat) (hx : x < 18446744073709551616) (hy : y < 18446744073709551616) (hm : m < 18446744073709551616) (hn : n < 18446744073709551616) (w : World) :
    Calls Tryz.prog 104 #[.int .u64 x, .int .u64 y, .int .u64 m, .int .u64 n] w fun e w' => e = .returned (.tuple #[.int .u64 (((x * y + m + n) / 18446744073709551616 : Nat) : Int), .int .u64 (((x * y + m + n) % 18446744073709551616 : Nat) : Int)]) ∧ w' = w := by
  have hw := word_mul hx hy hm hn
  have HN : Hid _ := mad_num (x * y) m n hw
  clear hw
  go_enter Tryz.func104, Tryz.ntmps104
  go_wp2_with fail
  refine (mul64_any x y hx hy _).mono ?_
  rintro e w' ⟨rfl, rfl⟩
  generalize hp : x * y = p at *
  generalize hq : p / 18446744073709551616 = q at *
  generalize hr : p % 18446744073709551616 = r at *
  have h1 : (0 : Int) ≤ (r : Int) := by omega
  have h2 : (0 : Int) ≤ (m : Int) := by omega
  have h3 : (0 : Int) ≤ (n : Int) := by omega
  have h4 : (0 : Int) ≤ ((r : Int) + m) % 18446744073709551616 := by omega
  have HP : Hid _ := hp
  have HQ : Hid _ := hq
  have HR : Hid _ := hr
  clear hp hq hr
  go_wp2_with (first | simp only [add64_zero _ _ h1 h2] | simp only [add64_zero _ _ h4 h3])
  go_ret2
  obtain ⟨e1, e2⟩ := HN.out
  rw [HP.out]
  exact ⟨ret2 (congrArg (Value.int .u64) e1) (congrArg (Value.int .u64) e2), rfl⟩
end Go.Proofs.YtobgimpkkjaolaaGreatDoor.Sc
/- Rows of words and bytes in memory: what lies in a block, how it is read and written; numbers as rows. -/
namespace Go.Proofs.YtobgimpkkjaolaaGreatDoor.Sc
open Go.RowKit
theorem hide {p : Prop} (h : p) : Hid p := h
def na (l : List Nat) : Array Value := (l.map fun (n : Nat) => Value.int .u64 (n : Int)).toArray
theorem na_get (l : List Nat) (k : Nat) (h : k < l.length) : (na l)[k]? = some (.int .u64 ((l.getD k 0 : Nat) : Int)) := by
  simp [na, List.getD_eq_getElem?_getD, h]
theorem na_set (l : List Nat) (k n : Nat) : (na l).setIfInBounds k (.int .u64 (n : Int)) = na (l.set k n) := by
  simp [na, List.map_set]
theorem na4 (a b c d : Nat) : na [a, b, c, d] = #[.int .u64 (a : Int), .int .u64 (b : Int), .int .u64 (c : Int), .int .u64 (d : Int)] := rfl
theorem heap_alloc_last3 (w : World) (a b c : Obj) : (((w.alloc a).alloc b).alloc c).heap[w.heap.size + 1 + 1]? = some c := by
  have h := heap_alloc_last ((w.alloc a).alloc b) c
  simpa using h
theorem heap_alloc_mid3 (w : World) (a b c : Obj) : (((w.alloc a).alloc b).alloc c).heap[w.heap.size + 1]? = some b := by
  rw [Below.heap_alloc _ _ _ (by simp)]
  have h := heap_alloc_last (w.alloc a) b
  simpa using h
theorem Below.setRow {B : Nat} {a w : World} (h : Below B a w) (g : Nat) (cs : Array Value) (hg : B ≤ g) : Below B a (w.setRow g cs) :=
  h.trans ⟨rfl, rfl, rfl, by simp, fun k hk => setRow_other w g k cs (by omega)⟩
theorem below3 (w : World) (a b c : Obj) : Below w.heap.size w (((w.alloc a).alloc b).alloc c) :=
  (((Below.refl _ _).alloc (Nat.le_refl _) _).alloc (by simp) _).alloc (by simp; omega) _
theorem heap2_0 (w : World) (a b : Obj) : ((w.alloc a).alloc b).heap[w.heap.size]? = some a := by
  rw [Below.heap_alloc _ _ _ (by simp), heap_alloc_last]
theorem heap2_1 (w : World) (a b : Obj) : ((w.alloc a).alloc b).heap[w.heap.size + 1]? = some b := by
  have h := heap_alloc_last (w.alloc a) b
  simpa using h
theorem below2 (w : World) (a b : Obj) : Below w.heap.size w ((w.alloc a).alloc b) :=
  ((Below.refl _ _).alloc (Nat.le_refl _) _).alloc (by simp) _
theorem set4_row {w : World} {g : Nat} {x0 x1 x2 x3 v0 v1 v2 v3 : Value} {t : TypeId} (h : w.heap[g]? = some (.cells #[x0, x1, x2, x3] t (0, 0))) :
    ((((w.setCell ⟨g, 0, none⟩ v0).setCell ⟨g, 1, none⟩ v1).setCell ⟨g, 2, none⟩ v2).setCell ⟨g, 3, none⟩ v3).heap[g]? = some (.cells #[v0, v1, v2, v3] t (0, 0)) := by
  have h1 := heap_setCell_same w g 0 _ t v0 h
  have h2 := heap_setCell_same _ g 1 _ t v1 h1
  have h3 := heap_setCell_same _ g 2 _ t v2 h2
  exact heap_setCell_same _ g 3 _ t v3 h3
theorem set4_other {w : World} {g k : Nat} (v0 v1 v2 v3 : Value) (h : k ≠ g) :
    ((((w.setCell ⟨g, 0, none⟩ v0).setCell ⟨g, 1, none⟩ v1).setCell ⟨g, 2, none⟩ v2).setCell ⟨g, 3, none⟩ v3).heap[k]? = w.heap[k]? := by
  rw [heap_setCell_other _ _ _ _ (by simpa using h), heap_setCell_other _ _ _ _ (by simpa using h), heap_setCell_other _ _ _ _ (by simpa using h), heap_setCell_other _ _ _ _ (by simpa using h)]
theorem Below.set4 {B : Nat} {a w : World} (h : Below B a w) {g : Nat} (hg : B ≤ g) (v0 v1 v2 v3 : Value) :
    Below B a ((((w.setCell ⟨g, 0, none⟩ v0).setCell ⟨g, 1, none⟩ v1).setCell ⟨g, 2, none⟩ v2).setCell ⟨g, 3, none⟩ v3) :=
  (((h.setCell hg _).setCell hg _).setCell hg _).setCell hg _
theorem Below.heap {B : Nat} {W w1 : World} (h : Below B W w1) {g : Nat} {o : Obj} (hg : g < B) (hr : W.heap[g]? = some o) : w1.heap[g]? = some o := (h.block g hg).trans hr
theorem row_reads {w : World} {g : Nat} {cs : Array Value} {t : TypeId} (h : w.heap[g]? = some (.cells cs t (0, 0))) : (∀ i, w.cell? ⟨g, i, none⟩ = cs[i]?) ∧ (∀ i, w.frozen? ⟨g, i, none⟩ = false) :=
  ⟨fun _ => cell_of_row _ _ _ _ _ _ h, fun _ => frozen_of_row _ _ _ _ _ h⟩
theorem na8 (a b c d e f g i : Nat) : na [a, b, c, d, e, f, g, i] = #[.int .u64 (a : Int), .int .u64 (b : Int), .int .u64 (c : Int), .int .u64 (d : Int), .int .u64 (e : Int), .int .u64 (f : Int), .int .u64 (g : Int), .int .u64 (i : Int)] := rfl
theorem heap_alloc_last4 (w : World) (a b c d : Obj) : ((((w.alloc a).alloc b).alloc c).alloc d).heap[w.heap.size + 1 + 1 + 1]? = some d := by
  have h := heap_alloc_last (((w.alloc a).alloc b).alloc c) d
  simpa using h
def el (n : Nat) : Array Value := #[.int .u64 ((n % 18446744073709551616 : Nat) : Int), .int .u64 ((n / 18446744073709551616 % 18446744073709551616 : Nat) : Int), .int .u64 ((n / 340282366920938463463374607431768211456 % 18446744073709551616 : Nat) : Int), .int .u64 ((n / 6277101735386680763835789423207666416102355444464034512896 % 18446744073709551616 : Nat) : Int)]
theorem el_open (x : Nat) (hx : x < 115792089237316195423570985008687907853269984665640564039457584007913129639936) : ∃ a b c d : Nat, el x = #[.int .u64 (a : Int), .int .u64 (b : Int), .int .u64 (c : Int), .int .u64 (d : Int)] ∧ (a < 18446744073709551616 ∧ b < 18446744073709551616 ∧ c < 18446744073709551616 ∧ d < 18446744073709551616) ∧ val [a, b, c, d] = x := by
  refine ⟨_, _, _, _, rfl, ?_, ?_⟩
  · omega
  · rw [val4]; omega
theorem el_close {a b c d x : Nat} (h : a < 18446744073709551616 ∧ b < 18446744073709551616 ∧ c < 18446744073709551616 ∧ d < 18446744073709551616) (hv : val [a, b, c, d] = x) : #[.int .u64 (a : Int), .int .u64 (b : Int), .int .u64 (c : Int), .int .u64 (d : Int)] = el x := by
  rw [val4] at hv
  have e1 : x % 18446744073709551616 = a := by omega
  have e2 : x / 18446744073709551616 % 18446744073709551616 = b := by omega
  have e3 : x / 340282366920938463463374607431768211456 % 18446744073709551616 = c := by omega
  have e4 : x / 6277101735386680763835789423207666416102355444464034512896 % 18446744073709551616 = d := by omega
  unfold el
  rw [e1, e2, e3, e4]
theorem val_word : ∀ (l : List Nat) (q : Nat), lim l → val l / 18446744073709551616 ^ q % 18446744073709551616 = l.getD q 0 := by
  intro l
  induction l with
  | nil => intro q _; simp [val]
  | cons x t ih =>
    intro q h
    have hx := h 0
    simp only [List.getD_cons_zero] at hx
    cases q with
    | zero => simp only [val, Nat.pow_zero, Nat.div_one, List.getD_cons_zero]; omega
    | succ q =>
      rw [List.getD_cons_succ, ← ih q (fun i => h (i + 1)), val, Nat.pow_succ, Nat.mul_comm (18446744073709551616 ^ q) 18446744073709551616, ← Nat.div_div_eq_div_mul]
      congr 2; omega
def wd (x q : Nat) : Nat := x / 18446744073709551616 ^ q % 18446744073709551616
theorem wd_lt (x q : Nat) : wd x q < 18446744073709551616 := Nat.mod_lt _ (by decide)
def el8 (n : Nat) : Array Value := na [wd n 0, wd n 1, wd n 2, wd n 3, wd n 4, wd n 5, wd n 6, wd n 7]
theorem el8_close {l : List Nat} {x : Nat} (hl : l.length = 8) (h : lim l) (hv : val l = x) : na l = el8 x := by
  have h0 := val_word l 0 h
  have h1 := val_word l 1 h
  have h2 := val_word l 2 h
  have h3 := val_word l 3 h
  have h4 := val_word l 4 h
  have h5 := val_word l 5 h
  have h6 := val_word l 6 h
  have h7 := val_word l 7 h
  rw [hv] at h0 h1 h2 h3 h4 h5 h6 h7
  unfold el8 wd
  rw [h0, h1, h2, h3, h4, h5, h6, h7]
  obtain ⟨a, b, c, d, e, f, g, i, rfl⟩ := eight hl
  rfl
theorem wd_val (x : Nat) : ∀ n, ∀ l : List Nat, l.length = n → (∀ i, i < n → l.getD i 0 = wd x i) → val l = x % 18446744073709551616 ^ n := by
  intro n
  induction n generalizing x with
  | zero =>
    intro l hl _
    have : l = [] := List.eq_nil_of_length_eq_zero hl
    subst this; simp [val, Nat.mod_one]
  | succ n ih =>
    intro l hl hw
    cases l with
    | nil => simp at hl
    | cons a t =>
      have ha := hw 0 (by omega)
      have ht := ih (x / 18446744073709551616) t (by simpa using hl) (fun i hi => by
        have := hw (i + 1) (by omega)
        rw [List.getD_cons_succ] at this
        rw [this, wd, wd, Nat.pow_succ, Nat.mul_comm, Nat.div_div_eq_div_mul])
      simp only [List.getD_cons_zero, wd, Nat.pow_zero, Nat.div_one] at ha
      rw [val, ht, ha, Nat.pow_succ, Nat.mul_comm (18446744073709551616 ^ n), Nat.mod_mul]
theorem el8_open (x : Nat) (hx : x < 18446744073709551616 ^ 8) : ∃ l : List Nat, el8 x = na l ∧ l.length = 8 ∧ lim l ∧ val l = x := by
  refine ⟨_, rfl, rfl, ?_, ?_⟩
  · intro i
    match i with
    | 0 | 1 | 2 | 3 | 4 | 5 | 6 | 7 => exact wd_lt _ _
    | i + 8 => simp
  · rw [wd_val x 8 _ rfl, Nat.mod_eq_of_lt hx]
    intro i hi
    match i, hi with
    | 0, _ | 1, _ | 2, _ | 3, _ | 4, _ | 5, _ | 6, _ | 7, _ => rfl
theorem el_na {l : List Nat} {x : Nat} (hl : l.length = 4) (h : lim l) (hv : val l = x) : na l = el x := by
  obtain ⟨a, b, c, d, rfl⟩ := four hl
  exact el_close (lim4 h) hv
theorem heap3_0 (w : World) (a b c : Obj) : (((w.alloc a).alloc b).alloc c).heap[w.heap.size]? = some a := by
  rw [Below.heap_alloc _ _ _ (by simp; omega)]; exact heap2_0 _ _ _
theorem and_one (a : Nat) (ha : a < 18446744073709551616) : bits BinOp.and IntKind.u64 (a : Int) 1 = ((a % 2 : Nat) : Int) := by
  have h := bits_and_u64_nat a 1 ha (by omega)
  have e : a &&& 1 = a % 2 := Nat.and_two_pow_sub_one_eq_mod a 1
  rw [e] at h
  exact h
def ba (l : List Nat) : Array Value := (l.map fun (n : Nat) => Value.int .u8 (n : Int)).toArray
theorem ba_get (l : List Nat) (k : Nat) (h : k < l.length) : (ba l)[k]? = some (.int .u8 ((l.getD k 0 : Nat) : Int)) := by
  simp [ba, List.getD_eq_getElem?_getD, h]
theorem ba_set (l : List Nat) (k n : Nat) : (ba l).setIfInBounds k (.int .u8 (n : Int)) = ba (l.set k n) := by
  simp [ba, List.map_set]
def byt (x i : Nat) : Nat := x / 256 ^ i % 256
def bys (x : Nat) : Nat → List Nat
  | 0 => List.replicate 32 0
  | k + 1 => (bys x k).set k (byt x k)
theorem bys_len (x : Nat) : ∀ k, (bys x k).length = 32
  | 0 => by simp [bys]
  | k + 1 => by simp [bys, bys_len x k]
theorem bys_get (x : Nat) : ∀ k i, k ≤ 32 → (bys x k).getD i 0 = if i < k then byt x i else 0
  | 0, i, _ => by
    show (List.replicate 32 0).getD i 0 = _
    rw [if_neg (by omega), List.getD_eq_getElem?_getD, List.getElem?_replicate]
    split <;> rfl
  | k + 1, i, h => by
    have ih := bys_get x k i (by omega)
    rw [bys]
    by_cases e : k = i
    · subst e
      have hl := bys_len x k
      simp [List.getD_eq_getElem?_getD, hl, show k < 32 by omega]
    · rw [getD_set_ne' e, ih]
      by_cases h1 : i < k
      · rw [if_pos h1, if_pos (by omega)]
      · rw [if_neg h1, if_neg (by omega)]
theorem byt_word (x i : Nat) : (x / 18446744073709551616 ^ (i / 8) % 18446744073709551616) / 2 ^ (i % 8 * 8) % 256 = byt x i := by
  unfold byt
  have h1 : (18446744073709551616 : Nat) = 2 ^ (i % 8 * 8) * (256 * 2 ^ (56 - i % 8 * 8)) := by
    rw [show (256 : Nat) = 2 ^ 8 from rfl, ← Nat.pow_add, ← Nat.pow_add, show i % 8 * 8 + (8 + (56 - i % 8 * 8)) = 64 by omega]
  have h2 : (18446744073709551616 : Nat) ^ (i / 8) * 2 ^ (i % 8 * 8) = 256 ^ i := by
    rw [show (18446744073709551616 : Nat) = 2 ^ 64 from rfl, show (256 : Nat) = 2 ^ 8 from rfl, ← Nat.pow_mul, ← Nat.pow_mul, ← Nat.pow_add]
    congr 1; omega
  rw [← h2, ← Nat.div_div_eq_div_mul]
  generalize x / 18446744073709551616 ^ (i / 8) = y
  rw [h1, Nat.mod_mul_right_div_self, Nat.mod_mul_right_mod]
theorem make32 (w : World) : (Instr.makeSlice 22 (.int .i64 32) (.int .i64 32)).run Tryz.prog w = .ok (.slice (some ⟨w.heap.size, 0, none⟩) 32 32) (w.alloc (.cells (ba (List.replicate 32 0)) 5)) := by kernel_rfl
def BsAt (w : World) (v : Value) (bs : List Nat) : Prop :=
  ∃ (b o c : Nat) (ao : Option Addr), v = .slice ao bs.length c ∧ bs.length ≤ c ∧ c ≤ maxLen ∧ (∀ i, bs.getD i 0 < 256) ∧ (bs ≠ [] → ao = some ⟨b, o, none⟩ ∧ b < w.heap.size ∧ ∀ i, i < bs.length → w.cell? ⟨b, o + i, none⟩ = some (.int .u8 ((bs.getD i 0 : Nat) : Int)))
theorem BsAt.ext {W w : World} {v : Value} {bs : List Nat} (h : BsAt W v bs) (he : Below W.heap.size W w) : BsAt w v bs := by
  obtain ⟨b, o, c, ao, e, hc, hm, hl, hh⟩ := h
  refine ⟨b, o, c, ao, e, hc, hm, hl, fun hne => ?_⟩
  obtain ⟨e1, hb, hr⟩ := hh hne
  exact ⟨e1, Nat.lt_of_lt_of_le hb he.size, fun i hi => (Below.cell (p := ⟨b, o + i, none⟩) he hb).trans (hr i hi)⟩
def bval : List Nat → Nat
  | [] => 0
  | x :: t => x + 256 * bval t
theorem bval_take : ∀ (l : List Nat) (k : Nat), k < l.length → bval (l.take (k + 1)) = bval (l.take k) + 256 ^ k * l.getD k 0
  | [], k, h => absurd h (by simp)
  | x :: t, 0, _ => by simp [bval]
  | x :: t, k + 1, h => by
    have ih := bval_take t k (by simpa using h)
    rw [List.take_succ_cons, List.take_succ_cons, bval, bval, ih, List.getD_cons_succ, Nat.pow_succ, Nat.mul_add]
    rw [Nat.mul_comm (256 ^ k) 256, Nat.mul_assoc]
    omega
theorem bval_lt : ∀ {l : List Nat}, (∀ i, l.getD i 0 < 256) → ∀ k, bval (l.take k) < 256 ^ k
  | [], _, k => by simp [bval]; exact Nat.pow_pos (by decide)
  | x :: t, h, 0 => by simp [bval]
  | x :: t, h, k + 1 => by
    have ih := bval_lt (l := t) (fun i => h (i + 1)) k
    have hx := h 0
    simp only [List.getD_cons_zero] at hx
    simp only [List.take_succ_cons, bval, Nat.pow_succ]
    omega
theorem or_byte (y x s : Nat) (hy : y < 2 ^ s) (hx : x < 256) (hs : s + 8 ≤ 64) : bits .or .u64 (y : Int) (IntKind.u64.wrap ((x : Int) * 2 ^ s)) = ((y + 2 ^ s * x : Nat) : Int) := by
  have h1 : x * 2 ^ s < 18446744073709551616 := by
    have : x * 2 ^ s < 256 * 2 ^ s := (Nat.mul_lt_mul_right (Nat.two_pow_pos s)).2 hx
    have h2 : 256 * 2 ^ s ≤ 2 ^ 64 := by
      rw [show (256 : Nat) = 2 ^ 8 from rfl, ← Nat.pow_add]; exact Nat.pow_le_pow_right (by decide) (by omega)
    omega
  have h3 : 2 ^ s ≤ 2 ^ 64 := Nat.pow_le_pow_right (by decide) (by omega)
  have e : IntKind.u64.wrap ((x : Int) * 2 ^ s) = ((x * 2 ^ s : Nat) : Int) := by
    rw [show ((x : Int) * 2 ^ s) = ((x * 2 ^ s : Nat) : Int) by simp]
    exact u64_wrap _ h1
  rw [e, bits_or_u64_nat _ _ (by omega) h1, Nat.or_comm, Nat.mul_comm x, ← Nat.two_pow_add_eq_or_of_lt hy, Nat.add_comm]
theorem val_ge : ∀ (l : List Nat) (j : Nat), 18446744073709551616 ^ j * l.getD j 0 ≤ val l
  | [], j => by simp
  | x :: t, 0 => by simp [val]
  | x :: t, j + 1 => by
    have ih := val_ge t j
    rw [List.getD_cons_succ, val, Nat.pow_succ, Nat.mul_comm (18446744073709551616 ^ j), Nat.mul_assoc]
    omega
theorem word_small {l : List Nat} {s j : Nat} (_ : s + 8 ≤ 64) (h : val l < 18446744073709551616 ^ j * 2 ^ s) : l.getD j 0 < 2 ^ s := by
  have h1 := val_ge l j
  exact Nat.lt_of_mul_lt_mul_left (Nat.lt_of_le_of_lt h1 h)
theorem word_pow (k : Nat) : (18446744073709551616 : Nat) ^ (k / 8) * 2 ^ (k % 8 * 8) = 256 ^ k := by
  rw [show (18446744073709551616 : Nat) = 2 ^ 64 from rfl, show (256 : Nat) = 2 ^ 8 from rfl, ← Nat.pow_mul, ← Nat.pow_mul, ← Nat.pow_add]
  congr 1; omega
theorem word_fits {y x s : Nat} (hy : y < 2 ^ s) (hx : x < 256) (hs : s + 8 ≤ 64) : y + 2 ^ s * x < 18446744073709551616 := by
  have h1 : y + 2 ^ s * x < 2 ^ s * 256 := by
    have : 2 ^ s * x + 2 ^ s ≤ 2 ^ s * 256 := by rw [← Nat.mul_succ]; exact Nat.mul_le_mul_left _ hx
    omega
  have h2 : 2 ^ s * 256 ≤ 2 ^ 64 := by
    rw [show (256 : Nat) = 2 ^ 8 from rfl, ← Nat.pow_add]; exact Nat.pow_le_pow_right (by decide) hs
  omega
theorem Below.chain {w a b : World} (h : Below w.heap.size w a) (k : Below a.heap.size a b) : Below w.heap.size w b := h.trans (k.mono h.size)
structure At (w W : World) (rows : List (Nat × Array Value × TypeId)) : Prop where
  rows : ∀ p A T, (p, A, T) ∈ rows → W.heap[p]? = some (.cells A T (0, 0)) ∧ p < W.heap.size
  below : Below w.heap.size w W
theorem At.nil {w W : World} (h : Below w.heap.size w W) : At w W [] := ⟨fun _ _ _ hm => absurd hm (by simp), h⟩
theorem At.step {w W W' : World} {rows : List (Nat × Array Value × TypeId)} (h : At w W rows) (k : Below W.heap.size W W') : At w W' rows :=
  ⟨fun p A T hm => ⟨Below.heap k (h.rows p A T hm).2 (h.rows p A T hm).1, Nat.lt_of_lt_of_le (h.rows p A T hm).2 k.size⟩, Below.chain h.below k⟩
theorem At.alloc {w W : World} {rows : List (Nat × Array Value × TypeId)} (h : At w W rows) (A : Array Value) (T : TypeId) : At w (W.alloc (.cells A T)) ((W.heap.size, A, T) :: rows) := by
  refine ⟨fun p B U hm => ?_, h.below.alloc h.below.size _⟩
  rcases List.mem_cons.1 hm with e | e
  · cases e
    exact ⟨heap_alloc_last _ _, by simp⟩
  · have hr := h.rows p B U e
    exact ⟨(Below.heap_alloc _ _ _ hr.2).trans hr.1, by simp; omega⟩
theorem At.rd {w W : World} {rows : List (Nat × Array Value × TypeId)} (h : At w W rows) {p : Nat} {A : Array Value} {T : TypeId} (hm : (p, A, T) ∈ rows) (i : Nat) : W.cell? ⟨p, i, none⟩ = A[i]? := (row_reads (h.rows p A T hm).1).1 i
theorem BsAt.len {w : World} {v : Value} {bs : List Nat} (h : BsAt w v bs) : ∃ (ao : Option Addr) (c : Nat), v = .slice ao bs.length c ∧ bs.length ≤ c ∧ c ≤ 9223372036854775807 := by
  obtain ⟨b, o, c, ao, e, hc, hm, _⟩ := h
  exact ⟨ao, c, e, hc, by unfold maxLen at hm; omega⟩
theorem At.set4 {w W : World} {rows : List (Nat × Array Value × TypeId)} (h : At w W rows) {g : Nat} (hg : w.heap.size ≤ g) (hne : ∀ p A T, (p, A, T) ∈ rows → p ≠ g) (v0 v1 v2 v3 : Value) :
    At w ((((W.setCell ⟨g, 0, none⟩ v0).setCell ⟨g, 1, none⟩ v1).setCell ⟨g, 2, none⟩ v2).setCell ⟨g, 3, none⟩ v3) rows :=
  ⟨fun p A T hm => ⟨(set4_other _ _ _ _ (hne p A T hm)).trans (h.rows p A T hm).1, by simpa using (h.rows p A T hm).2⟩, Below.set4 h.below hg _ _ _ _⟩
theorem bit_word (l : List Nat) (hl : lim l) (j : Nat) : (l.getD (j / 64) 0) / 2 ^ (j % 64) % 2 = val l / 2 ^ j % 2 := by
  have key : ∀ (l : List Nat) (q : Nat), lim l → val l / 18446744073709551616 ^ q % 18446744073709551616 = l.getD q 0 := by
    intro l
    induction l with
    | nil => intro q _; simp [val]
    | cons x t ih =>
      intro q h
      have hx := h 0
      simp only [List.getD_cons_zero] at hx
      cases q with
      | zero => simp only [val, Nat.pow_zero, Nat.div_one, List.getD_cons_zero]; omega
      | succ q =>
        rw [List.getD_cons_succ, ← ih q (fun i => h (i + 1)), val, Nat.pow_succ, Nat.mul_comm (18446744073709551616 ^ q) 18446744073709551616, ← Nat.div_div_eq_div_mul]
        congr 2; omega
  rw [← key l (j / 64) hl]
  have h1 : (18446744073709551616 : Nat) = 2 ^ (j % 64) * (2 * 2 ^ (63 - j % 64)) := by
    rw [← Nat.pow_succ', ← Nat.pow_add, show j % 64 + (63 - j % 64).succ = 64 by omega]
  have h2 : (18446744073709551616 : Nat) ^ (j / 64) * 2 ^ (j % 64) = 2 ^ j := by
    rw [show (18446744073709551616 : Nat) = 2 ^ 64 from rfl, ← Nat.pow_mul, ← Nat.pow_add]
    congr 1; omega
  rw [← h2, ← Nat.div_div_eq_div_mul]
  generalize val l / 18446744073709551616 ^ (j / 64) = y
  rw [h1, Nat.mod_mul_right_div_self, Nat.mod_mul_right_mod]
end Go.Proofs.YtobgimpkkjaolaaGreatDoor.Sc
/- A number less the curve's order, as the program's call answers it, in any world where the order lies as the program's text lays it. -/
namespace Go.Proofs.YtobgimpkkjaolaaGreatDoor.Sc
open Go.RowKit
def ll : Nat := 7237005577332262213973186563042994240857116359379907606001950938285454250989
theorem ll_pos : 0 < ll := by decide
theorem ll_mod (n : Nat) : n % ll < ll := Nat.mod_lt _ ll_pos
def orw : List Nat := [6346243789798364141, 1503914060200516822, 0, 1152921504606846976]
theorem orw_lim : lim orw := lim4_mk (by decide)
theorem orw_val : val orw = ll := by decide +kernel
structure Laid (w : World) : Prop where
  cell : ∀ i, i < 4 → w.cell? ⟨0, i, none⟩ = some (.int .u64 ((orw.getD i 0 : Nat) : Int))
  lt : 0 < w.heap.size
theorem Laid.step {w w' : World} (h : Laid w) (k : Below w.heap.size w w') : Laid w' :=
  ⟨fun i hi => (Below.cell (p := ⟨0, i, none⟩) k h.lt).trans (h.cell i hi), Nat.lt_of_lt_of_le h.lt k.size⟩
theorem less_step {l : List Nat} {k x y b r b' P X Y : Nat} (hk : k < l.length) (hP : 18446744073709551616 ^ k = P) (hz : l.getD k 0 = 0) (hr : r + y + b = x + 18446744073709551616 * b')
    (h : val l + Y = X + b * P) : val (l.set k r) + (Y + P * y) = (X + P * x) + b' * 18446744073709551616 ^ (k + 1) := by
  have hs := val_set l k r hk
  rw [hP, hz] at hs
  rw [Nat.pow_succ, hP]
  have e : P * r + P * y + P * b = P * x + P * (18446744073709551616 * b') := by
    rw [← Nat.mul_add, ← Nat.mul_add, hr, Nat.mul_add]
  have e1 : b' * (P * 18446744073709551616) = P * (18446744073709551616 * b') := by
    rw [Nat.mul_comm b', Nat.mul_assoc]
  rw [Nat.mul_comm b P] at h
  omega
set_option maxRecDepth 100000 in
set_option maxHeartbeats 1000000 in
theorem take_list (la : List Nat) (ha : la.length = 4) (la' : lim la) (w : World) (hL : Laid w) :
    Calls Tryz.prog 53 #[.agg (na la)] w fun e w' => ∃ (l : List Nat), e = .returned (.tuple #[.agg (na l), .bool (decide (val la < ll))]) ∧ l.length = 4 ∧ lim l ∧ val l = (if val la < ll then val la else val la - ll) ∧ Below w.heap.size w w' := by
  obtain ⟨dd, hdd⟩ : ∃ dd, decide (val la < ll) = dd := ⟨_, rfl⟩
  obtain ⟨vv, hvv⟩ : ∃ vv, (if val la < ll then val la else val la - ll) = vv := ⟨_, rfl⟩
  rw [hdd, hvv]
  have HDD := hide hdd
  have HVV := hide hvv
  clear hdd hvv
  go_enter Tryz.func53, Tryz.ntmps53
  go_wp2
  go_loopw [5, 7] (fun c i wr => ∃ (k : Nat) (l : List Nat) (cn : Nat), k ≤ 4 ∧ i = .int .i64 k ∧ c = .int .u64 (cn : Int) ∧ cn ≤ 1 ∧ l.length = 4 ∧ lim l ∧ val l + val (orw.take k) = val (la.take k) + cn * 18446744073709551616 ^ k ∧ (∀ j, k ≤ j → l.getD j 0 = 0) ∧ wr.heap[w.heap.size]? = some (.cells (na la) 78 (0,0)) ∧ wr.heap[w.heap.size + 1]? = some (.cells #[.int .u64 0, .int .u64 0, .int .u64 0, .int .u64 0] 78 (0,0)) ∧ wr.heap[w.heap.size + 1 + 1]? = some (.cells (na l) 78 (0,0)) ∧ wr.heap.size = w.heap.size + 1 + 1 + 1 ∧ Below w.heap.size w wr) (fun _ i _ => 4 - (intOf i).toNat)
  case atStart =>
    refine ⟨0, [0, 0, 0, 0], 0, by omega, rfl, rfl, by omega, rfl, lim4_mk (by decide), by simp [val], ?_, heap3_0 _ _ _ _, heap_alloc_mid3 _ _ _ _, heap_alloc_last3 _ _ _ _, by simp, below3 _ _ _ _⟩
    intro j _
    match j with
    | 0 | 1 | 2 | 3 => rfl
    | j + 4 => simp
  case round =>
    obtain ⟨k, l, cn, hk, rfl, rfl, hcn, hl, hlim, hval, hz, hra, hr0, hrow, hsz, hbel⟩ := hrel
    by_cases hlt : k < 4
    · have hcell : wr.cell? ⟨w.heap.size, k, none⟩ = some (.int .u64 ((la.getD k 0 : Nat) : Int)) := by
        rw [cell_of_row _ _ _ _ _ _ hra, na_get _ _ (by omega)]
      have hcellb : wr.cell? ⟨0, k, none⟩ = some (.int .u64 ((orw.getD k 0 : Nat) : Int)) := ((hL.step hbel).cell k hlt)
      have hfro : wr.frozen? ⟨w.heap.size + 1 + 1, k, none⟩ = false := frozen_of_row _ _ _ _ _ hrow
      have hcl : wr.cell? ⟨w.heap.size + 1 + 1, k, none⟩ = some (.int .u64 ((l.getD k 0 : Nat) : Int)) := by
        rw [cell_of_row _ _ _ _ _ _ hrow, na_get _ _ (by omega)]
      have hx := la' k
      have hy := orw_lim k
      have HR := hide hrow
      have HB := hide hra
      have H0 := hide hr0
      have HV := hide hval
      have HT := hide (val_take orw k (by simpa [orw] using hlt))
      have HT2 := hide (val_take la k (by omega))
      have HL := hide hlim
      have HLB := hide la'
      have HN := hide hl
      have HZ := hide hz
      have HLD := hide hL
      clear hrow hra hr0 hval hlim la' hl hz hL
      generalize hgx : la.getD k 0 = x at *
      generalize hgy : orw.getD k 0 = y at *
      generalize hgz : l.getD k 0 = z at *
      have HX := hide hgx
      have HY := hide hgy
      clear hgx hgy hgz
      have ha1 := sub64_nat x y cn hcn
      have HS := hide (sub_word x y cn hx hy hcn)
      generalize hq : (if x < y + cn then 1 else 0 : Nat) = q at *
      generalize hr : (x + 18446744073709551616 - y - cn) % 18446744073709551616 = r at *
      have hq1 : q ≤ 1 := by rw [← hq]; split <;> omega
      have hr1 : r < 18446744073709551616 := by rw [← hr]; exact Nat.mod_lt _ (by decide)
      clear hq hr
      have b0 : (0 : Int) ≤ (k : Int) := by omega
      have b1 : (k : Int) < 4 := by omega
      go_wp2
      go_region
      go_wp2
      go_roundw
      case rel =>
        refine ⟨k + 1, l.set k r, q, by omega, by go_num, rfl, hq1, by rw [List.length_set, HN.out], lim_set HL.out _ _ hr1, ?_, ?_, ?_, ?_, ?_, ?_, ?_⟩
        · rw [HT.out, HT2.out]
          exact less_step (by rw [HN.out]; omega) rfl (HZ.out k (Nat.le_refl _)) HS.out HV.out
        · intro j hj
          rw [getD_set_ne' (by omega), HZ.out j (by omega)]
        · rw [heap_drew, heap_setCell_other _ _ _ _ (by simp; omega)]; exact HB.out
        · rw [heap_drew, heap_setCell_other _ _ _ _ (by simp)]; exact H0.out
        · rw [heap_drew, heap_setCell_same _ _ _ _ _ _ HR.out, na_set]
        · simpa [heap_drew] using hsz
        · exact (hbel.setCell (by simp; omega) _).drew
      case measure => simp [intOf]; omega
    · obtain ⟨x0, x1, x2, x3, rfl⟩ := four hl
      obtain ⟨y0, y1, y2, y3, rfl⟩ := four ha
      have hk4 : k = 4 := by omega
      rw [hk4, List.take_of_length_le (show orw.length ≤ 4 from Nat.le_refl _), List.take_of_length_le (show [y0, y1, y2, y3].length ≤ 4 from Nat.le_refl _), orw_val] at hval
      have hb1 := val_lt hlim
      have hb2 := val_lt la'
      rw [na4] at hrow hra
      simp only [List.length_cons, List.length_nil, Nat.reduceAdd] at hb1 hb2
      have HV : Hid (val [x0, x1, x2, x3] + ll = val [y0, y1, y2, y3] + cn * 115792089237316195423570985008687907853269984665640564039457584007913129639936) := hval
      have HL := hide hlim
      have HLA := hide la'
      obtain ⟨ra, rfa⟩ := row_reads hra
      obtain ⟨rl, rfl'⟩ := row_reads hrow
      obtain ⟨r0, rf0⟩ := row_reads hr0
      have H0 := hide hr0
      have HB1 : Hid (val [x0, x1, x2, x3] < 115792089237316195423570985008687907853269984665640564039457584007913129639936) := hb1
      have HB2 : Hid (val [y0, y1, y2, y3] < 115792089237316195423570985008687907853269984665640564039457584007913129639936) := hb2
      clear hval hlim hb1 hb2 la' hra hrow hz hL hr0
      have hcc : cn = 0 ∨ cn = 1 := by omega
      rcases hcc with rfl | rfl
      · have hd : dd = false := by rw [← HDD.out]; exact decide_eq_false (by have := HV.out; have := HB1.out; omega)
        have hnot : ¬ val [y0, y1, y2, y3] < ll := by have := HV.out; omega
        have HE : Hid (val [x0, x1, x2, x3] = vv) := by have h := HVV.out; rw [if_neg hnot] at h; show _ = _; have := HV.out; omega
        subst hd
        clear hnot
        go_wp2
        refine bodyPost_ret (v := .tuple #[.agg (na [x0, x1, x2, x3]), .bool false]) (by simp [results, Tryz.results53, go_sem, na4, r0]) rfl ⟨[x0, x1, x2, x3], rfl, rfl, HL.out, HE.out, Below.set4 hbel (by omega) _ _ _ _⟩
      · have hlt1 : val [y0, y1, y2, y3] < ll := by have := HV.out; have := HB1.out; have := HB2.out; omega
        have hd : dd = true := by rw [← HDD.out]; exact decide_eq_true hlt1
        have HE : Hid (val [y0, y1, y2, y3] = vv) := by have h := HVV.out; rw [if_pos hlt1] at h; exact h
        subst hd
        clear hlt1
        go_wp2
        refine bodyPost_ret (v := .tuple #[.agg (na [y0, y1, y2, y3]), .bool true]) (by simp [results, Tryz.results53, go_sem, na4, r0]) rfl ⟨[y0, y1, y2, y3], rfl, rfl, HLA.out, HE.out, Below.set4 hbel (by omega) _ _ _ _⟩
theorem take_any (x : Nat) (hx : x < 115792089237316195423570985008687907853269984665640564039457584007913129639936) (w : World) (hL : Laid w) :
    Calls Tryz.prog 53 #[.agg (el x)] w fun e w' => e = .returned (.tuple #[.agg (el (if x < ll then x else x - ll)), .bool (decide (x < ll))]) ∧ Below w.heap.size w w' := by
  obtain ⟨a, b, c, d, he, hb, hv⟩ := el_open x hx
  rw [he, ← na4]
  refine (take_list [a, b, c, d] rfl (lim4_mk hb) w hL).mono ?_
  rintro e w' ⟨l, rfl, hl, hlim, hvl, hbel⟩
  rw [hv] at hvl ⊢
  exact ⟨by rw [el_na hl hlim hvl], hbel⟩
end Go.Proofs.YtobgimpkkjaolaaGreatDoor.Sc
/- A number twice, and one bit more, as the program's call answers it, in any world. -/
namespace Go.Proofs.YtobgimpkkjaolaaGreatDoor.Sc
open Go.RowKit
theorem or_bit (x c : Nat) (hc : c ≤ 1) : bits .or .u64 (((x * 2 % 18446744073709551616 : Nat) : Int)) (c : Int) = (((x * 2 + c) % 18446744073709551616 : Nat) : Int) := by
  rw [bits_or_u64_nat _ _ (by omega) (by omega)]
  have e : x * 2 % 18446744073709551616 = 2 ^ 1 * (x % 9223372036854775808) := by omega
  rw [e, ← Nat.two_pow_add_eq_or_of_lt (by omega)]
  congr 1; omega
set_option maxRecDepth 100000 in
set_option maxHeartbeats 1000000 in
theorem bring_list (la : List Nat) (bt : Nat) (hbt : bt ≤ 1) (ha : la.length = 4) (la' : lim la) (w : World) :
    Calls Tryz.prog 105 #[.agg (na la), .int .u64 (bt : Int)] w fun e w' => ∃ (l : List Nat) (c : Nat), e = .returned (.agg (na l)) ∧ l.length = 4 ∧ lim l ∧ val l + c * 115792089237316195423570985008687907853269984665640564039457584007913129639936 = 2 * val la + bt ∧ Below w.heap.size w w' := by
  go_enter Tryz.func105, Tryz.ntmps105
  go_wp2
  go_loopw [1, 6] (fun c i wr => ∃ (k : Nat) (l : List Nat) (cn : Nat), k ≤ 4 ∧ i = .int .i64 k ∧ c = .int .u64 (cn : Int) ∧ cn ≤ 1 ∧ l.length = 4 ∧ lim l ∧ val l + cn * 18446744073709551616 ^ k + val (la.take k) = (val la + bt) + 2 * val (la.take k) ∧ (∀ i, k ≤ i → l.getD i 0 = la.getD i 0) ∧ wr.heap[w.heap.size]? = some (.cells (na l) 78 (0,0)) ∧ wr.heap[w.heap.size + 1]? = some (.cells #[.int .u64 0, .int .u64 0, .int .u64 0, .int .u64 0] 78 (0,0)) ∧ wr.heap.size = w.heap.size + 1 + 1 ∧ Below w.heap.size w wr) (fun _ i _ => 4 - (intOf i).toNat)
  case atStart =>
    exact ⟨0, la, bt, by omega, rfl, rfl, hbt, ha, la', by simp [val], fun _ _ => rfl, heap2_0 _ _ _, heap2_1 _ _ _, by simp, below2 _ _ _⟩
  case round =>
    obtain ⟨k, l, cn, hk, rfl, rfl, hcn, hl, hlim, hval, hold, hrow, hr0, hsz, hbel⟩ := hrel
    by_cases hlt : k < 4
    · have hcell : wr.cell? ⟨w.heap.size, k, none⟩ = some (.int .u64 ((l.getD k 0 : Nat) : Int)) := by
        rw [cell_of_row _ _ _ _ _ _ hrow, na_get _ _ (by omega)]
      have hfro : wr.frozen? ⟨w.heap.size, k, none⟩ = false := frozen_of_row _ _ _ _ _ hrow
      have hx := hlim k
      have HR := hide hrow
      have H0 := hide hr0
      have HV := hide hval
      have HT := hide (val_take la k (by omega))
      have HL := hide hlim
      have HN := hide hl
      have HO := hide hold
      have HK := hide (hold k (Nat.le_refl _))
      clear hrow hr0 hval hlim hl hold la' ha
      generalize hgx : l.getD k 0 = x at *
      have HX := hide hgx
      clear hgx
      have b0 : (0 : Int) ≤ (k : Int) := by omega
      have b1 : (k : Int) < 4 := by omega
      obtain ⟨q, hq⟩ : ∃ q, (x * 2 + cn) / 18446744073709551616 = q := ⟨_, rfl⟩
      obtain ⟨r, hr⟩ : ∃ r, (x * 2 + cn) % 18446744073709551616 = r := ⟨_, rfl⟩
      have hor : bits .or .u64 (IntKind.u64.wrap ((x : Int) * 2)) (cn : Int) = (r : Int) := by
        rw [← hr, ← or_bit x cn hcn, IntKind.wrap_u64]; congr 1
      have hsh : (x : Int) / 9223372036854775808 = (q : Int) := by omega
      have HQ := hide hq
      have HRr := hide hr
      have hq1 : q ≤ 1 := by omega
      clear hq hr
      go_wp2
      go_region
      go_wp2
      go_roundw
      case rel =>
        refine ⟨k + 1, l.set k r, q, by omega, by go_num, rfl, hq1, by rw [List.length_set, HN.out], lim_set HL.out _ _ ?_, ?_, ?_, ?_, ?_, ?_, ?_⟩
        · have := HRr.out; omega
        · rw [HT.out, ← HK.out, ← HQ.out, ← HRr.out]
          exact scale_step (by rw [HN.out]; omega) rfl HX.out HV.out
        · intro i hi
          rw [getD_set_ne' (by omega), HO.out i (by omega)]
        · rw [heap_drew, heap_setCell_same _ _ _ _ _ _ HR.out, na_set]
        · rw [heap_drew, heap_setCell_other _ _ _ _ (by simp)]; exact H0.out
        · simpa [heap_drew] using hsz
        · exact (hbel.setCell (by simp) _).drew
      case measure => simp [intOf]; omega
    · obtain ⟨x0, x1, x2, x3, rfl⟩ := four hl
      have hk4 : k = 4 := by omega
      rw [hk4, List.take_of_length_le (by omega)] at hval
      rw [na4] at hrow
      have HV := hide hval
      have HL := hide hlim
      obtain ⟨rl, rfl'⟩ := row_reads hrow
      obtain ⟨r0, rf0⟩ := row_reads hr0
      clear hval hlim hold hr0 hrow
      go_wp2
      refine bodyPost_ret (v := .agg (na [x0, x1, x2, x3])) (by simp [results, Tryz.results105, go_sem, na4, r0]) rfl ⟨[x0, x1, x2, x3], cn, rfl, rfl, HL.out, ?_, Below.set4 hbel (by omega) _ _ _ _⟩
      have := HV.out
      rw [show (18446744073709551616 : Nat) ^ 4 = 115792089237316195423570985008687907853269984665640564039457584007913129639936 from rfl] at this
      omega
theorem bring_any (x bt : Nat) (hbt : bt ≤ 1) (hx : x < ll) (w : World) :
    Calls Tryz.prog 105 #[.agg (el x), .int .u64 (bt : Int)] w fun e w' => e = .returned (.agg (el (2 * x + bt))) ∧ Below w.heap.size w w' := by
  have hx' : x < 7237005577332262213973186563042994240857116359379907606001950938285454250989 := hx
  obtain ⟨a, b, c, d, he, hb, hv⟩ := el_open x (by omega)
  rw [he, ← na4]
  refine (bring_list [a, b, c, d] bt hbt rfl (lim4_mk hb) w).mono ?_
  rintro e w' ⟨l, c, rfl, hl, hlim, hvl, hbel⟩
  rw [hv] at hvl
  have hll := val_lt hlim
  exact ⟨by rw [el_na hl hlim (x := 2 * x + bt) (by omega)], hbel⟩
end Go.Proofs.YtobgimpkkjaolaaGreatDoor.Sc
/- The number of bytes, their lowest four words, the bytes of words: as the program's calls answer them, in any world. -/
namespace Go.Proofs.YtobgimpkkjaolaaGreatDoor.Sc
open Go.RowKit
theorem z8_lim : lim [0, 0, 0, 0, 0, 0, 0, 0] := by
  intro i
  match i with
  | 0 | 1 | 2 | 3 | 4 | 5 | 6 | 7 => decide
  | i + 8 => simp
set_option maxRecDepth 100000 in
set_option maxHeartbeats 1000000 in
theorem from_any (v : Value) (bs : List Nat) (hlen : bs.length ≤ 64) (w : World) (hbs : BsAt w v bs) :
    Calls Tryz.prog 54 #[v] w fun e w' => e = .returned (.agg (el8 (bval bs))) ∧ Below w.heap.size w w' := by
  obtain ⟨b, o, c, ao, rfl, hc, hm, hl, hh⟩ := hbs
  unfold maxLen at hm
  go_enter Tryz.func54, Tryz.ntmps54
  go_wp2
  go_loopw [8] (fun i wr => ∃ (k : Nat) (l : List Nat), k ≤ bs.length ∧ i = .int .i64 k ∧ l.length = 8 ∧ lim l ∧ val l = bval (bs.take k) ∧ wr.heap[w.heap.size]? = some (.cells (na [0, 0, 0, 0, 0, 0, 0, 0]) 81 (0, 0)) ∧ wr.heap[w.heap.size + 1]? = some (.cells (na l) 81 (0, 0)) ∧ wr.heap.size = w.heap.size + 1 + 1 ∧ Below w.heap.size w wr) (fun i _ => bs.length - (intOf i).toNat)
  case atStart => exact ⟨0, [0, 0, 0, 0, 0, 0, 0, 0], by omega, rfl, rfl, z8_lim, by simp [val, bval], heap2_0 _ _ _, heap2_1 _ _ _, by simp, below2 _ _ _⟩
  case round =>
    obtain ⟨k, l, hk, rfl, hl8, hlim, hval, hA, hO, hS, hB⟩ := hrel
    by_cases hlt : k < bs.length
    · obtain ⟨rfl, hb, hcells⟩ := hh (fun e => by rw [e] at hlt; simp at hlt)
      have hcb := (Below.cell (p := ⟨b, o + k, none⟩) hB hb).trans (hcells k (by omega))
      have hcw := cell_of_row _ _ (k / 8) _ _ _ hO
      rw [na_get _ _ (by omega)] at hcw
      have hfro : wr.frozen? ⟨w.heap.size + 1, k / 8, none⟩ = false := frozen_of_row _ _ _ _ _ hO
      have hx := hl k
      have hy := word_small (s := k % 8 * 8) (j := k / 8) (by omega) (show val l < 18446744073709551616 ^ (k / 8) * 2 ^ (k % 8 * 8) by rw [hval, word_pow]; exact bval_lt hl k)
      have HT := hide (bval_take bs k (by omega))
      have HA := hide hA
      have HO := hide hO
      have HV := hide hval
      have HL := hide (And.intro hl8 hlim)
      have HC := hide (And.intro hl (And.intro hcells hb))
      clear hA hO hval hlim hl8 hh hl hcells
      generalize hgx : bs.getD k 0 = x at *
      generalize hgy : l.getD (k / 8) 0 = y at *
      have HY := hide hgy
      clear hgx hgy
      have hor := or_byte y x (k % 8 * 8) hy hx (by omega)
      have hlx : y + 2 ^ (k % 8 * 8) * x < 18446744073709551616 := word_fits hy hx (by omega)
      generalize hz : y + 2 ^ (k % 8 * 8) * x = z at *
      have HZ := hide hz
      have HYY := hide hy
      clear hz hy
      have b0 : (0 : Int) ≤ (k : Int) := by omega
      have b1 : (k : Int) < (bs.length : Int) := by omega
      have b2 : (0 : Int) ≤ (k : Int) / 8 := by omega
      have b3 : (k : Int) / 8 < 8 := by omega
      go_wp2
      go_region
      go_wp2
      go_roundw
      case rel =>
        refine ⟨k + 1, l.set (k / 8) z, by omega, by go_num, by rw [List.length_set, HL.out.1], lim_set HL.out.2 _ _ hlx, ?_, ?_, ?_, ?_, ?_⟩
        · have hvs := val_set l (k / 8) z (by rw [HL.out.1]; omega)
          rw [HY.out, ← HZ.out, Nat.mul_add, ← Nat.mul_assoc, word_pow] at hvs
          rw [HT.out, ← HV.out, ← HZ.out]
          omega
        · rw [heap_drew, heap_setCell_other _ _ _ _ (by simp)]; exact HA.out
        · rw [heap_drew, heap_setCell_same _ _ _ _ _ _ HO.out, na_set]
        · simpa [heap_drew] using hS
        · exact (hB.setCell (by simp) _).drew
      case measure => simp [intOf]; omega
    · have hkn : bs.take k = bs := List.take_of_length_le (by omega)
      rw [hkn] at hval
      have HE := hide (el8_close hl8 hlim hval)
      obtain ⟨x0, x1, x2, x3, x4, x5, x6, x7, rfl⟩ := eight hl8
      rw [na8] at hO hA
      obtain ⟨z1, z2⟩ := row_reads hO
      obtain ⟨r0, rf0⟩ := row_reads hA
      have HLT : Hid (¬ (k : Int) < (bs.length : Int)) := by show ¬ _; omega
      clear hA hO hval hlim hh hl hkn hl8
      go_wp2
      refine bodyPost_ret (v := .agg (na [x0, x1, x2, x3, x4, x5, x6, x7])) (by simp [results, Tryz.results54, go_sem, na8, r0]) rfl ⟨by rw [HE.out], ?_⟩
      exact (((((((hB.setCell (by simp) _).setCell (by simp) _).setCell (by simp) _).setCell (by simp) _).setCell (by simp) _).setCell (by simp) _).setCell (by simp) _).setCell (by simp) _
set_option maxRecDepth 100000 in
set_option maxHeartbeats 1000000 in
theorem low_any (x : Nat) (hx : x < 18446744073709551616 ^ 8) (w : World) :
    Calls Tryz.prog 55 #[.agg (el8 x)] w fun e w' => e = .returned (.agg (el (x % 115792089237316195423570985008687907853269984665640564039457584007913129639936))) ∧ Below w.heap.size w w' := by
  obtain ⟨l, he, hl, hlim, hv⟩ := el8_open x hx
  obtain ⟨x0, x1, x2, x3, x4, x5, x6, x7, rfl⟩ := eight hl
  rw [he, na8]
  go_enter Tryz.func55, Tryz.ntmps55
  go_wp2
  have h4' : lim [x0, x1, x2, x3] := lim4_mk ⟨hlim 0, hlim 1, hlim 2, hlim 3⟩
  refine bodyPost_ret (v := .agg (na [x0, x1, x2, x3])) (by simp [results, Tryz.results55, go_sem, na4]) rfl ⟨?_, below2 _ _ _⟩
  have h4 := val_lt h4'
  rw [val8] at hv
  rw [el_na rfl h4' (x := x % 115792089237316195423570985008687907853269984665640564039457584007913129639936)]
  simp only [List.length_cons, List.length_nil, Nat.reduceAdd] at h4
  omega
set_option maxRecDepth 100000 in
set_option maxHeartbeats 1000000 in
theorem bytes_any (x : Nat) (hx : x < 115792089237316195423570985008687907853269984665640564039457584007913129639936) (w : World) :
    Calls Tryz.prog 83 #[.agg (el x)] w fun e w' => ∃ g, e = .returned (.slice (some ⟨g, 0, none⟩) 32 32) ∧ w.heap.size ≤ g ∧ g < w'.heap.size ∧ w'.heap[g]? = some (.cells (ba (bys x 32)) 5 (0, 0)) ∧ Below w.heap.size w w' := by
  have hmk := make32
  obtain ⟨a, b, c, d, he, hb, hv⟩ := el_open x hx
  have hword : ∀ k, k < 32 → byt x k = (([a, b, c, d].getD (k / 8) 0) / 2 ^ (k % 8 * 8)) % 256 := by
    intro k hk
    rw [← byt_word x k]
    congr 2
    rw [val4] at hv
    have : k / 8 = 0 ∨ k / 8 = 1 ∨ k / 8 = 2 ∨ k / 8 = 3 := by omega
    rcases this with h | h | h | h <;> rw [h] <;> simp <;> omega
  have HW := hide hword
  rw [he]
  clear he hv hword hx
  go_enter Tryz.func83, Tryz.ntmps83
  go_wp2
  clear hmk
  have hA := heap2_0 w (.cells #[.int .u64 (a : Int), .int .u64 (b : Int), .int .u64 (c : Int), .int .u64 (d : Int)] 78) (.cells (ba (List.replicate 32 0)) 5)
  have hO := heap2_1 w (.cells #[.int .u64 (a : Int), .int .u64 (b : Int), .int .u64 (c : Int), .int .u64 (d : Int)] 78) (.cells (ba (List.replicate 32 0)) 5)
  have hB := below2 w (.cells #[.int .u64 (a : Int), .int .u64 (b : Int), .int .u64 (c : Int), .int .u64 (d : Int)] 78) (.cells (ba (List.replicate 32 0)) 5)
  have hS : ((w.alloc (.cells #[.int .u64 (a : Int), .int .u64 (b : Int), .int .u64 (c : Int), .int .u64 (d : Int)] 78)).alloc (.cells (ba (List.replicate 32 0)) 5)).heap.size = w.heap.size + 1 + 1 := by simp
  go_loopw [8] (fun i wr => ∃ k : Nat, k ≤ 32 ∧ i = .int .i64 k ∧ wr.heap[w.heap.size]? = some (.cells #[.int .u64 (a : Int), .int .u64 (b : Int), .int .u64 (c : Int), .int .u64 (d : Int)] 78 (0, 0)) ∧ wr.heap[w.heap.size + 1]? = some (.cells (ba (bys x k)) 5 (0, 0)) ∧ wr.heap.size = w.heap.size + 1 + 1 ∧ Below w.heap.size w wr) (fun i _ => 32 - (intOf i).toNat)
  case atStart => exact ⟨0, by omega, rfl, hA, hO, hS, hB⟩
  case round =>
    clear hA hO hS hB
    obtain ⟨k, hk, rfl, hA, hO, hS, hB⟩ := hrel
    by_cases hlt : k < 32
    · have hc := cell_of_row _ _ (k / 8) _ _ _ hA
      rw [← na4, na_get _ _ (by show k / 8 < 4; omega)] at hc
      have hc2 := cell_of_row _ _ k _ _ _ hO
      rw [ba_get _ _ (by rw [bys_len]; exact hlt)] at hc2
      have hfro : wr.frozen? ⟨w.heap.size + 1, k, none⟩ = false := frozen_of_row _ _ _ _ _ hO
      have HK := hide (HW.out k hlt)
      have HA := hide hA
      have HO := hide hO
      clear hA hO HW
      generalize [a, b, c, d].getD (k / 8) 0 = y at *
      generalize (bys x k).getD k 0 = z at *
      have b0 : (0 : Int) ≤ (k : Int) := by omega
      have b1 : (k : Int) < 32 := by omega
      have b2 : (0 : Int) ≤ (k : Int) / 8 := by omega
      have b3 : (k : Int) / 8 < 4 := by omega
      go_wp2
      have hv : (y : Int) / 2 ^ (k % 8 * 8) % 256 = ((byt x k : Nat) : Int) := by rw [HK.out]; simp
      rw [hv]
      refine ⟨⟨k + 1, by omega, by go_num, ?_, ?_, ?_, ?_⟩, by simp [intOf]; omega⟩
      · rw [heap_setCell_other _ _ _ _ (by simp)]; exact HA.out
      · rw [heap_setCell_same _ _ _ _ _ _ HO.out, ba_set, bys]
      · simpa using hS
      · exact hB.setCell (by simp) _
    · have hk32 : k = 32 := by omega
      rw [hk32] at hO
      have HO := hide hO
      clear hO hA HW
      go_wp2
      go_ret
      exact ⟨w.heap.size + 1, rfl, by omega, by omega, HO.out, hB⟩
end Go.Proofs.YtobgimpkkjaolaaGreatDoor.Sc
/- A product of two rows of words and a third one, as the program's call answers it, in any world. -/
namespace Go.Proofs.YtobgimpkkjaolaaGreatDoor.Sc
open Go.RowKit
structure TimesAt (w wr : World) (la lb l : List Nat) : Prop where
  a : wr.heap[w.heap.size]? = some (.cells (na la) 78 (0,0))
  b : wr.heap[w.heap.size + 1]? = some (.cells (na lb) 78 (0,0))
  o : wr.heap[w.heap.size + 1 + 1 + 1]? = some (.cells (na [0, 0, 0, 0, 0, 0, 0, 0]) 81 (0,0))
  p : wr.heap[w.heap.size + 1 + 1 + 1 + 1]? = some (.cells (na l) 81 (0,0))
  size : wr.heap.size = w.heap.size + 1 + 1 + 1 + 1 + 1
  below : Below w.heap.size w wr
theorem TimesAt.set {w wr : World} {la lb l : List Nat} (h : TimesAt w wr la lb l) (k n : Nat) : TimesAt w (wr.setCell ⟨w.heap.size + 1 + 1 + 1 + 1, k, none⟩ (.int .u64 (n : Int))) la lb (l.set k n) where
  a := by rw [heap_setCell_other _ _ _ _ (by simp; omega)]; exact h.a
  b := by rw [heap_setCell_other _ _ _ _ (by simp)]; exact h.b
  o := by rw [heap_setCell_other _ _ _ _ (by simp)]; exact h.o
  p := by rw [heap_setCell_same _ _ _ _ _ _ h.p, na_set]
  size := by simpa using h.size
  below := h.below.setCell (by simp; omega) _
theorem TimesAt.drew {w wr : World} {la lb l : List Nat} (h : TimesAt w wr la lb l) : TimesAt w wr.drew la lb l :=
  ⟨h.a, h.b, h.o, h.p, h.size, h.below.drew⟩
theorem mad_pair (x y m n q r : Nat) (hx : x < 18446744073709551616) (hy : y < 18446744073709551616) (hm : m < 18446744073709551616) (hn : n < 18446744073709551616) (hq : (x * y + m + n) / 18446744073709551616 = q) (hr : (x * y + m + n) % 18446744073709551616 = r) (w : World) :
    Calls Tryz.prog 104 #[.int .u64 x, .int .u64 y, .int .u64 m, .int .u64 n] w fun e w' => e = .returned (.tuple #[.int .u64 (q : Int), .int .u64 (r : Int)]) ∧ w' = w := by
  rw [← hq, ← hr]; exact mad_any x y m n hx hy hm hn w
set_option maxHeartbeats 2000000 in
theorem multiply_list (la lb lc : List Nat) (ha : la.length = 4) (hb : lb.length = 4) (hc : lc.length = 4) (la' : lim la) (lb' : lim lb) (lc' : lim lc) (w : World) :
    Calls Tryz.prog 81 #[.agg (na la), .agg (na lb), .agg (na lc)] w fun e w' => ∃ (l : List Nat), e = .returned (.agg (na l)) ∧ l.length = 8 ∧ lim l ∧ val l = val la * val lb + val lc ∧ Below w.heap.size w w' := by
  obtain ⟨c0, c1, c2, c3, rfl⟩ := four hc
  rw [na4]
  obtain ⟨vc, hvc⟩ : ∃ vc, val [c0, c1, c2, c3] = vc := ⟨_, rfl⟩
  rw [hvc]
  have HVC := hide hvc
  have HLC := hide lc'
  clear hvc lc' hc
  go_enter Tryz.func81, Tryz.ntmps81
  go_wp2
  go_loopw [20] (fun i wr => ∃ (m : Nat) (l : List Nat), m ≤ 4 ∧ i = .int .i64 m ∧ l.length = 8 ∧ lim l ∧ val l = val (la.take m) * val lb + vc ∧ (∀ i, m + 4 ≤ i → l.getD i 0 = 0) ∧ TimesAt w wr la lb l) (fun i _ => 4 - (intOf i).toNat)
  case atStart =>
    refine ⟨0, [c0, c1, c2, c3, 0, 0, 0, 0], by omega, rfl, rfl, ?_, ?_, ?_, ⟨?_, ?_, ?_, ?_, by simp, ?_⟩⟩
    · intro i
      match i with
      | 0 => exact HLC.out 0
      | 1 => exact HLC.out 1
      | 2 => exact HLC.out 2
      | 3 => exact HLC.out 3
      | 4 | 5 | 6 | 7 => exact Nat.zero_lt_succ _
      | i + 8 => simp
    · rw [← HVC.out]; simp [val]
    · intro i hi
      match i with
      | 0 | 1 | 2 | 3 => omega
      | 4 | 5 | 6 | 7 => rfl
      | i + 8 => simp
    · rw [Below.heap_alloc _ _ _ (by simp; omega), Below.heap_alloc _ _ _ (by simp; omega), Below.heap_alloc _ _ _ (by simp; omega), Below.heap_alloc _ _ _ (by simp), heap_alloc_last]
    · rw [Below.heap_alloc _ _ _ (by simp <;> omega), Below.heap_alloc _ _ _ (by simp)]; exact heap_alloc_mid3 _ _ _ _
    · rw [Below.heap_alloc _ _ _ (by simp)]; exact heap_alloc_last4 _ _ _ _ _
    · have h := heap_alloc_last ((((w.alloc (.cells (na la) 78)).alloc (.cells (na lb) 78)).alloc (.cells #[.int .u64 (c0 : Int), .int .u64 (c1 : Int), .int .u64 (c2 : Int), .int .u64 (c3 : Int)] 78)).alloc (.cells #[.int .u64 0, .int .u64 0, .int .u64 0, .int .u64 0, .int .u64 0, .int .u64 0, .int .u64 0, .int .u64 0] 81)) (.cells #[.int .u64 (c0 : Int), .int .u64 (c1 : Int), .int .u64 (c2 : Int), .int .u64 (c3 : Int), .int .u64 0, .int .u64 0, .int .u64 0, .int .u64 0] 81)
      simp only [World.size_alloc] at h
      exact h
    · exact ((below3 _ _ _ _).alloc (by simp; omega) _).alloc (by simp; omega) _
  case round =>
    obtain ⟨m, l, hm, rfl, hl, hlim, hval, hz, hat⟩ := hrel
    by_cases hlt : m < 4
    · have hlx := la' m
      obtain ⟨x, hgx⟩ : ∃ x, la.getD m 0 = x := ⟨_, rfl⟩
      rw [hgx] at hlx
      have HX := hide hgx
      clear hgx
      have HV := hide hval
      have HZ := hide hz
      have HTA : Hid (val (la.take (m + 1)) = val (la.take m) + 18446744073709551616 ^ m * x) := by have h := val_take la m (by omega); rw [HX.out] at h; exact h
      clear hval hz
      have hd : decide ((m : Int) < 4) = true := decide_eq_true (by omega)
      go_wp2
      clear hd
      go_loopw [9, 23] (fun c j wr => ∃ (k : Nat) (l' : List Nat) (cn : Nat), k ≤ 4 ∧ j = .int .i64 k ∧ c = .int .u64 (cn : Int) ∧ cn < 18446744073709551616 ∧ l'.length = 8 ∧ lim l' ∧ val l' + cn * 18446744073709551616 ^ (m + k) = val l + 18446744073709551616 ^ m * (x * val (lb.take k)) ∧ (∀ i, m + 4 ≤ i → l'.getD i 0 = 0) ∧ TimesAt w wr la lb l') (fun _ j _ => 4 - (intOf j).toNat)
      case atStart => exact ⟨0, l, 0, by omega, rfl, rfl, by omega, hl, hlim, by simp [val], HZ.out, hat⟩
      case round =>
        clear hat hl hlim
        obtain ⟨k, l2, cn, hk, rfl, rfl, hcn, hl, hlim, hval, hz, hat⟩ := hrel
        by_cases hlt2 : k < 4
        · have hca : wr.cell? ⟨w.heap.size, m, none⟩ = some (.int .u64 (x : Int)) := by
            rw [cell_of_row _ _ _ _ _ _ hat.a, na_get _ _ (by omega), HX.out]
          have hcb : wr.cell? ⟨w.heap.size + 1, k, none⟩ = some (.int .u64 ((lb.getD k 0 : Nat) : Int)) := by
            rw [cell_of_row _ _ _ _ _ _ hat.b, na_get _ _ (by omega)]
          have hcp : wr.cell? ⟨w.heap.size + 1 + 1 + 1 + 1, m + k, none⟩ = some (.int .u64 ((l2.getD (m + k) 0 : Nat) : Int)) := by
            rw [cell_of_row _ _ _ _ _ _ hat.p, na_get _ _ (by omega)]
          have hfro : wr.frozen? ⟨w.heap.size + 1 + 1 + 1 + 1, m + k, none⟩ = false := frozen_of_row _ _ _ _ _ hat.p
          have hly := lb' k
          have hlz := hlim (m + k)
          have HT := hide (val_take lb k (by omega))
          have HA := hide hat
          have HV2 := hide hval
          have HL := hide hlim
          have HN := hide hl
          have HZ2 := hide hz
          have HLA := hide la'
          have HLB := hide lb'
          clear hat hval hlim hl hz la' lb' ha hb
          generalize hgy : lb.getD k 0 = y at *
          generalize hgz : l2.getD (m + k) 0 = z at *
          have HGZ := hide hgz
          clear hgy hgz
          have HM := hide (word_mul hlx hly hlz hcn)
          have b0 : (0 : Int) ≤ (k : Int) := by omega
          have b1 : (k : Int) < 4 := by omega
          have b2 : (0 : Int) ≤ (m : Int) := by omega
          have b3 : (m : Int) < 4 := by omega
          generalize hn : m + k = n at *
          have hn1 : (m : Int) + (k : Int) = (n : Int) := by omega
          have hn2 : (n : Int) < 8 := by omega
          have hn3 : (0 : Int) ≤ (n : Int) := by omega
          have hn4 : IntKind.i64.wrap (n : Int) = (n : Int) := by rw [IntKind.wrap_i64]; omega
          have HNN := hide hn
          clear hn
          obtain ⟨q, hq⟩ : ∃ q, (x * y + z + cn) / 18446744073709551616 = q := ⟨_, rfl⟩
          obtain ⟨r, hr⟩ : ∃ r, (x * y + z + cn) % 18446744073709551616 = r := ⟨_, rfl⟩
          have hcall := mad_pair x y z cn q r hlx hly hlz hcn hq hr
          have HQ := hide hq
          have HR := hide hr
          clear hq hr
          go_wp2
          go_region_with ((go_at_call 104; refine (hcall _).mono ?_; rintro e w' ⟨rfl, rfl⟩))
          clear hca hcb hcp hcall hn1 hn2 hn3 hn4
          all_goals
            go_wp2
            go_roundw
            case rel =>
              refine ⟨k + 1, l2.set n r, q, by omega, by go_num, rfl, ?_, by rw [List.length_set, HN.out], lim_set HL.out _ _ ?_, ?_, ?_, (HA.out.set n r).drew⟩
              · have := HM.out; have := HQ.out; omega
              · have := HR.out; omega
              · exact row_step' HNN.out (by rw [HN.out]; have := HNN.out; omega) HGZ.out HV2.out HT.out HQ.out HR.out
              · intro i hi
                rw [getD_set_ne' (by have := HNN.out; omega), HZ2.out i hi]
            case measure => simp [intOf]; omega
        · have hk4 : k = 4 := by omega
          rw [hk4, List.take_of_length_le (by omega)] at hval
          have hfro : wr.frozen? ⟨w.heap.size + 1 + 1 + 1 + 1, m + 4, none⟩ = false := frozen_of_row _ _ _ _ _ hat.p
          have hcp : wr.cell? ⟨w.heap.size + 1 + 1 + 1 + 1, m + 4, none⟩ = some (.int .u64 ((l2.getD (m + 4) 0 : Nat) : Int)) := by
            rw [cell_of_row _ _ _ _ _ _ hat.p, na_get _ _ (by omega)]
          generalize l2.getD (m + 4) 0 = z at hcp
          have HA := hide hat
          have HV2 := hide hval
          have HL := hide hlim
          have HN := hide hl
          have HZ2 := hide hz
          clear hat hval hlim hl hz
          have b2 : (0 : Int) ≤ (m : Int) := by omega
          have b3 : (m : Int) < 4 := by omega
          go_wp2
          go_roundw
          case rel =>
            refine ⟨m + 1, l2.set (m + 4) cn, by omega, by go_num, by rw [List.length_set, HN.out], lim_set HL.out _ _ hcn, ?_, ?_, HA.out.set (m + 4) cn⟩
            · rw [row_end (by rw [HN.out]; omega) (HZ2.out _ (Nat.le_refl _)) HV2.out, HTA.out, HV.out, Nat.add_mul, Nat.mul_assoc]
              omega
            · intro i hi
              rw [getD_set_ne' (by omega), HZ2.out i (by omega)]
          case measure => simp [intOf]; omega
    · obtain ⟨x0, x1, x2, x3, x4, x5, x6, x7, rfl⟩ := eight hl
      have hm4 : m = 4 := by omega
      rw [hm4, List.take_of_length_le (by omega)] at hval
      have hrow := hat.p
      have hr0 := hat.o
      have hbel := hat.below
      rw [na8] at hrow
      have HV := hide hval
      have HL := hide hlim
      have c0 : ∀ i, wr.cell? ⟨w.heap.size + 1 + 1 + 1 + 1, i, none⟩ = (#[.int .u64 (x0 : Int), .int .u64 (x1 : Int), .int .u64 (x2 : Int), .int .u64 (x3 : Int), .int .u64 (x4 : Int), .int .u64 (x5 : Int), .int .u64 (x6 : Int), .int .u64 (x7 : Int)] : Array Value)[i]? := fun i => cell_of_row _ _ _ _ _ _ hrow
      have d0 : ∀ i, wr.cell? ⟨w.heap.size + 1 + 1 + 1, i, none⟩ = (#[.int .u64 0, .int .u64 0, .int .u64 0, .int .u64 0, .int .u64 0, .int .u64 0, .int .u64 0, .int .u64 0] : Array Value)[i]? := fun i => cell_of_row _ _ _ _ _ _ hr0
      have hfro : ∀ i, wr.frozen? ⟨w.heap.size + 1 + 1 + 1, i, none⟩ = false := fun i => frozen_of_row _ _ _ _ _ hr0
      clear hval hlim hz hat hrow hr0
      go_wp2
      refine bodyPost_ret (v := .agg (na [x0, x1, x2, x3, x4, x5, x6, x7])) (by simp [results, Tryz.results81, go_sem, na8, d0]) rfl ⟨[x0, x1, x2, x3, x4, x5, x6, x7], rfl, rfl, HL.out, HV.out, ?_⟩
      exact (((((((hbel.setCell (by simp; omega) _).setCell (by simp; omega) _).setCell (by simp; omega) _).setCell (by simp; omega) _).setCell (by simp; omega) _).setCell (by simp; omega) _).setCell (by simp; omega) _).setCell (by simp; omega) _
theorem multiply_any (x y z : Nat) (hx : x < 115792089237316195423570985008687907853269984665640564039457584007913129639936) (hy : y < 115792089237316195423570985008687907853269984665640564039457584007913129639936) (hz : z < 115792089237316195423570985008687907853269984665640564039457584007913129639936) (w : World) :
    Calls Tryz.prog 81 #[.agg (el x), .agg (el y), .agg (el z)] w fun e w' => e = .returned (.agg (el8 (x * y + z))) ∧ Below w.heap.size w w' := by
  obtain ⟨a, b, c, d, he, hb, hv⟩ := el_open x hx
  obtain ⟨a', b', c', d', he', hb', hv'⟩ := el_open y hy
  obtain ⟨r, s, t, u, hr, hbr, hvr⟩ := el_open z hz
  rw [he, he', hr, ← na4, ← na4, ← na4]
  refine (multiply_list [a, b, c, d] [a', b', c', d'] [r, s, t, u] rfl rfl rfl (lim4_mk hb) (lim4_mk hb') (lim4_mk hbr) w).mono ?_
  rintro e w' ⟨l, rfl, hl, hlim, hvl, hbel⟩
  rw [hv, hv', hvr] at hvl
  exact ⟨by rw [el8_close hl hlim hvl], hbel⟩
end Go.Proofs.YtobgimpkkjaolaaGreatDoor.Sc
/- A number modulo the order, bit by bit, as the program's call answers it, in any world where the order lies as the program's text lays it. -/
namespace Go.Proofs.YtobgimpkkjaolaaGreatDoor.Sc
open Go.RowKit
theorem half (v j : Nat) : v / 2 ^ j = 2 * (v / 2 ^ (j + 1)) + v / 2 ^ j % 2 := by
  rw [Nat.pow_succ, ← Nat.div_div_eq_div_mul]; omega
theorem big_pow (n : Nat) (h : 64 * 8 = n) : (18446744073709551616 : Nat) ^ 8 = 2 ^ n := by
  subst h; rw [show (18446744073709551616 : Nat) = 2 ^ 64 from rfl, ← Nat.pow_mul]
theorem mod_bit {V b : Nat} (hb : b ≤ 1) : (if 2 * (V % ll) + b < ll then 2 * (V % ll) + b else 2 * (V % ll) + b - ll) = (2 * V + b) % ll := by
  have h := ll_mod V
  have e : (2 * V + b) % ll = (2 * (V % ll) + b) % ll := by
    rw [Nat.add_mod (2 * V), Nat.add_mod (2 * (V % ll)), Nat.mul_mod 2 V, Nat.mul_mod 2 (V % ll), Nat.mod_mod]
  rw [e]
  generalize V % ll = r at h
  split
  · rename_i h1; exact (Nat.mod_eq_of_lt h1).symm
  · rename_i h1
    rw [Nat.mod_eq_sub_mod (by omega), Nat.mod_eq_of_lt (by omega)]
set_option maxRecDepth 100000 in
set_option maxHeartbeats 2000000 in
theorem rem_list (la : List Nat) (ha : la.length = 8) (la' : lim la) (w : World) (hL : Laid w) :
    Calls Tryz.prog 82 #[.agg (na la)] w fun e w' => e = .returned (.agg (el (val la % ll))) ∧ Below w.heap.size w w' := by
  have HLE := hide (And.intro ha la')
  have LD := hide hL
  clear ha la' hL
  go_enter Tryz.func82, Tryz.ntmps82
  go_wp2
  go_loopw [4] (fun i wr => ∃ k r0 r1 r2 r3 : Nat, k ≤ 512 ∧ i = .int .i64 ((k : Int) - 1) ∧ #[.int .u64 (r0 : Int), .int .u64 (r1 : Int), .int .u64 (r2 : Int), .int .u64 (r3 : Int)] = el (val la / 2 ^ k % ll) ∧ wr.heap[w.heap.size + 1 + 1]? = some (.cells #[.int .u64 (r0 : Int), .int .u64 (r1 : Int), .int .u64 (r2 : Int), .int .u64 (r3 : Int)] 78 (0, 0)) ∧ w.heap.size + 1 + 1 < wr.heap.size ∧ At w wr [(w.heap.size + 1, #[.int .u64 0, .int .u64 0, .int .u64 0, .int .u64 0], 78), (w.heap.size, na la, 81)]) (fun i _ => (intOf i + 1).toNat)
  case atStart =>
    refine ⟨512, 0, 0, 0, 0, Nat.le_refl _, rfl, ?_, heap_alloc_last3 _ _ _ _, by simp, ?_⟩
    · have hlt := val_lt HLE.out.2
      rw [HLE.out.1] at hlt
      rw [Nat.div_eq_of_lt (Nat.lt_of_lt_of_le hlt (Nat.le_of_eq (big_pow 512 rfl))), Nat.zero_mod]
      exact el_close (by decide) (by simp [val])
    · have hA := ((At.nil (Below.refl w.heap.size w)).alloc (na la) 81).alloc #[.int .u64 0, .int .u64 0, .int .u64 0, .int .u64 0] 78
      simp only [World.size_alloc] at hA
      exact hA.step ((Below.refl _ _).alloc (Nat.le_refl _) _)
  case round =>
    obtain ⟨k, r0, r1, r2, r3, hk, rfl, hrow, hR, hlt6, hAt⟩ := hrel
    have AT := hide hAt
    have HR := hide hR
    cases k with
    | zero =>
      have hz := (hAt.rows (w.heap.size + 1) #[.int .u64 0, .int .u64 0, .int .u64 0, .int .u64 0] 78 (by simp)).1
      have HZ := hide hz
      obtain ⟨cr, cr2⟩ := row_reads hR
      obtain ⟨cz, cz2⟩ := row_reads hz
      have HROW := hide hrow
      clear hz hR hAt hrow
      go_wp2
      refine bodyPost_ret_by (results_cell_row rfl _ _ (w.heap.size + 1) 78 _ (0, 0) _ rfl (set4_row HZ.out) Tryz.underlying78 rfl (by kernel_rfl)) rfl ⟨?_, Below.set4 AT.out.below (by omega) _ _ _ _⟩
      rw [HROW.out, Nat.pow_zero, Nat.div_one]
    | succ j =>
      rw [show (((j + 1 : Nat) : Int) - 1) = (j : Int) by omega]
      have hpd : val la / 2 ^ (j + 1) % ll < ll := ll_mod _
      obtain ⟨y, hy⟩ : ∃ y, la.getD (j / 64) 0 = y := ⟨_, rfl⟩
      have hyl : y < 18446744073709551616 := by rw [← hy]; exact HLE.out.2 _
      obtain ⟨bit, hbb⟩ : ∃ bit, y / 2 ^ (j % 64) % 2 = bit := ⟨_, rfl⟩
      have hbit : bits BinOp.and IntKind.u64 ((y : Int) / 2 ^ (j % 64)) 1 = (bit : Int) := by
        have h := and_one (y / 2 ^ (j % 64)) (Nat.lt_of_le_of_lt (Nat.div_le_self _ _) hyl)
        rw [hbb] at h
        rw [← h]; simp
      have hval : val la / 2 ^ j % 2 = bit := by
        rw [← bit_word la HLE.out.2 j, hy, hbb]
      have hb1 : bit ≤ 1 := by omega
      have HPW : Hid ((if 2 * (val la / 2 ^ (j + 1) % ll) + bit < ll then 2 * (val la / 2 ^ (j + 1) % ll) + bit else 2 * (val la / 2 ^ (j + 1) % ll) + bit - ll) = val la / 2 ^ j % ll) := by
        show _ = _
        rw [mod_bit hb1, ← hval, ← half]
      have hbr := bring_any (val la / 2 ^ (j + 1) % ll) bit hb1 hpd
      rw [← hrow] at hbr
      have htk := take_any (2 * (val la / 2 ^ (j + 1) % ll) + bit) (by have h : val la / 2 ^ (j + 1) % ll < 7237005577332262213973186563042994240857116359379907606001950938285454250989 := hpd; omega)
      rw [HPW.out] at htk
      obtain ⟨t0, t1, t2, t3, ht⟩ : ∃ a b c d : Nat, el (2 * (val la / 2 ^ (j + 1) % ll) + bit) = #[.int .u64 (a : Int), .int .u64 (b : Int), .int .u64 (c : Int), .int .u64 (d : Int)] := ⟨_, _, _, _, rfl⟩
      obtain ⟨q0, q1, q2, q3, hq⟩ : ∃ a b c d : Nat, el (val la / 2 ^ j % ll) = #[.int .u64 (a : Int), .int .u64 (b : Int), .int .u64 (c : Int), .int .u64 (d : Int)] := ⟨_, _, _, _, rfl⟩
      rw [ht] at hbr htk
      rw [hq] at htk
      generalize decide (2 * (val la / 2 ^ (j + 1) % ll) + bit < ll) = dd at htk
      have HBR := hide hbr
      have HTK := hide htk
      have HQ := hide hq
      have cw : wr.cell? ⟨w.heap.size, j / 64, none⟩ = some (.int .u64 (y : Int)) := by
        rw [hAt.rd (p := w.heap.size) (T := 81) (A := na la) (by simp), na_get _ _ (by rw [HLE.out.1]; omega), hy]
      obtain ⟨cr, cr2⟩ := row_reads hR
      have j0 : (0 : Int) ≤ (j : Int) := by omega
      have j1 : (0 : Int) ≤ (j : Int) / 64 := by omega
      have j2 : (j : Int) / 64 < 8 := by omega
      have hd : decide ((0 : Int) ≤ (j : Int)) = true := decide_eq_true j0
      clear hAt hR hq hy hbb hval hyl hbr htk ht hpd HPW hrow
      go_wp2_with fail
      refine (HBR.out _).mono ?_
      rintro e w5 ⟨rfl, b5⟩
      go_wp2_with fail
      refine (HTK.out _ ((LD.out.step AT.out.below).step b5)).mono ?_
      rintro e w6 ⟨rfl, b6⟩
      obtain ⟨z1, z2⟩ := row_reads (Below.heap b6 (Nat.lt_of_lt_of_le hlt6 b5.size) (Below.heap b5 hlt6 HR.out))
      have R6 := hide (Below.heap b6 (Nat.lt_of_lt_of_le hlt6 b5.size) (Below.heap b5 hlt6 HR.out))
      have T6 := hide ((AT.out.step b5).step b6)
      have hlt5 : w.heap.size + 1 + 1 < w6.heap.size := Nat.lt_of_lt_of_le (Nat.lt_of_lt_of_le hlt6 b5.size) b6.size
      clear cw cr cr2 b5 b6 HBR HTK
      go_wp2
      go_roundw
      case rel =>
        refine ⟨j, q0, q1, q2, q3, by omega, rfl, HQ.out.symm, set4_row R6.out, by simpa using hlt5, T6.out.set4 (by omega) ?_ _ _ _ _⟩
        intro p A T hm
        simp only [List.mem_cons, Prod.mk.injEq, List.not_mem_nil, or_false] at hm
        rcases hm with ⟨rfl, _⟩ | ⟨rfl, _⟩ <;> omega
      case measure => simp [intOf]
theorem rem_any (x : Nat) (hx : x < 18446744073709551616 ^ 8) (w : World) (hL : Laid w) :
    Calls Tryz.prog 82 #[.agg (el8 x)] w fun e w' => e = .returned (.agg (el (x % ll))) ∧ Below w.heap.size w w' := by
  obtain ⟨l, he, hl, hlim, hv⟩ := el8_open x hx
  rw [he, ← hv]; exact rem_list l hl hlim w hL
end Go.Proofs.YtobgimpkkjaolaaGreatDoor.Sc
/- Whether bytes may be a number, what they leave by the order, sums and products: as the program's calls answer them, in any world where the order lies as the program's text lays it. -/
namespace Go.Proofs.YtobgimpkkjaolaaGreatDoor.Sc
open Go.RowKit
theorem bytesAt {w : World} {g c : Nat} {l : List Nat} (h : w.heap[g]? = some (.cells (ba l) 5 (0, 0))) (hg : g < w.heap.size) (hl : ∀ i, l.getD i 0 < 256) (hc : l.length ≤ c) (hm : c ≤ maxLen) : BsAt w (.slice (some ⟨g, 0, none⟩) l.length c) l :=
  ⟨g, 0, c, _, rfl, hc, hm, hl, fun _ => ⟨rfl, hg, fun i hi => by rw [Nat.zero_add, cell_of_row _ _ _ _ _ _ h, ba_get _ _ hi]⟩⟩
theorem byt_lt (x i : Nat) : byt x i < 256 := Nat.mod_lt _ (by decide)
theorem bys_lim (x : Nat) : ∀ i, (bys x 32).getD i 0 < 256 := fun i => by
  rw [bys_get x 32 i (Nat.le_refl _)]
  split
  · exact byt_lt _ _
  · decide
theorem byt_val (x : Nat) : ∀ n, ∀ l : List Nat, l.length = n → (∀ i, i < n → l.getD i 0 = byt x i) → bval l = x % 256 ^ n := by
  intro n
  induction n generalizing x with
  | zero =>
    intro l hl _
    have : l = [] := List.eq_nil_of_length_eq_zero hl
    subst this; simp [bval, Nat.mod_one]
  | succ n ih =>
    intro l hl hw
    cases l with
    | nil => simp at hl
    | cons a t =>
      have ha := hw 0 (by omega)
      have ht := ih (x / 256) t (by simpa using hl) (fun i hi => by
        have := hw (i + 1) (by omega)
        rw [List.getD_cons_succ] at this
        rw [this, byt, byt, Nat.pow_succ, Nat.mul_comm, Nat.div_div_eq_div_mul])
      simp only [List.getD_cons_zero, byt, Nat.pow_zero, Nat.div_one] at ha
      rw [bval, ht, ha, Nat.pow_succ, Nat.mul_comm (256 ^ n), Nat.mod_mul]
theorem bys_val (x : Nat) (hx : x < 115792089237316195423570985008687907853269984665640564039457584007913129639936) : bval (bys x 32) = x := by
  rw [byt_val x 32 _ (bys_len x 32), Nat.mod_eq_of_lt hx]
  intro i hi
  rw [bys_get x 32 i (Nat.le_refl _), if_pos hi]
theorem bval_all {l : List Nat} (h : ∀ i, l.getD i 0 < 256) : bval l < 256 ^ l.length := by
  have := bval_lt h l.length
  rwa [List.take_of_length_le (Nat.le_refl _)] at this
theorem bval_32 {l : List Nat} (h : ∀ i, l.getD i 0 < 256) (hl : l.length = 32) : bval l < 115792089237316195423570985008687907853269984665640564039457584007913129639936 := by
  have := bval_all h
  rw [hl] at this
  exact this
theorem bval_64 {l : List Nat} (h : ∀ i, l.getD i 0 < 256) (hl : l.length ≤ 64) : bval l < 18446744073709551616 ^ 8 := by
  have h1 := bval_all h
  have h2 : 256 ^ l.length ≤ 256 ^ 64 := Nat.pow_le_pow_right (by decide) hl
  have h3 : (256 : Nat) ^ 64 = 18446744073709551616 ^ 8 := by decide +kernel
  omega
theorem BsAt.lim {w : World} {v : Value} {bs : List Nat} (h : BsAt w v bs) : ∀ i, bs.getD i 0 < 256 := by
  obtain ⟨_, _, _, _, _, _, _, hl, _⟩ := h
  exact hl
def Bret (w : World) (l : List Nat) (e : Ending) (w' : World) : Prop := ∃ v, e = .returned v ∧ BsAt w' v l ∧ Below w.heap.size w w'
theorem lt_big {x : Nat} (h : x < ll) : x < 115792089237316195423570985008687907853269984665640564039457584007913129639936 := Nat.lt_trans h (by decide)
theorem bytes_ret (x : Nat) (hx : x < 115792089237316195423570985008687907853269984665640564039457584007913129639936) (w : World) : Calls Tryz.prog 83 #[.agg (el x)] w (Bret w (bys x 32)) := by
  refine (bytes_any x hx w).mono ?_
  rintro e w' ⟨g, rfl, _, hg2, hrow, hb⟩
  have h := bytesAt (c := 32) hrow hg2 (bys_lim x) (by rw [bys_len]; exact Nat.le_refl _) (by unfold maxLen; omega)
  rw [bys_len] at h
  exact ⟨_, rfl, h, hb⟩
set_option maxRecDepth 100000 in
set_option maxHeartbeats 1000000 in
theorem may_32 (v : Value) (bs : List Nat) (w : World) (h : BsAt w v bs) (hL : Laid w) (hlen : bs.length = 32) :
    Calls Tryz.prog 26 #[v] w fun e w' => e = .returned (.bool (decide (bval bs < ll))) ∧ Below w.heap.size w w' := by
  have hx := bval_32 h.lim hlen
  have HF := hide (from_any v bs (by omega) w h)
  have HLOW : Hid (∀ W : World, _) := low_any (bval bs) (bval_64 h.lim (by omega))
  rw [Nat.mod_eq_of_lt hx] at HLOW
  have HT : Hid (∀ W : World, Laid W → _) := take_any (bval bs) hx
  have LD := hide hL
  obtain ⟨ao, c, rfl, _, hc⟩ := h.len
  rw [hlen] at HF ⊢
  generalize el8 (bval bs) = E8 at *
  generalize el (bval bs) = E at *
  obtain ⟨q0, q1, q2, q3, hq⟩ : ∃ a b c d : Nat, el (if bval bs < ll then bval bs else bval bs - ll) = #[.int .u64 (a : Int), .int .u64 (b : Int), .int .u64 (c : Int), .int .u64 (d : Int)] := ⟨_, _, _, _, rfl⟩
  rw [hq] at HT
  generalize decide (bval bs < ll) = dd at *
  clear hq hL h hx hlen
  go_enter Tryz.func26, Tryz.ntmps26
  go_wp2_with fail
  refine HF.out.mono ?_
  rintro e w1 ⟨rfl, b1⟩
  go_wp2_with fail
  refine (HLOW.out _).mono ?_
  rintro e w2 ⟨rfl, b2⟩
  go_wp2_with fail
  refine (HT.out _ ((LD.out.step b1).step b2)).mono ?_
  rintro e w3 ⟨rfl, b3⟩
  have HB := hide (Below.chain (Below.chain b1 b2) b3)
  clear b1 b2 b3 HF HLOW HT
  go_wp2
  go_ret
  exact ⟨rfl, HB.out.alloc HB.out.size _⟩
set_option maxHeartbeats 1000000 in
theorem may_other (v : Value) (bs : List Nat) (w : World) (h : BsAt w v bs) (hlen : bs.length ≠ 32) :
    Calls Tryz.prog 26 #[v] w fun e w' => e = .returned (.bool false) ∧ Below w.heap.size w w' := by
  obtain ⟨ao, c, rfl, _, hc⟩ := h.len
  have hne : ((bs.length : Int) == 32) = false := by rw [beq_eq_false_iff_ne]; omega
  clear h hlen
  go_enter Tryz.func26, Tryz.ntmps26
  go_wp2
  go_ret
  exact ⟨rfl, Below.refl _ _⟩
set_option maxRecDepth 100000 in
set_option maxHeartbeats 1000000 in
theorem reduce_ret (v : Value) (bs : List Nat) (w : World) (h : BsAt w v bs) (hL : Laid w) (hlen : bs.length ≤ 64) :
    Calls Tryz.prog 66 #[v] w (Bret w (bys (bval bs % ll) 32)) := by
  have HF := hide (from_any v bs hlen w h)
  have HR : Hid (∀ W : World, Laid W → _) := rem_any (bval bs) (bval_64 h.lim hlen)
  have HY := hide (bytes_ret (bval bs % ll) (lt_big (ll_mod _)))
  have LD := hide hL
  obtain ⟨ao, c, rfl, _, hc⟩ := h.len
  have hd : decide ((64 : Int) < (bs.length : Int)) = false := decide_eq_false (by omega)
  generalize el8 (bval bs) = E8 at *
  generalize el (bval bs % ll) = E at *
  generalize bys (bval bs % ll) 32 = Y at *
  clear hL h hlen
  go_enter Tryz.func66, Tryz.ntmps66
  go_wp2_with fail
  refine HF.out.mono ?_
  rintro e w1 ⟨rfl, b1⟩
  go_wp2_with fail
  refine (HR.out _ (LD.out.step b1)).mono ?_
  rintro e w2 ⟨rfl, b2⟩
  go_wp2_with fail
  refine (HY.out _).mono ?_
  rintro e w3 ⟨u, rfl, hu, b3⟩
  have HB := hide (Below.chain (Below.chain b1 b2) b3)
  have HU := hide hu
  clear b1 b2 b3 HF HR HY hu
  go_wp2
  go_ret
  exact ⟨_, rfl, HU.out, HB.out⟩
set_option maxHeartbeats 1000000 in
theorem reduce_long (v : Value) (bs : List Nat) (w : World) (h : BsAt w v bs) (hlen : 64 < bs.length) :
    Calls Tryz.prog 66 #[v] w fun e w' => e = .returned (.slice none 0 0) ∧ Below w.heap.size w w' := by
  obtain ⟨ao, c, rfl, _, hc⟩ := h.len
  have hd : decide ((64 : Int) < (bs.length : Int)) = true := decide_eq_true (by omega)
  clear h hlen
  go_enter Tryz.func66, Tryz.ntmps66
  go_wp2
  go_ret
  exact ⟨rfl, Below.refl _ _⟩
theorem mad_big {x y z : Nat} (hx : x < 115792089237316195423570985008687907853269984665640564039457584007913129639936) (hy : y < 115792089237316195423570985008687907853269984665640564039457584007913129639936) (hz : z < 115792089237316195423570985008687907853269984665640564039457584007913129639936) : x * y + z < 18446744073709551616 ^ 8 := by
  have h : x * y ≤ (115792089237316195423570985008687907853269984665640564039457584007913129639936 - 1) * (115792089237316195423570985008687907853269984665640564039457584007913129639936 - 1) := Nat.mul_le_mul (by omega) (by omega)
  have h3 : (115792089237316195423570985008687907853269984665640564039457584007913129639936 - 1) * (115792089237316195423570985008687907853269984665640564039457584007913129639936 - 1) + 115792089237316195423570985008687907853269984665640564039457584007913129639936 ≤ 18446744073709551616 ^ 8 := by decide +kernel
  omega
end Go.Proofs.YtobgimpkkjaolaaGreatDoor.Sc
/- A product and a number, and a sum, modulo the order: as the program's calls answer them, in any world where the order lies as the program's text lays it. -/
namespace Go.Proofs.YtobgimpkkjaolaaGreatDoor.Sc
open Go.RowKit
theorem low_32 (bs : List Nat) (h : ∀ i, bs.getD i 0 < 256) (hl : bs.length = 32) (W : World) :
    Calls Tryz.prog 55 #[.agg (el8 (bval bs))] W fun e w' => e = .returned (.agg (el (bval bs))) ∧ Below W.heap.size W w' := by
  have := low_any (bval bs) (bval_64 h (by omega)) W
  rwa [Nat.mod_eq_of_lt (bval_32 h hl)] at this
set_option maxRecDepth 100000 in
set_option maxHeartbeats 2000000 in
theorem mulAdd_ret (u v t : Value) (xs bs cs : List Nat) (w : World) (h1 : BsAt w u xs) (h2 : BsAt w v bs) (h3 : BsAt w t cs) (hL : Laid w) (l1 : xs.length = 32) (l2 : bs.length = 32) (l3 : cs.length = 32) :
    Calls Tryz.prog 48 #[u, v, t] w (Bret w (bys ((bval xs * bval bs + bval cs) % ll) 32)) := by
  have HF1 : Hid (∀ W, BsAt W u xs → _) := fun W => from_any u xs (by omega) W
  have HF2 : Hid (∀ W, BsAt W v bs → _) := fun W => from_any v bs (by omega) W
  have HF3 : Hid (∀ W, BsAt W t cs → _) := fun W => from_any t cs (by omega) W
  have HL1 := hide (low_32 xs h1.lim l1)
  have HL2 := hide (low_32 bs h2.lim l2)
  have HL3 := hide (low_32 cs h3.lim l3)
  have HM := hide (multiply_any (bval xs) (bval bs) (bval cs) (bval_32 h1.lim l1) (bval_32 h2.lim l2) (bval_32 h3.lim l3))
  have HR : Hid (∀ W : World, Laid W → _) := rem_any (bval xs * bval bs + bval cs) (mad_big (bval_32 h1.lim l1) (bval_32 h2.lim l2) (bval_32 h3.lim l3))
  have HY := hide (bytes_ret ((bval xs * bval bs + bval cs) % ll) (lt_big (ll_mod _)))
  have LD := hide hL
  have A1 := hide h1
  have A2 := hide h2
  have A3 := hide h3
  obtain ⟨a1, c1, rfl, _, m1⟩ := h1.len
  obtain ⟨a2, c2, rfl, _, m2⟩ := h2.len
  obtain ⟨a3, c3, rfl, _, m3⟩ := h3.len
  rw [l1] at HF1 A1 ⊢
  rw [l2] at HF2 A2 ⊢
  rw [l3] at HF3 A3 ⊢
  generalize el8 (bval xs) = P1 at *
  generalize el8 (bval bs) = P2 at *
  generalize el8 (bval cs) = P3 at *
  generalize el (bval xs) = Q1 at *
  generalize el (bval bs) = Q2 at *
  generalize el (bval cs) = Q3 at *
  generalize el ((bval xs * bval bs + bval cs) % ll) = E at *
  generalize bys ((bval xs * bval bs + bval cs) % ll) 32 = Y at *
  obtain ⟨x0, x1, x2, x3, x4, x5, x6, x7, hx⟩ : ∃ x0 x1 x2 x3 x4 x5 x6 x7 : Nat, el8 (bval xs * bval bs + bval cs) = #[.int .u64 (x0 : Int), .int .u64 (x1 : Int), .int .u64 (x2 : Int), .int .u64 (x3 : Int), .int .u64 (x4 : Int), .int .u64 (x5 : Int), .int .u64 (x6 : Int), .int .u64 (x7 : Int)] := ⟨_, _, _, _, _, _, _, _, rfl⟩
  rw [hx] at HM HR
  clear hL h1 h2 h3 l1 l2 l3 hx
  go_enter Tryz.func48, Tryz.ntmps48
  go_wp2_with fail
  refine (HF1.out _ A1.out).mono ?_
  rintro e w1 ⟨rfl, b1⟩
  go_wp2_with fail
  refine (HL1.out _).mono ?_
  rintro e w2 ⟨rfl, b2⟩
  have K2 := hide (Below.chain b1 b2)
  clear b1 b2
  go_wp2_with fail
  refine (HF2.out _ (A2.out.ext K2.out)).mono ?_
  rintro e w3 ⟨rfl, b3⟩
  go_wp2_with fail
  refine (HL2.out _).mono ?_
  rintro e w4 ⟨rfl, b4⟩
  have K4 := hide (Below.chain (Below.chain K2.out b3) b4)
  clear b3 b4 K2
  go_wp2_with fail
  refine (HF3.out _ (A3.out.ext K4.out)).mono ?_
  rintro e w5 ⟨rfl, b5⟩
  go_wp2_with fail
  refine (HL3.out _).mono ?_
  rintro e w6 ⟨rfl, b6⟩
  have K6 := hide (Below.chain (Below.chain K4.out b5) b6)
  clear b5 b6 K4
  go_wp2_with fail
  refine (HM.out _).mono ?_
  rintro e w7 ⟨rfl, b7⟩
  have K7 := hide (Below.chain K6.out b7)
  clear b7 K6
  go_wp2_with fail
  refine (HR.out _ ((LD.out.step K7.out).step ((Below.refl _ _).alloc (Nat.le_refl _) _))).mono ?_
  rintro e w8 ⟨rfl, b8⟩
  have K8 := hide (Below.chain (K7.out.alloc K7.out.size _) b8)
  clear b8 K7
  go_wp2_with fail
  refine (HY.out _).mono ?_
  rintro e w9 ⟨u, rfl, hu, b9⟩
  have K9 := hide (Below.chain K8.out b9)
  have HU := hide hu
  clear b9 K8 hu
  go_wp2
  go_ret
  exact ⟨_, rfl, HU.out, K9.out⟩
set_option maxHeartbeats 1000000 in
theorem mulAdd_other (u v t : Value) (xs bs cs : List Nat) (w : World) (h1 : BsAt w u xs) (h2 : BsAt w v bs) (h3 : BsAt w t cs) (hne : ¬ (xs.length = 32 ∧ bs.length = 32 ∧ cs.length = 32)) :
    Calls Tryz.prog 48 #[u, v, t] w fun e w' => e = .returned (.slice none 0 0) ∧ Below w.heap.size w w' := by
  obtain ⟨a1, c1, rfl, _, m1⟩ := h1.len
  obtain ⟨a2, c2, rfl, _, m2⟩ := h2.len
  obtain ⟨a3, c3, rfl, _, m3⟩ := h3.len
  clear h1 h2 h3
  by_cases l1 : xs.length = 32
  · by_cases l2 : bs.length = 32
    · have d1 : ((xs.length : Int) == 32) = true := by rw [beq_iff_eq]; omega
      have d2 : ((bs.length : Int) == 32) = true := by rw [beq_iff_eq]; omega
      have d3 : ((cs.length : Int) == 32) = false := by rw [beq_eq_false_iff_ne]; omega
      clear l1 l2 hne
      go_enter Tryz.func48, Tryz.ntmps48
      go_wp2
      all_goals (go_ret; exact ⟨rfl, Below.refl _ _⟩)
    · have d1 : ((xs.length : Int) == 32) = true := by rw [beq_iff_eq]; omega
      have d2 : ((bs.length : Int) == 32) = false := by rw [beq_eq_false_iff_ne]; omega
      clear l1 l2 hne
      go_enter Tryz.func48, Tryz.ntmps48
      go_wp2
      all_goals (go_ret; exact ⟨rfl, Below.refl _ _⟩)
  · have d1 : ((xs.length : Int) == 32) = false := by rw [beq_eq_false_iff_ne]; omega
    clear l1 hne
    go_enter Tryz.func48, Tryz.ntmps48
    go_wp2
    all_goals (go_ret; exact ⟨rfl, Below.refl _ _⟩)
end Go.Proofs.YtobgimpkkjaolaaGreatDoor.Sc
/- Bytes as what operations give: slices that hold a list of bytes, strings of them, their comparison. -/
namespace Go.Proofs.YtobgimpkkjaolaaGreatDoor.Sc
open Go.RowKit
def isb (l : List Nat) : STy := ⟨fun w v => BsAt w v l, fun hx h => h.ext hx⟩
section
variable {ops : Array Oper} {Q : Exit → Act → World → Prop} {o : Oper} {T : STy} {a : Act} {w : World}
end
end Go.Proofs.YtobgimpkkjaolaaGreatDoor.Sc
/- Bytes behind bytes of the call's own, and zeros behind them: append, as the model runs it, for bytes held as numbers. -/
namespace Go.Proofs.YtobgimpkkjaolaaGreatDoor.Sc
open Go.RowKit
theorem und22 : Tryz.prog.underlying 22 = some (.slice 5) := by kernel_rfl
theorem info5 : (Tryz.prog.info? 5).map (fun i => (i.zero, i.size, i.bytes)) = some (some (.int .u8 0), 1, 1) := by kernel_rfl
theorem info5_parts : ∃ i, Tryz.prog.info? 5 = some i ∧ i.zero = some (.int .u8 0) ∧ i.size = 1 ∧ i.bytes = 1 := by
  have h := info5
  cases hi : Tryz.prog.info? 5 with
  | none => rw [hi] at h; cases h
  | some i =>
    rw [hi] at h
    simp only [Option.map_some, Option.some.injEq, Prod.mk.injEq] at h
    exact ⟨i, rfl, h.1, h.2.1, h.2.2⟩
def nv (l : List Nat) : List Value := l.map fun (n : Nat) => Value.int .u8 (n : Int)
theorem nv_len (l : List Nat) : (nv l).length = l.length := by simp [nv]
theorem nv_get (l : List Nat) (j : Nat) (hj : j < l.length) : (nv l)[j]? = some (.int .u8 ((l.getD j 0 : Nat) : Int)) := by
  simp [nv, List.getD_eq_getElem?_getD, hj]
structure Own (w : World) (base : Nat) (v : Value) (l : List Nat) : Prop where
  row : w.ownsRow base 5 1 v l.length (nv l)
  lim : ∀ i, l.getD i 0 < 256
theorem Own.at {w : World} {base : Nat} {v : Value} {l : List Nat} (h : Own w base v l) : BsAt w v l := by
  rcases h.row.2 with ⟨rfl, h0⟩ | ⟨g, cap, cur, rfl, hb, hr, hn, hm, _, ht⟩
  · have : l = [] := List.eq_nil_of_length_eq_zero h0
    subst this
    exact ⟨0, 0, 0, none, rfl, Nat.le_refl _, by unfold maxLen; omega, h.lim, fun h => absurd rfl h⟩
  · refine ⟨g, 0, cap, _, rfl, hn, hm, h.lim, fun _ => ⟨rfl, (Array.getElem?_eq_some_iff.1 hr).1, fun i hi => ?_⟩⟩
    rw [Nat.zero_add, h.row.cellAt i (by omega), nv_get l i hi]
theorem getD_append_lim {l m : List Nat} (hl : ∀ i, l.getD i 0 < 256) (hm : ∀ i, m.getD i 0 < 256) : ∀ i, (l ++ m).getD i 0 < 256 := fun i => by
  rw [List.getD_eq_getElem?_getD]
  rcases Nat.lt_or_ge i l.length with h | h
  · rw [List.getElem?_append_left h, ← List.getD_eq_getElem?_getD]; exact hl i
  · rw [List.getElem?_append_right h, ← List.getD_eq_getElem?_getD]; exact hm _
set_option maxRecDepth 100000 in
theorem append_run {w : World} {base : Nat} {v sv : Value} {l m : List Nat} (ty : TypeId) (h : Own w base v l) (hs : BsAt w sv m) (hn : l.length + m.length ≤ 1000000000000) (hb : base ≤ w.heap.size) :
    ∃ v' w', (Builtin.append_ #[22, 22] ty #[v, sv]).run Tryz.prog w = .ok v' w' ∧ Own w' base v' (l ++ m) ∧ w.grownBy w' v.ownBlock := by
  obtain ⟨i0, hi, hz0, hz1, hz2⟩ := info5_parts
  have hmlim := hs.lim
  obtain ⟨b, o, c, ao, rfl, hc, hmax, _, hh⟩ := hs
  cases ao with
  | none =>
    have h0 : m = [] := by
      cases m with
      | nil => rfl
      | cons x t => obtain ⟨e, _⟩ := hh (by simp); cases e
    subst h0
    refine ⟨v, w, ?_, by rw [List.append_nil]; exact h, grown_refl w _⟩
    rcases h.row.2 with ⟨rfl, _⟩ | ⟨g, cap, cur, rfl, _, _, hnc, _⟩
    · simp [Builtin.append_, run_underlying und22, sizeOf, typeInfo, hi, Builtin.lenOf, Builtin.firstCells]
    · simp [Builtin.append_, run_underlying und22, sizeOf, typeInfo, hi, Builtin.lenOf, Builtin.firstCells, hnc, storeCells]
  | some ad =>
    obtain ⟨v', w', hr, h1, h2, _⟩ := run_append_own (P := Tryz.prog) w base 22 ty 5 i0 (.int .u8 0) 1 1 und22 hi hz0 hz1 hz2 rfl (by decide) v l.length (nv l) h.row ad m.length c (nv m) (by simp [nv]) (by
      intro j u hu
      have hj : j < m.length := by
        have := (List.getElem?_eq_some_iff.1 hu).1
        rwa [nv_len] at this
      have hne : m ≠ [] := fun e => by subst e; simp at hj
      obtain ⟨e1, _, hr⟩ := hh hne
      injection e1 with e1
      subst e1
      rw [Addr.add_mid, hr j hj, ← nv_get m j hj, hu]) (by
      intro u hu
      obtain ⟨x, _, rfl⟩ := List.mem_map.1 hu
      rfl) (by unfold maxLen; omega) (by omega) hb
    exact ⟨v', w', hr, ⟨by rw [List.length_append, show nv (l ++ m) = nv l ++ nv m by simp [nv]]; exact h1, getD_append_lim h.lim hmlim⟩, h2⟩
def zz (k : Nat) : List Nat := List.replicate k 0
theorem zz_len (k : Nat) : (zz k).length = k := by simp [zz]
theorem run_op_append {P : Program} {o : Oper} {a : Act} {w w' : World} {v' : Value} {s x : Operand} {ts : Array TypeId} (ho : o.op = .call { callee := .builtin .append, args := #[s, x], argTypes := ts }) (hr : (Builtin.append_ ts o.type #[a.eval s, a.eval x]).run P w = .ok v' w') : (execOp a.eval o).run P w = .ok (.value v') w' := by
  unfold execOp
  simp only [ho, resolve, invoke, builtin, Sem.run_bind, Sem.run_pure, Result.andThen_ok, List.map_toArray, List.map_cons, List.map_nil, hr]
theorem wpList_append_b {ops : Array Oper} {rest : List Oper} {o : Oper} {a : Act} {w : World} {Q : Exit → Act → World → Prop} (hgd : o.guard = none) (s x : Operand) (ho : o.op = .call { callee := .builtin .append, args := #[s, x], argTypes := #[22, 22] })
    {base : Nat} {l m : List Nat} (h : Own w base (a.eval s) l) (hs : BsAt w (a.eval x) m) (hn : l.length + m.length ≤ 1000000000000) (hb : base ≤ w.heap.size)
    (hk : ∀ v' w', Own w' base v' (l ++ m) → w.grownBy w' (a.eval s).ownBlock → wpList Tryz.prog ops Q rest (a.put o.dst v') w') : wpList Tryz.prog ops Q (o :: rest) a w := by
  refine wpList_plain hgd fun K hK => ?_
  obtain ⟨v', w', hr, h1, h2⟩ := append_run o.type h hs hn hb
  exact Oper.wp_value (run_op_append ho hr) (hK _ _ (hk v' w' h1 h2))
theorem own_lit {w : World} (l : List Nat) (hl : ∀ i, l.getD i 0 < 256) (hm : l.length ≤ maxLen) : Own (w.alloc (.cells (ba l) 5)) w.heap.size (.slice (some ⟨w.heap.size, 0, none⟩) l.length l.length) l :=
  ⟨by
    have := World.ownsRow_lit (base := w.heap.size) (e := 5) (size := 1) w (ba l) l.length (Nat.le_refl _) hm (by simp [ba])
    rw [show nv l = (ba l).toList by simp [nv, ba]]
    exact this, hl⟩
end Go.Proofs.YtobgimpkkjaolaaGreatDoor.Sc
/- Bytes, cut or filled up with zeros to 32: the law's own helper, as its call answers. -/
namespace Go.Proofs.YtobgimpkkjaolaaGreatDoor.Sc
open Go.RowKit
theorem Own.form {w : World} {base : Nat} {v : Value} {l : List Nat} (h : Own w base v l) (hl : 0 < l.length) : ∃ g cap, v = .slice (some ⟨g, 0, none⟩) l.length cap ∧ base ≤ g ∧ g < w.heap.size ∧ l.length ≤ cap ∧ cap ≤ 9223372036854775807 := by
  rcases h.row.2 with ⟨_, h0⟩ | ⟨g, cap, cur, rfl, hb, hr, hn, hm, _, ht⟩
  · omega
  · exact ⟨g, cap, rfl, hb, (Array.getElem?_eq_some_iff.1 hr).1, hn, by unfold maxLen at hm; omega⟩
theorem own_none {w : World} : Own (w.alloc (.cells #[] 5)) w.heap.size (.slice (some ⟨w.heap.size, 0, none⟩) 0 0) [] := own_lit [] (by simp) (by simp)
theorem below_grown {w a b : World} {v : Value} {l : List Nat} {base : Nat} (h : Below w.heap.size w a) (ho : Own a base v l) (hb : w.heap.size ≤ base) (hg : a.grownBy b v.ownBlock) : Below w.heap.size w b :=
  h.grown hg h.size (fun k hk => Nat.le_trans hb (ho.row.lt k hk).1)
end Go.Proofs.YtobgimpkkjaolaaGreatDoor.Sc
/- A copy of bytes, and bytes with some bits laid: as the program's calls answer them, in any world. -/
namespace Go.Proofs.YtobgimpkkjaolaaGreatDoor.Sc
open Go.RowKit
set_option maxRecDepth 100000 in
set_option maxHeartbeats 1000000 in
theorem clone_any (v : Value) (l : List Nat) (w : World) (h : BsAt w v l) (hl : l.length ≤ 1000) (hn : 0 < l.length) : Calls Tryz.prog 78 #[v] w fun e w' => ∃ u, e = .returned u ∧ Own w' w.heap.size u l ∧ Below w.heap.size w w' := by
  have H := hide h
  have HL := hide hl
  obtain ⟨b, o, c, ao, rfl, hc, hm, _, hh⟩ := h
  obtain ⟨rfl, _, _⟩ := hh (fun e => by subst e; simp at hn)
  have hq : ∀ W : World, (binOp BinOp.eql 22 (Value.slice (some ⟨b, o, none⟩) l.length c) (Value.slice none 0 0)).run Tryz.prog W = .ok (.bool false) W := fun W => by kernel_rfl
  clear hh hl hn hc hm
  go_enter Tryz.func78, Tryz.ntmps78
  have B1 := hide ((Below.refl w.heap.size w).alloc (Nat.le_refl _) (.cells #[] 5))
  go_wp2_with (at_builtin; refine wpList_append_b rfl (.tmp 5) (.tmp 6) rfl (base := w.heap.size) (l := []) (m := l) own_none (H.out.ext B1.out) (by have := HL.out; simp; omega) (by simp) ?_)
  intro v1 w1 o1 g1
  have B2 := hide (below_grown B1.out own_none (Nat.le_refl _) g1)
  have O1 := hide o1
  clear g1 B1 o1
  go_wp2
  go_ret
  exact ⟨_, rfl, O1.out, B2.out⟩
def lo8 (x : Nat) : Nat := x - x % 8
def hi8 (x : Nat) : Nat := x % 64 + 64
def clampb (l : List Nat) : List Nat := (l.set 0 (lo8 (l.getD 0 0))).set 31 (hi8 (l.getD 31 0))
theorem bits_lo (x : Nat) (h : x < 256) : bits .andNot .u8 (x : Int) 7 = ((lo8 x : Nat) : Int) := by
  have : ∀ y : Fin 256, bits .andNot .u8 ((y.1 : Nat) : Int) 7 = ((lo8 y.1 : Nat) : Int) := by decide +kernel
  exact this ⟨x, h⟩
theorem bits_mid (x : Nat) (h : x < 256) : bits .andNot .u8 (x : Int) 128 = ((x % 128 : Nat) : Int) := by
  have : ∀ y : Fin 256, bits .andNot .u8 ((y.1 : Nat) : Int) 128 = ((y.1 % 128 : Nat) : Int) := by decide +kernel
  exact this ⟨x, h⟩
theorem bits_hi (x : Nat) (h : x < 256) : bits .or .u8 ((x % 128 : Nat) : Int) 64 = ((hi8 x : Nat) : Int) := by
  have : ∀ y : Fin 256, bits .or .u8 ((y.1 % 128 : Nat) : Int) 64 = ((hi8 y.1 : Nat) : Int) := by decide +kernel
  exact this ⟨x, h⟩
theorem Own.set {w : World} {base g cap k : Nat} {l : List Nat} (h : Own w base (.slice (some ⟨g, 0, none⟩) k cap) l) (j n : Nat) (hn : n < 256) : Own (w.setCell ⟨g, j, none⟩ (.int .u8 (n : Int))) base (.slice (some ⟨g, 0, none⟩) k cap) (l.set j n) := by
  have hk : k = l.length := by
    rcases h.row.2 with ⟨e, _⟩ | ⟨_, _, _, e, _⟩
    · cases e
    · injection e
  subst hk
  exact ⟨by
    have := (h.row.stored j (.int .u8 (n : Int))).1
    rw [List.length_set, show nv (l.set j n) = (nv l).set j (.int .u8 (n : Int)) by simp [nv, List.map_set]]
    exact this, fun i => by
    by_cases e : j = i
    · subst e
      rw [List.getD_eq_getElem?_getD, List.getElem?_set]
      simp only [if_true]
      split
      · exact hn
      · decide
    · rw [getD_set_ne' e]; exact h.lim i⟩
theorem lo8_lt (x : Nat) (h : x < 256) : lo8 x < 256 := by unfold lo8; omega
theorem hi8_lt (x : Nat) : hi8 x < 256 := by unfold hi8; omega
set_option maxRecDepth 100000 in
set_option maxHeartbeats 1000000 in
theorem clamp_32 (v : Value) (l : List Nat) (w : World) (h : BsAt w v l) (hl : l.length = 32) : Calls Tryz.prog 39 #[v] w (Bret w (clampb l)) := by
  have HC := hide (clone_any v l w h (by omega) (by omega))
  have hl0 := h.lim 0
  have hl31 := h.lim 31
  obtain ⟨ao, c, rfl, _, hc⟩ := h.len
  rw [hl] at HC ⊢
  have HL := hide hl
  clear h
  go_enter Tryz.func39, Tryz.ntmps39
  go_wp2_with fail
  refine HC.out.mono ?_
  rintro e w1 ⟨u, rfl, o1, b1⟩
  have hl1 := HL.out
  obtain ⟨g, cap, rfl, hg1, hg2, hcap, hcm⟩ := o1.form (by omega)
  have c0 : w1.cell? ⟨g, 0, none⟩ = some (.int .u8 ((l.getD 0 0 : Nat) : Int)) := by rw [o1.row.cellAt 0 (by omega), nv_get l 0 (by omega)]
  have c31 : w1.cell? ⟨g, 31, none⟩ = some (.int .u8 ((l.getD 31 0 : Nat) : Int)) := by rw [o1.row.cellAt 31 (by omega), nv_get l 31 (by omega)]
  have f0 := o1.row.frozenAt 0
  have f31 := o1.row.frozenAt 31
  have e1 := bits_lo _ hl0
  have e2 := bits_mid _ hl31
  have e3 := bits_hi _ hl31
  have OA := hide (((o1.set 0 (lo8 (l.getD 0 0)) (lo8_lt _ hl0)).set 31 (l.getD 31 0 % 128) (by omega)).set 31 (hi8 (l.getD 31 0)) (hi8_lt _))
  have hcl : ((l.set 0 (lo8 (l.getD 0 0))).set 31 (l.getD 31 0 % 128)).set 31 (hi8 (l.getD 31 0)) = clampb l := by unfold clampb; rw [List.set_set]
  rw [hcl] at OA
  have B1 := hide b1
  rw [hl1] at OA hcap ⊢
  generalize l.getD 0 0 = x0 at *
  generalize l.getD 31 0 = x31 at *
  generalize lo8 x0 = y0 at *
  generalize hi8 x31 = y31 at *
  generalize x31 % 128 = z31 at *
  generalize clampb l = C at *
  clear hcl hl0 hl31 HL hl hl1 o1 b1 HC
  go_wp2
  go_ret
  exact ⟨_, rfl, OA.out.at, ((B1.out.setCell hg1 _).setCell hg1 _).setCell hg1 _⟩
set_option maxHeartbeats 1000000 in
theorem clamp_other (v : Value) (l : List Nat) (w : World) (h : BsAt w v l) (hl : l.length ≠ 32) : Calls Tryz.prog 39 #[v] w fun e w' => e = .returned (.slice none 0 0) ∧ Below w.heap.size w w' := by
  obtain ⟨ao, c, rfl, _, hc⟩ := h.len
  have hne : ((l.length : Int) == 32) = false := by rw [beq_eq_false_iff_ne]; omega
  clear h hl
  go_enter Tryz.func39, Tryz.ntmps39
  go_wp2
  go_ret
  exact ⟨rfl, Below.refl _ _⟩
end Go.Proofs.YtobgimpkkjaolaaGreatDoor.Sc
/- What the calls of package scalar answer, whatever the lengths, in any world where the order lies as the program's text lays it. -/
namespace Go.Proofs.YtobgimpkkjaolaaGreatDoor.Sc
open Go.RowKit
theorem bval_append (l m : List Nat) : bval (l ++ m) = bval l + 256 ^ l.length * bval m := by
  induction l with
  | nil => simp [bval]
  | cons x t ih => rw [List.cons_append, bval, ih, bval, List.length_cons, Nat.pow_succ, Nat.mul_add, Nat.mul_comm (256 ^ t.length) 256, Nat.mul_assoc, Nat.add_assoc]
theorem bv_mod (n : Nat) : bval (bys (n % ll) 32) = n % ll := bys_val _ (lt_big (ll_mod _))
theorem may_mod (n : Nat) : (bys (n % ll) 32).length = 32 ∧ bval (bys (n % ll) 32) < ll := ⟨bys_len _ _, by rw [bv_mod]; exact ll_mod _⟩
theorem nil_at (w : World) : BsAt w (.slice none 0 0) [] := ⟨0, 0, 0, none, rfl, Nat.le_refl _, by unfold maxLen; omega, by simp, fun h => absurd rfl h⟩
theorem bval_byte : ∀ (l : List Nat) (q : Nat), (∀ i, l.getD i 0 < 256) → bval l / 256 ^ q % 256 = l.getD q 0 := by
  intro l
  induction l with
  | nil => intro q _; simp [bval]
  | cons x t ih =>
    intro q h
    have hx := h 0
    simp only [List.getD_cons_zero] at hx
    cases q with
    | zero => simp only [bval, Nat.pow_zero, Nat.div_one, List.getD_cons_zero]; omega
    | succ q =>
      rw [List.getD_cons_succ, ← ih q (fun i => h (i + 1)), bval, Nat.pow_succ, Nat.mul_comm (256 ^ q) 256, ← Nat.div_div_eq_div_mul]
      congr 2; omega
def redb (l : List Nat) : List Nat := if l.length ≤ 64 then bys (bval l % ll) 32 else []
def madb (a b c : List Nat) : List Nat := if a.length = 32 ∧ b.length = 32 ∧ c.length = 32 then bys ((bval a * bval b + bval c) % ll) 32 else []
def clb (l : List Nat) : List Nat := if l.length = 32 then clampb l else []
def mayb (l : List Nat) : Bool := decide (l.length = 32 ∧ bval l < ll)
section
variable {u v t : Value} {a b c : List Nat} {w : World}
theorem hands_nil {f : FuncId} {vals : Array Value} (h : Calls Tryz.prog f vals w fun e w' => e = .returned (.slice none 0 0) ∧ Below w.heap.size w w') : Hands Tryz.prog f vals w (isb []) := h.mono fun _ _ ⟨he, h2⟩ => ⟨_, he, h2, nil_at _⟩
theorem hands_ret {f : FuncId} {vals : Array Value} {l : List Nat} (h : Calls Tryz.prog f vals w (Bret w l)) : Hands Tryz.prog f vals w (isb l) := h.mono fun _ _ ⟨v, he, h1, h2⟩ => ⟨v, he, h2, h1⟩
theorem f_red (h : BsAt w u a) (hL : Laid w) : Hands Tryz.prog 66 #[u] w (isb (redb a)) := by
  unfold redb
  split
  · rename_i hl; exact hands_ret (reduce_ret u a w h hL hl)
  · rename_i hl; exact hands_nil (reduce_long u a w h (by omega))
theorem f_mad (h1 : BsAt w u a) (h2 : BsAt w v b) (h3 : BsAt w t c) (hL : Laid w) : Hands Tryz.prog 48 #[u, v, t] w (isb (madb a b c)) := by
  unfold madb
  split
  · rename_i hl; exact hands_ret (mulAdd_ret u v t a b c w h1 h2 h3 hL hl.1 hl.2.1 hl.2.2)
  · rename_i hl; exact hands_nil (mulAdd_other u v t a b c w h1 h2 h3 hl)
theorem f_clamp (h : BsAt w u a) : Hands Tryz.prog 39 #[u] w (isb (clb a)) := by
  unfold clb
  split
  · rename_i hl; exact hands_ret (clamp_32 u a w h hl)
  · rename_i hl; exact hands_nil (clamp_other u a w h hl)
theorem f_may (h : BsAt w u a) (hL : Laid w) : Hands Tryz.prog 26 #[u] w (isv (.bool (mayb a))) := by
  by_cases hl : a.length = 32
  · exact (may_32 u a w h hL hl).mono fun e w' ⟨he, hb⟩ => ⟨_, he, hb, by unfold mayb; simp only [hl, true_and]; rfl⟩
  · exact (may_other u a w h hl).mono fun e w' ⟨he, hb⟩ => ⟨_, he, hb, by unfold mayb; simp only [hl, false_and, decide_false]; rfl⟩
end
end Go.Proofs.YtobgimpkkjaolaaGreatDoor.Sc
