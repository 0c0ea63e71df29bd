/- What bytes leave by the order, as the program's call answers it. -/
import Derived.Test.YteplbagjagimdaaDoorRows
import Derived.WalkKit
import Derived.WalkSpells
import Derived.WalkLawsBesides
import Derived.Laws.Externs
import Derived.Shelf.Spec.BitsCarry
import Derived.Shelf.Bits.Mul64
import Derived.Test.YteplbagjagimdaaDoorMb
import Derived.Deep.WholeRow
import Derived.Deep.MidRow
import Derived.Deep.RegionHeld3
/- Numbers as rows of words of 64 bits: plain arithmetic, for all rows. -/
namespace Go.Proofs.YteplbagjagimdaaDoor.Sc
/-- The number of a row of words, the lowest first. -/
def val : List Nat → Nat
  | [] => 0
  | x :: t => x + 18446744073709551616 * val t
def lim (l : List Nat) : Prop := ∀ i, l.getD i 0 < 18446744073709551616
theorem lim_set {l : List Nat} (h : lim l) (k y : Nat) (hy : y < 18446744073709551616) : lim (l.set k y) := by
  intro i
  have hi := h i
  simp only [List.getD_eq_getElem?_getD, List.getElem?_set] at hi ⊢
  split
  · split
    · exact hy
    · decide
  · exact hi
theorem val_set : ∀ (l : List Nat) (k y : Nat), k < l.length → val (l.set k y) + 18446744073709551616 ^ k * l.getD k 0 = val l + 18446744073709551616 ^ k * y
  | [], k, y, h => absurd h (by simp)
  | x :: t, 0, y, _ => by simp [val]; omega
  | x :: t, k + 1, y, h => by
    have ih := val_set t k y (by simpa using h)
    simp only [List.set_cons_succ, val, List.getD_cons_succ, Nat.pow_succ]
    rw [Nat.mul_comm (18446744073709551616 ^ k), Nat.mul_assoc, Nat.mul_assoc]
    omega
theorem val_take : ∀ (l : List Nat) (k : Nat), k < l.length → val (l.take (k + 1)) = val (l.take k) + 18446744073709551616 ^ k * l.getD k 0
  | [], k, h => absurd h (by simp)
  | x :: t, 0, _ => by simp [val]
  | x :: t, k + 1, h => by
    have ih := val_take t k (by simpa using h)
    rw [List.take_succ_cons, List.take_succ_cons, val, val, ih, List.getD_cons_succ, Nat.pow_succ, Nat.mul_add]
    rw [Nat.mul_comm (18446744073709551616 ^ k) 18446744073709551616, Nat.mul_assoc]
    omega
theorem four {l : List Nat} (h : l.length = 4) : ∃ a b c d, l = [a, b, c, d] := by
  match l, h with
  | [a, b, c, d], _ => exact ⟨a, b, c, d, rfl⟩
theorem eight {l : List Nat} (h : l.length = 8) : ∃ a b c d e f g i, l = [a, b, c, d, e, f, g, i] := by
  match l, h with
  | [a, b, c, d, e, f, g, i], _ => exact ⟨a, b, c, d, e, f, g, i, rfl⟩
theorem val4 (a b c d : Nat) : val [a, b, c, d] = a + 18446744073709551616 * b + 340282366920938463463374607431768211456 * c + 6277101735386680763835789423207666416102355444464034512896 * d := by
  simp only [val]; omega
theorem lim4 {a b c d : Nat} (h : lim [a, b, c, d]) : a < 18446744073709551616 ∧ b < 18446744073709551616 ∧ c < 18446744073709551616 ∧ d < 18446744073709551616 :=
  ⟨h 0, h 1, h 2, h 3⟩
theorem lim4_mk {a b c d : Nat} (h : a < 18446744073709551616 ∧ b < 18446744073709551616 ∧ c < 18446744073709551616 ∧ d < 18446744073709551616) : lim [a, b, c, d] := by
  intro i
  match i with
  | 0 => exact h.1
  | 1 => exact h.2.1
  | 2 => exact h.2.2.1
  | 3 => exact h.2.2.2
  | i + 4 => simp
theorem val_lt : ∀ {l : List Nat}, lim l → val l < 18446744073709551616 ^ l.length
  | [], _ => by simp [val]
  | x :: t, h => by
    have ih := val_lt (l := t) (fun i => h (i + 1))
    have hx := h 0
    simp only [List.getD_cons_zero] at hx
    simp only [val, List.length_cons, Nat.pow_succ]
    omega
/-- A round of a sum: what is there, what comes, what was carried. -/
theorem add_step {l : List Nat} {k x y c P A : Nat} (hk : k < l.length) (hP : 18446744073709551616 ^ k = P) (hx : l.getD k 0 = x) (h : val l + c * P = A) :
    val (l.set k ((x + y + c) % 18446744073709551616)) + (x + y + c) / 18446744073709551616 * 18446744073709551616 ^ (k + 1) = A + P * y := by
  have hs := val_set l k ((x + y + c) % 18446744073709551616) hk
  rw [hP, hx] at hs
  rw [Nat.pow_succ, hP]
  have hd := Nat.div_add_mod (x + y + c) 18446744073709551616
  generalize (x + y + c) % 18446744073709551616 = r at *
  generalize (x + y + c) / 18446744073709551616 = q at *
  have e1 : q * (P * 18446744073709551616) = P * (18446744073709551616 * q) := by
    rw [Nat.mul_comm q, Nat.mul_assoc]
  have e2 : P * (18446744073709551616 * q) + P * r = P * x + P * y + P * c := by
    rw [← Nat.mul_add, hd, Nat.mul_add, Nat.mul_add]
  rw [e1]
  rw [Nat.mul_comm c P] at h
  omega
/-- A round of a product by one word. -/
theorem mul_step {l : List Nat} {k t x P A Y : Nat} (hk : k < l.length) (hP : 18446744073709551616 ^ k = P) (hx : l.getD k 0 = x) (h : val l + Y = A) :
    val (l.set k (t % 18446744073709551616)) + Y + P * x + t / 18446744073709551616 * 18446744073709551616 ^ (k + 1) = A + P * t := by
  have hs := val_set l k (t % 18446744073709551616) hk
  rw [hP, hx] at hs
  rw [Nat.pow_succ, hP]
  have hd := Nat.div_add_mod t 18446744073709551616
  generalize t % 18446744073709551616 = r at *
  generalize t / 18446744073709551616 = q at *
  have e1 : q * (P * 18446744073709551616) = P * (18446744073709551616 * q) := by
    rw [Nat.mul_comm q, Nat.mul_assoc]
  have e2 : P * (18446744073709551616 * q) + P * r = P * t := by rw [← Nat.mul_add, hd]
  rw [e1]
  omega
theorem scale_step {l : List Nat} {k x y a P T V : Nat} (hk : k < l.length) (hP : 18446744073709551616 ^ k = P) (hx : l.getD k 0 = x) (h : val l + a * P + T = V + y * T) :
    val (l.set k ((x * y + a) % 18446744073709551616)) + (x * y + a) / 18446744073709551616 * 18446744073709551616 ^ (k + 1) + (T + P * x) = V + y * (T + P * x) := by
  have hs := mul_step (t := x * y + a) (Y := 0) hk hP hx rfl
  rw [Nat.mul_add P, ← Nat.mul_assoc P] at hs
  rw [Nat.mul_add, Nat.mul_comm y (P * x)]
  rw [Nat.mul_comm a P] at h
  omega
theorem sub_word (x y b : Nat) (hx : x < 18446744073709551616) (hy : y < 18446744073709551616) (hb : b ≤ 1) :
    (x + 18446744073709551616 - y - b) % 18446744073709551616 + y + b = x + 18446744073709551616 * (if x < y + b then 1 else 0) := by
  split <;> omega
theorem sub_step {l : List Nat} {k x y b r b' P W V Q : Nat} (hk : k < l.length) (hP : 18446744073709551616 ^ k = P) (hy : l.getD k 0 = y) (hr : r + y + b = x + 18446744073709551616 * b')
    (h : val l + 2 * W = V + Q + b * P) : val (l.set k r) + 2 * (W + P * y) = V + (Q + P * x) + b' * 18446744073709551616 ^ (k + 1) := by
  have hs := val_set l k r hk
  rw [hP, hy] at hs
  rw [Nat.pow_succ, hP]
  have e : P * r + P * y + P * b = P * x + P * (18446744073709551616 * b') := by
    rw [← Nat.mul_add, ← Nat.mul_add, hr, Nat.mul_add]
  have e1 : b' * (P * 18446744073709551616) = P * (18446744073709551616 * b') := by
    rw [Nat.mul_comm b', Nat.mul_assoc]
  rw [Nat.mul_comm b P] at h
  omega
/-- A round of a product of rows. -/
theorem row_step {l : List Nat} {i j x y z a P V T : Nat} (hk : i + j < l.length) (hP : 18446744073709551616 ^ (i + j) = P) (hz : l.getD (i + j) 0 = z) (h : val l + a * P = V + T) :
    val (l.set (i + j) ((x * y + z + a) % 18446744073709551616)) + (x * y + z + a) / 18446744073709551616 * 18446744073709551616 ^ (i + (j + 1)) = V + (T + P * (x * y)) := by
  have hs := mul_step (t := x * y + z + a) (Y := 0) hk hP hz rfl
  rw [Nat.mul_add P, Nat.mul_add P] at hs
  rw [Nat.mul_comm a P] at h
  rw [← Nat.add_assoc i j 1]
  omega
theorem row_step' {l : List Nat} {i j n x y z a V T T' q r : Nat} (hn : i + j = n) (hk : n < l.length) (hz : l.getD n 0 = z) (h : val l + a * 18446744073709551616 ^ n = V + 18446744073709551616 ^ i * (x * T)) (hT : T' = T + 18446744073709551616 ^ j * y)
    (hq : (x * y + z + a) / 18446744073709551616 = q) (hr : (x * y + z + a) % 18446744073709551616 = r) : val (l.set n r) + q * 18446744073709551616 ^ (i + (j + 1)) = V + 18446744073709551616 ^ i * (x * T') := by
  subst hn
  have hst := row_step (x := x) (y := y) hk rfl hz h
  rw [hq, hr] at hst
  rw [hst, hT, Nat.mul_add x, Nat.mul_add (18446744073709551616 ^ i), Nat.pow_add, Nat.mul_assoc (18446744073709551616 ^ i), Nat.mul_left_comm (18446744073709551616 ^ j) x y]
theorem row_end {l : List Nat} {i a V T : Nat} (hk : i + 4 < l.length) (hz : l.getD (i + 4) 0 = 0) (h : val l + a * 18446744073709551616 ^ (i + 4) = V + T) : val (l.set (i + 4) a) = V + T := by
  have hs := val_set l (i + 4) a hk
  rw [hz] at hs
  rw [Nat.mul_comm] at h
  omega
theorem getD_set_ne' {l : List Nat} {k m y : Nat} (h : k ≠ m) : (l.set k y).getD m 0 = l.getD m 0 := by
  simp [List.getD_eq_getElem?_getD, h]
theorem val8 (a b c d e f g i : Nat) : val [a, b, c, d, e, f, g, i] = val [a, b, c, d] + 115792089237316195423570985008687907853269984665640564039457584007913129639936 * val [e, f, g, i] := by
  simp only [val]; omega
theorem word_mul {x y m n : Nat} (hx : x < 18446744073709551616) (hy : y < 18446744073709551616) (hm : m < 18446744073709551616) (hn : n < 18446744073709551616) :
    x * y + m + n < 340282366920938463463374607431768211456 := by
  have h : x * y ≤ 18446744073709551615 * 18446744073709551615 := Nat.mul_le_mul (by omega) (by omega)
  omega
theorem mad_low (p m n : Nat) : ((p % 18446744073709551616 + m) % 18446744073709551616 + n) % 18446744073709551616 = (p + m + n) % 18446744073709551616 := by omega
theorem mad_high (p m n : Nat) : p / 18446744073709551616 + (p % 18446744073709551616 + m) / 18446744073709551616 + ((p % 18446744073709551616 + m) % 18446744073709551616 + n) / 18446744073709551616 = (p + m + n) / 18446744073709551616 := by omega
end Go.Proofs.YteplbagjagimdaaDoor.Sc
/- The leaves of the field: sums, differences and products of words, as the program's calls answer them, in any world, for all words. -/
namespace Go.Proofs.YteplbagjagimdaaDoor.Sc
open Go.RowKit
theorem add64_nat (x y c : Nat) (hc : c ≤ 1) (w : World) : (callFunc 85 #[.int .u64 (x : Int), .int .u64 (y : Int), .int .u64 (c : Int)]).run Tryd.prog w =
    .ok (.value (.tuple #[.int .u64 (((x + y + c) % 18446744073709551616 : Nat) : Int), .int .u64 (((x + y + c) / 18446744073709551616 : Nat) : Int)])) w := by
  rw [run_callFunc_extern Tryd.func85 (by kernel_rfl) (by kernel_rfl) (by kernel_rfl) (e := add64Entry) (by kernel_rfl), run_add64 x y c (by omega) (by omega) (by omega) (by omega)]
  simp only [Result.andThen]
  congr 5 <;> omega
theorem sub64_nat (x y b : Nat) (hb : b ≤ 1) (w : World) : (callFunc 82 #[.int .u64 (x : Int), .int .u64 (y : Int), .int .u64 (b : Int)]).run Tryd.prog w =
    .ok (.value (.tuple #[.int .u64 (((x + 18446744073709551616 - y - b) % 18446744073709551616 : Nat) : Int), .int .u64 ((if x < y + b then 1 else 0 : Nat) : Int)])) w := by
  rw [run_callFunc_extern Tryd.func82 (by kernel_rfl) (by kernel_rfl) (by kernel_rfl) (e := sub64Entry) (by kernel_rfl), run_sub64 x y b hb]
  rfl
set_option maxHeartbeats 1000000 in
theorem mul64_any (x y : Nat) (hx : x < 18446744073709551616) (hy : y < 18446744073709551616) (w : World) :
    Calls Tryd.prog 88 #[.int .u64 x, .int .u64 y] w fun e w' => e = .returned (.tuple #[.int .u64 ((x * y / 18446744073709551616 : Nat) : Int), .int .u64 ((x * y % 18446744073709551616 : Nat) : Int)]) ∧ w' = w := by
  obtain ⟨bd, bt, bw, hhi⟩ := Lib.mul64_hi x y hx hy
  have ba := Lib.half_mul_le (a := x / 4294967296) (b := y / 4294967296) (by omega) (by omega)
  have bb := Lib.half_mul_le (a := x / 4294967296) (b := y % 4294967296) (by omega) (by omega)
  have bc := Lib.half_mul_le (a := x % 4294967296) (b := y / 4294967296) (by omega) (by omega)
  have ba' : x / 4294967296 * (y / 4294967296) < 18446744073709551616 := by omega
  have bb' : x / 4294967296 * (y % 4294967296) < 18446744073709551616 := by omega
  have bc' : x % 4294967296 * (y / 4294967296) < 18446744073709551616 := by omega
  have bh1 : x / 4294967296 * (y / 4294967296) + (x / 4294967296 * (y % 4294967296) + x % 4294967296 * (y % 4294967296) / 4294967296) / 4294967296 < 18446744073709551616 := by omega
  have bh : x / 4294967296 * (y / 4294967296) + (x / 4294967296 * (y % 4294967296) + x % 4294967296 * (y % 4294967296) / 4294967296) / 4294967296 + ((x / 4294967296 * (y % 4294967296) + x % 4294967296 * (y % 4294967296) / 4294967296) % 4294967296 + x % 4294967296 * (y / 4294967296)) / 4294967296 < 18446744073709551616 := by omega
  go_enter Tryd.func88, Tryd.ntmps88
  go_wp2
  simp only [Mul64.maskN x hx, Mul64.maskN y hy, Mul64.divN, Mul64.mulN, Mul64.addN, Mul64.wrapN _ bd, Mul64.wrapN _ bb', Mul64.wrapN _ bt, Mul64.maskN _ bt, Mul64.wrapN _ bc', Mul64.wrapN _ bw, Mul64.wrapN _ ba', Mul64.wrapN _ bh1, Mul64.wrapN _ bh, Mul64.wrapM (x * y)]
  rw [hhi]
  go_ret2
  exact ⟨rfl, rfl⟩
theorem u64_wrap (a : Nat) (ha : a < 18446744073709551616) : IntKind.u64.wrap (a : Int) = (a : Int) := by rw [IntKind.wrap_u64]; omega
theorem add64_int (x y c : Int) (hx : 0 ≤ x) (hy : 0 ≤ y) (hc0 : 0 ≤ c) (hc : c ≤ 1) (w : World) : (callFunc 85 #[.int .u64 x, .int .u64 y, .int .u64 c]).run Tryd.prog w =
    .ok (.value (.tuple #[.int .u64 ((x + y + c) % 18446744073709551616), .int .u64 ((x + y + c) / 18446744073709551616)])) w := by
  rw [run_callFunc_extern Tryd.func85 (by kernel_rfl) (by kernel_rfl) (by kernel_rfl) (e := add64Entry) (by kernel_rfl), run_add64 x y c hx hy hc0 hc]
  rfl
theorem add64_zero (x y : Int) (hx : 0 ≤ x) (hy : 0 ≤ y) (w : World) : (callFunc 85 #[.int .u64 x, .int .u64 y, .int .u64 0]).run Tryd.prog w =
    .ok (.value (.tuple #[.int .u64 ((x + y) % 18446744073709551616), .int .u64 ((x + y) / 18446744073709551616)])) w := by
  simpa using add64_int x y 0 hx hy (Int.le_refl 0) (by decide) w
theorem ret2 {v1 v2 u1 u2 : Value} (h1 : v1 = u1) (h2 : v2 = u2) : Ending.returned (.tuple #[v1, v2]) = .returned (.tuple #[u1, u2]) := by rw [h1, h2]
theorem mad_num (p m n : Nat) (h : p + m + n < 340282366920938463463374607431768211456) :
    IntKind.u64.wrap (IntKind.u64.wrap (((p / 18446744073709551616 : Nat) : Int) + (((p % 18446744073709551616 : Nat) : Int) + m) / 18446744073709551616) + ((((p % 18446744073709551616 : Nat) : Int) + m) % 18446744073709551616 + n) / 18446744073709551616) = (((p + m + n) / 18446744073709551616 : Nat) : Int)
    ∧ (((p % 18446744073709551616 : Nat) : Int) + m + n) % 18446744073709551616 = (((p + m + n) % 18446744073709551616 : Nat) : Int) := by
  simp only [IntKind.wrap_u64]; omega
end Go.Proofs.YteplbagjagimdaaDoor.Sc
/- Rows of words and bytes in memory: what lies in a block, how it is read and written; numbers as rows. -/
namespace Go.Proofs.YteplbagjagimdaaDoor.Sc
open Go.RowKit
theorem hide {p : Prop} (h : p) : Hid p := h
/-- A row of words as the model has it. -/
def na (l : List Nat) : Array Value := (l.map fun (n : Nat) => Value.int .u64 (n : Int)).toArray
theorem na_size (l : List Nat) : (na l).size = l.length := by simp [na]
theorem na_get (l : List Nat) (k : Nat) (h : k < l.length) : (na l)[k]? = some (.int .u64 ((l.getD k 0 : Nat) : Int)) := by
  simp [na, List.getD_eq_getElem?_getD, h]
theorem na_set (l : List Nat) (k n : Nat) : (na l).setIfInBounds k (.int .u64 (n : Int)) = na (l.set k n) := by
  simp [na, List.map_set]
theorem na4 (a b c d : Nat) : na [a, b, c, d] = #[.int .u64 (a : Int), .int .u64 (b : Int), .int .u64 (c : Int), .int .u64 (d : Int)] := rfl
theorem keep_set {w : World} {g g' n m : Nat} {v x : Value} (hm : g ≠ g' ∨ m ≠ n) (h : w.cell? ⟨g, m, none⟩ = some x) : (w.setCell ⟨g', n, none⟩ v).drew.cell? ⟨g, m, none⟩ = some x := by
  show (w.setCell ⟨g', n, none⟩ v).cell? ⟨g, m, none⟩ = some x
  rw [World.cell?_setCell_other _ _ _ _ (fun e => by injection e with e1 e2; rcases hm with hm | hm; exact hm e1.symm; exact hm e2.symm)]; exact h
theorem heap_alloc_last3 (w : World) (a b c : Obj) : (((w.alloc a).alloc b).alloc c).heap[w.heap.size + 1 + 1]? = some c := by
  have h := heap_alloc_last ((w.alloc a).alloc b) c
  simpa using h
theorem heap_alloc_mid3 (w : World) (a b c : Obj) : (((w.alloc a).alloc b).alloc c).heap[w.heap.size + 1]? = some b := by
  rw [Below.heap_alloc _ _ _ (by simp)]
  have h := heap_alloc_last (w.alloc a) b
  simpa using h
theorem Below.setRow {B : Nat} {a w : World} (h : Below B a w) (g : Nat) (cs : Array Value) (hg : B ≤ g) : Below B a (w.setRow g cs) :=
  h.trans ⟨rfl, rfl, rfl, by simp, fun k hk => setRow_other w g k cs (by omega)⟩
theorem below3 (w : World) (a b c : Obj) : Below w.heap.size w (((w.alloc a).alloc b).alloc c) :=
  (((Below.refl _ _).alloc (Nat.le_refl _) _).alloc (by simp) _).alloc (by simp; omega) _
theorem bcell {W w1 : World} (hb : Below W.heap.size W w1) : (∀ b o, b < W.heap.size → w1.cell? ⟨b, o, none⟩ = W.cell? ⟨b, o, none⟩) ∧ (∀ b o, b < W.heap.size → w1.frozen? ⟨b, o, none⟩ = W.frozen? ⟨b, o, none⟩) :=
  ⟨fun b o h => hb.cell (p := ⟨b, o, none⟩) h, fun b o h => hb.frozen (p := ⟨b, o, none⟩) h⟩
theorem Below.row {B : Nat} {W w1 : World} (h : Below B W w1) {g : Nat} {cs : Array Value} {t : TypeId} (hg : g < B) (hr : W.heap[g]? = some (.cells cs t (0, 0))) :
    (∀ i, w1.cell? ⟨g, i, none⟩ = cs[i]?) ∧ (∀ i, w1.frozen? ⟨g, i, none⟩ = false) := by
  have h1 := (h.block g hg).trans hr
  exact ⟨fun i => cell_of_row _ _ _ _ _ _ h1, fun i => frozen_of_row _ _ _ _ _ h1⟩
theorem heap2_0 (w : World) (a b : Obj) : ((w.alloc a).alloc b).heap[w.heap.size]? = some a := by
  rw [Below.heap_alloc _ _ _ (by simp), heap_alloc_last]
theorem heap2_1 (w : World) (a b : Obj) : ((w.alloc a).alloc b).heap[w.heap.size + 1]? = some b := by
  have h := heap_alloc_last (w.alloc a) b
  simpa using h
theorem below2 (w : World) (a b : Obj) : Below w.heap.size w ((w.alloc a).alloc b) :=
  ((Below.refl _ _).alloc (Nat.le_refl _) _).alloc (by simp) _
theorem set4_row {w : World} {g : Nat} {x0 x1 x2 x3 v0 v1 v2 v3 : Value} {t : TypeId} (h : w.heap[g]? = some (.cells #[x0, x1, x2, x3] t (0, 0))) :
    ((((w.setCell ⟨g, 0, none⟩ v0).setCell ⟨g, 1, none⟩ v1).setCell ⟨g, 2, none⟩ v2).setCell ⟨g, 3, none⟩ v3).heap[g]? = some (.cells #[v0, v1, v2, v3] t (0, 0)) := by
  have h1 := heap_setCell_same w g 0 _ t v0 h
  have h2 := heap_setCell_same _ g 1 _ t v1 h1
  have h3 := heap_setCell_same _ g 2 _ t v2 h2
  exact heap_setCell_same _ g 3 _ t v3 h3
theorem set4_other {w : World} {g k : Nat} (v0 v1 v2 v3 : Value) (h : k ≠ g) :
    ((((w.setCell ⟨g, 0, none⟩ v0).setCell ⟨g, 1, none⟩ v1).setCell ⟨g, 2, none⟩ v2).setCell ⟨g, 3, none⟩ v3).heap[k]? = w.heap[k]? := by
  rw [heap_setCell_other _ _ _ _ (by simpa using h), heap_setCell_other _ _ _ _ (by simpa using h), heap_setCell_other _ _ _ _ (by simpa using h), heap_setCell_other _ _ _ _ (by simpa using h)]
theorem Below.set4 {B : Nat} {a w : World} (h : Below B a w) {g : Nat} (hg : B ≤ g) (v0 v1 v2 v3 : Value) :
    Below B a ((((w.setCell ⟨g, 0, none⟩ v0).setCell ⟨g, 1, none⟩ v1).setCell ⟨g, 2, none⟩ v2).setCell ⟨g, 3, none⟩ v3) :=
  (((h.setCell hg _).setCell hg _).setCell hg _).setCell hg _
theorem Below.heap {B : Nat} {W w1 : World} (h : Below B W w1) {g : Nat} {o : Obj} (hg : g < B) (hr : W.heap[g]? = some o) : w1.heap[g]? = some o := (h.block g hg).trans hr
theorem row_reads {w : World} {g : Nat} {cs : Array Value} {t : TypeId} (h : w.heap[g]? = some (.cells cs t (0, 0))) : (∀ i, w.cell? ⟨g, i, none⟩ = cs[i]?) ∧ (∀ i, w.frozen? ⟨g, i, none⟩ = false) :=
  ⟨fun _ => cell_of_row _ _ _ _ _ _ h, fun _ => frozen_of_row _ _ _ _ _ h⟩
theorem na8 (a b c d e f g i : Nat) : na [a, b, c, d, e, f, g, i] = #[.int .u64 (a : Int), .int .u64 (b : Int), .int .u64 (c : Int), .int .u64 (d : Int), .int .u64 (e : Int), .int .u64 (f : Int), .int .u64 (g : Int), .int .u64 (i : Int)] := rfl
theorem heap_alloc_last4 (w : World) (a b c d : Obj) : ((((w.alloc a).alloc b).alloc c).alloc d).heap[w.heap.size + 1 + 1 + 1]? = some d := by
  have h := heap_alloc_last (((w.alloc a).alloc b).alloc c) d
  simpa using h
/-- A number's four words, as the model has them. -/
def el (n : Nat) : Array Value := #[.int .u64 ((n % 18446744073709551616 : Nat) : Int), .int .u64 ((n / 18446744073709551616 % 18446744073709551616 : Nat) : Int), .int .u64 ((n / 340282366920938463463374607431768211456 % 18446744073709551616 : Nat) : Int), .int .u64 ((n / 6277101735386680763835789423207666416102355444464034512896 % 18446744073709551616 : Nat) : Int)]
theorem el_open (x : Nat) (hx : x < 115792089237316195423570985008687907853269984665640564039457584007913129639936) : ∃ a b c d : Nat, el x = #[.int .u64 (a : Int), .int .u64 (b : Int), .int .u64 (c : Int), .int .u64 (d : Int)] ∧ (a < 18446744073709551616 ∧ b < 18446744073709551616 ∧ c < 18446744073709551616 ∧ d < 18446744073709551616) ∧ val [a, b, c, d] = x := by
  refine ⟨_, _, _, _, rfl, ?_, ?_⟩
  · omega
  · rw [val4]; omega
theorem el_close {a b c d x : Nat} (h : a < 18446744073709551616 ∧ b < 18446744073709551616 ∧ c < 18446744073709551616 ∧ d < 18446744073709551616) (hv : val [a, b, c, d] = x) : #[.int .u64 (a : Int), .int .u64 (b : Int), .int .u64 (c : Int), .int .u64 (d : Int)] = el x := by
  rw [val4] at hv
  have e1 : x % 18446744073709551616 = a := by omega
  have e2 : x / 18446744073709551616 % 18446744073709551616 = b := by omega
  have e3 : x / 340282366920938463463374607431768211456 % 18446744073709551616 = c := by omega
  have e4 : x / 6277101735386680763835789423207666416102355444464034512896 % 18446744073709551616 = d := by omega
  unfold el
  rw [e1, e2, e3, e4]
/-- A row's word is the number's. -/
theorem val_word : ∀ (l : List Nat) (q : Nat), lim l → val l / 18446744073709551616 ^ q % 18446744073709551616 = l.getD q 0 := by
  intro l
  induction l with
  | nil => intro q _; simp [val]
  | cons x t ih =>
    intro q h
    have hx := h 0
    simp only [List.getD_cons_zero] at hx
    cases q with
    | zero => simp only [val, Nat.pow_zero, Nat.div_one, List.getD_cons_zero]; omega
    | succ q =>
      rw [List.getD_cons_succ, ← ih q (fun i => h (i + 1)), val, Nat.pow_succ, Nat.mul_comm (18446744073709551616 ^ q) 18446744073709551616, ← Nat.div_div_eq_div_mul]
      congr 2; omega
/-- A number's word. -/
def wd (x q : Nat) : Nat := x / 18446744073709551616 ^ q % 18446744073709551616
theorem wd_lt (x q : Nat) : wd x q < 18446744073709551616 := Nat.mod_lt _ (by decide)
/-- A number's eight words, as the model has them. -/
def el8 (n : Nat) : Array Value := na [wd n 0, wd n 1, wd n 2, wd n 3, wd n 4, wd n 5, wd n 6, wd n 7]
theorem el8_close {l : List Nat} {x : Nat} (hl : l.length = 8) (h : lim l) (hv : val l = x) : na l = el8 x := by
  have h0 := val_word l 0 h
  have h1 := val_word l 1 h
  have h2 := val_word l 2 h
  have h3 := val_word l 3 h
  have h4 := val_word l 4 h
  have h5 := val_word l 5 h
  have h6 := val_word l 6 h
  have h7 := val_word l 7 h
  rw [hv] at h0 h1 h2 h3 h4 h5 h6 h7
  unfold el8 wd
  rw [h0, h1, h2, h3, h4, h5, h6, h7]
  obtain ⟨a, b, c, d, e, f, g, i, rfl⟩ := eight hl
  rfl
theorem wd_val (x : Nat) : ∀ n, ∀ l : List Nat, l.length = n → (∀ i, i < n → l.getD i 0 = wd x i) → val l = x % 18446744073709551616 ^ n := by
  intro n
  induction n generalizing x with
  | zero =>
    intro l hl _
    have : l = [] := List.eq_nil_of_length_eq_zero hl
    subst this; simp [val, Nat.mod_one]
  | succ n ih =>
    intro l hl hw
    cases l with
    | nil => simp at hl
    | cons a t =>
      have ha := hw 0 (by omega)
      have ht := ih (x / 18446744073709551616) t (by simpa using hl) (fun i hi => by
        have := hw (i + 1) (by omega)
        rw [List.getD_cons_succ] at this
        rw [this, wd, wd, Nat.pow_succ, Nat.mul_comm, Nat.div_div_eq_div_mul])
      simp only [List.getD_cons_zero, wd, Nat.pow_zero, Nat.div_one] at ha
      rw [val, ht, ha, Nat.pow_succ, Nat.mul_comm (18446744073709551616 ^ n), Nat.mod_mul]
theorem el8_open (x : Nat) (hx : x < 18446744073709551616 ^ 8) : ∃ l : List Nat, el8 x = na l ∧ l.length = 8 ∧ lim l ∧ val l = x := by
  refine ⟨_, rfl, rfl, ?_, ?_⟩
  · intro i
    match i with
    | 0 | 1 | 2 | 3 | 4 | 5 | 6 | 7 => exact wd_lt _ _
    | i + 8 => simp
  · rw [wd_val x 8 _ rfl, Nat.mod_eq_of_lt hx]
    intro i hi
    match i, hi with
    | 0, _ | 1, _ | 2, _ | 3, _ | 4, _ | 5, _ | 6, _ | 7, _ => rfl
theorem el_na {l : List Nat} {x : Nat} (hl : l.length = 4) (h : lim l) (hv : val l = x) : na l = el x := by
  obtain ⟨a, b, c, d, rfl⟩ := four hl
  exact el_close (lim4 h) hv
theorem heap3_0 (w : World) (a b c : Obj) : (((w.alloc a).alloc b).alloc c).heap[w.heap.size]? = some a := by
  rw [Below.heap_alloc _ _ _ (by simp; omega)]; exact heap2_0 _ _ _
theorem and_one (a : Nat) (ha : a < 18446744073709551616) : bits BinOp.and IntKind.u64 (a : Int) 1 = ((a % 2 : Nat) : Int) := by
  have h := bits_and_u64_nat a 1 ha (by omega)
  have e : a &&& 1 = a % 2 := Nat.and_two_pow_sub_one_eq_mod a 1
  rw [e] at h
  exact h
/-- Bytes as the model has them. -/
def ba (l : List Nat) : Array Value := (l.map fun (n : Nat) => Value.int .u8 (n : Int)).toArray
theorem ba_get (l : List Nat) (k : Nat) (h : k < l.length) : (ba l)[k]? = some (.int .u8 ((l.getD k 0 : Nat) : Int)) := by
  simp [ba, List.getD_eq_getElem?_getD, h]
theorem ba_set (l : List Nat) (k n : Nat) : (ba l).setIfInBounds k (.int .u8 (n : Int)) = ba (l.set k n) := by
  simp [ba, List.map_set]
/-- A number's byte. -/
def byt (x i : Nat) : Nat := x / 256 ^ i % 256
/-- Its bytes so far. -/
def bys (x : Nat) : Nat → List Nat
  | 0 => List.replicate 32 0
  | k + 1 => (bys x k).set k (byt x k)
theorem bys_len (x : Nat) : ∀ k, (bys x k).length = 32
  | 0 => by simp [bys]
  | k + 1 => by simp [bys, bys_len x k]
theorem bys_get (x : Nat) : ∀ k i, k ≤ 32 → (bys x k).getD i 0 = if i < k then byt x i else 0
  | 0, i, _ => by
    show (List.replicate 32 0).getD i 0 = _
    rw [if_neg (by omega), List.getD_eq_getElem?_getD, List.getElem?_replicate]
    split <;> rfl
  | k + 1, i, h => by
    have ih := bys_get x k i (by omega)
    rw [bys]
    by_cases e : k = i
    · subst e
      have hl := bys_len x k
      simp [List.getD_eq_getElem?_getD, hl, show k < 32 by omega]
    · rw [getD_set_ne' e, ih]
      by_cases h1 : i < k
      · rw [if_pos h1, if_pos (by omega)]
      · rw [if_neg h1, if_neg (by omega)]
theorem byt_word (x i : Nat) : (x / 18446744073709551616 ^ (i / 8) % 18446744073709551616) / 2 ^ (i % 8 * 8) % 256 = byt x i := by
  unfold byt
  have h1 : (18446744073709551616 : Nat) = 2 ^ (i % 8 * 8) * (256 * 2 ^ (56 - i % 8 * 8)) := by
    rw [show (256 : Nat) = 2 ^ 8 from rfl, ← Nat.pow_add, ← Nat.pow_add, show i % 8 * 8 + (8 + (56 - i % 8 * 8)) = 64 by omega]
  have h2 : (18446744073709551616 : Nat) ^ (i / 8) * 2 ^ (i % 8 * 8) = 256 ^ i := by
    rw [show (18446744073709551616 : Nat) = 2 ^ 64 from rfl, show (256 : Nat) = 2 ^ 8 from rfl, ← Nat.pow_mul, ← Nat.pow_mul, ← Nat.pow_add]
    congr 1; omega
  rw [← h2, ← Nat.div_div_eq_div_mul]
  generalize x / 18446744073709551616 ^ (i / 8) = y
  rw [h1, Nat.mod_mul_right_div_self, Nat.mod_mul_right_mod]
theorem make32 (w : World) : (Instr.makeSlice 22 (.int .i64 32) (.int .i64 32)).run Tryd.prog w = .ok (.slice (some ⟨w.heap.size, 0, none⟩) 32 32) (w.alloc (.cells (ba (List.replicate 32 0)) 5)) := by kernel_rfl
/-- A slice of bytes in memory that was there. -/
def BsAt (w : World) (v : Value) (bs : List Nat) : Prop :=
  ∃ (b o c : Nat) (ao : Option Addr), v = .slice ao bs.length c ∧ bs.length ≤ c ∧ c ≤ maxLen ∧ (∀ i, bs.getD i 0 < 256) ∧ (bs ≠ [] → ao = some ⟨b, o, none⟩ ∧ b < w.heap.size ∧ ∀ i, i < bs.length → w.cell? ⟨b, o + i, none⟩ = some (.int .u8 ((bs.getD i 0 : Nat) : Int)))
theorem BsAt.ext {W w : World} {v : Value} {bs : List Nat} (h : BsAt W v bs) (he : Below W.heap.size W w) : BsAt w v bs := by
  obtain ⟨b, o, c, ao, e, hc, hm, hl, hh⟩ := h
  refine ⟨b, o, c, ao, e, hc, hm, hl, fun hne => ?_⟩
  obtain ⟨e1, hb, hr⟩ := hh hne
  exact ⟨e1, Nat.lt_of_lt_of_le hb he.size, fun i hi => (Below.cell (p := ⟨b, o + i, none⟩) he hb).trans (hr i hi)⟩
/-- The number of bytes, the lowest first. -/
def bval : List Nat → Nat
  | [] => 0
  | x :: t => x + 256 * bval t
theorem bval_take : ∀ (l : List Nat) (k : Nat), k < l.length → bval (l.take (k + 1)) = bval (l.take k) + 256 ^ k * l.getD k 0
  | [], k, h => absurd h (by simp)
  | x :: t, 0, _ => by simp [bval]
  | x :: t, k + 1, h => by
    have ih := bval_take t k (by simpa using h)
    rw [List.take_succ_cons, List.take_succ_cons, bval, bval, ih, List.getD_cons_succ, Nat.pow_succ, Nat.mul_add]
    rw [Nat.mul_comm (256 ^ k) 256, Nat.mul_assoc]
    omega
theorem bval_lt : ∀ {l : List Nat}, (∀ i, l.getD i 0 < 256) → ∀ k, bval (l.take k) < 256 ^ k
  | [], _, k => by simp [bval]; exact Nat.pow_pos (by decide)
  | x :: t, h, 0 => by simp [bval]
  | x :: t, h, k + 1 => by
    have ih := bval_lt (l := t) (fun i => h (i + 1)) k
    have hx := h 0
    simp only [List.getD_cons_zero] at hx
    simp only [List.take_succ_cons, bval, Nat.pow_succ]
    omega
/-- A word with a byte put into its place, where there is nothing. -/
theorem or_byte (y x s : Nat) (hy : y < 2 ^ s) (hx : x < 256) (hs : s + 8 ≤ 64) : bits .or .u64 (y : Int) (IntKind.u64.wrap ((x : Int) * 2 ^ s)) = ((y + 2 ^ s * x : Nat) : Int) := by
  have h1 : x * 2 ^ s < 18446744073709551616 := by
    have : x * 2 ^ s < 256 * 2 ^ s := (Nat.mul_lt_mul_right (Nat.two_pow_pos s)).2 hx
    have h2 : 256 * 2 ^ s ≤ 2 ^ 64 := by
      rw [show (256 : Nat) = 2 ^ 8 from rfl, ← Nat.pow_add]; exact Nat.pow_le_pow_right (by decide) (by omega)
    omega
  have h3 : 2 ^ s ≤ 2 ^ 64 := Nat.pow_le_pow_right (by decide) (by omega)
  have e : IntKind.u64.wrap ((x : Int) * 2 ^ s) = ((x * 2 ^ s : Nat) : Int) := by
    rw [show ((x : Int) * 2 ^ s) = ((x * 2 ^ s : Nat) : Int) by simp]
    exact u64_wrap _ h1
  rw [e, bits_or_u64_nat _ _ (by omega) h1, Nat.or_comm, Nat.mul_comm x, ← Nat.two_pow_add_eq_or_of_lt hy, Nat.add_comm]
theorem val_ge : ∀ (l : List Nat) (j : Nat), 18446744073709551616 ^ j * l.getD j 0 ≤ val l
  | [], j => by simp
  | x :: t, 0 => by simp [val]
  | x :: t, j + 1 => by
    have ih := val_ge t j
    rw [List.getD_cons_succ, val, Nat.pow_succ, Nat.mul_comm (18446744073709551616 ^ j), Nat.mul_assoc]
    omega
theorem word_small {l : List Nat} {s j : Nat} (_ : s + 8 ≤ 64) (h : val l < 18446744073709551616 ^ j * 2 ^ s) : l.getD j 0 < 2 ^ s := by
  have h1 := val_ge l j
  exact Nat.lt_of_mul_lt_mul_left (Nat.lt_of_le_of_lt h1 h)
theorem word_pow (k : Nat) : (18446744073709551616 : Nat) ^ (k / 8) * 2 ^ (k % 8 * 8) = 256 ^ k := by
  rw [show (18446744073709551616 : Nat) = 2 ^ 64 from rfl, show (256 : Nat) = 2 ^ 8 from rfl, ← Nat.pow_mul, ← Nat.pow_mul, ← Nat.pow_add]
  congr 1; omega
theorem word_fits {y x s : Nat} (hy : y < 2 ^ s) (hx : x < 256) (hs : s + 8 ≤ 64) : y + 2 ^ s * x < 18446744073709551616 := by
  have h1 : y + 2 ^ s * x < 2 ^ s * 256 := by
    have : 2 ^ s * x + 2 ^ s ≤ 2 ^ s * 256 := by rw [← Nat.mul_succ]; exact Nat.mul_le_mul_left _ hx
    omega
  have h2 : 2 ^ s * 256 ≤ 2 ^ 64 := by
    rw [show (256 : Nat) = 2 ^ 8 from rfl, ← Nat.pow_add]; exact Nat.pow_le_pow_right (by decide) hs
  omega
theorem Below.chain {w a b : World} (h : Below w.heap.size w a) (k : Below a.heap.size a b) : Below w.heap.size w b := h.trans (k.mono h.size)
/-- What a slice of bytes holds. -/
theorem bys_cell {w : World} {g x : Nat} (h : w.heap[g]? = some (.cells (ba (bys x 32)) 5 (0, 0))) (i : Nat) (hi : i < 32) : w.cell? ⟨g, i, none⟩ = some (.int .u8 ((byt x i : Nat) : Int)) := by
  rw [cell_of_row _ _ _ _ _ _ h, ba_get _ _ (by rw [bys_len]; exact hi), bys_get _ _ _ (Nat.le_refl _), if_pos hi]
/-- Rows in memory, and all that was there before. -/
structure At (w W : World) (rows : List (Nat × Array Value × TypeId)) : Prop where
  rows : ∀ p A T, (p, A, T) ∈ rows → W.heap[p]? = some (.cells A T (0, 0)) ∧ p < W.heap.size
  below : Below w.heap.size w W
theorem At.nil {w W : World} (h : Below w.heap.size w W) : At w W [] := ⟨fun _ _ _ hm => absurd hm (by simp), h⟩
theorem At.step {w W W' : World} {rows : List (Nat × Array Value × TypeId)} (h : At w W rows) (k : Below W.heap.size W W') : At w W' rows :=
  ⟨fun p A T hm => ⟨Below.heap k (h.rows p A T hm).2 (h.rows p A T hm).1, Nat.lt_of_lt_of_le (h.rows p A T hm).2 k.size⟩, Below.chain h.below k⟩
theorem At.drew {w W : World} {rows : List (Nat × Array Value × TypeId)} (h : At w W rows) : At w W.drew rows := ⟨h.rows, h.below.drew⟩
theorem At.alloc {w W : World} {rows : List (Nat × Array Value × TypeId)} (h : At w W rows) (A : Array Value) (T : TypeId) : At w (W.alloc (.cells A T)) ((W.heap.size, A, T) :: rows) := by
  refine ⟨fun p B U hm => ?_, h.below.alloc h.below.size _⟩
  rcases List.mem_cons.1 hm with e | e
  · cases e
    exact ⟨heap_alloc_last _ _, by simp⟩
  · have hr := h.rows p B U e
    exact ⟨(Below.heap_alloc _ _ _ hr.2).trans hr.1, by simp; omega⟩
theorem At.more {w W : World} {rows : List (Nat × Array Value × TypeId)} (h : At w W rows) {g : Nat} {A : Array Value} {T : TypeId} (hg : g < W.heap.size) (hr : W.heap[g]? = some (.cells A T (0, 0))) : At w W ((g, A, T) :: rows) := by
  refine ⟨fun p B U hm => ?_, h.below⟩
  rcases List.mem_cons.1 hm with e | e
  · cases e
    exact ⟨hr, hg⟩
  · exact h.rows p B U e
theorem At.rd {w W : World} {rows : List (Nat × Array Value × TypeId)} (h : At w W rows) {p : Nat} {A : Array Value} {T : TypeId} (hm : (p, A, T) ∈ rows) (i : Nat) : W.cell? ⟨p, i, none⟩ = A[i]? := (row_reads (h.rows p A T hm).1).1 i
theorem At.grd {w W : World} {rows : List (Nat × Array Value × TypeId)} (h : At w W rows) {p : Nat} {A : Array Value} {T : TypeId} (hm : (p, A, T) ∈ rows) : ∀ w' : World, W.grownBy w' none → ∀ i, w'.cell? ⟨p, i, none⟩ = A[i]? :=
  fun _ hg i => (h.step (Ext.of hg)).rd hm i
/-- What a slice of bytes is to a test of its length. -/
theorem BsAt.len {w : World} {v : Value} {bs : List Nat} (h : BsAt w v bs) : ∃ (ao : Option Addr) (c : Nat), v = .slice ao bs.length c ∧ bs.length ≤ c ∧ c ≤ 9223372036854775807 := by
  obtain ⟨b, o, c, ao, e, hc, hm, _⟩ := h
  exact ⟨ao, c, e, hc, by unfold maxLen at hm; omega⟩
theorem At.set4 {w W : World} {rows : List (Nat × Array Value × TypeId)} (h : At w W rows) {g : Nat} (hg : w.heap.size ≤ g) (hne : ∀ p A T, (p, A, T) ∈ rows → p ≠ g) (v0 v1 v2 v3 : Value) :
    At w ((((W.setCell ⟨g, 0, none⟩ v0).setCell ⟨g, 1, none⟩ v1).setCell ⟨g, 2, none⟩ v2).setCell ⟨g, 3, none⟩ v3) rows :=
  ⟨fun p A T hm => ⟨(set4_other _ _ _ _ (hne p A T hm)).trans (h.rows p A T hm).1, by simpa using (h.rows p A T hm).2⟩, Below.set4 h.below hg _ _ _ _⟩
/-- A bit of a row's number. -/
theorem bit_word (l : List Nat) (hl : lim l) (j : Nat) : (l.getD (j / 64) 0) / 2 ^ (j % 64) % 2 = val l / 2 ^ j % 2 := by
  have key : ∀ (l : List Nat) (q : Nat), lim l → val l / 18446744073709551616 ^ q % 18446744073709551616 = l.getD q 0 := by
    intro l
    induction l with
    | nil => intro q _; simp [val]
    | cons x t ih =>
      intro q h
      have hx := h 0
      simp only [List.getD_cons_zero] at hx
      cases q with
      | zero => simp only [val, Nat.pow_zero, Nat.div_one, List.getD_cons_zero]; omega
      | succ q =>
        rw [List.getD_cons_succ, ← ih q (fun i => h (i + 1)), val, Nat.pow_succ, Nat.mul_comm (18446744073709551616 ^ q) 18446744073709551616, ← Nat.div_div_eq_div_mul]
        congr 2; omega
  rw [← key l (j / 64) hl]
  have h1 : (18446744073709551616 : Nat) = 2 ^ (j % 64) * (2 * 2 ^ (63 - j % 64)) := by
    rw [← Nat.pow_succ', ← Nat.pow_add, show j % 64 + (63 - j % 64).succ = 64 by omega]
  have h2 : (18446744073709551616 : Nat) ^ (j / 64) * 2 ^ (j % 64) = 2 ^ j := by
    rw [show (18446744073709551616 : Nat) = 2 ^ 64 from rfl, ← Nat.pow_mul, ← Nat.pow_add]
    congr 1; omega
  rw [← h2, ← Nat.div_div_eq_div_mul]
  generalize val l / 18446744073709551616 ^ (j / 64) = y
  rw [h1, Nat.mod_mul_right_div_self, Nat.mod_mul_right_mod]
end Go.Proofs.YteplbagjagimdaaDoor.Sc
/- A number less the curve's order, as the program's call answers it, in any world where the order lies as the program's text lays it. -/
namespace Go.Proofs.YteplbagjagimdaaDoor.Sc
open Go.RowKit
/-- The order. -/
def ll : Nat := 7237005577332262213973186563042994240857116359379907606001950938285454250989
theorem llv : ll = 7237005577332262213973186563042994240857116359379907606001950938285454250989 := rfl
theorem ll_pos : 0 < ll := by decide
theorem ll_mod (n : Nat) : n % ll < ll := Nat.mod_lt _ ll_pos
/-- The order as the program's text lays it. -/
def orw : List Nat := [6346243789798364141, 1503914060200516822, 0, 1152921504606846976]
theorem orw_lim : lim orw := lim4_mk (by decide)
theorem orw_val : val orw = ll := by decide +kernel
/-- The order lies where the program's variable is. -/
structure Laid (w : World) : Prop where
  cell : ∀ i, i < 4 → w.cell? ⟨2, i, none⟩ = some (.int .u64 ((orw.getD i 0 : Nat) : Int))
  lt : 2 < w.heap.size
theorem Laid.step {w w' : World} (h : Laid w) (k : Below w.heap.size w w') : Laid w' :=
  ⟨fun i hi => (Below.cell (p := ⟨2, i, none⟩) k h.lt).trans (h.cell i hi), Nat.lt_of_lt_of_le h.lt k.size⟩
theorem Laid.drew {w : World} (h : Laid w) : Laid w.drew := ⟨h.cell, h.lt⟩
/-- A round of a difference, into another row. -/
theorem less_step {l : List Nat} {k x y b r b' P X Y : Nat} (hk : k < l.length) (hP : 18446744073709551616 ^ k = P) (hz : l.getD k 0 = 0) (hr : r + y + b = x + 18446744073709551616 * b')
    (h : val l + Y = X + b * P) : val (l.set k r) + (Y + P * y) = (X + P * x) + b' * 18446744073709551616 ^ (k + 1) := by
  have hs := val_set l k r hk
  rw [hP, hz] at hs
  rw [Nat.pow_succ, hP]
  have e : P * r + P * y + P * b = P * x + P * (18446744073709551616 * b') := by
    rw [← Nat.mul_add, ← Nat.mul_add, hr, Nat.mul_add]
  have e1 : b' * (P * 18446744073709551616) = P * (18446744073709551616 * b') := by
    rw [Nat.mul_comm b', Nat.mul_assoc]
  rw [Nat.mul_comm b P] at h
  omega
set_option maxRecDepth 100000 in
set_option maxHeartbeats 1000000 in
theorem take_list (la : List Nat) (ha : la.length = 4) (la' : lim la) (w : World) (hL : Laid w) :
    Calls Tryd.prog 75 #[.agg (na la)] w fun e w' => ∃ (l : List Nat), e = .returned (.tuple #[.agg (na l), .bool (decide (val la < ll))]) ∧ l.length = 4 ∧ lim l ∧ val l = (if val la < ll then val la else val la - ll) ∧ Below w.heap.size w w' := by
  obtain ⟨dd, hdd⟩ : ∃ dd, decide (val la < ll) = dd := ⟨_, rfl⟩
  obtain ⟨vv, hvv⟩ : ∃ vv, (if val la < ll then val la else val la - ll) = vv := ⟨_, rfl⟩
  rw [hdd, hvv]
  have HDD := hide hdd
  have HVV := hide hvv
  clear hdd hvv
  go_enter Tryd.func75, Tryd.ntmps75
  go_wp2
  go_loopw [5, 7] (fun c i wr => ∃ (k : Nat) (l : List Nat) (cn : Nat), k ≤ 4 ∧ i = .int .i64 k ∧ c = .int .u64 (cn : Int) ∧ cn ≤ 1 ∧ l.length = 4 ∧ lim l ∧ val l + val (orw.take k) = val (la.take k) + cn * 18446744073709551616 ^ k ∧ (∀ j, k ≤ j → l.getD j 0 = 0) ∧ wr.heap[w.heap.size]? = some (.cells (na la) 80 (0,0)) ∧ wr.heap[w.heap.size + 1]? = some (.cells #[.int .u64 0, .int .u64 0, .int .u64 0, .int .u64 0] 80 (0,0)) ∧ wr.heap[w.heap.size + 1 + 1]? = some (.cells (na l) 80 (0,0)) ∧ wr.heap.size = w.heap.size + 1 + 1 + 1 ∧ Below w.heap.size w wr) (fun _ i _ => 4 - (intOf i).toNat)
  case atStart =>
    refine ⟨0, [0, 0, 0, 0], 0, by omega, rfl, rfl, by omega, rfl, lim4_mk (by decide), by simp [val], ?_, heap3_0 _ _ _ _, heap_alloc_mid3 _ _ _ _, heap_alloc_last3 _ _ _ _, by simp, below3 _ _ _ _⟩
    intro j _
    match j with
    | 0 | 1 | 2 | 3 => rfl
    | j + 4 => simp
  case round =>
    obtain ⟨k, l, cn, hk, rfl, rfl, hcn, hl, hlim, hval, hz, hra, hr0, hrow, hsz, hbel⟩ := hrel
    by_cases hlt : k < 4
    · have hcell : wr.cell? ⟨w.heap.size, k, none⟩ = some (.int .u64 ((la.getD k 0 : Nat) : Int)) := by
        rw [cell_of_row _ _ _ _ _ _ hra, na_get _ _ (by omega)]
      have hcellb : wr.cell? ⟨2, k, none⟩ = some (.int .u64 ((orw.getD k 0 : Nat) : Int)) := ((hL.step hbel).cell k hlt)
      have hfro : wr.frozen? ⟨w.heap.size + 1 + 1, k, none⟩ = false := frozen_of_row _ _ _ _ _ hrow
      have hcl : wr.cell? ⟨w.heap.size + 1 + 1, k, none⟩ = some (.int .u64 ((l.getD k 0 : Nat) : Int)) := by
        rw [cell_of_row _ _ _ _ _ _ hrow, na_get _ _ (by omega)]
      have hx := la' k
      have hy := orw_lim k
      have HR := hide hrow
      have HB := hide hra
      have H0 := hide hr0
      have HV := hide hval
      have HT := hide (val_take orw k (by simpa [orw] using hlt))
      have HT2 := hide (val_take la k (by omega))
      have HL := hide hlim
      have HLB := hide la'
      have HN := hide hl
      have HZ := hide hz
      have HLD := hide hL
      clear hrow hra hr0 hval hlim la' hl hz hL
      generalize hgx : la.getD k 0 = x at *
      generalize hgy : orw.getD k 0 = y at *
      generalize hgz : l.getD k 0 = z at *
      have HX := hide hgx
      have HY := hide hgy
      clear hgx hgy hgz
      have ha1 := sub64_nat x y cn hcn
      have HS := hide (sub_word x y cn hx hy hcn)
      generalize hq : (if x < y + cn then 1 else 0 : Nat) = q at *
      generalize hr : (x + 18446744073709551616 - y - cn) % 18446744073709551616 = r at *
      have hq1 : q ≤ 1 := by rw [← hq]; split <;> omega
      have hr1 : r < 18446744073709551616 := by rw [← hr]; exact Nat.mod_lt _ (by decide)
      clear hq hr
      have b0 : (0 : Int) ≤ (k : Int) := by omega
      have b1 : (k : Int) < 4 := by omega
      go_wp2
      go_region
      go_wp2
      go_roundw
      case rel =>
        refine ⟨k + 1, l.set k r, q, by omega, by go_num, rfl, hq1, by rw [List.length_set, HN.out], lim_set HL.out _ _ hr1, ?_, ?_, ?_, ?_, ?_, ?_, ?_⟩
        · rw [HT.out, HT2.out]
          exact less_step (by rw [HN.out]; omega) rfl (HZ.out k (Nat.le_refl _)) HS.out HV.out
        · intro j hj
          rw [getD_set_ne' (by omega), HZ.out j (by omega)]
        · rw [heap_drew, heap_setCell_other _ _ _ _ (by simp; omega)]; exact HB.out
        · rw [heap_drew, heap_setCell_other _ _ _ _ (by simp)]; exact H0.out
        · rw [heap_drew, heap_setCell_same _ _ _ _ _ _ HR.out, na_set]
        · simpa [heap_drew] using hsz
        · exact (hbel.setCell (by simp; omega) _).drew
      case measure => simp [intOf]; omega
    · obtain ⟨x0, x1, x2, x3, rfl⟩ := four hl
      obtain ⟨y0, y1, y2, y3, rfl⟩ := four ha
      have hk4 : k = 4 := by omega
      rw [hk4, List.take_of_length_le (show orw.length ≤ 4 from Nat.le_refl _), List.take_of_length_le (show [y0, y1, y2, y3].length ≤ 4 from Nat.le_refl _), orw_val] at hval
      have hb1 := val_lt hlim
      have hb2 := val_lt la'
      rw [na4] at hrow hra
      simp only [List.length_cons, List.length_nil, Nat.reduceAdd] at hb1 hb2
      have HV : Hid (val [x0, x1, x2, x3] + ll = val [y0, y1, y2, y3] + cn * 115792089237316195423570985008687907853269984665640564039457584007913129639936) := hval
      have HL := hide hlim
      have HLA := hide la'
      obtain ⟨ra, rfa⟩ := row_reads hra
      obtain ⟨rl, rfl'⟩ := row_reads hrow
      obtain ⟨r0, rf0⟩ := row_reads hr0
      have H0 := hide hr0
      have HB1 : Hid (val [x0, x1, x2, x3] < 115792089237316195423570985008687907853269984665640564039457584007913129639936) := hb1
      have HB2 : Hid (val [y0, y1, y2, y3] < 115792089237316195423570985008687907853269984665640564039457584007913129639936) := hb2
      clear hval hlim hb1 hb2 la' hra hrow hz hL hr0
      have hcc : cn = 0 ∨ cn = 1 := by omega
      rcases hcc with rfl | rfl
      · have hd : dd = false := by rw [← HDD.out]; exact decide_eq_false (by have := HV.out; have := HB1.out; omega)
        have hnot : ¬ val [y0, y1, y2, y3] < ll := by have := HV.out; omega
        have HE : Hid (val [x0, x1, x2, x3] = vv) := by have h := HVV.out; rw [if_neg hnot] at h; show _ = _; have := HV.out; omega
        subst hd
        clear hnot
        go_wp2
        refine bodyPost_ret (v := .tuple #[.agg (na [x0, x1, x2, x3]), .bool false]) (by simp [results, Tryd.results75, go_sem, na4, r0]) rfl ⟨[x0, x1, x2, x3], rfl, rfl, HL.out, HE.out, Below.set4 hbel (by omega) _ _ _ _⟩
      · have hlt1 : val [y0, y1, y2, y3] < ll := by have := HV.out; have := HB1.out; have := HB2.out; omega
        have hd : dd = true := by rw [← HDD.out]; exact decide_eq_true hlt1
        have HE : Hid (val [y0, y1, y2, y3] = vv) := by have h := HVV.out; rw [if_pos hlt1] at h; exact h
        subst hd
        clear hlt1
        go_wp2
        refine bodyPost_ret (v := .tuple #[.agg (na [y0, y1, y2, y3]), .bool true]) (by simp [results, Tryd.results75, go_sem, na4, r0]) rfl ⟨[y0, y1, y2, y3], rfl, rfl, HLA.out, HE.out, Below.set4 hbel (by omega) _ _ _ _⟩
theorem take_any (x : Nat) (hx : x < 115792089237316195423570985008687907853269984665640564039457584007913129639936) (w : World) (hL : Laid w) :
    Calls Tryd.prog 75 #[.agg (el x)] w fun e w' => e = .returned (.tuple #[.agg (el (if x < ll then x else x - ll)), .bool (decide (x < ll))]) ∧ Below w.heap.size w w' := by
  obtain ⟨a, b, c, d, he, hb, hv⟩ := el_open x hx
  rw [he, ← na4]
  refine (take_list [a, b, c, d] rfl (lim4_mk hb) w hL).mono ?_
  rintro e w' ⟨l, rfl, hl, hlim, hvl, hbel⟩
  rw [hv] at hvl ⊢
  exact ⟨by rw [el_na hl hlim hvl], hbel⟩
end Go.Proofs.YteplbagjagimdaaDoor.Sc
/- A number twice, and one bit more, as the program's call answers it, in any world. -/
namespace Go.Proofs.YteplbagjagimdaaDoor.Sc
open Go.RowKit
theorem or_bit (x c : Nat) (hc : c ≤ 1) : bits .or .u64 (((x * 2 % 18446744073709551616 : Nat) : Int)) (c : Int) = (((x * 2 + c) % 18446744073709551616 : Nat) : Int) := by
  rw [bits_or_u64_nat _ _ (by omega) (by omega)]
  have e : x * 2 % 18446744073709551616 = 2 ^ 1 * (x % 9223372036854775808) := by omega
  rw [e, ← Nat.two_pow_add_eq_or_of_lt (by omega)]
  congr 1; omega
set_option maxRecDepth 100000 in
set_option maxHeartbeats 1000000 in
theorem bring_list (la : List Nat) (bt : Nat) (hbt : bt ≤ 1) (ha : la.length = 4) (la' : lim la) (w : World) :
    Calls Tryd.prog 76 #[.agg (na la), .int .u64 (bt : Int)] w fun e w' => ∃ (l : List Nat) (c : Nat), e = .returned (.agg (na l)) ∧ l.length = 4 ∧ lim l ∧ val l + c * 115792089237316195423570985008687907853269984665640564039457584007913129639936 = 2 * val la + bt ∧ Below w.heap.size w w' := by
  go_enter Tryd.func76, Tryd.ntmps76
  go_wp2
  go_loopw [1, 6] (fun c i wr => ∃ (k : Nat) (l : List Nat) (cn : Nat), k ≤ 4 ∧ i = .int .i64 k ∧ c = .int .u64 (cn : Int) ∧ cn ≤ 1 ∧ l.length = 4 ∧ lim l ∧ val l + cn * 18446744073709551616 ^ k + val (la.take k) = (val la + bt) + 2 * val (la.take k) ∧ (∀ i, k ≤ i → l.getD i 0 = la.getD i 0) ∧ wr.heap[w.heap.size]? = some (.cells (na l) 80 (0,0)) ∧ wr.heap[w.heap.size + 1]? = some (.cells #[.int .u64 0, .int .u64 0, .int .u64 0, .int .u64 0] 80 (0,0)) ∧ wr.heap.size = w.heap.size + 1 + 1 ∧ Below w.heap.size w wr) (fun _ i _ => 4 - (intOf i).toNat)
  case atStart =>
    exact ⟨0, la, bt, by omega, rfl, rfl, hbt, ha, la', by simp [val], fun _ _ => rfl, heap2_0 _ _ _, heap2_1 _ _ _, by simp, below2 _ _ _⟩
  case round =>
    obtain ⟨k, l, cn, hk, rfl, rfl, hcn, hl, hlim, hval, hold, hrow, hr0, hsz, hbel⟩ := hrel
    by_cases hlt : k < 4
    · have hcell : wr.cell? ⟨w.heap.size, k, none⟩ = some (.int .u64 ((l.getD k 0 : Nat) : Int)) := by
        rw [cell_of_row _ _ _ _ _ _ hrow, na_get _ _ (by omega)]
      have hfro : wr.frozen? ⟨w.heap.size, k, none⟩ = false := frozen_of_row _ _ _ _ _ hrow
      have hx := hlim k
      have HR := hide hrow
      have H0 := hide hr0
      have HV := hide hval
      have HT := hide (val_take la k (by omega))
      have HL := hide hlim
      have HN := hide hl
      have HO := hide hold
      have HK := hide (hold k (Nat.le_refl _))
      clear hrow hr0 hval hlim hl hold la' ha
      generalize hgx : l.getD k 0 = x at *
      have HX := hide hgx
      clear hgx
      have b0 : (0 : Int) ≤ (k : Int) := by omega
      have b1 : (k : Int) < 4 := by omega
      obtain ⟨q, hq⟩ : ∃ q, (x * 2 + cn) / 18446744073709551616 = q := ⟨_, rfl⟩
      obtain ⟨r, hr⟩ : ∃ r, (x * 2 + cn) % 18446744073709551616 = r := ⟨_, rfl⟩
      have hor : bits .or .u64 (IntKind.u64.wrap ((x : Int) * 2)) (cn : Int) = (r : Int) := by
        rw [← hr, ← or_bit x cn hcn, IntKind.wrap_u64]; congr 1
      have hsh : (x : Int) / 9223372036854775808 = (q : Int) := by omega
      have HQ := hide hq
      have HRr := hide hr
      have hq1 : q ≤ 1 := by omega
      clear hq hr
      go_wp2
      go_region
      go_wp2
      go_roundw
      case rel =>
        refine ⟨k + 1, l.set k r, q, by omega, by go_num, rfl, hq1, by rw [List.length_set, HN.out], lim_set HL.out _ _ ?_, ?_, ?_, ?_, ?_, ?_, ?_⟩
        · have := HRr.out; omega
        · rw [HT.out, ← HK.out, ← HQ.out, ← HRr.out]
          exact scale_step (by rw [HN.out]; omega) rfl HX.out HV.out
        · intro i hi
          rw [getD_set_ne' (by omega), HO.out i (by omega)]
        · rw [heap_drew, heap_setCell_same _ _ _ _ _ _ HR.out, na_set]
        · rw [heap_drew, heap_setCell_other _ _ _ _ (by simp)]; exact H0.out
        · simpa [heap_drew] using hsz
        · exact (hbel.setCell (by simp) _).drew
      case measure => simp [intOf]; omega
    · obtain ⟨x0, x1, x2, x3, rfl⟩ := four hl
      have hk4 : k = 4 := by omega
      rw [hk4, List.take_of_length_le (by omega)] at hval
      rw [na4] at hrow
      have HV := hide hval
      have HL := hide hlim
      obtain ⟨rl, rfl'⟩ := row_reads hrow
      obtain ⟨r0, rf0⟩ := row_reads hr0
      clear hval hlim hold hr0 hrow
      go_wp2
      refine bodyPost_ret (v := .agg (na [x0, x1, x2, x3])) (by simp [results, Tryd.results76, go_sem, na4, r0]) rfl ⟨[x0, x1, x2, x3], cn, rfl, rfl, HL.out, ?_, Below.set4 hbel (by omega) _ _ _ _⟩
      have := HV.out
      rw [show (18446744073709551616 : Nat) ^ 4 = 115792089237316195423570985008687907853269984665640564039457584007913129639936 from rfl] at this
      omega
theorem bring_any (x bt : Nat) (hbt : bt ≤ 1) (hx : x < ll) (w : World) :
    Calls Tryd.prog 76 #[.agg (el x), .int .u64 (bt : Int)] w fun e w' => e = .returned (.agg (el (2 * x + bt))) ∧ Below w.heap.size w w' := by
  have hx' : x < 7237005577332262213973186563042994240857116359379907606001950938285454250989 := hx
  obtain ⟨a, b, c, d, he, hb, hv⟩ := el_open x (by omega)
  rw [he, ← na4]
  refine (bring_list [a, b, c, d] bt hbt rfl (lim4_mk hb) w).mono ?_
  rintro e w' ⟨l, c, rfl, hl, hlim, hvl, hbel⟩
  rw [hv] at hvl
  have hll := val_lt hlim
  exact ⟨by rw [el_na hl hlim (x := 2 * x + bt) (by omega)], hbel⟩
end Go.Proofs.YteplbagjagimdaaDoor.Sc
/- The number of bytes, their lowest four words, the bytes of words: as the program's calls answer them, in any world. -/
namespace Go.Proofs.YteplbagjagimdaaDoor.Sc
open Go.RowKit
theorem z8_lim : lim [0, 0, 0, 0, 0, 0, 0, 0] := by
  intro i
  match i with
  | 0 | 1 | 2 | 3 | 4 | 5 | 6 | 7 => decide
  | i + 8 => simp
set_option maxRecDepth 100000 in
set_option maxHeartbeats 1000000 in
theorem from_any (v : Value) (bs : List Nat) (hlen : bs.length ≤ 64) (w : World) (hbs : BsAt w v bs) :
    Calls Tryd.prog 56 #[v] w fun e w' => e = .returned (.agg (el8 (bval bs))) ∧ Below w.heap.size w w' := by
  obtain ⟨b, o, c, ao, rfl, hc, hm, hl, hh⟩ := hbs
  unfold maxLen at hm
  go_enter Tryd.func56, Tryd.ntmps56
  go_wp2
  go_loopw [8] (fun i wr => ∃ (k : Nat) (l : List Nat), k ≤ bs.length ∧ i = .int .i64 k ∧ l.length = 8 ∧ lim l ∧ val l = bval (bs.take k) ∧ wr.heap[w.heap.size]? = some (.cells (na [0, 0, 0, 0, 0, 0, 0, 0]) 83 (0, 0)) ∧ wr.heap[w.heap.size + 1]? = some (.cells (na l) 83 (0, 0)) ∧ wr.heap.size = w.heap.size + 1 + 1 ∧ Below w.heap.size w wr) (fun i _ => bs.length - (intOf i).toNat)
  case atStart => exact ⟨0, [0, 0, 0, 0, 0, 0, 0, 0], by omega, rfl, rfl, z8_lim, by simp [val, bval], heap2_0 _ _ _, heap2_1 _ _ _, by simp, below2 _ _ _⟩
  case round =>
    obtain ⟨k, l, hk, rfl, hl8, hlim, hval, hA, hO, hS, hB⟩ := hrel
    by_cases hlt : k < bs.length
    · obtain ⟨rfl, hb, hcells⟩ := hh (fun e => by rw [e] at hlt; simp at hlt)
      have hcb := (Below.cell (p := ⟨b, o + k, none⟩) hB hb).trans (hcells k (by omega))
      have hcw := cell_of_row _ _ (k / 8) _ _ _ hO
      rw [na_get _ _ (by omega)] at hcw
      have hfro : wr.frozen? ⟨w.heap.size + 1, k / 8, none⟩ = false := frozen_of_row _ _ _ _ _ hO
      have hx := hl k
      have hy := word_small (s := k % 8 * 8) (j := k / 8) (by omega) (show val l < 18446744073709551616 ^ (k / 8) * 2 ^ (k % 8 * 8) by rw [hval, word_pow]; exact bval_lt hl k)
      have HT := hide (bval_take bs k (by omega))
      have HA := hide hA
      have HO := hide hO
      have HV := hide hval
      have HL := hide (And.intro hl8 hlim)
      have HC := hide (And.intro hl (And.intro hcells hb))
      clear hA hO hval hlim hl8 hh hl hcells
      generalize hgx : bs.getD k 0 = x at *
      generalize hgy : l.getD (k / 8) 0 = y at *
      have HY := hide hgy
      clear hgx hgy
      have hor := or_byte y x (k % 8 * 8) hy hx (by omega)
      have hlx : y + 2 ^ (k % 8 * 8) * x < 18446744073709551616 := word_fits hy hx (by omega)
      generalize hz : y + 2 ^ (k % 8 * 8) * x = z at *
      have HZ := hide hz
      have HYY := hide hy
      clear hz hy
      have b0 : (0 : Int) ≤ (k : Int) := by omega
      have b1 : (k : Int) < (bs.length : Int) := by omega
      have b2 : (0 : Int) ≤ (k : Int) / 8 := by omega
      have b3 : (k : Int) / 8 < 8 := by omega
      go_wp2
      go_region
      go_wp2
      go_roundw
      case rel =>
        refine ⟨k + 1, l.set (k / 8) z, by omega, by go_num, by rw [List.length_set, HL.out.1], lim_set HL.out.2 _ _ hlx, ?_, ?_, ?_, ?_, ?_⟩
        · have hvs := val_set l (k / 8) z (by rw [HL.out.1]; omega)
          rw [HY.out, ← HZ.out, Nat.mul_add, ← Nat.mul_assoc, word_pow] at hvs
          rw [HT.out, ← HV.out, ← HZ.out]
          omega
        · rw [heap_drew, heap_setCell_other _ _ _ _ (by simp)]; exact HA.out
        · rw [heap_drew, heap_setCell_same _ _ _ _ _ _ HO.out, na_set]
        · simpa [heap_drew] using hS
        · exact (hB.setCell (by simp) _).drew
      case measure => simp [intOf]; omega
    · have hkn : bs.take k = bs := List.take_of_length_le (by omega)
      rw [hkn] at hval
      have HE := hide (el8_close hl8 hlim hval)
      obtain ⟨x0, x1, x2, x3, x4, x5, x6, x7, rfl⟩ := eight hl8
      rw [na8] at hO hA
      obtain ⟨z1, z2⟩ := row_reads hO
      obtain ⟨r0, rf0⟩ := row_reads hA
      have HLT : Hid (¬ (k : Int) < (bs.length : Int)) := by show ¬ _; omega
      clear hA hO hval hlim hh hl hkn hl8
      go_wp2
      refine bodyPost_ret (v := .agg (na [x0, x1, x2, x3, x4, x5, x6, x7])) (by simp [results, Tryd.results56, go_sem, na8, r0]) rfl ⟨by rw [HE.out], ?_⟩
      exact (((((((hB.setCell (by simp) _).setCell (by simp) _).setCell (by simp) _).setCell (by simp) _).setCell (by simp) _).setCell (by simp) _).setCell (by simp) _).setCell (by simp) _
set_option maxRecDepth 100000 in
set_option maxHeartbeats 1000000 in
theorem bytes_any (x : Nat) (hx : x < 115792089237316195423570985008687907853269984665640564039457584007913129639936) (w : World) :
    Calls Tryd.prog 57 #[.agg (el x)] w fun e w' => ∃ g, e = .returned (.slice (some ⟨g, 0, none⟩) 32 32) ∧ w.heap.size ≤ g ∧ g < w'.heap.size ∧ w'.heap[g]? = some (.cells (ba (bys x 32)) 5 (0, 0)) ∧ Below w.heap.size w w' := by
  have hmk := make32
  obtain ⟨a, b, c, d, he, hb, hv⟩ := el_open x hx
  have hword : ∀ k, k < 32 → byt x k = (([a, b, c, d].getD (k / 8) 0) / 2 ^ (k % 8 * 8)) % 256 := by
    intro k hk
    rw [← byt_word x k]
    congr 2
    rw [val4] at hv
    have : k / 8 = 0 ∨ k / 8 = 1 ∨ k / 8 = 2 ∨ k / 8 = 3 := by omega
    rcases this with h | h | h | h <;> rw [h] <;> simp <;> omega
  have HW := hide hword
  rw [he]
  clear he hv hword hx
  go_enter Tryd.func57, Tryd.ntmps57
  go_wp2
  clear hmk
  have hA := heap2_0 w (.cells #[.int .u64 (a : Int), .int .u64 (b : Int), .int .u64 (c : Int), .int .u64 (d : Int)] 80) (.cells (ba (List.replicate 32 0)) 5)
  have hO := heap2_1 w (.cells #[.int .u64 (a : Int), .int .u64 (b : Int), .int .u64 (c : Int), .int .u64 (d : Int)] 80) (.cells (ba (List.replicate 32 0)) 5)
  have hB := below2 w (.cells #[.int .u64 (a : Int), .int .u64 (b : Int), .int .u64 (c : Int), .int .u64 (d : Int)] 80) (.cells (ba (List.replicate 32 0)) 5)
  have hS : ((w.alloc (.cells #[.int .u64 (a : Int), .int .u64 (b : Int), .int .u64 (c : Int), .int .u64 (d : Int)] 80)).alloc (.cells (ba (List.replicate 32 0)) 5)).heap.size = w.heap.size + 1 + 1 := by simp
  go_loopw [8] (fun i wr => ∃ k : Nat, k ≤ 32 ∧ i = .int .i64 k ∧ wr.heap[w.heap.size]? = some (.cells #[.int .u64 (a : Int), .int .u64 (b : Int), .int .u64 (c : Int), .int .u64 (d : Int)] 80 (0, 0)) ∧ wr.heap[w.heap.size + 1]? = some (.cells (ba (bys x k)) 5 (0, 0)) ∧ wr.heap.size = w.heap.size + 1 + 1 ∧ Below w.heap.size w wr) (fun i _ => 32 - (intOf i).toNat)
  case atStart => exact ⟨0, by omega, rfl, hA, hO, hS, hB⟩
  case round =>
    clear hA hO hS hB
    obtain ⟨k, hk, rfl, hA, hO, hS, hB⟩ := hrel
    by_cases hlt : k < 32
    · have hc := cell_of_row _ _ (k / 8) _ _ _ hA
      rw [← na4, na_get _ _ (by show k / 8 < 4; omega)] at hc
      have hc2 := cell_of_row _ _ k _ _ _ hO
      rw [ba_get _ _ (by rw [bys_len]; exact hlt)] at hc2
      have hfro : wr.frozen? ⟨w.heap.size + 1, k, none⟩ = false := frozen_of_row _ _ _ _ _ hO
      have HK := hide (HW.out k hlt)
      have HA := hide hA
      have HO := hide hO
      clear hA hO HW
      generalize [a, b, c, d].getD (k / 8) 0 = y at *
      generalize (bys x k).getD k 0 = z at *
      have b0 : (0 : Int) ≤ (k : Int) := by omega
      have b1 : (k : Int) < 32 := by omega
      have b2 : (0 : Int) ≤ (k : Int) / 8 := by omega
      have b3 : (k : Int) / 8 < 4 := by omega
      go_wp2
      have hv : (y : Int) / 2 ^ (k % 8 * 8) % 256 = ((byt x k : Nat) : Int) := by rw [HK.out]; simp
      rw [hv]
      refine ⟨⟨k + 1, by omega, by go_num, ?_, ?_, ?_, ?_⟩, by simp [intOf]; omega⟩
      · rw [heap_setCell_other _ _ _ _ (by simp)]; exact HA.out
      · rw [heap_setCell_same _ _ _ _ _ _ HO.out, ba_set, bys]
      · simpa using hS
      · exact hB.setCell (by simp) _
    · have hk32 : k = 32 := by omega
      rw [hk32] at hO
      have HO := hide hO
      clear hO hA HW
      go_wp2
      go_ret
      exact ⟨w.heap.size + 1, rfl, by omega, by omega, HO.out, hB⟩
end Go.Proofs.YteplbagjagimdaaDoor.Sc
/- A number modulo the order, bit by bit, as the program's call answers it, in any world where the order lies as the program's text lays it. -/
namespace Go.Proofs.YteplbagjagimdaaDoor.Sc
open Go.RowKit
theorem half (v j : Nat) : v / 2 ^ j = 2 * (v / 2 ^ (j + 1)) + v / 2 ^ j % 2 := by
  rw [Nat.pow_succ, ← Nat.div_div_eq_div_mul]; omega
theorem big_pow (n : Nat) (h : 64 * 8 = n) : (18446744073709551616 : Nat) ^ 8 = 2 ^ n := by
  subst h; rw [show (18446744073709551616 : Nat) = 2 ^ 64 from rfl, ← Nat.pow_mul]
theorem mod_bit {V b : Nat} (hb : b ≤ 1) : (if 2 * (V % ll) + b < ll then 2 * (V % ll) + b else 2 * (V % ll) + b - ll) = (2 * V + b) % ll := by
  have h := ll_mod V
  have e : (2 * V + b) % ll = (2 * (V % ll) + b) % ll := by
    rw [Nat.add_mod (2 * V), Nat.add_mod (2 * (V % ll)), Nat.mul_mod 2 V, Nat.mul_mod 2 (V % ll), Nat.mod_mod]
  rw [e]
  generalize V % ll = r at h
  split
  · rename_i h1; exact (Nat.mod_eq_of_lt h1).symm
  · rename_i h1
    rw [Nat.mod_eq_sub_mod (by omega), Nat.mod_eq_of_lt (by omega)]
set_option maxRecDepth 100000 in
set_option maxHeartbeats 2000000 in
theorem rem_list (la : List Nat) (ha : la.length = 8) (la' : lim la) (w : World) (hL : Laid w) :
    Calls Tryd.prog 55 #[.agg (na la)] w fun e w' => e = .returned (.agg (el (val la % ll))) ∧ Below w.heap.size w w' := by
  have HLE := hide (And.intro ha la')
  have LD := hide hL
  clear ha la' hL
  go_enter Tryd.func55, Tryd.ntmps55
  go_wp2
  go_loopw [4] (fun i wr => ∃ k r0 r1 r2 r3 : Nat, k ≤ 512 ∧ i = .int .i64 ((k : Int) - 1) ∧ #[.int .u64 (r0 : Int), .int .u64 (r1 : Int), .int .u64 (r2 : Int), .int .u64 (r3 : Int)] = el (val la / 2 ^ k % ll) ∧ wr.heap[w.heap.size + 1 + 1]? = some (.cells #[.int .u64 (r0 : Int), .int .u64 (r1 : Int), .int .u64 (r2 : Int), .int .u64 (r3 : Int)] 80 (0, 0)) ∧ w.heap.size + 1 + 1 < wr.heap.size ∧ At w wr [(w.heap.size + 1, #[.int .u64 0, .int .u64 0, .int .u64 0, .int .u64 0], 80), (w.heap.size, na la, 83)]) (fun i _ => (intOf i + 1).toNat)
  case atStart =>
    refine ⟨512, 0, 0, 0, 0, Nat.le_refl _, rfl, ?_, heap_alloc_last3 _ _ _ _, by simp, ?_⟩
    · have hlt := val_lt HLE.out.2
      rw [HLE.out.1] at hlt
      rw [Nat.div_eq_of_lt (Nat.lt_of_lt_of_le hlt (Nat.le_of_eq (big_pow 512 rfl))), Nat.zero_mod]
      exact el_close (by decide) (by simp [val])
    · have hA := ((At.nil (Below.refl w.heap.size w)).alloc (na la) 83).alloc #[.int .u64 0, .int .u64 0, .int .u64 0, .int .u64 0] 80
      simp only [World.size_alloc] at hA
      exact hA.step ((Below.refl _ _).alloc (Nat.le_refl _) _)
  case round =>
    obtain ⟨k, r0, r1, r2, r3, hk, rfl, hrow, hR, hlt6, hAt⟩ := hrel
    have AT := hide hAt
    have HR := hide hR
    cases k with
    | zero =>
      have hz := (hAt.rows (w.heap.size + 1) #[.int .u64 0, .int .u64 0, .int .u64 0, .int .u64 0] 80 (by simp)).1
      have HZ := hide hz
      obtain ⟨cr, cr2⟩ := row_reads hR
      obtain ⟨cz, cz2⟩ := row_reads hz
      have HROW := hide hrow
      clear hz hR hAt hrow
      go_wp2
      refine bodyPost_ret_by (results_cell_row rfl _ _ (w.heap.size + 1) 80 _ (0, 0) _ rfl (set4_row HZ.out) Tryd.underlying80 rfl (by kernel_rfl)) rfl ⟨?_, Below.set4 AT.out.below (by omega) _ _ _ _⟩
      rw [HROW.out, Nat.pow_zero, Nat.div_one]
    | succ j =>
      rw [show (((j + 1 : Nat) : Int) - 1) = (j : Int) by omega]
      have hpd : val la / 2 ^ (j + 1) % ll < ll := ll_mod _
      obtain ⟨y, hy⟩ : ∃ y, la.getD (j / 64) 0 = y := ⟨_, rfl⟩
      have hyl : y < 18446744073709551616 := by rw [← hy]; exact HLE.out.2 _
      obtain ⟨bit, hbb⟩ : ∃ bit, y / 2 ^ (j % 64) % 2 = bit := ⟨_, rfl⟩
      have hbit : bits BinOp.and IntKind.u64 ((y : Int) / 2 ^ (j % 64)) 1 = (bit : Int) := by
        have h := and_one (y / 2 ^ (j % 64)) (Nat.lt_of_le_of_lt (Nat.div_le_self _ _) hyl)
        rw [hbb] at h
        rw [← h]; simp
      have hval : val la / 2 ^ j % 2 = bit := by
        rw [← bit_word la HLE.out.2 j, hy, hbb]
      have hb1 : bit ≤ 1 := by omega
      have HPW : Hid ((if 2 * (val la / 2 ^ (j + 1) % ll) + bit < ll then 2 * (val la / 2 ^ (j + 1) % ll) + bit else 2 * (val la / 2 ^ (j + 1) % ll) + bit - ll) = val la / 2 ^ j % ll) := by
        show _ = _
        rw [mod_bit hb1, ← hval, ← half]
      have hbr := bring_any (val la / 2 ^ (j + 1) % ll) bit hb1 hpd
      rw [← hrow] at hbr
      have htk := take_any (2 * (val la / 2 ^ (j + 1) % ll) + bit) (by have h : val la / 2 ^ (j + 1) % ll < 7237005577332262213973186563042994240857116359379907606001950938285454250989 := hpd; omega)
      rw [HPW.out] at htk
      obtain ⟨t0, t1, t2, t3, ht⟩ : ∃ a b c d : Nat, el (2 * (val la / 2 ^ (j + 1) % ll) + bit) = #[.int .u64 (a : Int), .int .u64 (b : Int), .int .u64 (c : Int), .int .u64 (d : Int)] := ⟨_, _, _, _, rfl⟩
      obtain ⟨q0, q1, q2, q3, hq⟩ : ∃ a b c d : Nat, el (val la / 2 ^ j % ll) = #[.int .u64 (a : Int), .int .u64 (b : Int), .int .u64 (c : Int), .int .u64 (d : Int)] := ⟨_, _, _, _, rfl⟩
      rw [ht] at hbr htk
      rw [hq] at htk
      generalize decide (2 * (val la / 2 ^ (j + 1) % ll) + bit < ll) = dd at htk
      have HBR := hide hbr
      have HTK := hide htk
      have HQ := hide hq
      have cw : wr.cell? ⟨w.heap.size, j / 64, none⟩ = some (.int .u64 (y : Int)) := by
        rw [hAt.rd (p := w.heap.size) (T := 83) (A := na la) (by simp), na_get _ _ (by rw [HLE.out.1]; omega), hy]
      obtain ⟨cr, cr2⟩ := row_reads hR
      have j0 : (0 : Int) ≤ (j : Int) := by omega
      have j1 : (0 : Int) ≤ (j : Int) / 64 := by omega
      have j2 : (j : Int) / 64 < 8 := by omega
      have hd : decide ((0 : Int) ≤ (j : Int)) = true := decide_eq_true j0
      clear hAt hR hq hy hbb hval hyl hbr htk ht hpd HPW hrow
      go_wp2_with fail
      refine (HBR.out _).mono ?_
      rintro e w5 ⟨rfl, b5⟩
      go_wp2_with fail
      refine (HTK.out _ ((LD.out.step AT.out.below).step b5)).mono ?_
      rintro e w6 ⟨rfl, b6⟩
      obtain ⟨z1, z2⟩ := row_reads (Below.heap b6 (Nat.lt_of_lt_of_le hlt6 b5.size) (Below.heap b5 hlt6 HR.out))
      have R6 := hide (Below.heap b6 (Nat.lt_of_lt_of_le hlt6 b5.size) (Below.heap b5 hlt6 HR.out))
      have T6 := hide ((AT.out.step b5).step b6)
      have hlt5 : w.heap.size + 1 + 1 < w6.heap.size := Nat.lt_of_lt_of_le (Nat.lt_of_lt_of_le hlt6 b5.size) b6.size
      clear cw cr cr2 b5 b6 HBR HTK
      go_wp2
      go_roundw
      case rel =>
        refine ⟨j, q0, q1, q2, q3, by omega, rfl, HQ.out.symm, set4_row R6.out, by simpa using hlt5, T6.out.set4 (by omega) ?_ _ _ _ _⟩
        intro p A T hm
        simp only [List.mem_cons, Prod.mk.injEq, List.not_mem_nil, or_false] at hm
        rcases hm with ⟨rfl, _⟩ | ⟨rfl, _⟩ <;> omega
      case measure => simp [intOf]
theorem rem_any (x : Nat) (hx : x < 18446744073709551616 ^ 8) (w : World) (hL : Laid w) :
    Calls Tryd.prog 55 #[.agg (el8 x)] w fun e w' => e = .returned (.agg (el (x % ll))) ∧ Below w.heap.size w w' := by
  obtain ⟨l, he, hl, hlim, hv⟩ := el8_open x hx
  rw [he, ← hv]; exact rem_list l hl hlim w hL
end Go.Proofs.YteplbagjagimdaaDoor.Sc
/- What bytes leave by the order, as the program's call answers it, in any world where the order lies as the program's text lays it. -/
namespace Go.Proofs.YteplbagjagimdaaDoor.Sc
open Go.RowKit
theorem bval_all {l : List Nat} (h : ∀ i, l.getD i 0 < 256) : bval l < 256 ^ l.length := by
  have := bval_lt h l.length
  rwa [List.take_of_length_le (Nat.le_refl _)] at this
theorem bval_64 {l : List Nat} (h : ∀ i, l.getD i 0 < 256) (hl : l.length ≤ 64) : bval l < 18446744073709551616 ^ 8 := by
  have h1 := bval_all h
  have h2 : 256 ^ l.length ≤ 256 ^ 64 := Nat.pow_le_pow_right (by decide) hl
  have h3 : (256 : Nat) ^ 64 = 18446744073709551616 ^ 8 := by decide +kernel
  omega
theorem BsAt.lim {w : World} {v : Value} {bs : List Nat} (h : BsAt w v bs) : ∀ i, bs.getD i 0 < 256 := by
  obtain ⟨_, _, _, _, _, _, _, hl, _⟩ := h
  exact hl
theorem lt_big {x : Nat} (h : x < ll) : x < 115792089237316195423570985008687907853269984665640564039457584007913129639936 := Nat.lt_trans h (by decide)
set_option maxRecDepth 100000 in
set_option maxHeartbeats 1000000 in
/-- What bytes leave by the order, in new memory. -/
theorem reduce_new (v : Value) (bs : List Nat) (w : World) (h : BsAt w v bs) (hL : Laid w) (hlen : bs.length ≤ 64) :
    Calls Tryd.prog 27 #[v] w fun e w' => ∃ g, e = .returned (.slice (some ⟨g, 0, none⟩) 32 32) ∧ w.heap.size ≤ g ∧ g < w'.heap.size ∧ w'.heap[g]? = some (.cells (ba (bys (bval bs % ll) 32)) 5 (0, 0)) ∧ Below w.heap.size w w' := by
  have HF := hide (from_any v bs hlen w h)
  have HR : Hid (∀ W : World, Laid W → _) := rem_any (bval bs) (bval_64 h.lim hlen)
  have HY := hide (bytes_any (bval bs % ll) (lt_big (ll_mod _)))
  have LD := hide hL
  obtain ⟨ao, c, rfl, _, hc⟩ := h.len
  have hd : decide ((64 : Int) < (bs.length : Int)) = false := decide_eq_false (by omega)
  generalize el8 (bval bs) = E8 at *
  generalize el (bval bs % ll) = E at *
  generalize bys (bval bs % ll) 32 = Y at *
  clear hL h hlen
  go_enter Tryd.func27, Tryd.ntmps27
  go_wp2_with fail
  refine HF.out.mono ?_
  rintro e w1 ⟨rfl, b1⟩
  go_wp2_with fail
  refine (HR.out _ (LD.out.step b1)).mono ?_
  rintro e w2 ⟨rfl, b2⟩
  go_wp2_with fail
  refine (HY.out _).mono ?_
  rintro e w3 ⟨g, rfl, hg1, hg2, hrow, b3⟩
  have HB := hide (Below.chain (Below.chain b1 b2) b3)
  have HU := hide (And.intro (Nat.le_trans (Below.chain b1 b2).size hg1) (And.intro hg2 hrow))
  clear b1 b2 b3 HF HR HY hg1 hg2 hrow
  go_wp2
  go_ret
  exact ⟨_, rfl, HU.out.1, HU.out.2.1, HU.out.2.2, HB.out⟩
end Go.Proofs.YteplbagjagimdaaDoor.Sc
