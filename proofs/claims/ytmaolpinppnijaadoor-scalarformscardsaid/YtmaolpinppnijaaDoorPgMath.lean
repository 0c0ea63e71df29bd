/- Numbers byte by byte: doubled with a bit more, the order taken away, compared from the highest byte down, and sums of products: without any program. -/
import Derived.Test.YtmaolpinppnijaaDoorLow
namespace Go.Proofs.YtmaolpinppnijaaDoor
open Go.RowKit
/-- Bytes as the page's numbers. -/
def ja (l : List Nat) : Array Value := (l.map fun (n : Nat) => Value.int .i64 (n : Int)).toArray
theorem ja_size (l : List Nat) : (ja l).size = l.length := by simp [ja]
theorem ja_get (l : List Nat) (k : Nat) (h : k < l.length) : (ja l)[k]? = some (.int .i64 ((l.getD k 0 : Nat) : Int)) := by
  simp [ja, List.getD_eq_getElem?_getD, h]
theorem ja_set (l : List Nat) (k n : Nat) : (ja l).setIfInBounds k (.int .i64 (n : Int)) = ja (l.set k n) := by
  simp [ja, List.map_set]
theorem ja_one (l : List Nat) : (ja l).all (·.oneCell') = true := by
  simp [ja]; intro x _; rfl
/-- A number's first m bytes. -/
def dg (m v : Nat) : List Nat := (List.range m).map (byt v)
theorem dg_len (m v : Nat) : (dg m v).length = m := by simp [dg]
theorem dg_get (m v k : Nat) (h : k < m) : (dg m v).getD k 0 = byt v k := by simp [dg, List.getD_eq_getElem?_getD, h]
/-- A list whose first k members are new ones. -/
def mx (f : Nat → Nat) (l : List Nat) : Nat → List Nat
  | 0 => l
  | k + 1 => (mx f l k).set k (f k)
theorem mx_len (f : Nat → Nat) (l : List Nat) : ∀ k, (mx f l k).length = l.length
  | 0 => rfl
  | k + 1 => by rw [mx, List.length_set, mx_len f l k]
theorem mx_get (f : Nat → Nat) (l : List Nat) : ∀ k i, k ≤ l.length → (mx f l k).getD i 0 = if i < k then f i else l.getD i 0
  | 0, i, _ => by rw [if_neg (by omega)]; rfl
  | k + 1, i, h => by
    rw [mx]
    by_cases e : k = i
    · subst e
      have := mx_len f l k
      simp [List.getD_eq_getElem?_getD, this, show k < l.length by omega]
    · rw [getD_set_ne' e, mx_get f l k i (by omega)]
      by_cases h1 : i < k
      · rw [if_pos h1, if_pos (by omega)]
      · rw [if_neg h1, if_neg (by omega)]
theorem mx_dg (m v y : Nat) : mx (byt y) (dg m v) m = dg m y := by
  refine List.ext_getElem (by rw [mx_len, dg_len, dg_len]) fun i h1 h2 => ?_
  have h3 := mx_get (byt y) (dg m v) m i (by rw [dg_len]; exact Nat.le_refl _)
  have hi : i < m := by rw [dg_len] at h2; exact h2
  rw [if_pos hi, ← dg_get m y i hi, List.getD_eq_getElem?_getD, List.getD_eq_getElem?_getD, List.getElem?_eq_getElem h1, List.getElem?_eq_getElem h2] at h3
  exact h3
theorem pow256 (k : Nat) : 0 < 256 ^ k := Nat.pow_pos (by decide)
theorem mod_succ (v k : Nat) : v % 256 ^ (k + 1) = v % 256 ^ k + 256 ^ k * byt v k := by
  rw [Nat.pow_succ, Nat.mod_mul]; rfl
theorem byt_of (v k : Nat) : byt v k = v % 256 ^ (k + 1) / 256 ^ k := by
  rw [Nat.pow_succ, Nat.mod_mul_right_div_self]; rfl
/-- Twice a number and a bit: what is carried to byte k. -/
def dc (v c k : Nat) : Nat := (2 * (v % 256 ^ k) + c) / 256 ^ k
theorem dc_sum (v c k : Nat) : dc v c k + 2 * byt v k = (2 * (v % 256 ^ (k + 1)) + c) / 256 ^ k := by
  rw [dc, mod_succ, Nat.mul_add, Nat.add_right_comm, ← Nat.mul_assoc 2, Nat.mul_comm 2 (256 ^ k), Nat.mul_assoc, Nat.add_mul_div_left _ _ (pow256 k)]
theorem dc_step (v c k : Nat) : (dc v c k + 2 * byt v k) / 256 = dc v c (k + 1) := by
  rw [dc_sum, Nat.div_div_eq_div_mul, ← Nat.pow_succ, dc]
theorem dc_byte (v c k : Nat) : (dc v c k + 2 * byt v k) % 256 = byt (2 * v + c) k := by
  rw [dc_sum, byt]
  have h : 2 * v + c = (2 * (v % 256 ^ (k + 1)) + c) + 256 ^ (k + 1) * (2 * (v / 256 ^ (k + 1))) := by
    have := Nat.mod_add_div v (256 ^ (k + 1))
    rw [← Nat.mul_assoc, Nat.mul_comm (256 ^ (k + 1)) 2, Nat.mul_assoc]
    omega
  rw [h, Nat.pow_succ, Nat.mul_assoc (256 ^ k) 256, Nat.add_mul_div_left _ _ (pow256 k), Nat.add_mul_mod_self_left]
theorem dc_lt (v c k : Nat) (hc : c ≤ 1) : dc v c k ≤ 1 := by
  unfold dc
  have h1 := Nat.mod_lt v (pow256 k)
  have h2 : (2 * (v % 256 ^ k) + c) / 256 ^ k < 2 := Nat.div_lt_of_lt_mul (by omega)
  omega
theorem dc_zero (v c : Nat) : dc v c 0 = c := by simp [dc, Nat.mod_one]
/-- A number less another: what is owed at byte k. -/
def sc (y l k : Nat) : Int := ((y % 256 ^ k : Nat) - (l % 256 ^ k : Nat) : Int) / ((256 ^ k : Nat) : Int)
theorem sc_zero (y l : Nat) : sc y l 0 = 0 := by simp [sc, Nat.mod_one]
theorem sc_sum (y l k : Nat) : sc y l k + (byt y k : Int) - (byt l k : Int) = ((y % 256 ^ (k + 1) : Nat) - (l % 256 ^ (k + 1) : Nat) : Int) / ((256 ^ k : Nat) : Int) := by
  have hp : ((256 ^ k : Nat) : Int) ≠ 0 := by have := pow256 k; omega
  rw [sc, mod_succ, mod_succ]
  have : (((y % 256 ^ k + 256 ^ k * byt y k : Nat) : Int) - ((l % 256 ^ k + 256 ^ k * byt l k : Nat) : Int)) = ((y % 256 ^ k : Nat) - (l % 256 ^ k : Nat) : Int) + ((256 ^ k : Nat) : Int) * ((byt y k : Int) - (byt l k : Int)) := by
    rw [Int.natCast_add, Int.natCast_add, Int.natCast_mul, Int.natCast_mul, Int.mul_sub]
    omega
  rw [this, Int.add_mul_ediv_left _ _ hp]
  omega
theorem sc_step (y l k : Nat) : (sc y l k + (byt y k : Int) - (byt l k : Int)) / 256 = sc y l (k + 1) := by
  rw [sc_sum, sc, Int.ediv_ediv_of_nonneg (Int.natCast_nonneg _), Nat.pow_succ, Int.natCast_mul]
  rfl
theorem sc_byte (y l k : Nat) (h : l ≤ y) : (sc y l k + (byt y k : Int) - (byt l k : Int)) % 256 = (byt (y - l) k : Int) := by
  have hp : ((256 ^ k : Nat) : Int) ≠ 0 := by have := pow256 k; omega
  rw [sc_sum, byt]
  have hy := Nat.mod_add_div y (256 ^ (k + 1))
  have hl := Nat.mod_add_div l (256 ^ (k + 1))
  have e : ((y - l : Nat) : Int) = (((y % 256 ^ (k + 1) : Nat) : Int) - ((l % 256 ^ (k + 1) : Nat) : Int)) + ((256 ^ k : Nat) : Int) * (256 * (((y / 256 ^ (k + 1) : Nat) : Int) - ((l / 256 ^ (k + 1) : Nat) : Int))) := by
    have e1 : ((256 ^ (k + 1) : Nat) : Int) = ((256 ^ k : Nat) : Int) * 256 := by rw [Nat.pow_succ, Int.natCast_mul]; rfl
    rw [← Int.mul_assoc, ← e1, Int.mul_sub, ← Int.natCast_mul, ← Int.natCast_mul]
    omega
  rw [Int.natCast_emod ((y - l) / 256 ^ k), Int.natCast_ediv (y - l), e, Int.add_mul_ediv_left _ _ hp]
  exact (Int.add_mul_emod_self_left _ _ _).symm
theorem sc_bound (y l k : Nat) : -1 ≤ sc y l k ∧ sc y l k ≤ 0 := by
  have h1 := Nat.mod_lt y (pow256 k)
  have h2 := Nat.mod_lt l (pow256 k)
  have hp : (0 : Int) < ((256 ^ k : Nat) : Int) := by have := pow256 k; omega
  unfold sc
  constructor
  · rw [Int.le_ediv_iff_mul_le hp]; omega
  · have : ((y % 256 ^ k : Nat) - (l % 256 ^ k : Nat) : Int) / ((256 ^ k : Nat) : Int) < 1 := Int.ediv_lt_of_lt_mul hp (by omega)
    omega
/-- From the highest byte down. -/
theorem lex_lt (x y : Nat) : ∀ (n k : Nat), k < n → x < 256 ^ n → y < 256 ^ n → (∀ i, k < i → i < n → byt x i = byt y i) → byt x k ≠ byt y k → (byt x k < byt y k ↔ x < y) := by
  intro n k hk hx hy hs hne
  have key : ∀ m, k + 1 + m ≤ n → (x % 256 ^ (k + 1 + m) < y % 256 ^ (k + 1 + m) ↔ x % 256 ^ (k + 1) < y % 256 ^ (k + 1)) := by
    intro m
    induction m with
    | zero => intro _; rfl
    | succ m ih =>
      intro hm
      rw [← Nat.add_assoc, mod_succ, mod_succ y, hs (k + 1 + m) (by omega) (by omega), ← ih (by omega)]
      omega
  have h1 := key (n - (k + 1)) (by omega)
  rw [show k + 1 + (n - (k + 1)) = n by omega, Nat.mod_eq_of_lt hx, Nat.mod_eq_of_lt hy] at h1
  rw [h1, mod_succ, mod_succ y]
  have hxk := Nat.mod_lt x (pow256 k)
  have hyk := Nat.mod_lt y (pow256 k)
  constructor
  · intro h
    have : 256 ^ k * byt x k + 256 ^ k ≤ 256 ^ k * byt y k := by rw [← Nat.mul_succ]; exact Nat.mul_le_mul_left _ h
    omega
  · intro h
    rcases Nat.lt_or_ge (byt x k) (byt y k) with h2 | h2
    · exact h2
    · exfalso
      have h3 : byt y k < byt x k := by omega
      have : 256 ^ k * byt y k + 256 ^ k ≤ 256 ^ k * byt x k := by rw [← Nat.mul_succ]; exact Nat.mul_le_mul_left _ h3
      omega
theorem lex_eq (x y n : Nat) (hx : x < 256 ^ n) (hy : y < 256 ^ n) (hs : ∀ i, i < n → byt x i = byt y i) : x = y := by
  have : ∀ m, m ≤ n → x % 256 ^ m = y % 256 ^ m := by
    intro m
    induction m with
    | zero => intro _; rw [Nat.pow_zero, Nat.mod_one, Nat.mod_one]
    | succ m ih => intro hm; rw [mod_succ, mod_succ y, ih (by omega), hs m (by omega)]
  have h := this n (Nat.le_refl _)
  rwa [Nat.mod_eq_of_lt hx, Nat.mod_eq_of_lt hy] at h
end Go.Proofs.YtmaolpinppnijaaDoor
