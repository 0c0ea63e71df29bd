/- The page's own scalars, as its calls answer them. -/
import Derived.Test.YtobgimpkkjaolaaGreatDoorMc
import Derived.Great.BuildSlice
import Derived.BigQuiet
/- Numbers byte by byte: doubled with a bit more, the order taken away, compared from the highest byte down, and sums of products: without any program. -/
namespace Go.Proofs.YtobgimpkkjaolaaGreatDoor.Sc
open Go.RowKit
def ja (l : List Nat) : Array Value := (l.map fun (n : Nat) => Value.int .i64 (n : Int)).toArray
theorem ja_size (l : List Nat) : (ja l).size = l.length := by simp [ja]
theorem ja_get (l : List Nat) (k : Nat) (h : k < l.length) : (ja l)[k]? = some (.int .i64 ((l.getD k 0 : Nat) : Int)) := by
  simp [ja, List.getD_eq_getElem?_getD, h]
theorem ja_set (l : List Nat) (k n : Nat) : (ja l).setIfInBounds k (.int .i64 (n : Int)) = ja (l.set k n) := by
  simp [ja, List.map_set]
theorem ja_one (l : List Nat) : (ja l).all (·.oneCell') = true := by
  simp [ja]; intro x _; rfl
def dg (m v : Nat) : List Nat := (List.range m).map (byt v)
theorem dg_len (m v : Nat) : (dg m v).length = m := by simp [dg]
theorem dg_get (m v k : Nat) (h : k < m) : (dg m v).getD k 0 = byt v k := by simp [dg, List.getD_eq_getElem?_getD, h]
def mx (f : Nat → Nat) (l : List Nat) : Nat → List Nat
  | 0 => l
  | k + 1 => (mx f l k).set k (f k)
theorem mx_len (f : Nat → Nat) (l : List Nat) : ∀ k, (mx f l k).length = l.length
  | 0 => rfl
  | k + 1 => by rw [mx, List.length_set, mx_len f l k]
theorem mx_get (f : Nat → Nat) (l : List Nat) : ∀ k i, k ≤ l.length → (mx f l k).getD i 0 = if i < k then f i else l.getD i 0
  | 0, i, _ => by rw [if_neg (by omega)]; rfl
  | k + 1, i, h => by
    rw [mx]
    by_cases e : k = i
    · subst e
      have := mx_len f l k
      simp [List.getD_eq_getElem?_getD, this, show k < l.length by omega]
    · rw [getD_set_ne' e, mx_get f l k i (by omega)]
      by_cases h1 : i < k
      · rw [if_pos h1, if_pos (by omega)]
      · rw [if_neg h1, if_neg (by omega)]
theorem mx_dg (m v y : Nat) : mx (byt y) (dg m v) m = dg m y := by
  refine List.ext_getElem (by rw [mx_len, dg_len, dg_len]) fun i h1 h2 => ?_
  have h3 := mx_get (byt y) (dg m v) m i (by rw [dg_len]; exact Nat.le_refl _)
  have hi : i < m := by rw [dg_len] at h2; exact h2
  rw [if_pos hi, ← dg_get m y i hi, List.getD_eq_getElem?_getD, List.getD_eq_getElem?_getD, List.getElem?_eq_getElem h1, List.getElem?_eq_getElem h2] at h3
  exact h3
theorem pow256 (k : Nat) : 0 < 256 ^ k := Nat.pow_pos (by decide)
theorem mod_succ (v k : Nat) : v % 256 ^ (k + 1) = v % 256 ^ k + 256 ^ k * byt v k := by
  rw [Nat.pow_succ, Nat.mod_mul]; rfl
def dc (v c k : Nat) : Nat := (2 * (v % 256 ^ k) + c) / 256 ^ k
theorem dc_sum (v c k : Nat) : dc v c k + 2 * byt v k = (2 * (v % 256 ^ (k + 1)) + c) / 256 ^ k := by
  rw [dc, mod_succ, Nat.mul_add, Nat.add_right_comm, ← Nat.mul_assoc 2, Nat.mul_comm 2 (256 ^ k), Nat.mul_assoc, Nat.add_mul_div_left _ _ (pow256 k)]
theorem dc_step (v c k : Nat) : (dc v c k + 2 * byt v k) / 256 = dc v c (k + 1) := by
  rw [dc_sum, Nat.div_div_eq_div_mul, ← Nat.pow_succ, dc]
theorem dc_byte (v c k : Nat) : (dc v c k + 2 * byt v k) % 256 = byt (2 * v + c) k := by
  rw [dc_sum, byt]
  have h : 2 * v + c = (2 * (v % 256 ^ (k + 1)) + c) + 256 ^ (k + 1) * (2 * (v / 256 ^ (k + 1))) := by
    have := Nat.mod_add_div v (256 ^ (k + 1))
    rw [← Nat.mul_assoc, Nat.mul_comm (256 ^ (k + 1)) 2, Nat.mul_assoc]
    omega
  rw [h, Nat.pow_succ, Nat.mul_assoc (256 ^ k) 256, Nat.add_mul_div_left _ _ (pow256 k), Nat.add_mul_mod_self_left]
theorem dc_lt (v c k : Nat) (hc : c ≤ 1) : dc v c k ≤ 1 := by
  unfold dc
  have h1 := Nat.mod_lt v (pow256 k)
  have h2 : (2 * (v % 256 ^ k) + c) / 256 ^ k < 2 := Nat.div_lt_of_lt_mul (by omega)
  omega
theorem dc_zero (v c : Nat) : dc v c 0 = c := by simp [dc, Nat.mod_one]
def sc (y l k : Nat) : Int := ((y % 256 ^ k : Nat) - (l % 256 ^ k : Nat) : Int) / ((256 ^ k : Nat) : Int)
theorem sc_zero (y l : Nat) : sc y l 0 = 0 := by simp [sc, Nat.mod_one]
theorem sc_sum (y l k : Nat) : sc y l k + (byt y k : Int) - (byt l k : Int) = ((y % 256 ^ (k + 1) : Nat) - (l % 256 ^ (k + 1) : Nat) : Int) / ((256 ^ k : Nat) : Int) := by
  have hp : ((256 ^ k : Nat) : Int) ≠ 0 := by have := pow256 k; omega
  rw [sc, mod_succ, mod_succ]
  have : (((y % 256 ^ k + 256 ^ k * byt y k : Nat) : Int) - ((l % 256 ^ k + 256 ^ k * byt l k : Nat) : Int)) = ((y % 256 ^ k : Nat) - (l % 256 ^ k : Nat) : Int) + ((256 ^ k : Nat) : Int) * ((byt y k : Int) - (byt l k : Int)) := by
    rw [Int.natCast_add, Int.natCast_add, Int.natCast_mul, Int.natCast_mul, Int.mul_sub]
    omega
  rw [this, Int.add_mul_ediv_left _ _ hp]
  omega
theorem sc_step (y l k : Nat) : (sc y l k + (byt y k : Int) - (byt l k : Int)) / 256 = sc y l (k + 1) := by
  rw [sc_sum, sc, Int.ediv_ediv_of_nonneg (Int.natCast_nonneg _), Nat.pow_succ, Int.natCast_mul]
  rfl
theorem sc_byte (y l k : Nat) (h : l ≤ y) : (sc y l k + (byt y k : Int) - (byt l k : Int)) % 256 = (byt (y - l) k : Int) := by
  have hp : ((256 ^ k : Nat) : Int) ≠ 0 := by have := pow256 k; omega
  rw [sc_sum, byt]
  have hy := Nat.mod_add_div y (256 ^ (k + 1))
  have hl := Nat.mod_add_div l (256 ^ (k + 1))
  have e : ((y - l : Nat) : Int) = (((y % 256 ^ (k + 1) : Nat) : Int) - ((l % 256 ^ (k + 1) : Nat) : Int)) + ((256 ^ k : Nat) : Int) * (256 * (((y / 256 ^ (k + 1) : Nat) : Int) - ((l / 256 ^ (k + 1) : Nat) : Int))) := by
    have e1 : ((256 ^ (k + 1) : Nat) : Int) = ((256 ^ k : Nat) : Int) * 256 := by rw [Nat.pow_succ, Int.natCast_mul]; rfl
    rw [← Int.mul_assoc, ← e1, Int.mul_sub, ← Int.natCast_mul, ← Int.natCast_mul]
    omega
  rw [Int.natCast_emod ((y - l) / 256 ^ k), Int.natCast_ediv (y - l), e, Int.add_mul_ediv_left _ _ hp]
  exact (Int.add_mul_emod_self_left _ _ _).symm
theorem sc_bound (y l k : Nat) : -1 ≤ sc y l k ∧ sc y l k ≤ 0 := by
  have h1 := Nat.mod_lt y (pow256 k)
  have h2 := Nat.mod_lt l (pow256 k)
  have hp : (0 : Int) < ((256 ^ k : Nat) : Int) := by have := pow256 k; omega
  unfold sc
  constructor
  · rw [Int.le_ediv_iff_mul_le hp]; omega
  · have : ((y % 256 ^ k : Nat) - (l % 256 ^ k : Nat) : Int) / ((256 ^ k : Nat) : Int) < 1 := Int.ediv_lt_of_lt_mul hp (by omega)
    omega
theorem lex_lt (x y : Nat) : ∀ (n k : Nat), k < n → x < 256 ^ n → y < 256 ^ n → (∀ i, k < i → i < n → byt x i = byt y i) → byt x k ≠ byt y k → (byt x k < byt y k ↔ x < y) := by
  intro n k hk hx hy hs hne
  have key : ∀ m, k + 1 + m ≤ n → (x % 256 ^ (k + 1 + m) < y % 256 ^ (k + 1 + m) ↔ x % 256 ^ (k + 1) < y % 256 ^ (k + 1)) := by
    intro m
    induction m with
    | zero => intro _; rfl
    | succ m ih =>
      intro hm
      rw [← Nat.add_assoc, mod_succ, mod_succ y, hs (k + 1 + m) (by omega) (by omega), ← ih (by omega)]
      omega
  have h1 := key (n - (k + 1)) (by omega)
  rw [show k + 1 + (n - (k + 1)) = n by omega, Nat.mod_eq_of_lt hx, Nat.mod_eq_of_lt hy] at h1
  rw [h1, mod_succ, mod_succ y]
  have hxk := Nat.mod_lt x (pow256 k)
  have hyk := Nat.mod_lt y (pow256 k)
  constructor
  · intro h
    have : 256 ^ k * byt x k + 256 ^ k ≤ 256 ^ k * byt y k := by rw [← Nat.mul_succ]; exact Nat.mul_le_mul_left _ h
    omega
  · intro h
    rcases Nat.lt_or_ge (byt x k) (byt y k) with h2 | h2
    · exact h2
    · exfalso
      have h3 : byt y k < byt x k := by omega
      have : 256 ^ k * byt y k + 256 ^ k ≤ 256 ^ k * byt x k := by rw [← Nat.mul_succ]; exact Nat.mul_le_mul_left _ h3
      omega
theorem lex_eq (x y n : Nat) (hx : x < 256 ^ n) (hy : y < 256 ^ n) (hs : ∀ i, i < n → byt x i = byt y i) : x = y := by
  have : ∀ m, m ≤ n → x % 256 ^ m = y % 256 ^ m := by
    intro m
    induction m with
    | zero => intro _; rw [Nat.pow_zero, Nat.mod_one, Nat.mod_one]
    | succ m ih => intro hm; rw [mod_succ, mod_succ y, ih (by omega), hs m (by omega)]
  have h := this n (Nat.le_refl _)
  rwa [Nat.mod_eq_of_lt hx, Nat.mod_eq_of_lt hy] at h
end Go.Proofs.YtobgimpkkjaolaaGreatDoor.Sc
/- The page's order, and whether bytes are below it: as its calls answer, in any world. -/
namespace Go.Proofs.YtobgimpkkjaolaaGreatDoor.Sc
open Go.RowKit
theorem und46 : Tryz.prog.underlying 70 = some (.array 32 2) := by kernel_rfl
theorem und42 : Tryz.prog.underlying 72 = some (.array 33 2) := by kernel_rfl
theorem size46 : (Tryz.prog.info? 70).map (·.size) = some 32 := by kernel_rfl
theorem size42 : (Tryz.prog.info? 72).map (·.size) = some 33 := by kernel_rfl
def lrow : List Nat := dg 32 ll
theorem lrow_len : lrow.length = 32 := dg_len _ _
theorem zero46 (w : World) : (zeroValue 70).run Tryz.prog w = .ok (.agg (ja (zz 32))) w := by kernel_rfl
theorem zero42 (w : World) : (zeroValue 72).run Tryz.prog w = .ok (.agg (ja (zz 33))) w := by kernel_rfl
theorem lr32 : (ja lrow).size = 32 := by rw [ja_size, lrow_len]
theorem zr32 : (ja (zz 32)).size = 32 := by rw [ja_size, zz_len]
set_option maxRecDepth 100000 in
set_option maxHeartbeats 400000 in
theorem order_ref (w : World) : Calls Tryz.prog 49 #[] w fun e w' => e = .returned (.agg (ja lrow)) ∧ Below w.heap.size w w' := by
  have hz := zero46
  go_enter Tryz.func49, Tryz.ntmps49
  go_wp2_with (first | (refine wpList_buildTo rfl 70 _ rfl (some 1) rfl (ja lrow) (by kernel_rfl) ?_) | (refine wpList_store_row rfl 70 (.tmp 0) (.tmp 1) rfl w.heap.size (ja lrow) rfl rfl 70 (ja (zz 32)) (heap_alloc_last _ _) (by rw [lr32]; exact size46) (by rw [lr32]; exact zr32) (ja_one _) ?_))
  refine bodyPost_ret_by (results_cell_row rfl _ _ w.heap.size 70 (ja lrow) (0, 0) (.array 32 2) rfl (setRow_heap _ _ _ _ _ _ (heap_alloc_last _ _)) und46 rfl (by rw [lr32]; exact size46)) rfl ⟨rfl, ?_⟩
  exact Below.setRow ((Below.refl _ _).alloc (Nat.le_refl _) _) _ _ (by omega)
theorem below_dN {B : Nat} {a w : World} (h : Below B a w) (n : Nat) : Below B a (w.drewN n) := ⟨h.os, h.tape, h.output, h.size, h.block⟩
theorem ll_lt : ll < 256 ^ 32 := by decide
set_option maxRecDepth 100000 in
set_option maxHeartbeats 2000000 in
theorem below_ref (y : Nat) (hy : y < 256 ^ 33) (w : World) : Calls Tryz.prog 50 #[.agg (ja (dg 33 y))] w fun e w' => e = .returned (.bool (decide (y < ll))) ∧ Below w.heap.size w w' := by
  have hz := zero46
  have HO := hide order_ref
  have h33 : (ja (dg 33 y)).size = 33 := by rw [ja_size, dg_len]
  obtain ⟨XR, hXR⟩ : ∃ x, ja (dg 33 y) = x := ⟨_, rfl⟩
  obtain ⟨LR, hLR⟩ : ∃ x, ja lrow = x := ⟨_, rfl⟩
  obtain ⟨ZR, hZR⟩ : ∃ x, ja (zz 32) = x := ⟨_, rfl⟩
  have hs1 : XR.size = 33 := by rw [← hXR]; exact h33
  have hs2 : LR.size = 32 := by rw [← hLR]; exact lr32
  have hs3 : ZR.size = 32 := by rw [← hZR]; exact zr32
  have ho : LR.all (·.oneCell') = true := by rw [← hLR]; exact ja_one _
  have hx1 : XR.all (·.oneCell') = true := by rw [← hXR]; exact ja_one _
  have GX : Hid (∀ k, k < 33 → XR[k]? = some (.int .i64 ((byt y k : Nat) : Int))) := fun k hk => by rw [← hXR, ja_get _ _ (by rw [dg_len]; exact hk), dg_get _ _ _ hk]
  have GL : Hid (∀ k, k < 32 → LR[k]? = some (.int .i64 ((byt ll k : Nat) : Int))) := fun k hk => by rw [← hLR, ja_get _ _ (by rw [lrow_len]; exact hk), lrow, dg_get _ _ _ hk]
  rw [hXR]
  rw [hLR] at HO
  rw [hZR] at hz
  clear hXR hLR hZR h33
  go_enter Tryz.func50, Tryz.ntmps50
  go_wp2_with fail
  refine (HO.out _).mono ?_
  rintro e w1 ⟨rfl, b1⟩
  have hr0 : w1.heap[w.heap.size]? = some (.cells XR 72 (0, 0)) := (b1.block _ (by simp)).trans (heap_alloc_last _ _)
  have hlt0 : w.heap.size < w1.heap.size := by have := b1.size; simp at this; omega
  have B1 := hide (Below.chain ((Below.refl w.heap.size w).alloc (Nat.le_refl _) (.cells XR 72)) b1)
  clear b1
  obtain ⟨W2, hW2⟩ : ∃ W, (w1.alloc (.cells ZR 70)).setRow w1.heap.size LR = W := ⟨_, rfl⟩
  have hrx : W2.heap[w.heap.size]? = some (.cells XR 72 (0, 0)) := by rw [← hW2, setRow_other _ _ _ _ (by omega), Below.heap_alloc _ _ _ hlt0]; exact hr0
  have hrl : W2.heap[w1.heap.size]? = some (.cells LR 70 (0, 0)) := by rw [← hW2]; exact setRow_heap _ _ _ _ _ _ (heap_alloc_last _ _)
  have B2 : Hid (Below w.heap.size w W2) := by rw [← hW2]; exact Below.setRow (B1.out.alloc B1.out.size _) _ _ (by have := B1.out.size; omega)
  have c32 : W2.cell? ⟨w.heap.size, 32, none⟩ = some (.int .i64 ((byt y 32 : Nat) : Int)) := by rw [cell_of_row _ _ _ _ _ _ hrx]; exact GX.out 32 (by decide)
  have HRX := hide hrx
  have HRL := hide hrl
  clear hr0 hlt0 B1 hrx hrl
  by_cases h0 : byt y 32 = 0
  · have hyl : y < 256 ^ 32 := by
      have h1 := mod_succ y 32
      rw [h0, Nat.mul_zero, Nat.add_zero, Nat.mod_eq_of_lt hy] at h1
      rw [h1]
      exact Nat.mod_lt _ (pow256 32)
    rw [h0] at c32
    have HY := hide hyl
    clear hyl hy
    go_wp2_with (refine wpList_store_row rfl 70 (.tmp 3) (.tmp 5) rfl w1.heap.size LR rfl rfl 70 ZR (heap_alloc_last _ _) (by rw [hs2]; exact size46) (by rw [hs2]; exact hs3) ho ?_; rw [hW2])
    clear hW2 hz hs1 hs2 hs3 ho hx1 HO h0 c32
    go_loopw [4] (fun i wr => ∃ j : Nat, j ≤ 32 ∧ i = .int .i64 ((j : Int) - 1) ∧ (∀ m, j ≤ m → m < 32 → byt y m = byt ll m) ∧ wr.heap[w.heap.size]? = some (.cells XR 72 (0, 0)) ∧ wr.heap[w1.heap.size]? = some (.cells LR 70 (0, 0)) ∧ Below w.heap.size w wr) (fun i _ => (intOf i + 1).toNat)
    case atStart => exact ⟨32, by omega, rfl, fun m h1 h2 => by omega, HRX.out, HRL.out, B2.out⟩
    case round =>
      obtain ⟨j, hj, rfl, hsame, hrx, hrl, hB⟩ := hrel
      clear HRX HRL B2
      by_cases hj0 : j = 0
      · subst hj0
        have hlt : y < ll ↔ False := by
          rw [lex_eq y ll 32 HY.out ll_lt (fun i hi => hsame i (by omega) hi)]
          simp
        have HB := hide hB
        clear hsame hrx hrl hB
        go_wp2
        go_ret
        exact ⟨by rw [decide_eq_false (fun h => hlt.1 h)]; rfl, HB.out⟩
      · have hc1 := cell_of_row _ _ (j - 1) _ _ _ hrx
        rw [GX.out (j - 1) (by omega)] at hc1
        have hc2 := cell_of_row _ _ (j - 1) _ _ _ hrl
        rw [GL.out (j - 1) (by omega)] at hc2
        have HS := hide hsame
        have HX := hide hrx
        have HLL := hide hrl
        have HB := hide hB
        obtain ⟨q, rfl⟩ : ∃ q, j = q + 1 := ⟨j - 1, by omega⟩
        rw [Nat.add_sub_cancel] at hc1 hc2
        have b0 : (0 : Int) ≤ (q : Int) := by omega
        have b1 : (q : Int) < 32 := by omega
        have hq : (((q + 1 : Nat) : Int) - 1) = (q : Int) := by omega
        rw [hq]
        clear hsame hrx hrl hB hj0 hj hq
        by_cases he : byt y q = byt ll q
        · rw [he] at hc1
          generalize hgl : byt ll q = lq at *
          have HE := hide (And.intro he hgl)
          clear he hgl
          go_wp2_with fail
          go_quiet (fail)
          go_wp2
          refine ⟨⟨q, by omega, by go_num, ?_, HX.out, HLL.out, below_dN HB.out _⟩, by simp [intOf]⟩
          intro m h1 h2
          rcases Nat.eq_or_lt_of_le h1 with e | e
          · subst e; rw [HE.out.1, HE.out.2]
          · exact HS.out m e h2
        · have hlex : Hid (decide (byt y q < byt ll q) = decide (y < ll)) := by
            show _ = _
            rw [decide_eq_decide]
            exact lex_lt y ll 32 q (by omega) HY.out ll_lt (fun i h1 h2 => HS.out i (by omega) h2) he
          have hne : ((byt y q : Int) == (byt ll q : Int)) = false := by rw [beq_eq_false_iff_ne]; omega
          generalize byt ll q = lq at *
          generalize byt y q = yq at *
          clear he HS
          go_wp2_with fail
          go_quiet (fail)
          go_wp2_with fail
          go_quiet (fail)
          go_wp2
          go_ret
          exact ⟨by rw [← hlex.out]; rfl, below_dN (below_dN HB.out _) _⟩
  · have hge : ¬ (y < ll) := by
      intro h
      apply h0
      unfold byt
      rw [Nat.div_eq_of_lt (Nat.lt_trans h ll_lt)]
    have d0 : 0 < byt y 32 := by omega
    have HG := hide hge
    generalize byt y 32 = y32 at *
    clear hge h0 hy
    go_wp2_with (refine wpList_store_row rfl 70 (.tmp 3) (.tmp 5) rfl w1.heap.size LR rfl rfl 70 ZR (heap_alloc_last _ _) (by rw [hs2]; exact size46) (by rw [hs2]; exact hs3) ho ?_; rw [hW2])
    go_ret
    exact ⟨by rw [decide_eq_false HG.out]; rfl, B2.out⟩
end Go.Proofs.YtobgimpkkjaolaaGreatDoor.Sc
/- What bytes leave by the order, the page's own way: as its call answers, in any world. -/
namespace Go.Proofs.YtobgimpkkjaolaaGreatDoor.Sc
open Go.RowKit
theorem dg_zero (m : Nat) : dg m 0 = zz m := by
  refine List.ext_getElem (by rw [dg_len, zz_len]) fun i h1 h2 => ?_
  simp [dg, zz, byt]
theorem bit_byte (N q : Nat) : N / 2 ^ q % 2 = N / 256 ^ (q / 8) % 256 / 2 ^ (q % 8) % 2 := by
  have h1 : (256 : Nat) = 2 ^ (q % 8) * (2 * 2 ^ (7 - q % 8)) := by
    rw [← Nat.pow_succ', ← Nat.pow_add, show q % 8 + (7 - q % 8).succ = 8 by omega]
  have h2 : (256 : Nat) ^ (q / 8) * 2 ^ (q % 8) = 2 ^ q := by
    rw [show (256 : Nat) = 2 ^ 8 from rfl, ← Nat.pow_mul, ← Nat.pow_add]
    congr 1; omega
  rw [← h2, ← Nat.div_div_eq_div_mul]
  generalize N / 256 ^ (q / 8) = y
  conv => rhs; rw [h1, Nat.mod_mul_right_div_self, Nat.mod_mul_right_mod]
theorem and_255 (x : Int) (h1 : -512 ≤ x) (h2 : x < 1024) : bits .and .i64 x 255 = x % 256 := by
  have : ∀ n : Fin 1536, bits .and .i64 ((n.1 : Int) - 512) 255 = ((n.1 : Int) - 512) % 256 := by decide +kernel
  have h := this ⟨(x + 512).toNat, by omega⟩
  simp only at h
  rwa [show (((x + 512).toNat : Nat) : Int) - 512 = x by omega] at h
theorem and_bit (y s : Nat) (hy : y < 256) : bits .and .i64 (wrap64 ((y : Int) / 2 ^ s)) 1 = ((y / 2 ^ s % 2 : Nat) : Int) := by
  have h1 : ((y : Int) / 2 ^ s) = ((y / 2 ^ s : Nat) : Int) := by simp
  have h2 : y / 2 ^ s < 256 := Nat.lt_of_le_of_lt (Nat.div_le_self _ _) hy
  rw [h1]
  generalize y / 2 ^ s = z at *
  have : ∀ n : Fin 256, bits .and .i64 (wrap64 ((n.1 : Nat) : Int)) 1 = ((n.1 % 2 : Nat) : Int) := by decide +kernel
  exact this ⟨z, h2⟩
theorem mx_succ (f : Nat → Nat) (l : List Nat) (k : Nat) : mx f l (k + 1) = (mx f l k).set k (f k) := rfl
theorem mx_zero (f : Nat → Nat) (l : List Nat) : mx f l 0 = l := rfl
theorem dbl_lt {v c l : Nat} (h : v < l) (hc : c ≤ 1) : 2 * v + c < 2 * l := by omega
theorem ll_half : 2 * ll < 256 ^ 33 := by decide
set_option maxRecDepth 100000 in
set_option maxHeartbeats 4000000 in
theorem reduce_ref (v : Value) (bs : List Nat) (w : World) (h : BsAt w v bs) (hl : bs.length ≤ 64) : Calls Tryz.prog 22 #[v] w (Bret w (bys (bval bs % ll) 32)) := by
  obtain ⟨BV, HBV⟩ : ∃ l, Hid (bys (bval bs % ll) 32 = l) := ⟨bys (bval bs % ll) 32, hide rfl⟩
  rw [HBV.out]
  have hz := zero46
  have hz2 := zero42
  have HO := hide order_ref
  have HBE := hide below_ref
  have HB0 := hide h
  obtain ⟨b, o, c, ao, rfl, hc, hm, hlim, hh⟩ := h
  have hcm : c ≤ 9223372036854775807 := by unfold maxLen at hm; omega
  obtain ⟨LR, hLR⟩ : ∃ x, ja lrow = x := ⟨_, rfl⟩
  obtain ⟨ZR, hZR⟩ : ∃ x, ja (zz 32) = x := ⟨_, rfl⟩
  obtain ⟨ZX, hZX⟩ : ∃ x, ja (zz 33) = x := ⟨_, rfl⟩
  have hs2 : LR.size = 32 := by rw [← hLR]; exact lr32
  have hs3 : ZR.size = 32 := by rw [← hZR]; exact zr32
  have ho : LR.all (·.oneCell') = true := by rw [← hLR]; exact ja_one _
  have GL : Hid (∀ k, k < 32 → LR[k]? = some (.int .i64 ((byt ll k : Nat) : Int))) := fun k hk => by rw [← hLR, ja_get _ _ (by rw [lrow_len]; exact hk), lrow, dg_get _ _ _ hk]
  rw [hLR] at HO
  rw [hZR] at hz
  rw [hZX] at hz2
  have HZX := hide hZX
  have dl : decide ((64 : Int) < (bs.length : Int)) = false := decide_eq_false (by omega)
  have HL := hide hl
  have HLIM := hide hlim
  have HH := hide hh
  clear hLR hZR hZX hm hc hlim hh
  go_enter Tryz.func22, Tryz.ntmps22
  go_wp2_with fail
  refine (HO.out _).mono ?_
  rintro e w1 ⟨rfl, b1⟩
  obtain ⟨W2, hW2⟩ : ∃ W, (w1.alloc (.cells ZR 70)).setRow w1.heap.size LR = W := ⟨_, rfl⟩
  have hrl : W2.heap[w1.heap.size]? = some (.cells LR 70 (0, 0)) := by rw [← hW2]; exact setRow_heap _ _ _ _ _ _ (heap_alloc_last _ _)
  have B2 : Hid (Below w.heap.size w W2) := by rw [← hW2]; exact Below.setRow (b1.alloc b1.size _) _ _ b1.size
  have S2 : W2.heap.size = w1.heap.size + 1 := by rw [← hW2]; simp
  have S1 : Hid (w.heap.size ≤ w1.heap.size) := b1.size
  have HRL := hide hrl
  clear b1 hrl
  go_wp2_with (refine wpList_store_row rfl 70 (.tmp 3) (.tmp 15) rfl w1.heap.size LR rfl rfl 70 ZR (heap_alloc_last _ _) (by rw [hs2]; exact size46) (by rw [hs2]; exact hs3) ho ?_; rw [hW2])
  clear hW2 hz hz2 hs3 ho HO
  have hrx : (W2.alloc (.cells ZX 72)).heap[w1.heap.size + 1]? = some (.cells (ja (dg 33 (bval bs / 2 ^ (8 * bs.length) % ll))) 72 (0, 0)) := by
    have hN := bval_all HLIM.out
    rw [show (256 : Nat) = 2 ^ 8 from rfl, ← Nat.pow_mul] at hN
    rw [Nat.div_eq_of_lt hN, Nat.zero_mod, dg_zero, HZX.out, ← S2]
    exact heap_alloc_last _ _
  have hrl2 : (W2.alloc (.cells ZX 72)).heap[w1.heap.size]? = some (.cells LR 70 (0, 0)) := by
    rw [Below.heap_alloc _ _ _ (by omega)]; exact HRL.out
  have hst : ((8 * (bs.length : Int)) - 1) = (((8 * bs.length : Nat) : Int) - 1) := by omega
  go_loopw [5] (fun i wr => ∃ j : Nat, j ≤ 8 * bs.length ∧ i = .int .i64 ((j : Int) - 1) ∧ wr.heap[w1.heap.size + 1]? = some (.cells (ja (dg 33 (bval bs / 2 ^ j % ll))) 72 (0, 0)) ∧ wr.heap[w1.heap.size]? = some (.cells LR 70 (0, 0)) ∧ Below w.heap.size w wr) (fun i _ => (intOf i + 1).toNat)
  case atStart => exact ⟨8 * bs.length, Nat.le_refl _, by rw [← hst], hrx, hrl2, B2.out.alloc B2.out.size _⟩
  case round =>
    obtain ⟨j, hj, rfl, hrx, hrl, hB⟩ := hrel
    clear hst hrl2 HRL B2 S2
    by_cases hj0 : j = 0
    · subst hj0
      rw [Nat.pow_zero, Nat.div_one] at hrx
      obtain ⟨V, hV⟩ : ∃ n, bval bs % ll = n := ⟨_, rfl⟩
      rw [hV] at hrx
      have HVV := hide hV
      have hmk := make32
      have hz0 : ba (bys V 0) = ba (List.replicate 32 0) := rfl
      generalize ba (List.replicate 32 0) = ZB at *
      have HZ := hide hz0
      have HRX := hide hrx
      have HBX := hide hB
      have HSZ : Hid (w1.heap.size + 1 < wr.heap.size) := (Array.getElem?_eq_some_iff.1 hrx).1
      clear hz0 hrx hrl hB hV hj
      go_wp2_with fail
      clear hmk
      obtain ⟨n5, hn5⟩ : ∃ n, wr.heap.size = n := ⟨_, rfl⟩
      rw [hn5]
      go_loopw [79] (fun i wx => ∃ k : Nat, k ≤ 32 ∧ i = .int .i64 (k : Int) ∧ wx.heap[n5]? = some (.cells (ba (bys V k)) 5 (0, 0)) ∧ wx.heap[w1.heap.size + 1]? = some (.cells (ja (dg 33 V)) 72 (0, 0)) ∧ n5 < wx.heap.size ∧ Below w.heap.size w wx) (fun i _ => 32 - (intOf i).toNat)
      case atStart =>
        refine ⟨0, by omega, rfl, ?_, ?_, ?_, HBX.out.alloc HBX.out.size _⟩
        · rw [HZ.out, ← hn5]; exact heap_alloc_last _ _
        · rw [Below.heap_alloc _ _ _ HSZ.out]; exact HRX.out
        · rw [← hn5]; simp
      case round =>
        obtain ⟨k, hk, rfl, hro, hrx, hsz, hB⟩ := hrel
        have hsz2 := HSZ.out
        rw [hn5] at hsz2
        clear HZ HRX HBX HSZ hn5
        by_cases hlt : k < 32
        · have hc1 := cell_of_row _ _ k _ _ _ hrx
          rw [ja_get _ _ (by rw [dg_len]; omega), dg_get _ _ _ (by omega)] at hc1
          have hc2 := cell_of_row _ _ k _ _ _ hro
          rw [ba_get _ _ (by rw [bys_len]; exact hlt)] at hc2
          have hfro : wr.frozen? ⟨n5, k, none⟩ = false := frozen_of_row _ _ _ _ _ hro
          have h4 := byt_lt V k
          obtain ⟨xk, hxk⟩ : ∃ n, byt V k = n := ⟨_, rfl⟩
          rw [hxk] at hc1 h4
          have HQ := hide hxk
          have HRO := hide hro
          have HRX := hide hrx
          have HBX := hide hB
          generalize (bys V k).getD k 0 = z at *
          have b1 : (0 : Int) ≤ (k : Int) := by omega
          have b2 : (k : Int) < 32 := by omega
          have b6 : (xk : Int) < 256 := by omega
          have HNE : Hid (w1.heap.size + 1 < n5) := hsz2
          clear hro hrx hB hxk
          go_wp2
          refine ⟨⟨k + 1, by omega, by go_num, ?_, ?_, ?_, ?_⟩, by simp [intOf]; omega⟩
          · rw [heap_setCell_same _ _ _ _ _ _ HRO.out, ba_set, bys, HQ.out]
          · rw [heap_setCell_other _ _ _ _ (by have := HNE.out; simp; omega)]; exact HRX.out
          · simpa using hsz
          · exact HBX.out.setCell (by have := S1.out; have := HNE.out; simp; omega) _
        · have hk32 : k = 32 := by omega
          rw [hk32] at hro
          have hnlt : decide ((k : Int) < 32) = false := decide_eq_false (by omega)
          have HRO := hide (bytesAt (c := 32) hro hsz (bys_lim V) (by rw [bys_len]; exact Nat.le_refl _) (by unfold maxLen; omega))
          rw [bys_len, ← HVV.out, HBV.out] at HRO
          have HBX := hide hB
          clear hro hrx hB hk32 hlt hk
          go_wp2
          go_ret
          exact ⟨_, rfl, HRO.out, HBX.out⟩
    · obtain ⟨q, rfl⟩ : ∃ q, j = q + 1 := ⟨j - 1, by omega⟩
      have hq8 : q / 8 < bs.length := by omega
      have hby := bval_byte bs (q / 8) HLIM.out
      have hb1 : bs.getD (q / 8) 0 < 256 := HLIM.out _
      obtain ⟨rfl, hb, hcell⟩ := HH.out (fun e => by subst e; simp at hq8)
      have hcb : wr.cell? ⟨b, o + q / 8, none⟩ = some (.int .u8 ((bs.getD (q / 8) 0 : Nat) : Int)) := (Below.cell (p := ⟨b, o + q / 8, none⟩) hB hb).trans (hcell _ hq8)
      have hbit := bit_byte (bval bs) q
      rw [hby] at hbit
      obtain ⟨y, hy⟩ : ∃ y, bs.getD (q / 8) 0 = y := ⟨_, rfl⟩
      rw [hy] at hcb hbit hb1
      have hq : (((q + 1 : Nat) : Int) - 1) = (q : Int) := by omega
      rw [hq]
      have b0 : (0 : Int) ≤ (q : Int) := by omega
      have b1 : (q : Int) < 512 := by have := HL.out; omega
      have b2 : (q : Int) / 8 < (bs.length : Int) := by omega
      have b3 : (0 : Int) ≤ (q : Int) / 8 := by omega
      have b4 : (0 : Int) ≤ (q : Int) % 8 := by omega
      have HX := hide hrx
      have HR := hide hrl
      have hcc := and_bit y (q % 8) hb1
      obtain ⟨cb, hcb1⟩ : ∃ n, y / 2 ^ (q % 8) % 2 = n := ⟨_, rfl⟩
      rw [hcb1] at hcc hbit
      have hcb2 : cb ≤ 1 := by rw [← hcb1]; exact Nat.le_of_lt_succ (Nat.mod_lt _ (by decide))
      obtain ⟨V, hV⟩ : ∃ n, bval bs / 2 ^ (q + 1) % ll = n := ⟨_, rfl⟩
      rw [hV] at HX
      have hVl : V < ll := by rw [← hV]; exact ll_mod _
      obtain ⟨Y, hY⟩ : ∃ n, 2 * V + cb = n := ⟨_, rfl⟩
      have hY33 : Y < 256 ^ 33 := by rw [← hY]; exact Nat.lt_trans (dbl_lt hVl hcb2) ll_half
      have hnext : (if Y < ll then Y else Y - ll) = bval bs / 2 ^ q % ll := by
        rw [← hY, ← hV, mod_bit hcb2, half (bval bs) q, hbit]
      have HN := hide (And.intro hnext (And.intro hY (And.intro hVl hY33)))
      have HBB := hide hB
      have HJ := hide hj
      have HSZ : Hid (w1.heap.size + 1 < wr.heap.size) := (Array.getElem?_eq_some_iff.1 HX.out).1
      clear hby hcell hrx hrl hy hj0 hq hcb1 hbit hV hVl hY hY33 hnext hb1 hB hj
      go_wp2_with fail
      clear hcc hcb b1 b2 b3 b4
      go_loopw [35, 6] (fun i cv wx => ∃ k : Nat, k ≤ 33 ∧ i = .int .i64 (k : Int) ∧ cv = .int .i64 ((dc V cb k : Nat) : Int) ∧ wx.heap[w1.heap.size + 1]? = some (.cells (ja (mx (byt Y) (dg 33 V) k)) 72 (0, 0)) ∧ wx.heap[w1.heap.size]? = some (.cells LR 70 (0, 0)) ∧ Below w.heap.size w wx) (fun i _ _ => 33 - (intOf i).toNat)
      case atStart => exact ⟨0, by omega, rfl, by rw [dc_zero], by rw [mx_zero]; exact HX.out, HR.out, HBB.out⟩
      case round =>
        obtain ⟨k, hk, rfl, rfl, hrx, hrl, hB⟩ := hrel
        clear HX HR HBB HSZ
        by_cases hlt : k < 33
        · have hlen : (mx (byt Y) (dg 33 V) k).length = 33 := by rw [mx_len, dg_len]
          have hc1 := cell_of_row _ _ k _ _ _ hrx
          rw [ja_get _ _ (by omega), mx_get _ _ _ _ (by rw [dg_len]; omega), if_neg (by omega), dg_get _ _ _ hlt] at hc1
          have hfro : wr.frozen? ⟨w1.heap.size + 1, k, none⟩ = false := frozen_of_row _ _ _ _ _ hrx
          have h1 := dc_step V cb k
          have h2 := dc_byte V cb k
          rw [HN.out.2.1] at h2
          have h3 := dc_lt V cb k hcb2
          have h4 := byt_lt V k
          obtain ⟨xk, hxk⟩ : ∃ n, byt V k = n := ⟨_, rfl⟩
          obtain ⟨ck, hck⟩ : ∃ n, dc V cb k = n := ⟨_, rfl⟩
          obtain ⟨yk, hyk⟩ : ∃ n, byt Y k = n := ⟨_, rfl⟩
          obtain ⟨cn, hcn⟩ : ∃ n, dc V cb (k + 1) = n := ⟨_, rfl⟩
          rw [hxk] at hc1 h1 h2 h4
          rw [hck] at h1 h2 h3 ⊢
          rw [hyk] at h2
          rw [hcn] at h1
          have e1 : bits BinOp.and IntKind.i64 ((ck : Int) + 2 * (xk : Int)) 255 = (yk : Int) := by rw [and_255 _ (by omega) (by omega)]; omega
          have e2 : ((ck : Int) + 2 * (xk : Int)) / 256 = (cn : Int) := by omega
          have HQ := hide (And.intro hyk hcn)
          have HRX := hide hrx
          have HRL := hide hrl
          have HBX := hide hB
          have b1 : (0 : Int) ≤ (k : Int) := by omega
          have b2 : (k : Int) < 33 := by omega
          have b5 : (ck : Int) ≤ 1 := by omega
          have b6 : (xk : Int) < 256 := by omega
          clear h1 h2 h3 h4 hxk hck hyk hcn hrx hrl hB hlen
          go_wp2
          refine ⟨⟨k + 1, by omega, by go_num, by rw [HQ.out.2], ?_, ?_, ?_⟩, by simp [intOf]; omega⟩
          · rw [heap_setCell_same _ _ _ _ _ _ HRX.out, ja_set, mx_succ, HQ.out.1]
          · rw [heap_setCell_other _ _ _ _ (by simp)]; exact HRL.out
          · exact HBX.out.setCell (by have := S1.out; simp; omega) _
        · have hk33 : k = 33 := by omega
          rw [hk33, mx_dg 33 V Y] at hrx
          have HB3 := hide (below_ref Y HN.out.2.2.2)
          have hR33 : (ja (dg 33 Y)).size = 33 := by rw [ja_size, dg_len]
          obtain ⟨R, hR⟩ : ∃ R, ja (dg 33 Y) = R := ⟨_, rfl⟩
          rw [hR] at HB3 hrx hR33
          have HRR := hide hR
          have HRL := hide hrl
          have HBX := hide hB
          have hnlt : decide ((k : Int) < 33) = false := decide_eq_false (by omega)
          have d33 : ((dc V cb k : Nat) : Int) = ((dc V cb 33 : Nat) : Int) := by rw [hk33]
          rw [d33]
          generalize dc V cb 33 = c33 at *
          obtain ⟨dd, hdd⟩ : ∃ d, decide (Y < ll) = d := ⟨_, rfl⟩
          rw [hdd] at HB3
          have HDD := hide hdd
          clear hk hlt hk33 d33 hR hrl hB hdd
          go_wp2_with (first | (refine wpList_load_row rfl 72 (.tmp 4) rfl (w1.heap.size + 1) rfl 72 R (0,0) (.array 33 2) hrx und42 rfl (by rw [hR33]; exact size42) ?_) | fail)
          refine (HB3.out _).mono ?_
          rintro e w4 ⟨rfl, b4⟩
          have hsz1 : w1.heap.size + 1 < wr.heap.size := (Array.getElem?_eq_some_iff.1 hrx).1
          have hrx4 : w4.heap[w1.heap.size + 1]? = some (.cells R 72 (0, 0)) := (b4.block _ hsz1).trans hrx
          have hrl4 : w4.heap[w1.heap.size]? = some (.cells LR 70 (0, 0)) := (b4.block _ (by omega)).trans HRL.out
          have HB4 := hide (Below.chain HBX.out b4)
          clear b4 hrx HRL HBX HB3 hsz1
          cases dd with
          | true =>
            have hlt : Y < ll := of_decide_eq_true HDD.out
            have HX4 := hide hrx4
            have HL4 := hide hrl4
            clear hrx4 hrl4
            go_wp2
            refine ⟨⟨q, by have := HJ.out; omega, by go_num, ?_, HL4.out, HB4.out⟩, by simp [intOf]⟩
            rw [← HN.out.1, if_pos hlt, HRR.out]
            exact HX4.out
          | false =>
            have hge : ¬ Y < ll := of_decide_eq_false HDD.out
            have HGE := hide hge
            have HX4 := hide hrx4
            have HL4 := hide hrl4
            clear hrx4 hrl4 hge
            go_wp2_with fail
            go_loopw [54, 8] (fun i cv wr => ∃ k : Nat, k ≤ 33 ∧ i = .int .i64 (k : Int) ∧ cv = .int .i64 (sc Y ll k) ∧ wr.heap[w1.heap.size + 1]? = some (.cells (ja (mx (byt (Y - ll)) (dg 33 Y) k)) 72 (0, 0)) ∧ wr.heap[w1.heap.size]? = some (.cells LR 70 (0, 0)) ∧ Below w.heap.size w wr) (fun i _ _ => 33 - (intOf i).toNat)
            case atStart => exact ⟨0, by omega, rfl, by rw [sc_zero], by rw [mx_zero, HRR.out]; exact HX4.out, HL4.out, HB4.out⟩
            case round =>
              obtain ⟨k, hk, rfl, rfl, hrx, hrl, hB⟩ := hrel
              clear HX4 HL4 HB4
              by_cases hlt : k < 33
              · have hlen : (mx (byt (Y - ll)) (dg 33 Y) k).length = 33 := by rw [mx_len, dg_len]
                have hc1 := cell_of_row _ _ k _ _ _ hrx
                rw [ja_get _ _ (by omega), mx_get _ _ _ _ (by rw [dg_len]; omega), if_neg (by omega), dg_get _ _ _ hlt] at hc1
                have hfro : wr.frozen? ⟨w1.heap.size + 1, k, none⟩ = false := frozen_of_row _ _ _ _ _ hrx
                have h1 := sc_step Y ll k
                have h2 := sc_byte Y ll k (by have := HGE.out; omega)
                have h3 := sc_bound Y ll k
                have h4 := byt_lt Y k
                have h5 := byt_lt ll k
                have hl32 : k = 32 → byt ll k = 0 := fun e => by rw [e]; decide +kernel
                have hcl : k < 32 → wr.cell? ⟨w1.heap.size, k, none⟩ = some (.int .i64 ((byt ll k : Nat) : Int)) := fun e => by rw [cell_of_row _ _ k _ _ _ hrl]; exact GL.out k e
                obtain ⟨xk, hxk⟩ : ∃ n, byt Y k = n := ⟨_, rfl⟩
                obtain ⟨lk, hlk⟩ : ∃ n, byt ll k = n := ⟨_, rfl⟩
                obtain ⟨ck, hck⟩ : ∃ n, sc Y ll k = n := ⟨_, rfl⟩
                obtain ⟨yk, hyk⟩ : ∃ n, byt (Y - ll) k = n := ⟨_, rfl⟩
                obtain ⟨cn, hcn⟩ : ∃ n, sc Y ll (k + 1) = n := ⟨_, rfl⟩
                rw [hxk] at hc1 h1 h2 h4
                rw [hlk] at h1 h2 h5 hl32 hcl
                rw [hck] at h1 h2 h3 ⊢
                rw [hyk] at h2
                rw [hcn] at h1
                have HQ := hide (And.intro hyk hcn)
                have HRX := hide hrx
                have HRL := hide hrl
                have HBX := hide hB
                have b1 : (0 : Int) ≤ (k : Int) := by omega
                have b2 : (k : Int) < 33 := by omega
                have b6 : (xk : Int) < 256 := by omega
                have b7 : (lk : Int) < 256 := by omega
                have b8 := h3.1
                have b9 := h3.2
                by_cases h32 : k < 32
                · have hcl := hcl h32
                  have e1 : bits BinOp.and IntKind.i64 (ck + (xk : Int) - (lk : Int)) 255 = (yk : Int) := by rw [and_255 _ (by omega) (by omega)]; exact h2
                  have hk32 : (k : Int) < 32 := by omega
                  clear h2 h3 h4 h5 hxk hlk hck hyk hcn hrx hrl hB hlen hl32
                  go_wp2
                  refine ⟨⟨k + 1, by omega, by go_num, by rw [HQ.out.2], ?_, ?_, ?_⟩, by simp [intOf]; omega⟩
                  · rw [heap_setCell_same _ _ _ _ _ _ HRX.out, ja_set, mx_succ, HQ.out.1]
                  · rw [heap_setCell_other _ _ _ _ (by simp)]; exact HRL.out
                  · exact HBX.out.setCell (by have := S1.out; simp; omega) _
                · have hl0 := hl32 (by omega)
                  subst hl0
                  have e0 : ck + (xk : Int) - ((0 : Nat) : Int) = ck + (xk : Int) := by omega
                  rw [e0] at h1 h2
                  have e1 : bits BinOp.and IntKind.i64 (ck + (xk : Int)) 255 = (yk : Int) := by rw [and_255 _ (by omega) (by omega)]; exact h2
                  have hk32 : decide ((k : Int) < 32) = false := decide_eq_false (by omega)
                  clear h2 h3 h4 h5 hxk hlk hck hyk hcn hrx hrl hB hlen hl32 hcl e0
                  go_wp2
                  refine ⟨⟨k + 1, by omega, by go_num, by rw [HQ.out.2], ?_, ?_, ?_⟩, by simp [intOf]; omega⟩
                  · rw [heap_setCell_same _ _ _ _ _ _ HRX.out, ja_set, mx_succ, HQ.out.1]
                  · rw [heap_setCell_other _ _ _ _ (by simp)]; exact HRL.out
                  · exact HBX.out.setCell (by have := S1.out; simp; omega) _
              · have hk33 : k = 33 := by omega
                rw [hk33, mx_dg 33 Y (Y - ll)] at hrx
                have hnlt2 : decide ((k : Int) < 33) = false := decide_eq_false (by omega)
                have HRX := hide hrx
                have HRL := hide hrl
                have HBX := hide hB
                generalize sc Y ll k = sk at *
                clear hrx hrl hB hlt hk hk33
                go_wp2
                refine ⟨⟨q, by have := HJ.out; omega, by go_num, ?_, HRL.out, HBX.out⟩, by simp [intOf]⟩
                rw [← HN.out.1, if_neg HGE.out]
                exact HRX.out
end Go.Proofs.YtobgimpkkjaolaaGreatDoor.Sc
/- Whether bytes may be a number, and bytes with some bits laid, the page's own way: as its calls answer, in any world. -/
namespace Go.Proofs.YtobgimpkkjaolaaGreatDoor.Sc
open Go.RowKit
set_option maxHeartbeats 1000000 in
theorem reduce_ref_long (v : Value) (bs : List Nat) (w : World) (h : BsAt w v bs) (hlen : 64 < bs.length) :
    Calls Tryz.prog 22 #[v] w fun e w' => e = .returned (.slice none 0 0) ∧ Below w.heap.size w w' := by
  obtain ⟨ao, c, rfl, _, hc⟩ := h.len
  have hd : decide ((64 : Int) < (bs.length : Int)) = true := decide_eq_true (by omega)
  clear h hlen
  go_enter Tryz.func22, Tryz.ntmps22
  go_wp2
  go_ret
  exact ⟨rfl, Below.refl _ _⟩
theorem zz_get (k i : Nat) : (zz k).getD i 0 = 0 := by
  unfold zz
  rw [List.getD_eq_getElem?_getD, List.getElem?_replicate]
  split <;> rfl
theorem dg_bval {bs : List Nat} (hl : bs.length = 32) (h : ∀ i, bs.getD i 0 < 256) : mx (fun i => bs.getD i 0) (zz 33) 32 = dg 33 (bval bs) := by
  refine List.ext_getElem (by rw [mx_len, zz_len, dg_len]) fun i h1 h2 => ?_
  have hi : i < 33 := by rw [dg_len] at h2; exact h2
  have h3 := mx_get (fun i => bs.getD i 0) (zz 33) 32 i (by rw [zz_len]; decide)
  have h4 := dg_get 33 (bval bs) i hi
  rw [List.getD_eq_getElem?_getD, List.getElem?_eq_getElem h1] at h3
  rw [List.getD_eq_getElem?_getD, List.getElem?_eq_getElem h2] at h4
  simp only [Option.getD_some] at h3 h4
  rw [h3, h4, byt, bval_byte bs i h]
  by_cases e : i < 32
  · rw [if_pos e]
  · have h5 : bs.getD i 0 = 0 := by
      rw [List.getD_eq_getElem?_getD, List.getElem?_eq_none (by omega)]
      rfl
    rw [if_neg e, h5, zz_get]
set_option maxRecDepth 100000 in
set_option maxHeartbeats 2000000 in
theorem may_ref (v : Value) (bs : List Nat) (w : World) (h : BsAt w v bs) (hl : bs.length = 32) : Calls Tryz.prog 34 #[v] w fun e w' => e = .returned (.bool (decide (bval bs < ll))) ∧ Below w.heap.size w w' := by
  have hz2 := zero42
  have hN := bval_all h.lim
  rw [hl] at hN
  have HB3 := hide (below_ref (bval bs) (Nat.lt_trans hN (by decide)))
  have HDG := hide (dg_bval hl h.lim)
  rw [← HDG.out] at HB3
  obtain ⟨b, o, c, ao, rfl, hc, hm, hlim, hh⟩ := h
  have hcm : c ≤ 9223372036854775807 := by unfold maxLen at hm; omega
  obtain ⟨rfl, hb, hcell⟩ := hh (fun e => by subst e; simp at hl)
  obtain ⟨dd, hdd⟩ : ∃ d, decide (bval bs < ll) = d := ⟨_, rfl⟩
  rw [hdd] at HB3 ⊢
  obtain ⟨ZX, hZX⟩ : ∃ x, ja (zz 33) = x := ⟨_, rfl⟩
  rw [hZX] at hz2
  have HZX := hide hZX
  have HC := hide hcell
  have HLIM := hide hlim
  rw [hl]
  have HL := hide hl
  have hf : Hid (∃ f, f = fun i => bs.getD i 0) := ⟨_, rfl⟩
  obtain ⟨f, hf⟩ := hf.out
  rw [← hf] at HB3
  have HF := hide hf
  clear hZX hm hc hlim hh hcell hdd hl hN HDG hf
  go_enter Tryz.func34, Tryz.ntmps34
  go_wp2_with fail
  clear hz2
  go_loopw [11] (fun i wr => ∃ k : Nat, k ≤ 32 ∧ i = .int .i64 (k : Int) ∧ wr.heap[w.heap.size]? = some (.cells (ja (mx f (zz 33) k)) 72 (0, 0)) ∧ Below w.heap.size w wr) (fun i _ => 32 - (intOf i).toNat)
  case atStart => exact ⟨0, by omega, rfl, by rw [mx_zero, HZX.out]; exact heap_alloc_last _ _, (Below.refl _ _).alloc (Nat.le_refl _) _⟩
  case round =>
    obtain ⟨k, hk, rfl, hrx, hB⟩ := hrel
    by_cases hlt : k < 32
    · have hcb : wr.cell? ⟨b, o + k, none⟩ = some (.int .u8 ((bs.getD k 0 : Nat) : Int)) := (Below.cell (p := ⟨b, o + k, none⟩) hB hb).trans (HC.out k (by rw [HL.out]; exact hlt))
      have hc2 := cell_of_row _ _ k _ _ _ hrx
      rw [ja_get _ _ (by rw [mx_len, zz_len]; omega)] at hc2
      have hfro : wr.frozen? ⟨w.heap.size, k, none⟩ = false := frozen_of_row _ _ _ _ _ hrx
      have h4 := HLIM.out k
      obtain ⟨xk, hxk⟩ : ∃ n, bs.getD k 0 = n := ⟨_, rfl⟩
      rw [hxk] at hcb h4
      have hfk : Hid (f k = xk) := by rw [HF.out]; exact hxk
      have HRX := hide hrx
      have HBX := hide hB
      generalize (mx f (zz 33) k).getD k 0 = z at *
      have b1 : (0 : Int) ≤ (k : Int) := by omega
      have b2 : (k : Int) < 32 := by omega
      have b6 : (xk : Int) < 256 := by omega
      clear hrx hB hxk
      go_wp2
      refine ⟨⟨k + 1, by omega, by go_num, ?_, ?_⟩, by simp [intOf]; omega⟩
      · rw [heap_setCell_same _ _ _ _ _ _ HRX.out, ja_set, mx_succ, hfk.out]
      · exact HBX.out.setCell (by simp) _
    · have hk32 : k = 32 := by omega
      rw [hk32] at hrx
      have hR33 : (ja (mx f (zz 33) 32)).size = 33 := by rw [ja_size, mx_len, zz_len]
      obtain ⟨R, hR⟩ : ∃ R, ja (mx f (zz 33) 32) = R := ⟨_, rfl⟩
      rw [hR] at HB3 hrx hR33
      have HBX := hide hB
      have hnlt : decide ((k : Int) < 32) = false := decide_eq_false (by omega)
      clear hk hlt hk32 hR hB
      go_wp2_with (first | (refine wpList_load_row rfl 72 (.tmp 3) rfl w.heap.size rfl 72 R (0,0) (.array 33 2) hrx und42 rfl (by rw [hR33]; exact size42) ?_) | fail)
      refine (HB3.out _).mono ?_
      rintro e w4 ⟨rfl, b4⟩
      have HB4 := hide (Below.chain HBX.out b4)
      clear b4
      go_wp2
      go_ret
      exact ⟨rfl, HB4.out⟩
set_option maxHeartbeats 1000000 in
theorem may_ref_other (v : Value) (bs : List Nat) (w : World) (h : BsAt w v bs) (hlen : bs.length ≠ 32) :
    Calls Tryz.prog 34 #[v] w fun e w' => e = .returned (.bool false) ∧ Below w.heap.size w w' := by
  obtain ⟨ao, c, rfl, _, hc⟩ := h.len
  have hne : ((bs.length : Int) == 32) = false := by rw [beq_eq_false_iff_ne]; omega
  clear h hlen
  go_enter Tryz.func34, Tryz.ntmps34
  go_wp2
  go_ret
  exact ⟨rfl, Below.refl _ _⟩
end Go.Proofs.YtobgimpkkjaolaaGreatDoor.Sc
/- A product and a number modulo the order, the page's own way: as its call answers, in any world. -/
namespace Go.Proofs.YtobgimpkkjaolaaGreatDoor.Sc
open Go.RowKit
end Go.Proofs.YtobgimpkkjaolaaGreatDoor.Sc
/- What the page's own calls for scalars answer, whatever the lengths. -/
namespace Go.Proofs.YtobgimpkkjaolaaGreatDoor.Sc
open Go.RowKit
section
variable {u v t : Value} {a b c : List Nat} {w : World}
theorem f_red' (h : BsAt w u a) : Hands Tryz.prog 22 #[u] w (isb (redb a)) := by
  unfold redb
  split
  · rename_i hl; exact hands_ret (reduce_ref u a w h hl)
  · rename_i hl; exact hands_nil (reduce_ref_long u a w h (by omega))
theorem f_may' (h : BsAt w u a) : Hands Tryz.prog 34 #[u] w (isv (.bool (mayb a))) := by
  by_cases hl : a.length = 32
  · exact (may_ref u a w h hl).mono fun e w' ⟨he, hb⟩ => ⟨_, he, hb, by unfold mayb; simp only [hl, true_and]; rfl⟩
  · exact (may_ref_other u a w h hl).mono fun e w' ⟨he, hb⟩ => ⟨_, he, hb, by unfold mayb; simp only [hl, false_and, decide_false]; rfl⟩
end
end Go.Proofs.YtobgimpkkjaolaaGreatDoor.Sc
