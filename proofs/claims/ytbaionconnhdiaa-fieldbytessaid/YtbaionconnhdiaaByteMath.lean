/- Bytes of numbers below p, and the bytes of p itself: plain arithmetic, and what lies in memory. -/
import Derived.Test.YtbaionconnhdiaaOpen
namespace Go.Proofs.Ytbaionconnhdiaa
open Go.RowKit
theorem top_byte (x : Nat) (hx : x < pp) : byt x 31 ≤ 127 := by
  unfold byt
  have h : x / 256 ^ 31 < 128 := by
    rw [Nat.div_lt_iff_lt_mul (Nat.pow_pos (by decide))]
    exact Nat.lt_of_lt_of_le hx (by decide +kernel)
  omega
theorem bval_bys (x : Nat) : ∀ k, k ≤ 32 → bval ((bys x 32).take k) = x % 256 ^ k
  | 0, _ => by simp [bval, Nat.mod_one]
  | k + 1, h => by
    rw [bval_take _ _ (by rw [bys_len]; omega), bval_bys x k (by omega), bys_get _ _ _ (Nat.le_refl _), if_pos (by omega), Nat.mod_pow_succ]
    rfl
theorem byt_lt (x i : Nat) : byt x i < 256 := Nat.mod_lt _ (by decide)
theorem bys_at {W : World} {g x : Nat} (hg : g < W.heap.size) (hr : W.heap[g]? = some (.cells (ba (bys x 32)) 5 (0, 0))) : BsAt W (.slice (some ⟨g, 0, none⟩) 32 32) (bys x 32) := by
  refine ⟨g, 0, 32, some ⟨g, 0, none⟩, by rw [bys_len], by rw [bys_len]; decide, by decide, fun i => ?_, fun _ => ⟨rfl, hg, fun i hi => ?_⟩⟩
  · rw [bys_get _ _ _ (Nat.le_refl _)]
    split
    · exact byt_lt x i
    · decide
  · rw [bys_len] at hi
    rw [Nat.zero_add, bys_cell hr i hi, bys_get _ _ _ (Nat.le_refl _), if_pos hi]
theorem from_bys {W : World} {g x : Nat} (hx : x < pp) (hg : g < W.heap.size) (hr : W.heap[g]? = some (.cells (ba (bys x 32)) 5 (0, 0))) :
    Calls Try.prog 7 #[.slice (some ⟨g, 0, none⟩) 32 32] W fun e w' => e = .returned (.agg (el x)) ∧ Below W.heap.size W w' := by
  have h := from_any _ (bys x 32) (by rw [bys_len]; decide) W (bys_at hg hr)
  rwa [bval_bys x 32 (Nat.le_refl _), Nat.mod_eq_of_lt (Nat.lt_of_lt_of_le hx (by decide +kernel)), Nat.mod_eq_of_lt hx] at h
theorem At.gby {w W : World} {rows : List (Nat × Array Value × TypeId)} (h : At w W rows) {g x y : Nat} (hm : (g, ba (bys x 32), 5) ∈ rows) (i : Nat) (hi : i < 32) (hy : byt x i = y) : ∀ w' : World, W.grownBy w' none → w'.cell? ⟨g, i, none⟩ = some (.int .u8 (y : Int)) :=
  fun _ hg => by
    have hr := ((h.step (Ext.of hg)).rows g (ba (bys x 32)) 5 hm).1
    rw [bys_cell hr i hi, hy]
theorem At.gby0 {w W : World} {rows : List (Nat × Array Value × TypeId)} (h : At w W rows) {g x y : Nat} (hm : (g, ba (bys x 32), 5) ∈ rows) (i : Nat) (hi : i < 32) (hy : byt x i = y) : W.cell? ⟨g, i, none⟩ = some (.int .u8 (y : Int)) := by
  rw [bys_cell (h.rows g (ba (bys x 32)) 5 hm).1 i hi, hy]
theorem At.setCell {w W : World} {rows : List (Nat × Array Value × TypeId)} (h : At w W rows) {g : Nat} (hg : w.heap.size ≤ g) (hne : ∀ p A T, (p, A, T) ∈ rows → p ≠ g) (i : Nat) (v : Value) : At w (W.setCell ⟨g, i, none⟩ v) rows :=
  ⟨fun p A T hm => ⟨(heap_setCell_other _ _ _ _ (by simpa using hne p A T hm)).trans (h.rows p A T hm).1, by simpa using (h.rows p A T hm).2⟩, h.below.setCell hg _⟩
/-- The bytes filled so far. -/
def fil : Nat → List Nat
  | 0 => List.replicate 32 0
  | k + 1 => (fil k).set k 255
theorem fil_len : ∀ k, (fil k).length = 32
  | 0 => by simp [fil]
  | k + 1 => by simp [fil, fil_len k]
/-- The bytes of p, and of one more. -/
def pbs : List Nat := [237, 255, 255, 255, 255, 255, 255, 255, 255, 255, 255, 255, 255, 255, 255, 255, 255, 255, 255, 255, 255, 255, 255, 255, 255, 255, 255, 255, 255, 255, 255, 127]
def qbs : List Nat := [238, 255, 255, 255, 255, 255, 255, 255, 255, 255, 255, 255, 255, 255, 255, 255, 255, 255, 255, 255, 255, 255, 255, 255, 255, 255, 255, 255, 255, 255, 255, 127]
theorem fil_pbs : ((fil 32).set 0 237).set 31 127 = pbs := by decide +kernel
theorem pbs_val : bval (pbs.take 32) % pp = 0 := by decide +kernel
theorem qbs_val : bval (qbs.take 32) % pp = 1 := by decide +kernel
theorem pbs_lt : ∀ i, pbs.getD i 0 < 256 := fun i => by
  by_cases h : i < 32
  · have : ∀ j : Fin 32, pbs.getD j.val 0 < 256 := by decide +kernel
    exact this ⟨i, h⟩
  · rw [List.getD_eq_getElem?_getD, List.getElem?_eq_none (by simp [pbs]; omega)]; decide
theorem qbs_lt : ∀ i, qbs.getD i 0 < 256 := fun i => by
  by_cases h : i < 32
  · have : ∀ j : Fin 32, qbs.getD j.val 0 < 256 := by decide +kernel
    exact this ⟨i, h⟩
  · rw [List.getD_eq_getElem?_getD, List.getElem?_eq_none (by simp [qbs]; omega)]; decide
theorem from_pbs {W : World} {g : Nat} (hg : g < W.heap.size) (hr : W.heap[g]? = some (.cells (ba pbs) 5 (0, 0))) :
    Calls Try.prog 7 #[.slice (some ⟨g, 0, none⟩) 32 32] W fun e w' => e = .returned (.agg (el 0)) ∧ Below W.heap.size W w' := by
  have h := from_any (.slice (some ⟨g, 0, none⟩) 32 32) pbs (by decide) W ⟨g, 0, 32, some ⟨g, 0, none⟩, rfl, by decide, by decide, pbs_lt, fun _ => ⟨rfl, hg, fun i hi => by rw [Nat.zero_add, cell_of_row _ _ _ _ _ _ hr, ba_get _ _ hi]⟩⟩
  rwa [pbs_val] at h
/-- A slice that holds the bytes of p and one more. -/
def QAt (W : World) (g cap : Nat) : Prop := g < W.heap.size ∧ 32 ≤ cap ∧ cap ≤ maxLen ∧ ∀ i, i < 32 → W.cell? ⟨g, i, none⟩ = some (.int .u8 ((qbs.getD i 0 : Nat) : Int))
theorem QAt.step {W W' : World} {g cap : Nat} (h : QAt W g cap) (k : Below W.heap.size W W') : QAt W' g cap :=
  ⟨Nat.lt_of_lt_of_le h.1 k.size, h.2.1, h.2.2.1, fun i hi => (Below.cell (p := ⟨g, i, none⟩) k h.1).trans (h.2.2.2 i hi)⟩
theorem QAt.drew {W : World} {g cap : Nat} (h : QAt W g cap) : QAt W.drew g cap := h
theorem from_qbs {W : World} {g cap : Nat} (h : QAt W g cap) :
    Calls Try.prog 7 #[.slice (some ⟨g, 0, none⟩) 32 cap] W fun e w' => e = .returned (.agg (el 1)) ∧ Below W.heap.size W w' := by
  have h := from_any (.slice (some ⟨g, 0, none⟩) 32 cap) qbs (by decide) W ⟨g, 0, cap, some ⟨g, 0, none⟩, rfl, h.2.1, h.2.2.1, qbs_lt, fun _ => ⟨rfl, h.1, fun i hi => by rw [Nat.zero_add]; exact h.2.2.2 i hi⟩⟩
  rwa [qbs_val] at h
/-- Are the bytes from the first to the last as p's are? -/
def big (x : Nat) : Nat → Bool
  | 0 => decide (byt x 31 = 127)
  | k + 1 => big x k && decide (byt x (k + 1) = 255)
theorem big_low (x : Nat) (hx : x < pp) (h : big x 30 = true) : byt x 0 < 237 := by
  have key : ∀ k, big x k = true → byt x 31 = 127 ∧ ∀ i, 1 ≤ i → i ≤ k → byt x i = 255 := by
    intro k
    induction k with
    | zero => intro h; exact ⟨by simpa [big] using h, fun i h1 h2 => by omega⟩
    | succ k ih =>
      intro h
      simp only [big, Bool.and_eq_true, decide_eq_true_eq] at h
      obtain ⟨h1, h2⟩ := ih h.1
      refine ⟨h1, fun i h3 h4 => ?_⟩
      by_cases e : i = k + 1
      · rw [e]; exact h.2
      · exact h2 i h3 (by omega)
  obtain ⟨h31, hmid⟩ := key 30 h
  have hv : bval ((bys x 32).take 32) = x := by
    rw [bval_bys x 32 (Nat.le_refl _), Nat.mod_eq_of_lt (Nat.lt_of_lt_of_le hx (by decide +kernel))]
  have hstep : ∀ k, k ≤ 30 → bval ((bys x 32).take (k + 1)) + 256 = byt x 0 + 256 ^ (k + 1) := by
    intro k
    induction k with
    | zero =>
      intro _
      rw [bval_take _ _ (by rw [bys_len]; decide), bys_get _ _ _ (Nat.le_refl _), if_pos (by decide)]
      simp [bval]
    | succ k ih =>
      intro hk
      rw [bval_take _ _ (by rw [bys_len]; omega), bys_get _ _ _ (Nat.le_refl _), if_pos (by omega), hmid (k + 1) (by omega) hk]
      have h1 := ih (by omega)
      rw [Nat.pow_succ 256 (k + 1)]
      omega
  have h30 := hstep 30 (Nat.le_refl _)
  rw [bval_take _ 31 (by rw [bys_len]; decide), bys_get _ _ _ (Nat.le_refl _), if_pos (by decide), h31] at hv
  simp only [show (256 : Nat) ^ 31 = 452312848583266388373324160190187140051835877600158453279131187530910662656 from by decide +kernel, show 30 + 1 = 31 from rfl] at hv h30
  unfold pp at hx
  omega
theorem zero_el : (#[.int .u64 0, .int .u64 0, .int .u64 0, .int .u64 0] : Array Value) = el 0 := rfl
theorem info5 : (Try.prog.info? 5).map (fun i => (i.zero, i.size, i.bytes)) = some (some (.int .u8 0), 1, 1) := by kernel_rfl
theorem info_five : ∃ i, Try.prog.info? 5 = some i ∧ i.zero = some (.int .u8 0) ∧ i.size = 1 ∧ i.bytes = 1 := by
  cases h : Try.prog.info? 5 with
  | none => have := info5; rw [h] at this; cases this
  | some i =>
    have h2 := info5
    rw [h] at h2
    simp only [Option.map_some, Option.some.injEq, Prod.mk.injEq] at h2
    exact ⟨i, rfl, h2.1, h2.2.1, h2.2.2⟩
/-- The bytes that are appended. -/
def news : List Value := (pbs.drop 1).map fun (n : Nat) => Value.int .u8 (n : Int)
theorem news_cells {W : World} {g : Nat} (hr : W.heap[g]? = some (.cells (ba pbs) 5 (0, 0))) : ∀ j u, news[j]? = some u → W.cell? ((⟨g, 1, none⟩ : Addr).add j) = some u := by
  intro j u hu
  rw [Addr.add_mid, cell_of_row _ _ _ _ _ _ hr, ← hu]
  simp [news, ba, Nat.add_comm]
theorem news_one : ∀ u ∈ news, u.oneCell' = true := by
  intro u hu
  simp only [news, List.mem_map] at hu
  obtain ⟨n, _, rfl⟩ := hu
  rfl
theorem own_one (W : World) : (W.alloc (.cells #[.int .u8 238] 5)).ownsRow W.heap.size 5 1 (.slice (some ⟨W.heap.size, 0, none⟩) 1 1) 1 [.int .u8 238] :=
  ⟨rfl, .inr ⟨W.heap.size, 1, _, rfl, Nat.le_refl _, heap_alloc_last _ _, Nat.le_refl _, by decide, rfl, rfl⟩⟩
theorem QAt.of {W : World} {g cap base : Nat} (h : W.ownsRow base 5 1 (.slice (some ⟨g, 0, none⟩) (1 + 31) cap) (1 + 31) ([.int .u8 238] ++ news)) (hg : g < W.heap.size) : QAt W g cap := by
  rcases h.2 with ⟨h1, _⟩ | ⟨g', cap', cur, e, _, hr, h1, h2, _, h4⟩
  · cases h1
  · injection e with e1 e2 e3
    injection e1 with e4
    injection e4 with e5
    subst e5 e3
    refine ⟨hg, h1, h2, fun i hi => ?_⟩
    rw [cell_of_row _ _ _ _ _ _ hr]
    have h5 : (cur.toList.take 32)[i]? = ([Value.int .u8 238] ++ news)[i]? := by rw [← h4]
    rw [List.getElem?_take, if_pos hi, Array.getElem?_toList] at h5
    rw [h5]
    have h6 : ∀ j : Fin 32, ([Value.int .u8 238] ++ news)[j.val]? = some (.int .u8 ((qbs.getD j.val 0 : Nat) : Int)) := by
      intro j
      have : [Value.int .u8 238] ++ news = qbs.map fun (n : Nat) => Value.int .u8 (n : Int) := rfl
      rw [this, List.getElem?_map, List.getElem?_eq_getElem (show j.val < qbs.length from j.isLt), List.getD_eq_getElem?_getD, List.getElem?_eq_getElem (show j.val < qbs.length from j.isLt)]
      rfl
    exact h6 ⟨i, hi⟩
theorem grown_below {W w' : World} {o : Obj} (h : (W.alloc o).grownBy w' (some W.heap.size)) : Below W.heap.size W w' :=
  ⟨h.os, h.tape, h.output, by have := h.size; simp at this; omega, fun k hk => (h.block k (by simp; omega) (by simp; omega)).trans (Below.heap_alloc _ _ _ hk)⟩
end Go.Proofs.Ytbaionconnhdiaa
