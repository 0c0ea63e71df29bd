/- A hash in memory; what New makes and what foldPiece leaves, where the two tables lie as the text lays them. -/
import Derived.Test.YtjkcjlhcfkapkaaDoorPadding
import Derived.Test.YtjkcjlhcfkapkaaDoorSink
namespace Go.Proofs.YtjkcjlhcfkapkaaDoor
open Go.RowKit
/-- A hash in memory: eight words, a piece of 128 bytes, the length. -/
def hashCells (st : List (BitVec 64)) (piece : List UInt8) (L : BitVec 64) : List Value := st.map wc ++ (piece.map bc ++ [wc L])
structure HashAt (w : World) (g : Nat) (st : List (BitVec 64)) (piece : List UInt8) (L : BitVec 64) : Prop where
  row : w.heap[g]? = some (.cells (hashCells st piece L).toArray 42 (0, 0))
  st8 : st.length = 8
  p128 : piece.length = 128
def z128 : List UInt8 := List.replicate 128 0
theorem HashAt.cell {w : World} {g : Nat} {st : List (BitVec 64)} {piece : List UInt8} {L : BitVec 64} (h : HashAt w g st piece L) (i : Nat) : w.cell? ⟨g, i, none⟩ = (hashCells st piece L)[i]? := by
  rw [cell_of_row _ _ _ _ _ _ h.row]; simp
theorem HashAt.len {w : World} {g : Nat} {st : List (BitVec 64)} {piece : List UInt8} {L : BitVec 64} (h : HashAt w g st piece L) : w.cell? ⟨g, 136, none⟩ = some (.int .u64 (wn L)) := by
  rw [h.cell, hashCells, List.getElem?_append_right (by simp [h.st8]), List.getElem?_append_right (by simp [h.st8, h.p128])]
  simp [h.st8, h.p128, wc]
theorem HashAt.stR {w : World} {g : Nat} {st : List (BitVec 64)} {piece : List UInt8} {L : BitVec 64} (h : HashAt w g st piece L) : w.rangeAt g 0 (st.map wc) := fun j v hv => by
  rw [Nat.zero_add, h.cell, hashCells, List.getElem?_append_left (by simpa using (List.getElem?_eq_some_iff.1 hv).1), hv]
theorem HashAt.pR {w : World} {g : Nat} {st : List (BitVec 64)} {piece : List UInt8} {L : BitVec 64} (h : HashAt w g st piece L) : w.rangeAt g 8 (piece.map bc) := fun j v hv => by
  rw [h.cell, hashCells, List.getElem?_append_right (by simp [h.st8]), List.getElem?_append_left (by have := (List.getElem?_eq_some_iff.1 hv).1; simp [h.st8] at this ⊢; omega)]
  simp only [List.length_map, h.st8, Nat.add_sub_cancel_left]; exact hv
theorem HashAt.fro {w : World} {g : Nat} {st : List (BitVec 64)} {piece : List UInt8} {L : BitVec 64} (h : HashAt w g st piece L) (i : Nat) : w.frozen? ⟨g, i, none⟩ = false := frozen_of_row _ _ _ _ _ h.row
theorem HashAt.there {w : World} {g : Nat} {st : List (BitVec 64)} {piece : List UInt8} {L : BitVec 64} (h : HashAt w g st piece L) (o n : Nat) (hn : o + n ≤ 137) : w.there g o n := fun j hj => by
  refine ⟨?_, h.fro _⟩
  rw [h.cell, List.getElem?_eq_getElem (by simp [hashCells, h.st8, h.p128]; omega)]; rfl
theorem zero42 (w : World) : (zeroValue 42).run Tryd.prog w = .ok (.agg (hashCells z8 z128 0).toArray) w := by kernel_rfl
set_option maxRecDepth 100000 in
set_option maxHeartbeats 400000 in
theorem new_any (w : World) :
    Calls Tryd.prog 11 #[] w fun e w' => e = .returned (.pointer (some ⟨w.heap.size, 0, none⟩)) ∧ HashAt w' w.heap.size z8 z128 0 ∧ Below w.heap.size w w' ∧ w'.heap.size = w.heap.size + 1 := by
  have hb := zero42
  go_enter Tryd.func11, Tryd.ntmps11
  go_wp2
  go_ret
  exact ⟨rfl, ⟨heap_alloc_last _ _, rfl, rfl⟩, (Below.refl _ _).alloc (Nat.le_refl _) _, by simp⟩
theorem grown_of_below {w w' : World} {r : Option Nat} (h : Below w.heap.size w w') : w.grownBy w' r := ⟨h.os, h.tape, h.output, h.size, fun k hk _ => h.block k hk⟩
theorem grown_set {w w' : World} {g : Nat} (h : w.grownBy w' (some g)) (cs : Array Value) : w.grownBy (w'.setRow g cs) (some g) :=
  ⟨h.os, h.tape, h.output, by simpa using h.size, fun k hk hne => (setRow_other w' g k cs (fun e => hne (by rw [e]))).trans (h.block k hk hne)⟩
theorem grown_trans {a b c : World} {r : Option Nat} (h : a.grownBy b r) (k : b.grownBy c r) : a.grownBy c r :=
  ⟨k.os.trans h.os, k.tape.trans h.tape, k.output.trans h.output, Nat.le_trans h.size k.size, fun i hi hne => (k.block i (Nat.lt_of_lt_of_le hi h.size) hne).trans (h.block i hi hne)⟩
/-- fold, its words written out one by one. -/
theorem fold_lit (a0 a1 a2 a3 a4 a5 a6 a7 : BitVec 64) (ws : List (BitVec 64)) (hws : ws.length = 80) (w : World) (ht : Tabs w) :
    Calls Tryd.prog 21 #[.agg #[.int .u64 (wn a0), .int .u64 (wn a1), .int .u64 (wn a2), .int .u64 (wn a3), .int .u64 (wn a4), .int .u64 (wn a5), .int .u64 (wn a6), .int .u64 (wn a7)], .agg (wa ws)] w fun e w' =>
      ∃ b0 b1 b2 b3 b4 b5 b6 b7, foldW [a0, a1, a2, a3, a4, a5, a6, a7] ws = [b0, b1, b2, b3, b4, b5, b6, b7] ∧ e = .returned (.agg #[.int .u64 (wn b0), .int .u64 (wn b1), .int .u64 (wn b2), .int .u64 (wn b3), .int .u64 (wn b4), .int .u64 (wn b5), .int .u64 (wn b6), .int .u64 (wn b7)]) ∧ Below w.heap.size w w' := by
  refine (fold_any a0 a1 a2 a3 a4 a5 a6 a7 ws hws w ht).mono ?_
  rintro e w' ⟨rfl, hb⟩
  have e8 := eight (foldW [a0, a1, a2, a3, a4, a5, a6, a7] ws) (foldW_len _ _)
  refine ⟨_, _, _, _, _, _, _, _, e8, ?_, hb⟩
  conv => lhs; rw [e8]
  rfl
/-- A piece of memory at block g, for the region that folds it: the piece itself, and that the words may be written. -/
def Held (g : Nat) (piece : List UInt8) (w : World) : Prop := w.rangeAt g 8 (piece.map bc)
theorem Held.set {g : Nat} {piece : List UInt8} {w : World} (h : Held g piece w) (i : Nat) (hi : i < 8) (v : Value) : Held g piece (w.setCell ⟨g, i, none⟩ v) := fun j u hu => by
  rw [World.cell?_setCell_other _ _ _ _ (fun e => by injection e with _ e2; omega)]; exact h j u hu
theorem Held.below {g B : Nat} {piece : List UInt8} {w w' : World} (h : Held g piece w) (hb : Below B w w') (hg : g < B) : Held g piece w' := fun j u hu => (hb.cell hg).trans (h j u hu)
theorem seg_state (s0 s1 : List (BitVec 64)) (piece : List UInt8) (L : BitVec 64) (h0 : s0.length = 8) (h1 : s1.length = 8 := by rfl) : segSet (hashCells s0 piece L).toArray 0 (wa s1).toList = (hashCells s1 piece L).toArray := by
  unfold segSet
  congr 1
  have e : (wa s1).toList = s1.map wc := by simp [wa]
  rw [e, List.length_map, h1]
  have e8 : (s0.map wc).length = 8 := by simp [h0]
  simp only [List.take_zero, List.nil_append, Nat.zero_add, hashCells]
  rw [← e8, List.drop_left]
set_option linter.unusedSimpArgs false in
set_option maxRecDepth 100000 in
set_option maxHeartbeats 1000000 in
theorem foldPiece_no (g : Nat) (a0 a1 a2 a3 a4 a5 a6 a7 : BitVec 64) (piece : List UInt8) (L : BitVec 64) (w : World) (h : HashAt w g [a0, a1, a2, a3, a4, a5, a6, a7] piece L) (ht : Tabs w) (hL : (wn L == 128) = false) :
    Calls Tryd.prog 20 #[.pointer (some ⟨g, 0, none⟩)] w fun e w' => e = .returned (.tuple #[]) ∧ HashAt w' g (foldW [a0, a1, a2, a3, a4, a5, a6, a7] (spreadW piece)) piece L ∧ w.grownBy w' (some g) := by
  have hlen := h.len
  have z40 : (Tryd.prog.info? 40).map (·.size) = some (piece.map bc).length := by rw [List.length_map, h.p128]; exact size40
  go_enter Tryd.func20, Tryd.ntmps20
  go_wp2
  refine wp_region_sink (S := fun w' => w'.rangeAt g 0 (([a0, a1, a2, a3, a4, a5, a6, a7] : List (BitVec 64)).map wc) ∧ w'.rangeAt g 8 (piece.map bc)) 13 (by kernel_rfl) rfl rfl rfl rfl (by kernel_rfl) (by kernel_rfl) (by kernel_rfl) ⟨h.stR, h.pR⟩ (fun hS => ?_)
  simp only [List.setIfInBounds_toArray, List.set_cons_zero, List.set_cons_succ, Oper.idle]
  refine wpAnyH_take (i := 0) (v := .pointer (some ⟨g, 0, none⟩)) rfl (by kernel_rfl) (by kernel_rfl) (by kernel_rfl) (fun _ _ _ h => h) (Or.inl ⟨by rfl, fun w hSw => by go_simp⟩) hS ?_
  simp only [List.getElem_toArray, List.getElem_cons_zero, List.getElem_cons_succ, Act.put, List.setIfInBounds_toArray, List.set_cons_zero, List.set_cons_succ]
  refine wpAnyH_take (i := 1) (v := .pointer (some ⟨g, 0, none⟩)) rfl (by kernel_rfl) (by kernel_rfl) (by kernel_rfl) (fun _ _ _ h => h) (Or.inl ⟨by rfl, fun w hSw => by go_simp⟩) hS ?_
  simp only [List.getElem_toArray, List.getElem_cons_zero, List.getElem_cons_succ, Act.put, List.setIfInBounds_toArray, List.set_cons_zero, List.set_cons_succ]
  refine wpAnyH_take (i := 2) (v := .pointer (some ⟨g, 0, none⟩)) rfl (by kernel_rfl) (by kernel_rfl) (by kernel_rfl) (fun _ _ _ h => h) (Or.inl ⟨by rfl, fun w hSw => by go_simp⟩) hS ?_
  simp only [List.getElem_toArray, List.getElem_cons_zero, List.getElem_cons_succ, Act.put, List.setIfInBounds_toArray, List.set_cons_zero, List.set_cons_succ]
  refine wpAnyH_take (i := 3) (v := .pointer (some ⟨g, 0, none⟩)) rfl (by kernel_rfl) (by kernel_rfl) (by kernel_rfl) (fun _ _ _ h => h) (Or.inl ⟨by rfl, fun w hSw => by go_simp⟩) hS ?_
  simp only [List.getElem_toArray, List.getElem_cons_zero, List.getElem_cons_succ, Act.put, List.setIfInBounds_toArray, List.set_cons_zero, List.set_cons_succ]
  refine wpAnyH_take (i := 4) (v := .agg (([a0, a1, a2, a3, a4, a5, a6, a7] : List (BitVec 64)).map wc).toArray) rfl (by kernel_rfl) (by kernel_rfl) (by kernel_rfl) (fun _ _ _ h => h) (yieldsIf_load_mid (by rfl) 35 (.tmp 14) rfl g 0 rfl _ (.array 8 30) (fun w h => h.1) und35 rfl size35) hS ?_
  simp only [List.getElem_toArray, List.getElem_cons_zero, List.getElem_cons_succ, Act.put, List.setIfInBounds_toArray, List.set_cons_zero, List.set_cons_succ]
  refine wpAnyH_take (i := 5) (v := .pointer (some ⟨g, 0, none⟩)) rfl (by kernel_rfl) (by kernel_rfl) (by kernel_rfl) (fun _ _ _ h => h) (Or.inl ⟨by rfl, fun w hSw => by go_simp⟩) hS ?_
  simp only [List.getElem_toArray, List.getElem_cons_zero, List.getElem_cons_succ, Act.put, List.setIfInBounds_toArray, List.set_cons_zero, List.set_cons_succ]
  refine wpAnyH_take (i := 6) (v := .pointer (some ⟨g, 0, none⟩)) rfl (by kernel_rfl) (by kernel_rfl) (by kernel_rfl) (fun _ _ _ h => h) (Or.inl ⟨by rfl, fun w hSw => by go_simp⟩) hS ?_
  simp only [List.getElem_toArray, List.getElem_cons_zero, List.getElem_cons_succ, Act.put, List.setIfInBounds_toArray, List.set_cons_zero, List.set_cons_succ]
  refine wpAnyH_take (i := 7) (v := .pointer (some ⟨g, 8, none⟩)) rfl (by kernel_rfl) (by kernel_rfl) (by kernel_rfl) (fun _ _ _ h => h) (Or.inl ⟨by rfl, fun w hSw => by go_simp⟩) hS ?_
  simp only [List.getElem_toArray, List.getElem_cons_zero, List.getElem_cons_succ, Act.put, List.setIfInBounds_toArray, List.set_cons_zero, List.set_cons_succ]
  refine wpAnyH_take (i := 8) (v := .agg (piece.map bc).toArray) rfl (by kernel_rfl) (by kernel_rfl) (by kernel_rfl) (fun _ _ _ h => h) (yieldsIf_load_mid (by rfl) 40 (.tmp 18) rfl g 8 rfl _ (.array 128 5) (fun w h => h.2) und40 rfl z40) hS ?_
  simp only [List.getElem_toArray, List.getElem_cons_zero, List.getElem_cons_succ, Act.put, List.setIfInBounds_toArray, List.set_cons_zero, List.set_cons_succ]
  refine wpAnyH_enter (i := 9) (f := 22) (vals := #[.agg (ba piece)]) (by kernel_rfl) rfl rfl (by go_simp; rfl) (spread_any piece h.p128 _) ?_
  rintro e w1 ⟨rfl, hb1⟩
  have hgw : g < w.heap.size := (Array.getElem?_eq_some_iff.1 h.row).1
  have hb1' : Below w.heap.size w w1 := ⟨hb1.os, hb1.tape, hb1.output, hb1.size, hb1.block⟩
  have hS1 : (fun w' : World => w'.rangeAt g 0 (([a0, a1, a2, a3, a4, a5, a6, a7] : List (BitVec 64)).map wc) ∧ w'.rangeAt g 8 (piece.map bc)) w1 := ⟨fun j v hv => (hb1'.cell hgw).trans (h.stR j v hv), fun j v hv => (hb1'.cell hgw).trans (h.pR j v hv)⟩
  refine ⟨_, rfl, hS1, ?_⟩
  simp only [List.getElem_toArray, List.getElem_cons_zero, List.getElem_cons_succ, Act.put, List.setIfInBounds_toArray, List.set_cons_zero, List.set_cons_succ]
  refine wpAnyH_enter (i := 10) (f := 21) (vals := #[.agg (wa [a0, a1, a2, a3, a4, a5, a6, a7]), .agg (wa (spreadW piece))]) (by kernel_rfl) rfl rfl (by go_simp; rfl) (fold_any a0 a1 a2 a3 a4 a5 a6 a7 _ (spreadW_len _) _ (ht.below hb1' ht.2.2)) ?_
  rintro e w2 ⟨rfl, hb2⟩
  have hb2' : Below w.heap.size w w2 := hb1'.trans (hb2.mono hb1'.size)
  have hS : (fun w' : World => w'.rangeAt g 0 (([a0, a1, a2, a3, a4, a5, a6, a7] : List (BitVec 64)).map wc) ∧ w'.rangeAt g 8 (piece.map bc)) w2 := ⟨fun j v hv => (hb2'.cell hgw).trans (h.stR j v hv), fun j v hv => (hb2'.cell hgw).trans (h.pR j v hv)⟩
  refine ⟨_, rfl, hS, ?_⟩
  simp only [List.getElem_toArray, List.getElem_cons_zero, List.getElem_cons_succ, Act.put, List.setIfInBounds_toArray, List.set_cons_zero, List.set_cons_succ]
  refine wpAnyH_take (i := 11) (v := .pointer (some ⟨g, 0, none⟩)) rfl (by kernel_rfl) (by kernel_rfl) (by kernel_rfl) (fun _ _ _ h => h) (Or.inl ⟨by rfl, fun w hSw => by go_simp⟩) hS ?_
  simp only [List.getElem_toArray, List.getElem_cons_zero, List.getElem_cons_succ, Act.put, List.setIfInBounds_toArray, List.set_cons_zero, List.set_cons_succ]
  refine wpAnyH_take (i := 12) (v := .pointer (some ⟨g, 0, none⟩)) rfl (by kernel_rfl) (by kernel_rfl) (by kernel_rfl) (fun _ _ _ h => h) (Or.inl ⟨by rfl, fun w hSw => by go_simp⟩) hS ?_
  simp only [List.getElem_toArray, List.getElem_cons_zero, List.getElem_cons_succ, Act.put, List.setIfInBounds_toArray, List.set_cons_zero, List.set_cons_succ]
  refine wpAnyH_take (i := 13) (v := .bool false) rfl (by kernel_rfl) (by kernel_rfl) (by kernel_rfl) (fun _ _ _ h => h) (Or.inl ⟨by rfl, fun w hSw => by go_simp⟩) hS ?_
  simp only [List.getElem_toArray, List.getElem_cons_zero, List.getElem_cons_succ, Act.put, List.setIfInBounds_toArray, List.set_cons_zero, List.set_cons_succ]
  refine wpAnyH_done (by kernel_rfl) ?_ _
  have r2 : w2.heap[g]? = some (.cells (hashCells [a0, a1, a2, a3, a4, a5, a6, a7] piece L).toArray 42 (0, 0)) := (hb2'.block g hgw).trans h.row
  have hf8 : (wa (foldW [a0, a1, a2, a3, a4, a5, a6, a7] (spreadW piece))).size = 8 := by rw [wa_size, foldW_len]; rfl
  refine wp_store_seg 35 (.tmp 23) (.tmp 21) rfl g 0 _ rfl rfl 42 _ r2 (by rw [hf8]; exact size35) (by rw [hf8]; simp [hashCells]) (wa_one _) ?_
  generalize hq : segSet (hashCells [a0, a1, a2, a3, a4, a5, a6, a7] piece L).toArray 0 (wa (foldW [a0, a1, a2, a3, a4, a5, a6, a7] (spreadW piece))).toList = cs
  go_end0
  refine ⟨rfl, ⟨?_, by rw [foldW_len]; rfl, h.p128⟩, ?_⟩
  · rw [setRow_heap _ _ _ _ _ _ r2, ← hq]
    congr 2
  · exact grown_set (grown_of_below hb2') _
set_option linter.unusedSimpArgs false in
set_option maxRecDepth 100000 in
set_option maxHeartbeats 1000000 in
theorem foldPiece_yes (g : Nat) (a0 a1 a2 a3 a4 a5 a6 a7 : BitVec 64) (s0 : List (BitVec 64)) (piece : List UInt8) (L : BitVec 64) (w0 : World) (hg : 2 ≤ g) (h0 : HashAt w0 g s0 piece L) (ht0 : Tabs w0) (htab : w0.rangeAt 0 0 (([a0, a1, a2, a3, a4, a5, a6, a7] : List (BitVec 64)).map wc)) (hL : (wn L == 128) = true) :
    Calls Tryd.prog 20 #[.pointer (some ⟨g, 0, none⟩)] w0 fun e w' => e = .returned (.tuple #[]) ∧ HashAt w' g (foldW [a0, a1, a2, a3, a4, a5, a6, a7] (spreadW piece)) piece L ∧ w0.grownBy w' (some g) := by
  have hlen := h0.len
  have z40 : (Tryd.prog.info? 40).map (·.size) = some (piece.map bc).length := by rw [List.length_map, h0.p128]; exact size40
  have hc0 := h0.st8
  have hp0 := h0.p128
  go_enter Tryd.func20, Tryd.ntmps20
  go_wp2_with (first | (refine wpList_load_mid rfl 35 (.global 0) rfl 0 0 rfl _ (.array 8 30) htab und35 rfl size35 ?_) | (refine wpList_store_seg rfl 35 (.tmp 10) (.tmp 8) rfl g 0 _ rfl rfl 42 _ h0.row size35 (by simp [hashCells, hc0, hp0]) (wa_one [a0, a1, a2, a3, a4, a5, a6, a7]) ?_))
  obtain ⟨w, hw⟩ : ∃ w, w = w0.setRow g (segSet (hashCells s0 piece L).toArray 0 [wc a0, wc a1, wc a2, wc a3, wc a4, wc a5, wc a6, wc a7]) := ⟨_, rfl⟩
  have hgr0 : w0.grownBy w (some g) := by rw [hw]; exact grown_set ⟨rfl, rfl, rfl, Nat.le_refl _, fun _ _ _ => rfl⟩ _
  have h : HashAt w g [a0, a1, a2, a3, a4, a5, a6, a7] piece L := by
    refine ⟨?_, rfl, hp0⟩
    rw [hw, setRow_heap _ _ _ _ _ _ h0.row]
    exact congrArg (fun c => some (Obj.cells c 42 (0, 0))) (seg_state s0 [a0, a1, a2, a3, a4, a5, a6, a7] piece L hc0)
  have ht : Tabs w := by rw [hw]; exact ht0.below (B := 2) (Below.setRow (Below.refl _ _) _ _ hg) (Nat.le_refl _)
  rw [← hw]
  clear hw hlen
  simp only [Act.put]
  refine wp_region_sink (S := fun w' => w'.rangeAt g 0 (([a0, a1, a2, a3, a4, a5, a6, a7] : List (BitVec 64)).map wc) ∧ w'.rangeAt g 8 (piece.map bc)) 13 (by kernel_rfl) rfl rfl rfl rfl (by kernel_rfl) (by kernel_rfl) (by kernel_rfl) ⟨h.stR, h.pR⟩ (fun hS => ?_)
  simp only [List.setIfInBounds_toArray, List.set_cons_zero, List.set_cons_succ, Oper.idle]
  refine wpAnyH_take (i := 0) (v := .pointer (some ⟨g, 0, none⟩)) rfl (by kernel_rfl) (by kernel_rfl) (by kernel_rfl) (fun _ _ _ h => h) (Or.inl ⟨by rfl, fun w hSw => by go_simp⟩) hS ?_
  simp only [List.getElem_toArray, List.getElem_cons_zero, List.getElem_cons_succ, Act.put, List.setIfInBounds_toArray, List.set_cons_zero, List.set_cons_succ]
  refine wpAnyH_take (i := 1) (v := .pointer (some ⟨g, 0, none⟩)) rfl (by kernel_rfl) (by kernel_rfl) (by kernel_rfl) (fun _ _ _ h => h) (Or.inl ⟨by rfl, fun w hSw => by go_simp⟩) hS ?_
  simp only [List.getElem_toArray, List.getElem_cons_zero, List.getElem_cons_succ, Act.put, List.setIfInBounds_toArray, List.set_cons_zero, List.set_cons_succ]
  refine wpAnyH_take (i := 2) (v := .pointer (some ⟨g, 0, none⟩)) rfl (by kernel_rfl) (by kernel_rfl) (by kernel_rfl) (fun _ _ _ h => h) (Or.inl ⟨by rfl, fun w hSw => by go_simp⟩) hS ?_
  simp only [List.getElem_toArray, List.getElem_cons_zero, List.getElem_cons_succ, Act.put, List.setIfInBounds_toArray, List.set_cons_zero, List.set_cons_succ]
  refine wpAnyH_take (i := 3) (v := .pointer (some ⟨g, 0, none⟩)) rfl (by kernel_rfl) (by kernel_rfl) (by kernel_rfl) (fun _ _ _ h => h) (Or.inl ⟨by rfl, fun w hSw => by go_simp⟩) hS ?_
  simp only [List.getElem_toArray, List.getElem_cons_zero, List.getElem_cons_succ, Act.put, List.setIfInBounds_toArray, List.set_cons_zero, List.set_cons_succ]
  refine wpAnyH_take (i := 4) (v := .agg (([a0, a1, a2, a3, a4, a5, a6, a7] : List (BitVec 64)).map wc).toArray) rfl (by kernel_rfl) (by kernel_rfl) (by kernel_rfl) (fun _ _ _ h => h) (yieldsIf_load_mid (by rfl) 35 (.tmp 14) rfl g 0 rfl _ (.array 8 30) (fun w h => h.1) und35 rfl size35) hS ?_
  simp only [List.getElem_toArray, List.getElem_cons_zero, List.getElem_cons_succ, Act.put, List.setIfInBounds_toArray, List.set_cons_zero, List.set_cons_succ]
  refine wpAnyH_take (i := 5) (v := .pointer (some ⟨g, 0, none⟩)) rfl (by kernel_rfl) (by kernel_rfl) (by kernel_rfl) (fun _ _ _ h => h) (Or.inl ⟨by rfl, fun w hSw => by go_simp⟩) hS ?_
  simp only [List.getElem_toArray, List.getElem_cons_zero, List.getElem_cons_succ, Act.put, List.setIfInBounds_toArray, List.set_cons_zero, List.set_cons_succ]
  refine wpAnyH_take (i := 6) (v := .pointer (some ⟨g, 0, none⟩)) rfl (by kernel_rfl) (by kernel_rfl) (by kernel_rfl) (fun _ _ _ h => h) (Or.inl ⟨by rfl, fun w hSw => by go_simp⟩) hS ?_
  simp only [List.getElem_toArray, List.getElem_cons_zero, List.getElem_cons_succ, Act.put, List.setIfInBounds_toArray, List.set_cons_zero, List.set_cons_succ]
  refine wpAnyH_take (i := 7) (v := .pointer (some ⟨g, 8, none⟩)) rfl (by kernel_rfl) (by kernel_rfl) (by kernel_rfl) (fun _ _ _ h => h) (Or.inl ⟨by rfl, fun w hSw => by go_simp⟩) hS ?_
  simp only [List.getElem_toArray, List.getElem_cons_zero, List.getElem_cons_succ, Act.put, List.setIfInBounds_toArray, List.set_cons_zero, List.set_cons_succ]
  refine wpAnyH_take (i := 8) (v := .agg (piece.map bc).toArray) rfl (by kernel_rfl) (by kernel_rfl) (by kernel_rfl) (fun _ _ _ h => h) (yieldsIf_load_mid (by rfl) 40 (.tmp 18) rfl g 8 rfl _ (.array 128 5) (fun w h => h.2) und40 rfl z40) hS ?_
  simp only [List.getElem_toArray, List.getElem_cons_zero, List.getElem_cons_succ, Act.put, List.setIfInBounds_toArray, List.set_cons_zero, List.set_cons_succ]
  refine wpAnyH_enter (i := 9) (f := 22) (vals := #[.agg (ba piece)]) (by kernel_rfl) rfl rfl (by go_simp; rfl) (spread_any piece h.p128 _) ?_
  rintro e w1 ⟨rfl, hb1⟩
  have hgw : g < w.heap.size := (Array.getElem?_eq_some_iff.1 h.row).1
  have hb1' : Below w.heap.size w w1 := ⟨hb1.os, hb1.tape, hb1.output, hb1.size, hb1.block⟩
  have hS1 : (fun w' : World => w'.rangeAt g 0 (([a0, a1, a2, a3, a4, a5, a6, a7] : List (BitVec 64)).map wc) ∧ w'.rangeAt g 8 (piece.map bc)) w1 := ⟨fun j v hv => (hb1'.cell hgw).trans (h.stR j v hv), fun j v hv => (hb1'.cell hgw).trans (h.pR j v hv)⟩
  refine ⟨_, rfl, hS1, ?_⟩
  simp only [List.getElem_toArray, List.getElem_cons_zero, List.getElem_cons_succ, Act.put, List.setIfInBounds_toArray, List.set_cons_zero, List.set_cons_succ]
  refine wpAnyH_enter (i := 10) (f := 21) (vals := #[.agg (wa [a0, a1, a2, a3, a4, a5, a6, a7]), .agg (wa (spreadW piece))]) (by kernel_rfl) rfl rfl (by go_simp; rfl) (fold_any a0 a1 a2 a3 a4 a5 a6 a7 _ (spreadW_len _) _ (ht.below hb1' ht.2.2)) ?_
  rintro e w2 ⟨rfl, hb2⟩
  have hb2' : Below w.heap.size w w2 := hb1'.trans (hb2.mono hb1'.size)
  have hS : (fun w' : World => w'.rangeAt g 0 (([a0, a1, a2, a3, a4, a5, a6, a7] : List (BitVec 64)).map wc) ∧ w'.rangeAt g 8 (piece.map bc)) w2 := ⟨fun j v hv => (hb2'.cell hgw).trans (h.stR j v hv), fun j v hv => (hb2'.cell hgw).trans (h.pR j v hv)⟩
  refine ⟨_, rfl, hS, ?_⟩
  simp only [List.getElem_toArray, List.getElem_cons_zero, List.getElem_cons_succ, Act.put, List.setIfInBounds_toArray, List.set_cons_zero, List.set_cons_succ]
  refine wpAnyH_take (i := 11) (v := .pointer (some ⟨g, 0, none⟩)) rfl (by kernel_rfl) (by kernel_rfl) (by kernel_rfl) (fun _ _ _ h => h) (Or.inl ⟨by rfl, fun w hSw => by go_simp⟩) hS ?_
  simp only [List.getElem_toArray, List.getElem_cons_zero, List.getElem_cons_succ, Act.put, List.setIfInBounds_toArray, List.set_cons_zero, List.set_cons_succ]
  refine wpAnyH_take (i := 12) (v := .pointer (some ⟨g, 0, none⟩)) rfl (by kernel_rfl) (by kernel_rfl) (by kernel_rfl) (fun _ _ _ h => h) (Or.inl ⟨by rfl, fun w hSw => by go_simp⟩) hS ?_
  simp only [List.getElem_toArray, List.getElem_cons_zero, List.getElem_cons_succ, Act.put, List.setIfInBounds_toArray, List.set_cons_zero, List.set_cons_succ]
  refine wpAnyH_take (i := 13) (v := .bool false) rfl (by kernel_rfl) (by kernel_rfl) (by kernel_rfl) (fun _ _ _ h => h) (Or.inl ⟨by rfl, fun w hSw => by go_simp⟩) hS ?_
  simp only [List.getElem_toArray, List.getElem_cons_zero, List.getElem_cons_succ, Act.put, List.setIfInBounds_toArray, List.set_cons_zero, List.set_cons_succ]
  refine wpAnyH_done (by kernel_rfl) ?_ _
  have r2 : w2.heap[g]? = some (.cells (hashCells [a0, a1, a2, a3, a4, a5, a6, a7] piece L).toArray 42 (0, 0)) := (hb2'.block g hgw).trans h.row
  have hf8 : (wa (foldW [a0, a1, a2, a3, a4, a5, a6, a7] (spreadW piece))).size = 8 := by rw [wa_size, foldW_len]; rfl
  refine wp_store_seg 35 (.tmp 23) (.tmp 21) rfl g 0 _ rfl rfl 42 _ r2 (by rw [hf8]; exact size35) (by rw [hf8]; simp [hashCells]) (wa_one _) ?_
  generalize hq : segSet (hashCells [a0, a1, a2, a3, a4, a5, a6, a7] piece L).toArray 0 (wa (foldW [a0, a1, a2, a3, a4, a5, a6, a7] (spreadW piece))).toList = cs
  go_end0
  refine ⟨rfl, ⟨?_, by rw [foldW_len]; rfl, h.p128⟩, ?_⟩
  · rw [setRow_heap _ _ _ _ _ _ r2, ← hq]
    congr 2
  · exact grown_trans hgr0 (grown_set (grown_of_below hb2') _)
end Go.Proofs.YtjkcjlhcfkapkaaDoor
