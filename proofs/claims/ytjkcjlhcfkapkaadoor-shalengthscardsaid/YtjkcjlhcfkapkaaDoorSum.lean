/- What the sum of a hash is: that of all that was written; the hash stays as it was; under the bound of take. -/
import Derived.Test.YtjkcjlhcfkapkaaDoorWrite
namespace Go.Proofs.YtjkcjlhcfkapkaaDoor
open Go.RowKit
theorem size42 : (Tryd.prog.info? 42).map (·.size) = some 137 := by kernel_rfl
theorem und42 : ∃ fs, Tryd.prog.underlying 42 = some (.struct fs) := ⟨_, Tryd.underlying42⟩
theorem hashCells_len (st : List (BitVec 64)) (piece : List UInt8) (L : BitVec 64) (h : st.length = 8) (hp : piece.length = 128) : (hashCells st piece L).toArray.size = 137 := by simp [hashCells, h, hp]
theorem hashCells_one (st : List (BitVec 64)) (piece : List UInt8) (L : BitVec 64) : (hashCells st piece L).toArray.all (·.oneCell') = true := by
  rw [Array.all_eq_true_iff_forall_mem]; intro v hv
  simp [hashCells] at hv
  rcases hv with ⟨x, _, rfl⟩ | ⟨x, _, rfl⟩ | rfl <;> rfl
theorem bsAt_of_owns {w : World} {g base : Nat} {v : Value} {bs : List UInt8} (h : w.ownsRow base 5 1 v bs.length (bs.map bc)) (hg : g < base) : BsAt w g v bs := by
  rcases h.2 with ⟨rfl, h0⟩ | ⟨b, cap, cur, rfl, hb, hr, hn, _, _, ht⟩
  · have : bs = [] := List.eq_nil_of_length_eq_zero h0
    subst this
    exact ⟨none, 0, rfl, Nat.le_refl _, fun h => absurd rfl h⟩
  · refine ⟨_, cap, rfl, hn, fun _ => ⟨b, 0, rfl, by omega, (Array.getElem?_eq_some_iff.1 hr).1, ?_⟩⟩
    intro j u hu
    rw [Nat.zero_add, cell_of_row _ _ _ _ _ _ hr]
    rw [← ht, List.getElem?_take] at hu
    split at hu
    · simpa using hu
    · cases hu
set_option maxRecDepth 100000 in
set_option maxHeartbeats 1000000 in
theorem sum_any (g : Nat) (m : List UInt8) (w : World) (hg : g < w.heap.size) (h : Hashed w g m) (ht : Tabs w) (hm : m.length < 8000000000000000000) :
    Calls Tryd.prog 13 #[.pointer (some ⟨g, 0, none⟩)] w fun e w' => ∃ v, e = .returned v ∧ w'.ownsRow w.heap.size 5 1 v 64 ((shaB m).map bc) ∧ Below w.heap.size w w' := by
  obtain ⟨st, piece, L, h1, hI⟩ := h
  have hz := zero42
  obtain ⟨fs, hu42⟩ := und42
  have hs := hashCells_len st piece L h1.st8 h1.p128
  have hs0 : (hashCells z8 z128 0).toArray.size = 137 := rfl
  have hrow := h1.row
  have hlen : (w.alloc (.cells (hashCells st piece L).toArray 42)).cell? ⟨g, 136, none⟩ = some (.int .u64 (wn L)) := by rw [World.cell?_alloc_lt _ _ _ hg]; exact h1.len
  go_enter Tryd.func13, Tryd.ntmps13
  go_wp2_with (first | (refine wpList_load_row rfl 42 (.tmp 10) rfl g rfl 42 (hashCells st piece L).toArray (0,0) (.struct fs) hrow hu42 rfl (by rw [hs]; exact size42) ?_) | (refine wpList_store_row rfl 42 (.tmp 3) (.tmp 11) rfl w.heap.size (hashCells st piece L).toArray rfl rfl 42 (hashCells z8 z128 0).toArray (heap_alloc_last _ _) (by rw [hs]; exact size42) (by rw [hs, hs0]) (hashCells_one _ _ _) ?_; rw [World.setRow_alloc_new]))
  have hsz : (w.alloc (.cells (hashCells st piece L).toArray 42)).heap.size = w.heap.size + 1 := by simp
  have hb0 : Below w.heap.size w (w.alloc (.cells (hashCells st piece L).toArray 42)) := (Below.refl _ _).alloc (Nat.le_refl _) _
  have hh0 : Hashed (w.alloc (.cells (hashCells st piece L).toArray 42)) w.heap.size m := ⟨st, piece, L, ⟨heap_alloc_last _ _, h1.st8, h1.p128⟩, hI⟩
  have hLm := hI.ofLen
  have HL := hide hLm
  generalize w.alloc (.cells (hashCells st piece L).toArray 42) = W0 at *
  have HC := hide (And.intro hsz (And.intro hb0 (And.intro hh0 ht)))
  clear hsz hb0 hh0 hlen hrow hs hs0 hz h1 hI ht hLm
  refine (padding_any L W0).mono ?_
  rintro e w1 ⟨v1, rfl, hown1, hb1⟩
  obtain ⟨hsz, hb0, hh0, ht⟩ := HC.out
  have hb01 : Below w.heap.size w w1 := hb0.trans (hb1.mono (by omega))
  have hh1 : Hashed w1 w.heap.size m := by
    obtain ⟨st', p', L', q1, q2⟩ := hh0
    exact ⟨st', p', L', ⟨(hb1.block _ (by omega)).trans q1.row, q1.st8, q1.p128⟩, q2⟩
  have hpl : (padB L).length ≤ 1000 := by rw [padB_len, zeros]; omega
  have HW := hide (handOn_any w.heap.size m (padB L) v1 w1 (by have := ht.2.2; omega) hh1 (ht.below hb01 ht.2.2) (bsAt_of_owns hown1 (by omega)) (by omega))
  have HB := hide (And.intro hb01 ht)
  clear hown1 hb1 hh1 hsz hb0 hh0 hb01 hpl ht
  go_wp2_with fail
  refine HW.out.mono ?_
  rintro e w2 ⟨rfl, hh2, hg2⟩
  obtain ⟨st2, p2, L2, q1, q2⟩ := hh2
  have hst2 : st2 = stAt (padded m) ((padded m).length / 128) := by
    rw [HL.out] at q2
    exact q2.state (padded_len m (by omega)).2
  have hsha : words st2 8 = shaB m := by rw [hst2]; rfl
  have hl8 := q1.st8
  have hb2 : Below w.heap.size w w2 := HB.out.1.trans ⟨hg2.os, hg2.tape, hg2.output, hg2.size, fun k hk => hg2.block k (Nat.lt_of_lt_of_le hk HB.out.1.size) (by simp; omega)⟩
  have hr2 : (w2.alloc (.cells (zb 64) 5)).rangeAt w.heap.size 0 (st2.map wc) := World.rangeAt_alloc q1.stR _
  have hz35 : (Tryd.prog.info? 35).map (·.size) = some (st2.map wc).length := by rw [List.length_map, hl8]; exact size35
  have hmk : ∀ w, (Instr.makeSlice 22 (.int .i64 0) (.int .i64 64)).run Tryd.prog w = .ok (.slice (some ⟨w.heap.size, 0, none⟩) 0 64) (w.alloc (.cells (zb 64) 5)) := by
    intro w
    obtain ⟨i0, hi, hz0, hz1, hz5⟩ := info_parts info5
    have h := run_make (P := Tryd.prog) w 22 5 i0 (.int .u8 0) und22 hi hz0 .i64 .i64 0 64 (by omega) (by omega) (by rw [hz5]; omega) (by omega)
    rw [h, hz1]
    show Result.ok _ (w.alloc (.cells (madeCells #[.int .u8 0] 64) 5)) = _
    rw [zb_made]; rfl
  have hown0 : (w2.alloc (.cells (zb 64) 5)).ownsRow w.heap.size 5 1 (.slice (some ⟨w2.heap.size, 0, none⟩) 0 64) 0 [] := World.ownsRow_made w2 _ 64 hb2.size (by unfold maxLen; omega) (by rw [zb_size])
  have hb3 : Below w.heap.size w (w2.alloc (.cells (zb 64) 5)) := hb2.alloc hb2.size _
  have HS := hide hsha
  have HB3 := hide (And.intro hown0 hb3)
  clear hst2 q2 q1 hb2 hg2 hsha hown0 hb3 HB HW HC
  go_wp2_with (refine wpList_load_mid rfl 35 (.tmp 20) rfl w.heap.size 0 rfl _ (.array 8 30) hr2 und35 rfl hz35 ?_)
  clear hmk hr2
  obtain ⟨hown0, hb3⟩ := HB3.out
  generalize w2.alloc (.cells (zb 64) 5) = W3 at *
  go_loopw [4, 22] (fun sv i wr => ∃ k : Nat, k ≤ 8 ∧ i = .int .i64 k ∧ wr.ownsRow w.heap.size 5 1 sv (8 * k) ((words st2 k).map bc) ∧ Below w.heap.size w wr) (fun _ i _ => 8 - (intOf i).toNat)
  case atStart => exact ⟨0, by omega, rfl, hown0, hb3⟩
  case round =>
    clear hown0 hb3
    obtain ⟨k, hk, rfl, hown, hb⟩ := hrel
    by_cases hlt : k < 8
    · have hidx : ∀ w, (Instr.index 35 (.agg (st2.map wc).toArray) (.int .i64 (k : Int))).run Tryd.prog w = .ok (.int .u64 (wn (st2.getD k 0))) w :=
        run_index_arr und35 Tryd.underlying30 rfl size30 _ k hlt _ (wa_get st2 k (by omega))
      generalize hx : st2.getD k 0 = x at hidx
      have HX := hide hx
      have HC := hide (appendWord_any x u4 (8 * k) w.heap.size (words st2 k) wr (by omega) hb.size hown)
      have HB := hide hb
      clear hown hb hx
      go_wp2_with fail
      refine HC.out.mono ?_
      rintro e w4 ⟨v4, rfl, hown4, hb4⟩
      have R := hide (And.intro hown4 (HB.out.trans hb4))
      clear hown4 hb4
      go_wp2
      go_roundw
      case rel => exact ⟨k + 1, by omega, by go_num, by rw [words, HX.out]; exact R.out.1, R.out.2⟩
      case measure => simp [intOf]; omega
    · obtain rfl : k = 8 := by omega
      go_wp2
      go_ret
      exact ⟨_, rfl, by rw [← HS.out]; exact hown, hb⟩
end Go.Proofs.YtjkcjlhcfkapkaaDoor
