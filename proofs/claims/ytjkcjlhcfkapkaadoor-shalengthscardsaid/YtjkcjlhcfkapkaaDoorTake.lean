/- What take leaves of a hash and of the bytes that it is handed, as long as all of them are fewer than nine times ten to the eighteenth. -/
import Derived.Test.YtjkcjlhcfkapkaaDoorHash
import Derived.Test.YtjkcjlhcfkapkaaDoorInv
namespace Go.Proofs.YtjkcjlhcfkapkaaDoor
open Go.RowKit
theorem h0_tab {w : World} (h : Tabs w) : w.rangeAt 0 0 (h0w.map wc) := h.1
/-- A full piece is folded. -/
theorem foldPiece_any (g : Nat) (st : List (BitVec 64)) (piece : List UInt8) (L : BitVec 64) (w : World) (hg : 2 ≤ g) (h : HashAt w g st piece L) (ht : Tabs w) :
    Calls Tryd.prog 20 #[.pointer (some ⟨g, 0, none⟩)] w fun e w' => e = .returned (.tuple #[]) ∧ HashAt w' g (foldW (if L = 128 then h0w else st) (spreadW piece)) piece L ∧ w.grownBy w' (some g) := by
  by_cases hL : L = 128
  · have hb : (wn L == 128) = true := by rw [hL]; decide
    rw [if_pos hL]
    exact foldPiece_yes g _ _ _ _ _ _ _ _ st piece L w hg h ht (h0_tab ht) hb
  · have hb : (wn L == 128) = false := by
      rw [beq_eq_false_iff_ne]; intro e; exact hL (wn_inj (e.trans (by decide)))
    rw [if_neg hL]
    have e8 := eight st h.st8
    rw [e8] at h ⊢
    exact foldPiece_no g _ _ _ _ _ _ _ _ piece L w h ht hb
/-- Bytes that a slice holds, outside block g. -/
def BsAt (w : World) (g : Nat) (v : Value) (bs : List UInt8) : Prop :=
  ∃ ao c, v = .slice ao bs.length c ∧ bs.length ≤ c ∧ (bs ≠ [] → ∃ b o, ao = some ⟨b, o, none⟩ ∧ b ≠ g ∧ b < w.heap.size ∧ w.rangeAt b o (bs.map bc))
/-- A piece of an array, from r on. -/
theorem run_slice_piece (w : World) (g r : Nat) (h : r < 128) : (Instr.sliceAt 40 (.pointer (some ⟨g, 8, none⟩)) (some (.int .i64 (r : Int))) none none).run Tryd.prog w = .ok (.slice (some ⟨g, 8 + r, none⟩) (128 - r) (128 - r)) w := by
  have h1 : ¬ 128 < r := by omega
  have h2 : ¬ 128 = r := by omega
  simp [Instr.sliceAt, run_underlying und40, Instr.sureAddr, Instr.sliceBounds, Instr.sliceBound, asIntOf, h1, h2, Addr.add_mid]
/-- The piece, from r on, written over. -/
theorem seg_piece (st : List (BitVec 64)) (piece new : List UInt8) (L : BitVec 64) (r : Nat) (h0 : st.length = 8) (hp : piece.length = 128) (hr : r + new.length ≤ 128) :
    (hashCells st piece L).take (8 + r) ++ new.map bc ++ (hashCells st piece L).drop (8 + r + (new.map bc).length) = hashCells st (piece.take r ++ new ++ piece.drop (r + new.length)) L := by
  have e8 : (st.map wc).length = 8 := by simp [h0]
  have e1 : (hashCells st piece L).take (8 + r) = st.map wc ++ (piece.map bc).take r := by
    unfold hashCells
    rw [← e8, List.take_length_add_append, List.take_append_of_le_length (by simp; omega)]
  have e2 : (hashCells st piece L).drop (8 + r + (new.map bc).length) = (piece.map bc).drop (r + new.length) ++ [wc L] := by
    unfold hashCells
    rw [List.length_map, Nat.add_assoc, ← e8, List.drop_length_add_append, List.drop_append_of_le_length (by simp; omega)]
  rw [e1, e2]
  simp [hashCells]
/-- The length, written over. -/
theorem HashAt.setLen {w : World} {g : Nat} {st : List (BitVec 64)} {piece : List UInt8} {L : BitVec 64} (h : HashAt w g st piece L) (L' : BitVec 64) : HashAt (w.setCell ⟨g, 136, none⟩ (.int .u64 (wn L'))) g st piece L' := by
  refine ⟨?_, h.st8, h.p128⟩
  rw [heap_setCell_same _ _ _ _ _ _ h.row]
  congr 2
  have e : (st.map wc ++ piece.map bc).length = 136 := by simp [h.st8, h.p128]
  simp only [hashCells, ← List.append_assoc, List.setIfInBounds_toArray]
  rw [← e, List.set_append_right _ _ (Nat.le_refl _)]
  simp [wc]
theorem grown_cell {w w' : World} {g : Nat} (h : w.grownBy w' (some g)) (i : Nat) (v : Value) : w.grownBy (w'.setCell ⟨g, i, none⟩ v) (some g) :=
  ⟨h.os, h.tape, h.output, by simpa using h.size, fun k hk hne => (heap_setCell_other w' _ k v (fun e => hne (by rw [e]))).trans (h.block k hk hne)⟩
theorem tabs_grown {w w' : World} {g : Nat} (h : Tabs w) (hg : w.grownBy w' (some g)) (h2 : 2 ≤ g) : Tabs w' :=
  ⟨fun j v hv => hg.cell (h.1 j v hv) (by simp; omega), fun j v hv => hg.cell (h.2.1 j v hv) (by simp; omega), Nat.le_trans h.2.2 hg.size⟩
theorem n_wrap (n : Nat) : IntKind.u64.wrap (n : Int) = wn (BitVec.ofNat 64 n) := by
  unfold wn; rw [IntKind.wrap_u64, BitVec.toNat_ofNat]; omega
set_option maxRecDepth 100000 in
set_option maxHeartbeats 1000000 in
theorem take_any (g : Nat) (m bs : List UInt8) (st : List (BitVec 64)) (piece : List UInt8) (L : BitVec 64) (w : World) (b o c : Nat) (hg : 2 ≤ g) (h : HashAt w g st piece L) (hI : HInv m st piece L) (ht : Tabs w)
    (hbs : w.rangeAt b o (bs.map bc)) (hm : m.length + bs.length < 9000000000000000000) :
    Calls Tryd.prog 17 #[.pointer (some ⟨g, 0, none⟩), .slice (some ⟨b, o, none⟩) bs.length c] w fun e w' => e = .returned (.int .i64 (tookN m bs : Nat)) ∧ (∃ st' piece' L', HashAt w' g st' piece' L' ∧ HInv (m ++ bs.take (tookN m bs)) st' piece' L') ∧ w.grownBy w' (some g) := by
  obtain ⟨r, hr, hr2, hr3⟩ : ∃ r : Nat, wn L % 128 = (r : Int) ∧ r < 128 ∧ m.length % 128 = r := ⟨m.length % 128, by rw [← hI.len]; unfold wn; omega, by omega, rfl⟩
  have hw0 := wn_nonneg L
  have hlen := h.len
  have hfr := h.fro 136
  have hsl := run_slice_piece w g r hr2
  have hN := tookN_le m bs
  have hNr : tookN m bs = min (128 - r) bs.length := by rw [tookN, hr3]
  obtain ⟨W1, hcp, h1, hg1⟩ : ∃ W1, (Builtin.copy_ #[22, 22] 3 #[.slice (some ⟨g, 8 + r, none⟩) (128 - r) (128 - r), .slice (some ⟨b, o, none⟩) bs.length c]).run Tryd.prog w = .ok (.int .i64 (tookN m bs : Nat)) W1 ∧ HashAt W1 g st (tookP piece m bs) L ∧ w.grownBy W1 (some g) := by
    have hl : ((bs.take (tookN m bs)).map bc).length = tookN m bs := by simp; omega
    have hcp := run_copy_row Tryd.prog w 22 22 3 5 g (8 + r) (128 - r) (128 - r) ⟨b, o, none⟩ bs.length c (hashCells st piece L).toArray 42 ((bs.take (tookN m bs)).map bc) und22 size5 h.row
      (by rw [hl, hNr]; exact Nat.min_comm _ _) (fun j v hv => by
        rw [Addr.add_mid]
        refine hbs j v ?_
        rw [List.map_take, List.getElem?_take] at hv
        split at hv
        · exact hv
        · simp at hv) (by rw [hl]; simp [hashCells, h.st8, h.p128]; omega) (by intro v hv; rw [List.mem_map] at hv; obtain ⟨x, _, rfl⟩ := hv; rfl)
    have hgi : goInt ((bs.take (tookN m bs)).map bc).length = Value.int .i64 (tookN m bs : Nat) := by rw [hl]; rfl
    rw [hgi] at hcp
    refine ⟨_, hcp, ?_, grown_set ⟨rfl, rfl, rfl, Nat.le_refl _, fun _ _ _ => rfl⟩ _⟩
    refine ⟨?_, h.st8, tookP_len _ _ _ h.p128⟩
    have hsp := seg_piece st piece (bs.take (tookN m bs)) L r h.st8 h.p128 (by simp; omega)
    rw [setRow_heap _ _ _ _ _ _ h.row]
    show some (Obj.cells (List.take (8 + r) (hashCells st piece L) ++ List.map bc (List.take (tookN m bs) bs) ++ List.drop (8 + r + (List.map bc (List.take (tookN m bs) bs)).length) (hashCells st piece L)).toArray 42 (0, 0)) = _
    rw [hsp]
    have hl2 : (bs.take (tookN m bs)).length = tookN m bs := by simp; omega
    rw [tookP, hr3, hl2]
  have hlen1 := h1.len
  have hfr1 := h1.fro 136
  have hnw := n_wrap (tookN m bs)
  have hadd := w_add L (BitVec.ofNat 64 (tookN m bs))
  have hN64 : (tookN m bs : Int) ≤ 128 := by omega
  have H := hide (And.intro hr3 (And.intro hN (And.intro h1 (And.intro hg1 hI))))
  have HM := hide hm
  clear hNr hr3 hN h1 hg1 h hI hbs hm
  by_cases hfull : r + tookN m bs = 128
  · have hd : ((r : Int) + (tookN m bs : Int) == 128) = true := by rw [beq_iff_eq]; omega
    have HF := hide hfull
    clear hfull
    generalize htn : tookN m bs = N at *
    go_enter Tryd.func17, Tryd.ntmps17
    go_wp2_with fail
    obtain ⟨hr3, hN, h1, hg1, hI⟩ := H.out
    have ht1 : Tabs (W1.setCell ⟨g, 136, none⟩ (.int .u64 (wn (L + BitVec.ofNat 64 N)))) := tabs_grown ht (grown_cell hg1 136 _) hg
    refine (foldPiece_any g st _ _ _ hg (h1.setLen _) ht1).mono ?_
    rintro e w2 ⟨rfl, h2, hg2⟩
    have hgf : w.grownBy w2 (some g) := grown_trans (grown_cell hg1 136 _) hg2
    have hI2 := hI.full bs (by have := HM.out; omega) (by rw [htn, hr3]; exact HF.out)
    rw [htn] at hI2
    have R := hide (And.intro hgf (And.intro h2 hI2))
    clear hgf h2 hI2 hg2 ht1 h1 hg1 hI hr3 hN
    go_wp2
    go_ret
    exact ⟨rfl, ⟨_, _, _, R.out.2.1, R.out.2.2⟩, R.out.1⟩
  · have hd : ((r : Int) + (tookN m bs : Int) == 128) = false := by rw [beq_eq_false_iff_ne]; omega
    have HF := hide hfull
    clear hfull
    generalize htn : tookN m bs = N at *
    go_enter Tryd.func17, Tryd.ntmps17
    go_wp2
    go_ret
    obtain ⟨hr3, hN, h1, hg1, hI⟩ := H.out
    have hI2 := hI.more bs (by have := HM.out; omega) (by have := HF.out; rw [htn, hr3]; omega)
    rw [htn] at hI2
    exact ⟨rfl, ⟨_, _, _, h1.setLen _, hI2⟩, grown_cell hg1 136 _⟩
end Go.Proofs.YtjkcjlhcfkapkaaDoor
