/- The page's points: whether they are the same, their bytes, as its calls answer them. -/
import Derived.Test.YtobgimpkkjaolaaGreatDoorRx
import Derived.Test.YtobgimpkkjaolaaGreatDoorLaw0
namespace Go.Proofs.YtobgimpkkjaolaaGreatDoor
open Go.RowKit
set_option maxRecDepth 100000 in
set_option maxHeartbeats 4000000 in
theorem q_pack0 {x1 y1 z1 t1 : Kp} {C0 : Array Value} {w : World} (hq0 : RQ C0 x1 y1 z1 t1) (ho : ¬ (x1 * kinv z1).val % 2 = 1) : Hands Tryz.prog 16 #[.agg C0] w (isb (pkb (x1 * kinv z1) (y1 * kinv z1))) := by
  suffices HH : ∀ R_ : STy, (∀ W v, BsAt W v (pkb (x1 * kinv z1) (y1 * kinv z1)) → R_.p W v) → Hands Tryz.prog 16 #[.agg C0] w R_ from HH _ (fun _ _ h => h)
  intro R_ hR_
  have HR := hide hR_
  clear hR_
  have NP0 := hide hq0
  clear hq0
  obtain ⟨LL, hLL⟩ : ∃ l, pkb (x1 * kinv z1) (y1 * kinv z1) = l := ⟨_, rfl⟩
  rw [hLL] at HR
  have EL := hide hLL
  have HO := hide ho
  clear hLL ho
  unfold Hands
  go_enter Tryz.func16, Tryz.ntmps16
  go_upto_region 1 with fail
  refine cut_world (fun W => Below w.heap.size w W ∧ (w.heap.size < W.heap.size ∧ W.heap[w.heap.size]? = some (.cells C0 39 (0, 0)))) ⟨(Below.refl _ _).alloc (Nat.le_refl _) _, by simp, heap_alloc_last _ _⟩ ?_
  rintro W1 ⟨BEL, R1⟩
  replace BEL := hide BEL
  have SZ := hide BEL.out.size
  replace R1 := hide R1
  have SW1 := (R1.out.1)
  refine wrl3 (tl := [isv (.pointer (some ⟨w.heap.size, 0, none⟩)), isv (.pointer (some ⟨w.heap.size, 16 * 2, none⟩)), nk z1, nk (kinv z1)]) (pre := [(1, 0)])
    (plan := [Pk.val [(1, 0)] 1, Pk.val [(5, 1)] 2, Pk.val [(6, 2)] 3, Pk.alc 37 16, Pk.sto 3 7 3])
    [] [] [] 24 (by kernel_rfl) rfl (by kernel_rfl) ⟨.inr (lv0 _ _ _), ⟨.inr (lv0 _ _ _), ⟨.inr (lull_n _ _ _), ⟨.inr (lull_n _ _ _), trivial⟩⟩⟩⟩
    snkAt0 snk0 ⟨rfl, trivial⟩
   (Oc3 (fun a w X_ h => g_atq 2 (by decide) (wq0 rfl) rfl h.1)
   (Oc3 (fun a w X_ h => g_ldq2 NP0.out (wq0 rfl) rfl h.1 (X_.at_ R1.out.1 out0 R1.out.2))
   (Oc3 (fun a w X_ h => g_call1 (wq0 rfl) (by kernel_rfl) rfl (n_inv h.1))
   (Oc3 (alc_of zn rfl rfl rfl newN)
   (Oc3 (⟨rfl, _, _, _, rfl, rfl, rfl, by kernel_rfl, row_n _⟩)
      OkL3.nil))))) ?_
  rintro W2 X2 _ rfl v6 - v7 - g3 c3 ⟨L3, Z3, -⟩ r3 H3
  refine FinL3.fill ?_
  refine Fd3 ?_
  simp only [Act.put, List.setIfInBounds_toArray, List.set_cons_zero, List.set_cons_succ]
  have N3 := hide (nk_of H3)
  have R3 := hide (And.intro Z3 r3)
  clear r3
  replace R1 := hide (X2.row out0 R1.out)
  replace BEL := hide (X2.on BEL.out SZ.out none_le)
  replace SZ := hide BEL.out.size
  have SW2 := X2.size
  clear X2
  clear H3
  go_upto_region 2 with fail
  refine wrl3 (tl := [isv (.pointer (some ⟨w.heap.size, 0, none⟩)), isv (.pointer (some ⟨w.heap.size, 16 * 1, none⟩)), nk y1, isv (.pointer (some ⟨g3, 0, none⟩)), nk (kinv z1), nk (y1 * (kinv z1)), ownb W2.heap.size (bys (y1 * (kinv z1)).val 32)]) (pre := [(1, 0), (3, 3)])
    (plan := [Pk.val [(1, 0)] 1, Pk.val [(8, 1)] 2, Pk.val [(3, 3)] 4, Pk.val [(9, 2), (10, 4)] 5, Pk.val [(11, 5)] 6, Pk.val [(12, 6)] 6])
    [6] [] [] 24 (by kernel_rfl) rfl (by kernel_rfl) ⟨.inr (lv0 _ _ _), ⟨.inr (lv0 _ _ _), ⟨.inr (lull_n _ _ _), ⟨.inr (lv0 _ _ _), ⟨.inr (lull_n _ _ _), ⟨.inr (lull_n _ _ _), ⟨.inl rfl, trivial⟩⟩⟩⟩⟩⟩⟩
    snkAt0 snk0 ⟨rfl, ⟨rfl, trivial⟩⟩
   (Oc3 (fun a w X_ h => g_atq 1 (by decide) (wq0 rfl) rfl h.1)
   (Oc3 (fun a w X_ h => g_ldq1 NP0.out (wq0 rfl) rfl h.1 (X_.at_ R1.out.1 out0 R1.out.2))
   (Oc3 (fun a w X_ h => g_ldn N3.out (wq0 rfl) rfl h.1 (X_.at_ R3.out.1 out0 R3.out.2))
   (Oc3 (fun a w X_ h => g_call2 (wq0 rfl) (by kernel_rfl) rfl (n_mul h.1 h.2.1))
   (Oc3 (fun a w X_ h => g_call1 (wq0 rfl) (by kernel_rfl) rfl (n_bytes h.1 X_.size))
   (Oc3 (fun a w X_ h => g_move (wq0 rfl) (.inr rfl) h.1)
      OkL3.nil)))))) ?_
  rintro W3 X3 _ rfl v9 - v10 - v11 - v12 - v4 k4
  refine Fd3 ?_
  simp only [Act.put, List.setIfInBounds_toArray, List.set_cons_zero, List.set_cons_succ]
  replace R1 := hide (X3.row out0 R1.out)
  replace R3 := hide (X3.row out0 R3.out)
  replace BEL := hide (X3.on BEL.out SZ.out none_le)
  replace SZ := hide BEL.out.size
  have SW3 := X3.size
  clear X3
  have OW : Hid (Own W3 W2.heap.size v4 (bys (y1 * kinv z1).val 32)) := k4
  clear k4
  go_upto_region 3 with fail
  refine wrl3 (tl := [isv (.pointer (some ⟨w.heap.size, 0, none⟩)), isv (.pointer (some ⟨w.heap.size, 16 * 0, none⟩)), nk x1, isv (.pointer (some ⟨g3, 0, none⟩)), nk (kinv z1), nk (x1 * (kinv z1)), isv (.bool false)]) (pre := [(1, 0), (3, 3)])
    (plan := [Pk.val [(1, 0)] 1, Pk.val [(13, 1)] 2, Pk.val [(3, 3)] 4, Pk.val [(14, 2), (15, 4)] 5, Pk.val [(16, 5)] 6])
    [] [] [] 24 (by kernel_rfl) rfl (by kernel_rfl) ⟨.inr (lv0 _ _ _), ⟨.inr (lv0 _ _ _), ⟨.inr (lull_n _ _ _), ⟨.inr (lv0 _ _ _), ⟨.inr (lull_n _ _ _), ⟨.inr (lull_n _ _ _), ⟨.inr (lv0 _ _ _), trivial⟩⟩⟩⟩⟩⟩⟩
    snkAt0 snk0 ⟨rfl, ⟨rfl, trivial⟩⟩
   (Oc3 (fun a w X_ h => g_atq 0 (by decide) (wq0 rfl) rfl h.1)
   (Oc3 (fun a w X_ h => g_ldq0 NP0.out (wq0 rfl) rfl h.1 (X_.at_ R1.out.1 out0 R1.out.2))
   (Oc3 (fun a w X_ h => g_ldn N3.out (wq0 rfl) rfl h.1 (X_.at_ R3.out.1 out0 R3.out.2))
   (Oc3 (fun a w X_ h => g_call2 (wq0 rfl) (by kernel_rfl) rfl (n_mul h.1 h.2.1))
   (Oc3 (fun a w X_ h => g_call1 (wq0 rfl) (by kernel_rfl) rfl (n_odd h.1 (iff_f HO.out)))
      OkL3.nil))))) ?_
  rintro W4 X4 _ rfl v14 - v15 - v16 - _ rfl
  refine Fd3 ?_
  simp only [Act.put, List.setIfInBounds_toArray, List.set_cons_zero, List.set_cons_succ]
  replace OW := hide (OW.out.ext X4.ext)
  replace BEL := hide (Below.chain BEL.out X4.ext)
  clear X4 R1 R3 SZ
  have hl : bys (y1 * kinv z1).val 32 = LL := by rw [← EL.out]; unfold pkb; rw [if_neg HO.out]
  rw [hl] at OW
  clear hl EL HO
  go_wp2
  go_ret
  exact ⟨_, rfl, BEL.out, HR.out _ _ OW.out.at⟩
set_option maxRecDepth 100000 in
set_option maxHeartbeats 4000000 in
theorem q_pack1 {x1 y1 z1 t1 : Kp} {C0 : Array Value} {w : World} (hq0 : RQ C0 x1 y1 z1 t1) (ho : (x1 * kinv z1).val % 2 = 1) : Hands Tryz.prog 16 #[.agg C0] w (isb (pkb (x1 * kinv z1) (y1 * kinv z1))) := by
  suffices HH : ∀ R_ : STy, (∀ W v, BsAt W v (pkb (x1 * kinv z1) (y1 * kinv z1)) → R_.p W v) → Hands Tryz.prog 16 #[.agg C0] w R_ from HH _ (fun _ _ h => h)
  intro R_ hR_
  have HR := hide hR_
  clear hR_
  have NP0 := hide hq0
  clear hq0
  obtain ⟨LL, hLL⟩ : ∃ l, pkb (x1 * kinv z1) (y1 * kinv z1) = l := ⟨_, rfl⟩
  rw [hLL] at HR
  have EL := hide hLL
  have HO := hide ho
  clear hLL ho
  unfold Hands
  go_enter Tryz.func16, Tryz.ntmps16
  go_upto_region 1 with fail
  refine cut_world (fun W => Below w.heap.size w W ∧ (w.heap.size < W.heap.size ∧ W.heap[w.heap.size]? = some (.cells C0 39 (0, 0)))) ⟨(Below.refl _ _).alloc (Nat.le_refl _) _, by simp, heap_alloc_last _ _⟩ ?_
  rintro W1 ⟨BEL, R1⟩
  replace BEL := hide BEL
  have SZ := hide BEL.out.size
  replace R1 := hide R1
  have SW1 := (R1.out.1)
  refine wrl3 (tl := [isv (.pointer (some ⟨w.heap.size, 0, none⟩)), isv (.pointer (some ⟨w.heap.size, 16 * 2, none⟩)), nk z1, nk (kinv z1)]) (pre := [(1, 0)])
    (plan := [Pk.val [(1, 0)] 1, Pk.val [(5, 1)] 2, Pk.val [(6, 2)] 3, Pk.alc 37 16, Pk.sto 3 7 3])
    [] [] [] 24 (by kernel_rfl) rfl (by kernel_rfl) ⟨.inr (lv0 _ _ _), ⟨.inr (lv0 _ _ _), ⟨.inr (lull_n _ _ _), ⟨.inr (lull_n _ _ _), trivial⟩⟩⟩⟩
    snkAt0 snk0 ⟨rfl, trivial⟩
   (Oc3 (fun a w X_ h => g_atq 2 (by decide) (wq0 rfl) rfl h.1)
   (Oc3 (fun a w X_ h => g_ldq2 NP0.out (wq0 rfl) rfl h.1 (X_.at_ R1.out.1 out0 R1.out.2))
   (Oc3 (fun a w X_ h => g_call1 (wq0 rfl) (by kernel_rfl) rfl (n_inv h.1))
   (Oc3 (alc_of zn rfl rfl rfl newN)
   (Oc3 (⟨rfl, _, _, _, rfl, rfl, rfl, by kernel_rfl, row_n _⟩)
      OkL3.nil))))) ?_
  rintro W2 X2 _ rfl v6 - v7 - g3 c3 ⟨L3, Z3, -⟩ r3 H3
  refine FinL3.fill ?_
  refine Fd3 ?_
  simp only [Act.put, List.setIfInBounds_toArray, List.set_cons_zero, List.set_cons_succ]
  have N3 := hide (nk_of H3)
  have R3 := hide (And.intro Z3 r3)
  clear r3
  replace R1 := hide (X2.row out0 R1.out)
  replace BEL := hide (X2.on BEL.out SZ.out none_le)
  replace SZ := hide BEL.out.size
  have SW2 := X2.size
  clear X2
  clear H3
  go_upto_region 2 with fail
  refine wrl3 (tl := [isv (.pointer (some ⟨w.heap.size, 0, none⟩)), isv (.pointer (some ⟨w.heap.size, 16 * 1, none⟩)), nk y1, isv (.pointer (some ⟨g3, 0, none⟩)), nk (kinv z1), nk (y1 * (kinv z1)), ownb W2.heap.size (bys (y1 * (kinv z1)).val 32)]) (pre := [(1, 0), (3, 3)])
    (plan := [Pk.val [(1, 0)] 1, Pk.val [(8, 1)] 2, Pk.val [(3, 3)] 4, Pk.val [(9, 2), (10, 4)] 5, Pk.val [(11, 5)] 6, Pk.val [(12, 6)] 6])
    [6] [] [] 24 (by kernel_rfl) rfl (by kernel_rfl) ⟨.inr (lv0 _ _ _), ⟨.inr (lv0 _ _ _), ⟨.inr (lull_n _ _ _), ⟨.inr (lv0 _ _ _), ⟨.inr (lull_n _ _ _), ⟨.inr (lull_n _ _ _), ⟨.inl rfl, trivial⟩⟩⟩⟩⟩⟩⟩
    snkAt0 snk0 ⟨rfl, ⟨rfl, trivial⟩⟩
   (Oc3 (fun a w X_ h => g_atq 1 (by decide) (wq0 rfl) rfl h.1)
   (Oc3 (fun a w X_ h => g_ldq1 NP0.out (wq0 rfl) rfl h.1 (X_.at_ R1.out.1 out0 R1.out.2))
   (Oc3 (fun a w X_ h => g_ldn N3.out (wq0 rfl) rfl h.1 (X_.at_ R3.out.1 out0 R3.out.2))
   (Oc3 (fun a w X_ h => g_call2 (wq0 rfl) (by kernel_rfl) rfl (n_mul h.1 h.2.1))
   (Oc3 (fun a w X_ h => g_call1 (wq0 rfl) (by kernel_rfl) rfl (n_bytes h.1 X_.size))
   (Oc3 (fun a w X_ h => g_move (wq0 rfl) (.inr rfl) h.1)
      OkL3.nil)))))) ?_
  rintro W3 X3 _ rfl v9 - v10 - v11 - v12 - v4 k4
  refine Fd3 ?_
  simp only [Act.put, List.setIfInBounds_toArray, List.set_cons_zero, List.set_cons_succ]
  replace R1 := hide (X3.row out0 R1.out)
  replace R3 := hide (X3.row out0 R3.out)
  replace BEL := hide (X3.on BEL.out SZ.out none_le)
  replace SZ := hide BEL.out.size
  have SW3 := X3.size
  clear X3
  have OW : Hid (Own W3 W2.heap.size v4 (bys (y1 * kinv z1).val 32)) := k4
  clear k4
  go_upto_region 3 with fail
  refine wrl3 (tl := [isv (.pointer (some ⟨w.heap.size, 0, none⟩)), isv (.pointer (some ⟨w.heap.size, 16 * 0, none⟩)), nk x1, isv (.pointer (some ⟨g3, 0, none⟩)), nk (kinv z1), nk (x1 * (kinv z1)), isv (.bool true)]) (pre := [(1, 0), (3, 3)])
    (plan := [Pk.val [(1, 0)] 1, Pk.val [(13, 1)] 2, Pk.val [(3, 3)] 4, Pk.val [(14, 2), (15, 4)] 5, Pk.val [(16, 5)] 6])
    [] [] [] 24 (by kernel_rfl) rfl (by kernel_rfl) ⟨.inr (lv0 _ _ _), ⟨.inr (lv0 _ _ _), ⟨.inr (lull_n _ _ _), ⟨.inr (lv0 _ _ _), ⟨.inr (lull_n _ _ _), ⟨.inr (lull_n _ _ _), ⟨.inr (lv0 _ _ _), trivial⟩⟩⟩⟩⟩⟩⟩
    snkAt0 snk0 ⟨rfl, ⟨rfl, trivial⟩⟩
   (Oc3 (fun a w X_ h => g_atq 0 (by decide) (wq0 rfl) rfl h.1)
   (Oc3 (fun a w X_ h => g_ldq0 NP0.out (wq0 rfl) rfl h.1 (X_.at_ R1.out.1 out0 R1.out.2))
   (Oc3 (fun a w X_ h => g_ldn N3.out (wq0 rfl) rfl h.1 (X_.at_ R3.out.1 out0 R3.out.2))
   (Oc3 (fun a w X_ h => g_call2 (wq0 rfl) (by kernel_rfl) rfl (n_mul h.1 h.2.1))
   (Oc3 (fun a w X_ h => g_call1 (wq0 rfl) (by kernel_rfl) rfl (n_odd h.1 (iff_t HO.out)))
      OkL3.nil))))) ?_
  rintro W4 X4 _ rfl v14 - v15 - v16 - _ rfl
  refine Fd3 ?_
  simp only [Act.put, List.setIfInBounds_toArray, List.set_cons_zero, List.set_cons_succ]
  replace OW := hide (OW.out.ext X4.ext)
  replace BEL := hide (Below.chain BEL.out X4.ext)
  clear X4 R1 R3 SZ
  have hlen : (bys (y1 * kinv z1).val 32).length = 32 := bys_len _ _
  obtain ⟨g, cap, rfl, hg1, hg2, hcap, hcm⟩ := OW.out.form (by omega)
  have c31 : W4.cell? ⟨g, 31, none⟩ = some (.int .u8 ((byt (y1 * kinv z1).val 31 : Nat) : Int)) := by
    rw [OW.out.row.cellAt 31 (by omega), nv_get _ 31 (by omega), bys_get _ 32 31 (Nat.le_refl _), if_pos (by decide)]
  have f31 := OW.out.row.frozenAt 31
  have hb := byt31 (y1 * kinv z1).isLt
  have e2 := bits_or128 _ hb
  have OA := hide (OW.out.set 31 (byt (y1 * kinv z1).val 31 + 128) (by omega))
  have hl : (bys (y1 * kinv z1).val 32).set 31 (byt (y1 * kinv z1).val 31 + 128) = LL := by rw [← EL.out]; unfold pkb; rw [if_pos HO.out]
  rw [hl, hlen] at OA
  rw [hlen] at hcap ⊢
  have B1 := hide (BEL.out.setCell (p := ⟨g, 31, none⟩) (by show w.heap.size ≤ g; omega) (.int .u8 ((byt (y1 * kinv z1).val 31 + 128 : Nat) : Int)))
  generalize byt (y1 * kinv z1).val 31 = z31 at *
  generalize z31 + 128 = z32 at *
  clear hl EL HO hlen hb OW BEL
  go_wp2
  go_ret
  exact ⟨_, rfl, B1.out, HR.out _ _ OA.out.at⟩
theorem r_pack {P : Pt} {u : Value} {w : World} (h1 : (qp P).p w u) : Hands Tryz.prog 16 #[u] w (isb (pkb P.x P.y)) := by
  obtain ⟨C, rfl, x1, y1, z1, t1, hq1, he1⟩ := h1
  rw [← ex_x he1, ← ex_y he1]
  by_cases ho : (x1 * kinv z1).val % 2 = 1
  · exact q_pack1 hq1 ho
  · exact q_pack0 hq1 ho
end Go.Proofs.YtobgimpkkjaolaaGreatDoor
