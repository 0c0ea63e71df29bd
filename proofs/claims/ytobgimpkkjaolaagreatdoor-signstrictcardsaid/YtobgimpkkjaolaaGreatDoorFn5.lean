/- A point's bytes, as the program answers them. -/
import Derived.Test.YtobgimpkkjaolaaGreatDoorClone
import Derived.Test.YtobgimpkkjaolaaGreatDoorTyW
namespace Go.Proofs.YtobgimpkkjaolaaGreatDoor
open Go.RowKit
theorem k_bytes {y : Kp} {u : Value} {w : World} {B : Nat} (h1 : u = .agg (el y.val)) (hB : B ≤ w.heap.size) : Hands Tryz.prog 70 #[u] w (ownb B (bys y.val 32)) := by
  subst h1
  refine (bytes_any y.val y.isLt w).mono ?_
  rintro e w' ⟨g, rfl, hg, hg2, hr, hb⟩
  refine ⟨_, rfl, hb, ?_⟩
  have h := own_of_row (w := w') (base := B) (g := g) (l := bys y.val 32) (Nat.le_trans hB hg) hr (bys_lim _) (by rw [bys_len]; decide)
  rw [bys_len] at h
  exact h
set_option maxRecDepth 100000 in
set_option maxHeartbeats 2000000 in
theorem p_bytes0 (x y : Kp) (w : World) (ho : ¬ x.val % 2 = 1) : Calls Tryz.prog 33 #[.agg (pe x (y - 1))] w fun e w' => ∃ v, e = .returned v ∧ Own w' w.heap.size v (pkb x y) ∧ Below w.heap.size w w' := by
  obtain ⟨LL, hLL⟩ : ∃ l, pkb x y = l := ⟨_, rfl⟩
  rw [hLL]
  have EL := hide hLL
  clear hLL
  have HO := hide ho
  obtain ⟨A0, hA0⟩ : ∃ A_, A_ = pe x (y - 1) := ⟨_, rfl⟩
  rw [← hA0]
  have EA0 := hide hA0
  clear hA0
  clear ho
  go_enter Tryz.func33, Tryz.ntmps33
  go_upto_region 1 with fail
  refine cut_world (fun W => Below w.heap.size w W ∧ (w.heap.size < W.heap.size ∧ W.heap[w.heap.size]? = some (.cells A0 49 (0, 0)))) ⟨(Below.refl _ _).alloc (Nat.le_refl _) _, by simp, heap_alloc_last _ _⟩ ?_
  rintro W1 ⟨BEL, R1⟩
  replace BEL := hide BEL
  have SZ := hide BEL.out.size
  replace R1 := hide R1
  have hA0 := EA0.out
  subst hA0
  clear EA0
  have SW1 := (R1.out.1)
  refine wp_region_lined (tys := fun ix_ => List.getD [isv (.pointer (some ⟨w.heap.size, 0, none⟩)), ipt x y, isk y, ownb w.heap.size (bys y.val 32)] ix_ anyv) (pre := [(1, 0)])
    (plan := [([(1, 0)], 1), ([(4, 1)], 2), ([(5, 2)], 3), ([(6, 3)], 3)])
    16 (by kernel_rfl) rfl ⟨rfl, trivial⟩
      (OkL.cons (fun a w X_ h => g_ldp (wq0 rfl) rfl h.1 ((Below.block X_ _ R1.out.1).trans R1.out.2))
      (OkL.cons (fun a w X_ h => g_call1 (wq0 rfl) (by kernel_rfl) rfl (p_y h.1))
      (OkL.cons (fun a w X_ h => g_call1 (wq0 rfl) (by kernel_rfl) rfl (k_bytes h.1 (Nat.le_trans SZ.out X_.size)))
      (OkL.cons (fun a w X_ h => g_move (wq0 rfl) (.inr rfl) h.1)
      OkL.nil)))) ?_
  rintro W2 X2 _ rfl _ rfl v6 - v3 k3
  refine FinL.done ?_
  simp only [Act.put, List.setIfInBounds_toArray, List.set_cons_zero, List.set_cons_succ]
  replace R1 := hide (And.intro (Nat.lt_of_lt_of_le R1.out.1 (Below.size X2)) ((Below.block X2 _ R1.out.1).trans R1.out.2))
  replace BEL := hide (Below.chain BEL.out X2)
  replace SZ := hide BEL.out.size
  have OW : Hid (Own W2 w.heap.size v3 (bys y.val 32)) := k3
  clear X2 k3
  go_upto_region 2 with fail
  refine wrl3 (tl := [isv (.pointer (some ⟨w.heap.size, 0, none⟩)), isk x, isv (.bool false)]) (pre := [(1, 0)])
    (plan := [.val [(1, 0)] 0, .val [(7, 0)] 1, .val [(8, 1)] 2])
    [] [] [] 16 (by kernel_rfl) rfl (by kernel_rfl) ⟨.inr (lv0 _ _ _), ⟨.inr (lull_k _ _ _), ⟨.inr (lv0 _ _ _), trivial⟩⟩⟩
    snkAt0 snk0 ⟨rfl, trivial⟩
   (Oc3 (fun a w X_ h => g_fld (wq0 rfl) rfl h.1 atP0)
   (Oc3 (fun a w X_ h => g_ldp0 (wq0 rfl) rfl h.1 (X_.at_ R1.out.1 out0 R1.out.2))
   (Oc3 (fun a w X_ h => g_call1 (wq0 rfl) (by kernel_rfl) rfl (k_odd_f h.1 HO.out))
      OkL3.nil))) ?_
  rintro W3 X3 _ rfl _ rfl _ rfl
  refine Fd3 ?_
  simp only [Act.put, List.setIfInBounds_toArray, List.set_cons_zero, List.set_cons_succ]
  replace OW := hide (OW.out.ext X3.ext)
  replace BEL := hide (Below.chain BEL.out X3.ext)
  clear X3 R1 SZ SW1
  have hl : bys y.val 32 = LL := by rw [← EL.out]; unfold pkb; rw [if_neg HO.out]
  rw [hl] at OW
  clear hl EL HO
  go_wp2
  go_ret
  exact ⟨_, rfl, OW.out, BEL.out⟩
set_option maxRecDepth 100000 in
set_option maxHeartbeats 2000000 in
theorem p_bytes1 (x y : Kp) (w : World) (ho : x.val % 2 = 1) : Calls Tryz.prog 33 #[.agg (pe x (y - 1))] w fun e w' => ∃ v, e = .returned v ∧ Own w' w.heap.size v (pkb x y) ∧ Below w.heap.size w w' := by
  obtain ⟨LL, hLL⟩ : ∃ l, pkb x y = l := ⟨_, rfl⟩
  rw [hLL]
  have EL := hide hLL
  clear hLL
  have HO := hide ho
  obtain ⟨A0, hA0⟩ : ∃ A_, A_ = pe x (y - 1) := ⟨_, rfl⟩
  rw [← hA0]
  have EA0 := hide hA0
  clear hA0
  clear ho
  go_enter Tryz.func33, Tryz.ntmps33
  go_upto_region 1 with fail
  refine cut_world (fun W => Below w.heap.size w W ∧ (w.heap.size < W.heap.size ∧ W.heap[w.heap.size]? = some (.cells A0 49 (0, 0)))) ⟨(Below.refl _ _).alloc (Nat.le_refl _) _, by simp, heap_alloc_last _ _⟩ ?_
  rintro W1 ⟨BEL, R1⟩
  replace BEL := hide BEL
  have SZ := hide BEL.out.size
  replace R1 := hide R1
  have hA0 := EA0.out
  subst hA0
  clear EA0
  have SW1 := (R1.out.1)
  refine wp_region_lined (tys := fun ix_ => List.getD [isv (.pointer (some ⟨w.heap.size, 0, none⟩)), ipt x y, isk y, ownb w.heap.size (bys y.val 32)] ix_ anyv) (pre := [(1, 0)])
    (plan := [([(1, 0)], 1), ([(4, 1)], 2), ([(5, 2)], 3), ([(6, 3)], 3)])
    16 (by kernel_rfl) rfl ⟨rfl, trivial⟩
      (OkL.cons (fun a w X_ h => g_ldp (wq0 rfl) rfl h.1 ((Below.block X_ _ R1.out.1).trans R1.out.2))
      (OkL.cons (fun a w X_ h => g_call1 (wq0 rfl) (by kernel_rfl) rfl (p_y h.1))
      (OkL.cons (fun a w X_ h => g_call1 (wq0 rfl) (by kernel_rfl) rfl (k_bytes h.1 (Nat.le_trans SZ.out X_.size)))
      (OkL.cons (fun a w X_ h => g_move (wq0 rfl) (.inr rfl) h.1)
      OkL.nil)))) ?_
  rintro W2 X2 _ rfl _ rfl v6 - v3 k3
  refine FinL.done ?_
  simp only [Act.put, List.setIfInBounds_toArray, List.set_cons_zero, List.set_cons_succ]
  replace R1 := hide (And.intro (Nat.lt_of_lt_of_le R1.out.1 (Below.size X2)) ((Below.block X2 _ R1.out.1).trans R1.out.2))
  replace BEL := hide (Below.chain BEL.out X2)
  replace SZ := hide BEL.out.size
  have OW : Hid (Own W2 w.heap.size v3 (bys y.val 32)) := k3
  clear X2 k3
  go_upto_region 2 with fail
  refine wrl3 (tl := [isv (.pointer (some ⟨w.heap.size, 0, none⟩)), isk x, isv (.bool true)]) (pre := [(1, 0)])
    (plan := [.val [(1, 0)] 0, .val [(7, 0)] 1, .val [(8, 1)] 2])
    [] [] [] 16 (by kernel_rfl) rfl (by kernel_rfl) ⟨.inr (lv0 _ _ _), ⟨.inr (lull_k _ _ _), ⟨.inr (lv0 _ _ _), trivial⟩⟩⟩
    snkAt0 snk0 ⟨rfl, trivial⟩
   (Oc3 (fun a w X_ h => g_fld (wq0 rfl) rfl h.1 atP0)
   (Oc3 (fun a w X_ h => g_ldp0 (wq0 rfl) rfl h.1 (X_.at_ R1.out.1 out0 R1.out.2))
   (Oc3 (fun a w X_ h => g_call1 (wq0 rfl) (by kernel_rfl) rfl (k_odd_t h.1 HO.out))
      OkL3.nil))) ?_
  rintro W3 X3 _ rfl _ rfl _ rfl
  refine Fd3 ?_
  simp only [Act.put, List.setIfInBounds_toArray, List.set_cons_zero, List.set_cons_succ]
  replace OW := hide (OW.out.ext X3.ext)
  replace BEL := hide (Below.chain BEL.out X3.ext)
  clear X3 R1 SZ SW1
  have hlen : (bys y.val 32).length = 32 := bys_len _ _
  obtain ⟨g, cap, rfl, hg1, hg2, hcap, hcm⟩ := OW.out.form (by omega)
  have c31 : W3.cell? ⟨g, 31, none⟩ = some (.int .u8 ((byt y.val 31 : Nat) : Int)) := by
    rw [OW.out.row.cellAt 31 (by omega), nv_get _ 31 (by omega), bys_get _ 32 31 (Nat.le_refl _), if_pos (by decide)]
  have f31 := OW.out.row.frozenAt 31
  have hb := byt31 y.isLt
  have e2 := bits_or128 _ hb
  have OA := hide (OW.out.set 31 (byt y.val 31 + 128) (by omega))
  have hl : (bys y.val 32).set 31 (byt y.val 31 + 128) = LL := by rw [← EL.out]; unfold pkb; rw [if_pos HO.out]
  rw [hl, hlen] at OA
  rw [hlen] at hcap ⊢
  have B1 := hide (BEL.out.setCell (p := ⟨g, 31, none⟩) hg1 (.int .u8 ((byt y.val 31 + 128 : Nat) : Int)))
  generalize byt y.val 31 = z31 at *
  generalize z31 + 128 = z32 at *
  clear hl EL HO hlen hb OW BEL
  go_wp2
  go_ret
  exact ⟨_, rfl, OA.out, B1.out⟩
theorem p_bytes (x y : Kp) (w : World) : Calls Tryz.prog 33 #[.agg (pe x (y - 1))] w fun e w' => ∃ v, e = .returned v ∧ Own w' w.heap.size v (pkb x y) ∧ Below w.heap.size w w' := by
  by_cases h : x.val % 2 = 1
  · exact p_bytes1 x y w h
  · exact p_bytes0 x y w h
end Go.Proofs.YtobgimpkkjaolaaGreatDoor
