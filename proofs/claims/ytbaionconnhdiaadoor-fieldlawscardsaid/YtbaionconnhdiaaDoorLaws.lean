/- It is a field: the law FieldLaws answers true for all bytes of at most 100, in any world where the exponent lies as the program's text lays it. -/
import Derived.Test.YtbaionconnhdiaaDoorInv
namespace Go.Proofs.YtbaionconnhdiaaDoor
open Go.RowKit
set_option linter.unusedSimpArgs false in
set_option maxRecDepth 100000 in
set_option maxHeartbeats 8000000 in
theorem fieldLaws_any (u v t : Value) (bs cs ds : List Nat) (w : World) (LD0 : Laid w) (h0 : BsAt w u bs) (h1 : BsAt w v cs) (h2 : BsAt w t ds) (hl0 : bs.length ≤ 100) (hl1 : cs.length ≤ 100) (hl2 : ds.length ≤ 100) :
    Calls Tryd.prog 4 #[u, v, t] w fun e w' => e = .returned (.bool true) ∧ Below w.heap.size w w' := by
  have HF0 : Hid (∀ W, BsAt W u bs → Calls Tryd.prog 7 #[u] W fun e w' => e = .returned (.agg (el (bval (bs.take 32) % pp))) ∧ Below W.heap.size W w') := fun W h => from_any u bs hl0 W h
  have HF1 : Hid (∀ W, BsAt W v cs → Calls Tryd.prog 7 #[v] W fun e w' => e = .returned (.agg (el (bval (cs.take 32) % pp))) ∧ Below W.heap.size W w') := fun W h => from_any v cs hl1 W h
  have HF2 : Hid (∀ W, BsAt W t ds → Calls Tryd.prog 7 #[t] W fun e w' => e = .returned (.agg (el (bval (ds.take 32) % pp))) ∧ Below W.heap.size W w') := fun W h => from_any t ds hl2 W h
  have BS0 := hide h0
  have BS1 := hide h1
  have BS2 := hide h2
  have bx := pp_mod (bval (bs.take 32))
  have by_ := pp_mod (bval (cs.take 32))
  have bz := pp_mod (bval (ds.take 32))
  generalize bval (bs.take 32) % pp = x at *
  generalize bval (cs.take 32) % pp = y at *
  generalize bval (ds.take 32) % pp = z at *
  obtain ⟨xa0, xa1, xa2, xa3, he0⟩ : ∃ a b c d : Nat, el (x) = #[.int .u64 (a : Int), .int .u64 (b : Int), .int .u64 (c : Int), .int .u64 (d : Int)] := ⟨_, _, _, _, rfl⟩
  have HEx := hide he0.symm
  rw [he0] at HF0
  have HBx := hide bx
  obtain ⟨ya0, ya1, ya2, ya3, he1⟩ : ∃ a b c d : Nat, el (y) = #[.int .u64 (a : Int), .int .u64 (b : Int), .int .u64 (c : Int), .int .u64 (d : Int)] := ⟨_, _, _, _, rfl⟩
  have HEy := hide he1.symm
  rw [he1] at HF1
  have HBy := hide by_
  obtain ⟨za0, za1, za2, za3, he2⟩ : ∃ a b c d : Nat, el (z) = #[.int .u64 (a : Int), .int .u64 (b : Int), .int .u64 (c : Int), .int .u64 (d : Int)] := ⟨_, _, _, _, rfl⟩
  have HEz := hide he2.symm
  rw [he2] at HF2
  have HBz := hide bz
  obtain ⟨ao0, co0, rfl, _, hm0⟩ := h0.len
  have d0 : decide ((100 : Int) < (bs.length : Int)) = false := decide_eq_false (by omega)
  obtain ⟨ao1, co1, rfl, _, hm1⟩ := h1.len
  have d1 : decide ((100 : Int) < (cs.length : Int)) = false := decide_eq_false (by omega)
  obtain ⟨ao2, co2, rfl, _, hm2⟩ := h2.len
  have d2 : decide ((100 : Int) < (ds.length : Int)) = false := decide_eq_false (by omega)
  have HLL := hide (And.intro hl0 (And.intro hl1 hl2))
  have LD := hide LD0
  clear LD0 h0 he0 hl0 h1 he1 hl1 h2 he2 hl2
  have G1 : Hid ((x + y) % pp = (y + x) % pp) := by show _ = _; rw [Nat.add_comm]
  have G2 : Hid (x * y % pp = y * x % pp) := by show _ = _; rw [Nat.mul_comm]
  have G3 := hide (add_assoc_mod x y z)
  have G4 := hide (mul_assoc_mod x y z)
  have G5 := hide (distrib_mod x y z)
  have G6 := hide (sub_add x y bx by_)
  have G7 := hide (decide_eq_true (add_neg x bx))
  have G8 := hide (mul_one_mod x bx)
  have h1 := small_any 1 (by decide)
  obtain ⟨oa0, oa1, oa2, oa3, heo⟩ : ∃ a b c d : Nat, el (1) = #[.int .u64 (a : Int), .int .u64 (b : Int), .int .u64 (c : Int), .int .u64 (d : Int)] := ⟨_, _, _, _, rfl⟩
  have HEo := hide heo.symm
  have HBo : Hid (1 < pp) := by show 1 < pp; decide
  rw [heo] at h1
  clear bx by_ bz heo
  go_enter Tryd.func4, Tryd.ntmps4
  go_wp2_with fail
  refine (HF0.out _ (BS0.out)).mono ?_
  rintro e w1 ⟨rfl, f0⟩
  go_wp2_with fail
  refine (HF1.out _ (BS1.out.ext f0)).mono ?_
  rintro e w2 ⟨rfl, f1⟩
  go_wp2_with fail
  refine (HF2.out _ (BS2.out.ext (Below.chain f0 f1))).mono ?_
  rintro e w3 ⟨rfl, f2⟩
  have FB := hide (Below.chain (Below.chain (f0) f1) f2)
  replace LD := hide (LD.out.step FB.out)
  clear f0 f1 f2
  have T4 := hide ((((At.nil FB.out).alloc #[.int .u64 (xa0 : Int), .int .u64 (xa1 : Int), .int .u64 (xa2 : Int), .int .u64 (xa3 : Int)] 29).alloc #[.int .u64 (ya0 : Int), .int .u64 (ya1 : Int), .int .u64 (ya2 : Int), .int .u64 (ya3 : Int)] 29).alloc #[.int .u64 (za0 : Int), .int .u64 (za1 : Int), .int .u64 (za2 : Int), .int .u64 (za3 : Int)] 29)
  simp only [World.size_alloc] at T4
  replace LD := hide (LD.out.step (below3 w3 (.cells #[.int .u64 (xa0 : Int), .int .u64 (xa1 : Int), .int .u64 (xa2 : Int), .int .u64 (xa3 : Int)] 29) (.cells #[.int .u64 (ya0 : Int), .int .u64 (ya1 : Int), .int .u64 (ya2 : Int), .int .u64 (ya3 : Int)] 29) (.cells #[.int .u64 (za0 : Int), .int .u64 (za1 : Int), .int .u64 (za2 : Int), .int .u64 (za3 : Int)] 29)))
  go_wp2_with fail
  refine (h1 _).mono ?_
  rintro e w4 ⟨rfl, g1⟩
  replace T4 := hide ((T4.out.step g1).alloc #[.int .u64 (oa0 : Int), .int .u64 (oa1 : Int), .int .u64 (oa2 : Int), .int .u64 (oa3 : Int)] 29)
  replace LD := hide ((LD.out.step g1).step ((Below.refl _ _).alloc (Nat.le_refl _) (.cells #[.int .u64 (oa0 : Int), .int .u64 (oa1 : Int), .int .u64 (oa2 : Int), .int .u64 (oa3 : Int)] 29)))
  clear g1 h1
  go_wp2_with fail
  generalize w4.alloc (.cells #[.int .u64 (oa0 : Int), .int .u64 (oa1 : Int), .int .u64 (oa2 : Int), .int .u64 (oa3 : Int)] 29) = W4 at *
  refine wp_region_ext (by kernel_rfl) ?_
  replace T4 := hide T4.out.drew
  replace LD := hide LD.out.drew
  have ra := T4.out.grd (p := w3.heap.size) (T := 29) (A := #[.int .u64 (xa0 : Int), .int .u64 (xa1 : Int), .int .u64 (xa2 : Int), .int .u64 (xa3 : Int)]) (by simp)
  have rb := T4.out.grd (p := w3.heap.size + 1) (T := 29) (A := #[.int .u64 (ya0 : Int), .int .u64 (ya1 : Int), .int .u64 (ya2 : Int), .int .u64 (ya3 : Int)]) (by simp)
  have rc := T4.out.grd (p := w3.heap.size + 1 + 1) (T := 29) (A := #[.int .u64 (za0 : Int), .int .u64 (za1 : Int), .int .u64 (za2 : Int), .int .u64 (za3 : Int)]) (by simp)
  have ro := T4.out.grd (p := w4.heap.size) (T := 29) (A := #[.int .u64 (oa0 : Int), .int .u64 (oa1 : Int), .int .u64 (oa2 : Int), .int .u64 (oa3 : Int)]) (by simp)
  refine wpE_take (i := 0) (v := ?va1) rfl (by kernel_rfl) (by kernel_rfl) (by kernel_rfl) (fun _ _ _ h => h) rfl ?ya1 ?ra1
  case ya1 => (intro w' hw'; go_simp; try rfl)
  simp only [List.getElem_toArray, List.getElem_cons_zero, List.getElem_cons_succ, Act.put, List.setIfInBounds_toArray, List.set_cons_zero, List.set_cons_succ]
  refine wpE_take (i := 1) (v := ?va2) rfl (by kernel_rfl) (by kernel_rfl) (by kernel_rfl) (fun _ _ _ h => h) rfl ?ya2 ?ra2
  case ya2 => (intro w' hw'; go_simp; try rfl)
  simp only [List.getElem_toArray, List.getElem_cons_zero, List.getElem_cons_succ, Act.put, List.setIfInBounds_toArray, List.set_cons_zero, List.set_cons_succ]
  refine wpE_take (i := 3) (v := ?va3) rfl (by kernel_rfl) (by kernel_rfl) (by kernel_rfl) (fun _ _ _ h => h) rfl ?ya3 ?ra3
  case ya3 => (intro w' hw'; go_simp; try rfl)
  simp only [List.getElem_toArray, List.getElem_cons_zero, List.getElem_cons_succ, Act.put, List.setIfInBounds_toArray, List.set_cons_zero, List.set_cons_succ]
  refine wpE_take (i := 4) (v := ?va4) rfl (by kernel_rfl) (by kernel_rfl) (by kernel_rfl) (fun _ _ _ h => h) rfl ?ya4 ?ra4
  case ya4 => (intro w' hw'; go_simp; try rfl)
  simp only [List.getElem_toArray, List.getElem_cons_zero, List.getElem_cons_succ, Act.put, List.setIfInBounds_toArray, List.set_cons_zero, List.set_cons_succ]
  refine wpE_call (i := 2) (f := 10) (vals := #[.agg (#[.int .u64 (xa0 : Int), .int .u64 (xa1 : Int), .int .u64 (xa2 : Int), .int .u64 (xa3 : Int)]), .agg (#[.int .u64 (ya0 : Int), .int .u64 (ya1 : Int), .int .u64 (ya2 : Int), .int .u64 (ya3 : Int)])]) (by kernel_rfl) rfl rfl (by go_simp) (add_gen HEx.out HEy.out HBx.out HBy.out _) ?_
  rintro e w5 ⟨rfl, b5⟩
  refine ⟨_, rfl, b5, ?_⟩
  replace T4 := hide (T4.out.step b5)
  replace LD := hide (LD.out.step b5)
  clear b5 ra rb rc ro
  have ra := T4.out.grd (p := w3.heap.size) (T := 29) (A := #[.int .u64 (xa0 : Int), .int .u64 (xa1 : Int), .int .u64 (xa2 : Int), .int .u64 (xa3 : Int)]) (by simp)
  have rb := T4.out.grd (p := w3.heap.size + 1) (T := 29) (A := #[.int .u64 (ya0 : Int), .int .u64 (ya1 : Int), .int .u64 (ya2 : Int), .int .u64 (ya3 : Int)]) (by simp)
  have rc := T4.out.grd (p := w3.heap.size + 1 + 1) (T := 29) (A := #[.int .u64 (za0 : Int), .int .u64 (za1 : Int), .int .u64 (za2 : Int), .int .u64 (za3 : Int)]) (by simp)
  have ro := T4.out.grd (p := w4.heap.size) (T := 29) (A := #[.int .u64 (oa0 : Int), .int .u64 (oa1 : Int), .int .u64 (oa2 : Int), .int .u64 (oa3 : Int)]) (by simp)
  simp only [List.getElem_toArray, List.getElem_cons_zero, List.getElem_cons_succ, Act.put, List.setIfInBounds_toArray, List.set_cons_zero, List.set_cons_succ]
  refine wpE_call (i := 5) (f := 10) (vals := #[.agg (#[.int .u64 (ya0 : Int), .int .u64 (ya1 : Int), .int .u64 (ya2 : Int), .int .u64 (ya3 : Int)]), .agg (#[.int .u64 (xa0 : Int), .int .u64 (xa1 : Int), .int .u64 (xa2 : Int), .int .u64 (xa3 : Int)])]) (by kernel_rfl) rfl rfl (by go_simp) (add_gen HEy.out HEx.out HBy.out HBx.out _) ?_
  rintro e w5 ⟨rfl, b5⟩
  refine ⟨_, rfl, b5, ?_⟩
  replace T4 := hide (T4.out.step b5)
  replace LD := hide (LD.out.step b5)
  clear b5 ra rb rc ro
  have ra := T4.out.grd (p := w3.heap.size) (T := 29) (A := #[.int .u64 (xa0 : Int), .int .u64 (xa1 : Int), .int .u64 (xa2 : Int), .int .u64 (xa3 : Int)]) (by simp)
  have rb := T4.out.grd (p := w3.heap.size + 1) (T := 29) (A := #[.int .u64 (ya0 : Int), .int .u64 (ya1 : Int), .int .u64 (ya2 : Int), .int .u64 (ya3 : Int)]) (by simp)
  have rc := T4.out.grd (p := w3.heap.size + 1 + 1) (T := 29) (A := #[.int .u64 (za0 : Int), .int .u64 (za1 : Int), .int .u64 (za2 : Int), .int .u64 (za3 : Int)]) (by simp)
  have ro := T4.out.grd (p := w4.heap.size) (T := 29) (A := #[.int .u64 (oa0 : Int), .int .u64 (oa1 : Int), .int .u64 (oa2 : Int), .int .u64 (oa3 : Int)]) (by simp)
  simp only [List.getElem_toArray, List.getElem_cons_zero, List.getElem_cons_succ, Act.put, List.setIfInBounds_toArray, List.set_cons_zero, List.set_cons_succ]
  refine wpE_call (i := 6) (f := 21) (vals := #[.agg (el ((x + y) % pp)), .agg (el ((y + x) % pp))]) (by kernel_rfl) rfl rfl (by go_simp) (same_gen rfl rfl (pp_mod _) (pp_mod _) G1.out _) ?_
  rintro e w5 ⟨rfl, b5⟩
  refine ⟨_, rfl, b5, ?_⟩
  replace T4 := hide (T4.out.step b5)
  replace LD := hide (LD.out.step b5)
  clear b5 ra rb rc ro
  have ra := T4.out.grd (p := w3.heap.size) (T := 29) (A := #[.int .u64 (xa0 : Int), .int .u64 (xa1 : Int), .int .u64 (xa2 : Int), .int .u64 (xa3 : Int)]) (by simp)
  have rb := T4.out.grd (p := w3.heap.size + 1) (T := 29) (A := #[.int .u64 (ya0 : Int), .int .u64 (ya1 : Int), .int .u64 (ya2 : Int), .int .u64 (ya3 : Int)]) (by simp)
  have rc := T4.out.grd (p := w3.heap.size + 1 + 1) (T := 29) (A := #[.int .u64 (za0 : Int), .int .u64 (za1 : Int), .int .u64 (za2 : Int), .int .u64 (za3 : Int)]) (by simp)
  have ro := T4.out.grd (p := w4.heap.size) (T := 29) (A := #[.int .u64 (oa0 : Int), .int .u64 (oa1 : Int), .int .u64 (oa2 : Int), .int .u64 (oa3 : Int)]) (by simp)
  simp only [List.getElem_toArray, List.getElem_cons_zero, List.getElem_cons_succ, Act.put, List.setIfInBounds_toArray, List.set_cons_zero, List.set_cons_succ]
  refine wpE_take (i := 7) (v := ?va5) rfl (by kernel_rfl) (by kernel_rfl) (by kernel_rfl) (fun _ _ _ h => h) rfl ?ya5 ?ra5
  case ya5 => (intro w' hw'; go_simp; try rfl)
  simp only [List.getElem_toArray, List.getElem_cons_zero, List.getElem_cons_succ, Act.put, List.setIfInBounds_toArray, List.set_cons_zero, List.set_cons_succ]
  refine wpE_take (i := 8) (v := ?va6) rfl (by kernel_rfl) (by kernel_rfl) (by kernel_rfl) (fun _ _ _ h => h) rfl ?ya6 ?ra6
  case ya6 => (intro w' hw'; go_simp; try rfl)
  simp only [List.getElem_toArray, List.getElem_cons_zero, List.getElem_cons_succ, Act.put, List.setIfInBounds_toArray, List.set_cons_zero, List.set_cons_succ]
  refine wpE_take (i := 9) (v := ?va7) rfl (by kernel_rfl) (by kernel_rfl) (by kernel_rfl) (fun _ _ _ h => h) rfl ?ya7 ?ra7
  case ya7 => (intro w' hw'; go_simp; try rfl)
  simp only [List.getElem_toArray, List.getElem_cons_zero, List.getElem_cons_succ, Act.put, List.setIfInBounds_toArray, List.set_cons_zero, List.set_cons_succ]
  refine wpE_take (i := 10) (v := ?va8) rfl (by kernel_rfl) (by kernel_rfl) (by kernel_rfl) (fun _ _ _ h => h) rfl ?ya8 ?ra8
  case ya8 => (intro w' hw'; go_simp; try rfl)
  simp only [List.getElem_toArray, List.getElem_cons_zero, List.getElem_cons_succ, Act.put, List.setIfInBounds_toArray, List.set_cons_zero, List.set_cons_succ]
  refine wpE_take (i := 12) (v := ?va9) rfl (by kernel_rfl) (by kernel_rfl) (by kernel_rfl) (fun _ _ _ h => h) rfl ?ya9 ?ra9
  case ya9 => (intro w' hw'; go_simp; try rfl)
  simp only [List.getElem_toArray, List.getElem_cons_zero, List.getElem_cons_succ, Act.put, List.setIfInBounds_toArray, List.set_cons_zero, List.set_cons_succ]
  refine wpE_take (i := 13) (v := ?va10) rfl (by kernel_rfl) (by kernel_rfl) (by kernel_rfl) (fun _ _ _ h => h) rfl ?ya10 ?ra10
  case ya10 => (intro w' hw'; go_simp; try rfl)
  simp only [List.getElem_toArray, List.getElem_cons_zero, List.getElem_cons_succ, Act.put, List.setIfInBounds_toArray, List.set_cons_zero, List.set_cons_succ]
  refine wpE_call (i := 11) (f := 14) (vals := #[.agg (#[.int .u64 (xa0 : Int), .int .u64 (xa1 : Int), .int .u64 (xa2 : Int), .int .u64 (xa3 : Int)]), .agg (#[.int .u64 (ya0 : Int), .int .u64 (ya1 : Int), .int .u64 (ya2 : Int), .int .u64 (ya3 : Int)])]) (by kernel_rfl) rfl rfl (by go_simp) (mul_gen HEx.out HEy.out HBx.out HBy.out _) ?_
  rintro e w5 ⟨rfl, b5⟩
  refine ⟨_, rfl, b5, ?_⟩
  replace T4 := hide (T4.out.step b5)
  replace LD := hide (LD.out.step b5)
  clear b5 ra rb rc ro
  have ra := T4.out.grd (p := w3.heap.size) (T := 29) (A := #[.int .u64 (xa0 : Int), .int .u64 (xa1 : Int), .int .u64 (xa2 : Int), .int .u64 (xa3 : Int)]) (by simp)
  have rb := T4.out.grd (p := w3.heap.size + 1) (T := 29) (A := #[.int .u64 (ya0 : Int), .int .u64 (ya1 : Int), .int .u64 (ya2 : Int), .int .u64 (ya3 : Int)]) (by simp)
  have rc := T4.out.grd (p := w3.heap.size + 1 + 1) (T := 29) (A := #[.int .u64 (za0 : Int), .int .u64 (za1 : Int), .int .u64 (za2 : Int), .int .u64 (za3 : Int)]) (by simp)
  have ro := T4.out.grd (p := w4.heap.size) (T := 29) (A := #[.int .u64 (oa0 : Int), .int .u64 (oa1 : Int), .int .u64 (oa2 : Int), .int .u64 (oa3 : Int)]) (by simp)
  simp only [List.getElem_toArray, List.getElem_cons_zero, List.getElem_cons_succ, Act.put, List.setIfInBounds_toArray, List.set_cons_zero, List.set_cons_succ]
  refine wpE_call (i := 14) (f := 14) (vals := #[.agg (#[.int .u64 (ya0 : Int), .int .u64 (ya1 : Int), .int .u64 (ya2 : Int), .int .u64 (ya3 : Int)]), .agg (#[.int .u64 (xa0 : Int), .int .u64 (xa1 : Int), .int .u64 (xa2 : Int), .int .u64 (xa3 : Int)])]) (by kernel_rfl) rfl rfl (by go_simp) (mul_gen HEy.out HEx.out HBy.out HBx.out _) ?_
  rintro e w5 ⟨rfl, b5⟩
  refine ⟨_, rfl, b5, ?_⟩
  replace T4 := hide (T4.out.step b5)
  replace LD := hide (LD.out.step b5)
  clear b5 ra rb rc ro
  have ra := T4.out.grd (p := w3.heap.size) (T := 29) (A := #[.int .u64 (xa0 : Int), .int .u64 (xa1 : Int), .int .u64 (xa2 : Int), .int .u64 (xa3 : Int)]) (by simp)
  have rb := T4.out.grd (p := w3.heap.size + 1) (T := 29) (A := #[.int .u64 (ya0 : Int), .int .u64 (ya1 : Int), .int .u64 (ya2 : Int), .int .u64 (ya3 : Int)]) (by simp)
  have rc := T4.out.grd (p := w3.heap.size + 1 + 1) (T := 29) (A := #[.int .u64 (za0 : Int), .int .u64 (za1 : Int), .int .u64 (za2 : Int), .int .u64 (za3 : Int)]) (by simp)
  have ro := T4.out.grd (p := w4.heap.size) (T := 29) (A := #[.int .u64 (oa0 : Int), .int .u64 (oa1 : Int), .int .u64 (oa2 : Int), .int .u64 (oa3 : Int)]) (by simp)
  simp only [List.getElem_toArray, List.getElem_cons_zero, List.getElem_cons_succ, Act.put, List.setIfInBounds_toArray, List.set_cons_zero, List.set_cons_succ]
  refine wpE_call (i := 15) (f := 21) (vals := #[.agg (el (x * y % pp)), .agg (el (y * x % pp))]) (by kernel_rfl) rfl rfl (by go_simp) (same_gen rfl rfl (pp_mod _) (pp_mod _) G2.out _) ?_
  rintro e w5 ⟨rfl, b5⟩
  refine ⟨_, rfl, b5, ?_⟩
  replace T4 := hide (T4.out.step b5)
  replace LD := hide (LD.out.step b5)
  clear b5 ra rb rc ro
  have ra := T4.out.grd (p := w3.heap.size) (T := 29) (A := #[.int .u64 (xa0 : Int), .int .u64 (xa1 : Int), .int .u64 (xa2 : Int), .int .u64 (xa3 : Int)]) (by simp)
  have rb := T4.out.grd (p := w3.heap.size + 1) (T := 29) (A := #[.int .u64 (ya0 : Int), .int .u64 (ya1 : Int), .int .u64 (ya2 : Int), .int .u64 (ya3 : Int)]) (by simp)
  have rc := T4.out.grd (p := w3.heap.size + 1 + 1) (T := 29) (A := #[.int .u64 (za0 : Int), .int .u64 (za1 : Int), .int .u64 (za2 : Int), .int .u64 (za3 : Int)]) (by simp)
  have ro := T4.out.grd (p := w4.heap.size) (T := 29) (A := #[.int .u64 (oa0 : Int), .int .u64 (oa1 : Int), .int .u64 (oa2 : Int), .int .u64 (oa3 : Int)]) (by simp)
  simp only [List.getElem_toArray, List.getElem_cons_zero, List.getElem_cons_succ, Act.put, List.setIfInBounds_toArray, List.set_cons_zero, List.set_cons_succ]
  refine wpE_take (i := 16) (v := ?va11) rfl (by kernel_rfl) (by kernel_rfl) (by kernel_rfl) (fun _ _ _ h => h) rfl ?ya11 ?ra11
  case ya11 => (intro w' hw'; go_simp; try rfl)
  simp only [List.getElem_toArray, List.getElem_cons_zero, List.getElem_cons_succ, Act.put, List.setIfInBounds_toArray, List.set_cons_zero, List.set_cons_succ]
  refine wpE_take (i := 17) (v := ?va12) rfl (by kernel_rfl) (by kernel_rfl) (by kernel_rfl) (fun _ _ _ h => h) rfl ?ya12 ?ra12
  case ya12 => (intro w' hw'; go_simp; try rfl)
  simp only [List.getElem_toArray, List.getElem_cons_zero, List.getElem_cons_succ, Act.put, List.setIfInBounds_toArray, List.set_cons_zero, List.set_cons_succ]
  refine wpE_take (i := 18) (v := ?va13) rfl (by kernel_rfl) (by kernel_rfl) (by kernel_rfl) (fun _ _ _ h => h) rfl ?ya13 ?ra13
  case ya13 => (intro w' hw'; go_simp; try rfl)
  simp only [List.getElem_toArray, List.getElem_cons_zero, List.getElem_cons_succ, Act.put, List.setIfInBounds_toArray, List.set_cons_zero, List.set_cons_succ]
  refine wpE_take (i := 19) (v := ?va14) rfl (by kernel_rfl) (by kernel_rfl) (by kernel_rfl) (fun _ _ _ h => h) rfl ?ya14 ?ra14
  case ya14 => (intro w' hw'; go_simp; try rfl)
  simp only [List.getElem_toArray, List.getElem_cons_zero, List.getElem_cons_succ, Act.put, List.setIfInBounds_toArray, List.set_cons_zero, List.set_cons_succ]
  refine wpE_take (i := 20) (v := ?va15) rfl (by kernel_rfl) (by kernel_rfl) (by kernel_rfl) (fun _ _ _ h => h) rfl ?ya15 ?ra15
  case ya15 => (intro w' hw'; go_simp; try rfl)
  simp only [List.getElem_toArray, List.getElem_cons_zero, List.getElem_cons_succ, Act.put, List.setIfInBounds_toArray, List.set_cons_zero, List.set_cons_succ]
  refine wpE_take (i := 22) (v := ?va16) rfl (by kernel_rfl) (by kernel_rfl) (by kernel_rfl) (fun _ _ _ h => h) rfl ?ya16 ?ra16
  case ya16 => (intro w' hw'; go_simp; try rfl)
  simp only [List.getElem_toArray, List.getElem_cons_zero, List.getElem_cons_succ, Act.put, List.setIfInBounds_toArray, List.set_cons_zero, List.set_cons_succ]
  refine wpE_take (i := 24) (v := ?va17) rfl (by kernel_rfl) (by kernel_rfl) (by kernel_rfl) (fun _ _ _ h => h) rfl ?ya17 ?ra17
  case ya17 => (intro w' hw'; go_simp; try rfl)
  simp only [List.getElem_toArray, List.getElem_cons_zero, List.getElem_cons_succ, Act.put, List.setIfInBounds_toArray, List.set_cons_zero, List.set_cons_succ]
  refine wpE_take (i := 25) (v := ?va18) rfl (by kernel_rfl) (by kernel_rfl) (by kernel_rfl) (fun _ _ _ h => h) rfl ?ya18 ?ra18
  case ya18 => (intro w' hw'; go_simp; try rfl)
  simp only [List.getElem_toArray, List.getElem_cons_zero, List.getElem_cons_succ, Act.put, List.setIfInBounds_toArray, List.set_cons_zero, List.set_cons_succ]
  refine wpE_take (i := 26) (v := ?va19) rfl (by kernel_rfl) (by kernel_rfl) (by kernel_rfl) (fun _ _ _ h => h) rfl ?ya19 ?ra19
  case ya19 => (intro w' hw'; go_simp; try rfl)
  simp only [List.getElem_toArray, List.getElem_cons_zero, List.getElem_cons_succ, Act.put, List.setIfInBounds_toArray, List.set_cons_zero, List.set_cons_succ]
  refine wpE_call (i := 21) (f := 10) (vals := #[.agg (#[.int .u64 (xa0 : Int), .int .u64 (xa1 : Int), .int .u64 (xa2 : Int), .int .u64 (xa3 : Int)]), .agg (#[.int .u64 (ya0 : Int), .int .u64 (ya1 : Int), .int .u64 (ya2 : Int), .int .u64 (ya3 : Int)])]) (by kernel_rfl) rfl rfl (by go_simp) (add_gen HEx.out HEy.out HBx.out HBy.out _) ?_
  rintro e w5 ⟨rfl, b5⟩
  refine ⟨_, rfl, b5, ?_⟩
  replace T4 := hide (T4.out.step b5)
  replace LD := hide (LD.out.step b5)
  clear b5 ra rb rc ro
  have ra := T4.out.grd (p := w3.heap.size) (T := 29) (A := #[.int .u64 (xa0 : Int), .int .u64 (xa1 : Int), .int .u64 (xa2 : Int), .int .u64 (xa3 : Int)]) (by simp)
  have rb := T4.out.grd (p := w3.heap.size + 1) (T := 29) (A := #[.int .u64 (ya0 : Int), .int .u64 (ya1 : Int), .int .u64 (ya2 : Int), .int .u64 (ya3 : Int)]) (by simp)
  have rc := T4.out.grd (p := w3.heap.size + 1 + 1) (T := 29) (A := #[.int .u64 (za0 : Int), .int .u64 (za1 : Int), .int .u64 (za2 : Int), .int .u64 (za3 : Int)]) (by simp)
  have ro := T4.out.grd (p := w4.heap.size) (T := 29) (A := #[.int .u64 (oa0 : Int), .int .u64 (oa1 : Int), .int .u64 (oa2 : Int), .int .u64 (oa3 : Int)]) (by simp)
  simp only [List.getElem_toArray, List.getElem_cons_zero, List.getElem_cons_succ, Act.put, List.setIfInBounds_toArray, List.set_cons_zero, List.set_cons_succ]
  refine wpE_call (i := 23) (f := 10) (vals := #[.agg (el ((x + y) % pp)), .agg (#[.int .u64 (za0 : Int), .int .u64 (za1 : Int), .int .u64 (za2 : Int), .int .u64 (za3 : Int)])]) (by kernel_rfl) rfl rfl (by go_simp) (add_gen rfl HEz.out (pp_mod _) HBz.out _) ?_
  rintro e w5 ⟨rfl, b5⟩
  refine ⟨_, rfl, b5, ?_⟩
  replace T4 := hide (T4.out.step b5)
  replace LD := hide (LD.out.step b5)
  clear b5 ra rb rc ro
  have ra := T4.out.grd (p := w3.heap.size) (T := 29) (A := #[.int .u64 (xa0 : Int), .int .u64 (xa1 : Int), .int .u64 (xa2 : Int), .int .u64 (xa3 : Int)]) (by simp)
  have rb := T4.out.grd (p := w3.heap.size + 1) (T := 29) (A := #[.int .u64 (ya0 : Int), .int .u64 (ya1 : Int), .int .u64 (ya2 : Int), .int .u64 (ya3 : Int)]) (by simp)
  have rc := T4.out.grd (p := w3.heap.size + 1 + 1) (T := 29) (A := #[.int .u64 (za0 : Int), .int .u64 (za1 : Int), .int .u64 (za2 : Int), .int .u64 (za3 : Int)]) (by simp)
  have ro := T4.out.grd (p := w4.heap.size) (T := 29) (A := #[.int .u64 (oa0 : Int), .int .u64 (oa1 : Int), .int .u64 (oa2 : Int), .int .u64 (oa3 : Int)]) (by simp)
  simp only [List.getElem_toArray, List.getElem_cons_zero, List.getElem_cons_succ, Act.put, List.setIfInBounds_toArray, List.set_cons_zero, List.set_cons_succ]
  refine wpE_call (i := 27) (f := 10) (vals := #[.agg (#[.int .u64 (ya0 : Int), .int .u64 (ya1 : Int), .int .u64 (ya2 : Int), .int .u64 (ya3 : Int)]), .agg (#[.int .u64 (za0 : Int), .int .u64 (za1 : Int), .int .u64 (za2 : Int), .int .u64 (za3 : Int)])]) (by kernel_rfl) rfl rfl (by go_simp) (add_gen HEy.out HEz.out HBy.out HBz.out _) ?_
  rintro e w5 ⟨rfl, b5⟩
  refine ⟨_, rfl, b5, ?_⟩
  replace T4 := hide (T4.out.step b5)
  replace LD := hide (LD.out.step b5)
  clear b5 ra rb rc ro
  have ra := T4.out.grd (p := w3.heap.size) (T := 29) (A := #[.int .u64 (xa0 : Int), .int .u64 (xa1 : Int), .int .u64 (xa2 : Int), .int .u64 (xa3 : Int)]) (by simp)
  have rb := T4.out.grd (p := w3.heap.size + 1) (T := 29) (A := #[.int .u64 (ya0 : Int), .int .u64 (ya1 : Int), .int .u64 (ya2 : Int), .int .u64 (ya3 : Int)]) (by simp)
  have rc := T4.out.grd (p := w3.heap.size + 1 + 1) (T := 29) (A := #[.int .u64 (za0 : Int), .int .u64 (za1 : Int), .int .u64 (za2 : Int), .int .u64 (za3 : Int)]) (by simp)
  have ro := T4.out.grd (p := w4.heap.size) (T := 29) (A := #[.int .u64 (oa0 : Int), .int .u64 (oa1 : Int), .int .u64 (oa2 : Int), .int .u64 (oa3 : Int)]) (by simp)
  simp only [List.getElem_toArray, List.getElem_cons_zero, List.getElem_cons_succ, Act.put, List.setIfInBounds_toArray, List.set_cons_zero, List.set_cons_succ]
  refine wpE_call (i := 28) (f := 10) (vals := #[.agg (#[.int .u64 (xa0 : Int), .int .u64 (xa1 : Int), .int .u64 (xa2 : Int), .int .u64 (xa3 : Int)]), .agg (el ((y + z) % pp))]) (by kernel_rfl) rfl rfl (by go_simp) (add_gen HEx.out rfl HBx.out (pp_mod _) _) ?_
  rintro e w5 ⟨rfl, b5⟩
  refine ⟨_, rfl, b5, ?_⟩
  replace T4 := hide (T4.out.step b5)
  replace LD := hide (LD.out.step b5)
  clear b5 ra rb rc ro
  have ra := T4.out.grd (p := w3.heap.size) (T := 29) (A := #[.int .u64 (xa0 : Int), .int .u64 (xa1 : Int), .int .u64 (xa2 : Int), .int .u64 (xa3 : Int)]) (by simp)
  have rb := T4.out.grd (p := w3.heap.size + 1) (T := 29) (A := #[.int .u64 (ya0 : Int), .int .u64 (ya1 : Int), .int .u64 (ya2 : Int), .int .u64 (ya3 : Int)]) (by simp)
  have rc := T4.out.grd (p := w3.heap.size + 1 + 1) (T := 29) (A := #[.int .u64 (za0 : Int), .int .u64 (za1 : Int), .int .u64 (za2 : Int), .int .u64 (za3 : Int)]) (by simp)
  have ro := T4.out.grd (p := w4.heap.size) (T := 29) (A := #[.int .u64 (oa0 : Int), .int .u64 (oa1 : Int), .int .u64 (oa2 : Int), .int .u64 (oa3 : Int)]) (by simp)
  simp only [List.getElem_toArray, List.getElem_cons_zero, List.getElem_cons_succ, Act.put, List.setIfInBounds_toArray, List.set_cons_zero, List.set_cons_succ]
  refine wpE_call (i := 29) (f := 21) (vals := #[.agg (el ((((x + y) % pp) + z) % pp)), .agg (el ((x + ((y + z) % pp)) % pp))]) (by kernel_rfl) rfl rfl (by go_simp) (same_gen rfl rfl (pp_mod _) (pp_mod _) G3.out _) ?_
  rintro e w5 ⟨rfl, b5⟩
  refine ⟨_, rfl, b5, ?_⟩
  replace T4 := hide (T4.out.step b5)
  replace LD := hide (LD.out.step b5)
  clear b5 ra rb rc ro
  have ra := T4.out.grd (p := w3.heap.size) (T := 29) (A := #[.int .u64 (xa0 : Int), .int .u64 (xa1 : Int), .int .u64 (xa2 : Int), .int .u64 (xa3 : Int)]) (by simp)
  have rb := T4.out.grd (p := w3.heap.size + 1) (T := 29) (A := #[.int .u64 (ya0 : Int), .int .u64 (ya1 : Int), .int .u64 (ya2 : Int), .int .u64 (ya3 : Int)]) (by simp)
  have rc := T4.out.grd (p := w3.heap.size + 1 + 1) (T := 29) (A := #[.int .u64 (za0 : Int), .int .u64 (za1 : Int), .int .u64 (za2 : Int), .int .u64 (za3 : Int)]) (by simp)
  have ro := T4.out.grd (p := w4.heap.size) (T := 29) (A := #[.int .u64 (oa0 : Int), .int .u64 (oa1 : Int), .int .u64 (oa2 : Int), .int .u64 (oa3 : Int)]) (by simp)
  simp only [List.getElem_toArray, List.getElem_cons_zero, List.getElem_cons_succ, Act.put, List.setIfInBounds_toArray, List.set_cons_zero, List.set_cons_succ]
  refine wpE_take (i := 30) (v := ?va20) rfl (by kernel_rfl) (by kernel_rfl) (by kernel_rfl) (fun _ _ _ h => h) rfl ?ya20 ?ra20
  case ya20 => (intro w' hw'; go_simp; try rfl)
  simp only [List.getElem_toArray, List.getElem_cons_zero, List.getElem_cons_succ, Act.put, List.setIfInBounds_toArray, List.set_cons_zero, List.set_cons_succ]
  refine wpE_take (i := 31) (v := ?va21) rfl (by kernel_rfl) (by kernel_rfl) (by kernel_rfl) (fun _ _ _ h => h) rfl ?ya21 ?ra21
  case ya21 => (intro w' hw'; go_simp; try rfl)
  simp only [List.getElem_toArray, List.getElem_cons_zero, List.getElem_cons_succ, Act.put, List.setIfInBounds_toArray, List.set_cons_zero, List.set_cons_succ]
  refine wpE_take (i := 32) (v := ?va22) rfl (by kernel_rfl) (by kernel_rfl) (by kernel_rfl) (fun _ _ _ h => h) rfl ?ya22 ?ra22
  case ya22 => (intro w' hw'; go_simp; try rfl)
  simp only [List.getElem_toArray, List.getElem_cons_zero, List.getElem_cons_succ, Act.put, List.setIfInBounds_toArray, List.set_cons_zero, List.set_cons_succ]
  refine wpE_take (i := 33) (v := ?va23) rfl (by kernel_rfl) (by kernel_rfl) (by kernel_rfl) (fun _ _ _ h => h) rfl ?ya23 ?ra23
  case ya23 => (intro w' hw'; go_simp; try rfl)
  simp only [List.getElem_toArray, List.getElem_cons_zero, List.getElem_cons_succ, Act.put, List.setIfInBounds_toArray, List.set_cons_zero, List.set_cons_succ]
  refine wpE_take (i := 34) (v := ?va24) rfl (by kernel_rfl) (by kernel_rfl) (by kernel_rfl) (fun _ _ _ h => h) rfl ?ya24 ?ra24
  case ya24 => (intro w' hw'; go_simp; try rfl)
  simp only [List.getElem_toArray, List.getElem_cons_zero, List.getElem_cons_succ, Act.put, List.setIfInBounds_toArray, List.set_cons_zero, List.set_cons_succ]
  refine wpE_take (i := 36) (v := ?va25) rfl (by kernel_rfl) (by kernel_rfl) (by kernel_rfl) (fun _ _ _ h => h) rfl ?ya25 ?ra25
  case ya25 => (intro w' hw'; go_simp; try rfl)
  simp only [List.getElem_toArray, List.getElem_cons_zero, List.getElem_cons_succ, Act.put, List.setIfInBounds_toArray, List.set_cons_zero, List.set_cons_succ]
  refine wpE_take (i := 38) (v := ?va26) rfl (by kernel_rfl) (by kernel_rfl) (by kernel_rfl) (fun _ _ _ h => h) rfl ?ya26 ?ra26
  case ya26 => (intro w' hw'; go_simp; try rfl)
  simp only [List.getElem_toArray, List.getElem_cons_zero, List.getElem_cons_succ, Act.put, List.setIfInBounds_toArray, List.set_cons_zero, List.set_cons_succ]
  refine wpE_take (i := 39) (v := ?va27) rfl (by kernel_rfl) (by kernel_rfl) (by kernel_rfl) (fun _ _ _ h => h) rfl ?ya27 ?ra27
  case ya27 => (intro w' hw'; go_simp; try rfl)
  simp only [List.getElem_toArray, List.getElem_cons_zero, List.getElem_cons_succ, Act.put, List.setIfInBounds_toArray, List.set_cons_zero, List.set_cons_succ]
  refine wpE_take (i := 40) (v := ?va28) rfl (by kernel_rfl) (by kernel_rfl) (by kernel_rfl) (fun _ _ _ h => h) rfl ?ya28 ?ra28
  case ya28 => (intro w' hw'; go_simp; try rfl)
  simp only [List.getElem_toArray, List.getElem_cons_zero, List.getElem_cons_succ, Act.put, List.setIfInBounds_toArray, List.set_cons_zero, List.set_cons_succ]
  refine wpE_call (i := 35) (f := 14) (vals := #[.agg (#[.int .u64 (xa0 : Int), .int .u64 (xa1 : Int), .int .u64 (xa2 : Int), .int .u64 (xa3 : Int)]), .agg (#[.int .u64 (ya0 : Int), .int .u64 (ya1 : Int), .int .u64 (ya2 : Int), .int .u64 (ya3 : Int)])]) (by kernel_rfl) rfl rfl (by go_simp) (mul_gen HEx.out HEy.out HBx.out HBy.out _) ?_
  rintro e w5 ⟨rfl, b5⟩
  refine ⟨_, rfl, b5, ?_⟩
  replace T4 := hide (T4.out.step b5)
  replace LD := hide (LD.out.step b5)
  clear b5 ra rb rc ro
  have ra := T4.out.grd (p := w3.heap.size) (T := 29) (A := #[.int .u64 (xa0 : Int), .int .u64 (xa1 : Int), .int .u64 (xa2 : Int), .int .u64 (xa3 : Int)]) (by simp)
  have rb := T4.out.grd (p := w3.heap.size + 1) (T := 29) (A := #[.int .u64 (ya0 : Int), .int .u64 (ya1 : Int), .int .u64 (ya2 : Int), .int .u64 (ya3 : Int)]) (by simp)
  have rc := T4.out.grd (p := w3.heap.size + 1 + 1) (T := 29) (A := #[.int .u64 (za0 : Int), .int .u64 (za1 : Int), .int .u64 (za2 : Int), .int .u64 (za3 : Int)]) (by simp)
  have ro := T4.out.grd (p := w4.heap.size) (T := 29) (A := #[.int .u64 (oa0 : Int), .int .u64 (oa1 : Int), .int .u64 (oa2 : Int), .int .u64 (oa3 : Int)]) (by simp)
  simp only [List.getElem_toArray, List.getElem_cons_zero, List.getElem_cons_succ, Act.put, List.setIfInBounds_toArray, List.set_cons_zero, List.set_cons_succ]
  refine wpE_call (i := 37) (f := 14) (vals := #[.agg (el (x * y % pp)), .agg (#[.int .u64 (za0 : Int), .int .u64 (za1 : Int), .int .u64 (za2 : Int), .int .u64 (za3 : Int)])]) (by kernel_rfl) rfl rfl (by go_simp) (mul_gen rfl HEz.out (pp_mod _) HBz.out _) ?_
  rintro e w5 ⟨rfl, b5⟩
  refine ⟨_, rfl, b5, ?_⟩
  replace T4 := hide (T4.out.step b5)
  replace LD := hide (LD.out.step b5)
  clear b5 ra rb rc ro
  have ra := T4.out.grd (p := w3.heap.size) (T := 29) (A := #[.int .u64 (xa0 : Int), .int .u64 (xa1 : Int), .int .u64 (xa2 : Int), .int .u64 (xa3 : Int)]) (by simp)
  have rb := T4.out.grd (p := w3.heap.size + 1) (T := 29) (A := #[.int .u64 (ya0 : Int), .int .u64 (ya1 : Int), .int .u64 (ya2 : Int), .int .u64 (ya3 : Int)]) (by simp)
  have rc := T4.out.grd (p := w3.heap.size + 1 + 1) (T := 29) (A := #[.int .u64 (za0 : Int), .int .u64 (za1 : Int), .int .u64 (za2 : Int), .int .u64 (za3 : Int)]) (by simp)
  have ro := T4.out.grd (p := w4.heap.size) (T := 29) (A := #[.int .u64 (oa0 : Int), .int .u64 (oa1 : Int), .int .u64 (oa2 : Int), .int .u64 (oa3 : Int)]) (by simp)
  simp only [List.getElem_toArray, List.getElem_cons_zero, List.getElem_cons_succ, Act.put, List.setIfInBounds_toArray, List.set_cons_zero, List.set_cons_succ]
  refine wpE_call (i := 41) (f := 14) (vals := #[.agg (#[.int .u64 (ya0 : Int), .int .u64 (ya1 : Int), .int .u64 (ya2 : Int), .int .u64 (ya3 : Int)]), .agg (#[.int .u64 (za0 : Int), .int .u64 (za1 : Int), .int .u64 (za2 : Int), .int .u64 (za3 : Int)])]) (by kernel_rfl) rfl rfl (by go_simp) (mul_gen HEy.out HEz.out HBy.out HBz.out _) ?_
  rintro e w5 ⟨rfl, b5⟩
  refine ⟨_, rfl, b5, ?_⟩
  replace T4 := hide (T4.out.step b5)
  replace LD := hide (LD.out.step b5)
  clear b5 ra rb rc ro
  have ra := T4.out.grd (p := w3.heap.size) (T := 29) (A := #[.int .u64 (xa0 : Int), .int .u64 (xa1 : Int), .int .u64 (xa2 : Int), .int .u64 (xa3 : Int)]) (by simp)
  have rb := T4.out.grd (p := w3.heap.size + 1) (T := 29) (A := #[.int .u64 (ya0 : Int), .int .u64 (ya1 : Int), .int .u64 (ya2 : Int), .int .u64 (ya3 : Int)]) (by simp)
  have rc := T4.out.grd (p := w3.heap.size + 1 + 1) (T := 29) (A := #[.int .u64 (za0 : Int), .int .u64 (za1 : Int), .int .u64 (za2 : Int), .int .u64 (za3 : Int)]) (by simp)
  have ro := T4.out.grd (p := w4.heap.size) (T := 29) (A := #[.int .u64 (oa0 : Int), .int .u64 (oa1 : Int), .int .u64 (oa2 : Int), .int .u64 (oa3 : Int)]) (by simp)
  simp only [List.getElem_toArray, List.getElem_cons_zero, List.getElem_cons_succ, Act.put, List.setIfInBounds_toArray, List.set_cons_zero, List.set_cons_succ]
  refine wpE_call (i := 42) (f := 14) (vals := #[.agg (#[.int .u64 (xa0 : Int), .int .u64 (xa1 : Int), .int .u64 (xa2 : Int), .int .u64 (xa3 : Int)]), .agg (el (y * z % pp))]) (by kernel_rfl) rfl rfl (by go_simp) (mul_gen HEx.out rfl HBx.out (pp_mod _) _) ?_
  rintro e w5 ⟨rfl, b5⟩
  refine ⟨_, rfl, b5, ?_⟩
  replace T4 := hide (T4.out.step b5)
  replace LD := hide (LD.out.step b5)
  clear b5 ra rb rc ro
  have ra := T4.out.grd (p := w3.heap.size) (T := 29) (A := #[.int .u64 (xa0 : Int), .int .u64 (xa1 : Int), .int .u64 (xa2 : Int), .int .u64 (xa3 : Int)]) (by simp)
  have rb := T4.out.grd (p := w3.heap.size + 1) (T := 29) (A := #[.int .u64 (ya0 : Int), .int .u64 (ya1 : Int), .int .u64 (ya2 : Int), .int .u64 (ya3 : Int)]) (by simp)
  have rc := T4.out.grd (p := w3.heap.size + 1 + 1) (T := 29) (A := #[.int .u64 (za0 : Int), .int .u64 (za1 : Int), .int .u64 (za2 : Int), .int .u64 (za3 : Int)]) (by simp)
  have ro := T4.out.grd (p := w4.heap.size) (T := 29) (A := #[.int .u64 (oa0 : Int), .int .u64 (oa1 : Int), .int .u64 (oa2 : Int), .int .u64 (oa3 : Int)]) (by simp)
  simp only [List.getElem_toArray, List.getElem_cons_zero, List.getElem_cons_succ, Act.put, List.setIfInBounds_toArray, List.set_cons_zero, List.set_cons_succ]
  refine wpE_call (i := 43) (f := 21) (vals := #[.agg (el ((x * y % pp) * z % pp)), .agg (el (x * (y * z % pp) % pp))]) (by kernel_rfl) rfl rfl (by go_simp) (same_gen rfl rfl (pp_mod _) (pp_mod _) G4.out _) ?_
  rintro e w5 ⟨rfl, b5⟩
  refine ⟨_, rfl, b5, ?_⟩
  replace T4 := hide (T4.out.step b5)
  replace LD := hide (LD.out.step b5)
  clear b5 ra rb rc ro
  have ra := T4.out.grd (p := w3.heap.size) (T := 29) (A := #[.int .u64 (xa0 : Int), .int .u64 (xa1 : Int), .int .u64 (xa2 : Int), .int .u64 (xa3 : Int)]) (by simp)
  have rb := T4.out.grd (p := w3.heap.size + 1) (T := 29) (A := #[.int .u64 (ya0 : Int), .int .u64 (ya1 : Int), .int .u64 (ya2 : Int), .int .u64 (ya3 : Int)]) (by simp)
  have rc := T4.out.grd (p := w3.heap.size + 1 + 1) (T := 29) (A := #[.int .u64 (za0 : Int), .int .u64 (za1 : Int), .int .u64 (za2 : Int), .int .u64 (za3 : Int)]) (by simp)
  have ro := T4.out.grd (p := w4.heap.size) (T := 29) (A := #[.int .u64 (oa0 : Int), .int .u64 (oa1 : Int), .int .u64 (oa2 : Int), .int .u64 (oa3 : Int)]) (by simp)
  simp only [List.getElem_toArray, List.getElem_cons_zero, List.getElem_cons_succ, Act.put, List.setIfInBounds_toArray, List.set_cons_zero, List.set_cons_succ]
  refine wpE_take (i := 44) (v := ?va29) rfl (by kernel_rfl) (by kernel_rfl) (by kernel_rfl) (fun _ _ _ h => h) rfl ?ya29 ?ra29
  case ya29 => (intro w' hw'; go_simp; try rfl)
  simp only [List.getElem_toArray, List.getElem_cons_zero, List.getElem_cons_succ, Act.put, List.setIfInBounds_toArray, List.set_cons_zero, List.set_cons_succ]
  refine wpE_take (i := 45) (v := ?va30) rfl (by kernel_rfl) (by kernel_rfl) (by kernel_rfl) (fun _ _ _ h => h) rfl ?ya30 ?ra30
  case ya30 => (intro w' hw'; go_simp; try rfl)
  simp only [List.getElem_toArray, List.getElem_cons_zero, List.getElem_cons_succ, Act.put, List.setIfInBounds_toArray, List.set_cons_zero, List.set_cons_succ]
  refine wpE_take (i := 46) (v := ?va31) rfl (by kernel_rfl) (by kernel_rfl) (by kernel_rfl) (fun _ _ _ h => h) rfl ?ya31 ?ra31
  case ya31 => (intro w' hw'; go_simp; try rfl)
  simp only [List.getElem_toArray, List.getElem_cons_zero, List.getElem_cons_succ, Act.put, List.setIfInBounds_toArray, List.set_cons_zero, List.set_cons_succ]
  refine wpE_take (i := 47) (v := ?va32) rfl (by kernel_rfl) (by kernel_rfl) (by kernel_rfl) (fun _ _ _ h => h) rfl ?ya32 ?ra32
  case ya32 => (intro w' hw'; go_simp; try rfl)
  simp only [List.getElem_toArray, List.getElem_cons_zero, List.getElem_cons_succ, Act.put, List.setIfInBounds_toArray, List.set_cons_zero, List.set_cons_succ]
  refine wpE_take (i := 48) (v := ?va33) rfl (by kernel_rfl) (by kernel_rfl) (by kernel_rfl) (fun _ _ _ h => h) rfl ?ya33 ?ra33
  case ya33 => (intro w' hw'; go_simp; try rfl)
  simp only [List.getElem_toArray, List.getElem_cons_zero, List.getElem_cons_succ, Act.put, List.setIfInBounds_toArray, List.set_cons_zero, List.set_cons_succ]
  refine wpE_take (i := 49) (v := ?va34) rfl (by kernel_rfl) (by kernel_rfl) (by kernel_rfl) (fun _ _ _ h => h) rfl ?ya34 ?ra34
  case ya34 => (intro w' hw'; go_simp; try rfl)
  simp only [List.getElem_toArray, List.getElem_cons_zero, List.getElem_cons_succ, Act.put, List.setIfInBounds_toArray, List.set_cons_zero, List.set_cons_succ]
  refine wpE_take (i := 52) (v := ?va35) rfl (by kernel_rfl) (by kernel_rfl) (by kernel_rfl) (fun _ _ _ h => h) rfl ?ya35 ?ra35
  case ya35 => (intro w' hw'; go_simp; try rfl)
  simp only [List.getElem_toArray, List.getElem_cons_zero, List.getElem_cons_succ, Act.put, List.setIfInBounds_toArray, List.set_cons_zero, List.set_cons_succ]
  refine wpE_take (i := 53) (v := ?va36) rfl (by kernel_rfl) (by kernel_rfl) (by kernel_rfl) (fun _ _ _ h => h) rfl ?ya36 ?ra36
  case ya36 => (intro w' hw'; go_simp; try rfl)
  simp only [List.getElem_toArray, List.getElem_cons_zero, List.getElem_cons_succ, Act.put, List.setIfInBounds_toArray, List.set_cons_zero, List.set_cons_succ]
  refine wpE_take (i := 55) (v := ?va37) rfl (by kernel_rfl) (by kernel_rfl) (by kernel_rfl) (fun _ _ _ h => h) rfl ?ya37 ?ra37
  case ya37 => (intro w' hw'; go_simp; try rfl)
  simp only [List.getElem_toArray, List.getElem_cons_zero, List.getElem_cons_succ, Act.put, List.setIfInBounds_toArray, List.set_cons_zero, List.set_cons_succ]
  refine wpE_take (i := 56) (v := ?va38) rfl (by kernel_rfl) (by kernel_rfl) (by kernel_rfl) (fun _ _ _ h => h) rfl ?ya38 ?ra38
  case ya38 => (intro w' hw'; go_simp; try rfl)
  simp only [List.getElem_toArray, List.getElem_cons_zero, List.getElem_cons_succ, Act.put, List.setIfInBounds_toArray, List.set_cons_zero, List.set_cons_succ]
  refine wpE_call (i := 50) (f := 10) (vals := #[.agg (#[.int .u64 (ya0 : Int), .int .u64 (ya1 : Int), .int .u64 (ya2 : Int), .int .u64 (ya3 : Int)]), .agg (#[.int .u64 (za0 : Int), .int .u64 (za1 : Int), .int .u64 (za2 : Int), .int .u64 (za3 : Int)])]) (by kernel_rfl) rfl rfl (by go_simp) (add_gen HEy.out HEz.out HBy.out HBz.out _) ?_
  rintro e w5 ⟨rfl, b5⟩
  refine ⟨_, rfl, b5, ?_⟩
  replace T4 := hide (T4.out.step b5)
  replace LD := hide (LD.out.step b5)
  clear b5 ra rb rc ro
  have ra := T4.out.grd (p := w3.heap.size) (T := 29) (A := #[.int .u64 (xa0 : Int), .int .u64 (xa1 : Int), .int .u64 (xa2 : Int), .int .u64 (xa3 : Int)]) (by simp)
  have rb := T4.out.grd (p := w3.heap.size + 1) (T := 29) (A := #[.int .u64 (ya0 : Int), .int .u64 (ya1 : Int), .int .u64 (ya2 : Int), .int .u64 (ya3 : Int)]) (by simp)
  have rc := T4.out.grd (p := w3.heap.size + 1 + 1) (T := 29) (A := #[.int .u64 (za0 : Int), .int .u64 (za1 : Int), .int .u64 (za2 : Int), .int .u64 (za3 : Int)]) (by simp)
  have ro := T4.out.grd (p := w4.heap.size) (T := 29) (A := #[.int .u64 (oa0 : Int), .int .u64 (oa1 : Int), .int .u64 (oa2 : Int), .int .u64 (oa3 : Int)]) (by simp)
  simp only [List.getElem_toArray, List.getElem_cons_zero, List.getElem_cons_succ, Act.put, List.setIfInBounds_toArray, List.set_cons_zero, List.set_cons_succ]
  refine wpE_call (i := 51) (f := 14) (vals := #[.agg (#[.int .u64 (xa0 : Int), .int .u64 (xa1 : Int), .int .u64 (xa2 : Int), .int .u64 (xa3 : Int)]), .agg (el ((y + z) % pp))]) (by kernel_rfl) rfl rfl (by go_simp) (mul_gen HEx.out rfl HBx.out (pp_mod _) _) ?_
  rintro e w5 ⟨rfl, b5⟩
  refine ⟨_, rfl, b5, ?_⟩
  replace T4 := hide (T4.out.step b5)
  replace LD := hide (LD.out.step b5)
  clear b5 ra rb rc ro
  have ra := T4.out.grd (p := w3.heap.size) (T := 29) (A := #[.int .u64 (xa0 : Int), .int .u64 (xa1 : Int), .int .u64 (xa2 : Int), .int .u64 (xa3 : Int)]) (by simp)
  have rb := T4.out.grd (p := w3.heap.size + 1) (T := 29) (A := #[.int .u64 (ya0 : Int), .int .u64 (ya1 : Int), .int .u64 (ya2 : Int), .int .u64 (ya3 : Int)]) (by simp)
  have rc := T4.out.grd (p := w3.heap.size + 1 + 1) (T := 29) (A := #[.int .u64 (za0 : Int), .int .u64 (za1 : Int), .int .u64 (za2 : Int), .int .u64 (za3 : Int)]) (by simp)
  have ro := T4.out.grd (p := w4.heap.size) (T := 29) (A := #[.int .u64 (oa0 : Int), .int .u64 (oa1 : Int), .int .u64 (oa2 : Int), .int .u64 (oa3 : Int)]) (by simp)
  simp only [List.getElem_toArray, List.getElem_cons_zero, List.getElem_cons_succ, Act.put, List.setIfInBounds_toArray, List.set_cons_zero, List.set_cons_succ]
  refine wpE_call (i := 54) (f := 14) (vals := #[.agg (#[.int .u64 (xa0 : Int), .int .u64 (xa1 : Int), .int .u64 (xa2 : Int), .int .u64 (xa3 : Int)]), .agg (#[.int .u64 (ya0 : Int), .int .u64 (ya1 : Int), .int .u64 (ya2 : Int), .int .u64 (ya3 : Int)])]) (by kernel_rfl) rfl rfl (by go_simp) (mul_gen HEx.out HEy.out HBx.out HBy.out _) ?_
  rintro e w5 ⟨rfl, b5⟩
  refine ⟨_, rfl, b5, ?_⟩
  replace T4 := hide (T4.out.step b5)
  replace LD := hide (LD.out.step b5)
  clear b5 ra rb rc ro
  have ra := T4.out.grd (p := w3.heap.size) (T := 29) (A := #[.int .u64 (xa0 : Int), .int .u64 (xa1 : Int), .int .u64 (xa2 : Int), .int .u64 (xa3 : Int)]) (by simp)
  have rb := T4.out.grd (p := w3.heap.size + 1) (T := 29) (A := #[.int .u64 (ya0 : Int), .int .u64 (ya1 : Int), .int .u64 (ya2 : Int), .int .u64 (ya3 : Int)]) (by simp)
  have rc := T4.out.grd (p := w3.heap.size + 1 + 1) (T := 29) (A := #[.int .u64 (za0 : Int), .int .u64 (za1 : Int), .int .u64 (za2 : Int), .int .u64 (za3 : Int)]) (by simp)
  have ro := T4.out.grd (p := w4.heap.size) (T := 29) (A := #[.int .u64 (oa0 : Int), .int .u64 (oa1 : Int), .int .u64 (oa2 : Int), .int .u64 (oa3 : Int)]) (by simp)
  simp only [List.getElem_toArray, List.getElem_cons_zero, List.getElem_cons_succ, Act.put, List.setIfInBounds_toArray, List.set_cons_zero, List.set_cons_succ]
  refine wpE_call (i := 57) (f := 14) (vals := #[.agg (#[.int .u64 (xa0 : Int), .int .u64 (xa1 : Int), .int .u64 (xa2 : Int), .int .u64 (xa3 : Int)]), .agg (#[.int .u64 (za0 : Int), .int .u64 (za1 : Int), .int .u64 (za2 : Int), .int .u64 (za3 : Int)])]) (by kernel_rfl) rfl rfl (by go_simp) (mul_gen HEx.out HEz.out HBx.out HBz.out _) ?_
  rintro e w5 ⟨rfl, b5⟩
  refine ⟨_, rfl, b5, ?_⟩
  replace T4 := hide (T4.out.step b5)
  replace LD := hide (LD.out.step b5)
  clear b5 ra rb rc ro
  have ra := T4.out.grd (p := w3.heap.size) (T := 29) (A := #[.int .u64 (xa0 : Int), .int .u64 (xa1 : Int), .int .u64 (xa2 : Int), .int .u64 (xa3 : Int)]) (by simp)
  have rb := T4.out.grd (p := w3.heap.size + 1) (T := 29) (A := #[.int .u64 (ya0 : Int), .int .u64 (ya1 : Int), .int .u64 (ya2 : Int), .int .u64 (ya3 : Int)]) (by simp)
  have rc := T4.out.grd (p := w3.heap.size + 1 + 1) (T := 29) (A := #[.int .u64 (za0 : Int), .int .u64 (za1 : Int), .int .u64 (za2 : Int), .int .u64 (za3 : Int)]) (by simp)
  have ro := T4.out.grd (p := w4.heap.size) (T := 29) (A := #[.int .u64 (oa0 : Int), .int .u64 (oa1 : Int), .int .u64 (oa2 : Int), .int .u64 (oa3 : Int)]) (by simp)
  simp only [List.getElem_toArray, List.getElem_cons_zero, List.getElem_cons_succ, Act.put, List.setIfInBounds_toArray, List.set_cons_zero, List.set_cons_succ]
  refine wpE_call (i := 58) (f := 10) (vals := #[.agg (el (x * y % pp)), .agg (el (x * z % pp))]) (by kernel_rfl) rfl rfl (by go_simp) (add_gen rfl rfl (pp_mod _) (pp_mod _) _) ?_
  rintro e w5 ⟨rfl, b5⟩
  refine ⟨_, rfl, b5, ?_⟩
  replace T4 := hide (T4.out.step b5)
  replace LD := hide (LD.out.step b5)
  clear b5 ra rb rc ro
  have ra := T4.out.grd (p := w3.heap.size) (T := 29) (A := #[.int .u64 (xa0 : Int), .int .u64 (xa1 : Int), .int .u64 (xa2 : Int), .int .u64 (xa3 : Int)]) (by simp)
  have rb := T4.out.grd (p := w3.heap.size + 1) (T := 29) (A := #[.int .u64 (ya0 : Int), .int .u64 (ya1 : Int), .int .u64 (ya2 : Int), .int .u64 (ya3 : Int)]) (by simp)
  have rc := T4.out.grd (p := w3.heap.size + 1 + 1) (T := 29) (A := #[.int .u64 (za0 : Int), .int .u64 (za1 : Int), .int .u64 (za2 : Int), .int .u64 (za3 : Int)]) (by simp)
  have ro := T4.out.grd (p := w4.heap.size) (T := 29) (A := #[.int .u64 (oa0 : Int), .int .u64 (oa1 : Int), .int .u64 (oa2 : Int), .int .u64 (oa3 : Int)]) (by simp)
  simp only [List.getElem_toArray, List.getElem_cons_zero, List.getElem_cons_succ, Act.put, List.setIfInBounds_toArray, List.set_cons_zero, List.set_cons_succ]
  refine wpE_call (i := 59) (f := 21) (vals := #[.agg (el (x * ((y + z) % pp) % pp)), .agg (el (((x * y % pp) + (x * z % pp)) % pp))]) (by kernel_rfl) rfl rfl (by go_simp) (same_gen rfl rfl (pp_mod _) (pp_mod _) G5.out _) ?_
  rintro e w5 ⟨rfl, b5⟩
  refine ⟨_, rfl, b5, ?_⟩
  replace T4 := hide (T4.out.step b5)
  replace LD := hide (LD.out.step b5)
  clear b5 ra rb rc ro
  have ra := T4.out.grd (p := w3.heap.size) (T := 29) (A := #[.int .u64 (xa0 : Int), .int .u64 (xa1 : Int), .int .u64 (xa2 : Int), .int .u64 (xa3 : Int)]) (by simp)
  have rb := T4.out.grd (p := w3.heap.size + 1) (T := 29) (A := #[.int .u64 (ya0 : Int), .int .u64 (ya1 : Int), .int .u64 (ya2 : Int), .int .u64 (ya3 : Int)]) (by simp)
  have rc := T4.out.grd (p := w3.heap.size + 1 + 1) (T := 29) (A := #[.int .u64 (za0 : Int), .int .u64 (za1 : Int), .int .u64 (za2 : Int), .int .u64 (za3 : Int)]) (by simp)
  have ro := T4.out.grd (p := w4.heap.size) (T := 29) (A := #[.int .u64 (oa0 : Int), .int .u64 (oa1 : Int), .int .u64 (oa2 : Int), .int .u64 (oa3 : Int)]) (by simp)
  simp only [List.getElem_toArray, List.getElem_cons_zero, List.getElem_cons_succ, Act.put, List.setIfInBounds_toArray, List.set_cons_zero, List.set_cons_succ]
  refine wpE_take (i := 60) (v := ?va39) rfl (by kernel_rfl) (by kernel_rfl) (by kernel_rfl) (fun _ _ _ h => h) rfl ?ya39 ?ra39
  case ya39 => (intro w' hw'; go_simp; try rfl)
  simp only [List.getElem_toArray, List.getElem_cons_zero, List.getElem_cons_succ, Act.put, List.setIfInBounds_toArray, List.set_cons_zero, List.set_cons_succ]
  refine wpE_take (i := 61) (v := ?va40) rfl (by kernel_rfl) (by kernel_rfl) (by kernel_rfl) (fun _ _ _ h => h) rfl ?ya40 ?ra40
  case ya40 => (intro w' hw'; go_simp; try rfl)
  simp only [List.getElem_toArray, List.getElem_cons_zero, List.getElem_cons_succ, Act.put, List.setIfInBounds_toArray, List.set_cons_zero, List.set_cons_succ]
  refine wpE_done (by kernel_rfl) ?_
  clear ra rb rc ro
  go_wp2_with fail
  refine wp_region_ext (by kernel_rfl) ?_
  replace T4 := hide T4.out.drew
  replace LD := hide LD.out.drew
  have ra := T4.out.grd (p := w3.heap.size) (T := 29) (A := #[.int .u64 (xa0 : Int), .int .u64 (xa1 : Int), .int .u64 (xa2 : Int), .int .u64 (xa3 : Int)]) (by simp)
  have rb := T4.out.grd (p := w3.heap.size + 1) (T := 29) (A := #[.int .u64 (ya0 : Int), .int .u64 (ya1 : Int), .int .u64 (ya2 : Int), .int .u64 (ya3 : Int)]) (by simp)
  have rc := T4.out.grd (p := w3.heap.size + 1 + 1) (T := 29) (A := #[.int .u64 (za0 : Int), .int .u64 (za1 : Int), .int .u64 (za2 : Int), .int .u64 (za3 : Int)]) (by simp)
  have ro := T4.out.grd (p := w4.heap.size) (T := 29) (A := #[.int .u64 (oa0 : Int), .int .u64 (oa1 : Int), .int .u64 (oa2 : Int), .int .u64 (oa3 : Int)]) (by simp)
  refine wpE_take (i := 0) (v := ?vb1) rfl (by kernel_rfl) (by kernel_rfl) (by kernel_rfl) (fun _ _ _ h => h) rfl ?yb1 ?rb1
  case yb1 => (intro w' hw'; go_simp; try rfl)
  simp only [List.getElem_toArray, List.getElem_cons_zero, List.getElem_cons_succ, Act.put, List.setIfInBounds_toArray, List.set_cons_zero, List.set_cons_succ]
  refine wpE_take (i := 1) (v := ?vb2) rfl (by kernel_rfl) (by kernel_rfl) (by kernel_rfl) (fun _ _ _ h => h) rfl ?yb2 ?rb2
  case yb2 => (intro w' hw'; go_simp; try rfl)
  simp only [List.getElem_toArray, List.getElem_cons_zero, List.getElem_cons_succ, Act.put, List.setIfInBounds_toArray, List.set_cons_zero, List.set_cons_succ]
  refine wpE_take (i := 3) (v := ?vb3) rfl (by kernel_rfl) (by kernel_rfl) (by kernel_rfl) (fun _ _ _ h => h) rfl ?yb3 ?rb3
  case yb3 => (intro w' hw'; go_simp; try rfl)
  simp only [List.getElem_toArray, List.getElem_cons_zero, List.getElem_cons_succ, Act.put, List.setIfInBounds_toArray, List.set_cons_zero, List.set_cons_succ]
  refine wpE_take (i := 5) (v := ?vb4) rfl (by kernel_rfl) (by kernel_rfl) (by kernel_rfl) (fun _ _ _ h => h) rfl ?yb4 ?rb4
  case yb4 => (intro w' hw'; go_simp; try rfl)
  simp only [List.getElem_toArray, List.getElem_cons_zero, List.getElem_cons_succ, Act.put, List.setIfInBounds_toArray, List.set_cons_zero, List.set_cons_succ]
  refine wpE_call (i := 2) (f := 12) (vals := #[.agg (#[.int .u64 (xa0 : Int), .int .u64 (xa1 : Int), .int .u64 (xa2 : Int), .int .u64 (xa3 : Int)]), .agg (#[.int .u64 (ya0 : Int), .int .u64 (ya1 : Int), .int .u64 (ya2 : Int), .int .u64 (ya3 : Int)])]) (by kernel_rfl) rfl rfl (by go_simp) (sub_gen HEx.out HEy.out HBx.out HBy.out _) ?_
  rintro e w5 ⟨rfl, b5⟩
  refine ⟨_, rfl, b5, ?_⟩
  replace T4 := hide (T4.out.step b5)
  replace LD := hide (LD.out.step b5)
  clear b5 ra rb rc ro
  have ra := T4.out.grd (p := w3.heap.size) (T := 29) (A := #[.int .u64 (xa0 : Int), .int .u64 (xa1 : Int), .int .u64 (xa2 : Int), .int .u64 (xa3 : Int)]) (by simp)
  have rb := T4.out.grd (p := w3.heap.size + 1) (T := 29) (A := #[.int .u64 (ya0 : Int), .int .u64 (ya1 : Int), .int .u64 (ya2 : Int), .int .u64 (ya3 : Int)]) (by simp)
  have rc := T4.out.grd (p := w3.heap.size + 1 + 1) (T := 29) (A := #[.int .u64 (za0 : Int), .int .u64 (za1 : Int), .int .u64 (za2 : Int), .int .u64 (za3 : Int)]) (by simp)
  have ro := T4.out.grd (p := w4.heap.size) (T := 29) (A := #[.int .u64 (oa0 : Int), .int .u64 (oa1 : Int), .int .u64 (oa2 : Int), .int .u64 (oa3 : Int)]) (by simp)
  simp only [List.getElem_toArray, List.getElem_cons_zero, List.getElem_cons_succ, Act.put, List.setIfInBounds_toArray, List.set_cons_zero, List.set_cons_succ]
  refine wpE_call (i := 4) (f := 10) (vals := #[.agg (el ((x + (pp - y) % pp) % pp)), .agg (#[.int .u64 (ya0 : Int), .int .u64 (ya1 : Int), .int .u64 (ya2 : Int), .int .u64 (ya3 : Int)])]) (by kernel_rfl) rfl rfl (by go_simp) (add_gen rfl HEy.out (pp_mod _) HBy.out _) ?_
  rintro e w5 ⟨rfl, b5⟩
  refine ⟨_, rfl, b5, ?_⟩
  replace T4 := hide (T4.out.step b5)
  replace LD := hide (LD.out.step b5)
  clear b5 ra rb rc ro
  have ra := T4.out.grd (p := w3.heap.size) (T := 29) (A := #[.int .u64 (xa0 : Int), .int .u64 (xa1 : Int), .int .u64 (xa2 : Int), .int .u64 (xa3 : Int)]) (by simp)
  have rb := T4.out.grd (p := w3.heap.size + 1) (T := 29) (A := #[.int .u64 (ya0 : Int), .int .u64 (ya1 : Int), .int .u64 (ya2 : Int), .int .u64 (ya3 : Int)]) (by simp)
  have rc := T4.out.grd (p := w3.heap.size + 1 + 1) (T := 29) (A := #[.int .u64 (za0 : Int), .int .u64 (za1 : Int), .int .u64 (za2 : Int), .int .u64 (za3 : Int)]) (by simp)
  have ro := T4.out.grd (p := w4.heap.size) (T := 29) (A := #[.int .u64 (oa0 : Int), .int .u64 (oa1 : Int), .int .u64 (oa2 : Int), .int .u64 (oa3 : Int)]) (by simp)
  simp only [List.getElem_toArray, List.getElem_cons_zero, List.getElem_cons_succ, Act.put, List.setIfInBounds_toArray, List.set_cons_zero, List.set_cons_succ]
  refine wpE_call (i := 6) (f := 21) (vals := #[.agg (el ((((x + (pp - y) % pp) % pp) + y) % pp)), .agg (#[.int .u64 (xa0 : Int), .int .u64 (xa1 : Int), .int .u64 (xa2 : Int), .int .u64 (xa3 : Int)])]) (by kernel_rfl) rfl rfl (by go_simp) (same_gen rfl HEx.out (pp_mod _) HBx.out G6.out _) ?_
  rintro e w5 ⟨rfl, b5⟩
  refine ⟨_, rfl, b5, ?_⟩
  replace T4 := hide (T4.out.step b5)
  replace LD := hide (LD.out.step b5)
  clear b5 ra rb rc ro
  have ra := T4.out.grd (p := w3.heap.size) (T := 29) (A := #[.int .u64 (xa0 : Int), .int .u64 (xa1 : Int), .int .u64 (xa2 : Int), .int .u64 (xa3 : Int)]) (by simp)
  have rb := T4.out.grd (p := w3.heap.size + 1) (T := 29) (A := #[.int .u64 (ya0 : Int), .int .u64 (ya1 : Int), .int .u64 (ya2 : Int), .int .u64 (ya3 : Int)]) (by simp)
  have rc := T4.out.grd (p := w3.heap.size + 1 + 1) (T := 29) (A := #[.int .u64 (za0 : Int), .int .u64 (za1 : Int), .int .u64 (za2 : Int), .int .u64 (za3 : Int)]) (by simp)
  have ro := T4.out.grd (p := w4.heap.size) (T := 29) (A := #[.int .u64 (oa0 : Int), .int .u64 (oa1 : Int), .int .u64 (oa2 : Int), .int .u64 (oa3 : Int)]) (by simp)
  simp only [List.getElem_toArray, List.getElem_cons_zero, List.getElem_cons_succ, Act.put, List.setIfInBounds_toArray, List.set_cons_zero, List.set_cons_succ]
  refine wpE_take (i := 7) (v := ?vb5) rfl (by kernel_rfl) (by kernel_rfl) (by kernel_rfl) (fun _ _ _ h => h) rfl ?yb5 ?rb5
  case yb5 => (intro w' hw'; go_simp; try rfl)
  simp only [List.getElem_toArray, List.getElem_cons_zero, List.getElem_cons_succ, Act.put, List.setIfInBounds_toArray, List.set_cons_zero, List.set_cons_succ]
  refine wpE_take (i := 8) (v := ?vb6) rfl (by kernel_rfl) (by kernel_rfl) (by kernel_rfl) (fun _ _ _ h => h) rfl ?yb6 ?rb6
  case yb6 => (intro w' hw'; go_simp; try rfl)
  simp only [List.getElem_toArray, List.getElem_cons_zero, List.getElem_cons_succ, Act.put, List.setIfInBounds_toArray, List.set_cons_zero, List.set_cons_succ]
  refine wpE_take (i := 9) (v := ?vb7) rfl (by kernel_rfl) (by kernel_rfl) (by kernel_rfl) (fun _ _ _ h => h) rfl ?yb7 ?rb7
  case yb7 => (intro w' hw'; go_simp; try rfl)
  simp only [List.getElem_toArray, List.getElem_cons_zero, List.getElem_cons_succ, Act.put, List.setIfInBounds_toArray, List.set_cons_zero, List.set_cons_succ]
  refine wpE_take (i := 10) (v := ?vb8) rfl (by kernel_rfl) (by kernel_rfl) (by kernel_rfl) (fun _ _ _ h => h) rfl ?yb8 ?rb8
  case yb8 => (intro w' hw'; go_simp; try rfl)
  simp only [List.getElem_toArray, List.getElem_cons_zero, List.getElem_cons_succ, Act.put, List.setIfInBounds_toArray, List.set_cons_zero, List.set_cons_succ]
  refine wpE_call (i := 11) (f := 16) (vals := #[.agg (#[.int .u64 (xa0 : Int), .int .u64 (xa1 : Int), .int .u64 (xa2 : Int), .int .u64 (xa3 : Int)])]) (by kernel_rfl) rfl rfl (by go_simp) (neg_gen HEx.out HBx.out _) ?_
  rintro e w5 ⟨rfl, b5⟩
  refine ⟨_, rfl, b5, ?_⟩
  replace T4 := hide (T4.out.step b5)
  replace LD := hide (LD.out.step b5)
  clear b5 ra rb rc ro
  have ra := T4.out.grd (p := w3.heap.size) (T := 29) (A := #[.int .u64 (xa0 : Int), .int .u64 (xa1 : Int), .int .u64 (xa2 : Int), .int .u64 (xa3 : Int)]) (by simp)
  have rb := T4.out.grd (p := w3.heap.size + 1) (T := 29) (A := #[.int .u64 (ya0 : Int), .int .u64 (ya1 : Int), .int .u64 (ya2 : Int), .int .u64 (ya3 : Int)]) (by simp)
  have rc := T4.out.grd (p := w3.heap.size + 1 + 1) (T := 29) (A := #[.int .u64 (za0 : Int), .int .u64 (za1 : Int), .int .u64 (za2 : Int), .int .u64 (za3 : Int)]) (by simp)
  have ro := T4.out.grd (p := w4.heap.size) (T := 29) (A := #[.int .u64 (oa0 : Int), .int .u64 (oa1 : Int), .int .u64 (oa2 : Int), .int .u64 (oa3 : Int)]) (by simp)
  simp only [List.getElem_toArray, List.getElem_cons_zero, List.getElem_cons_succ, Act.put, List.setIfInBounds_toArray, List.set_cons_zero, List.set_cons_succ]
  refine wpE_call (i := 12) (f := 10) (vals := #[.agg (#[.int .u64 (xa0 : Int), .int .u64 (xa1 : Int), .int .u64 (xa2 : Int), .int .u64 (xa3 : Int)]), .agg (el ((pp - x) % pp))]) (by kernel_rfl) rfl rfl (by go_simp) (add_gen HEx.out rfl HBx.out (pp_mod _) _) ?_
  rintro e w5 ⟨rfl, b5⟩
  refine ⟨_, rfl, b5, ?_⟩
  replace T4 := hide (T4.out.step b5)
  replace LD := hide (LD.out.step b5)
  clear b5 ra rb rc ro
  have ra := T4.out.grd (p := w3.heap.size) (T := 29) (A := #[.int .u64 (xa0 : Int), .int .u64 (xa1 : Int), .int .u64 (xa2 : Int), .int .u64 (xa3 : Int)]) (by simp)
  have rb := T4.out.grd (p := w3.heap.size + 1) (T := 29) (A := #[.int .u64 (ya0 : Int), .int .u64 (ya1 : Int), .int .u64 (ya2 : Int), .int .u64 (ya3 : Int)]) (by simp)
  have rc := T4.out.grd (p := w3.heap.size + 1 + 1) (T := 29) (A := #[.int .u64 (za0 : Int), .int .u64 (za1 : Int), .int .u64 (za2 : Int), .int .u64 (za3 : Int)]) (by simp)
  have ro := T4.out.grd (p := w4.heap.size) (T := 29) (A := #[.int .u64 (oa0 : Int), .int .u64 (oa1 : Int), .int .u64 (oa2 : Int), .int .u64 (oa3 : Int)]) (by simp)
  simp only [List.getElem_toArray, List.getElem_cons_zero, List.getElem_cons_succ, Act.put, List.setIfInBounds_toArray, List.set_cons_zero, List.set_cons_succ]
  refine wpE_call (i := 13) (f := 23) (vals := #[.agg (el ((x + ((pp - x) % pp)) % pp))]) (by kernel_rfl) rfl rfl (by go_simp) (isZero_gen rfl (pp_mod _) G7.out _) ?_
  rintro e w5 ⟨rfl, b5⟩
  refine ⟨_, rfl, b5, ?_⟩
  replace T4 := hide (T4.out.step b5)
  replace LD := hide (LD.out.step b5)
  clear b5 ra rb rc ro
  have ra := T4.out.grd (p := w3.heap.size) (T := 29) (A := #[.int .u64 (xa0 : Int), .int .u64 (xa1 : Int), .int .u64 (xa2 : Int), .int .u64 (xa3 : Int)]) (by simp)
  have rb := T4.out.grd (p := w3.heap.size + 1) (T := 29) (A := #[.int .u64 (ya0 : Int), .int .u64 (ya1 : Int), .int .u64 (ya2 : Int), .int .u64 (ya3 : Int)]) (by simp)
  have rc := T4.out.grd (p := w3.heap.size + 1 + 1) (T := 29) (A := #[.int .u64 (za0 : Int), .int .u64 (za1 : Int), .int .u64 (za2 : Int), .int .u64 (za3 : Int)]) (by simp)
  have ro := T4.out.grd (p := w4.heap.size) (T := 29) (A := #[.int .u64 (oa0 : Int), .int .u64 (oa1 : Int), .int .u64 (oa2 : Int), .int .u64 (oa3 : Int)]) (by simp)
  simp only [List.getElem_toArray, List.getElem_cons_zero, List.getElem_cons_succ, Act.put, List.setIfInBounds_toArray, List.set_cons_zero, List.set_cons_succ]
  refine wpE_take (i := 14) (v := ?vb9) rfl (by kernel_rfl) (by kernel_rfl) (by kernel_rfl) (fun _ _ _ h => h) rfl ?yb9 ?rb9
  case yb9 => (intro w' hw'; go_simp; try rfl)
  simp only [List.getElem_toArray, List.getElem_cons_zero, List.getElem_cons_succ, Act.put, List.setIfInBounds_toArray, List.set_cons_zero, List.set_cons_succ]
  refine wpE_take (i := 15) (v := ?vb10) rfl (by kernel_rfl) (by kernel_rfl) (by kernel_rfl) (fun _ _ _ h => h) rfl ?yb10 ?rb10
  case yb10 => (intro w' hw'; go_simp; try rfl)
  simp only [List.getElem_toArray, List.getElem_cons_zero, List.getElem_cons_succ, Act.put, List.setIfInBounds_toArray, List.set_cons_zero, List.set_cons_succ]
  refine wpE_take (i := 16) (v := ?vb11) rfl (by kernel_rfl) (by kernel_rfl) (by kernel_rfl) (fun _ _ _ h => h) rfl ?yb11 ?rb11
  case yb11 => (intro w' hw'; go_simp; try rfl)
  simp only [List.getElem_toArray, List.getElem_cons_zero, List.getElem_cons_succ, Act.put, List.setIfInBounds_toArray, List.set_cons_zero, List.set_cons_succ]
  refine wpE_take (i := 17) (v := ?vb12) rfl (by kernel_rfl) (by kernel_rfl) (by kernel_rfl) (fun _ _ _ h => h) rfl ?yb12 ?rb12
  case yb12 => (intro w' hw'; go_simp; try rfl)
  simp only [List.getElem_toArray, List.getElem_cons_zero, List.getElem_cons_succ, Act.put, List.setIfInBounds_toArray, List.set_cons_zero, List.set_cons_succ]
  refine wpE_take (i := 18) (v := ?vb13) rfl (by kernel_rfl) (by kernel_rfl) (by kernel_rfl) (fun _ _ _ h => h) rfl ?yb13 ?rb13
  case yb13 => (intro w' hw'; go_simp; try rfl)
  simp only [List.getElem_toArray, List.getElem_cons_zero, List.getElem_cons_succ, Act.put, List.setIfInBounds_toArray, List.set_cons_zero, List.set_cons_succ]
  refine wpE_take (i := 20) (v := ?vb14) rfl (by kernel_rfl) (by kernel_rfl) (by kernel_rfl) (fun _ _ _ h => h) rfl ?yb14 ?rb14
  case yb14 => (intro w' hw'; go_simp; try rfl)
  simp only [List.getElem_toArray, List.getElem_cons_zero, List.getElem_cons_succ, Act.put, List.setIfInBounds_toArray, List.set_cons_zero, List.set_cons_succ]
  refine wpE_call (i := 19) (f := 14) (vals := #[.agg (#[.int .u64 (xa0 : Int), .int .u64 (xa1 : Int), .int .u64 (xa2 : Int), .int .u64 (xa3 : Int)]), .agg (#[.int .u64 (oa0 : Int), .int .u64 (oa1 : Int), .int .u64 (oa2 : Int), .int .u64 (oa3 : Int)])]) (by kernel_rfl) rfl rfl (by go_simp) (mul_gen HEx.out HEo.out HBx.out HBo.out _) ?_
  rintro e w5 ⟨rfl, b5⟩
  refine ⟨_, rfl, b5, ?_⟩
  replace T4 := hide (T4.out.step b5)
  replace LD := hide (LD.out.step b5)
  clear b5 ra rb rc ro
  have ra := T4.out.grd (p := w3.heap.size) (T := 29) (A := #[.int .u64 (xa0 : Int), .int .u64 (xa1 : Int), .int .u64 (xa2 : Int), .int .u64 (xa3 : Int)]) (by simp)
  have rb := T4.out.grd (p := w3.heap.size + 1) (T := 29) (A := #[.int .u64 (ya0 : Int), .int .u64 (ya1 : Int), .int .u64 (ya2 : Int), .int .u64 (ya3 : Int)]) (by simp)
  have rc := T4.out.grd (p := w3.heap.size + 1 + 1) (T := 29) (A := #[.int .u64 (za0 : Int), .int .u64 (za1 : Int), .int .u64 (za2 : Int), .int .u64 (za3 : Int)]) (by simp)
  have ro := T4.out.grd (p := w4.heap.size) (T := 29) (A := #[.int .u64 (oa0 : Int), .int .u64 (oa1 : Int), .int .u64 (oa2 : Int), .int .u64 (oa3 : Int)]) (by simp)
  simp only [List.getElem_toArray, List.getElem_cons_zero, List.getElem_cons_succ, Act.put, List.setIfInBounds_toArray, List.set_cons_zero, List.set_cons_succ]
  refine wpE_call (i := 21) (f := 21) (vals := #[.agg (el (x * 1 % pp)), .agg (#[.int .u64 (xa0 : Int), .int .u64 (xa1 : Int), .int .u64 (xa2 : Int), .int .u64 (xa3 : Int)])]) (by kernel_rfl) rfl rfl (by go_simp) (same_gen rfl HEx.out (pp_mod _) HBx.out G8.out _) ?_
  rintro e w5 ⟨rfl, b5⟩
  refine ⟨_, rfl, b5, ?_⟩
  replace T4 := hide (T4.out.step b5)
  replace LD := hide (LD.out.step b5)
  clear b5 ra rb rc ro
  have ra := T4.out.grd (p := w3.heap.size) (T := 29) (A := #[.int .u64 (xa0 : Int), .int .u64 (xa1 : Int), .int .u64 (xa2 : Int), .int .u64 (xa3 : Int)]) (by simp)
  have rb := T4.out.grd (p := w3.heap.size + 1) (T := 29) (A := #[.int .u64 (ya0 : Int), .int .u64 (ya1 : Int), .int .u64 (ya2 : Int), .int .u64 (ya3 : Int)]) (by simp)
  have rc := T4.out.grd (p := w3.heap.size + 1 + 1) (T := 29) (A := #[.int .u64 (za0 : Int), .int .u64 (za1 : Int), .int .u64 (za2 : Int), .int .u64 (za3 : Int)]) (by simp)
  have ro := T4.out.grd (p := w4.heap.size) (T := 29) (A := #[.int .u64 (oa0 : Int), .int .u64 (oa1 : Int), .int .u64 (oa2 : Int), .int .u64 (oa3 : Int)]) (by simp)
  simp only [List.getElem_toArray, List.getElem_cons_zero, List.getElem_cons_succ, Act.put, List.setIfInBounds_toArray, List.set_cons_zero, List.set_cons_succ]
  refine wpE_take (i := 22) (v := ?vb15) rfl (by kernel_rfl) (by kernel_rfl) (by kernel_rfl) (fun _ _ _ h => h) rfl ?yb15 ?rb15
  case yb15 => (intro w' hw'; go_simp; try rfl)
  simp only [List.getElem_toArray, List.getElem_cons_zero, List.getElem_cons_succ, Act.put, List.setIfInBounds_toArray, List.set_cons_zero, List.set_cons_succ]
  refine wpE_take (i := 23) (v := ?vb16) rfl (by kernel_rfl) (by kernel_rfl) (by kernel_rfl) (fun _ _ _ h => h) rfl ?yb16 ?rb16
  case yb16 => (intro w' hw'; go_simp; try rfl)
  simp only [List.getElem_toArray, List.getElem_cons_zero, List.getElem_cons_succ, Act.put, List.setIfInBounds_toArray, List.set_cons_zero, List.set_cons_succ]
  refine wpE_done (by kernel_rfl) ?_
  clear ra rb rc ro
  go_wp2_with fail
  by_cases h0 : x = 0
  · have HZ := hide (decide_eq_true h0)
    have HZ2 : Hid (decide (pw x ex = 0) = true) := by show _ = _; rw [h0, pw_zero ex ex_pos]; rfl
    clear h0
    refine wp_region_ext (by kernel_rfl) ?_
    replace T4 := hide T4.out.drew
    replace LD := hide LD.out.drew
    have ra := T4.out.grd (p := w3.heap.size) (T := 29) (A := #[.int .u64 (xa0 : Int), .int .u64 (xa1 : Int), .int .u64 (xa2 : Int), .int .u64 (xa3 : Int)]) (by simp)
    have rb := T4.out.grd (p := w3.heap.size + 1) (T := 29) (A := #[.int .u64 (ya0 : Int), .int .u64 (ya1 : Int), .int .u64 (ya2 : Int), .int .u64 (ya3 : Int)]) (by simp)
    have rc := T4.out.grd (p := w3.heap.size + 1 + 1) (T := 29) (A := #[.int .u64 (za0 : Int), .int .u64 (za1 : Int), .int .u64 (za2 : Int), .int .u64 (za3 : Int)]) (by simp)
    have ro := T4.out.grd (p := w4.heap.size) (T := 29) (A := #[.int .u64 (oa0 : Int), .int .u64 (oa1 : Int), .int .u64 (oa2 : Int), .int .u64 (oa3 : Int)]) (by simp)
    refine wpE_take (i := 0) (v := ?vc1) rfl (by kernel_rfl) (by kernel_rfl) (by kernel_rfl) (fun _ _ _ h => h) rfl ?yc1 ?rc1
    case yc1 => (intro w' hw'; go_simp; try rfl)
    simp only [List.getElem_toArray, List.getElem_cons_zero, List.getElem_cons_succ, Act.put, List.setIfInBounds_toArray, List.set_cons_zero, List.set_cons_succ]
    refine wpE_call (i := 1) (f := 23) (vals := #[.agg (#[.int .u64 (xa0 : Int), .int .u64 (xa1 : Int), .int .u64 (xa2 : Int), .int .u64 (xa3 : Int)])]) (by kernel_rfl) rfl rfl (by go_simp) (isZero_gen HEx.out HBx.out HZ.out _) ?_
    rintro e w5 ⟨rfl, b5⟩
    refine ⟨_, rfl, b5, ?_⟩
    replace T4 := hide (T4.out.step b5)
    replace LD := hide (LD.out.step b5)
    clear b5 ra rb rc ro
    have ra := T4.out.grd (p := w3.heap.size) (T := 29) (A := #[.int .u64 (xa0 : Int), .int .u64 (xa1 : Int), .int .u64 (xa2 : Int), .int .u64 (xa3 : Int)]) (by simp)
    have rb := T4.out.grd (p := w3.heap.size + 1) (T := 29) (A := #[.int .u64 (ya0 : Int), .int .u64 (ya1 : Int), .int .u64 (ya2 : Int), .int .u64 (ya3 : Int)]) (by simp)
    have rc := T4.out.grd (p := w3.heap.size + 1 + 1) (T := 29) (A := #[.int .u64 (za0 : Int), .int .u64 (za1 : Int), .int .u64 (za2 : Int), .int .u64 (za3 : Int)]) (by simp)
    have ro := T4.out.grd (p := w4.heap.size) (T := 29) (A := #[.int .u64 (oa0 : Int), .int .u64 (oa1 : Int), .int .u64 (oa2 : Int), .int .u64 (oa3 : Int)]) (by simp)
    simp only [List.getElem_toArray, List.getElem_cons_zero, List.getElem_cons_succ, Act.put, List.setIfInBounds_toArray, List.set_cons_zero, List.set_cons_succ]
    refine wpE_take (i := 2) (v := ?vc2) rfl (by kernel_rfl) (by kernel_rfl) (by kernel_rfl) (fun _ _ _ h => h) rfl ?yc2 ?rc2
    case yc2 => (intro w' hw'; go_simp; try rfl)
    simp only [List.getElem_toArray, List.getElem_cons_zero, List.getElem_cons_succ, Act.put, List.setIfInBounds_toArray, List.set_cons_zero, List.set_cons_succ]
    refine wpE_take (i := 3) (v := ?vc3) rfl (by kernel_rfl) (by kernel_rfl) (by kernel_rfl) (fun _ _ _ h => h) rfl ?yc3 ?rc3
    case yc3 => (intro w' hw'; go_simp; try rfl)
    simp only [List.getElem_toArray, List.getElem_cons_zero, List.getElem_cons_succ, Act.put, List.setIfInBounds_toArray, List.set_cons_zero, List.set_cons_succ]
    refine wpE_call (i := 4) (f := 17) (vals := #[.agg (#[.int .u64 (xa0 : Int), .int .u64 (xa1 : Int), .int .u64 (xa2 : Int), .int .u64 (xa3 : Int)])]) (by kernel_rfl) rfl rfl (by go_simp) (inv_gen HEx.out HBx.out LD.out) ?_
    rintro e w5 ⟨rfl, b5⟩
    refine ⟨_, rfl, b5, ?_⟩
    replace T4 := hide (T4.out.step b5)
    replace LD := hide (LD.out.step b5)
    clear b5 ra rb rc ro
    have ra := T4.out.grd (p := w3.heap.size) (T := 29) (A := #[.int .u64 (xa0 : Int), .int .u64 (xa1 : Int), .int .u64 (xa2 : Int), .int .u64 (xa3 : Int)]) (by simp)
    have rb := T4.out.grd (p := w3.heap.size + 1) (T := 29) (A := #[.int .u64 (ya0 : Int), .int .u64 (ya1 : Int), .int .u64 (ya2 : Int), .int .u64 (ya3 : Int)]) (by simp)
    have rc := T4.out.grd (p := w3.heap.size + 1 + 1) (T := 29) (A := #[.int .u64 (za0 : Int), .int .u64 (za1 : Int), .int .u64 (za2 : Int), .int .u64 (za3 : Int)]) (by simp)
    have ro := T4.out.grd (p := w4.heap.size) (T := 29) (A := #[.int .u64 (oa0 : Int), .int .u64 (oa1 : Int), .int .u64 (oa2 : Int), .int .u64 (oa3 : Int)]) (by simp)
    simp only [List.getElem_toArray, List.getElem_cons_zero, List.getElem_cons_succ, Act.put, List.setIfInBounds_toArray, List.set_cons_zero, List.set_cons_succ]
    refine wpE_call (i := 5) (f := 23) (vals := #[.agg (el (pw x ex))]) (by kernel_rfl) rfl rfl (by go_simp) (isZero_gen rfl (pw_lt _ _) HZ2.out _) ?_
    rintro e w5 ⟨rfl, b5⟩
    refine ⟨_, rfl, b5, ?_⟩
    replace T4 := hide (T4.out.step b5)
    replace LD := hide (LD.out.step b5)
    clear b5 ra rb rc ro
    have ra := T4.out.grd (p := w3.heap.size) (T := 29) (A := #[.int .u64 (xa0 : Int), .int .u64 (xa1 : Int), .int .u64 (xa2 : Int), .int .u64 (xa3 : Int)]) (by simp)
    have rb := T4.out.grd (p := w3.heap.size + 1) (T := 29) (A := #[.int .u64 (ya0 : Int), .int .u64 (ya1 : Int), .int .u64 (ya2 : Int), .int .u64 (ya3 : Int)]) (by simp)
    have rc := T4.out.grd (p := w3.heap.size + 1 + 1) (T := 29) (A := #[.int .u64 (za0 : Int), .int .u64 (za1 : Int), .int .u64 (za2 : Int), .int .u64 (za3 : Int)]) (by simp)
    have ro := T4.out.grd (p := w4.heap.size) (T := 29) (A := #[.int .u64 (oa0 : Int), .int .u64 (oa1 : Int), .int .u64 (oa2 : Int), .int .u64 (oa3 : Int)]) (by simp)
    simp only [List.getElem_toArray, List.getElem_cons_zero, List.getElem_cons_succ, Act.put, List.setIfInBounds_toArray, List.set_cons_zero, List.set_cons_succ]
    refine wpE_take (i := 6) (v := ?vc4) rfl (by kernel_rfl) (by kernel_rfl) (by kernel_rfl) (fun _ _ _ h => h) rfl ?yc4 ?rc4
    case yc4 => (intro w' hw'; go_simp; try rfl)
    simp only [List.getElem_toArray, List.getElem_cons_zero, List.getElem_cons_succ, Act.put, List.setIfInBounds_toArray, List.set_cons_zero, List.set_cons_succ]
    refine wpE_take (i := 7) (v := ?vc5) rfl (by kernel_rfl) (by kernel_rfl) (by kernel_rfl) (fun _ _ _ h => h) rfl ?yc5 ?rc5
    case yc5 => (intro w' hw'; go_simp; try rfl)
    simp only [List.getElem_toArray, List.getElem_cons_zero, List.getElem_cons_succ, Act.put, List.setIfInBounds_toArray, List.set_cons_zero, List.set_cons_succ]
    refine wpE_skip (i := 8) rfl (by kernel_rfl) (by kernel_rfl) (by kernel_rfl) (fun _ _ _ h => h) rfl ?_
    simp only [List.getElem_toArray, List.getElem_cons_zero, List.getElem_cons_succ, Act.put, List.setIfInBounds_toArray, List.set_cons_zero, List.set_cons_succ]
    refine wpE_skip (i := 9) rfl (by kernel_rfl) (by kernel_rfl) (by kernel_rfl) (fun _ _ _ h => h) rfl ?_
    simp only [List.getElem_toArray, List.getElem_cons_zero, List.getElem_cons_succ, Act.put, List.setIfInBounds_toArray, List.set_cons_zero, List.set_cons_succ]
    refine wpE_skip (i := 10) rfl (by kernel_rfl) (by kernel_rfl) (by kernel_rfl) (fun _ _ _ h => h) rfl ?_
    simp only [List.getElem_toArray, List.getElem_cons_zero, List.getElem_cons_succ, Act.put, List.setIfInBounds_toArray, List.set_cons_zero, List.set_cons_succ]
    refine wpE_skip (i := 11) rfl (by kernel_rfl) (by kernel_rfl) (by kernel_rfl) (fun _ _ _ h => h) rfl ?_
    simp only [List.getElem_toArray, List.getElem_cons_zero, List.getElem_cons_succ, Act.put, List.setIfInBounds_toArray, List.set_cons_zero, List.set_cons_succ]
    refine wpE_skip (i := 12) rfl (by kernel_rfl) (by kernel_rfl) (by kernel_rfl) (fun _ _ _ h => h) rfl ?_
    simp only [List.getElem_toArray, List.getElem_cons_zero, List.getElem_cons_succ, Act.put, List.setIfInBounds_toArray, List.set_cons_zero, List.set_cons_succ]
    refine wpE_skip (i := 13) rfl (by kernel_rfl) (by kernel_rfl) (by kernel_rfl) (fun _ _ _ h => h) rfl ?_
    simp only [List.getElem_toArray, List.getElem_cons_zero, List.getElem_cons_succ, Act.put, List.setIfInBounds_toArray, List.set_cons_zero, List.set_cons_succ]
    refine wpE_take (i := 14) (v := ?vc6) rfl (by kernel_rfl) (by kernel_rfl) (by kernel_rfl) (fun _ _ _ h => h) rfl ?yc6 ?rc6
    case yc6 => (intro w' hw'; go_simp; try rfl)
    simp only [List.getElem_toArray, List.getElem_cons_zero, List.getElem_cons_succ, Act.put, List.setIfInBounds_toArray, List.set_cons_zero, List.set_cons_succ]
    refine wpE_take (i := 15) (v := ?vc7) rfl (by kernel_rfl) (by kernel_rfl) (by kernel_rfl) (fun _ _ _ h => h) rfl ?yc7 ?rc7
    case yc7 => (intro w' hw'; go_simp; try rfl)
    simp only [List.getElem_toArray, List.getElem_cons_zero, List.getElem_cons_succ, Act.put, List.setIfInBounds_toArray, List.set_cons_zero, List.set_cons_succ]
    refine wpE_call (i := 16) (f := 6) (vals := #[]) (by kernel_rfl) rfl rfl (by go_simp) (awake_any _) ?_
    rintro e w5 ⟨rfl, b5⟩
    refine ⟨_, rfl, b5, ?_⟩
    replace T4 := hide (T4.out.step b5)
    replace LD := hide (LD.out.step b5)
    clear b5 ra rb rc ro
    have ra := T4.out.grd (p := w3.heap.size) (T := 29) (A := #[.int .u64 (xa0 : Int), .int .u64 (xa1 : Int), .int .u64 (xa2 : Int), .int .u64 (xa3 : Int)]) (by simp)
    have rb := T4.out.grd (p := w3.heap.size + 1) (T := 29) (A := #[.int .u64 (ya0 : Int), .int .u64 (ya1 : Int), .int .u64 (ya2 : Int), .int .u64 (ya3 : Int)]) (by simp)
    have rc := T4.out.grd (p := w3.heap.size + 1 + 1) (T := 29) (A := #[.int .u64 (za0 : Int), .int .u64 (za1 : Int), .int .u64 (za2 : Int), .int .u64 (za3 : Int)]) (by simp)
    have ro := T4.out.grd (p := w4.heap.size) (T := 29) (A := #[.int .u64 (oa0 : Int), .int .u64 (oa1 : Int), .int .u64 (oa2 : Int), .int .u64 (oa3 : Int)]) (by simp)
    simp only [List.getElem_toArray, List.getElem_cons_zero, List.getElem_cons_succ, Act.put, List.setIfInBounds_toArray, List.set_cons_zero, List.set_cons_succ]
    refine wpE_take (i := 17) (v := ?vc8) rfl (by kernel_rfl) (by kernel_rfl) (by kernel_rfl) (fun _ _ _ h => h) rfl ?yc8 ?rc8
    case yc8 => (intro w' hw'; go_simp; try rfl)
    simp only [List.getElem_toArray, List.getElem_cons_zero, List.getElem_cons_succ, Act.put, List.setIfInBounds_toArray, List.set_cons_zero, List.set_cons_succ]
    refine wpE_take (i := 18) (v := ?vc9) rfl (by kernel_rfl) (by kernel_rfl) (by kernel_rfl) (fun _ _ _ h => h) rfl ?yc9 ?rc9
    case yc9 => (intro w' hw'; go_simp; try rfl)
    simp only [List.getElem_toArray, List.getElem_cons_zero, List.getElem_cons_succ, Act.put, List.setIfInBounds_toArray, List.set_cons_zero, List.set_cons_succ]
    refine wpE_done (by kernel_rfl) ?_
    clear ra rb rc ro
    go_wp2
    go_ret
    exact ⟨rfl, T4.out.below⟩
  · have HZ := hide (decide_eq_false h0)
    have HI := hide (mul_pw x ex ex_eq h0 HBx.out)
    clear h0
    refine wp_region_ext (by kernel_rfl) ?_
    replace T4 := hide T4.out.drew
    replace LD := hide LD.out.drew
    have ra := T4.out.grd (p := w3.heap.size) (T := 29) (A := #[.int .u64 (xa0 : Int), .int .u64 (xa1 : Int), .int .u64 (xa2 : Int), .int .u64 (xa3 : Int)]) (by simp)
    have rb := T4.out.grd (p := w3.heap.size + 1) (T := 29) (A := #[.int .u64 (ya0 : Int), .int .u64 (ya1 : Int), .int .u64 (ya2 : Int), .int .u64 (ya3 : Int)]) (by simp)
    have rc := T4.out.grd (p := w3.heap.size + 1 + 1) (T := 29) (A := #[.int .u64 (za0 : Int), .int .u64 (za1 : Int), .int .u64 (za2 : Int), .int .u64 (za3 : Int)]) (by simp)
    have ro := T4.out.grd (p := w4.heap.size) (T := 29) (A := #[.int .u64 (oa0 : Int), .int .u64 (oa1 : Int), .int .u64 (oa2 : Int), .int .u64 (oa3 : Int)]) (by simp)
    refine wpE_take (i := 0) (v := ?vd1) rfl (by kernel_rfl) (by kernel_rfl) (by kernel_rfl) (fun _ _ _ h => h) rfl ?yd1 ?rd1
    case yd1 => (intro w' hw'; go_simp; try rfl)
    simp only [List.getElem_toArray, List.getElem_cons_zero, List.getElem_cons_succ, Act.put, List.setIfInBounds_toArray, List.set_cons_zero, List.set_cons_succ]
    refine wpE_call (i := 1) (f := 23) (vals := #[.agg (#[.int .u64 (xa0 : Int), .int .u64 (xa1 : Int), .int .u64 (xa2 : Int), .int .u64 (xa3 : Int)])]) (by kernel_rfl) rfl rfl (by go_simp) (isZero_gen HEx.out HBx.out HZ.out _) ?_
    rintro e w5 ⟨rfl, b5⟩
    refine ⟨_, rfl, b5, ?_⟩
    replace T4 := hide (T4.out.step b5)
    replace LD := hide (LD.out.step b5)
    clear b5 ra rb rc ro
    have ra := T4.out.grd (p := w3.heap.size) (T := 29) (A := #[.int .u64 (xa0 : Int), .int .u64 (xa1 : Int), .int .u64 (xa2 : Int), .int .u64 (xa3 : Int)]) (by simp)
    have rb := T4.out.grd (p := w3.heap.size + 1) (T := 29) (A := #[.int .u64 (ya0 : Int), .int .u64 (ya1 : Int), .int .u64 (ya2 : Int), .int .u64 (ya3 : Int)]) (by simp)
    have rc := T4.out.grd (p := w3.heap.size + 1 + 1) (T := 29) (A := #[.int .u64 (za0 : Int), .int .u64 (za1 : Int), .int .u64 (za2 : Int), .int .u64 (za3 : Int)]) (by simp)
    have ro := T4.out.grd (p := w4.heap.size) (T := 29) (A := #[.int .u64 (oa0 : Int), .int .u64 (oa1 : Int), .int .u64 (oa2 : Int), .int .u64 (oa3 : Int)]) (by simp)
    simp only [List.getElem_toArray, List.getElem_cons_zero, List.getElem_cons_succ, Act.put, List.setIfInBounds_toArray, List.set_cons_zero, List.set_cons_succ]
    refine wpE_take (i := 2) (v := ?vd2) rfl (by kernel_rfl) (by kernel_rfl) (by kernel_rfl) (fun _ _ _ h => h) rfl ?yd2 ?rd2
    case yd2 => (intro w' hw'; go_simp; try rfl)
    simp only [List.getElem_toArray, List.getElem_cons_zero, List.getElem_cons_succ, Act.put, List.setIfInBounds_toArray, List.set_cons_zero, List.set_cons_succ]
    refine wpE_skip (i := 3) rfl (by kernel_rfl) (by kernel_rfl) (by kernel_rfl) (fun _ _ _ h => h) rfl ?_
    simp only [List.getElem_toArray, List.getElem_cons_zero, List.getElem_cons_succ, Act.put, List.setIfInBounds_toArray, List.set_cons_zero, List.set_cons_succ]
    refine wpE_skip (i := 4) rfl (by kernel_rfl) (by kernel_rfl) (by kernel_rfl) (fun _ _ _ h => h) rfl ?_
    simp only [List.getElem_toArray, List.getElem_cons_zero, List.getElem_cons_succ, Act.put, List.setIfInBounds_toArray, List.set_cons_zero, List.set_cons_succ]
    refine wpE_skip (i := 5) rfl (by kernel_rfl) (by kernel_rfl) (by kernel_rfl) (fun _ _ _ h => h) rfl ?_
    simp only [List.getElem_toArray, List.getElem_cons_zero, List.getElem_cons_succ, Act.put, List.setIfInBounds_toArray, List.set_cons_zero, List.set_cons_succ]
    refine wpE_take (i := 6) (v := ?vd3) rfl (by kernel_rfl) (by kernel_rfl) (by kernel_rfl) (fun _ _ _ h => h) rfl ?yd3 ?rd3
    case yd3 => (intro w' hw'; go_simp; try rfl)
    simp only [List.getElem_toArray, List.getElem_cons_zero, List.getElem_cons_succ, Act.put, List.setIfInBounds_toArray, List.set_cons_zero, List.set_cons_succ]
    refine wpE_take (i := 7) (v := ?vd4) rfl (by kernel_rfl) (by kernel_rfl) (by kernel_rfl) (fun _ _ _ h => h) rfl ?yd4 ?rd4
    case yd4 => (intro w' hw'; go_simp; try rfl)
    simp only [List.getElem_toArray, List.getElem_cons_zero, List.getElem_cons_succ, Act.put, List.setIfInBounds_toArray, List.set_cons_zero, List.set_cons_succ]
    refine wpE_take (i := 8) (v := ?vd5) rfl (by kernel_rfl) (by kernel_rfl) (by kernel_rfl) (fun _ _ _ h => h) rfl ?yd5 ?rd5
    case yd5 => (intro w' hw'; go_simp; try rfl)
    simp only [List.getElem_toArray, List.getElem_cons_zero, List.getElem_cons_succ, Act.put, List.setIfInBounds_toArray, List.set_cons_zero, List.set_cons_succ]
    refine wpE_take (i := 9) (v := ?vd6) rfl (by kernel_rfl) (by kernel_rfl) (by kernel_rfl) (fun _ _ _ h => h) rfl ?yd6 ?rd6
    case yd6 => (intro w' hw'; go_simp; try rfl)
    simp only [List.getElem_toArray, List.getElem_cons_zero, List.getElem_cons_succ, Act.put, List.setIfInBounds_toArray, List.set_cons_zero, List.set_cons_succ]
    refine wpE_take (i := 12) (v := ?vd7) rfl (by kernel_rfl) (by kernel_rfl) (by kernel_rfl) (fun _ _ _ h => h) rfl ?yd7 ?rd7
    case yd7 => (intro w' hw'; go_simp; try rfl)
    simp only [List.getElem_toArray, List.getElem_cons_zero, List.getElem_cons_succ, Act.put, List.setIfInBounds_toArray, List.set_cons_zero, List.set_cons_succ]
    refine wpE_call (i := 10) (f := 17) (vals := #[.agg (#[.int .u64 (xa0 : Int), .int .u64 (xa1 : Int), .int .u64 (xa2 : Int), .int .u64 (xa3 : Int)])]) (by kernel_rfl) rfl rfl (by go_simp) (inv_gen HEx.out HBx.out LD.out) ?_
    rintro e w5 ⟨rfl, b5⟩
    refine ⟨_, rfl, b5, ?_⟩
    replace T4 := hide (T4.out.step b5)
    replace LD := hide (LD.out.step b5)
    clear b5 ra rb rc ro
    have ra := T4.out.grd (p := w3.heap.size) (T := 29) (A := #[.int .u64 (xa0 : Int), .int .u64 (xa1 : Int), .int .u64 (xa2 : Int), .int .u64 (xa3 : Int)]) (by simp)
    have rb := T4.out.grd (p := w3.heap.size + 1) (T := 29) (A := #[.int .u64 (ya0 : Int), .int .u64 (ya1 : Int), .int .u64 (ya2 : Int), .int .u64 (ya3 : Int)]) (by simp)
    have rc := T4.out.grd (p := w3.heap.size + 1 + 1) (T := 29) (A := #[.int .u64 (za0 : Int), .int .u64 (za1 : Int), .int .u64 (za2 : Int), .int .u64 (za3 : Int)]) (by simp)
    have ro := T4.out.grd (p := w4.heap.size) (T := 29) (A := #[.int .u64 (oa0 : Int), .int .u64 (oa1 : Int), .int .u64 (oa2 : Int), .int .u64 (oa3 : Int)]) (by simp)
    simp only [List.getElem_toArray, List.getElem_cons_zero, List.getElem_cons_succ, Act.put, List.setIfInBounds_toArray, List.set_cons_zero, List.set_cons_succ]
    refine wpE_call (i := 11) (f := 14) (vals := #[.agg (#[.int .u64 (xa0 : Int), .int .u64 (xa1 : Int), .int .u64 (xa2 : Int), .int .u64 (xa3 : Int)]), .agg (el (pw x ex))]) (by kernel_rfl) rfl rfl (by go_simp) (mul_gen HEx.out rfl HBx.out (pw_lt _ _) _) ?_
    rintro e w5 ⟨rfl, b5⟩
    refine ⟨_, rfl, b5, ?_⟩
    replace T4 := hide (T4.out.step b5)
    replace LD := hide (LD.out.step b5)
    clear b5 ra rb rc ro
    have ra := T4.out.grd (p := w3.heap.size) (T := 29) (A := #[.int .u64 (xa0 : Int), .int .u64 (xa1 : Int), .int .u64 (xa2 : Int), .int .u64 (xa3 : Int)]) (by simp)
    have rb := T4.out.grd (p := w3.heap.size + 1) (T := 29) (A := #[.int .u64 (ya0 : Int), .int .u64 (ya1 : Int), .int .u64 (ya2 : Int), .int .u64 (ya3 : Int)]) (by simp)
    have rc := T4.out.grd (p := w3.heap.size + 1 + 1) (T := 29) (A := #[.int .u64 (za0 : Int), .int .u64 (za1 : Int), .int .u64 (za2 : Int), .int .u64 (za3 : Int)]) (by simp)
    have ro := T4.out.grd (p := w4.heap.size) (T := 29) (A := #[.int .u64 (oa0 : Int), .int .u64 (oa1 : Int), .int .u64 (oa2 : Int), .int .u64 (oa3 : Int)]) (by simp)
    simp only [List.getElem_toArray, List.getElem_cons_zero, List.getElem_cons_succ, Act.put, List.setIfInBounds_toArray, List.set_cons_zero, List.set_cons_succ]
    refine wpE_call (i := 13) (f := 21) (vals := #[.agg (el (x * (pw x ex) % pp)), .agg (#[.int .u64 (oa0 : Int), .int .u64 (oa1 : Int), .int .u64 (oa2 : Int), .int .u64 (oa3 : Int)])]) (by kernel_rfl) rfl rfl (by go_simp) (same_gen rfl HEo.out (pp_mod _) HBo.out HI.out _) ?_
    rintro e w5 ⟨rfl, b5⟩
    refine ⟨_, rfl, b5, ?_⟩
    replace T4 := hide (T4.out.step b5)
    replace LD := hide (LD.out.step b5)
    clear b5 ra rb rc ro
    have ra := T4.out.grd (p := w3.heap.size) (T := 29) (A := #[.int .u64 (xa0 : Int), .int .u64 (xa1 : Int), .int .u64 (xa2 : Int), .int .u64 (xa3 : Int)]) (by simp)
    have rb := T4.out.grd (p := w3.heap.size + 1) (T := 29) (A := #[.int .u64 (ya0 : Int), .int .u64 (ya1 : Int), .int .u64 (ya2 : Int), .int .u64 (ya3 : Int)]) (by simp)
    have rc := T4.out.grd (p := w3.heap.size + 1 + 1) (T := 29) (A := #[.int .u64 (za0 : Int), .int .u64 (za1 : Int), .int .u64 (za2 : Int), .int .u64 (za3 : Int)]) (by simp)
    have ro := T4.out.grd (p := w4.heap.size) (T := 29) (A := #[.int .u64 (oa0 : Int), .int .u64 (oa1 : Int), .int .u64 (oa2 : Int), .int .u64 (oa3 : Int)]) (by simp)
    simp only [List.getElem_toArray, List.getElem_cons_zero, List.getElem_cons_succ, Act.put, List.setIfInBounds_toArray, List.set_cons_zero, List.set_cons_succ]
    refine wpE_take (i := 14) (v := ?vd8) rfl (by kernel_rfl) (by kernel_rfl) (by kernel_rfl) (fun _ _ _ h => h) rfl ?yd8 ?rd8
    case yd8 => (intro w' hw'; go_simp; try rfl)
    simp only [List.getElem_toArray, List.getElem_cons_zero, List.getElem_cons_succ, Act.put, List.setIfInBounds_toArray, List.set_cons_zero, List.set_cons_succ]
    refine wpE_take (i := 15) (v := ?vd9) rfl (by kernel_rfl) (by kernel_rfl) (by kernel_rfl) (fun _ _ _ h => h) rfl ?yd9 ?rd9
    case yd9 => (intro w' hw'; go_simp; try rfl)
    simp only [List.getElem_toArray, List.getElem_cons_zero, List.getElem_cons_succ, Act.put, List.setIfInBounds_toArray, List.set_cons_zero, List.set_cons_succ]
    refine wpE_call (i := 16) (f := 6) (vals := #[]) (by kernel_rfl) rfl rfl (by go_simp) (awake_any _) ?_
    rintro e w5 ⟨rfl, b5⟩
    refine ⟨_, rfl, b5, ?_⟩
    replace T4 := hide (T4.out.step b5)
    replace LD := hide (LD.out.step b5)
    clear b5 ra rb rc ro
    have ra := T4.out.grd (p := w3.heap.size) (T := 29) (A := #[.int .u64 (xa0 : Int), .int .u64 (xa1 : Int), .int .u64 (xa2 : Int), .int .u64 (xa3 : Int)]) (by simp)
    have rb := T4.out.grd (p := w3.heap.size + 1) (T := 29) (A := #[.int .u64 (ya0 : Int), .int .u64 (ya1 : Int), .int .u64 (ya2 : Int), .int .u64 (ya3 : Int)]) (by simp)
    have rc := T4.out.grd (p := w3.heap.size + 1 + 1) (T := 29) (A := #[.int .u64 (za0 : Int), .int .u64 (za1 : Int), .int .u64 (za2 : Int), .int .u64 (za3 : Int)]) (by simp)
    have ro := T4.out.grd (p := w4.heap.size) (T := 29) (A := #[.int .u64 (oa0 : Int), .int .u64 (oa1 : Int), .int .u64 (oa2 : Int), .int .u64 (oa3 : Int)]) (by simp)
    simp only [List.getElem_toArray, List.getElem_cons_zero, List.getElem_cons_succ, Act.put, List.setIfInBounds_toArray, List.set_cons_zero, List.set_cons_succ]
    refine wpE_take (i := 17) (v := ?vd10) rfl (by kernel_rfl) (by kernel_rfl) (by kernel_rfl) (fun _ _ _ h => h) rfl ?yd10 ?rd10
    case yd10 => (intro w' hw'; go_simp; try rfl)
    simp only [List.getElem_toArray, List.getElem_cons_zero, List.getElem_cons_succ, Act.put, List.setIfInBounds_toArray, List.set_cons_zero, List.set_cons_succ]
    refine wpE_take (i := 18) (v := ?vd11) rfl (by kernel_rfl) (by kernel_rfl) (by kernel_rfl) (fun _ _ _ h => h) rfl ?yd11 ?rd11
    case yd11 => (intro w' hw'; go_simp; try rfl)
    simp only [List.getElem_toArray, List.getElem_cons_zero, List.getElem_cons_succ, Act.put, List.setIfInBounds_toArray, List.set_cons_zero, List.set_cons_succ]
    refine wpE_done (by kernel_rfl) ?_
    clear ra rb rc ro
    go_wp2
    go_ret
    exact ⟨rfl, T4.out.below⟩
end Go.Proofs.YtbaionconnhdiaaDoor
