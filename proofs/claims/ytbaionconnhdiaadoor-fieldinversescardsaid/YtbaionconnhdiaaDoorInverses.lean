/- The inverse of a product, of an inverse: the law FieldInverses answers true for all bytes of at most 100, in any world where the exponent lies as the program's text lays it. -/
import Derived.Test.YtbaionconnhdiaaDoorInv
namespace Go.Proofs.YtbaionconnhdiaaDoor
open Go.RowKit
set_option linter.unusedSimpArgs false in
set_option maxRecDepth 100000 in
set_option maxHeartbeats 8000000 in
theorem fieldInverses_any (u v : Value) (bs cs : List Nat) (w : World) (LD0 : Laid w) (h0 : BsAt w u bs) (h1 : BsAt w v cs) (hl0 : bs.length ≤ 100) (hl1 : cs.length ≤ 100) :
    Calls Tryd.prog 5 #[u, v] w fun e w' => e = .returned (.bool true) ∧ Below w.heap.size w w' := by
  have HF0 : Hid (∀ W, BsAt W u bs → Calls Tryd.prog 7 #[u] W fun e w' => e = .returned (.agg (el (bval (bs.take 32) % pp))) ∧ Below W.heap.size W w') := fun W h => from_any u bs hl0 W h
  have HF1 : Hid (∀ W, BsAt W v cs → Calls Tryd.prog 7 #[v] W fun e w' => e = .returned (.agg (el (bval (cs.take 32) % pp))) ∧ Below W.heap.size W w') := fun W h => from_any v cs hl1 W h
  have BS0 := hide h0
  have BS1 := hide h1
  have bx := pp_mod (bval (bs.take 32))
  have by_ := pp_mod (bval (cs.take 32))
  generalize bval (bs.take 32) % pp = x at *
  generalize bval (cs.take 32) % pp = y at *
  obtain ⟨xa0, xa1, xa2, xa3, he0⟩ : ∃ a b c d : Nat, el (x) = #[.int .u64 (a : Int), .int .u64 (b : Int), .int .u64 (c : Int), .int .u64 (d : Int)] := ⟨_, _, _, _, rfl⟩
  have HEx := hide he0.symm
  rw [he0] at HF0
  have HBx := hide bx
  obtain ⟨ya0, ya1, ya2, ya3, he1⟩ : ∃ a b c d : Nat, el (y) = #[.int .u64 (a : Int), .int .u64 (b : Int), .int .u64 (c : Int), .int .u64 (d : Int)] := ⟨_, _, _, _, rfl⟩
  have HEy := hide he1.symm
  rw [he1] at HF1
  have HBy := hide by_
  obtain ⟨ao0, co0, rfl, _, hm0⟩ := h0.len
  have d0 : decide ((100 : Int) < (bs.length : Int)) = false := decide_eq_false (by omega)
  obtain ⟨ao1, co1, rfl, _, hm1⟩ := h1.len
  have d1 : decide ((100 : Int) < (cs.length : Int)) = false := decide_eq_false (by omega)
  have HLL := hide (And.intro hl0 hl1)
  have LD := hide LD0
  clear LD0 h0 he0 hl0 h1 he1 hl1
  have G1 := hide (pw_mul x y ex)
  have G2 := hide (pw_pw x ex ex_eq ex_pos bx)
  have G3 := hide (pw_square x ex ex_eq ex_pos bx)
  obtain ⟨qa0, qa1, qa2, qa3, heq⟩ : ∃ a b c d : Nat, el (pw (x * x % pp) ex) = #[.int .u64 (a : Int), .int .u64 (b : Int), .int .u64 (c : Int), .int .u64 (d : Int)] := ⟨_, _, _, _, rfl⟩
  have HEq := hide heq.symm
  have M1 : Hid (∀ W, Calls Tryd.prog 14 #[.agg #[.int .u64 (xa0 : Int), .int .u64 (xa1 : Int), .int .u64 (xa2 : Int), .int .u64 (xa3 : Int)], .agg #[.int .u64 (xa0 : Int), .int .u64 (xa1 : Int), .int .u64 (xa2 : Int), .int .u64 (xa3 : Int)]] W fun e w' => e = .returned (.agg (el (x * x % pp))) ∧ Below W.heap.size W w') := fun W => mul_gen HEx.out HEx.out HBx.out HBx.out W
  have M2 : Hid (∀ W, Laid W → Calls Tryd.prog 17 #[.agg (el (x * x % pp))] W fun e w' => e = .returned (.agg #[.int .u64 (qa0 : Int), .int .u64 (qa1 : Int), .int .u64 (qa2 : Int), .int .u64 (qa3 : Int)]) ∧ Below W.heap.size W w') := fun W h => by rw [HEq.out]; exact inv_gen rfl (pp_mod _) h
  clear bx by_ heq
  go_enter Tryd.func5, Tryd.ntmps5
  go_wp2_with fail
  refine (HF0.out _ (BS0.out)).mono ?_
  rintro e w1 ⟨rfl, f0⟩
  go_wp2_with fail
  refine (HF1.out _ (BS1.out.ext f0)).mono ?_
  rintro e w2 ⟨rfl, f1⟩
  have FB := hide (Below.chain (f0) f1)
  replace LD := hide (LD.out.step FB.out)
  clear f0 f1
  have T4 := hide (((At.nil FB.out).alloc #[.int .u64 (xa0 : Int), .int .u64 (xa1 : Int), .int .u64 (xa2 : Int), .int .u64 (xa3 : Int)] 29).alloc #[.int .u64 (ya0 : Int), .int .u64 (ya1 : Int), .int .u64 (ya2 : Int), .int .u64 (ya3 : Int)] 29)
  simp only [World.size_alloc] at T4
  replace LD := hide (LD.out.step (below2 w2 (.cells #[.int .u64 (xa0 : Int), .int .u64 (xa1 : Int), .int .u64 (xa2 : Int), .int .u64 (xa3 : Int)] 29) (.cells #[.int .u64 (ya0 : Int), .int .u64 (ya1 : Int), .int .u64 (ya2 : Int), .int .u64 (ya3 : Int)] 29)))
  go_wp2_with fail
  refine (M1.out _).mono ?_
  rintro e w3 ⟨rfl, g1⟩
  replace T4 := hide (T4.out.step g1)
  replace LD := hide (LD.out.step g1)
  clear g1
  go_wp2_with fail
  refine (M2.out _ LD.out).mono ?_
  rintro e w4 ⟨rfl, g1⟩
  replace T4 := hide ((T4.out.step g1).alloc #[.int .u64 (qa0 : Int), .int .u64 (qa1 : Int), .int .u64 (qa2 : Int), .int .u64 (qa3 : Int)] 29)
  replace LD := hide ((LD.out.step g1).step ((Below.refl _ _).alloc (Nat.le_refl _) (.cells #[.int .u64 (qa0 : Int), .int .u64 (qa1 : Int), .int .u64 (qa2 : Int), .int .u64 (qa3 : Int)] 29)))
  clear g1 M1 M2
  go_wp2_with fail
  generalize w4.alloc (.cells #[.int .u64 (qa0 : Int), .int .u64 (qa1 : Int), .int .u64 (qa2 : Int), .int .u64 (qa3 : Int)] 29) = W4 at *
  refine wp_region_ext (by kernel_rfl) ?_
  replace T4 := hide T4.out.drew
  replace LD := hide LD.out.drew
  have ra := T4.out.grd (p := w2.heap.size) (T := 29) (A := #[.int .u64 (xa0 : Int), .int .u64 (xa1 : Int), .int .u64 (xa2 : Int), .int .u64 (xa3 : Int)]) (by simp)
  have rb := T4.out.grd (p := w2.heap.size + 1) (T := 29) (A := #[.int .u64 (ya0 : Int), .int .u64 (ya1 : Int), .int .u64 (ya2 : Int), .int .u64 (ya3 : Int)]) (by simp)
  have rq := T4.out.grd (p := w4.heap.size) (T := 29) (A := #[.int .u64 (qa0 : Int), .int .u64 (qa1 : Int), .int .u64 (qa2 : Int), .int .u64 (qa3 : Int)]) (by simp)
  refine wpE_take (i := 0) (v := ?va1) rfl (by kernel_rfl) (by kernel_rfl) (by kernel_rfl) (fun _ _ _ h => h) rfl ?ya1 ?ra1
  case ya1 => (intro w' hw'; go_simp; try rfl)
  simp only [List.getElem_toArray, List.getElem_cons_zero, List.getElem_cons_succ, Act.put, List.setIfInBounds_toArray, List.set_cons_zero, List.set_cons_succ]
  refine wpE_take (i := 1) (v := ?va2) rfl (by kernel_rfl) (by kernel_rfl) (by kernel_rfl) (fun _ _ _ h => h) rfl ?ya2 ?ra2
  case ya2 => (intro w' hw'; go_simp; try rfl)
  simp only [List.getElem_toArray, List.getElem_cons_zero, List.getElem_cons_succ, Act.put, List.setIfInBounds_toArray, List.set_cons_zero, List.set_cons_succ]
  refine wpE_take (i := 4) (v := ?va3) rfl (by kernel_rfl) (by kernel_rfl) (by kernel_rfl) (fun _ _ _ h => h) rfl ?ya3 ?ra3
  case ya3 => (intro w' hw'; go_simp; try rfl)
  simp only [List.getElem_toArray, List.getElem_cons_zero, List.getElem_cons_succ, Act.put, List.setIfInBounds_toArray, List.set_cons_zero, List.set_cons_succ]
  refine wpE_take (i := 6) (v := ?va4) rfl (by kernel_rfl) (by kernel_rfl) (by kernel_rfl) (fun _ _ _ h => h) rfl ?ya4 ?ra4
  case ya4 => (intro w' hw'; go_simp; try rfl)
  simp only [List.getElem_toArray, List.getElem_cons_zero, List.getElem_cons_succ, Act.put, List.setIfInBounds_toArray, List.set_cons_zero, List.set_cons_succ]
  refine wpE_call (i := 2) (f := 14) (vals := #[.agg (#[.int .u64 (xa0 : Int), .int .u64 (xa1 : Int), .int .u64 (xa2 : Int), .int .u64 (xa3 : Int)]), .agg (#[.int .u64 (ya0 : Int), .int .u64 (ya1 : Int), .int .u64 (ya2 : Int), .int .u64 (ya3 : Int)])]) (by kernel_rfl) rfl rfl (by go_simp) (mul_gen HEx.out HEy.out HBx.out HBy.out _) ?_
  rintro e w5 ⟨rfl, b5⟩
  refine ⟨_, rfl, b5, ?_⟩
  replace T4 := hide (T4.out.step b5)
  replace LD := hide (LD.out.step b5)
  clear b5 ra rb rq
  have ra := T4.out.grd (p := w2.heap.size) (T := 29) (A := #[.int .u64 (xa0 : Int), .int .u64 (xa1 : Int), .int .u64 (xa2 : Int), .int .u64 (xa3 : Int)]) (by simp)
  have rb := T4.out.grd (p := w2.heap.size + 1) (T := 29) (A := #[.int .u64 (ya0 : Int), .int .u64 (ya1 : Int), .int .u64 (ya2 : Int), .int .u64 (ya3 : Int)]) (by simp)
  have rq := T4.out.grd (p := w4.heap.size) (T := 29) (A := #[.int .u64 (qa0 : Int), .int .u64 (qa1 : Int), .int .u64 (qa2 : Int), .int .u64 (qa3 : Int)]) (by simp)
  simp only [List.getElem_toArray, List.getElem_cons_zero, List.getElem_cons_succ, Act.put, List.setIfInBounds_toArray, List.set_cons_zero, List.set_cons_succ]
  refine wpE_call (i := 3) (f := 17) (vals := #[.agg (el (x * y % pp))]) (by kernel_rfl) rfl rfl (by go_simp) (inv_gen rfl (pp_mod _) LD.out) ?_
  rintro e w5 ⟨rfl, b5⟩
  refine ⟨_, rfl, b5, ?_⟩
  replace T4 := hide (T4.out.step b5)
  replace LD := hide (LD.out.step b5)
  clear b5 ra rb rq
  have ra := T4.out.grd (p := w2.heap.size) (T := 29) (A := #[.int .u64 (xa0 : Int), .int .u64 (xa1 : Int), .int .u64 (xa2 : Int), .int .u64 (xa3 : Int)]) (by simp)
  have rb := T4.out.grd (p := w2.heap.size + 1) (T := 29) (A := #[.int .u64 (ya0 : Int), .int .u64 (ya1 : Int), .int .u64 (ya2 : Int), .int .u64 (ya3 : Int)]) (by simp)
  have rq := T4.out.grd (p := w4.heap.size) (T := 29) (A := #[.int .u64 (qa0 : Int), .int .u64 (qa1 : Int), .int .u64 (qa2 : Int), .int .u64 (qa3 : Int)]) (by simp)
  simp only [List.getElem_toArray, List.getElem_cons_zero, List.getElem_cons_succ, Act.put, List.setIfInBounds_toArray, List.set_cons_zero, List.set_cons_succ]
  refine wpE_call (i := 5) (f := 17) (vals := #[.agg (#[.int .u64 (xa0 : Int), .int .u64 (xa1 : Int), .int .u64 (xa2 : Int), .int .u64 (xa3 : Int)])]) (by kernel_rfl) rfl rfl (by go_simp) (inv_gen HEx.out HBx.out LD.out) ?_
  rintro e w5 ⟨rfl, b5⟩
  refine ⟨_, rfl, b5, ?_⟩
  replace T4 := hide (T4.out.step b5)
  replace LD := hide (LD.out.step b5)
  clear b5 ra rb rq
  have ra := T4.out.grd (p := w2.heap.size) (T := 29) (A := #[.int .u64 (xa0 : Int), .int .u64 (xa1 : Int), .int .u64 (xa2 : Int), .int .u64 (xa3 : Int)]) (by simp)
  have rb := T4.out.grd (p := w2.heap.size + 1) (T := 29) (A := #[.int .u64 (ya0 : Int), .int .u64 (ya1 : Int), .int .u64 (ya2 : Int), .int .u64 (ya3 : Int)]) (by simp)
  have rq := T4.out.grd (p := w4.heap.size) (T := 29) (A := #[.int .u64 (qa0 : Int), .int .u64 (qa1 : Int), .int .u64 (qa2 : Int), .int .u64 (qa3 : Int)]) (by simp)
  simp only [List.getElem_toArray, List.getElem_cons_zero, List.getElem_cons_succ, Act.put, List.setIfInBounds_toArray, List.set_cons_zero, List.set_cons_succ]
  refine wpE_call (i := 7) (f := 17) (vals := #[.agg (#[.int .u64 (ya0 : Int), .int .u64 (ya1 : Int), .int .u64 (ya2 : Int), .int .u64 (ya3 : Int)])]) (by kernel_rfl) rfl rfl (by go_simp) (inv_gen HEy.out HBy.out LD.out) ?_
  rintro e w5 ⟨rfl, b5⟩
  refine ⟨_, rfl, b5, ?_⟩
  replace T4 := hide (T4.out.step b5)
  replace LD := hide (LD.out.step b5)
  clear b5 ra rb rq
  have ra := T4.out.grd (p := w2.heap.size) (T := 29) (A := #[.int .u64 (xa0 : Int), .int .u64 (xa1 : Int), .int .u64 (xa2 : Int), .int .u64 (xa3 : Int)]) (by simp)
  have rb := T4.out.grd (p := w2.heap.size + 1) (T := 29) (A := #[.int .u64 (ya0 : Int), .int .u64 (ya1 : Int), .int .u64 (ya2 : Int), .int .u64 (ya3 : Int)]) (by simp)
  have rq := T4.out.grd (p := w4.heap.size) (T := 29) (A := #[.int .u64 (qa0 : Int), .int .u64 (qa1 : Int), .int .u64 (qa2 : Int), .int .u64 (qa3 : Int)]) (by simp)
  simp only [List.getElem_toArray, List.getElem_cons_zero, List.getElem_cons_succ, Act.put, List.setIfInBounds_toArray, List.set_cons_zero, List.set_cons_succ]
  refine wpE_call (i := 8) (f := 14) (vals := #[.agg (el (pw x ex)), .agg (el (pw y ex))]) (by kernel_rfl) rfl rfl (by go_simp) (mul_gen rfl rfl (pw_lt _ _) (pw_lt _ _) _) ?_
  rintro e w5 ⟨rfl, b5⟩
  refine ⟨_, rfl, b5, ?_⟩
  replace T4 := hide (T4.out.step b5)
  replace LD := hide (LD.out.step b5)
  clear b5 ra rb rq
  have ra := T4.out.grd (p := w2.heap.size) (T := 29) (A := #[.int .u64 (xa0 : Int), .int .u64 (xa1 : Int), .int .u64 (xa2 : Int), .int .u64 (xa3 : Int)]) (by simp)
  have rb := T4.out.grd (p := w2.heap.size + 1) (T := 29) (A := #[.int .u64 (ya0 : Int), .int .u64 (ya1 : Int), .int .u64 (ya2 : Int), .int .u64 (ya3 : Int)]) (by simp)
  have rq := T4.out.grd (p := w4.heap.size) (T := 29) (A := #[.int .u64 (qa0 : Int), .int .u64 (qa1 : Int), .int .u64 (qa2 : Int), .int .u64 (qa3 : Int)]) (by simp)
  simp only [List.getElem_toArray, List.getElem_cons_zero, List.getElem_cons_succ, Act.put, List.setIfInBounds_toArray, List.set_cons_zero, List.set_cons_succ]
  refine wpE_call (i := 9) (f := 21) (vals := #[.agg (el (pw (x * y % pp) ex)), .agg (el ((pw x ex) * (pw y ex) % pp))]) (by kernel_rfl) rfl rfl (by go_simp) (same_gen rfl rfl (pw_lt _ _) (pp_mod _) G1.out _) ?_
  rintro e w5 ⟨rfl, b5⟩
  refine ⟨_, rfl, b5, ?_⟩
  replace T4 := hide (T4.out.step b5)
  replace LD := hide (LD.out.step b5)
  clear b5 ra rb rq
  have ra := T4.out.grd (p := w2.heap.size) (T := 29) (A := #[.int .u64 (xa0 : Int), .int .u64 (xa1 : Int), .int .u64 (xa2 : Int), .int .u64 (xa3 : Int)]) (by simp)
  have rb := T4.out.grd (p := w2.heap.size + 1) (T := 29) (A := #[.int .u64 (ya0 : Int), .int .u64 (ya1 : Int), .int .u64 (ya2 : Int), .int .u64 (ya3 : Int)]) (by simp)
  have rq := T4.out.grd (p := w4.heap.size) (T := 29) (A := #[.int .u64 (qa0 : Int), .int .u64 (qa1 : Int), .int .u64 (qa2 : Int), .int .u64 (qa3 : Int)]) (by simp)
  simp only [List.getElem_toArray, List.getElem_cons_zero, List.getElem_cons_succ, Act.put, List.setIfInBounds_toArray, List.set_cons_zero, List.set_cons_succ]
  refine wpE_take (i := 10) (v := ?va5) rfl (by kernel_rfl) (by kernel_rfl) (by kernel_rfl) (fun _ _ _ h => h) rfl ?ya5 ?ra5
  case ya5 => (intro w' hw'; go_simp; try rfl)
  simp only [List.getElem_toArray, List.getElem_cons_zero, List.getElem_cons_succ, Act.put, List.setIfInBounds_toArray, List.set_cons_zero, List.set_cons_succ]
  refine wpE_take (i := 11) (v := ?va6) rfl (by kernel_rfl) (by kernel_rfl) (by kernel_rfl) (fun _ _ _ h => h) rfl ?ya6 ?ra6
  case ya6 => (intro w' hw'; go_simp; try rfl)
  simp only [List.getElem_toArray, List.getElem_cons_zero, List.getElem_cons_succ, Act.put, List.setIfInBounds_toArray, List.set_cons_zero, List.set_cons_succ]
  refine wpE_take (i := 14) (v := ?va7) rfl (by kernel_rfl) (by kernel_rfl) (by kernel_rfl) (fun _ _ _ h => h) rfl ?ya7 ?ra7
  case ya7 => (intro w' hw'; go_simp; try rfl)
  simp only [List.getElem_toArray, List.getElem_cons_zero, List.getElem_cons_succ, Act.put, List.setIfInBounds_toArray, List.set_cons_zero, List.set_cons_succ]
  refine wpE_call (i := 12) (f := 17) (vals := #[.agg (#[.int .u64 (xa0 : Int), .int .u64 (xa1 : Int), .int .u64 (xa2 : Int), .int .u64 (xa3 : Int)])]) (by kernel_rfl) rfl rfl (by go_simp) (inv_gen HEx.out HBx.out LD.out) ?_
  rintro e w5 ⟨rfl, b5⟩
  refine ⟨_, rfl, b5, ?_⟩
  replace T4 := hide (T4.out.step b5)
  replace LD := hide (LD.out.step b5)
  clear b5 ra rb rq
  have ra := T4.out.grd (p := w2.heap.size) (T := 29) (A := #[.int .u64 (xa0 : Int), .int .u64 (xa1 : Int), .int .u64 (xa2 : Int), .int .u64 (xa3 : Int)]) (by simp)
  have rb := T4.out.grd (p := w2.heap.size + 1) (T := 29) (A := #[.int .u64 (ya0 : Int), .int .u64 (ya1 : Int), .int .u64 (ya2 : Int), .int .u64 (ya3 : Int)]) (by simp)
  have rq := T4.out.grd (p := w4.heap.size) (T := 29) (A := #[.int .u64 (qa0 : Int), .int .u64 (qa1 : Int), .int .u64 (qa2 : Int), .int .u64 (qa3 : Int)]) (by simp)
  simp only [List.getElem_toArray, List.getElem_cons_zero, List.getElem_cons_succ, Act.put, List.setIfInBounds_toArray, List.set_cons_zero, List.set_cons_succ]
  refine wpE_call (i := 13) (f := 17) (vals := #[.agg (el (pw x ex))]) (by kernel_rfl) rfl rfl (by go_simp) (inv_gen rfl (pw_lt _ _) LD.out) ?_
  rintro e w5 ⟨rfl, b5⟩
  refine ⟨_, rfl, b5, ?_⟩
  replace T4 := hide (T4.out.step b5)
  replace LD := hide (LD.out.step b5)
  clear b5 ra rb rq
  have ra := T4.out.grd (p := w2.heap.size) (T := 29) (A := #[.int .u64 (xa0 : Int), .int .u64 (xa1 : Int), .int .u64 (xa2 : Int), .int .u64 (xa3 : Int)]) (by simp)
  have rb := T4.out.grd (p := w2.heap.size + 1) (T := 29) (A := #[.int .u64 (ya0 : Int), .int .u64 (ya1 : Int), .int .u64 (ya2 : Int), .int .u64 (ya3 : Int)]) (by simp)
  have rq := T4.out.grd (p := w4.heap.size) (T := 29) (A := #[.int .u64 (qa0 : Int), .int .u64 (qa1 : Int), .int .u64 (qa2 : Int), .int .u64 (qa3 : Int)]) (by simp)
  simp only [List.getElem_toArray, List.getElem_cons_zero, List.getElem_cons_succ, Act.put, List.setIfInBounds_toArray, List.set_cons_zero, List.set_cons_succ]
  refine wpE_call (i := 15) (f := 21) (vals := #[.agg (el (pw (pw x ex) ex)), .agg (#[.int .u64 (xa0 : Int), .int .u64 (xa1 : Int), .int .u64 (xa2 : Int), .int .u64 (xa3 : Int)])]) (by kernel_rfl) rfl rfl (by go_simp) (same_gen rfl HEx.out (pw_lt _ _) HBx.out G2.out _) ?_
  rintro e w5 ⟨rfl, b5⟩
  refine ⟨_, rfl, b5, ?_⟩
  replace T4 := hide (T4.out.step b5)
  replace LD := hide (LD.out.step b5)
  clear b5 ra rb rq
  have ra := T4.out.grd (p := w2.heap.size) (T := 29) (A := #[.int .u64 (xa0 : Int), .int .u64 (xa1 : Int), .int .u64 (xa2 : Int), .int .u64 (xa3 : Int)]) (by simp)
  have rb := T4.out.grd (p := w2.heap.size + 1) (T := 29) (A := #[.int .u64 (ya0 : Int), .int .u64 (ya1 : Int), .int .u64 (ya2 : Int), .int .u64 (ya3 : Int)]) (by simp)
  have rq := T4.out.grd (p := w4.heap.size) (T := 29) (A := #[.int .u64 (qa0 : Int), .int .u64 (qa1 : Int), .int .u64 (qa2 : Int), .int .u64 (qa3 : Int)]) (by simp)
  simp only [List.getElem_toArray, List.getElem_cons_zero, List.getElem_cons_succ, Act.put, List.setIfInBounds_toArray, List.set_cons_zero, List.set_cons_succ]
  refine wpE_take (i := 16) (v := ?va8) rfl (by kernel_rfl) (by kernel_rfl) (by kernel_rfl) (fun _ _ _ h => h) rfl ?ya8 ?ra8
  case ya8 => (intro w' hw'; go_simp; try rfl)
  simp only [List.getElem_toArray, List.getElem_cons_zero, List.getElem_cons_succ, Act.put, List.setIfInBounds_toArray, List.set_cons_zero, List.set_cons_succ]
  refine wpE_take (i := 17) (v := ?va9) rfl (by kernel_rfl) (by kernel_rfl) (by kernel_rfl) (fun _ _ _ h => h) rfl ?ya9 ?ra9
  case ya9 => (intro w' hw'; go_simp; try rfl)
  simp only [List.getElem_toArray, List.getElem_cons_zero, List.getElem_cons_succ, Act.put, List.setIfInBounds_toArray, List.set_cons_zero, List.set_cons_succ]
  refine wpE_take (i := 18) (v := ?va10) rfl (by kernel_rfl) (by kernel_rfl) (by kernel_rfl) (fun _ _ _ h => h) rfl ?ya10 ?ra10
  case ya10 => (intro w' hw'; go_simp; try rfl)
  simp only [List.getElem_toArray, List.getElem_cons_zero, List.getElem_cons_succ, Act.put, List.setIfInBounds_toArray, List.set_cons_zero, List.set_cons_succ]
  refine wpE_take (i := 19) (v := ?va11) rfl (by kernel_rfl) (by kernel_rfl) (by kernel_rfl) (fun _ _ _ h => h) rfl ?ya11 ?ra11
  case ya11 => (intro w' hw'; go_simp; try rfl)
  simp only [List.getElem_toArray, List.getElem_cons_zero, List.getElem_cons_succ, Act.put, List.setIfInBounds_toArray, List.set_cons_zero, List.set_cons_succ]
  refine wpE_take (i := 21) (v := ?va12) rfl (by kernel_rfl) (by kernel_rfl) (by kernel_rfl) (fun _ _ _ h => h) rfl ?ya12 ?ra12
  case ya12 => (intro w' hw'; go_simp; try rfl)
  simp only [List.getElem_toArray, List.getElem_cons_zero, List.getElem_cons_succ, Act.put, List.setIfInBounds_toArray, List.set_cons_zero, List.set_cons_succ]
  refine wpE_call (i := 20) (f := 14) (vals := #[.agg (#[.int .u64 (qa0 : Int), .int .u64 (qa1 : Int), .int .u64 (qa2 : Int), .int .u64 (qa3 : Int)]), .agg (#[.int .u64 (xa0 : Int), .int .u64 (xa1 : Int), .int .u64 (xa2 : Int), .int .u64 (xa3 : Int)])]) (by kernel_rfl) rfl rfl (by go_simp) (mul_gen HEq.out HEx.out (pw_lt _ _) HBx.out _) ?_
  rintro e w5 ⟨rfl, b5⟩
  refine ⟨_, rfl, b5, ?_⟩
  replace T4 := hide (T4.out.step b5)
  replace LD := hide (LD.out.step b5)
  clear b5 ra rb rq
  have ra := T4.out.grd (p := w2.heap.size) (T := 29) (A := #[.int .u64 (xa0 : Int), .int .u64 (xa1 : Int), .int .u64 (xa2 : Int), .int .u64 (xa3 : Int)]) (by simp)
  have rb := T4.out.grd (p := w2.heap.size + 1) (T := 29) (A := #[.int .u64 (ya0 : Int), .int .u64 (ya1 : Int), .int .u64 (ya2 : Int), .int .u64 (ya3 : Int)]) (by simp)
  have rq := T4.out.grd (p := w4.heap.size) (T := 29) (A := #[.int .u64 (qa0 : Int), .int .u64 (qa1 : Int), .int .u64 (qa2 : Int), .int .u64 (qa3 : Int)]) (by simp)
  simp only [List.getElem_toArray, List.getElem_cons_zero, List.getElem_cons_succ, Act.put, List.setIfInBounds_toArray, List.set_cons_zero, List.set_cons_succ]
  refine wpE_call (i := 22) (f := 17) (vals := #[.agg (#[.int .u64 (xa0 : Int), .int .u64 (xa1 : Int), .int .u64 (xa2 : Int), .int .u64 (xa3 : Int)])]) (by kernel_rfl) rfl rfl (by go_simp) (inv_gen HEx.out HBx.out LD.out) ?_
  rintro e w5 ⟨rfl, b5⟩
  refine ⟨_, rfl, b5, ?_⟩
  replace T4 := hide (T4.out.step b5)
  replace LD := hide (LD.out.step b5)
  clear b5 ra rb rq
  have ra := T4.out.grd (p := w2.heap.size) (T := 29) (A := #[.int .u64 (xa0 : Int), .int .u64 (xa1 : Int), .int .u64 (xa2 : Int), .int .u64 (xa3 : Int)]) (by simp)
  have rb := T4.out.grd (p := w2.heap.size + 1) (T := 29) (A := #[.int .u64 (ya0 : Int), .int .u64 (ya1 : Int), .int .u64 (ya2 : Int), .int .u64 (ya3 : Int)]) (by simp)
  have rq := T4.out.grd (p := w4.heap.size) (T := 29) (A := #[.int .u64 (qa0 : Int), .int .u64 (qa1 : Int), .int .u64 (qa2 : Int), .int .u64 (qa3 : Int)]) (by simp)
  simp only [List.getElem_toArray, List.getElem_cons_zero, List.getElem_cons_succ, Act.put, List.setIfInBounds_toArray, List.set_cons_zero, List.set_cons_succ]
  refine wpE_call (i := 23) (f := 21) (vals := #[.agg (el ((pw (x * x % pp) ex) * x % pp)), .agg (el (pw x ex))]) (by kernel_rfl) rfl rfl (by go_simp) (same_gen rfl rfl (pp_mod _) (pw_lt _ _) G3.out _) ?_
  rintro e w5 ⟨rfl, b5⟩
  refine ⟨_, rfl, b5, ?_⟩
  replace T4 := hide (T4.out.step b5)
  replace LD := hide (LD.out.step b5)
  clear b5 ra rb rq
  have ra := T4.out.grd (p := w2.heap.size) (T := 29) (A := #[.int .u64 (xa0 : Int), .int .u64 (xa1 : Int), .int .u64 (xa2 : Int), .int .u64 (xa3 : Int)]) (by simp)
  have rb := T4.out.grd (p := w2.heap.size + 1) (T := 29) (A := #[.int .u64 (ya0 : Int), .int .u64 (ya1 : Int), .int .u64 (ya2 : Int), .int .u64 (ya3 : Int)]) (by simp)
  have rq := T4.out.grd (p := w4.heap.size) (T := 29) (A := #[.int .u64 (qa0 : Int), .int .u64 (qa1 : Int), .int .u64 (qa2 : Int), .int .u64 (qa3 : Int)]) (by simp)
  simp only [List.getElem_toArray, List.getElem_cons_zero, List.getElem_cons_succ, Act.put, List.setIfInBounds_toArray, List.set_cons_zero, List.set_cons_succ]
  refine wpE_take (i := 24) (v := ?va13) rfl (by kernel_rfl) (by kernel_rfl) (by kernel_rfl) (fun _ _ _ h => h) rfl ?ya13 ?ra13
  case ya13 => (intro w' hw'; go_simp; try rfl)
  simp only [List.getElem_toArray, List.getElem_cons_zero, List.getElem_cons_succ, Act.put, List.setIfInBounds_toArray, List.set_cons_zero, List.set_cons_succ]
  refine wpE_take (i := 25) (v := ?va14) rfl (by kernel_rfl) (by kernel_rfl) (by kernel_rfl) (fun _ _ _ h => h) rfl ?ya14 ?ra14
  case ya14 => (intro w' hw'; go_simp; try rfl)
  simp only [List.getElem_toArray, List.getElem_cons_zero, List.getElem_cons_succ, Act.put, List.setIfInBounds_toArray, List.set_cons_zero, List.set_cons_succ]
  refine wpE_call (i := 26) (f := 6) (vals := #[]) (by kernel_rfl) rfl rfl (by go_simp) (awake_any _) ?_
  rintro e w5 ⟨rfl, b5⟩
  refine ⟨_, rfl, b5, ?_⟩
  replace T4 := hide (T4.out.step b5)
  replace LD := hide (LD.out.step b5)
  clear b5 ra rb rq
  have ra := T4.out.grd (p := w2.heap.size) (T := 29) (A := #[.int .u64 (xa0 : Int), .int .u64 (xa1 : Int), .int .u64 (xa2 : Int), .int .u64 (xa3 : Int)]) (by simp)
  have rb := T4.out.grd (p := w2.heap.size + 1) (T := 29) (A := #[.int .u64 (ya0 : Int), .int .u64 (ya1 : Int), .int .u64 (ya2 : Int), .int .u64 (ya3 : Int)]) (by simp)
  have rq := T4.out.grd (p := w4.heap.size) (T := 29) (A := #[.int .u64 (qa0 : Int), .int .u64 (qa1 : Int), .int .u64 (qa2 : Int), .int .u64 (qa3 : Int)]) (by simp)
  simp only [List.getElem_toArray, List.getElem_cons_zero, List.getElem_cons_succ, Act.put, List.setIfInBounds_toArray, List.set_cons_zero, List.set_cons_succ]
  refine wpE_take (i := 27) (v := ?va15) rfl (by kernel_rfl) (by kernel_rfl) (by kernel_rfl) (fun _ _ _ h => h) rfl ?ya15 ?ra15
  case ya15 => (intro w' hw'; go_simp; try rfl)
  simp only [List.getElem_toArray, List.getElem_cons_zero, List.getElem_cons_succ, Act.put, List.setIfInBounds_toArray, List.set_cons_zero, List.set_cons_succ]
  refine wpE_take (i := 28) (v := ?va16) rfl (by kernel_rfl) (by kernel_rfl) (by kernel_rfl) (fun _ _ _ h => h) rfl ?ya16 ?ra16
  case ya16 => (intro w' hw'; go_simp; try rfl)
  simp only [List.getElem_toArray, List.getElem_cons_zero, List.getElem_cons_succ, Act.put, List.setIfInBounds_toArray, List.set_cons_zero, List.set_cons_succ]
  refine wpE_done (by kernel_rfl) ?_
  clear ra rb rq
  go_wp2
  go_ret
  exact ⟨rfl, T4.out.below⟩
end Go.Proofs.YtbaionconnhdiaaDoor
