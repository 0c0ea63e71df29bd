/- What is turned about: the law FieldSigns answers true, in any world, for all bytes. -/
import Derived.Test.YtbaionconnhdiaaAtRows
namespace Go.Proofs.Ytbaionconnhdiaa
open Go.RowKit
set_option linter.unusedSimpArgs false in
set_option maxRecDepth 100000 in
set_option maxHeartbeats 4000000 in
theorem fieldSigns_any (u v : Value) (bs cs : List Nat) (w : World) (h1 : BsAt w u bs) (h2 : BsAt w v cs) (hl1 : bs.length ≤ 100) (hl2 : cs.length ≤ 100) :
    Calls Try.prog 4 #[u, v] w fun e w' => e = .returned (.bool true) ∧ Below w.heap.size w w' := by
  have HF1 : Hid (∀ W, BsAt W u bs → Calls Try.prog 7 #[u] W fun e w' => e = .returned (.agg (el (bval (bs.take 32) % pp))) ∧ Below W.heap.size W w') := fun W h => from_any u bs hl1 W h
  have HF2 : Hid (∀ W, BsAt W v cs → Calls Try.prog 7 #[v] W fun e w' => e = .returned (.agg (el (bval (cs.take 32) % pp))) ∧ Below W.heap.size W w') := fun W h => from_any v cs hl2 W h
  have BS1 := hide h1
  have BS2 := hide h2
  have hx := pp_mod (bval (bs.take 32))
  have hy := pp_mod (bval (cs.take 32))
  generalize bval (bs.take 32) % pp = x at *
  generalize bval (cs.take 32) % pp = y at *
  obtain ⟨a, b, c, d, he⟩ := el_lits x
  obtain ⟨a', b', c', d', he'⟩ := el_lits y
  have HEA := hide he.symm
  have HEB := hide he'.symm
  rw [he] at HF1
  rw [he'] at HF2
  have HX := hide hx
  have HY := hide hy
  have F1 := hide (neg_neg x hx)
  have F2 := hide (neg_neg_mul x y hx hy)
  have F3 := hide (sub_neg x y hx hy)
  obtain ⟨a0, c0, rfl, _, hm0⟩ := h1.len
  obtain ⟨a1, c1, rfl, _, hm1⟩ := h2.len
  have d1 : decide ((100 : Int) < (bs.length : Int)) = false := decide_eq_false (by omega)
  have d2 : decide ((100 : Int) < (cs.length : Int)) = false := decide_eq_false (by omega)
  have HLL := hide (And.intro hl1 hl2)
  clear h1 h2 he he' hl1 hl2
  by_cases h0 : x = 0
  · have HZ := hide (decide_eq_true h0)
    clear h0 hx hy
    go_enter Try.func4, Try.ntmps4
    go_wp2_with fail
    refine (HF1.out _ (BS1.out)).mono ?_
    rintro e w1 ⟨rfl, b1⟩
    go_wp2_with fail
    refine (HF2.out _ (BS2.out.ext b1)).mono ?_
    rintro e w2 ⟨rfl, b2⟩
    have T4 := hide (((At.nil (Below.chain b1 b2)).alloc #[.int .u64 (a : Int), .int .u64 (b : Int), .int .u64 (c : Int), .int .u64 (d : Int)] 28).alloc #[.int .u64 (a' : Int), .int .u64 (b' : Int), .int .u64 (c' : Int), .int .u64 (d' : Int)] 28)
    simp only [World.size_alloc] at T4
    clear b1 b2
    go_wp2_with fail
    generalize (w2.alloc (.cells #[.int .u64 (a : Int), .int .u64 (b : Int), .int .u64 (c : Int), .int .u64 (d : Int)] 28)).alloc (.cells #[.int .u64 (a' : Int), .int .u64 (b' : Int), .int .u64 (c' : Int), .int .u64 (d' : Int)] 28) = W4 at *
    refine wp_region_ext (by kernel_rfl) ?_
    replace T4 := hide T4.out.drew
    have ra := T4.out.grd (p := w2.heap.size) (T := 28) (A := #[.int .u64 (a : Int), .int .u64 (b : Int), .int .u64 (c : Int), .int .u64 (d : Int)]) (by simp)
    have rb := T4.out.grd (p := w2.heap.size + 1) (T := 28) (A := #[.int .u64 (a' : Int), .int .u64 (b' : Int), .int .u64 (c' : Int), .int .u64 (d' : Int)]) (by simp)
    refine wpE_take (i := 0) (v := ?va1) rfl (by kernel_rfl) (by kernel_rfl) (by kernel_rfl) (fun _ _ _ h => h) rfl ?ya1 ?ra1
    case ya1 => (intro w' hw'; go_simp; try rfl)
    simp only [List.getElem_toArray, List.getElem_cons_zero, List.getElem_cons_succ, Act.put, List.setIfInBounds_toArray, List.set_cons_zero, List.set_cons_succ]
    refine wpE_take (i := 3) (v := ?va2) rfl (by kernel_rfl) (by kernel_rfl) (by kernel_rfl) (fun _ _ _ h => h) rfl ?ya2 ?ra2
    case ya2 => (intro w' hw'; go_simp; try rfl)
    simp only [List.getElem_toArray, List.getElem_cons_zero, List.getElem_cons_succ, Act.put, List.setIfInBounds_toArray, List.set_cons_zero, List.set_cons_succ]
    refine wpE_call (i := 1) (f := 12) (vals := #[.agg (#[.int .u64 (a : Int), .int .u64 (b : Int), .int .u64 (c : Int), .int .u64 (d : Int)])]) (by kernel_rfl) rfl rfl (by go_simp) (neg_gen HEA.out HX.out _) ?_
    rintro e w5 ⟨rfl, b5⟩
    refine ⟨_, rfl, b5, ?_⟩
    replace T4 := hide (T4.out.step b5)
    clear ra rb b5
    have ra := T4.out.grd (p := w2.heap.size) (T := 28) (A := #[.int .u64 (a : Int), .int .u64 (b : Int), .int .u64 (c : Int), .int .u64 (d : Int)]) (by simp)
    have rb := T4.out.grd (p := w2.heap.size + 1) (T := 28) (A := #[.int .u64 (a' : Int), .int .u64 (b' : Int), .int .u64 (c' : Int), .int .u64 (d' : Int)]) (by simp)
    simp only [List.getElem_toArray, List.getElem_cons_zero, List.getElem_cons_succ, Act.put, List.setIfInBounds_toArray, List.set_cons_zero, List.set_cons_succ]
    refine wpE_call (i := 2) (f := 12) (vals := #[.agg (el ((pp - x) % pp))]) (by kernel_rfl) rfl rfl (by go_simp) (neg_gen rfl (pp_mod _) _) ?_
    rintro e w5 ⟨rfl, b5⟩
    refine ⟨_, rfl, b5, ?_⟩
    replace T4 := hide (T4.out.step b5)
    clear ra rb b5
    have ra := T4.out.grd (p := w2.heap.size) (T := 28) (A := #[.int .u64 (a : Int), .int .u64 (b : Int), .int .u64 (c : Int), .int .u64 (d : Int)]) (by simp)
    have rb := T4.out.grd (p := w2.heap.size + 1) (T := 28) (A := #[.int .u64 (a' : Int), .int .u64 (b' : Int), .int .u64 (c' : Int), .int .u64 (d' : Int)]) (by simp)
    simp only [List.getElem_toArray, List.getElem_cons_zero, List.getElem_cons_succ, Act.put, List.setIfInBounds_toArray, List.set_cons_zero, List.set_cons_succ]
    refine wpE_call (i := 4) (f := 9) (vals := #[.agg (el ((pp - ((pp - x) % pp)) % pp)), .agg (#[.int .u64 (a : Int), .int .u64 (b : Int), .int .u64 (c : Int), .int .u64 (d : Int)])]) (by kernel_rfl) rfl rfl (by go_simp) (same_gen rfl HEA.out (pp_mod _) HX.out F1.out _) ?_
    rintro e w5 ⟨rfl, b5⟩
    refine ⟨_, rfl, b5, ?_⟩
    replace T4 := hide (T4.out.step b5)
    clear ra rb b5
    have ra := T4.out.grd (p := w2.heap.size) (T := 28) (A := #[.int .u64 (a : Int), .int .u64 (b : Int), .int .u64 (c : Int), .int .u64 (d : Int)]) (by simp)
    have rb := T4.out.grd (p := w2.heap.size + 1) (T := 28) (A := #[.int .u64 (a' : Int), .int .u64 (b' : Int), .int .u64 (c' : Int), .int .u64 (d' : Int)]) (by simp)
    simp only [List.getElem_toArray, List.getElem_cons_zero, List.getElem_cons_succ, Act.put, List.setIfInBounds_toArray, List.set_cons_zero, List.set_cons_succ]
    refine wpE_take (i := 5) (v := ?va3) rfl (by kernel_rfl) (by kernel_rfl) (by kernel_rfl) (fun _ _ _ h => h) rfl ?ya3 ?ra3
    case ya3 => (intro w' hw'; go_simp; try rfl)
    simp only [List.getElem_toArray, List.getElem_cons_zero, List.getElem_cons_succ, Act.put, List.setIfInBounds_toArray, List.set_cons_zero, List.set_cons_succ]
    refine wpE_take (i := 6) (v := ?va4) rfl (by kernel_rfl) (by kernel_rfl) (by kernel_rfl) (fun _ _ _ h => h) rfl ?ya4 ?ra4
    case ya4 => (intro w' hw'; go_simp; try rfl)
    simp only [List.getElem_toArray, List.getElem_cons_zero, List.getElem_cons_succ, Act.put, List.setIfInBounds_toArray, List.set_cons_zero, List.set_cons_succ]
    refine wpE_call (i := 7) (f := 10) (vals := #[.agg (#[.int .u64 (a : Int), .int .u64 (b : Int), .int .u64 (c : Int), .int .u64 (d : Int)])]) (by kernel_rfl) rfl rfl (by go_simp) (isZero_gen HEA.out HX.out HZ.out _) ?_
    rintro e w5 ⟨rfl, b5⟩
    refine ⟨_, rfl, b5, ?_⟩
    replace T4 := hide (T4.out.step b5)
    clear ra rb b5
    have ra := T4.out.grd (p := w2.heap.size) (T := 28) (A := #[.int .u64 (a : Int), .int .u64 (b : Int), .int .u64 (c : Int), .int .u64 (d : Int)]) (by simp)
    have rb := T4.out.grd (p := w2.heap.size + 1) (T := 28) (A := #[.int .u64 (a' : Int), .int .u64 (b' : Int), .int .u64 (c' : Int), .int .u64 (d' : Int)]) (by simp)
    simp only [List.getElem_toArray, List.getElem_cons_zero, List.getElem_cons_succ, Act.put, List.setIfInBounds_toArray, List.set_cons_zero, List.set_cons_succ]
    refine wpE_take (i := 8) (v := ?va5) rfl (by kernel_rfl) (by kernel_rfl) (by kernel_rfl) (fun _ _ _ h => h) rfl ?ya5 ?ra5
    case ya5 => (intro w' hw'; go_simp; try rfl)
    simp only [List.getElem_toArray, List.getElem_cons_zero, List.getElem_cons_succ, Act.put, List.setIfInBounds_toArray, List.set_cons_zero, List.set_cons_succ]
    refine wpE_skip (i := 9) rfl (by kernel_rfl) (by kernel_rfl) (by kernel_rfl) (fun _ _ _ h => h) rfl ?_
    simp only [List.getElem_toArray, List.getElem_cons_zero, List.getElem_cons_succ, Act.put, List.setIfInBounds_toArray, List.set_cons_zero, List.set_cons_succ]
    refine wpE_skip (i := 10) rfl (by kernel_rfl) (by kernel_rfl) (by kernel_rfl) (fun _ _ _ h => h) rfl ?_
    simp only [List.getElem_toArray, List.getElem_cons_zero, List.getElem_cons_succ, Act.put, List.setIfInBounds_toArray, List.set_cons_zero, List.set_cons_succ]
    refine wpE_skip (i := 11) rfl (by kernel_rfl) (by kernel_rfl) (by kernel_rfl) (fun _ _ _ h => h) rfl ?_
    simp only [List.getElem_toArray, List.getElem_cons_zero, List.getElem_cons_succ, Act.put, List.setIfInBounds_toArray, List.set_cons_zero, List.set_cons_succ]
    refine wpE_skip (i := 12) rfl (by kernel_rfl) (by kernel_rfl) (by kernel_rfl) (fun _ _ _ h => h) rfl ?_
    simp only [List.getElem_toArray, List.getElem_cons_zero, List.getElem_cons_succ, Act.put, List.setIfInBounds_toArray, List.set_cons_zero, List.set_cons_succ]
    refine wpE_skip (i := 13) rfl (by kernel_rfl) (by kernel_rfl) (by kernel_rfl) (fun _ _ _ h => h) rfl ?_
    simp only [List.getElem_toArray, List.getElem_cons_zero, List.getElem_cons_succ, Act.put, List.setIfInBounds_toArray, List.set_cons_zero, List.set_cons_succ]
    refine wpE_skip (i := 14) rfl (by kernel_rfl) (by kernel_rfl) (by kernel_rfl) (fun _ _ _ h => h) rfl ?_
    simp only [List.getElem_toArray, List.getElem_cons_zero, List.getElem_cons_succ, Act.put, List.setIfInBounds_toArray, List.set_cons_zero, List.set_cons_succ]
    refine wpE_take (i := 15) (v := ?va6) rfl (by kernel_rfl) (by kernel_rfl) (by kernel_rfl) (fun _ _ _ h => h) rfl ?ya6 ?ra6
    case ya6 => (intro w' hw'; go_simp; try rfl)
    simp only [List.getElem_toArray, List.getElem_cons_zero, List.getElem_cons_succ, Act.put, List.setIfInBounds_toArray, List.set_cons_zero, List.set_cons_succ]
    refine wpE_take (i := 16) (v := ?va7) rfl (by kernel_rfl) (by kernel_rfl) (by kernel_rfl) (fun _ _ _ h => h) rfl ?ya7 ?ra7
    case ya7 => (intro w' hw'; go_simp; try rfl)
    simp only [List.getElem_toArray, List.getElem_cons_zero, List.getElem_cons_succ, Act.put, List.setIfInBounds_toArray, List.set_cons_zero, List.set_cons_succ]
    refine wpE_take (i := 17) (v := ?va8) rfl (by kernel_rfl) (by kernel_rfl) (by kernel_rfl) (fun _ _ _ h => h) rfl ?ya8 ?ra8
    case ya8 => (intro w' hw'; go_simp; try rfl)
    simp only [List.getElem_toArray, List.getElem_cons_zero, List.getElem_cons_succ, Act.put, List.setIfInBounds_toArray, List.set_cons_zero, List.set_cons_succ]
    refine wpE_take (i := 18) (v := ?va9) rfl (by kernel_rfl) (by kernel_rfl) (by kernel_rfl) (fun _ _ _ h => h) rfl ?ya9 ?ra9
    case ya9 => (intro w' hw'; go_simp; try rfl)
    simp only [List.getElem_toArray, List.getElem_cons_zero, List.getElem_cons_succ, Act.put, List.setIfInBounds_toArray, List.set_cons_zero, List.set_cons_succ]
    refine wpE_take (i := 20) (v := ?va10) rfl (by kernel_rfl) (by kernel_rfl) (by kernel_rfl) (fun _ _ _ h => h) rfl ?ya10 ?ra10
    case ya10 => (intro w' hw'; go_simp; try rfl)
    simp only [List.getElem_toArray, List.getElem_cons_zero, List.getElem_cons_succ, Act.put, List.setIfInBounds_toArray, List.set_cons_zero, List.set_cons_succ]
    refine wpE_take (i := 23) (v := ?va11) rfl (by kernel_rfl) (by kernel_rfl) (by kernel_rfl) (fun _ _ _ h => h) rfl ?ya11 ?ra11
    case ya11 => (intro w' hw'; go_simp; try rfl)
    simp only [List.getElem_toArray, List.getElem_cons_zero, List.getElem_cons_succ, Act.put, List.setIfInBounds_toArray, List.set_cons_zero, List.set_cons_succ]
    refine wpE_take (i := 24) (v := ?va12) rfl (by kernel_rfl) (by kernel_rfl) (by kernel_rfl) (fun _ _ _ h => h) rfl ?ya12 ?ra12
    case ya12 => (intro w' hw'; go_simp; try rfl)
    simp only [List.getElem_toArray, List.getElem_cons_zero, List.getElem_cons_succ, Act.put, List.setIfInBounds_toArray, List.set_cons_zero, List.set_cons_succ]
    refine wpE_call (i := 19) (f := 12) (vals := #[.agg (#[.int .u64 (a : Int), .int .u64 (b : Int), .int .u64 (c : Int), .int .u64 (d : Int)])]) (by kernel_rfl) rfl rfl (by go_simp) (neg_gen HEA.out HX.out _) ?_
    rintro e w5 ⟨rfl, b5⟩
    refine ⟨_, rfl, b5, ?_⟩
    replace T4 := hide (T4.out.step b5)
    clear ra rb b5
    have ra := T4.out.grd (p := w2.heap.size) (T := 28) (A := #[.int .u64 (a : Int), .int .u64 (b : Int), .int .u64 (c : Int), .int .u64 (d : Int)]) (by simp)
    have rb := T4.out.grd (p := w2.heap.size + 1) (T := 28) (A := #[.int .u64 (a' : Int), .int .u64 (b' : Int), .int .u64 (c' : Int), .int .u64 (d' : Int)]) (by simp)
    simp only [List.getElem_toArray, List.getElem_cons_zero, List.getElem_cons_succ, Act.put, List.setIfInBounds_toArray, List.set_cons_zero, List.set_cons_succ]
    refine wpE_call (i := 21) (f := 12) (vals := #[.agg (#[.int .u64 (a' : Int), .int .u64 (b' : Int), .int .u64 (c' : Int), .int .u64 (d' : Int)])]) (by kernel_rfl) rfl rfl (by go_simp) (neg_gen HEB.out HY.out _) ?_
    rintro e w5 ⟨rfl, b5⟩
    refine ⟨_, rfl, b5, ?_⟩
    replace T4 := hide (T4.out.step b5)
    clear ra rb b5
    have ra := T4.out.grd (p := w2.heap.size) (T := 28) (A := #[.int .u64 (a : Int), .int .u64 (b : Int), .int .u64 (c : Int), .int .u64 (d : Int)]) (by simp)
    have rb := T4.out.grd (p := w2.heap.size + 1) (T := 28) (A := #[.int .u64 (a' : Int), .int .u64 (b' : Int), .int .u64 (c' : Int), .int .u64 (d' : Int)]) (by simp)
    simp only [List.getElem_toArray, List.getElem_cons_zero, List.getElem_cons_succ, Act.put, List.setIfInBounds_toArray, List.set_cons_zero, List.set_cons_succ]
    refine wpE_call (i := 22) (f := 14) (vals := #[.agg (el ((pp - x) % pp)), .agg (el ((pp - y) % pp))]) (by kernel_rfl) rfl rfl (by go_simp) (mul_gen rfl rfl (pp_mod _) (pp_mod _) _) ?_
    rintro e w5 ⟨rfl, b5⟩
    refine ⟨_, rfl, b5, ?_⟩
    replace T4 := hide (T4.out.step b5)
    clear ra rb b5
    have ra := T4.out.grd (p := w2.heap.size) (T := 28) (A := #[.int .u64 (a : Int), .int .u64 (b : Int), .int .u64 (c : Int), .int .u64 (d : Int)]) (by simp)
    have rb := T4.out.grd (p := w2.heap.size + 1) (T := 28) (A := #[.int .u64 (a' : Int), .int .u64 (b' : Int), .int .u64 (c' : Int), .int .u64 (d' : Int)]) (by simp)
    simp only [List.getElem_toArray, List.getElem_cons_zero, List.getElem_cons_succ, Act.put, List.setIfInBounds_toArray, List.set_cons_zero, List.set_cons_succ]
    refine wpE_call (i := 25) (f := 14) (vals := #[.agg (#[.int .u64 (a : Int), .int .u64 (b : Int), .int .u64 (c : Int), .int .u64 (d : Int)]), .agg (#[.int .u64 (a' : Int), .int .u64 (b' : Int), .int .u64 (c' : Int), .int .u64 (d' : Int)])]) (by kernel_rfl) rfl rfl (by go_simp) (mul_gen HEA.out HEB.out HX.out HY.out _) ?_
    rintro e w5 ⟨rfl, b5⟩
    refine ⟨_, rfl, b5, ?_⟩
    replace T4 := hide (T4.out.step b5)
    clear ra rb b5
    have ra := T4.out.grd (p := w2.heap.size) (T := 28) (A := #[.int .u64 (a : Int), .int .u64 (b : Int), .int .u64 (c : Int), .int .u64 (d : Int)]) (by simp)
    have rb := T4.out.grd (p := w2.heap.size + 1) (T := 28) (A := #[.int .u64 (a' : Int), .int .u64 (b' : Int), .int .u64 (c' : Int), .int .u64 (d' : Int)]) (by simp)
    simp only [List.getElem_toArray, List.getElem_cons_zero, List.getElem_cons_succ, Act.put, List.setIfInBounds_toArray, List.set_cons_zero, List.set_cons_succ]
    refine wpE_call (i := 26) (f := 9) (vals := #[.agg (el (((pp - x) % pp) * ((pp - y) % pp) % pp)), .agg (el (x * y % pp))]) (by kernel_rfl) rfl rfl (by go_simp) (same_gen rfl rfl (pp_mod _) (pp_mod _) F2.out _) ?_
    rintro e w5 ⟨rfl, b5⟩
    refine ⟨_, rfl, b5, ?_⟩
    replace T4 := hide (T4.out.step b5)
    clear ra rb b5
    have ra := T4.out.grd (p := w2.heap.size) (T := 28) (A := #[.int .u64 (a : Int), .int .u64 (b : Int), .int .u64 (c : Int), .int .u64 (d : Int)]) (by simp)
    have rb := T4.out.grd (p := w2.heap.size + 1) (T := 28) (A := #[.int .u64 (a' : Int), .int .u64 (b' : Int), .int .u64 (c' : Int), .int .u64 (d' : Int)]) (by simp)
    simp only [List.getElem_toArray, List.getElem_cons_zero, List.getElem_cons_succ, Act.put, List.setIfInBounds_toArray, List.set_cons_zero, List.set_cons_succ]
    refine wpE_take (i := 27) (v := ?va13) rfl (by kernel_rfl) (by kernel_rfl) (by kernel_rfl) (fun _ _ _ h => h) rfl ?ya13 ?ra13
    case ya13 => (intro w' hw'; go_simp; try rfl)
    simp only [List.getElem_toArray, List.getElem_cons_zero, List.getElem_cons_succ, Act.put, List.setIfInBounds_toArray, List.set_cons_zero, List.set_cons_succ]
    refine wpE_take (i := 28) (v := ?va14) rfl (by kernel_rfl) (by kernel_rfl) (by kernel_rfl) (fun _ _ _ h => h) rfl ?ya14 ?ra14
    case ya14 => (intro w' hw'; go_simp; try rfl)
    simp only [List.getElem_toArray, List.getElem_cons_zero, List.getElem_cons_succ, Act.put, List.setIfInBounds_toArray, List.set_cons_zero, List.set_cons_succ]
    refine wpE_take (i := 29) (v := ?va15) rfl (by kernel_rfl) (by kernel_rfl) (by kernel_rfl) (fun _ _ _ h => h) rfl ?ya15 ?ra15
    case ya15 => (intro w' hw'; go_simp; try rfl)
    simp only [List.getElem_toArray, List.getElem_cons_zero, List.getElem_cons_succ, Act.put, List.setIfInBounds_toArray, List.set_cons_zero, List.set_cons_succ]
    refine wpE_take (i := 30) (v := ?va16) rfl (by kernel_rfl) (by kernel_rfl) (by kernel_rfl) (fun _ _ _ h => h) rfl ?ya16 ?ra16
    case ya16 => (intro w' hw'; go_simp; try rfl)
    simp only [List.getElem_toArray, List.getElem_cons_zero, List.getElem_cons_succ, Act.put, List.setIfInBounds_toArray, List.set_cons_zero, List.set_cons_succ]
    refine wpE_take (i := 32) (v := ?va17) rfl (by kernel_rfl) (by kernel_rfl) (by kernel_rfl) (fun _ _ _ h => h) rfl ?ya17 ?ra17
    case ya17 => (intro w' hw'; go_simp; try rfl)
    simp only [List.getElem_toArray, List.getElem_cons_zero, List.getElem_cons_succ, Act.put, List.setIfInBounds_toArray, List.set_cons_zero, List.set_cons_succ]
    refine wpE_take (i := 33) (v := ?va18) rfl (by kernel_rfl) (by kernel_rfl) (by kernel_rfl) (fun _ _ _ h => h) rfl ?ya18 ?ra18
    case ya18 => (intro w' hw'; go_simp; try rfl)
    simp only [List.getElem_toArray, List.getElem_cons_zero, List.getElem_cons_succ, Act.put, List.setIfInBounds_toArray, List.set_cons_zero, List.set_cons_succ]
    refine wpE_call (i := 31) (f := 15) (vals := #[.agg (#[.int .u64 (a : Int), .int .u64 (b : Int), .int .u64 (c : Int), .int .u64 (d : Int)]), .agg (#[.int .u64 (a' : Int), .int .u64 (b' : Int), .int .u64 (c' : Int), .int .u64 (d' : Int)])]) (by kernel_rfl) rfl rfl (by go_simp) (sub_gen HEA.out HEB.out HX.out HY.out _) ?_
    rintro e w5 ⟨rfl, b5⟩
    refine ⟨_, rfl, b5, ?_⟩
    replace T4 := hide (T4.out.step b5)
    clear ra rb b5
    have ra := T4.out.grd (p := w2.heap.size) (T := 28) (A := #[.int .u64 (a : Int), .int .u64 (b : Int), .int .u64 (c : Int), .int .u64 (d : Int)]) (by simp)
    have rb := T4.out.grd (p := w2.heap.size + 1) (T := 28) (A := #[.int .u64 (a' : Int), .int .u64 (b' : Int), .int .u64 (c' : Int), .int .u64 (d' : Int)]) (by simp)
    simp only [List.getElem_toArray, List.getElem_cons_zero, List.getElem_cons_succ, Act.put, List.setIfInBounds_toArray, List.set_cons_zero, List.set_cons_succ]
    refine wpE_call (i := 34) (f := 15) (vals := #[.agg (#[.int .u64 (a' : Int), .int .u64 (b' : Int), .int .u64 (c' : Int), .int .u64 (d' : Int)]), .agg (#[.int .u64 (a : Int), .int .u64 (b : Int), .int .u64 (c : Int), .int .u64 (d : Int)])]) (by kernel_rfl) rfl rfl (by go_simp) (sub_gen HEB.out HEA.out HY.out HX.out _) ?_
    rintro e w5 ⟨rfl, b5⟩
    refine ⟨_, rfl, b5, ?_⟩
    replace T4 := hide (T4.out.step b5)
    clear ra rb b5
    have ra := T4.out.grd (p := w2.heap.size) (T := 28) (A := #[.int .u64 (a : Int), .int .u64 (b : Int), .int .u64 (c : Int), .int .u64 (d : Int)]) (by simp)
    have rb := T4.out.grd (p := w2.heap.size + 1) (T := 28) (A := #[.int .u64 (a' : Int), .int .u64 (b' : Int), .int .u64 (c' : Int), .int .u64 (d' : Int)]) (by simp)
    simp only [List.getElem_toArray, List.getElem_cons_zero, List.getElem_cons_succ, Act.put, List.setIfInBounds_toArray, List.set_cons_zero, List.set_cons_succ]
    refine wpE_call (i := 35) (f := 12) (vals := #[.agg (el ((y + (pp - x) % pp) % pp))]) (by kernel_rfl) rfl rfl (by go_simp) (neg_gen rfl (pp_mod _) _) ?_
    rintro e w5 ⟨rfl, b5⟩
    refine ⟨_, rfl, b5, ?_⟩
    replace T4 := hide (T4.out.step b5)
    clear ra rb b5
    have ra := T4.out.grd (p := w2.heap.size) (T := 28) (A := #[.int .u64 (a : Int), .int .u64 (b : Int), .int .u64 (c : Int), .int .u64 (d : Int)]) (by simp)
    have rb := T4.out.grd (p := w2.heap.size + 1) (T := 28) (A := #[.int .u64 (a' : Int), .int .u64 (b' : Int), .int .u64 (c' : Int), .int .u64 (d' : Int)]) (by simp)
    simp only [List.getElem_toArray, List.getElem_cons_zero, List.getElem_cons_succ, Act.put, List.setIfInBounds_toArray, List.set_cons_zero, List.set_cons_succ]
    refine wpE_call (i := 36) (f := 9) (vals := #[.agg (el ((x + (pp - y) % pp) % pp)), .agg (el ((pp - ((y + (pp - x) % pp) % pp)) % pp))]) (by kernel_rfl) rfl rfl (by go_simp) (same_gen rfl rfl (pp_mod _) (pp_mod _) F3.out _) ?_
    rintro e w5 ⟨rfl, b5⟩
    refine ⟨_, rfl, b5, ?_⟩
    replace T4 := hide (T4.out.step b5)
    clear ra rb b5
    have ra := T4.out.grd (p := w2.heap.size) (T := 28) (A := #[.int .u64 (a : Int), .int .u64 (b : Int), .int .u64 (c : Int), .int .u64 (d : Int)]) (by simp)
    have rb := T4.out.grd (p := w2.heap.size + 1) (T := 28) (A := #[.int .u64 (a' : Int), .int .u64 (b' : Int), .int .u64 (c' : Int), .int .u64 (d' : Int)]) (by simp)
    simp only [List.getElem_toArray, List.getElem_cons_zero, List.getElem_cons_succ, Act.put, List.setIfInBounds_toArray, List.set_cons_zero, List.set_cons_succ]
    refine wpE_take (i := 37) (v := ?va19) rfl (by kernel_rfl) (by kernel_rfl) (by kernel_rfl) (fun _ _ _ h => h) rfl ?ya19 ?ra19
    case ya19 => (intro w' hw'; go_simp; try rfl)
    simp only [List.getElem_toArray, List.getElem_cons_zero, List.getElem_cons_succ, Act.put, List.setIfInBounds_toArray, List.set_cons_zero, List.set_cons_succ]
    refine wpE_take (i := 38) (v := ?va20) rfl (by kernel_rfl) (by kernel_rfl) (by kernel_rfl) (fun _ _ _ h => h) rfl ?ya20 ?ra20
    case ya20 => (intro w' hw'; go_simp; try rfl)
    simp only [List.getElem_toArray, List.getElem_cons_zero, List.getElem_cons_succ, Act.put, List.setIfInBounds_toArray, List.set_cons_zero, List.set_cons_succ]
    refine wpE_call (i := 39) (f := 6) (vals := #[]) (by kernel_rfl) rfl rfl (by go_simp) (awake_any _) ?_
    rintro e w5 ⟨rfl, b5⟩
    refine ⟨_, rfl, b5, ?_⟩
    replace T4 := hide (T4.out.step b5)
    clear ra rb b5
    have ra := T4.out.grd (p := w2.heap.size) (T := 28) (A := #[.int .u64 (a : Int), .int .u64 (b : Int), .int .u64 (c : Int), .int .u64 (d : Int)]) (by simp)
    have rb := T4.out.grd (p := w2.heap.size + 1) (T := 28) (A := #[.int .u64 (a' : Int), .int .u64 (b' : Int), .int .u64 (c' : Int), .int .u64 (d' : Int)]) (by simp)
    simp only [List.getElem_toArray, List.getElem_cons_zero, List.getElem_cons_succ, Act.put, List.setIfInBounds_toArray, List.set_cons_zero, List.set_cons_succ]
    refine wpE_take (i := 40) (v := ?va21) rfl (by kernel_rfl) (by kernel_rfl) (by kernel_rfl) (fun _ _ _ h => h) rfl ?ya21 ?ra21
    case ya21 => (intro w' hw'; go_simp; try rfl)
    simp only [List.getElem_toArray, List.getElem_cons_zero, List.getElem_cons_succ, Act.put, List.setIfInBounds_toArray, List.set_cons_zero, List.set_cons_succ]
    refine wpE_take (i := 41) (v := ?va22) rfl (by kernel_rfl) (by kernel_rfl) (by kernel_rfl) (fun _ _ _ h => h) rfl ?ya22 ?ra22
    case ya22 => (intro w' hw'; go_simp; try rfl)
    simp only [List.getElem_toArray, List.getElem_cons_zero, List.getElem_cons_succ, Act.put, List.setIfInBounds_toArray, List.set_cons_zero, List.set_cons_succ]
    refine wpE_done (by kernel_rfl) ?_
    clear ra rb
    go_wp2
    go_ret
    exact ⟨rfl, T4.out.below⟩
  · have HZ := hide (decide_eq_false h0)
    have HO2 := hide (neg_odd x h0 hx)
    obtain ⟨q, hq⟩ : ∃ q, decide (x % 2 = 1) = q := ⟨_, rfl⟩
    rw [hq] at HO2
    have HO1 := hide hq
    have hqq : (q != !q) = true := by cases q <;> rfl
    clear h0 hx hy hq
    go_enter Try.func4, Try.ntmps4
    go_wp2_with fail
    refine (HF1.out _ (BS1.out)).mono ?_
    rintro e w1 ⟨rfl, b1⟩
    go_wp2_with fail
    refine (HF2.out _ (BS2.out.ext b1)).mono ?_
    rintro e w2 ⟨rfl, b2⟩
    have T4 := hide (((At.nil (Below.chain b1 b2)).alloc #[.int .u64 (a : Int), .int .u64 (b : Int), .int .u64 (c : Int), .int .u64 (d : Int)] 28).alloc #[.int .u64 (a' : Int), .int .u64 (b' : Int), .int .u64 (c' : Int), .int .u64 (d' : Int)] 28)
    simp only [World.size_alloc] at T4
    clear b1 b2
    go_wp2_with fail
    generalize (w2.alloc (.cells #[.int .u64 (a : Int), .int .u64 (b : Int), .int .u64 (c : Int), .int .u64 (d : Int)] 28)).alloc (.cells #[.int .u64 (a' : Int), .int .u64 (b' : Int), .int .u64 (c' : Int), .int .u64 (d' : Int)] 28) = W4 at *
    refine wp_region_ext (by kernel_rfl) ?_
    replace T4 := hide T4.out.drew
    have ra := T4.out.grd (p := w2.heap.size) (T := 28) (A := #[.int .u64 (a : Int), .int .u64 (b : Int), .int .u64 (c : Int), .int .u64 (d : Int)]) (by simp)
    have rb := T4.out.grd (p := w2.heap.size + 1) (T := 28) (A := #[.int .u64 (a' : Int), .int .u64 (b' : Int), .int .u64 (c' : Int), .int .u64 (d' : Int)]) (by simp)
    refine wpE_take (i := 0) (v := ?vb1) rfl (by kernel_rfl) (by kernel_rfl) (by kernel_rfl) (fun _ _ _ h => h) rfl ?yb1 ?rb1
    case yb1 => (intro w' hw'; go_simp; try rfl)
    simp only [List.getElem_toArray, List.getElem_cons_zero, List.getElem_cons_succ, Act.put, List.setIfInBounds_toArray, List.set_cons_zero, List.set_cons_succ]
    refine wpE_take (i := 3) (v := ?vb2) rfl (by kernel_rfl) (by kernel_rfl) (by kernel_rfl) (fun _ _ _ h => h) rfl ?yb2 ?rb2
    case yb2 => (intro w' hw'; go_simp; try rfl)
    simp only [List.getElem_toArray, List.getElem_cons_zero, List.getElem_cons_succ, Act.put, List.setIfInBounds_toArray, List.set_cons_zero, List.set_cons_succ]
    refine wpE_call (i := 1) (f := 12) (vals := #[.agg (#[.int .u64 (a : Int), .int .u64 (b : Int), .int .u64 (c : Int), .int .u64 (d : Int)])]) (by kernel_rfl) rfl rfl (by go_simp) (neg_gen HEA.out HX.out _) ?_
    rintro e w5 ⟨rfl, b5⟩
    refine ⟨_, rfl, b5, ?_⟩
    replace T4 := hide (T4.out.step b5)
    clear ra rb b5
    have ra := T4.out.grd (p := w2.heap.size) (T := 28) (A := #[.int .u64 (a : Int), .int .u64 (b : Int), .int .u64 (c : Int), .int .u64 (d : Int)]) (by simp)
    have rb := T4.out.grd (p := w2.heap.size + 1) (T := 28) (A := #[.int .u64 (a' : Int), .int .u64 (b' : Int), .int .u64 (c' : Int), .int .u64 (d' : Int)]) (by simp)
    simp only [List.getElem_toArray, List.getElem_cons_zero, List.getElem_cons_succ, Act.put, List.setIfInBounds_toArray, List.set_cons_zero, List.set_cons_succ]
    refine wpE_call (i := 2) (f := 12) (vals := #[.agg (el ((pp - x) % pp))]) (by kernel_rfl) rfl rfl (by go_simp) (neg_gen rfl (pp_mod _) _) ?_
    rintro e w5 ⟨rfl, b5⟩
    refine ⟨_, rfl, b5, ?_⟩
    replace T4 := hide (T4.out.step b5)
    clear ra rb b5
    have ra := T4.out.grd (p := w2.heap.size) (T := 28) (A := #[.int .u64 (a : Int), .int .u64 (b : Int), .int .u64 (c : Int), .int .u64 (d : Int)]) (by simp)
    have rb := T4.out.grd (p := w2.heap.size + 1) (T := 28) (A := #[.int .u64 (a' : Int), .int .u64 (b' : Int), .int .u64 (c' : Int), .int .u64 (d' : Int)]) (by simp)
    simp only [List.getElem_toArray, List.getElem_cons_zero, List.getElem_cons_succ, Act.put, List.setIfInBounds_toArray, List.set_cons_zero, List.set_cons_succ]
    refine wpE_call (i := 4) (f := 9) (vals := #[.agg (el ((pp - ((pp - x) % pp)) % pp)), .agg (#[.int .u64 (a : Int), .int .u64 (b : Int), .int .u64 (c : Int), .int .u64 (d : Int)])]) (by kernel_rfl) rfl rfl (by go_simp) (same_gen rfl HEA.out (pp_mod _) HX.out F1.out _) ?_
    rintro e w5 ⟨rfl, b5⟩
    refine ⟨_, rfl, b5, ?_⟩
    replace T4 := hide (T4.out.step b5)
    clear ra rb b5
    have ra := T4.out.grd (p := w2.heap.size) (T := 28) (A := #[.int .u64 (a : Int), .int .u64 (b : Int), .int .u64 (c : Int), .int .u64 (d : Int)]) (by simp)
    have rb := T4.out.grd (p := w2.heap.size + 1) (T := 28) (A := #[.int .u64 (a' : Int), .int .u64 (b' : Int), .int .u64 (c' : Int), .int .u64 (d' : Int)]) (by simp)
    simp only [List.getElem_toArray, List.getElem_cons_zero, List.getElem_cons_succ, Act.put, List.setIfInBounds_toArray, List.set_cons_zero, List.set_cons_succ]
    refine wpE_take (i := 5) (v := ?vb3) rfl (by kernel_rfl) (by kernel_rfl) (by kernel_rfl) (fun _ _ _ h => h) rfl ?yb3 ?rb3
    case yb3 => (intro w' hw'; go_simp; try rfl)
    simp only [List.getElem_toArray, List.getElem_cons_zero, List.getElem_cons_succ, Act.put, List.setIfInBounds_toArray, List.set_cons_zero, List.set_cons_succ]
    refine wpE_take (i := 6) (v := ?vb4) rfl (by kernel_rfl) (by kernel_rfl) (by kernel_rfl) (fun _ _ _ h => h) rfl ?yb4 ?rb4
    case yb4 => (intro w' hw'; go_simp; try rfl)
    simp only [List.getElem_toArray, List.getElem_cons_zero, List.getElem_cons_succ, Act.put, List.setIfInBounds_toArray, List.set_cons_zero, List.set_cons_succ]
    refine wpE_call (i := 7) (f := 10) (vals := #[.agg (#[.int .u64 (a : Int), .int .u64 (b : Int), .int .u64 (c : Int), .int .u64 (d : Int)])]) (by kernel_rfl) rfl rfl (by go_simp) (isZero_gen HEA.out HX.out HZ.out _) ?_
    rintro e w5 ⟨rfl, b5⟩
    refine ⟨_, rfl, b5, ?_⟩
    replace T4 := hide (T4.out.step b5)
    clear ra rb b5
    have ra := T4.out.grd (p := w2.heap.size) (T := 28) (A := #[.int .u64 (a : Int), .int .u64 (b : Int), .int .u64 (c : Int), .int .u64 (d : Int)]) (by simp)
    have rb := T4.out.grd (p := w2.heap.size + 1) (T := 28) (A := #[.int .u64 (a' : Int), .int .u64 (b' : Int), .int .u64 (c' : Int), .int .u64 (d' : Int)]) (by simp)
    simp only [List.getElem_toArray, List.getElem_cons_zero, List.getElem_cons_succ, Act.put, List.setIfInBounds_toArray, List.set_cons_zero, List.set_cons_succ]
    refine wpE_take (i := 8) (v := ?vb5) rfl (by kernel_rfl) (by kernel_rfl) (by kernel_rfl) (fun _ _ _ h => h) rfl ?yb5 ?rb5
    case yb5 => (intro w' hw'; go_simp; try rfl)
    simp only [List.getElem_toArray, List.getElem_cons_zero, List.getElem_cons_succ, Act.put, List.setIfInBounds_toArray, List.set_cons_zero, List.set_cons_succ]
    refine wpE_take (i := 9) (v := ?vb6) rfl (by kernel_rfl) (by kernel_rfl) (by kernel_rfl) (fun _ _ _ h => h) rfl ?yb6 ?rb6
    case yb6 => (intro w' hw'; go_simp; try rfl)
    simp only [List.getElem_toArray, List.getElem_cons_zero, List.getElem_cons_succ, Act.put, List.setIfInBounds_toArray, List.set_cons_zero, List.set_cons_succ]
    refine wpE_take (i := 11) (v := ?vb7) rfl (by kernel_rfl) (by kernel_rfl) (by kernel_rfl) (fun _ _ _ h => h) rfl ?yb7 ?rb7
    case yb7 => (intro w' hw'; go_simp; try rfl)
    simp only [List.getElem_toArray, List.getElem_cons_zero, List.getElem_cons_succ, Act.put, List.setIfInBounds_toArray, List.set_cons_zero, List.set_cons_succ]
    refine wpE_call (i := 10) (f := 13) (vals := #[.agg (#[.int .u64 (a : Int), .int .u64 (b : Int), .int .u64 (c : Int), .int .u64 (d : Int)])]) (by kernel_rfl) rfl rfl (by go_simp) (isOdd_gen HEA.out HX.out HO1.out _) ?_
    rintro e w5 ⟨rfl, b5⟩
    refine ⟨_, rfl, b5, ?_⟩
    replace T4 := hide (T4.out.step b5)
    clear ra rb b5
    have ra := T4.out.grd (p := w2.heap.size) (T := 28) (A := #[.int .u64 (a : Int), .int .u64 (b : Int), .int .u64 (c : Int), .int .u64 (d : Int)]) (by simp)
    have rb := T4.out.grd (p := w2.heap.size + 1) (T := 28) (A := #[.int .u64 (a' : Int), .int .u64 (b' : Int), .int .u64 (c' : Int), .int .u64 (d' : Int)]) (by simp)
    simp only [List.getElem_toArray, List.getElem_cons_zero, List.getElem_cons_succ, Act.put, List.setIfInBounds_toArray, List.set_cons_zero, List.set_cons_succ]
    refine wpE_call (i := 12) (f := 12) (vals := #[.agg (#[.int .u64 (a : Int), .int .u64 (b : Int), .int .u64 (c : Int), .int .u64 (d : Int)])]) (by kernel_rfl) rfl rfl (by go_simp) (neg_gen HEA.out HX.out _) ?_
    rintro e w5 ⟨rfl, b5⟩
    refine ⟨_, rfl, b5, ?_⟩
    replace T4 := hide (T4.out.step b5)
    clear ra rb b5
    have ra := T4.out.grd (p := w2.heap.size) (T := 28) (A := #[.int .u64 (a : Int), .int .u64 (b : Int), .int .u64 (c : Int), .int .u64 (d : Int)]) (by simp)
    have rb := T4.out.grd (p := w2.heap.size + 1) (T := 28) (A := #[.int .u64 (a' : Int), .int .u64 (b' : Int), .int .u64 (c' : Int), .int .u64 (d' : Int)]) (by simp)
    simp only [List.getElem_toArray, List.getElem_cons_zero, List.getElem_cons_succ, Act.put, List.setIfInBounds_toArray, List.set_cons_zero, List.set_cons_succ]
    refine wpE_call (i := 13) (f := 13) (vals := #[.agg (el ((pp - x) % pp))]) (by kernel_rfl) rfl rfl (by go_simp) (isOdd_gen rfl (pp_mod _) HO2.out _) ?_
    rintro e w5 ⟨rfl, b5⟩
    refine ⟨_, rfl, b5, ?_⟩
    replace T4 := hide (T4.out.step b5)
    clear ra rb b5
    have ra := T4.out.grd (p := w2.heap.size) (T := 28) (A := #[.int .u64 (a : Int), .int .u64 (b : Int), .int .u64 (c : Int), .int .u64 (d : Int)]) (by simp)
    have rb := T4.out.grd (p := w2.heap.size + 1) (T := 28) (A := #[.int .u64 (a' : Int), .int .u64 (b' : Int), .int .u64 (c' : Int), .int .u64 (d' : Int)]) (by simp)
    simp only [List.getElem_toArray, List.getElem_cons_zero, List.getElem_cons_succ, Act.put, List.setIfInBounds_toArray, List.set_cons_zero, List.set_cons_succ]
    refine wpE_take (i := 14) (v := ?vb8) rfl (by kernel_rfl) (by kernel_rfl) (by kernel_rfl) (fun _ _ _ h => h) rfl ?yb8 ?rb8
    case yb8 => (intro w' hw'; go_simp; try rfl)
    simp only [List.getElem_toArray, List.getElem_cons_zero, List.getElem_cons_succ, Act.put, List.setIfInBounds_toArray, List.set_cons_zero, List.set_cons_succ]
    refine wpE_take (i := 15) (v := ?vb9) rfl (by kernel_rfl) (by kernel_rfl) (by kernel_rfl) (fun _ _ _ h => h) rfl ?yb9 ?rb9
    case yb9 => (intro w' hw'; go_simp; try rfl)
    simp only [List.getElem_toArray, List.getElem_cons_zero, List.getElem_cons_succ, Act.put, List.setIfInBounds_toArray, List.set_cons_zero, List.set_cons_succ]
    refine wpE_take (i := 16) (v := ?vb10) rfl (by kernel_rfl) (by kernel_rfl) (by kernel_rfl) (fun _ _ _ h => h) rfl ?yb10 ?rb10
    case yb10 => (intro w' hw'; go_simp; try rfl)
    simp only [List.getElem_toArray, List.getElem_cons_zero, List.getElem_cons_succ, Act.put, List.setIfInBounds_toArray, List.set_cons_zero, List.set_cons_succ]
    refine wpE_take (i := 17) (v := ?vb11) rfl (by kernel_rfl) (by kernel_rfl) (by kernel_rfl) (fun _ _ _ h => h) rfl ?yb11 ?rb11
    case yb11 => (intro w' hw'; go_simp; try rfl)
    simp only [List.getElem_toArray, List.getElem_cons_zero, List.getElem_cons_succ, Act.put, List.setIfInBounds_toArray, List.set_cons_zero, List.set_cons_succ]
    refine wpE_take (i := 18) (v := ?vb12) rfl (by kernel_rfl) (by kernel_rfl) (by kernel_rfl) (fun _ _ _ h => h) rfl ?yb12 ?rb12
    case yb12 => (intro w' hw'; go_simp; try rfl)
    simp only [List.getElem_toArray, List.getElem_cons_zero, List.getElem_cons_succ, Act.put, List.setIfInBounds_toArray, List.set_cons_zero, List.set_cons_succ]
    refine wpE_take (i := 20) (v := ?vb13) rfl (by kernel_rfl) (by kernel_rfl) (by kernel_rfl) (fun _ _ _ h => h) rfl ?yb13 ?rb13
    case yb13 => (intro w' hw'; go_simp; try rfl)
    simp only [List.getElem_toArray, List.getElem_cons_zero, List.getElem_cons_succ, Act.put, List.setIfInBounds_toArray, List.set_cons_zero, List.set_cons_succ]
    refine wpE_take (i := 23) (v := ?vb14) rfl (by kernel_rfl) (by kernel_rfl) (by kernel_rfl) (fun _ _ _ h => h) rfl ?yb14 ?rb14
    case yb14 => (intro w' hw'; go_simp; try rfl)
    simp only [List.getElem_toArray, List.getElem_cons_zero, List.getElem_cons_succ, Act.put, List.setIfInBounds_toArray, List.set_cons_zero, List.set_cons_succ]
    refine wpE_take (i := 24) (v := ?vb15) rfl (by kernel_rfl) (by kernel_rfl) (by kernel_rfl) (fun _ _ _ h => h) rfl ?yb15 ?rb15
    case yb15 => (intro w' hw'; go_simp; try rfl)
    simp only [List.getElem_toArray, List.getElem_cons_zero, List.getElem_cons_succ, Act.put, List.setIfInBounds_toArray, List.set_cons_zero, List.set_cons_succ]
    refine wpE_call (i := 19) (f := 12) (vals := #[.agg (#[.int .u64 (a : Int), .int .u64 (b : Int), .int .u64 (c : Int), .int .u64 (d : Int)])]) (by kernel_rfl) rfl rfl (by go_simp) (neg_gen HEA.out HX.out _) ?_
    rintro e w5 ⟨rfl, b5⟩
    refine ⟨_, rfl, b5, ?_⟩
    replace T4 := hide (T4.out.step b5)
    clear ra rb b5
    have ra := T4.out.grd (p := w2.heap.size) (T := 28) (A := #[.int .u64 (a : Int), .int .u64 (b : Int), .int .u64 (c : Int), .int .u64 (d : Int)]) (by simp)
    have rb := T4.out.grd (p := w2.heap.size + 1) (T := 28) (A := #[.int .u64 (a' : Int), .int .u64 (b' : Int), .int .u64 (c' : Int), .int .u64 (d' : Int)]) (by simp)
    simp only [List.getElem_toArray, List.getElem_cons_zero, List.getElem_cons_succ, Act.put, List.setIfInBounds_toArray, List.set_cons_zero, List.set_cons_succ]
    refine wpE_call (i := 21) (f := 12) (vals := #[.agg (#[.int .u64 (a' : Int), .int .u64 (b' : Int), .int .u64 (c' : Int), .int .u64 (d' : Int)])]) (by kernel_rfl) rfl rfl (by go_simp) (neg_gen HEB.out HY.out _) ?_
    rintro e w5 ⟨rfl, b5⟩
    refine ⟨_, rfl, b5, ?_⟩
    replace T4 := hide (T4.out.step b5)
    clear ra rb b5
    have ra := T4.out.grd (p := w2.heap.size) (T := 28) (A := #[.int .u64 (a : Int), .int .u64 (b : Int), .int .u64 (c : Int), .int .u64 (d : Int)]) (by simp)
    have rb := T4.out.grd (p := w2.heap.size + 1) (T := 28) (A := #[.int .u64 (a' : Int), .int .u64 (b' : Int), .int .u64 (c' : Int), .int .u64 (d' : Int)]) (by simp)
    simp only [List.getElem_toArray, List.getElem_cons_zero, List.getElem_cons_succ, Act.put, List.setIfInBounds_toArray, List.set_cons_zero, List.set_cons_succ]
    refine wpE_call (i := 22) (f := 14) (vals := #[.agg (el ((pp - x) % pp)), .agg (el ((pp - y) % pp))]) (by kernel_rfl) rfl rfl (by go_simp) (mul_gen rfl rfl (pp_mod _) (pp_mod _) _) ?_
    rintro e w5 ⟨rfl, b5⟩
    refine ⟨_, rfl, b5, ?_⟩
    replace T4 := hide (T4.out.step b5)
    clear ra rb b5
    have ra := T4.out.grd (p := w2.heap.size) (T := 28) (A := #[.int .u64 (a : Int), .int .u64 (b : Int), .int .u64 (c : Int), .int .u64 (d : Int)]) (by simp)
    have rb := T4.out.grd (p := w2.heap.size + 1) (T := 28) (A := #[.int .u64 (a' : Int), .int .u64 (b' : Int), .int .u64 (c' : Int), .int .u64 (d' : Int)]) (by simp)
    simp only [List.getElem_toArray, List.getElem_cons_zero, List.getElem_cons_succ, Act.put, List.setIfInBounds_toArray, List.set_cons_zero, List.set_cons_succ]
    refine wpE_call (i := 25) (f := 14) (vals := #[.agg (#[.int .u64 (a : Int), .int .u64 (b : Int), .int .u64 (c : Int), .int .u64 (d : Int)]), .agg (#[.int .u64 (a' : Int), .int .u64 (b' : Int), .int .u64 (c' : Int), .int .u64 (d' : Int)])]) (by kernel_rfl) rfl rfl (by go_simp) (mul_gen HEA.out HEB.out HX.out HY.out _) ?_
    rintro e w5 ⟨rfl, b5⟩
    refine ⟨_, rfl, b5, ?_⟩
    replace T4 := hide (T4.out.step b5)
    clear ra rb b5
    have ra := T4.out.grd (p := w2.heap.size) (T := 28) (A := #[.int .u64 (a : Int), .int .u64 (b : Int), .int .u64 (c : Int), .int .u64 (d : Int)]) (by simp)
    have rb := T4.out.grd (p := w2.heap.size + 1) (T := 28) (A := #[.int .u64 (a' : Int), .int .u64 (b' : Int), .int .u64 (c' : Int), .int .u64 (d' : Int)]) (by simp)
    simp only [List.getElem_toArray, List.getElem_cons_zero, List.getElem_cons_succ, Act.put, List.setIfInBounds_toArray, List.set_cons_zero, List.set_cons_succ]
    refine wpE_call (i := 26) (f := 9) (vals := #[.agg (el (((pp - x) % pp) * ((pp - y) % pp) % pp)), .agg (el (x * y % pp))]) (by kernel_rfl) rfl rfl (by go_simp) (same_gen rfl rfl (pp_mod _) (pp_mod _) F2.out _) ?_
    rintro e w5 ⟨rfl, b5⟩
    refine ⟨_, rfl, b5, ?_⟩
    replace T4 := hide (T4.out.step b5)
    clear ra rb b5
    have ra := T4.out.grd (p := w2.heap.size) (T := 28) (A := #[.int .u64 (a : Int), .int .u64 (b : Int), .int .u64 (c : Int), .int .u64 (d : Int)]) (by simp)
    have rb := T4.out.grd (p := w2.heap.size + 1) (T := 28) (A := #[.int .u64 (a' : Int), .int .u64 (b' : Int), .int .u64 (c' : Int), .int .u64 (d' : Int)]) (by simp)
    simp only [List.getElem_toArray, List.getElem_cons_zero, List.getElem_cons_succ, Act.put, List.setIfInBounds_toArray, List.set_cons_zero, List.set_cons_succ]
    refine wpE_take (i := 27) (v := ?vb16) rfl (by kernel_rfl) (by kernel_rfl) (by kernel_rfl) (fun _ _ _ h => h) rfl ?yb16 ?rb16
    case yb16 => (intro w' hw'; go_simp; try rfl)
    simp only [List.getElem_toArray, List.getElem_cons_zero, List.getElem_cons_succ, Act.put, List.setIfInBounds_toArray, List.set_cons_zero, List.set_cons_succ]
    refine wpE_take (i := 28) (v := ?vb17) rfl (by kernel_rfl) (by kernel_rfl) (by kernel_rfl) (fun _ _ _ h => h) rfl ?yb17 ?rb17
    case yb17 => (intro w' hw'; go_simp; try rfl)
    simp only [List.getElem_toArray, List.getElem_cons_zero, List.getElem_cons_succ, Act.put, List.setIfInBounds_toArray, List.set_cons_zero, List.set_cons_succ]
    refine wpE_take (i := 29) (v := ?vb18) rfl (by kernel_rfl) (by kernel_rfl) (by kernel_rfl) (fun _ _ _ h => h) rfl ?yb18 ?rb18
    case yb18 => (intro w' hw'; go_simp; try rfl)
    simp only [List.getElem_toArray, List.getElem_cons_zero, List.getElem_cons_succ, Act.put, List.setIfInBounds_toArray, List.set_cons_zero, List.set_cons_succ]
    refine wpE_take (i := 30) (v := ?vb19) rfl (by kernel_rfl) (by kernel_rfl) (by kernel_rfl) (fun _ _ _ h => h) rfl ?yb19 ?rb19
    case yb19 => (intro w' hw'; go_simp; try rfl)
    simp only [List.getElem_toArray, List.getElem_cons_zero, List.getElem_cons_succ, Act.put, List.setIfInBounds_toArray, List.set_cons_zero, List.set_cons_succ]
    refine wpE_take (i := 32) (v := ?vb20) rfl (by kernel_rfl) (by kernel_rfl) (by kernel_rfl) (fun _ _ _ h => h) rfl ?yb20 ?rb20
    case yb20 => (intro w' hw'; go_simp; try rfl)
    simp only [List.getElem_toArray, List.getElem_cons_zero, List.getElem_cons_succ, Act.put, List.setIfInBounds_toArray, List.set_cons_zero, List.set_cons_succ]
    refine wpE_take (i := 33) (v := ?vb21) rfl (by kernel_rfl) (by kernel_rfl) (by kernel_rfl) (fun _ _ _ h => h) rfl ?yb21 ?rb21
    case yb21 => (intro w' hw'; go_simp; try rfl)
    simp only [List.getElem_toArray, List.getElem_cons_zero, List.getElem_cons_succ, Act.put, List.setIfInBounds_toArray, List.set_cons_zero, List.set_cons_succ]
    refine wpE_call (i := 31) (f := 15) (vals := #[.agg (#[.int .u64 (a : Int), .int .u64 (b : Int), .int .u64 (c : Int), .int .u64 (d : Int)]), .agg (#[.int .u64 (a' : Int), .int .u64 (b' : Int), .int .u64 (c' : Int), .int .u64 (d' : Int)])]) (by kernel_rfl) rfl rfl (by go_simp) (sub_gen HEA.out HEB.out HX.out HY.out _) ?_
    rintro e w5 ⟨rfl, b5⟩
    refine ⟨_, rfl, b5, ?_⟩
    replace T4 := hide (T4.out.step b5)
    clear ra rb b5
    have ra := T4.out.grd (p := w2.heap.size) (T := 28) (A := #[.int .u64 (a : Int), .int .u64 (b : Int), .int .u64 (c : Int), .int .u64 (d : Int)]) (by simp)
    have rb := T4.out.grd (p := w2.heap.size + 1) (T := 28) (A := #[.int .u64 (a' : Int), .int .u64 (b' : Int), .int .u64 (c' : Int), .int .u64 (d' : Int)]) (by simp)
    simp only [List.getElem_toArray, List.getElem_cons_zero, List.getElem_cons_succ, Act.put, List.setIfInBounds_toArray, List.set_cons_zero, List.set_cons_succ]
    refine wpE_call (i := 34) (f := 15) (vals := #[.agg (#[.int .u64 (a' : Int), .int .u64 (b' : Int), .int .u64 (c' : Int), .int .u64 (d' : Int)]), .agg (#[.int .u64 (a : Int), .int .u64 (b : Int), .int .u64 (c : Int), .int .u64 (d : Int)])]) (by kernel_rfl) rfl rfl (by go_simp) (sub_gen HEB.out HEA.out HY.out HX.out _) ?_
    rintro e w5 ⟨rfl, b5⟩
    refine ⟨_, rfl, b5, ?_⟩
    replace T4 := hide (T4.out.step b5)
    clear ra rb b5
    have ra := T4.out.grd (p := w2.heap.size) (T := 28) (A := #[.int .u64 (a : Int), .int .u64 (b : Int), .int .u64 (c : Int), .int .u64 (d : Int)]) (by simp)
    have rb := T4.out.grd (p := w2.heap.size + 1) (T := 28) (A := #[.int .u64 (a' : Int), .int .u64 (b' : Int), .int .u64 (c' : Int), .int .u64 (d' : Int)]) (by simp)
    simp only [List.getElem_toArray, List.getElem_cons_zero, List.getElem_cons_succ, Act.put, List.setIfInBounds_toArray, List.set_cons_zero, List.set_cons_succ]
    refine wpE_call (i := 35) (f := 12) (vals := #[.agg (el ((y + (pp - x) % pp) % pp))]) (by kernel_rfl) rfl rfl (by go_simp) (neg_gen rfl (pp_mod _) _) ?_
    rintro e w5 ⟨rfl, b5⟩
    refine ⟨_, rfl, b5, ?_⟩
    replace T4 := hide (T4.out.step b5)
    clear ra rb b5
    have ra := T4.out.grd (p := w2.heap.size) (T := 28) (A := #[.int .u64 (a : Int), .int .u64 (b : Int), .int .u64 (c : Int), .int .u64 (d : Int)]) (by simp)
    have rb := T4.out.grd (p := w2.heap.size + 1) (T := 28) (A := #[.int .u64 (a' : Int), .int .u64 (b' : Int), .int .u64 (c' : Int), .int .u64 (d' : Int)]) (by simp)
    simp only [List.getElem_toArray, List.getElem_cons_zero, List.getElem_cons_succ, Act.put, List.setIfInBounds_toArray, List.set_cons_zero, List.set_cons_succ]
    refine wpE_call (i := 36) (f := 9) (vals := #[.agg (el ((x + (pp - y) % pp) % pp)), .agg (el ((pp - ((y + (pp - x) % pp) % pp)) % pp))]) (by kernel_rfl) rfl rfl (by go_simp) (same_gen rfl rfl (pp_mod _) (pp_mod _) F3.out _) ?_
    rintro e w5 ⟨rfl, b5⟩
    refine ⟨_, rfl, b5, ?_⟩
    replace T4 := hide (T4.out.step b5)
    clear ra rb b5
    have ra := T4.out.grd (p := w2.heap.size) (T := 28) (A := #[.int .u64 (a : Int), .int .u64 (b : Int), .int .u64 (c : Int), .int .u64 (d : Int)]) (by simp)
    have rb := T4.out.grd (p := w2.heap.size + 1) (T := 28) (A := #[.int .u64 (a' : Int), .int .u64 (b' : Int), .int .u64 (c' : Int), .int .u64 (d' : Int)]) (by simp)
    simp only [List.getElem_toArray, List.getElem_cons_zero, List.getElem_cons_succ, Act.put, List.setIfInBounds_toArray, List.set_cons_zero, List.set_cons_succ]
    refine wpE_take (i := 37) (v := ?vb22) rfl (by kernel_rfl) (by kernel_rfl) (by kernel_rfl) (fun _ _ _ h => h) rfl ?yb22 ?rb22
    case yb22 => (intro w' hw'; go_simp; try rfl)
    simp only [List.getElem_toArray, List.getElem_cons_zero, List.getElem_cons_succ, Act.put, List.setIfInBounds_toArray, List.set_cons_zero, List.set_cons_succ]
    refine wpE_take (i := 38) (v := ?vb23) rfl (by kernel_rfl) (by kernel_rfl) (by kernel_rfl) (fun _ _ _ h => h) rfl ?yb23 ?rb23
    case yb23 => (intro w' hw'; go_simp; try rfl)
    simp only [List.getElem_toArray, List.getElem_cons_zero, List.getElem_cons_succ, Act.put, List.setIfInBounds_toArray, List.set_cons_zero, List.set_cons_succ]
    refine wpE_call (i := 39) (f := 6) (vals := #[]) (by kernel_rfl) rfl rfl (by go_simp) (awake_any _) ?_
    rintro e w5 ⟨rfl, b5⟩
    refine ⟨_, rfl, b5, ?_⟩
    replace T4 := hide (T4.out.step b5)
    clear ra rb b5
    have ra := T4.out.grd (p := w2.heap.size) (T := 28) (A := #[.int .u64 (a : Int), .int .u64 (b : Int), .int .u64 (c : Int), .int .u64 (d : Int)]) (by simp)
    have rb := T4.out.grd (p := w2.heap.size + 1) (T := 28) (A := #[.int .u64 (a' : Int), .int .u64 (b' : Int), .int .u64 (c' : Int), .int .u64 (d' : Int)]) (by simp)
    simp only [List.getElem_toArray, List.getElem_cons_zero, List.getElem_cons_succ, Act.put, List.setIfInBounds_toArray, List.set_cons_zero, List.set_cons_succ]
    refine wpE_take (i := 40) (v := ?vb24) rfl (by kernel_rfl) (by kernel_rfl) (by kernel_rfl) (fun _ _ _ h => h) rfl ?yb24 ?rb24
    case yb24 => (intro w' hw'; go_simp; try rfl)
    simp only [List.getElem_toArray, List.getElem_cons_zero, List.getElem_cons_succ, Act.put, List.setIfInBounds_toArray, List.set_cons_zero, List.set_cons_succ]
    refine wpE_take (i := 41) (v := ?vb25) rfl (by kernel_rfl) (by kernel_rfl) (by kernel_rfl) (fun _ _ _ h => h) rfl ?yb25 ?rb25
    case yb25 => (intro w' hw'; go_simp; try rfl)
    simp only [List.getElem_toArray, List.getElem_cons_zero, List.getElem_cons_succ, Act.put, List.setIfInBounds_toArray, List.set_cons_zero, List.set_cons_succ]
    refine wpE_done (by kernel_rfl) ?_
    clear ra rb
    go_wp2
    go_ret
    exact ⟨rfl, T4.out.below⟩
end Go.Proofs.Ytbaionconnhdiaa
