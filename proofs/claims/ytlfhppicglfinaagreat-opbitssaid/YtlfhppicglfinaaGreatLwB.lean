/- OpBits: the law answers true. -/
import Derived.Test.YtlfhppicglfinaaGreatOl1
namespace Go.Proofs.YtlfhppicglfinaaGreat
open Go.RowKit
theorem ofInt_wrap (v : BitVec 64) : BitVec.ofInt 64 (IntKind.i64.wrap (v.toNat : Int)) = v := by
  apply BitVec.eq_of_toNat_eq
  rw [BitVec.toNat_ofInt, IntKind.wrap_i64]
  have := v.isLt
  omega
theorem bits_and_xor (a b : Int) : bits .and .i64 (bits .and .i64 a b) (bits .xor .i64 a b) = 0 := by
  show IntKind.i64.wrap (((BitVec.ofInt 64 (IntKind.i64.wrap ((BitVec.ofInt 64 a &&& BitVec.ofInt 64 b).toNat : Int))) &&& (BitVec.ofInt 64 (IntKind.i64.wrap ((BitVec.ofInt 64 a ^^^ BitVec.ofInt 64 b).toNat : Int)))).toNat : Int) = 0
  rw [ofInt_wrap, ofInt_wrap]
  have e : (BitVec.ofInt 64 a &&& BitVec.ofInt 64 b) &&& (BitVec.ofInt 64 a ^^^ BitVec.ofInt 64 b) = 0#64 := by
    generalize BitVec.ofInt 64 a = X
    generalize BitVec.ofInt 64 b = Y
    apply BitVec.eq_of_getLsbD_eq
    intro i _
    simp only [BitVec.getLsbD_and, BitVec.getLsbD_xor, BitVec.getLsbD_zero]
    cases X.getLsbD i <;> cases Y.getLsbD i <;> rfl
  rw [e]
  decide
theorem bits_or_xor (a b : Int) : bits .or .i64 (bits .and .i64 a b) (bits .xor .i64 a b) = bits .or .i64 a b := by
  show IntKind.i64.wrap (((BitVec.ofInt 64 (IntKind.i64.wrap ((BitVec.ofInt 64 a &&& BitVec.ofInt 64 b).toNat : Int))) ||| (BitVec.ofInt 64 (IntKind.i64.wrap ((BitVec.ofInt 64 a ^^^ BitVec.ofInt 64 b).toNat : Int)))).toNat : Int) = IntKind.i64.wrap ((BitVec.ofInt 64 a ||| BitVec.ofInt 64 b).toNat : Int)
  rw [ofInt_wrap, ofInt_wrap]
  have e : (BitVec.ofInt 64 a &&& BitVec.ofInt 64 b) ||| (BitVec.ofInt 64 a ^^^ BitVec.ofInt 64 b) = BitVec.ofInt 64 a ||| BitVec.ofInt 64 b := by
    generalize BitVec.ofInt 64 a = X
    generalize BitVec.ofInt 64 b = Y
    apply BitVec.eq_of_getLsbD_eq
    intro i _
    simp only [BitVec.getLsbD_and, BitVec.getLsbD_xor, BitVec.getLsbD_or]
    cases X.getLsbD i <;> cases Y.getLsbD i <;> rfl
  rw [e]
set_option maxRecDepth 100000 in
set_option maxHeartbeats 4000000 in
theorem OpBits_any {x y : Int} (hx : inB x) (hy : inB y) : Says 8 #[.int .i64 x, .int .i64 y] (.bool true) := by
  intro w
  have H1 := hide (n17 hx hy)
  have H2 := hide (n19 hx hy)
  have H3 := hide (n18 hx hy)
  have z1 := bits_and_xor x y
  have z2 := bits_or_xor x y
  clear hx hy
  generalize hA : bits .and .i64 x y = A at *
  generalize bits .xor .i64 x y = X at *
  generalize hO : bits .or .i64 x y = O at *
  go_enter Tryz.func8, Tryz.ntmps8
  have K1 := hide (((KR.nil w).add (w.heap.size) (nvC x) (by first | rfl | simp)).add (w.heap.size + 1) (nvC y) (by first | rfl | simp))
  go_wp2_with fail
  refine (H1.out _).mono ?_
  rintro e_ w2 ⟨rfl, b_⟩
  have K2 := hide (K1.out.ext b_)
  clear b_
  have K3 := hide (K2.out.add (w2.heap.size) (nvC A) (by first | rfl | simp))
  have x_0 : (w2.alloc (.cells (nvC A) 24)).cell? ⟨w.heap.size, 0, none⟩ = _ := K3.out.cell (p := w.heap.size) (cs := (nvC x)) (i := 0) (.tail _ (.tail _ (.head _))) rfl
  have x_1 : (w2.alloc (.cells (nvC A) 24)).cell? ⟨w.heap.size, 1, none⟩ = _ := K3.out.cell (p := w.heap.size) (cs := (nvC x)) (i := 1) (.tail _ (.tail _ (.head _))) rfl
  have x_2 : (w2.alloc (.cells (nvC A) 24)).cell? ⟨w.heap.size, 2, none⟩ = _ := K3.out.cell (p := w.heap.size) (cs := (nvC x)) (i := 2) (.tail _ (.tail _ (.head _))) rfl
  have x_3 : (w2.alloc (.cells (nvC A) 24)).cell? ⟨w.heap.size, 3, none⟩ = _ := K3.out.cell (p := w.heap.size) (cs := (nvC x)) (i := 3) (.tail _ (.tail _ (.head _))) rfl
  have y_0 : (w2.alloc (.cells (nvC A) 24)).cell? ⟨w.heap.size + 1, 0, none⟩ = _ := K3.out.cell (p := w.heap.size + 1) (cs := (nvC y)) (i := 0) (.tail _ (.head _)) rfl
  have y_1 : (w2.alloc (.cells (nvC A) 24)).cell? ⟨w.heap.size + 1, 1, none⟩ = _ := K3.out.cell (p := w.heap.size + 1) (cs := (nvC y)) (i := 1) (.tail _ (.head _)) rfl
  have y_2 : (w2.alloc (.cells (nvC A) 24)).cell? ⟨w.heap.size + 1, 2, none⟩ = _ := K3.out.cell (p := w.heap.size + 1) (cs := (nvC y)) (i := 2) (.tail _ (.head _)) rfl
  have y_3 : (w2.alloc (.cells (nvC A) 24)).cell? ⟨w.heap.size + 1, 3, none⟩ = _ := K3.out.cell (p := w.heap.size + 1) (cs := (nvC y)) (i := 3) (.tail _ (.head _)) rfl
  go_wp2_with fail
  refine (H2.out _).mono ?_
  rintro e_ w4 ⟨rfl, b_⟩
  have K4 := hide (K3.out.ext b_)
  clear b_ x_0 x_1 x_2 x_3 y_0 y_1 y_2 y_3
  have K5 := hide (K4.out.add (w4.heap.size) (nvC X) (by first | rfl | simp))
  have x_0 : (w4.alloc (.cells (nvC X) 24)).cell? ⟨w.heap.size, 0, none⟩ = _ := K5.out.cell (p := w.heap.size) (cs := (nvC x)) (i := 0) (.tail _ (.tail _ (.tail _ (.head _)))) rfl
  have x_1 : (w4.alloc (.cells (nvC X) 24)).cell? ⟨w.heap.size, 1, none⟩ = _ := K5.out.cell (p := w.heap.size) (cs := (nvC x)) (i := 1) (.tail _ (.tail _ (.tail _ (.head _)))) rfl
  have x_2 : (w4.alloc (.cells (nvC X) 24)).cell? ⟨w.heap.size, 2, none⟩ = _ := K5.out.cell (p := w.heap.size) (cs := (nvC x)) (i := 2) (.tail _ (.tail _ (.tail _ (.head _)))) rfl
  have x_3 : (w4.alloc (.cells (nvC X) 24)).cell? ⟨w.heap.size, 3, none⟩ = _ := K5.out.cell (p := w.heap.size) (cs := (nvC x)) (i := 3) (.tail _ (.tail _ (.tail _ (.head _)))) rfl
  have y_0 : (w4.alloc (.cells (nvC X) 24)).cell? ⟨w.heap.size + 1, 0, none⟩ = _ := K5.out.cell (p := w.heap.size + 1) (cs := (nvC y)) (i := 0) (.tail _ (.tail _ (.head _))) rfl
  have y_1 : (w4.alloc (.cells (nvC X) 24)).cell? ⟨w.heap.size + 1, 1, none⟩ = _ := K5.out.cell (p := w.heap.size + 1) (cs := (nvC y)) (i := 1) (.tail _ (.tail _ (.head _))) rfl
  have y_2 : (w4.alloc (.cells (nvC X) 24)).cell? ⟨w.heap.size + 1, 2, none⟩ = _ := K5.out.cell (p := w.heap.size + 1) (cs := (nvC y)) (i := 2) (.tail _ (.tail _ (.head _))) rfl
  have y_3 : (w4.alloc (.cells (nvC X) 24)).cell? ⟨w.heap.size + 1, 3, none⟩ = _ := K5.out.cell (p := w.heap.size + 1) (cs := (nvC y)) (i := 3) (.tail _ (.tail _ (.head _))) rfl
  go_wp2_with fail
  refine (H3.out _).mono ?_
  rintro e_ w6 ⟨rfl, b_⟩
  have K6 := hide (K5.out.ext b_)
  clear b_ x_0 x_1 x_2 x_3 y_0 y_1 y_2 y_3
  have K7 := hide (K6.out.add (w6.heap.size) (nvC O) (by first | rfl | simp))
  have p_1 : (w6.alloc (.cells (nvC O) 24)).cell? ⟨w2.heap.size, 1, none⟩ = _ := K7.out.cell (p := w2.heap.size) (cs := (nvC A)) (i := 1) (.tail _ (.tail _ (.head _))) rfl
  have q_1 : (w6.alloc (.cells (nvC O) 24)).cell? ⟨w4.heap.size, 1, none⟩ = _ := K7.out.cell (p := w4.heap.size) (cs := (nvC X)) (i := 1) (.tail _ (.head _)) rfl
  have r_1 : (w6.alloc (.cells (nvC O) 24)).cell? ⟨w6.heap.size, 1, none⟩ = _ := K7.out.cell (p := w6.heap.size) (cs := (nvC O)) (i := 1) (.head _) rfl
  have HW := hide awake_any
  go_wp2_with fail
  refine (HW.out _).mono ?_
  rintro e_ w8 ⟨rfl, b_⟩
  have K8 := hide (K7.out.ext b_)
  clear b_ p_1 q_1 r_1
  go_wp2
  go_ret
  exact ⟨rfl, K8.out.bel⟩
end Go.Proofs.YtlfhppicglfinaaGreat
