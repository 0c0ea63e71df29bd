/- OpTexts: the law answers true. -/
import Derived.Test.YtlfhppicglfinaaGreatOl2
namespace Go.Proofs.YtlfhppicglfinaaGreat
open Go.RowKit
set_option maxRecDepth 100000 in
set_option maxHeartbeats 4000000 in
theorem texts_a {s t : ByteArray} (hs : 256 < s.size) {w : World} : Calls Tryz.prog 7 #[.string s, .string t] w fun e w' => e = .returned (.bool true) ∧ Below w.heap.size w w' := by
  have d1 : decide ((256 : Int) < (s.size : Int)) = true := decide_eq_true (by omega)
  have HW := hide awake_any
  clear hs
  go_enter Tryz.func7, Tryz.ntmps7
  go_wp2_with fail
  refine (HW.out _).mono ?_
  rintro e_ w1 ⟨rfl, b1⟩
  have B1 := hide b1
  clear b1
  go_wp2
  go_ret
  exact ⟨rfl, B1.out⟩
set_option maxRecDepth 100000 in
set_option maxHeartbeats 4000000 in
theorem texts_b {s t : ByteArray} (ht : ¬ 256 < s.size) (hs : 256 < t.size) {w : World} : Calls Tryz.prog 7 #[.string s, .string t] w fun e w' => e = .returned (.bool true) ∧ Below w.heap.size w w' := by
  have d1 : decide ((256 : Int) < (s.size : Int)) = false := decide_eq_false (by omega)
  have d2 : decide ((256 : Int) < (t.size : Int)) = true := decide_eq_true (by omega)
  clear ht
  have HW := hide awake_any
  clear hs
  go_enter Tryz.func7, Tryz.ntmps7
  go_wp2_with fail
  refine (HW.out _).mono ?_
  rintro e_ w1 ⟨rfl, b1⟩
  have B1 := hide b1
  clear b1
  go_wp2
  go_ret
  exact ⟨rfl, B1.out⟩
set_option maxRecDepth 100000 in
set_option maxHeartbeats 4000000 in
theorem texts_long {s t : ByteArray} (hs : s.size ≤ 256) (ht : t.size ≤ 256) (h : 256 < s.size + t.size) {w : World} : Calls Tryz.prog 7 #[.string s, .string t] w fun e w' => e = .returned (.bool true) ∧ Below w.heap.size w w' := by
  have d1 : decide ((256 : Int) < (s.size : Int)) = false := decide_eq_false (by omega)
  have d2 : decide ((256 : Int) < (t.size : Int)) = false := decide_eq_false (by omega)
  have hs9 : (s.size : Int) ≤ 256 := by omega
  have ht9 : (t.size : Int) ≤ 256 := by omega
  have HW := hide awake_any
  have d3 : decide ((256 : Int) < (s.size : Int) + (t.size : Int)) = true := decide_eq_true (by omega)
  have H1 := hide (t7_out hs ht h)
  clear hs ht h
  go_enter Tryz.func7, Tryz.ntmps7
  have K1 := hide (((KR.nil w).add (w.heap.size) (tvS s) (by first | rfl | simp)).add (w.heap.size + 1) (tvS t) (by first | rfl | simp))
  go_wp2_with fail
  refine (H1.out _).mono ?_
  rintro e_ w2 ⟨rfl, b_⟩
  have K2 := hide (K1.out.ext b_)
  clear b_
  have K3 := hide (K2.out.add (w2.heap.size) zvC (by first | rfl | simp))
  go_wp2_with fail
  refine (HW.out _).mono ?_
  rintro e_ w4 ⟨rfl, b_⟩
  have K4 := hide (K3.out.ext b_)
  clear b_
  go_wp2
  go_ret
  exact ⟨rfl, K4.out.bel⟩
set_option maxRecDepth 100000 in
set_option maxHeartbeats 4000000 in
theorem texts_in {s t : ByteArray} (hs : s.size ≤ 256) (ht : t.size ≤ 256) (h : ¬ 256 < s.size + t.size) {w : World} (hM : MaxL w) : Calls Tryz.prog 7 #[.string s, .string t] w fun e w' => e = .returned (.bool true) ∧ Below w.heap.size w w' := by
  have d1 : decide ((256 : Int) < (s.size : Int)) = false := decide_eq_false (by omega)
  have d2 : decide ((256 : Int) < (t.size : Int)) = false := decide_eq_false (by omega)
  have hs9 : (s.size : Int) ≤ 256 := by omega
  have ht9 : (t.size : Int) ≤ 256 := by omega
  have HW := hide awake_any
  have d3 : decide ((256 : Int) < (s.size : Int) + (t.size : Int)) = false := decide_eq_false (by omega)
  have hc : (s ++ t).size ≤ 256 := by rw [ByteArray.size_append]; omega
  have hsz : ((s ++ t).size : Int) = (s.size : Int) + (t.size : Int) := by rw [ByteArray.size_append]; omega
  have H1 := hide (t7_in hs ht h)
  have H2 := hide (t12 hc hs (prefix_app s t))
  have H3 := hide (t13 hc ht (suffix_app s t))
  have H4 := hide (fun (W : World) (hW : MaxL W) => t11 hc ht (contains_app s t) hW)
  have H5 := hide (u3 hc)
  rw [hsz] at H5
  have HM := hide hM
  clear hs ht h hc hsz hM
  obtain ⟨c, hcc⟩ : ∃ c, s ++ t = c := ⟨_, rfl⟩
  rw [hcc] at H1 H2 H3 H4 H5
  go_enter Tryz.func7, Tryz.ntmps7
  have K1 := hide (((KR.nil w).add (w.heap.size) (tvS s) (by first | rfl | simp)).add (w.heap.size + 1) (tvS t) (by first | rfl | simp))
  go_wp2_with fail
  refine (H1.out _).mono ?_
  rintro e_ w2 ⟨rfl, b_⟩
  have K2 := hide (K1.out.ext b_)
  clear b_
  have K3 := hide (K2.out.add (w2.heap.size) (tvS c) (by first | rfl | simp))
  have c_0 : (w2.alloc (.cells (tvS c) 24)).cell? ⟨w2.heap.size, 0, none⟩ = _ := K3.out.cell (p := w2.heap.size) (cs := (tvS c)) (i := 0) (.head _) rfl
  have c_1 : (w2.alloc (.cells (tvS c) 24)).cell? ⟨w2.heap.size, 1, none⟩ = _ := K3.out.cell (p := w2.heap.size) (cs := (tvS c)) (i := 1) (.head _) rfl
  have c_2 : (w2.alloc (.cells (tvS c) 24)).cell? ⟨w2.heap.size, 2, none⟩ = _ := K3.out.cell (p := w2.heap.size) (cs := (tvS c)) (i := 2) (.head _) rfl
  have c_3 : (w2.alloc (.cells (tvS c) 24)).cell? ⟨w2.heap.size, 3, none⟩ = _ := K3.out.cell (p := w2.heap.size) (cs := (tvS c)) (i := 3) (.head _) rfl
  have a_0 : (w2.alloc (.cells (tvS c) 24)).cell? ⟨w.heap.size, 0, none⟩ = _ := K3.out.cell (p := w.heap.size) (cs := (tvS s)) (i := 0) (.tail _ (.tail _ (.head _))) rfl
  have a_1 : (w2.alloc (.cells (tvS c) 24)).cell? ⟨w.heap.size, 1, none⟩ = _ := K3.out.cell (p := w.heap.size) (cs := (tvS s)) (i := 1) (.tail _ (.tail _ (.head _))) rfl
  have a_2 : (w2.alloc (.cells (tvS c) 24)).cell? ⟨w.heap.size, 2, none⟩ = _ := K3.out.cell (p := w.heap.size) (cs := (tvS s)) (i := 2) (.tail _ (.tail _ (.head _))) rfl
  have a_3 : (w2.alloc (.cells (tvS c) 24)).cell? ⟨w.heap.size, 3, none⟩ = _ := K3.out.cell (p := w.heap.size) (cs := (tvS s)) (i := 3) (.tail _ (.tail _ (.head _))) rfl
  go_wp2_with fail
  refine (H2.out _).mono ?_
  rintro e_ w4 ⟨rfl, b_⟩
  have K4 := hide (K3.out.ext b_)
  clear b_ c_0 c_1 c_2 c_3 a_0 a_1 a_2 a_3
  have K5 := hide (K4.out.add (w4.heap.size) #[.int .i64 6, .int .i64 1, .string ⟨#[]⟩, .slice none 0 0] (by first | rfl | simp))
  have c_0 : (w4.alloc (.cells #[.int .i64 6, .int .i64 1, .string ⟨#[]⟩, .slice none 0 0] 24)).cell? ⟨w2.heap.size, 0, none⟩ = _ := K5.out.cell (p := w2.heap.size) (cs := (tvS c)) (i := 0) (.tail _ (.head _)) rfl
  have c_1 : (w4.alloc (.cells #[.int .i64 6, .int .i64 1, .string ⟨#[]⟩, .slice none 0 0] 24)).cell? ⟨w2.heap.size, 1, none⟩ = _ := K5.out.cell (p := w2.heap.size) (cs := (tvS c)) (i := 1) (.tail _ (.head _)) rfl
  have c_2 : (w4.alloc (.cells #[.int .i64 6, .int .i64 1, .string ⟨#[]⟩, .slice none 0 0] 24)).cell? ⟨w2.heap.size, 2, none⟩ = _ := K5.out.cell (p := w2.heap.size) (cs := (tvS c)) (i := 2) (.tail _ (.head _)) rfl
  have c_3 : (w4.alloc (.cells #[.int .i64 6, .int .i64 1, .string ⟨#[]⟩, .slice none 0 0] 24)).cell? ⟨w2.heap.size, 3, none⟩ = _ := K5.out.cell (p := w2.heap.size) (cs := (tvS c)) (i := 3) (.tail _ (.head _)) rfl
  have b_0 : (w4.alloc (.cells #[.int .i64 6, .int .i64 1, .string ⟨#[]⟩, .slice none 0 0] 24)).cell? ⟨w.heap.size + 1, 0, none⟩ = _ := K5.out.cell (p := w.heap.size + 1) (cs := (tvS t)) (i := 0) (.tail _ (.tail _ (.head _))) rfl
  have b_1 : (w4.alloc (.cells #[.int .i64 6, .int .i64 1, .string ⟨#[]⟩, .slice none 0 0] 24)).cell? ⟨w.heap.size + 1, 1, none⟩ = _ := K5.out.cell (p := w.heap.size + 1) (cs := (tvS t)) (i := 1) (.tail _ (.tail _ (.head _))) rfl
  have b_2 : (w4.alloc (.cells #[.int .i64 6, .int .i64 1, .string ⟨#[]⟩, .slice none 0 0] 24)).cell? ⟨w.heap.size + 1, 2, none⟩ = _ := K5.out.cell (p := w.heap.size + 1) (cs := (tvS t)) (i := 2) (.tail _ (.tail _ (.head _))) rfl
  have b_3 : (w4.alloc (.cells #[.int .i64 6, .int .i64 1, .string ⟨#[]⟩, .slice none 0 0] 24)).cell? ⟨w.heap.size + 1, 3, none⟩ = _ := K5.out.cell (p := w.heap.size + 1) (cs := (tvS t)) (i := 3) (.tail _ (.tail _ (.head _))) rfl
  go_wp2_with fail
  refine (H3.out _).mono ?_
  rintro e_ w6 ⟨rfl, b_⟩
  have K6 := hide (K5.out.ext b_)
  clear b_ c_0 c_1 c_2 c_3 b_0 b_1 b_2 b_3
  have K7 := hide (K6.out.add (w6.heap.size) #[.int .i64 6, .int .i64 1, .string ⟨#[]⟩, .slice none 0 0] (by first | rfl | simp))
  have c_0 : (w6.alloc (.cells #[.int .i64 6, .int .i64 1, .string ⟨#[]⟩, .slice none 0 0] 24)).cell? ⟨w2.heap.size, 0, none⟩ = _ := K7.out.cell (p := w2.heap.size) (cs := (tvS c)) (i := 0) (.tail _ (.tail _ (.head _))) rfl
  have c_1 : (w6.alloc (.cells #[.int .i64 6, .int .i64 1, .string ⟨#[]⟩, .slice none 0 0] 24)).cell? ⟨w2.heap.size, 1, none⟩ = _ := K7.out.cell (p := w2.heap.size) (cs := (tvS c)) (i := 1) (.tail _ (.tail _ (.head _))) rfl
  have c_2 : (w6.alloc (.cells #[.int .i64 6, .int .i64 1, .string ⟨#[]⟩, .slice none 0 0] 24)).cell? ⟨w2.heap.size, 2, none⟩ = _ := K7.out.cell (p := w2.heap.size) (cs := (tvS c)) (i := 2) (.tail _ (.tail _ (.head _))) rfl
  have c_3 : (w6.alloc (.cells #[.int .i64 6, .int .i64 1, .string ⟨#[]⟩, .slice none 0 0] 24)).cell? ⟨w2.heap.size, 3, none⟩ = _ := K7.out.cell (p := w2.heap.size) (cs := (tvS c)) (i := 3) (.tail _ (.tail _ (.head _))) rfl
  have b_0 : (w6.alloc (.cells #[.int .i64 6, .int .i64 1, .string ⟨#[]⟩, .slice none 0 0] 24)).cell? ⟨w.heap.size + 1, 0, none⟩ = _ := K7.out.cell (p := w.heap.size + 1) (cs := (tvS t)) (i := 0) (.tail _ (.tail _ (.tail _ (.head _)))) rfl
  have b_1 : (w6.alloc (.cells #[.int .i64 6, .int .i64 1, .string ⟨#[]⟩, .slice none 0 0] 24)).cell? ⟨w.heap.size + 1, 1, none⟩ = _ := K7.out.cell (p := w.heap.size + 1) (cs := (tvS t)) (i := 1) (.tail _ (.tail _ (.tail _ (.head _)))) rfl
  have b_2 : (w6.alloc (.cells #[.int .i64 6, .int .i64 1, .string ⟨#[]⟩, .slice none 0 0] 24)).cell? ⟨w.heap.size + 1, 2, none⟩ = _ := K7.out.cell (p := w.heap.size + 1) (cs := (tvS t)) (i := 2) (.tail _ (.tail _ (.tail _ (.head _)))) rfl
  have b_3 : (w6.alloc (.cells #[.int .i64 6, .int .i64 1, .string ⟨#[]⟩, .slice none 0 0] 24)).cell? ⟨w.heap.size + 1, 3, none⟩ = _ := K7.out.cell (p := w.heap.size + 1) (cs := (tvS t)) (i := 3) (.tail _ (.tail _ (.tail _ (.head _)))) rfl
  go_wp2_with fail
  refine (H4.out _ (HM.out.ext K7.out.bel)).mono ?_
  rintro e_ w8 ⟨rfl, b_⟩
  have K8 := hide (K7.out.ext b_)
  clear b_ c_0 c_1 c_2 c_3 b_0 b_1 b_2 b_3
  have K9 := hide (K8.out.add (w8.heap.size) #[.int .i64 6, .int .i64 1, .string ⟨#[]⟩, .slice none 0 0] (by first | rfl | simp))
  have c_0 : (w8.alloc (.cells #[.int .i64 6, .int .i64 1, .string ⟨#[]⟩, .slice none 0 0] 24)).cell? ⟨w2.heap.size, 0, none⟩ = _ := K9.out.cell (p := w2.heap.size) (cs := (tvS c)) (i := 0) (.tail _ (.tail _ (.tail _ (.head _)))) rfl
  have c_1 : (w8.alloc (.cells #[.int .i64 6, .int .i64 1, .string ⟨#[]⟩, .slice none 0 0] 24)).cell? ⟨w2.heap.size, 1, none⟩ = _ := K9.out.cell (p := w2.heap.size) (cs := (tvS c)) (i := 1) (.tail _ (.tail _ (.tail _ (.head _)))) rfl
  have c_2 : (w8.alloc (.cells #[.int .i64 6, .int .i64 1, .string ⟨#[]⟩, .slice none 0 0] 24)).cell? ⟨w2.heap.size, 2, none⟩ = _ := K9.out.cell (p := w2.heap.size) (cs := (tvS c)) (i := 2) (.tail _ (.tail _ (.tail _ (.head _)))) rfl
  have c_3 : (w8.alloc (.cells #[.int .i64 6, .int .i64 1, .string ⟨#[]⟩, .slice none 0 0] 24)).cell? ⟨w2.heap.size, 3, none⟩ = _ := K9.out.cell (p := w2.heap.size) (cs := (tvS c)) (i := 3) (.tail _ (.tail _ (.tail _ (.head _)))) rfl
  go_wp2_with fail
  refine (H5.out _).mono ?_
  rintro e_ w10 ⟨rfl, b_⟩
  have K10 := hide (K9.out.ext b_)
  clear b_ c_0 c_1 c_2 c_3
  have K11 := hide (K10.out.add (w10.heap.size) (nvC ((s.size : Int) + (t.size : Int))) (by first | rfl | simp))
  have x_1 : (w10.alloc (.cells (nvC ((s.size : Int) + (t.size : Int))) 24)).cell? ⟨w4.heap.size, 1, none⟩ = _ := K11.out.cell (p := w4.heap.size) (cs := #[.int .i64 6, .int .i64 1, .string ⟨#[]⟩, .slice none 0 0]) (i := 1) (.tail _ (.tail _ (.tail _ (.head _)))) rfl
  have y_1 : (w10.alloc (.cells (nvC ((s.size : Int) + (t.size : Int))) 24)).cell? ⟨w6.heap.size, 1, none⟩ = _ := K11.out.cell (p := w6.heap.size) (cs := #[.int .i64 6, .int .i64 1, .string ⟨#[]⟩, .slice none 0 0]) (i := 1) (.tail _ (.tail _ (.head _))) rfl
  have z_1 : (w10.alloc (.cells (nvC ((s.size : Int) + (t.size : Int))) 24)).cell? ⟨w8.heap.size, 1, none⟩ = _ := K11.out.cell (p := w8.heap.size) (cs := #[.int .i64 6, .int .i64 1, .string ⟨#[]⟩, .slice none 0 0]) (i := 1) (.tail _ (.head _)) rfl
  have n_1 : (w10.alloc (.cells (nvC ((s.size : Int) + (t.size : Int))) 24)).cell? ⟨w10.heap.size, 1, none⟩ = _ := K11.out.cell (p := w10.heap.size) (cs := (nvC ((s.size : Int) + (t.size : Int)))) (i := 1) (.head _) rfl
  have c_2 : (w10.alloc (.cells (nvC ((s.size : Int) + (t.size : Int))) 24)).cell? ⟨w2.heap.size, 2, none⟩ = _ := K11.out.cell (p := w2.heap.size) (cs := (tvS c)) (i := 2) (.tail _ (.tail _ (.tail _ (.tail _ (.head _))))) rfl
  go_wp2_with fail
  refine (HW.out _).mono ?_
  rintro e_ w12 ⟨rfl, b_⟩
  have K12 := hide (K11.out.ext b_)
  clear b_ x_1 y_1 z_1 n_1 c_2
  go_wp2
  go_ret
  exact ⟨rfl, K12.out.bel⟩
theorem OpTexts_any {s t : ByteArray} {w : World} (hM : MaxL w) : Calls Tryz.prog 7 #[.string s, .string t] w fun e w' => e = .returned (.bool true) ∧ Below w.heap.size w w' := by
  by_cases h1 : 256 < s.size
  · exact texts_a h1
  by_cases h2 : 256 < t.size
  · exact texts_b h1 h2
  by_cases h3 : 256 < s.size + t.size
  · exact texts_long (by omega) (by omega) h3
  · exact texts_in (by omega) (by omega) h3 hM
end Go.Proofs.YtlfhppicglfinaaGreat
