/- What two terms are held against each other by: kinds, numbers, texts. -/
import Derived.Test.YteiacgpaocnofaaGreatCmp
namespace Go.Proofs.YteiacgpaocnofaaGreat
open Go.RowKit
/-- A term, and how many lists in one another are looked at. -/
abbrev vw (k n : Int) (s : ByteArray) (ao : Option Addr) (l c : Nat) (d : Int) : Value := .agg #[.int .i64 k, .int .i64 n, .string s, .slice ao l c, .int .i64 d]
set_option maxRecDepth 100000 in
theorem byKind_any (k1 n1 : Int) (s1 : ByteArray) (a1 : Option Addr) (l1 c1 : Nat) (d1 : Int) (k2 n2 : Int) (s2 : ByteArray) (a2 : Option Addr) (l2 c2 : Nat) (d2 : Int) (w : World) :
    Calls Tryz.prog 190 #[vw k1 n1 s1 a1 l1 c1 d1, vw k2 n2 s2 a2 l2 c2 d2] w fun e w' => e = .returned (.int .i64 (cmpI k1 k2)) ∧ Below w.heap.size w w' := by
  have H1 := hide (Below.chain (alloc_below w (.cells #[.int .i64 k1, .int .i64 n1, .string s1, .slice a1 l1 c1, .int .i64 d1] 151)) (alloc_below _ (.cells #[.int .i64 k2, .int .i64 n2, .string s2, .slice a2 l2 c2, .int .i64 d2] 151)))
  go_enter Tryz.func190, Tryz.ntmps190
  go_wp2_with fail
  refine (cmpi_any _ _ _).mono ?_
  rintro e w' ⟨rfl, hw⟩
  replace hw := hw.symm
  subst hw
  go_wp2
  go_ret
  exact ⟨rfl, H1.out⟩
set_option maxRecDepth 100000 in
theorem byNumber_any (k1 n1 : Int) (s1 : ByteArray) (a1 : Option Addr) (l1 c1 : Nat) (d1 : Int) (k2 n2 : Int) (s2 : ByteArray) (a2 : Option Addr) (l2 c2 : Nat) (d2 : Int) (w : World) :
    Calls Tryz.prog 191 #[vw k1 n1 s1 a1 l1 c1 d1, vw k2 n2 s2 a2 l2 c2 d2] w fun e w' => e = .returned (.int .i64 (cmpI n1 n2)) ∧ Below w.heap.size w w' := by
  have H1 := hide (Below.chain (alloc_below w (.cells #[.int .i64 k1, .int .i64 n1, .string s1, .slice a1 l1 c1, .int .i64 d1] 151)) (alloc_below _ (.cells #[.int .i64 k2, .int .i64 n2, .string s2, .slice a2 l2 c2, .int .i64 d2] 151)))
  go_enter Tryz.func191, Tryz.ntmps191
  go_wp2_with fail
  refine (cmpn_any _ _ _).mono ?_
  rintro e w' ⟨rfl, hw⟩
  replace hw := hw.symm
  subst hw
  go_wp2
  go_ret
  exact ⟨rfl, H1.out⟩
set_option maxRecDepth 100000 in
theorem byText_any (k1 n1 : Int) (s1 : ByteArray) (a1 : Option Addr) (l1 c1 : Nat) (d1 : Int) (k2 n2 : Int) (s2 : ByteArray) (a2 : Option Addr) (l2 c2 : Nat) (d2 : Int) (w : World) :
    Calls Tryz.prog 192 #[vw k1 n1 s1 a1 l1 c1 d1, vw k2 n2 s2 a2 l2 c2 d2] w fun e w' => e = .returned (.int .i64 (cmpS s1 s2)) ∧ Below w.heap.size w w' := by
  have H1 := hide (Below.chain (alloc_below w (.cells #[.int .i64 k1, .int .i64 n1, .string s1, .slice a1 l1 c1, .int .i64 d1] 151)) (alloc_below _ (.cells #[.int .i64 k2, .int .i64 n2, .string s2, .slice a2 l2 c2, .int .i64 d2] 151)))
  go_enter Tryz.func192, Tryz.ntmps192
  go_wp2_with fail
  refine (cmps_any _ _ _).mono ?_
  rintro e w' ⟨rfl, hw⟩
  replace hw := hw.symm
  subst hw
  go_wp2
  go_ret
  exact ⟨rfl, H1.out⟩
/-- By what two terms are held against each other. -/
abbrev fns : Array Value := #[.func (.func 190) #[] #[], .func (.func 191) #[] #[], .func (.func 192) #[] #[], .func (.func 193) #[] #[]]
set_option maxRecDepth 100000 in
theorem order_any (w : World) : Calls Tryz.prog 182 #[] w fun e w' => e = .returned (.agg fns) ∧ Below w.heap.size w w' := by
  go_enter Tryz.func182, Tryz.ntmps182
  go_wp2_with (refine wpList_store_row rfl 165 (.tmp 0) (.tmp 1) rfl w.heap.size fns rfl rfl 165 #[.nilFunc, .nilFunc, .nilFunc, .nilFunc] (heap_alloc_last _ _) (by kernel_rfl) rfl (by kernel_rfl) ?_)
  exact bodyPost_ret_by (results_cell_row rfl _ _ w.heap.size 165 fns (0, 0) (.array 4 164) rfl (setRow_heap _ _ _ _ _ _ (heap_alloc_last _ _)) (by kernel_rfl) rfl (by kernel_rfl)) rfl ⟨rfl, Below.setRow (alloc_below w _) _ _ (Nat.le_refl _)⟩
end Go.Proofs.YteiacgpaocnofaaGreat
