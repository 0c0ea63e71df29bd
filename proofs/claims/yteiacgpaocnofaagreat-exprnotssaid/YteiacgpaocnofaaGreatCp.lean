/- Compare, Same: the program's calls. -/
import Derived.Test.YteiacgpaocnofaaGreatTy7
namespace Go.Proofs.YteiacgpaocnofaaGreat
open Go.RowKit
/-- The order of terms. -/
abbrev cp (a b : Tm) : Int := cmpT 3 a b
theorem cp_ord : Ord3 cp := ord_T 3
set_option maxRecDepth 100000 in
theorem Compare_any {a b : Tm} {a1 : Option Addr} {c1 : Nat} {a2 : Option Addr} {c2 : Nat} {w : World} (ha : TAt w a a1 c1) (hb : TAt w b a2 c2) :
    Calls Tryz.prog 122 #[tv a a1 c1, tv b a2 c2] w fun e w' => e = .returned (.int .i64 (cp a b)) ∧ Below w.heap.size w w' := by
  have b2 := Below.chain (alloc_below w (.cells #[.int .i64 a.k, .int .i64 a.n, .string a.s, .slice a1 a.l.length c1] 33)) (alloc_below _ (.cells #[.int .i64 b.k, .int .i64 b.n, .string b.s, .slice a2 b.l.length c2] 33))
  have HC := hide (compare_any 3 (by decide) a b a1 c1 a2 c2 _ (ha.ext b2) (hb.ext b2))
  have HB := hide b2
  unfold tv
  clear b2 ha hb
  show Calls Tryz.prog 122 _ w fun e w' => e = .returned (.int .i64 (cmpT 3 a b)) ∧ _
  generalize cmpT 3 a b = CC at *
  generalize a.k = ak at *
  generalize a.n = an at *
  generalize a.s = aS at *
  generalize a.l.length = al at *
  generalize b.k = bk at *
  generalize b.n = bn at *
  generalize b.s = bS at *
  generalize b.l.length = bl at *
  go_enter Tryz.func122, Tryz.ntmps122
  go_wp2_with fail
  refine HC.out.mono ?_
  rintro e w' ⟨rfl, hb⟩
  have HR := hide (Below.chain HB.out hb)
  clear hb HC HB
  go_wp2
  go_ret
  exact ⟨rfl, HR.out⟩
set_option maxRecDepth 100000 in
theorem Same_any {a b : Tm} {a1 : Option Addr} {c1 : Nat} {a2 : Option Addr} {c2 : Nat} {w : World} (ha : TAt w a a1 c1) (hb : TAt w b a2 c2) :
    Calls Tryz.prog 171 #[tv a a1 c1, tv b a2 c2] w fun e w' => e = .returned (.bool (cp a b == 0)) ∧ Below w.heap.size w w' := by
  have b2 := Below.chain (alloc_below w (.cells #[.int .i64 a.k, .int .i64 a.n, .string a.s, .slice a1 a.l.length c1] 33)) (alloc_below _ (.cells #[.int .i64 b.k, .int .i64 b.n, .string b.s, .slice a2 b.l.length c2] 33))
  have HC := hide (Compare_any (ha.ext b2) (hb.ext b2))
  have HB := hide b2
  unfold tv at *
  clear b2 ha hb
  show Calls Tryz.prog 171 _ w fun e w' => e = .returned (.bool (cmpT 3 a b == 0)) ∧ _
  unfold cp at HC
  generalize cmpT 3 a b = CC at *
  generalize a.k = ak at *
  generalize a.n = an at *
  generalize a.s = aS at *
  generalize a.l.length = al at *
  generalize b.k = bk at *
  generalize b.n = bn at *
  generalize b.s = bS at *
  generalize b.l.length = bl at *
  go_enter Tryz.func171, Tryz.ntmps171
  go_wp2_with fail
  refine HC.out.mono ?_
  rintro e w' ⟨rfl, hb⟩
  have HR := hide (Below.chain HB.out hb)
  clear hb HC HB
  go_wp2
  go_ret
  exact ⟨rfl, HR.out⟩
end Go.Proofs.YteiacgpaocnofaaGreat
