/-
  NARROWER THAN 'FOR EVERY INPUT', by the rows' own cells (each row's printed sentence says how): PointReads: laid · PointForms: laid · PointGroup: laid · PointSmall: laid · PointScalars: laid · PointBytes: laid.
  DERIVED. THE GIVEN ROWS OF THIS SEAT. 6 by the template 'for every input the law returns true; each argument reads behind the call as it read before'; 0 by the template 'total and deterministic' (their statements: YteplbagjagimdaaDoorTotals.lean).
  GIVEN WITH THE SEED: the statements are not yours to turn. If you find one false, say at which input.
  Laid BY PROGRAM, IN A SANDBOX (cutbox-rows.mjs): the forced cells as the released guide's own fill.sh prints them over the translation 0471f6a0bb1d54a3… (all of the seat's roots in one cut). By AI agents, Wed Nov 11 2026. No macro, syntax, notation, axiom, sorry.
-/
import Derived.Test.YteplbagjagimdaaDoorChecked
import GoSem.Claim
import GoSem.ClaimJoined
import GoSem.ClaimMapViews
import Derived.JoinedTies
import Derived.KernelRfl
namespace Go.Proofs.YteplbagjagimdaaDoor
/- THE CELL 'sum', in the pinned program and in every row, IS THE sha256 OF THE DUMP (.gsa) THAT YteplbagjagimdaaDoorProg.lean LOADS. Nothing in Lean hashes anything: it is a label: what it is worth is what the hold of that sum in a sandbox is worth. -/
noncomputable def Tryd.pinned : Pinned := { name := "yteplbagjagimdaadoor", sum := "0471f6a0bb1d54a3ad9a4e6a3160db00574d8de2c73fe1e0299c67df4330daa9", checked := Tryd.checked }
namespace Rows
def none {H : Type} : Left H := { results := [], args := [] }

/- WHAT THE LISTED PACKAGE-LEVEL VARIABLES READ AS WHEN THE CALL BEGINS. Each datum BY PROGRAM (the guide's laid-datum.mjs) off the statement by which the dump's own 'gosem.cut.vars' lays the variable. In a bare row this is a premise. The card (YteplbagjagimdaaDoorCards.lean) ties it to the program's text. -/
def laid_viaticum_field_primeEighth {H : Type} : DataW H := .agg [.lit (.int .u64 18446744073709551613), .lit (.int .u64 18446744073709551615), .lit (.int .u64 18446744073709551615), .lit (.int .u64 1152921504606846975)]
def laid_viaticum_field_rootOfMinus1 {H : Type} : DataW H := .agg [.lit (.int .u64 14190309331451158704), .lit (.int .u64 3405592160176694392), .lit (.int .u64 3120150775007532967), .lit (.int .u64 3135389899092516619)]
def laid_viaticum_field_primeLess2 {H : Type} : DataW H := .agg [.lit (.int .u64 18446744073709551595), .lit (.int .u64 18446744073709551615), .lit (.int .u64 18446744073709551615), .lit (.int .u64 9223372036854775807)]
def laid_viaticum_scalar_order {H : Type} : DataW H := .agg [.lit (.int .u64 6346243789798364141), .lit (.int .u64 1503914060200516822), .lit (.int .u64 0), .lit (.int .u64 1152921504606846976)]

/-- 'viaticumlaw4.PointReads': WHATEVER THE INPUT: true; the input reads as it did. -/
def pointReadsSpec : ChangeSpec := { name := "pointReads", fn := fun _ => fun
  | [d1, d2] => { results := [.lit (.bool true)], args := [d1, d2] }
  | _ => none }
def pointReadsRow : OpenClaim := { program := "yteplbagjagimdaadoor", sum := "0471f6a0bb1d54a3ad9a4e6a3160db00574d8de2c73fe1e0299c67df4330daa9", func := "viaticum/viaticumlaw4.PointReads", spec := "pointReads", inPlace := ["math/bits.Add64", "math/bits.Sub64"], unfollowed := true, recurses := true, named := ["viaticum/field.rootOfMinus1", "viaticum/field.primeEighth"], apart := false, laid := [("viaticum/field.primeEighth", laid_viaticum_field_primeEighth), ("viaticum/field.rootOfMinus1", laid_viaticum_field_rootOfMinus1)] }
def PointReadsSaid : Prop := pointReadsRow.holds Tryd.pinned (OpenSpec.ofChange pointReadsSpec)

/-- ITS FALSE NEIGHBOUR: 'it returns false'. Refute it at one input. -/
def pointReadsWrong : ChangeSpec := { name := "pointReads", fn := fun _ => fun
  | [d1, d2] => { results := [.lit (.bool false)], args := [d1, d2] }
  | _ => none }
def PointReadsWrongFalsely : Prop := pointReadsRow.holds Tryd.pinned (OpenSpec.ofChange pointReadsWrong)

/-- 'viaticumlaw4.PointForms': WHATEVER THE INPUT: true; the input reads as it did. -/
def pointFormsSpec : ChangeSpec := { name := "pointForms", fn := fun _ => fun
  | [d1, d2, d3] => { results := [.lit (.bool true)], args := [d1, d2, d3] }
  | _ => none }
def pointFormsRow : OpenClaim := { program := "yteplbagjagimdaadoor", sum := "0471f6a0bb1d54a3ad9a4e6a3160db00574d8de2c73fe1e0299c67df4330daa9", func := "viaticum/viaticumlaw4.PointForms", spec := "pointForms", inPlace := ["math/bits.Add64", "math/bits.Sub64"], unfollowed := true, recurses := true, named := ["viaticum/field.primeLess2"], apart := false, laid := [("viaticum/field.primeLess2", laid_viaticum_field_primeLess2)] }
def PointFormsSaid : Prop := pointFormsRow.holds Tryd.pinned (OpenSpec.ofChange pointFormsSpec)

/-- ITS FALSE NEIGHBOUR: 'it returns false'. Refute it at one input. -/
def pointFormsWrong : ChangeSpec := { name := "pointForms", fn := fun _ => fun
  | [d1, d2, d3] => { results := [.lit (.bool false)], args := [d1, d2, d3] }
  | _ => none }
def PointFormsWrongFalsely : Prop := pointFormsRow.holds Tryd.pinned (OpenSpec.ofChange pointFormsWrong)

/-- 'viaticumlaw4.PointGroup': WHATEVER THE INPUT: true; the input reads as it did. -/
def pointGroupSpec : ChangeSpec := { name := "pointGroup", fn := fun _ => fun
  | [d1, d2, d3, d4] => { results := [.lit (.bool true)], args := [d1, d2, d3, d4] }
  | _ => none }
def pointGroupRow : OpenClaim := { program := "yteplbagjagimdaadoor", sum := "0471f6a0bb1d54a3ad9a4e6a3160db00574d8de2c73fe1e0299c67df4330daa9", func := "viaticum/viaticumlaw4.PointGroup", spec := "pointGroup", inPlace := ["math/bits.Add64", "math/bits.Sub64"], unfollowed := true, recurses := true, named := ["viaticum/field.primeLess2"], apart := false, laid := [("viaticum/field.primeLess2", laid_viaticum_field_primeLess2)] }
def PointGroupSaid : Prop := pointGroupRow.holds Tryd.pinned (OpenSpec.ofChange pointGroupSpec)

/-- ITS FALSE NEIGHBOUR: 'it returns false'. Refute it at one input. -/
def pointGroupWrong : ChangeSpec := { name := "pointGroup", fn := fun _ => fun
  | [d1, d2, d3, d4] => { results := [.lit (.bool false)], args := [d1, d2, d3, d4] }
  | _ => none }
def PointGroupWrongFalsely : Prop := pointGroupRow.holds Tryd.pinned (OpenSpec.ofChange pointGroupWrong)

/-- 'viaticumlaw4.PointSmall': WHATEVER THE INPUT: true; the input reads as it did. -/
def pointSmallSpec : ChangeSpec := { name := "pointSmall", fn := fun _ => fun
  | [d] => { results := [.lit (.bool true)], args := [d] }
  | _ => none }
def pointSmallRow : OpenClaim := { program := "yteplbagjagimdaadoor", sum := "0471f6a0bb1d54a3ad9a4e6a3160db00574d8de2c73fe1e0299c67df4330daa9", func := "viaticum/viaticumlaw4.PointSmall", spec := "pointSmall", inPlace := ["math/bits.Add64", "math/bits.Sub64"], unfollowed := true, recurses := true, named := ["viaticum/field.rootOfMinus1", "viaticum/field.primeEighth", "viaticum/field.primeLess2"], apart := false, laid := [("viaticum/field.primeLess2", laid_viaticum_field_primeLess2), ("viaticum/field.primeEighth", laid_viaticum_field_primeEighth), ("viaticum/field.rootOfMinus1", laid_viaticum_field_rootOfMinus1)] }
def PointSmallSaid : Prop := pointSmallRow.holds Tryd.pinned (OpenSpec.ofChange pointSmallSpec)

/-- ITS FALSE NEIGHBOUR: 'it returns false'. Refute it at one input. -/
def pointSmallWrong : ChangeSpec := { name := "pointSmall", fn := fun _ => fun
  | [d] => { results := [.lit (.bool false)], args := [d] }
  | _ => none }
def PointSmallWrongFalsely : Prop := pointSmallRow.holds Tryd.pinned (OpenSpec.ofChange pointSmallWrong)

/-- 'viaticumlaw4.PointScalars': WHATEVER THE INPUT: true; the input reads as it did. -/
def pointScalarsSpec : ChangeSpec := { name := "pointScalars", fn := fun _ => fun
  | [d1, d2] => { results := [.lit (.bool true)], args := [d1, d2] }
  | _ => none }
def pointScalarsRow : OpenClaim := { program := "yteplbagjagimdaadoor", sum := "0471f6a0bb1d54a3ad9a4e6a3160db00574d8de2c73fe1e0299c67df4330daa9", func := "viaticum/viaticumlaw4.PointScalars", spec := "pointScalars", inPlace := ["math/bits.Add64", "math/bits.Sub64"], unfollowed := true, recurses := true, named := ["viaticum/field.primeLess2", "viaticum/scalar.order"], apart := false, laid := [("viaticum/field.primeLess2", laid_viaticum_field_primeLess2), ("viaticum/scalar.order", laid_viaticum_scalar_order)] }
def PointScalarsSaid : Prop := pointScalarsRow.holds Tryd.pinned (OpenSpec.ofChange pointScalarsSpec)

/-- ITS FALSE NEIGHBOUR: 'it returns false'. Refute it at one input. -/
def pointScalarsWrong : ChangeSpec := { name := "pointScalars", fn := fun _ => fun
  | [d1, d2] => { results := [.lit (.bool false)], args := [d1, d2] }
  | _ => none }
def PointScalarsWrongFalsely : Prop := pointScalarsRow.holds Tryd.pinned (OpenSpec.ofChange pointScalarsWrong)

/-- 'viaticumlaw4.PointBytes': WHATEVER THE INPUT: true; the input reads as it did. -/
def pointBytesSpec : ChangeSpec := { name := "pointBytes", fn := fun _ => fun
  | [d] => { results := [.lit (.bool true)], args := [d] }
  | _ => none }
def pointBytesRow : OpenClaim := { program := "yteplbagjagimdaadoor", sum := "0471f6a0bb1d54a3ad9a4e6a3160db00574d8de2c73fe1e0299c67df4330daa9", func := "viaticum/viaticumlaw4.PointBytes", spec := "pointBytes", inPlace := ["math/bits.Add64", "math/bits.Sub64"], unfollowed := true, recurses := true, named := ["viaticum/field.primeLess2", "viaticum/field.rootOfMinus1", "viaticum/field.primeEighth"], apart := false, laid := [("viaticum/field.primeLess2", laid_viaticum_field_primeLess2), ("viaticum/field.primeEighth", laid_viaticum_field_primeEighth), ("viaticum/field.rootOfMinus1", laid_viaticum_field_rootOfMinus1)] }
def PointBytesSaid : Prop := pointBytesRow.holds Tryd.pinned (OpenSpec.ofChange pointBytesSpec)

/-- ITS FALSE NEIGHBOUR: 'it returns false'. Refute it at one input. -/
def pointBytesWrong : ChangeSpec := { name := "pointBytes", fn := fun _ => fun
  | [d] => { results := [.lit (.bool false)], args := [d] }
  | _ => none }
def PointBytesWrongFalsely : Prop := pointBytesRow.holds Tryd.pinned (OpenSpec.ofChange pointBytesWrong)

/- THE SECOND FORM. 'bulk': how many values and letters a reading holds, each counted each time it is reached (what is shared counts as often as it is met; a slice's spare places count too). A statement '..UptoSaid' is the law's where the arguments, and the package variables that the reading takes, are together of bulk at most 1048576: NARROWER than '..Said'. Prove '..Said' where nothing that the law and all that it calls make is longer than what came in: it says more and counts as full. Else prove '..UptoSaid'. A law counts once. -/
mutual
def uptoBulk {H : Type} : DataW H → Nat
  | .lit (.string bytes) => bytes.length + 1
  | .lit _ => 1
  | .nil => 1
  | .ptr d => uptoBulk d + 1
  | .slice elems spare => uptoBulkAll elems + uptoBulkAll spare + 1
  | .agg parts => uptoBulkAll parts + 1
  | .iface _ d => uptoBulk d + 1
  | .map entries => uptoBulkEntries entries + 1
  | .held _ => 1
def uptoBulkAll {H : Type} : List (DataW H) → Nat
  | [] => 0
  | d :: r => uptoBulk d + uptoBulkAll r
def uptoBulkEntries {H : Type} : List (Lit × DataW H) → Nat
  | [] => 0
  | x :: r => uptoBulkEntry x + uptoBulkEntries r
def uptoBulkEntry {H : Type} : Lit × DataW H → Nat
  | (.string bytes, d) => bytes.length + uptoBulk d + 1
  | (_, d) => uptoBulk d + 1
 end
def uptoSmall : (H : Type) → List (DataW H) → Bool := fun _ ds => decide (uptoBulkAll ds ≤ 1048576)
def OpenSpec.upto (s : _root_.Go.ChangeSpec) : _root_.Go.OpenSpec := { _root_.Go.OpenSpec.ofChange s with cond := some uptoSmall }

/-- 'viaticumlaw4.PointReads', WHERE WHAT IT READS IS OF BULK AT MOST 1048576: true; the input reads as it did. -/
def pointReadsUptoRow : OpenClaim := { program := "yteplbagjagimdaadoor", sum := "0471f6a0bb1d54a3ad9a4e6a3160db00574d8de2c73fe1e0299c67df4330daa9", func := "viaticum/viaticumlaw4.PointReads", spec := "pointReads", inPlace := ["math/bits.Add64", "math/bits.Sub64"], unfollowed := true, recurses := true, named := ["viaticum/field.rootOfMinus1", "viaticum/field.primeEighth"], apart := false, laid := [("viaticum/field.primeEighth", laid_viaticum_field_primeEighth), ("viaticum/field.rootOfMinus1", laid_viaticum_field_rootOfMinus1)], narrowed := true }
def PointReadsUptoSaid : Prop := pointReadsUptoRow.holds Tryd.pinned (OpenSpec.upto pointReadsSpec)

/-- 'viaticumlaw4.PointForms', WHERE WHAT IT READS IS OF BULK AT MOST 1048576: true; the input reads as it did. -/
def pointFormsUptoRow : OpenClaim := { program := "yteplbagjagimdaadoor", sum := "0471f6a0bb1d54a3ad9a4e6a3160db00574d8de2c73fe1e0299c67df4330daa9", func := "viaticum/viaticumlaw4.PointForms", spec := "pointForms", inPlace := ["math/bits.Add64", "math/bits.Sub64"], unfollowed := true, recurses := true, named := ["viaticum/field.primeLess2"], apart := false, laid := [("viaticum/field.primeLess2", laid_viaticum_field_primeLess2)], narrowed := true }
def PointFormsUptoSaid : Prop := pointFormsUptoRow.holds Tryd.pinned (OpenSpec.upto pointFormsSpec)

/-- 'viaticumlaw4.PointGroup', WHERE WHAT IT READS IS OF BULK AT MOST 1048576: true; the input reads as it did. -/
def pointGroupUptoRow : OpenClaim := { program := "yteplbagjagimdaadoor", sum := "0471f6a0bb1d54a3ad9a4e6a3160db00574d8de2c73fe1e0299c67df4330daa9", func := "viaticum/viaticumlaw4.PointGroup", spec := "pointGroup", inPlace := ["math/bits.Add64", "math/bits.Sub64"], unfollowed := true, recurses := true, named := ["viaticum/field.primeLess2"], apart := false, laid := [("viaticum/field.primeLess2", laid_viaticum_field_primeLess2)], narrowed := true }
def PointGroupUptoSaid : Prop := pointGroupUptoRow.holds Tryd.pinned (OpenSpec.upto pointGroupSpec)

/-- 'viaticumlaw4.PointSmall', WHERE WHAT IT READS IS OF BULK AT MOST 1048576: true; the input reads as it did. -/
def pointSmallUptoRow : OpenClaim := { program := "yteplbagjagimdaadoor", sum := "0471f6a0bb1d54a3ad9a4e6a3160db00574d8de2c73fe1e0299c67df4330daa9", func := "viaticum/viaticumlaw4.PointSmall", spec := "pointSmall", inPlace := ["math/bits.Add64", "math/bits.Sub64"], unfollowed := true, recurses := true, named := ["viaticum/field.rootOfMinus1", "viaticum/field.primeEighth", "viaticum/field.primeLess2"], apart := false, laid := [("viaticum/field.primeLess2", laid_viaticum_field_primeLess2), ("viaticum/field.primeEighth", laid_viaticum_field_primeEighth), ("viaticum/field.rootOfMinus1", laid_viaticum_field_rootOfMinus1)], narrowed := true }
def PointSmallUptoSaid : Prop := pointSmallUptoRow.holds Tryd.pinned (OpenSpec.upto pointSmallSpec)

/-- 'viaticumlaw4.PointScalars', WHERE WHAT IT READS IS OF BULK AT MOST 1048576: true; the input reads as it did. -/
def pointScalarsUptoRow : OpenClaim := { program := "yteplbagjagimdaadoor", sum := "0471f6a0bb1d54a3ad9a4e6a3160db00574d8de2c73fe1e0299c67df4330daa9", func := "viaticum/viaticumlaw4.PointScalars", spec := "pointScalars", inPlace := ["math/bits.Add64", "math/bits.Sub64"], unfollowed := true, recurses := true, named := ["viaticum/field.primeLess2", "viaticum/scalar.order"], apart := false, laid := [("viaticum/field.primeLess2", laid_viaticum_field_primeLess2), ("viaticum/scalar.order", laid_viaticum_scalar_order)], narrowed := true }
def PointScalarsUptoSaid : Prop := pointScalarsUptoRow.holds Tryd.pinned (OpenSpec.upto pointScalarsSpec)

/-- 'viaticumlaw4.PointBytes', WHERE WHAT IT READS IS OF BULK AT MOST 1048576: true; the input reads as it did. -/
def pointBytesUptoRow : OpenClaim := { program := "yteplbagjagimdaadoor", sum := "0471f6a0bb1d54a3ad9a4e6a3160db00574d8de2c73fe1e0299c67df4330daa9", func := "viaticum/viaticumlaw4.PointBytes", spec := "pointBytes", inPlace := ["math/bits.Add64", "math/bits.Sub64"], unfollowed := true, recurses := true, named := ["viaticum/field.primeLess2", "viaticum/field.rootOfMinus1", "viaticum/field.primeEighth"], apart := false, laid := [("viaticum/field.primeLess2", laid_viaticum_field_primeLess2), ("viaticum/field.primeEighth", laid_viaticum_field_primeEighth), ("viaticum/field.rootOfMinus1", laid_viaticum_field_rootOfMinus1)], narrowed := true }
def PointBytesUptoSaid : Prop := pointBytesUptoRow.holds Tryd.pinned (OpenSpec.upto pointBytesSpec)

end Rows
end Go.Proofs.YteplbagjagimdaaDoor
