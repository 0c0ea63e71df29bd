/-
  NARROWER THAN 'FOR EVERY INPUT', by the rows' own cells (each row's printed sentence says how): SymbolPlays: laid · SymbolNil: laid · SymbolStays: laid · SymbolRow: laid.
  DERIVED. THE GIVEN ROWS OF THIS SEAT. 4 by the template 'for every input the law returns true; each argument reads behind the call as it read before'; 0 by the template 'total and deterministic' (their statements: YtcmalffpahkleaaDoorTotals.lean).
  GIVEN WITH THE SEED: the statements are not yours to turn. If you find one false, say at which input.
  Laid BY PROGRAM, IN A SANDBOX (cutbox-rows.mjs): the forced cells as the released guide's own fill.sh prints them over the translation 18f4d2961971d330… (all of the seat's roots in one cut). By AI agents, Wed Nov 11 2026. No macro, syntax, notation, axiom, sorry.
-/
import Derived.Test.YtcmalffpahkleaaDoorChecked
import GoSem.Claim
import GoSem.ClaimJoined
import GoSem.ClaimMapViews
import Derived.JoinedTies
import Derived.KernelRfl
namespace Go.Proofs.YtcmalffpahkleaaDoor
/- THE CELL 'sum', in the pinned program and in every row, IS THE sha256 OF THE DUMP (.gsa) THAT YtcmalffpahkleaaDoorProg.lean LOADS. Nothing in Lean hashes anything: it is a label: what it is worth is what the hold of that sum in a sandbox is worth. -/
noncomputable def Tryd.pinned : Pinned := { name := "ytcmalffpahkleaadoor", sum := "18f4d2961971d330741eff557697bc3b6540a90caffdae7313474d6450b8af9e", checked := Tryd.checked }
namespace Rows
def none {H : Type} : Left H := { results := [], args := [] }

/- WHAT THE LISTED PACKAGE-LEVEL VARIABLES READ AS WHEN THE CALL BEGINS. Each datum BY PROGRAM (the guide's laid-datum.mjs) off the statement by which the dump's own 'gosem.cut.vars' lays the variable. In a bare row this is a premise. The card (YtcmalffpahkleaaDoorCards.lean) ties it to the program's text. -/
def laid_viaticum_symbol_known {H : Type} : DataW H := .agg [.lit (.string [114, 101, 97, 100]), .lit (.string [119, 114, 105, 116, 101]), .lit (.string [114, 101, 115, 111, 117, 114, 99, 101]), .lit (.string [111, 112, 101, 114, 97, 116, 105, 111, 110]), .lit (.string [114, 105, 103, 104, 116]), .lit (.string [116, 105, 109, 101]), .lit (.string [114, 111, 108, 101]), .lit (.string [111, 119, 110, 101, 114]), .lit (.string [116, 101, 110, 97, 110, 116]), .lit (.string [117, 115, 101, 114]), .lit (.string [116, 101, 97, 109]), .lit (.string [115, 101, 114, 118, 105, 99, 101]), .lit (.string [97, 100, 109, 105, 110]), .lit (.string [101, 109, 97, 105, 108]), .lit (.string [103, 114, 111, 117, 112]), .lit (.string [109, 101, 109, 98, 101, 114])]

/-- 'viaticumlaw13.SymbolPlays': WHATEVER THE INPUT: true; the input reads as it did. -/
def symbolPlaysSpec : ChangeSpec := { name := "symbolPlays", fn := fun _ => fun
  | [d] => { results := [.lit (.bool true)], args := [d] }
  | _ => none }
def symbolPlaysRow : OpenClaim := { program := "ytcmalffpahkleaadoor", sum := "18f4d2961971d330741eff557697bc3b6540a90caffdae7313474d6450b8af9e", func := "viaticum/viaticumlaw13.SymbolPlays", spec := "symbolPlays", inPlace := ["maps.clone"], named := ["viaticum/symbol.known"], apart := false, laid := [("viaticum/symbol.known", laid_viaticum_symbol_known)] }
def SymbolPlaysSaid : Prop := symbolPlaysRow.holds Tryd.pinned (OpenSpec.ofChange symbolPlaysSpec)

/-- ITS FALSE NEIGHBOUR: 'it returns false'. Refute it at one input. -/
def symbolPlaysWrong : ChangeSpec := { name := "symbolPlays", fn := fun _ => fun
  | [d] => { results := [.lit (.bool false)], args := [d] }
  | _ => none }
def SymbolPlaysWrongFalsely : Prop := symbolPlaysRow.holds Tryd.pinned (OpenSpec.ofChange symbolPlaysWrong)

/-- 'viaticumlaw13.SymbolNil': WHATEVER THE INPUT: true; the input reads as it did. -/
def symbolNilSpec : ChangeSpec := { name := "symbolNil", fn := fun _ => fun
  | [d] => { results := [.lit (.bool true)], args := [d] }
  | _ => none }
def symbolNilRow : OpenClaim := { program := "ytcmalffpahkleaadoor", sum := "18f4d2961971d330741eff557697bc3b6540a90caffdae7313474d6450b8af9e", func := "viaticum/viaticumlaw13.SymbolNil", spec := "symbolNil", inPlace := ["maps.clone"], named := ["viaticum/symbol.known"], apart := false, laid := [("viaticum/symbol.known", laid_viaticum_symbol_known)] }
def SymbolNilSaid : Prop := symbolNilRow.holds Tryd.pinned (OpenSpec.ofChange symbolNilSpec)

/-- ITS FALSE NEIGHBOUR: 'it returns false'. Refute it at one input. -/
def symbolNilWrong : ChangeSpec := { name := "symbolNil", fn := fun _ => fun
  | [d] => { results := [.lit (.bool false)], args := [d] }
  | _ => none }
def SymbolNilWrongFalsely : Prop := symbolNilRow.holds Tryd.pinned (OpenSpec.ofChange symbolNilWrong)

/-- 'viaticumlaw13.SymbolStays': WHATEVER THE INPUT: true; the input reads as it did. -/
def symbolStaysSpec : ChangeSpec := { name := "symbolStays", fn := fun _ => fun
  | [d1, d2] => { results := [.lit (.bool true)], args := [d1, d2] }
  | _ => none }
def symbolStaysRow : OpenClaim := { program := "ytcmalffpahkleaadoor", sum := "18f4d2961971d330741eff557697bc3b6540a90caffdae7313474d6450b8af9e", func := "viaticum/viaticumlaw13.SymbolStays", spec := "symbolStays", inPlace := ["maps.clone"], named := ["viaticum/symbol.known"], apart := false, laid := [("viaticum/symbol.known", laid_viaticum_symbol_known)] }
def SymbolStaysSaid : Prop := symbolStaysRow.holds Tryd.pinned (OpenSpec.ofChange symbolStaysSpec)

/-- ITS FALSE NEIGHBOUR: 'it returns false'. Refute it at one input. -/
def symbolStaysWrong : ChangeSpec := { name := "symbolStays", fn := fun _ => fun
  | [d1, d2] => { results := [.lit (.bool false)], args := [d1, d2] }
  | _ => none }
def SymbolStaysWrongFalsely : Prop := symbolStaysRow.holds Tryd.pinned (OpenSpec.ofChange symbolStaysWrong)

/-- 'viaticumlaw13.SymbolRow': WHATEVER THE INPUT: true; the input reads as it did. -/
def symbolRowSpec : ChangeSpec := { name := "symbolRow", fn := fun _ => fun
  | [d] => { results := [.lit (.bool true)], args := [d] }
  | _ => none }
def symbolRowRow : OpenClaim := { program := "ytcmalffpahkleaadoor", sum := "18f4d2961971d330741eff557697bc3b6540a90caffdae7313474d6450b8af9e", func := "viaticum/viaticumlaw13.SymbolRow", spec := "symbolRow", named := ["viaticum/symbol.known"], apart := false, laid := [("viaticum/symbol.known", laid_viaticum_symbol_known)] }
def SymbolRowSaid : Prop := symbolRowRow.holds Tryd.pinned (OpenSpec.ofChange symbolRowSpec)

/-- ITS FALSE NEIGHBOUR: 'it returns false'. Refute it at one input. -/
def symbolRowWrong : ChangeSpec := { name := "symbolRow", fn := fun _ => fun
  | [d] => { results := [.lit (.bool false)], args := [d] }
  | _ => none }
def SymbolRowWrongFalsely : Prop := symbolRowRow.holds Tryd.pinned (OpenSpec.ofChange symbolRowWrong)

/- THE SECOND FORM. 'bulk': how many values and letters a reading holds, each counted each time it is reached (what is shared counts as often as it is met; a slice's spare places count too). A statement '..UptoSaid' is the law's where the arguments, and the package variables that the reading takes, are together of bulk at most 1048576: NARROWER than '..Said'. Prove '..Said' where nothing that the law and all that it calls make is longer than what came in: it says more and counts as full. Else prove '..UptoSaid'. A law counts once. -/
mutual
def uptoBulk {H : Type} : DataW H → Nat
  | .lit (.string bytes) => bytes.length + 1
  | .lit _ => 1
  | .nil => 1
  | .ptr d => uptoBulk d + 1
  | .slice elems spare => uptoBulkAll elems + uptoBulkAll spare + 1
  | .agg parts => uptoBulkAll parts + 1
  | .iface _ d => uptoBulk d + 1
  | .map entries => uptoBulkEntries entries + 1
  | .held _ => 1
def uptoBulkAll {H : Type} : List (DataW H) → Nat
  | [] => 0
  | d :: r => uptoBulk d + uptoBulkAll r
def uptoBulkEntries {H : Type} : List (Lit × DataW H) → Nat
  | [] => 0
  | x :: r => uptoBulkEntry x + uptoBulkEntries r
def uptoBulkEntry {H : Type} : Lit × DataW H → Nat
  | (.string bytes, d) => bytes.length + uptoBulk d + 1
  | (_, d) => uptoBulk d + 1
 end
def uptoSmall : (H : Type) → List (DataW H) → Bool := fun _ ds => decide (uptoBulkAll ds ≤ 1048576)
def OpenSpec.upto (s : _root_.Go.ChangeSpec) : _root_.Go.OpenSpec := { _root_.Go.OpenSpec.ofChange s with cond := some uptoSmall }

/-- 'viaticumlaw13.SymbolPlays', WHERE WHAT IT READS IS OF BULK AT MOST 1048576: true; the input reads as it did. -/
def symbolPlaysUptoRow : OpenClaim := { program := "ytcmalffpahkleaadoor", sum := "18f4d2961971d330741eff557697bc3b6540a90caffdae7313474d6450b8af9e", func := "viaticum/viaticumlaw13.SymbolPlays", spec := "symbolPlays", inPlace := ["maps.clone"], named := ["viaticum/symbol.known"], apart := false, laid := [("viaticum/symbol.known", laid_viaticum_symbol_known)], narrowed := true }
def SymbolPlaysUptoSaid : Prop := symbolPlaysUptoRow.holds Tryd.pinned (OpenSpec.upto symbolPlaysSpec)

/-- 'viaticumlaw13.SymbolNil', WHERE WHAT IT READS IS OF BULK AT MOST 1048576: true; the input reads as it did. -/
def symbolNilUptoRow : OpenClaim := { program := "ytcmalffpahkleaadoor", sum := "18f4d2961971d330741eff557697bc3b6540a90caffdae7313474d6450b8af9e", func := "viaticum/viaticumlaw13.SymbolNil", spec := "symbolNil", inPlace := ["maps.clone"], named := ["viaticum/symbol.known"], apart := false, laid := [("viaticum/symbol.known", laid_viaticum_symbol_known)], narrowed := true }
def SymbolNilUptoSaid : Prop := symbolNilUptoRow.holds Tryd.pinned (OpenSpec.upto symbolNilSpec)

/-- 'viaticumlaw13.SymbolStays', WHERE WHAT IT READS IS OF BULK AT MOST 1048576: true; the input reads as it did. -/
def symbolStaysUptoRow : OpenClaim := { program := "ytcmalffpahkleaadoor", sum := "18f4d2961971d330741eff557697bc3b6540a90caffdae7313474d6450b8af9e", func := "viaticum/viaticumlaw13.SymbolStays", spec := "symbolStays", inPlace := ["maps.clone"], named := ["viaticum/symbol.known"], apart := false, laid := [("viaticum/symbol.known", laid_viaticum_symbol_known)], narrowed := true }
def SymbolStaysUptoSaid : Prop := symbolStaysUptoRow.holds Tryd.pinned (OpenSpec.upto symbolStaysSpec)

/-- 'viaticumlaw13.SymbolRow', WHERE WHAT IT READS IS OF BULK AT MOST 1048576: true; the input reads as it did. -/
def symbolRowUptoRow : OpenClaim := { program := "ytcmalffpahkleaadoor", sum := "18f4d2961971d330741eff557697bc3b6540a90caffdae7313474d6450b8af9e", func := "viaticum/viaticumlaw13.SymbolRow", spec := "symbolRow", named := ["viaticum/symbol.known"], apart := false, laid := [("viaticum/symbol.known", laid_viaticum_symbol_known)], narrowed := true }
def SymbolRowUptoSaid : Prop := symbolRowUptoRow.holds Tryd.pinned (OpenSpec.upto symbolRowSpec)

end Rows
end Go.Proofs.YtcmalffpahkleaaDoor
