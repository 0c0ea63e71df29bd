/-
  DERIVED. GIVEN WITH THE SEED: THE CARDS: each row of YtbaionconnhdiaaDoorRows.lean that lists a variable, with what it lists TIED to the program's text (the seventh form; the later family's looks); each row that meets fmt, with fmt's text TOLD by the authors' own Lean function (tested against real Go, not proved from fmt's source: count such statements apart). THE CARD IS WHAT COUNTS. Prove the row's statement (the work); the ties are given (YtbaionconnhdiaaDoorTie.lean); close each card by the builder's one call (the guide's Derived/Test/ToyasCard.lean, 'card_holds'). Laid BY PROGRAM, IN A SANDBOX (cutbox-door.mjs). By AI agents, Wed Nov 11 2026. No macro, syntax, notation, axiom, sorry.
-/
import Derived.Test.YtbaionconnhdiaaDoorRows
import GoSem.ClaimSeven
namespace Go.Proofs.YtbaionconnhdiaaDoor
namespace Rows

/-- THE TIED CARD OF 'viaticumlaw2.FieldForms'. -/
def fieldFormsCard : Claim7 := { stood := { row := fieldFormsRow, standIns := [], harness := (true, "f2b676094b48fe8120754be47dfd79844fc9a5eb570008c7b53cf4bcd9a6eccb"), looks := false }, kinds := [], alts := [], laidByText := true, laidKinds := [.data], laidTests := true, laidLooks := .later }
def FieldFormsCardSaid : Prop := Claim7.holds Tryd.pinned (.plain (OpenSpec.ofChange fieldFormsSpec)) fieldFormsCard

/-- THE TIED CARD OF 'viaticumlaw2.FieldLaws'. -/
def fieldLawsCard : Claim7 := { stood := { row := fieldLawsRow, standIns := [], harness := (true, "f2b676094b48fe8120754be47dfd79844fc9a5eb570008c7b53cf4bcd9a6eccb"), looks := false }, kinds := [], alts := [], laidByText := true, laidKinds := [.data], laidTests := true, laidLooks := .later }
def FieldLawsCardSaid : Prop := Claim7.holds Tryd.pinned (.plain (OpenSpec.ofChange fieldLawsSpec)) fieldLawsCard

/-- THE TIED CARD OF 'viaticumlaw2.FieldInverses'. -/
def fieldInversesCard : Claim7 := { stood := { row := fieldInversesRow, standIns := [], harness := (true, "f2b676094b48fe8120754be47dfd79844fc9a5eb570008c7b53cf4bcd9a6eccb"), looks := false }, kinds := [], alts := [], laidByText := true, laidKinds := [.data], laidTests := true, laidLooks := .later }
def FieldInversesCardSaid : Prop := Claim7.holds Tryd.pinned (.plain (OpenSpec.ofChange fieldInversesSpec)) fieldInversesCard

/-- THE SECOND FORM's CARD OF 'viaticumlaw2.FieldForms'. -/
def fieldFormsUptoCard : Claim7 := { stood := { row := fieldFormsUptoRow, standIns := [], harness := (true, "f2b676094b48fe8120754be47dfd79844fc9a5eb570008c7b53cf4bcd9a6eccb"), looks := false }, kinds := [], alts := [], laidByText := true, laidKinds := [.data], laidTests := true, laidLooks := .later }
def FieldFormsUptoCardSaid : Prop := Claim7.holds Tryd.pinned (.plain (OpenSpec.upto fieldFormsSpec)) fieldFormsUptoCard

/-- THE SECOND FORM's CARD OF 'viaticumlaw2.FieldLaws'. -/
def fieldLawsUptoCard : Claim7 := { stood := { row := fieldLawsUptoRow, standIns := [], harness := (true, "f2b676094b48fe8120754be47dfd79844fc9a5eb570008c7b53cf4bcd9a6eccb"), looks := false }, kinds := [], alts := [], laidByText := true, laidKinds := [.data], laidTests := true, laidLooks := .later }
def FieldLawsUptoCardSaid : Prop := Claim7.holds Tryd.pinned (.plain (OpenSpec.upto fieldLawsSpec)) fieldLawsUptoCard

/-- THE SECOND FORM's CARD OF 'viaticumlaw2.FieldInverses'. -/
def fieldInversesUptoCard : Claim7 := { stood := { row := fieldInversesUptoRow, standIns := [], harness := (true, "f2b676094b48fe8120754be47dfd79844fc9a5eb570008c7b53cf4bcd9a6eccb"), looks := false }, kinds := [], alts := [], laidByText := true, laidKinds := [.data], laidTests := true, laidLooks := .later }
def FieldInversesUptoCardSaid : Prop := Claim7.holds Tryd.pinned (.plain (OpenSpec.upto fieldInversesSpec)) fieldInversesUptoCard
end Rows
end Go.Proofs.YtbaionconnhdiaaDoor
