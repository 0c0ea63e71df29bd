/-
  DERIVED. GIVEN WITH THE SEED: THE CARDS: each row of YtmaolpinppnijaaDoorRows.lean that lists a variable, with what it lists TIED to the program's text (the seventh form; the later family's looks); each row that meets fmt, with fmt's text TOLD by the authors' own Lean function (tested against real Go, not proved from fmt's source: count such statements apart). THE CARD IS WHAT COUNTS. Prove the row's statement (the work); the ties are given (YtmaolpinppnijaaDoorTie.lean); close each card by the builder's one call (the guide's Derived/Test/ToyasCard.lean, 'card_holds'). Laid BY PROGRAM, IN A SANDBOX (cutbox-door.mjs). By AI agents, Wed Nov 11 2026. No macro, syntax, notation, axiom, sorry.
-/
import Derived.Test.YtmaolpinppnijaaDoorRows
import GoSem.ClaimSeven
namespace Go.Proofs.YtmaolpinppnijaaDoor
namespace Rows

/-- THE TIED CARD OF 'viaticumlaw3.ScalarForms'. -/
def scalarFormsCard : Claim7 := { stood := { row := scalarFormsRow, standIns := [], harness := (true, "83206195183dcab72917318208654ee04303f77a9b7998961d60438098b8fc8e"), looks := false }, kinds := [], alts := [], laidByText := true, laidKinds := [.data], laidTests := true, laidLooks := .later }
def ScalarFormsCardSaid : Prop := Claim7.holds Tryd.pinned (.plain (OpenSpec.ofChange scalarFormsSpec)) scalarFormsCard

/-- THE TIED CARD OF 'viaticumlaw3.ScalarLaws'. -/
def scalarLawsCard : Claim7 := { stood := { row := scalarLawsRow, standIns := [], harness := (true, "83206195183dcab72917318208654ee04303f77a9b7998961d60438098b8fc8e"), looks := false }, kinds := [], alts := [], laidByText := true, laidKinds := [.data], laidTests := true, laidLooks := .later }
def ScalarLawsCardSaid : Prop := Claim7.holds Tryd.pinned (.plain (OpenSpec.ofChange scalarLawsSpec)) scalarLawsCard

/-- THE TIED CARD OF 'viaticumlaw3.ScalarLow'. -/
def scalarLowCard : Claim7 := { stood := { row := scalarLowRow, standIns := [], harness := (true, "83206195183dcab72917318208654ee04303f77a9b7998961d60438098b8fc8e"), looks := false }, kinds := [], alts := [], laidByText := true, laidKinds := [.data], laidTests := true, laidLooks := .later }
def ScalarLowCardSaid : Prop := Claim7.holds Tryd.pinned (.plain (OpenSpec.ofChange scalarLowSpec)) scalarLowCard

/-- THE TIED CARD OF 'viaticumlaw3.ScalarClamps'. -/
def scalarClampsCard : Claim7 := { stood := { row := scalarClampsRow, standIns := [], harness := (true, "83206195183dcab72917318208654ee04303f77a9b7998961d60438098b8fc8e"), looks := false }, kinds := [], alts := [], laidByText := true, laidKinds := [.data], laidTests := true, laidLooks := .later }
def ScalarClampsCardSaid : Prop := Claim7.holds Tryd.pinned (.plain (OpenSpec.ofChange scalarClampsSpec)) scalarClampsCard

/-- THE TIED CARD OF 'viaticumlaw3.ScalarSmall'. -/
def scalarSmallCard : Claim7 := { stood := { row := scalarSmallRow, standIns := [], harness := (true, "83206195183dcab72917318208654ee04303f77a9b7998961d60438098b8fc8e"), looks := false }, kinds := [], alts := [], laidByText := true, laidKinds := [.data], laidTests := true, laidLooks := .later }
def ScalarSmallCardSaid : Prop := Claim7.holds Tryd.pinned (.plain (OpenSpec.ofChange scalarSmallSpec)) scalarSmallCard

/-- THE SECOND FORM's CARD OF 'viaticumlaw3.ScalarForms'. -/
def scalarFormsUptoCard : Claim7 := { stood := { row := scalarFormsUptoRow, standIns := [], harness := (true, "83206195183dcab72917318208654ee04303f77a9b7998961d60438098b8fc8e"), looks := false }, kinds := [], alts := [], laidByText := true, laidKinds := [.data], laidTests := true, laidLooks := .later }
def ScalarFormsUptoCardSaid : Prop := Claim7.holds Tryd.pinned (.plain (OpenSpec.upto scalarFormsSpec)) scalarFormsUptoCard

/-- THE SECOND FORM's CARD OF 'viaticumlaw3.ScalarLaws'. -/
def scalarLawsUptoCard : Claim7 := { stood := { row := scalarLawsUptoRow, standIns := [], harness := (true, "83206195183dcab72917318208654ee04303f77a9b7998961d60438098b8fc8e"), looks := false }, kinds := [], alts := [], laidByText := true, laidKinds := [.data], laidTests := true, laidLooks := .later }
def ScalarLawsUptoCardSaid : Prop := Claim7.holds Tryd.pinned (.plain (OpenSpec.upto scalarLawsSpec)) scalarLawsUptoCard

/-- THE SECOND FORM's CARD OF 'viaticumlaw3.ScalarLow'. -/
def scalarLowUptoCard : Claim7 := { stood := { row := scalarLowUptoRow, standIns := [], harness := (true, "83206195183dcab72917318208654ee04303f77a9b7998961d60438098b8fc8e"), looks := false }, kinds := [], alts := [], laidByText := true, laidKinds := [.data], laidTests := true, laidLooks := .later }
def ScalarLowUptoCardSaid : Prop := Claim7.holds Tryd.pinned (.plain (OpenSpec.upto scalarLowSpec)) scalarLowUptoCard

/-- THE SECOND FORM's CARD OF 'viaticumlaw3.ScalarClamps'. -/
def scalarClampsUptoCard : Claim7 := { stood := { row := scalarClampsUptoRow, standIns := [], harness := (true, "83206195183dcab72917318208654ee04303f77a9b7998961d60438098b8fc8e"), looks := false }, kinds := [], alts := [], laidByText := true, laidKinds := [.data], laidTests := true, laidLooks := .later }
def ScalarClampsUptoCardSaid : Prop := Claim7.holds Tryd.pinned (.plain (OpenSpec.upto scalarClampsSpec)) scalarClampsUptoCard

/-- THE SECOND FORM's CARD OF 'viaticumlaw3.ScalarSmall'. -/
def scalarSmallUptoCard : Claim7 := { stood := { row := scalarSmallUptoRow, standIns := [], harness := (true, "83206195183dcab72917318208654ee04303f77a9b7998961d60438098b8fc8e"), looks := false }, kinds := [], alts := [], laidByText := true, laidKinds := [.data], laidTests := true, laidLooks := .later }
def ScalarSmallUptoCardSaid : Prop := Claim7.holds Tryd.pinned (.plain (OpenSpec.upto scalarSmallSpec)) scalarSmallUptoCard
end Rows
end Go.Proofs.YtmaolpinppnijaaDoor
