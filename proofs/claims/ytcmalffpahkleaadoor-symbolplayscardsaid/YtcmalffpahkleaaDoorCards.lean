/-
  DERIVED. GIVEN WITH THE SEED: THE CARDS: each row of YtcmalffpahkleaaDoorRows.lean that lists a variable, with what it lists TIED to the program's text (the seventh form; the later family's looks); each row that meets fmt, with fmt's text TOLD by the authors' own Lean function (tested against real Go, not proved from fmt's source: count such statements apart). THE CARD IS WHAT COUNTS. Prove the row's statement (the work); the ties are given (YtcmalffpahkleaaDoorTie.lean); close each card by the builder's one call (the guide's Derived/Test/ToyasCard.lean, 'card_holds'). Laid BY PROGRAM, IN A SANDBOX (cutbox-door.mjs). By AI agents, Wed Nov 11 2026. No macro, syntax, notation, axiom, sorry.
-/
import Derived.Test.YtcmalffpahkleaaDoorRows
import GoSem.ClaimSeven
namespace Go.Proofs.YtcmalffpahkleaaDoor
namespace Rows

/-- THE TIED CARD OF 'viaticumlaw13.SymbolPlays'. -/
def symbolPlaysCard : Claim7 := { stood := { row := symbolPlaysRow, standIns := [], harness := (true, "e11fd9256271809e4c241e1a9b7efcc27fec091d1e1351d493446d06ad181c3a"), looks := true }, kinds := [], alts := [], laidByText := true, laidKinds := [.data], laidTests := true, laidLooks := .later }
def SymbolPlaysCardSaid : Prop := Claim7.holds Tryd.pinned (.plain (OpenSpec.ofChange symbolPlaysSpec)) symbolPlaysCard

/-- THE TIED CARD OF 'viaticumlaw13.SymbolNil'. -/
def symbolNilCard : Claim7 := { stood := { row := symbolNilRow, standIns := [], harness := (true, "e11fd9256271809e4c241e1a9b7efcc27fec091d1e1351d493446d06ad181c3a"), looks := true }, kinds := [], alts := [], laidByText := true, laidKinds := [.data], laidTests := true, laidLooks := .later }
def SymbolNilCardSaid : Prop := Claim7.holds Tryd.pinned (.plain (OpenSpec.ofChange symbolNilSpec)) symbolNilCard

/-- THE TIED CARD OF 'viaticumlaw13.SymbolStays'. -/
def symbolStaysCard : Claim7 := { stood := { row := symbolStaysRow, standIns := [], harness := (true, "e11fd9256271809e4c241e1a9b7efcc27fec091d1e1351d493446d06ad181c3a"), looks := true }, kinds := [], alts := [], laidByText := true, laidKinds := [.data], laidTests := true, laidLooks := .later }
def SymbolStaysCardSaid : Prop := Claim7.holds Tryd.pinned (.plain (OpenSpec.ofChange symbolStaysSpec)) symbolStaysCard

/-- THE TIED CARD OF 'viaticumlaw13.SymbolRow'. -/
def symbolRowCard : Claim7 := { stood := { row := symbolRowRow, standIns := [], harness := (true, "e11fd9256271809e4c241e1a9b7efcc27fec091d1e1351d493446d06ad181c3a"), looks := true }, kinds := [], alts := [], laidByText := true, laidKinds := [.data], laidTests := true, laidLooks := .later }
def SymbolRowCardSaid : Prop := Claim7.holds Tryd.pinned (.plain (OpenSpec.ofChange symbolRowSpec)) symbolRowCard

/-- THE SECOND FORM's CARD OF 'viaticumlaw13.SymbolPlays'. -/
def symbolPlaysUptoCard : Claim7 := { stood := { row := symbolPlaysUptoRow, standIns := [], harness := (true, "e11fd9256271809e4c241e1a9b7efcc27fec091d1e1351d493446d06ad181c3a"), looks := true }, kinds := [], alts := [], laidByText := true, laidKinds := [.data], laidTests := true, laidLooks := .later }
def SymbolPlaysUptoCardSaid : Prop := Claim7.holds Tryd.pinned (.plain (OpenSpec.upto symbolPlaysSpec)) symbolPlaysUptoCard

/-- THE SECOND FORM's CARD OF 'viaticumlaw13.SymbolNil'. -/
def symbolNilUptoCard : Claim7 := { stood := { row := symbolNilUptoRow, standIns := [], harness := (true, "e11fd9256271809e4c241e1a9b7efcc27fec091d1e1351d493446d06ad181c3a"), looks := true }, kinds := [], alts := [], laidByText := true, laidKinds := [.data], laidTests := true, laidLooks := .later }
def SymbolNilUptoCardSaid : Prop := Claim7.holds Tryd.pinned (.plain (OpenSpec.upto symbolNilSpec)) symbolNilUptoCard

/-- THE SECOND FORM's CARD OF 'viaticumlaw13.SymbolStays'. -/
def symbolStaysUptoCard : Claim7 := { stood := { row := symbolStaysUptoRow, standIns := [], harness := (true, "e11fd9256271809e4c241e1a9b7efcc27fec091d1e1351d493446d06ad181c3a"), looks := true }, kinds := [], alts := [], laidByText := true, laidKinds := [.data], laidTests := true, laidLooks := .later }
def SymbolStaysUptoCardSaid : Prop := Claim7.holds Tryd.pinned (.plain (OpenSpec.upto symbolStaysSpec)) symbolStaysUptoCard

/-- THE SECOND FORM's CARD OF 'viaticumlaw13.SymbolRow'. -/
def symbolRowUptoCard : Claim7 := { stood := { row := symbolRowUptoRow, standIns := [], harness := (true, "e11fd9256271809e4c241e1a9b7efcc27fec091d1e1351d493446d06ad181c3a"), looks := true }, kinds := [], alts := [], laidByText := true, laidKinds := [.data], laidTests := true, laidLooks := .later }
def SymbolRowUptoCardSaid : Prop := Claim7.holds Tryd.pinned (.plain (OpenSpec.upto symbolRowSpec)) symbolRowUptoCard
end Rows
end Go.Proofs.YtcmalffpahkleaaDoor
