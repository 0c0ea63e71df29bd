/-
  DERIVED. GIVEN WITH THE SEED: THE CARDS: each row of YtobgimpkkjaolaaDoorRows.lean that lists a variable, with what it lists TIED to the program's text (the seventh form; the later family's looks); each row that meets fmt, with fmt's text TOLD by the authors' own Lean function (tested against real Go, not proved from fmt's source: count such statements apart). THE CARD IS WHAT COUNTS. Prove the row's statement (the work); the ties are given (YtobgimpkkjaolaaDoorTie.lean); close each card by the builder's one call (the guide's Derived/Test/ToyasCard.lean, 'card_holds'). Laid BY PROGRAM, IN A SANDBOX (cutbox-door.mjs). By AI agents, Wed Nov 11 2026. No macro, syntax, notation, axiom, sorry.
-/
import Derived.Test.YtobgimpkkjaolaaDoorRows
import GoSem.ClaimSeven
namespace Go.Proofs.YtobgimpkkjaolaaDoor
namespace Rows

/-- THE TIED CARD OF 'viaticumlaw5.SignRight'. -/
def signRightCard : Claim7 := { stood := { row := signRightRow, standIns := [], harness := (true, "d823c19b6b769a8a381ca87f85a9d16062a7199812ce6eb7ca3c10e58037603e"), looks := false }, kinds := [], alts := [], laidByText := true, laidKinds := [.data, .data, .data, .data, .data, .data], laidTests := true, laidLooks := .later }
def SignRightCardSaid : Prop := Claim7.holds Tryd.pinned (.plain (OpenSpec.ofChange signRightSpec)) signRightCard

/-- THE TIED CARD OF 'viaticumlaw5.SignSame'. -/
def signSameCard : Claim7 := { stood := { row := signSameRow, standIns := [], harness := (true, "d823c19b6b769a8a381ca87f85a9d16062a7199812ce6eb7ca3c10e58037603e"), looks := false }, kinds := [], alts := [], laidByText := true, laidKinds := [.data, .data, .data, .data], laidTests := true, laidLooks := .later }
def SignSameCardSaid : Prop := Claim7.holds Tryd.pinned (.plain (OpenSpec.ofChange signSameSpec)) signSameCard

/-- THE SECOND FORM's CARD OF 'viaticumlaw5.SignRight'. -/
def signRightUptoCard : Claim7 := { stood := { row := signRightUptoRow, standIns := [], harness := (true, "d823c19b6b769a8a381ca87f85a9d16062a7199812ce6eb7ca3c10e58037603e"), looks := false }, kinds := [], alts := [], laidByText := true, laidKinds := [.data, .data, .data, .data, .data, .data], laidTests := true, laidLooks := .later }
def SignRightUptoCardSaid : Prop := Claim7.holds Tryd.pinned (.plain (OpenSpec.upto signRightSpec)) signRightUptoCard

/-- THE SECOND FORM's CARD OF 'viaticumlaw5.SignSame'. -/
def signSameUptoCard : Claim7 := { stood := { row := signSameUptoRow, standIns := [], harness := (true, "d823c19b6b769a8a381ca87f85a9d16062a7199812ce6eb7ca3c10e58037603e"), looks := false }, kinds := [], alts := [], laidByText := true, laidKinds := [.data, .data, .data, .data], laidTests := true, laidLooks := .later }
def SignSameUptoCardSaid : Prop := Claim7.holds Tryd.pinned (.plain (OpenSpec.upto signSameSpec)) signSameUptoCard
end Rows
end Go.Proofs.YtobgimpkkjaolaaDoor
