/-
  DERIVED. GIVEN WITH THE SEED: THE PROGRAM's TIES (one call each: nine closed facts by the kernel) AND EACH ROW's TIE, after the 31st guide's Derived/Test/Toyas{Tie, Card}.lean. No idea stands in it: it is a product of the set-up. Laid BY PROGRAM, IN A SANDBOX (cutbox-door.mjs). By AI agents, Wed Nov 11 2026. No macro, syntax, notation, axiom, sorry.
-/
import Derived.Test.YteplbagjagimdaaDoorRows
import Derived.LaidByTextLater
import Derived.SevenTiedAt
import Derived.LaidSub
import Derived.LaidOnce
namespace Go.Proofs.YteplbagjagimdaaDoor
open Go
set_option maxRecDepth 100000
theorem seatTie1 : Tryd.prog.laidByTextLater [("viaticum/field.primeLess2", Rows.laid_viaticum_field_primeLess2), ("viaticum/field.primeEighth", Rows.laid_viaticum_field_primeEighth), ("viaticum/field.rootOfMinus1", Rows.laid_viaticum_field_rootOfMinus1), ("viaticum/scalar.order", Rows.laid_viaticum_scalar_order)] [.data, .data, .data, .data] true :=
  Program.laidByTextLater_by_one 29 8 5 (by kernel_rfl) (by kernel_rfl) (by kernel_rfl) (by kernel_rfl) (by kernel_rfl) (by kernel_rfl) (fun _ _ => by kernel_rfl)
theorem noOwnUnsafe : Tryd.pinned.checked.prog.headLifts.contains "ownunsafe" = false := by kernel_rfl
theorem tie : Tryd.prog.laidByTextLater [("viaticum/field.primeEighth", Rows.laid_viaticum_field_primeEighth), ("viaticum/field.rootOfMinus1", Rows.laid_viaticum_field_rootOfMinus1)] [.data, .data] true :=
  Program.laidByTextLater.sub seatTie1 ["viaticum/field.primeEighth", "viaticum/field.rootOfMinus1"] (by kernel_rfl) (by kernel_rfl)
theorem pointReads_row_tie : Rows.pointReadsRow.laidByTextAt .later Tryd.pinned [.data, .data] true :=
  OpenClaim.laidByTextAt_later rfl rfl tie noOwnUnsafe
theorem tie2 : Tryd.prog.laidByTextLater [("viaticum/field.primeLess2", Rows.laid_viaticum_field_primeLess2)] [.data] true :=
  Program.laidByTextLater.sub seatTie1 ["viaticum/field.primeLess2"] (by kernel_rfl) (by kernel_rfl)
theorem pointForms_row_tie : Rows.pointFormsRow.laidByTextAt .later Tryd.pinned [.data] true :=
  OpenClaim.laidByTextAt_later rfl rfl tie2 noOwnUnsafe
theorem pointGroup_row_tie : Rows.pointGroupRow.laidByTextAt .later Tryd.pinned [.data] true :=
  OpenClaim.laidByTextAt_later rfl rfl tie2 noOwnUnsafe
theorem tie3 : Tryd.prog.laidByTextLater [("viaticum/field.primeLess2", Rows.laid_viaticum_field_primeLess2), ("viaticum/field.primeEighth", Rows.laid_viaticum_field_primeEighth), ("viaticum/field.rootOfMinus1", Rows.laid_viaticum_field_rootOfMinus1)] [.data, .data, .data] true :=
  Program.laidByTextLater.sub seatTie1 ["viaticum/field.primeLess2", "viaticum/field.primeEighth", "viaticum/field.rootOfMinus1"] (by kernel_rfl) (by kernel_rfl)
theorem pointSmall_row_tie : Rows.pointSmallRow.laidByTextAt .later Tryd.pinned [.data, .data, .data] true :=
  OpenClaim.laidByTextAt_later rfl rfl tie3 noOwnUnsafe
theorem pointBytes_row_tie : Rows.pointBytesRow.laidByTextAt .later Tryd.pinned [.data, .data, .data] true :=
  OpenClaim.laidByTextAt_later rfl rfl tie3 noOwnUnsafe
theorem tie4 : Tryd.prog.laidByTextLater [("viaticum/field.primeLess2", Rows.laid_viaticum_field_primeLess2), ("viaticum/scalar.order", Rows.laid_viaticum_scalar_order)] [.data, .data] true :=
  Program.laidByTextLater.sub seatTie1 ["viaticum/field.primeLess2", "viaticum/scalar.order"] (by kernel_rfl) (by kernel_rfl)
theorem pointScalars_row_tie : Rows.pointScalarsRow.laidByTextAt .later Tryd.pinned [.data, .data] true :=
  OpenClaim.laidByTextAt_later rfl rfl tie4 noOwnUnsafe
theorem pointReadsUpto_row_tie : Rows.pointReadsUptoRow.laidByTextAt .later Tryd.pinned [.data, .data] true :=
  OpenClaim.laidByTextAt_later rfl rfl tie noOwnUnsafe
theorem pointFormsUpto_row_tie : Rows.pointFormsUptoRow.laidByTextAt .later Tryd.pinned [.data] true :=
  OpenClaim.laidByTextAt_later rfl rfl tie2 noOwnUnsafe
theorem pointGroupUpto_row_tie : Rows.pointGroupUptoRow.laidByTextAt .later Tryd.pinned [.data] true :=
  OpenClaim.laidByTextAt_later rfl rfl tie2 noOwnUnsafe
theorem pointSmallUpto_row_tie : Rows.pointSmallUptoRow.laidByTextAt .later Tryd.pinned [.data, .data, .data] true :=
  OpenClaim.laidByTextAt_later rfl rfl tie3 noOwnUnsafe
theorem pointScalarsUpto_row_tie : Rows.pointScalarsUptoRow.laidByTextAt .later Tryd.pinned [.data, .data] true :=
  OpenClaim.laidByTextAt_later rfl rfl tie4 noOwnUnsafe
theorem pointBytesUpto_row_tie : Rows.pointBytesUptoRow.laidByTextAt .later Tryd.pinned [.data, .data, .data] true :=
  OpenClaim.laidByTextAt_later rfl rfl tie3 noOwnUnsafe
end Go.Proofs.YteplbagjagimdaaDoor
