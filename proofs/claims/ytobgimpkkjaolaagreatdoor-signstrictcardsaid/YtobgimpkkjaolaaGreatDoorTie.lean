/-
  DERIVED. GIVEN WITH THE SEED: THE PROGRAM's TIES (one call each: nine closed facts by the kernel) AND EACH ROW's TIE, after the 31st guide's Derived/Test/Toyas{Tie, Card}.lean. No idea stands in it: it is a product of the set-up. Laid BY PROGRAM, IN A SANDBOX (cutbox-door.mjs). By AI agents, Wed Nov 11 2026. No macro, syntax, notation, axiom, sorry.
-/
import Derived.Test.YtobgimpkkjaolaaGreatDoorRows
import Derived.LaidByTextLater
import Derived.SevenTiedAt
import Derived.LaidSub
import Derived.LaidOnce
namespace Go.Proofs.YtobgimpkkjaolaaGreatDoor
open Go
set_option maxRecDepth 100000
theorem seatTie1 : Tryz.prog.laidByTextLater [("viaticum/field.primeLess2", Rows.laid_viaticum_field_primeLess2), ("viaticum/field.primeEighth", Rows.laid_viaticum_field_primeEighth), ("viaticum/field.rootOfMinus1", Rows.laid_viaticum_field_rootOfMinus1), ("viaticum/sha.firstState", Rows.laid_viaticum_sha_firstState), ("viaticum/sha.roundConstants", Rows.laid_viaticum_sha_roundConstants), ("viaticum/scalar.order", Rows.laid_viaticum_scalar_order)] [.data, .data, .data, .data, .data, .data] true :=
  Program.laidByTextLater_by_one 39 8 81 (by kernel_rfl) (by kernel_rfl) (by kernel_rfl) (by kernel_rfl) (by kernel_rfl) (by kernel_rfl) (fun _ _ => by kernel_rfl)
theorem noOwnUnsafe : Tryz.pinned.checked.prog.headLifts.contains "ownunsafe" = false := by kernel_rfl
theorem tie : Tryz.prog.laidByTextLater [("viaticum/field.primeLess2", Rows.laid_viaticum_field_primeLess2), ("viaticum/sha.firstState", Rows.laid_viaticum_sha_firstState), ("viaticum/sha.roundConstants", Rows.laid_viaticum_sha_roundConstants), ("viaticum/scalar.order", Rows.laid_viaticum_scalar_order)] [.data, .data, .data, .data] true :=
  Program.laidByTextLater.sub seatTie1 ["viaticum/field.primeLess2", "viaticum/sha.firstState", "viaticum/sha.roundConstants", "viaticum/scalar.order"] (by kernel_rfl) (by kernel_rfl)
theorem signForms_row_tie : Rows.signFormsRow.laidByTextAt .later Tryz.pinned [.data, .data, .data, .data] true :=
  OpenClaim.laidByTextAt_later rfl rfl tie noOwnUnsafe
theorem tie2 : Tryz.prog.laidByTextLater [("viaticum/field.primeLess2", Rows.laid_viaticum_field_primeLess2), ("viaticum/field.primeEighth", Rows.laid_viaticum_field_primeEighth), ("viaticum/field.rootOfMinus1", Rows.laid_viaticum_field_rootOfMinus1), ("viaticum/sha.firstState", Rows.laid_viaticum_sha_firstState), ("viaticum/sha.roundConstants", Rows.laid_viaticum_sha_roundConstants), ("viaticum/scalar.order", Rows.laid_viaticum_scalar_order)] [.data, .data, .data, .data, .data, .data] true :=
  Program.laidByTextLater.sub seatTie1 ["viaticum/field.primeLess2", "viaticum/field.primeEighth", "viaticum/field.rootOfMinus1", "viaticum/sha.firstState", "viaticum/sha.roundConstants", "viaticum/scalar.order"] (by kernel_rfl) (by kernel_rfl)
theorem signVerifies_row_tie : Rows.signVerifiesRow.laidByTextAt .later Tryz.pinned [.data, .data, .data, .data, .data, .data] true :=
  OpenClaim.laidByTextAt_later rfl rfl tie2 noOwnUnsafe
theorem signStrict_row_tie : Rows.signStrictRow.laidByTextAt .later Tryz.pinned [.data, .data, .data, .data, .data, .data] true :=
  OpenClaim.laidByTextAt_later rfl rfl tie2 noOwnUnsafe
theorem signFormsUpto_row_tie : Rows.signFormsUptoRow.laidByTextAt .later Tryz.pinned [.data, .data, .data, .data] true :=
  OpenClaim.laidByTextAt_later rfl rfl tie noOwnUnsafe
theorem signVerifiesUpto_row_tie : Rows.signVerifiesUptoRow.laidByTextAt .later Tryz.pinned [.data, .data, .data, .data, .data, .data] true :=
  OpenClaim.laidByTextAt_later rfl rfl tie2 noOwnUnsafe
theorem signStrictUpto_row_tie : Rows.signStrictUptoRow.laidByTextAt .later Tryz.pinned [.data, .data, .data, .data, .data, .data] true :=
  OpenClaim.laidByTextAt_later rfl rfl tie2 noOwnUnsafe
end Go.Proofs.YtobgimpkkjaolaaGreatDoor
