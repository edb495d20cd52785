/-
  DERIVED. GIVEN WITH THE SEED: THE PROGRAM's TIES (one call each: nine closed facts by the kernel) AND EACH ROW's TIE, after the 31st guide's Derived/Test/Toyas{Tie, Card}.lean. No idea stands in it: it is a product of the set-up. Laid BY PROGRAM, IN A SANDBOX (cutbox-door.mjs). By AI agents, Wed Nov 11 2026. No macro, syntax, notation, axiom, sorry.
-/
import Derived.Test.YtbnfkjkoinbkgaaGreatDoorRows
import Derived.LaidByTextLater
import Derived.SevenTiedAt
import Derived.LaidSub
import Derived.LaidOnce
namespace Go.Proofs.YtbnfkjkoinbkgaaGreatDoor
open Go
set_option maxRecDepth 100000
theorem seatTie1 : Tryz.prog.laidByTextLater [("errors.errorType", Rows.laid_errors_errorType), ("fairlead/eid.errScheme", Rows.laid_fairlead_eid_errScheme), ("fairlead/eid.errName", Rows.laid_fairlead_eid_errName), ("fairlead/eid.errNumber", Rows.laid_fairlead_eid_errNumber), ("fairlead/eid.errForm", Rows.laid_fairlead_eid_errForm), ("fairlead/bib.errTarget", Rows.laid_fairlead_bib_errTarget), ("fairlead/bib.errTag", Rows.laid_fairlead_bib_errTag)] [.handle, .sentinel, .sentinel, .sentinel, .sentinel, .sentinel, .sentinel] true :=
  Program.laidByTextLater_by_one 130 8 2 (by kernel_rfl) (by kernel_rfl) (by kernel_rfl) (by kernel_rfl) (by kernel_rfl) (by kernel_rfl) (fun _ _ => by kernel_rfl)
theorem noOwnUnsafe : Tryz.pinned.checked.prog.headLifts.contains "ownunsafe" = false := by kernel_rfl
theorem tie : Tryz.prog.laidByTextLater [("errors.errorType", Rows.laid_errors_errorType), ("fairlead/eid.errScheme", Rows.laid_fairlead_eid_errScheme), ("fairlead/eid.errName", Rows.laid_fairlead_eid_errName), ("fairlead/eid.errNumber", Rows.laid_fairlead_eid_errNumber), ("fairlead/eid.errForm", Rows.laid_fairlead_eid_errForm), ("fairlead/bib.errTarget", Rows.laid_fairlead_bib_errTarget), ("fairlead/bib.errTag", Rows.laid_fairlead_bib_errTag)] [.handle, .sentinel, .sentinel, .sentinel, .sentinel, .sentinel, .sentinel] true :=
  Program.laidByTextLater.sub seatTie1 ["errors.errorType", "fairlead/eid.errScheme", "fairlead/eid.errName", "fairlead/eid.errNumber", "fairlead/eid.errForm", "fairlead/bib.errTarget", "fairlead/bib.errTag"] (by kernel_rfl) (by kernel_rfl)
theorem bibTags_row_tie : Rows.bibTagsRow.laidByTextAt .later Tryz.pinned [.handle, .sentinel, .sentinel, .sentinel, .sentinel, .sentinel, .sentinel] true :=
  OpenClaim.laidByTextAt_later rfl rfl tie noOwnUnsafe
theorem bibTagsUpto_row_tie : Rows.bibTagsUptoRow.laidByTextAt .later Tryz.pinned [.handle, .sentinel, .sentinel, .sentinel, .sentinel, .sentinel, .sentinel] true :=
  OpenClaim.laidByTextAt_later rfl rfl tie noOwnUnsafe
end Go.Proofs.YtbnfkjkoinbkgaaGreatDoor
