/-
  DERIVED. GIVEN WITH THE SEED: THE CARDS: each row of YtbnfkjkoinbkgaaGreatDoorRows.lean that lists a variable, with what it lists TIED to the program's text (the seventh form; the later family's looks); each row that meets fmt, with fmt's text TOLD by the authors' own Lean function (tested against real Go, not proved from fmt's source: count such statements apart). THE CARD IS WHAT COUNTS. Prove the row's statement (the work); the ties are given (YtbnfkjkoinbkgaaGreatDoorTie.lean); close each card by the builder's one call (the guide's Derived/Test/ToyasCard.lean, 'card_holds'). Laid BY PROGRAM, IN A SANDBOX (cutbox-door.mjs). By AI agents, Wed Nov 11 2026. No macro, syntax, notation, axiom, sorry.
-/
import Derived.Test.YtbnfkjkoinbkgaaGreatDoorRows
import GoSem.ClaimSeven
namespace Go.Proofs.YtbnfkjkoinbkgaaGreatDoor
namespace Rows

/-- THE TIED CARD OF 'fairleadlaw10.BibTags'. -/
def bibTagsCard : Claim7 := { stood := { row := bibTagsRow, standIns := [], harness := (true, "bb27b1753880ee7684ea213d4366a5cba6872bae55dd740d4b6696634ee472fd"), looks := true }, kinds := [], alts := [], laidByText := true, laidKinds := [.handle, .sentinel, .sentinel, .sentinel, .sentinel, .sentinel, .sentinel], laidTests := true, laidLooks := .later }
def BibTagsCardSaid : Prop := Claim7.holds Tryz.pinned (.plain (OpenSpec.ofChange bibTagsSpec)) bibTagsCard

/-- THE SECOND FORM's CARD OF 'fairleadlaw10.BibTags'. -/
def bibTagsUptoCard : Claim7 := { stood := { row := bibTagsUptoRow, standIns := [], harness := (true, "bb27b1753880ee7684ea213d4366a5cba6872bae55dd740d4b6696634ee472fd"), looks := true }, kinds := [], alts := [], laidByText := true, laidKinds := [.handle, .sentinel, .sentinel, .sentinel, .sentinel, .sentinel, .sentinel], laidTests := true, laidLooks := .later }
def BibTagsUptoCardSaid : Prop := Claim7.holds Tryz.pinned (.plain (OpenSpec.upto bibTagsSpec)) bibTagsUptoCard
end Rows
end Go.Proofs.YtbnfkjkoinbkgaaGreatDoor
