/-
  DERIVED. GIVEN WITH THE SEED: THE CARDS: each row of YtldnokgdgafphaaGreatDoorRows.lean that lists a variable, with what it lists TIED to the program's text (the seventh form; the later family's looks); each row that meets fmt, with fmt's text TOLD by the authors' own Lean function (tested against real Go, not proved from fmt's source: count such statements apart). THE CARD IS WHAT COUNTS. Prove the row's statement (the work); the ties are given (YtldnokgdgafphaaGreatDoorTie.lean); close each card by the builder's one call (the guide's Derived/Test/ToyasCard.lean, 'card_holds'). Laid BY PROGRAM, IN A SANDBOX (cutbox-door.mjs). By AI agents, Wed Nov 11 2026. No macro, syntax, notation, axiom, sorry.
-/
import Derived.Test.YtldnokgdgafphaaGreatDoorRows
import GoSem.ClaimSeven
namespace Go.Proofs.YtldnokgdgafphaaGreatDoor
namespace Rows

/-- THE TIED CARD OF 'fairleadlaw06.BundleWrites'. -/
def bundleWritesCard : Claim7 := { stood := { row := bundleWritesRow, standIns := [], harness := (true, "4ea08a594e9a4c3f277ad91ef12e41e250c617e10bfa350a6879cec37ecdfa32"), looks := true }, kinds := [], alts := [], laidByText := true, laidKinds := [.handle, .sentinel, .sentinel, .sentinel, .sentinel], laidTests := true, laidLooks := .later }
def BundleWritesCardSaid : Prop := Claim7.holds Tryz.pinned (.plain (OpenSpec.ofChange bundleWritesSpec)) bundleWritesCard

/-- THE TIED CARD OF 'fairleadlaw06.BundleChanges'. -/
def bundleChangesCard : Claim7 := { stood := { row := bundleChangesRow, standIns := [], harness := (true, "4ea08a594e9a4c3f277ad91ef12e41e250c617e10bfa350a6879cec37ecdfa32"), looks := true }, kinds := [], alts := [], laidByText := true, laidKinds := [.handle, .sentinel, .sentinel, .sentinel, .sentinel], laidTests := true, laidLooks := .later }
def BundleChangesCardSaid : Prop := Claim7.holds Tryz.pinned (.plain (OpenSpec.ofChange bundleChangesSpec)) bundleChangesCard

/-- THE SECOND FORM's CARD OF 'fairleadlaw06.BundleWrites'. -/
def bundleWritesUptoCard : Claim7 := { stood := { row := bundleWritesUptoRow, standIns := [], harness := (true, "4ea08a594e9a4c3f277ad91ef12e41e250c617e10bfa350a6879cec37ecdfa32"), looks := true }, kinds := [], alts := [], laidByText := true, laidKinds := [.handle, .sentinel, .sentinel, .sentinel, .sentinel], laidTests := true, laidLooks := .later }
def BundleWritesUptoCardSaid : Prop := Claim7.holds Tryz.pinned (.plain (OpenSpec.upto bundleWritesSpec)) bundleWritesUptoCard

/-- THE SECOND FORM's CARD OF 'fairleadlaw06.BundleChanges'. -/
def bundleChangesUptoCard : Claim7 := { stood := { row := bundleChangesUptoRow, standIns := [], harness := (true, "4ea08a594e9a4c3f277ad91ef12e41e250c617e10bfa350a6879cec37ecdfa32"), looks := true }, kinds := [], alts := [], laidByText := true, laidKinds := [.handle, .sentinel, .sentinel, .sentinel, .sentinel], laidTests := true, laidLooks := .later }
def BundleChangesUptoCardSaid : Prop := Claim7.holds Tryz.pinned (.plain (OpenSpec.upto bundleChangesSpec)) bundleChangesUptoCard
end Rows
end Go.Proofs.YtldnokgdgafphaaGreatDoor
