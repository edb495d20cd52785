/-
  DERIVED. GIVEN WITH THE SEED: THE CARDS: each row of YtoggkjoadiombaaGreatDoorRows.lean that lists a variable, with what it lists TIED to the program's text (the seventh form; the later family's looks); each row that meets fmt, with fmt's text TOLD by the authors' own Lean function (tested against real Go, not proved from fmt's source: count such statements apart). THE CARD IS WHAT COUNTS. Prove the row's statement (the work); the ties are given (YtoggkjoadiombaaGreatDoorTie.lean); close each card by the builder's one call (the guide's Derived/Test/ToyasCard.lean, 'card_holds'). Laid BY PROGRAM, IN A SANDBOX (cutbox-door.mjs). By AI agents, Wed Nov 11 2026. No macro, syntax, notation, axiom, sorry.
-/
import Derived.Test.YtoggkjoadiombaaGreatDoorRows
import GoSem.ClaimSeven
namespace Go.Proofs.YtoggkjoadiombaaGreatDoor
namespace Rows

/-- THE TIED CARD OF 'fairleadlaw06.BundleKeys'. -/
def bundleKeysCard : Claim7 := { stood := { row := bundleKeysRow, standIns := [], harness := (true, "33797c72f0f9cbd65e7d0e540e49dabea0182241c6b9fe1446161d230a33f18b"), looks := true }, kinds := [], alts := [], laidByText := true, laidKinds := [.handle, .sentinel, .sentinel, .sentinel, .sentinel], laidTests := true, laidLooks := .later }
def BundleKeysCardSaid : Prop := Claim7.holds Tryz.pinned (.plain (OpenSpec.ofChange bundleKeysSpec)) bundleKeysCard

/-- THE TIED CARD OF 'fairleadlaw06.BundleWrites'. -/
def bundleWritesCard : Claim7 := { stood := { row := bundleWritesRow, standIns := [], harness := (true, "33797c72f0f9cbd65e7d0e540e49dabea0182241c6b9fe1446161d230a33f18b"), looks := true }, kinds := [], alts := [], laidByText := true, laidKinds := [.handle, .sentinel, .sentinel, .sentinel, .sentinel], laidTests := true, laidLooks := .later }
def BundleWritesCardSaid : Prop := Claim7.holds Tryz.pinned (.plain (OpenSpec.ofChange bundleWritesSpec)) bundleWritesCard

/-- THE TIED CARD OF 'fairleadlaw06.BundleChanges'. -/
def bundleChangesCard : Claim7 := { stood := { row := bundleChangesRow, standIns := [], harness := (true, "33797c72f0f9cbd65e7d0e540e49dabea0182241c6b9fe1446161d230a33f18b"), looks := true }, kinds := [], alts := [], laidByText := true, laidKinds := [.handle, .sentinel, .sentinel, .sentinel, .sentinel], laidTests := true, laidLooks := .later }
def BundleChangesCardSaid : Prop := Claim7.holds Tryz.pinned (.plain (OpenSpec.ofChange bundleChangesSpec)) bundleChangesCard

/-- THE TIED CARD OF 'fairleadlaw06.BundleBack'. -/
def bundleBackCard : Claim7 := { stood := { row := bundleBackRow, standIns := [], harness := (true, "33797c72f0f9cbd65e7d0e540e49dabea0182241c6b9fe1446161d230a33f18b"), looks := true }, kinds := [], alts := [], laidByText := true, laidKinds := [.handle, .sentinel, .sentinel, .sentinel, .sentinel], laidTests := true, laidLooks := .later }
def BundleBackCardSaid : Prop := Claim7.holds Tryz.pinned (.plain (OpenSpec.ofChange bundleBackSpec)) bundleBackCard

/-- THE TIED CARD OF 'fairleadlaw06.BundleAgain'. -/
def bundleAgainCard : Claim7 := { stood := { row := bundleAgainRow, standIns := [], harness := (true, "33797c72f0f9cbd65e7d0e540e49dabea0182241c6b9fe1446161d230a33f18b"), looks := true }, kinds := [], alts := [], laidByText := true, laidKinds := [.handle, .sentinel, .sentinel, .sentinel, .sentinel], laidTests := true, laidLooks := .later }
def BundleAgainCardSaid : Prop := Claim7.holds Tryz.pinned (.plain (OpenSpec.ofChange bundleAgainSpec)) bundleAgainCard

/-- THE TIED CARD OF 'fairleadlaw06.BundleDrops'. -/
def bundleDropsCard : Claim7 := { stood := { row := bundleDropsRow, standIns := [], harness := (true, "33797c72f0f9cbd65e7d0e540e49dabea0182241c6b9fe1446161d230a33f18b"), looks := true }, kinds := [], alts := [], laidByText := true, laidKinds := [.handle, .sentinel, .sentinel, .sentinel, .sentinel], laidTests := true, laidLooks := .later }
def BundleDropsCardSaid : Prop := Claim7.holds Tryz.pinned (.plain (OpenSpec.ofChange bundleDropsSpec)) bundleDropsCard

/-- THE SECOND FORM's CARD OF 'fairleadlaw06.BundleKeys'. -/
def bundleKeysUptoCard : Claim7 := { stood := { row := bundleKeysUptoRow, standIns := [], harness := (true, "33797c72f0f9cbd65e7d0e540e49dabea0182241c6b9fe1446161d230a33f18b"), looks := true }, kinds := [], alts := [], laidByText := true, laidKinds := [.handle, .sentinel, .sentinel, .sentinel, .sentinel], laidTests := true, laidLooks := .later }
def BundleKeysUptoCardSaid : Prop := Claim7.holds Tryz.pinned (.plain (OpenSpec.upto bundleKeysSpec)) bundleKeysUptoCard

/-- THE SECOND FORM's CARD OF 'fairleadlaw06.BundleWrites'. -/
def bundleWritesUptoCard : Claim7 := { stood := { row := bundleWritesUptoRow, standIns := [], harness := (true, "33797c72f0f9cbd65e7d0e540e49dabea0182241c6b9fe1446161d230a33f18b"), looks := true }, kinds := [], alts := [], laidByText := true, laidKinds := [.handle, .sentinel, .sentinel, .sentinel, .sentinel], laidTests := true, laidLooks := .later }
def BundleWritesUptoCardSaid : Prop := Claim7.holds Tryz.pinned (.plain (OpenSpec.upto bundleWritesSpec)) bundleWritesUptoCard

/-- THE SECOND FORM's CARD OF 'fairleadlaw06.BundleChanges'. -/
def bundleChangesUptoCard : Claim7 := { stood := { row := bundleChangesUptoRow, standIns := [], harness := (true, "33797c72f0f9cbd65e7d0e540e49dabea0182241c6b9fe1446161d230a33f18b"), looks := true }, kinds := [], alts := [], laidByText := true, laidKinds := [.handle, .sentinel, .sentinel, .sentinel, .sentinel], laidTests := true, laidLooks := .later }
def BundleChangesUptoCardSaid : Prop := Claim7.holds Tryz.pinned (.plain (OpenSpec.upto bundleChangesSpec)) bundleChangesUptoCard

/-- THE SECOND FORM's CARD OF 'fairleadlaw06.BundleBack'. -/
def bundleBackUptoCard : Claim7 := { stood := { row := bundleBackUptoRow, standIns := [], harness := (true, "33797c72f0f9cbd65e7d0e540e49dabea0182241c6b9fe1446161d230a33f18b"), looks := true }, kinds := [], alts := [], laidByText := true, laidKinds := [.handle, .sentinel, .sentinel, .sentinel, .sentinel], laidTests := true, laidLooks := .later }
def BundleBackUptoCardSaid : Prop := Claim7.holds Tryz.pinned (.plain (OpenSpec.upto bundleBackSpec)) bundleBackUptoCard

/-- THE SECOND FORM's CARD OF 'fairleadlaw06.BundleAgain'. -/
def bundleAgainUptoCard : Claim7 := { stood := { row := bundleAgainUptoRow, standIns := [], harness := (true, "33797c72f0f9cbd65e7d0e540e49dabea0182241c6b9fe1446161d230a33f18b"), looks := true }, kinds := [], alts := [], laidByText := true, laidKinds := [.handle, .sentinel, .sentinel, .sentinel, .sentinel], laidTests := true, laidLooks := .later }
def BundleAgainUptoCardSaid : Prop := Claim7.holds Tryz.pinned (.plain (OpenSpec.upto bundleAgainSpec)) bundleAgainUptoCard

/-- THE SECOND FORM's CARD OF 'fairleadlaw06.BundleDrops'. -/
def bundleDropsUptoCard : Claim7 := { stood := { row := bundleDropsUptoRow, standIns := [], harness := (true, "33797c72f0f9cbd65e7d0e540e49dabea0182241c6b9fe1446161d230a33f18b"), looks := true }, kinds := [], alts := [], laidByText := true, laidKinds := [.handle, .sentinel, .sentinel, .sentinel, .sentinel], laidTests := true, laidLooks := .later }
def BundleDropsUptoCardSaid : Prop := Claim7.holds Tryz.pinned (.plain (OpenSpec.upto bundleDropsSpec)) bundleDropsUptoCard
end Rows
end Go.Proofs.YtoggkjoadiombaaGreatDoor
