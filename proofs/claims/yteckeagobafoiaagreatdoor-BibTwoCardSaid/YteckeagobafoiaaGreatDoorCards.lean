/-
  DERIVED. GIVEN WITH THE SEED: THE CARDS: each row of YteckeagobafoiaaGreatDoorRows.lean that lists a variable, with what it lists TIED to the program's text (the seventh form; the later family's looks); each row that meets fmt, with fmt's text TOLD by the authors' own Lean function (tested against real Go, not proved from fmt's source: count such statements apart). THE CARD IS WHAT COUNTS. Prove the row's statement (the work); the ties are given (YteckeagobafoiaaGreatDoorTie.lean); close each card by the builder's one call (the guide's Derived/Test/ToyasCard.lean, 'card_holds'). Laid BY PROGRAM, IN A SANDBOX (cutbox-door.mjs). By AI agents, Wed Nov 11 2026. No macro, syntax, notation, axiom, sorry.
-/
import Derived.Test.YteckeagobafoiaaGreatDoorRows
import GoSem.ClaimSeven
namespace Go.Proofs.YteckeagobafoiaaGreatDoor
namespace Rows

/-- THE TIED CARD OF 'fairleadlaw10.BibTwo'. -/
def bibTwoCard : Claim7 := { stood := { row := bibTwoRow, standIns := [], harness := (true, "d7bb294d7d72eeb5264d6d59698a210452415ef9c0d9df1f4a34188f7ba4f4e4"), looks := true }, kinds := [], alts := [], laidByText := true, laidKinds := [.handle, .sentinel, .sentinel, .sentinel, .sentinel, .sentinel, .sentinel], laidTests := true, laidLooks := .later }
def BibTwoCardSaid : Prop := Claim7.holds Tryz.pinned (.plain (OpenSpec.ofChange bibTwoSpec)) bibTwoCard

/-- THE TIED CARD OF 'fairleadlaw10.BibWrites'. -/
def bibWritesCard : Claim7 := { stood := { row := bibWritesRow, standIns := [], harness := (true, "d7bb294d7d72eeb5264d6d59698a210452415ef9c0d9df1f4a34188f7ba4f4e4"), looks := true }, kinds := [], alts := [], laidByText := true, laidKinds := [.handle, .sentinel, .sentinel, .sentinel, .sentinel, .sentinel, .sentinel], laidTests := true, laidLooks := .later }
def BibWritesCardSaid : Prop := Claim7.holds Tryz.pinned (.plain (OpenSpec.ofChange bibWritesSpec)) bibWritesCard

/-- THE TIED CARD OF 'fairleadlaw10.BibSigns'. -/
def bibSignsCard : Claim7 := { stood := { row := bibSignsRow, standIns := [], harness := (true, "d7bb294d7d72eeb5264d6d59698a210452415ef9c0d9df1f4a34188f7ba4f4e4"), looks := true }, kinds := [], alts := [], laidByText := true, laidKinds := [.handle, .sentinel, .sentinel, .sentinel, .sentinel, .sentinel, .sentinel], laidTests := true, laidLooks := .later }
def BibSignsCardSaid : Prop := Claim7.holds Tryz.pinned (.plain (OpenSpec.ofChange bibSignsSpec)) bibSignsCard

/-- THE TIED CARD OF 'fairleadlaw10.BibVerifies'. -/
def bibVerifiesCard : Claim7 := { stood := { row := bibVerifiesRow, standIns := [], harness := (true, "d7bb294d7d72eeb5264d6d59698a210452415ef9c0d9df1f4a34188f7ba4f4e4"), looks := true }, kinds := [], alts := [], laidByText := true, laidKinds := [.handle, .sentinel, .sentinel, .sentinel, .sentinel, .sentinel, .sentinel], laidTests := true, laidLooks := .later }
def BibVerifiesCardSaid : Prop := Claim7.holds Tryz.pinned (.plain (OpenSpec.ofChange bibVerifiesSpec)) bibVerifiesCard

/-- THE TIED CARD OF 'fairleadlaw10.BibBack'. -/
def bibBackCard : Claim7 := { stood := { row := bibBackRow, standIns := [], harness := (true, "d7bb294d7d72eeb5264d6d59698a210452415ef9c0d9df1f4a34188f7ba4f4e4"), looks := true }, kinds := [], alts := [], laidByText := true, laidKinds := [.handle, .sentinel, .sentinel, .sentinel, .sentinel, .sentinel, .sentinel], laidTests := true, laidLooks := .later }
def BibBackCardSaid : Prop := Claim7.holds Tryz.pinned (.plain (OpenSpec.ofChange bibBackSpec)) bibBackCard

/-- THE TIED CARD OF 'fairleadlaw10.BibTags'. -/
def bibTagsCard : Claim7 := { stood := { row := bibTagsRow, standIns := [], harness := (true, "d7bb294d7d72eeb5264d6d59698a210452415ef9c0d9df1f4a34188f7ba4f4e4"), looks := true }, kinds := [], alts := [], laidByText := true, laidKinds := [.handle, .sentinel, .sentinel, .sentinel, .sentinel, .sentinel, .sentinel], laidTests := true, laidLooks := .later }
def BibTagsCardSaid : Prop := Claim7.holds Tryz.pinned (.plain (OpenSpec.ofChange bibTagsSpec)) bibTagsCard

/-- THE TIED CARD OF 'fairleadlaw11.PolicyJudges'. -/
def policyJudgesCard : Claim7 := { stood := { row := policyJudgesRow, standIns := [], harness := (true, "d7bb294d7d72eeb5264d6d59698a210452415ef9c0d9df1f4a34188f7ba4f4e4"), looks := true }, kinds := [], alts := [], laidByText := true, laidKinds := [.handle, .sentinel, .sentinel, .sentinel, .sentinel, .sentinel, .sentinel], laidTests := true, laidLooks := .later }
def PolicyJudgesCardSaid : Prop := Claim7.holds Tryz.pinned (.plain (OpenSpec.ofChange policyJudgesSpec)) policyJudgesCard

/-- THE TIED CARD OF 'fairleadlaw11.PolicyTags'. -/
def policyTagsCard : Claim7 := { stood := { row := policyTagsRow, standIns := [], harness := (true, "d7bb294d7d72eeb5264d6d59698a210452415ef9c0d9df1f4a34188f7ba4f4e4"), looks := true }, kinds := [], alts := [], laidByText := true, laidKinds := [.handle, .sentinel, .sentinel, .sentinel, .sentinel, .sentinel, .sentinel], laidTests := true, laidLooks := .later }
def PolicyTagsCardSaid : Prop := Claim7.holds Tryz.pinned (.plain (OpenSpec.ofChange policyTagsSpec)) policyTagsCard

/-- THE TIED CARD OF 'fairleadlaw11.PolicyLess'. -/
def policyLessCard : Claim7 := { stood := { row := policyLessRow, standIns := [], harness := (true, "d7bb294d7d72eeb5264d6d59698a210452415ef9c0d9df1f4a34188f7ba4f4e4"), looks := true }, kinds := [], alts := [], laidByText := true, laidKinds := [.handle, .sentinel, .sentinel, .sentinel, .sentinel, .sentinel, .sentinel], laidTests := true, laidLooks := .later }
def PolicyLessCardSaid : Prop := Claim7.holds Tryz.pinned (.plain (OpenSpec.ofChange policyLessSpec)) policyLessCard

/-- THE TIED CARD OF 'fairleadlaw11.PolicyKeys'. -/
def policyKeysCard : Claim7 := { stood := { row := policyKeysRow, standIns := [], harness := (true, "d7bb294d7d72eeb5264d6d59698a210452415ef9c0d9df1f4a34188f7ba4f4e4"), looks := true }, kinds := [], alts := [], laidByText := true, laidKinds := [.handle, .sentinel, .sentinel, .sentinel, .sentinel, .sentinel, .sentinel], laidTests := true, laidLooks := .later }
def PolicyKeysCardSaid : Prop := Claim7.holds Tryz.pinned (.plain (OpenSpec.ofChange policyKeysSpec)) policyKeysCard

/-- THE SECOND FORM's CARD OF 'fairleadlaw10.BibTwo'. -/
def bibTwoUptoCard : Claim7 := { stood := { row := bibTwoUptoRow, standIns := [], harness := (true, "d7bb294d7d72eeb5264d6d59698a210452415ef9c0d9df1f4a34188f7ba4f4e4"), looks := true }, kinds := [], alts := [], laidByText := true, laidKinds := [.handle, .sentinel, .sentinel, .sentinel, .sentinel, .sentinel, .sentinel], laidTests := true, laidLooks := .later }
def BibTwoUptoCardSaid : Prop := Claim7.holds Tryz.pinned (.plain (OpenSpec.upto bibTwoSpec)) bibTwoUptoCard

/-- THE SECOND FORM's CARD OF 'fairleadlaw10.BibWrites'. -/
def bibWritesUptoCard : Claim7 := { stood := { row := bibWritesUptoRow, standIns := [], harness := (true, "d7bb294d7d72eeb5264d6d59698a210452415ef9c0d9df1f4a34188f7ba4f4e4"), looks := true }, kinds := [], alts := [], laidByText := true, laidKinds := [.handle, .sentinel, .sentinel, .sentinel, .sentinel, .sentinel, .sentinel], laidTests := true, laidLooks := .later }
def BibWritesUptoCardSaid : Prop := Claim7.holds Tryz.pinned (.plain (OpenSpec.upto bibWritesSpec)) bibWritesUptoCard

/-- THE SECOND FORM's CARD OF 'fairleadlaw10.BibSigns'. -/
def bibSignsUptoCard : Claim7 := { stood := { row := bibSignsUptoRow, standIns := [], harness := (true, "d7bb294d7d72eeb5264d6d59698a210452415ef9c0d9df1f4a34188f7ba4f4e4"), looks := true }, kinds := [], alts := [], laidByText := true, laidKinds := [.handle, .sentinel, .sentinel, .sentinel, .sentinel, .sentinel, .sentinel], laidTests := true, laidLooks := .later }
def BibSignsUptoCardSaid : Prop := Claim7.holds Tryz.pinned (.plain (OpenSpec.upto bibSignsSpec)) bibSignsUptoCard

/-- THE SECOND FORM's CARD OF 'fairleadlaw10.BibVerifies'. -/
def bibVerifiesUptoCard : Claim7 := { stood := { row := bibVerifiesUptoRow, standIns := [], harness := (true, "d7bb294d7d72eeb5264d6d59698a210452415ef9c0d9df1f4a34188f7ba4f4e4"), looks := true }, kinds := [], alts := [], laidByText := true, laidKinds := [.handle, .sentinel, .sentinel, .sentinel, .sentinel, .sentinel, .sentinel], laidTests := true, laidLooks := .later }
def BibVerifiesUptoCardSaid : Prop := Claim7.holds Tryz.pinned (.plain (OpenSpec.upto bibVerifiesSpec)) bibVerifiesUptoCard

/-- THE SECOND FORM's CARD OF 'fairleadlaw10.BibBack'. -/
def bibBackUptoCard : Claim7 := { stood := { row := bibBackUptoRow, standIns := [], harness := (true, "d7bb294d7d72eeb5264d6d59698a210452415ef9c0d9df1f4a34188f7ba4f4e4"), looks := true }, kinds := [], alts := [], laidByText := true, laidKinds := [.handle, .sentinel, .sentinel, .sentinel, .sentinel, .sentinel, .sentinel], laidTests := true, laidLooks := .later }
def BibBackUptoCardSaid : Prop := Claim7.holds Tryz.pinned (.plain (OpenSpec.upto bibBackSpec)) bibBackUptoCard

/-- THE SECOND FORM's CARD OF 'fairleadlaw10.BibTags'. -/
def bibTagsUptoCard : Claim7 := { stood := { row := bibTagsUptoRow, standIns := [], harness := (true, "d7bb294d7d72eeb5264d6d59698a210452415ef9c0d9df1f4a34188f7ba4f4e4"), looks := true }, kinds := [], alts := [], laidByText := true, laidKinds := [.handle, .sentinel, .sentinel, .sentinel, .sentinel, .sentinel, .sentinel], laidTests := true, laidLooks := .later }
def BibTagsUptoCardSaid : Prop := Claim7.holds Tryz.pinned (.plain (OpenSpec.upto bibTagsSpec)) bibTagsUptoCard

/-- THE SECOND FORM's CARD OF 'fairleadlaw11.PolicyJudges'. -/
def policyJudgesUptoCard : Claim7 := { stood := { row := policyJudgesUptoRow, standIns := [], harness := (true, "d7bb294d7d72eeb5264d6d59698a210452415ef9c0d9df1f4a34188f7ba4f4e4"), looks := true }, kinds := [], alts := [], laidByText := true, laidKinds := [.handle, .sentinel, .sentinel, .sentinel, .sentinel, .sentinel, .sentinel], laidTests := true, laidLooks := .later }
def PolicyJudgesUptoCardSaid : Prop := Claim7.holds Tryz.pinned (.plain (OpenSpec.upto policyJudgesSpec)) policyJudgesUptoCard

/-- THE SECOND FORM's CARD OF 'fairleadlaw11.PolicyTags'. -/
def policyTagsUptoCard : Claim7 := { stood := { row := policyTagsUptoRow, standIns := [], harness := (true, "d7bb294d7d72eeb5264d6d59698a210452415ef9c0d9df1f4a34188f7ba4f4e4"), looks := true }, kinds := [], alts := [], laidByText := true, laidKinds := [.handle, .sentinel, .sentinel, .sentinel, .sentinel, .sentinel, .sentinel], laidTests := true, laidLooks := .later }
def PolicyTagsUptoCardSaid : Prop := Claim7.holds Tryz.pinned (.plain (OpenSpec.upto policyTagsSpec)) policyTagsUptoCard

/-- THE SECOND FORM's CARD OF 'fairleadlaw11.PolicyLess'. -/
def policyLessUptoCard : Claim7 := { stood := { row := policyLessUptoRow, standIns := [], harness := (true, "d7bb294d7d72eeb5264d6d59698a210452415ef9c0d9df1f4a34188f7ba4f4e4"), looks := true }, kinds := [], alts := [], laidByText := true, laidKinds := [.handle, .sentinel, .sentinel, .sentinel, .sentinel, .sentinel, .sentinel], laidTests := true, laidLooks := .later }
def PolicyLessUptoCardSaid : Prop := Claim7.holds Tryz.pinned (.plain (OpenSpec.upto policyLessSpec)) policyLessUptoCard

/-- THE SECOND FORM's CARD OF 'fairleadlaw11.PolicyKeys'. -/
def policyKeysUptoCard : Claim7 := { stood := { row := policyKeysUptoRow, standIns := [], harness := (true, "d7bb294d7d72eeb5264d6d59698a210452415ef9c0d9df1f4a34188f7ba4f4e4"), looks := true }, kinds := [], alts := [], laidByText := true, laidKinds := [.handle, .sentinel, .sentinel, .sentinel, .sentinel, .sentinel, .sentinel], laidTests := true, laidLooks := .later }
def PolicyKeysUptoCardSaid : Prop := Claim7.holds Tryz.pinned (.plain (OpenSpec.upto policyKeysSpec)) policyKeysUptoCard
end Rows
end Go.Proofs.YteckeagobafoiaaGreatDoor
