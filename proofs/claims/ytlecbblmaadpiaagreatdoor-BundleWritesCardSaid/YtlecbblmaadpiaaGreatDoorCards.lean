/-
  DERIVED. GIVEN WITH THE SEED: THE CARDS: each row of YtlecbblmaadpiaaGreatDoorRows.lean that lists a variable, with what it lists TIED to the program's text (the seventh form; the later family's looks); each row that meets fmt, with fmt's text TOLD by the authors' own Lean function (tested against real Go, not proved from fmt's source: count such statements apart). THE CARD IS WHAT COUNTS. Prove the row's statement (the work); the ties are given (YtlecbblmaadpiaaGreatDoorTie.lean); close each card by the builder's one call (the guide's Derived/Test/ToyasCard.lean, 'card_holds'). Laid BY PROGRAM, IN A SANDBOX (cutbox-door.mjs). By AI agents, Wed Nov 11 2026. No macro, syntax, notation, axiom, sorry.
-/
import Derived.Test.YtlecbblmaadpiaaGreatDoorRows
import GoSem.ClaimSeven
namespace Go.Proofs.YtlecbblmaadpiaaGreatDoor
namespace Rows

/-- THE TIED CARD OF 'fairleadlaw04.EidTells'. -/
def eidTellsCard : Claim7 := { stood := { row := eidTellsRow, standIns := [], harness := (true, "c6a4ece2f06bba03ff028f09c6a67dbce7dc4bd8d72a40057461a4932a91794e"), looks := true }, kinds := [], alts := [], laidByText := true, laidKinds := [.data, .data, .data, .sentinel, .sentinel, .sentinel, .sentinel, .sentinel, .sentinel], laidTests := true, laidLooks := .later }
def EidTellsCardSaid : Prop := Claim7.holds Tryz.pinned (.plain (OpenSpec.ofChange eidTellsSpec)) eidTellsCard

/-- THE TIED CARD OF 'fairleadlaw04.EidReads'. -/
def eidReadsCard : Claim7 := { stood := { row := eidReadsRow, standIns := [], harness := (true, "c6a4ece2f06bba03ff028f09c6a67dbce7dc4bd8d72a40057461a4932a91794e"), looks := true }, kinds := [], alts := [], laidByText := true, laidKinds := [.data, .data, .data, .sentinel, .sentinel, .sentinel, .sentinel, .sentinel, .sentinel], laidTests := true, laidLooks := .later }
def EidReadsCardSaid : Prop := Claim7.holds Tryz.pinned (.plain (OpenSpec.ofChange eidReadsSpec)) eidReadsCard

/-- THE TIED CARD OF 'fairleadlaw05.BlockReads'. -/
def blockReadsCard : Claim7 := { stood := { row := blockReadsRow, standIns := [], harness := (true, "c6a4ece2f06bba03ff028f09c6a67dbce7dc4bd8d72a40057461a4932a91794e"), looks := true }, kinds := [], alts := [], laidByText := true, laidKinds := [.handle], laidTests := true, laidLooks := .later }
def BlockReadsCardSaid : Prop := Claim7.holds Tryz.pinned (.plain (OpenSpec.ofChange blockReadsSpec)) blockReadsCard

/-- THE TIED CARD OF 'fairleadlaw05.BlockTells'. -/
def blockTellsCard : Claim7 := { stood := { row := blockTellsRow, standIns := [], harness := (true, "c6a4ece2f06bba03ff028f09c6a67dbce7dc4bd8d72a40057461a4932a91794e"), looks := true }, kinds := [], alts := [], laidByText := true, laidKinds := [.handle, .sentinel, .sentinel, .sentinel, .sentinel], laidTests := true, laidLooks := .later }
def BlockTellsCardSaid : Prop := Claim7.holds Tryz.pinned (.plain (OpenSpec.ofChange blockTellsSpec)) blockTellsCard

/-- THE TIED CARD OF 'fairleadlaw05.BlockMakes'. -/
def blockMakesCard : Claim7 := { stood := { row := blockMakesRow, standIns := [], harness := (true, "c6a4ece2f06bba03ff028f09c6a67dbce7dc4bd8d72a40057461a4932a91794e"), looks := true }, kinds := [], alts := [], laidByText := true, laidKinds := [.handle, .sentinel, .sentinel, .sentinel, .sentinel], laidTests := true, laidLooks := .later }
def BlockMakesCardSaid : Prop := Claim7.holds Tryz.pinned (.plain (OpenSpec.ofChange blockMakesSpec)) blockMakesCard

/-- THE TIED CARD OF 'fairleadlaw06.BundleWrites'. -/
def bundleWritesCard : Claim7 := { stood := { row := bundleWritesRow, standIns := [], harness := (true, "c6a4ece2f06bba03ff028f09c6a67dbce7dc4bd8d72a40057461a4932a91794e"), looks := true }, kinds := [], alts := [], laidByText := true, laidKinds := [.handle, .sentinel, .sentinel, .sentinel, .sentinel], laidTests := true, laidLooks := .later }
def BundleWritesCardSaid : Prop := Claim7.holds Tryz.pinned (.plain (OpenSpec.ofChange bundleWritesSpec)) bundleWritesCard

/-- THE TIED CARD OF 'fairleadlaw09.IpptGrows'. -/
def ipptGrowsCard : Claim7 := { stood := { row := ipptGrowsRow, standIns := [], harness := (true, "c6a4ece2f06bba03ff028f09c6a67dbce7dc4bd8d72a40057461a4932a91794e"), looks := true }, kinds := [], alts := [], laidByText := true, laidKinds := [.handle, .sentinel, .sentinel, .sentinel, .sentinel], laidTests := true, laidLooks := .later }
def IpptGrowsCardSaid : Prop := Claim7.holds Tryz.pinned (.plain (OpenSpec.ofChange ipptGrowsSpec)) ipptGrowsCard

/-- THE TIED CARD OF 'fairleadlaw09.IpptPlain'. -/
def ipptPlainCard : Claim7 := { stood := { row := ipptPlainRow, standIns := [], harness := (true, "c6a4ece2f06bba03ff028f09c6a67dbce7dc4bd8d72a40057461a4932a91794e"), looks := true }, kinds := [], alts := [], laidByText := true, laidKinds := [.handle, .sentinel, .sentinel, .sentinel, .sentinel], laidTests := true, laidLooks := .later }
def IpptPlainCardSaid : Prop := Claim7.holds Tryz.pinned (.plain (OpenSpec.ofChange ipptPlainSpec)) ipptPlainCard

/-- THE TIED CARD OF 'fairleadlaw09.IpptCovers'. -/
def ipptCoversCard : Claim7 := { stood := { row := ipptCoversRow, standIns := [], harness := (true, "c6a4ece2f06bba03ff028f09c6a67dbce7dc4bd8d72a40057461a4932a91794e"), looks := true }, kinds := [], alts := [], laidByText := true, laidKinds := [.handle, .sentinel, .sentinel, .sentinel, .sentinel], laidTests := true, laidLooks := .later }
def IpptCoversCardSaid : Prop := Claim7.holds Tryz.pinned (.plain (OpenSpec.ofChange ipptCoversSpec)) ipptCoversCard

/-- THE TIED CARD OF 'fairleadlaw09.IpptOthers'. -/
def ipptOthersCard : Claim7 := { stood := { row := ipptOthersRow, standIns := [], harness := (true, "c6a4ece2f06bba03ff028f09c6a67dbce7dc4bd8d72a40057461a4932a91794e"), looks := true }, kinds := [], alts := [], laidByText := true, laidKinds := [.handle, .sentinel, .sentinel, .sentinel, .sentinel], laidTests := true, laidLooks := .later }
def IpptOthersCardSaid : Prop := Claim7.holds Tryz.pinned (.plain (OpenSpec.ofChange ipptOthersSpec)) ipptOthersCard

/-- THE SECOND FORM's CARD OF 'fairleadlaw04.EidTells'. -/
def eidTellsUptoCard : Claim7 := { stood := { row := eidTellsUptoRow, standIns := [], harness := (true, "c6a4ece2f06bba03ff028f09c6a67dbce7dc4bd8d72a40057461a4932a91794e"), looks := true }, kinds := [], alts := [], laidByText := true, laidKinds := [.data, .data, .data, .sentinel, .sentinel, .sentinel, .sentinel, .sentinel, .sentinel], laidTests := true, laidLooks := .later }
def EidTellsUptoCardSaid : Prop := Claim7.holds Tryz.pinned (.plain (OpenSpec.upto eidTellsSpec)) eidTellsUptoCard

/-- THE SECOND FORM's CARD OF 'fairleadlaw04.EidReads'. -/
def eidReadsUptoCard : Claim7 := { stood := { row := eidReadsUptoRow, standIns := [], harness := (true, "c6a4ece2f06bba03ff028f09c6a67dbce7dc4bd8d72a40057461a4932a91794e"), looks := true }, kinds := [], alts := [], laidByText := true, laidKinds := [.data, .data, .data, .sentinel, .sentinel, .sentinel, .sentinel, .sentinel, .sentinel], laidTests := true, laidLooks := .later }
def EidReadsUptoCardSaid : Prop := Claim7.holds Tryz.pinned (.plain (OpenSpec.upto eidReadsSpec)) eidReadsUptoCard

/-- THE SECOND FORM's CARD OF 'fairleadlaw05.BlockReads'. -/
def blockReadsUptoCard : Claim7 := { stood := { row := blockReadsUptoRow, standIns := [], harness := (true, "c6a4ece2f06bba03ff028f09c6a67dbce7dc4bd8d72a40057461a4932a91794e"), looks := true }, kinds := [], alts := [], laidByText := true, laidKinds := [.handle], laidTests := true, laidLooks := .later }
def BlockReadsUptoCardSaid : Prop := Claim7.holds Tryz.pinned (.plain (OpenSpec.upto blockReadsSpec)) blockReadsUptoCard

/-- THE SECOND FORM's CARD OF 'fairleadlaw05.BlockTells'. -/
def blockTellsUptoCard : Claim7 := { stood := { row := blockTellsUptoRow, standIns := [], harness := (true, "c6a4ece2f06bba03ff028f09c6a67dbce7dc4bd8d72a40057461a4932a91794e"), looks := true }, kinds := [], alts := [], laidByText := true, laidKinds := [.handle, .sentinel, .sentinel, .sentinel, .sentinel], laidTests := true, laidLooks := .later }
def BlockTellsUptoCardSaid : Prop := Claim7.holds Tryz.pinned (.plain (OpenSpec.upto blockTellsSpec)) blockTellsUptoCard

/-- THE SECOND FORM's CARD OF 'fairleadlaw05.BlockMakes'. -/
def blockMakesUptoCard : Claim7 := { stood := { row := blockMakesUptoRow, standIns := [], harness := (true, "c6a4ece2f06bba03ff028f09c6a67dbce7dc4bd8d72a40057461a4932a91794e"), looks := true }, kinds := [], alts := [], laidByText := true, laidKinds := [.handle, .sentinel, .sentinel, .sentinel, .sentinel], laidTests := true, laidLooks := .later }
def BlockMakesUptoCardSaid : Prop := Claim7.holds Tryz.pinned (.plain (OpenSpec.upto blockMakesSpec)) blockMakesUptoCard

/-- THE SECOND FORM's CARD OF 'fairleadlaw06.BundleWrites'. -/
def bundleWritesUptoCard : Claim7 := { stood := { row := bundleWritesUptoRow, standIns := [], harness := (true, "c6a4ece2f06bba03ff028f09c6a67dbce7dc4bd8d72a40057461a4932a91794e"), looks := true }, kinds := [], alts := [], laidByText := true, laidKinds := [.handle, .sentinel, .sentinel, .sentinel, .sentinel], laidTests := true, laidLooks := .later }
def BundleWritesUptoCardSaid : Prop := Claim7.holds Tryz.pinned (.plain (OpenSpec.upto bundleWritesSpec)) bundleWritesUptoCard

/-- THE SECOND FORM's CARD OF 'fairleadlaw09.IpptGrows'. -/
def ipptGrowsUptoCard : Claim7 := { stood := { row := ipptGrowsUptoRow, standIns := [], harness := (true, "c6a4ece2f06bba03ff028f09c6a67dbce7dc4bd8d72a40057461a4932a91794e"), looks := true }, kinds := [], alts := [], laidByText := true, laidKinds := [.handle, .sentinel, .sentinel, .sentinel, .sentinel], laidTests := true, laidLooks := .later }
def IpptGrowsUptoCardSaid : Prop := Claim7.holds Tryz.pinned (.plain (OpenSpec.upto ipptGrowsSpec)) ipptGrowsUptoCard

/-- THE SECOND FORM's CARD OF 'fairleadlaw09.IpptPlain'. -/
def ipptPlainUptoCard : Claim7 := { stood := { row := ipptPlainUptoRow, standIns := [], harness := (true, "c6a4ece2f06bba03ff028f09c6a67dbce7dc4bd8d72a40057461a4932a91794e"), looks := true }, kinds := [], alts := [], laidByText := true, laidKinds := [.handle, .sentinel, .sentinel, .sentinel, .sentinel], laidTests := true, laidLooks := .later }
def IpptPlainUptoCardSaid : Prop := Claim7.holds Tryz.pinned (.plain (OpenSpec.upto ipptPlainSpec)) ipptPlainUptoCard

/-- THE SECOND FORM's CARD OF 'fairleadlaw09.IpptCovers'. -/
def ipptCoversUptoCard : Claim7 := { stood := { row := ipptCoversUptoRow, standIns := [], harness := (true, "c6a4ece2f06bba03ff028f09c6a67dbce7dc4bd8d72a40057461a4932a91794e"), looks := true }, kinds := [], alts := [], laidByText := true, laidKinds := [.handle, .sentinel, .sentinel, .sentinel, .sentinel], laidTests := true, laidLooks := .later }
def IpptCoversUptoCardSaid : Prop := Claim7.holds Tryz.pinned (.plain (OpenSpec.upto ipptCoversSpec)) ipptCoversUptoCard

/-- THE SECOND FORM's CARD OF 'fairleadlaw09.IpptOthers'. -/
def ipptOthersUptoCard : Claim7 := { stood := { row := ipptOthersUptoRow, standIns := [], harness := (true, "c6a4ece2f06bba03ff028f09c6a67dbce7dc4bd8d72a40057461a4932a91794e"), looks := true }, kinds := [], alts := [], laidByText := true, laidKinds := [.handle, .sentinel, .sentinel, .sentinel, .sentinel], laidTests := true, laidLooks := .later }
def IpptOthersUptoCardSaid : Prop := Claim7.holds Tryz.pinned (.plain (OpenSpec.upto ipptOthersSpec)) ipptOthersUptoCard
end Rows
end Go.Proofs.YtlecbblmaadpiaaGreatDoor
