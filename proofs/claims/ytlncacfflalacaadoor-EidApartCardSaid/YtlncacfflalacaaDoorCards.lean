/-
  DERIVED. GIVEN WITH THE SEED: THE CARDS: each row of YtlncacfflalacaaDoorRows.lean that lists a variable, with what it lists TIED to the program's text (the seventh form; the later family's looks); each row that meets fmt, with fmt's text TOLD by the authors' own Lean function (tested against real Go, not proved from fmt's source: count such statements apart). THE CARD IS WHAT COUNTS. Prove the row's statement (the work); the ties are given (YtlncacfflalacaaDoorTie.lean); close each card by the builder's one call (the guide's Derived/Test/ToyasCard.lean, 'card_holds'). Laid BY PROGRAM, IN A SANDBOX (cutbox-door.mjs). By AI agents, Wed Nov 11 2026. No macro, syntax, notation, axiom, sorry.
-/
import Derived.Test.YtlncacfflalacaaDoorRows
import GoSem.ClaimSeven
namespace Go.Proofs.YtlncacfflalacaaDoor
namespace Rows

/-- THE TIED CARD OF 'fairleadlaw04.EidHome'. -/
def eidHomeCard : Claim7 := { stood := { row := eidHomeRow, standIns := [], harness := (true, "5a25a57bd8081b872d8783fb9b88480797be4c85b3c005b65e453aa09bcbbca7"), looks := true }, kinds := [], alts := [], laidByText := true, laidKinds := [.data, .data, .data, .sentinel, .sentinel, .sentinel, .sentinel, .sentinel, .sentinel], laidTests := true, laidLooks := .later }
def EidHomeCardSaid : Prop := Claim7.holds Tryd.pinned (.plain (OpenSpec.ofChange eidHomeSpec)) eidHomeCard

/-- THE TIED CARD OF 'fairleadlaw04.EidBack'. -/
def eidBackCard : Claim7 := { stood := { row := eidBackRow, standIns := [], harness := (true, "5a25a57bd8081b872d8783fb9b88480797be4c85b3c005b65e453aa09bcbbca7"), looks := true }, kinds := [], alts := [], laidByText := true, laidKinds := [.data, .data, .data, .sentinel, .sentinel, .sentinel, .sentinel, .sentinel, .sentinel], laidTests := true, laidLooks := .later }
def EidBackCardSaid : Prop := Claim7.holds Tryd.pinned (.plain (OpenSpec.ofChange eidBackSpec)) eidBackCard

/-- THE TIED CARD OF 'fairleadlaw04.EidApart'. -/
def eidApartCard : Claim7 := { stood := { row := eidApartRow, standIns := [], harness := (true, "5a25a57bd8081b872d8783fb9b88480797be4c85b3c005b65e453aa09bcbbca7"), looks := true }, kinds := [], alts := [], laidByText := true, laidKinds := [.data, .data, .data, .sentinel, .sentinel, .sentinel, .sentinel, .sentinel, .sentinel], laidTests := true, laidLooks := .later }
def EidApartCardSaid : Prop := Claim7.holds Tryd.pinned (.plain (OpenSpec.ofChange eidApartSpec)) eidApartCard

/-- THE TIED CARD OF 'fairleadlaw04.EidNode'. -/
def eidNodeCard : Claim7 := { stood := { row := eidNodeRow, standIns := [], harness := (true, "5a25a57bd8081b872d8783fb9b88480797be4c85b3c005b65e453aa09bcbbca7"), looks := true }, kinds := [], alts := [], laidByText := true, laidKinds := [.data, .data, .data, .sentinel, .sentinel, .sentinel, .sentinel, .sentinel, .sentinel], laidTests := true, laidLooks := .later }
def EidNodeCardSaid : Prop := Claim7.holds Tryd.pinned (.plain (OpenSpec.ofChange eidNodeSpec)) eidNodeCard

/-- THE SECOND FORM's CARD OF 'fairleadlaw04.EidHome'. -/
def eidHomeUptoCard : Claim7 := { stood := { row := eidHomeUptoRow, standIns := [], harness := (true, "5a25a57bd8081b872d8783fb9b88480797be4c85b3c005b65e453aa09bcbbca7"), looks := true }, kinds := [], alts := [], laidByText := true, laidKinds := [.data, .data, .data, .sentinel, .sentinel, .sentinel, .sentinel, .sentinel, .sentinel], laidTests := true, laidLooks := .later }
def EidHomeUptoCardSaid : Prop := Claim7.holds Tryd.pinned (.plain (OpenSpec.upto eidHomeSpec)) eidHomeUptoCard

/-- THE SECOND FORM's CARD OF 'fairleadlaw04.EidBack'. -/
def eidBackUptoCard : Claim7 := { stood := { row := eidBackUptoRow, standIns := [], harness := (true, "5a25a57bd8081b872d8783fb9b88480797be4c85b3c005b65e453aa09bcbbca7"), looks := true }, kinds := [], alts := [], laidByText := true, laidKinds := [.data, .data, .data, .sentinel, .sentinel, .sentinel, .sentinel, .sentinel, .sentinel], laidTests := true, laidLooks := .later }
def EidBackUptoCardSaid : Prop := Claim7.holds Tryd.pinned (.plain (OpenSpec.upto eidBackSpec)) eidBackUptoCard

/-- THE SECOND FORM's CARD OF 'fairleadlaw04.EidApart'. -/
def eidApartUptoCard : Claim7 := { stood := { row := eidApartUptoRow, standIns := [], harness := (true, "5a25a57bd8081b872d8783fb9b88480797be4c85b3c005b65e453aa09bcbbca7"), looks := true }, kinds := [], alts := [], laidByText := true, laidKinds := [.data, .data, .data, .sentinel, .sentinel, .sentinel, .sentinel, .sentinel, .sentinel], laidTests := true, laidLooks := .later }
def EidApartUptoCardSaid : Prop := Claim7.holds Tryd.pinned (.plain (OpenSpec.upto eidApartSpec)) eidApartUptoCard

/-- THE SECOND FORM's CARD OF 'fairleadlaw04.EidNode'. -/
def eidNodeUptoCard : Claim7 := { stood := { row := eidNodeUptoRow, standIns := [], harness := (true, "5a25a57bd8081b872d8783fb9b88480797be4c85b3c005b65e453aa09bcbbca7"), looks := true }, kinds := [], alts := [], laidByText := true, laidKinds := [.data, .data, .data, .sentinel, .sentinel, .sentinel, .sentinel, .sentinel, .sentinel], laidTests := true, laidLooks := .later }
def EidNodeUptoCardSaid : Prop := Claim7.holds Tryd.pinned (.plain (OpenSpec.upto eidNodeSpec)) eidNodeUptoCard
end Rows
end Go.Proofs.YtlncacfflalacaaDoor
