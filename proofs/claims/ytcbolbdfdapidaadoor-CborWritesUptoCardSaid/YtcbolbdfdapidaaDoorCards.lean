/-
  DERIVED. GIVEN WITH THE SEED: THE CARDS: each row of YtcbolbdfdapidaaDoorRows.lean that lists a variable, with what it lists TIED to the program's text (the seventh form; the later family's looks); each row that meets fmt, with fmt's text TOLD by the authors' own Lean function (tested against real Go, not proved from fmt's source: count such statements apart). THE CARD IS WHAT COUNTS. Prove the row's statement (the work); the ties are given (YtcbolbdfdapidaaDoorTie.lean); close each card by the builder's one call (the guide's Derived/Test/ToyasCard.lean, 'card_holds'). Laid BY PROGRAM, IN A SANDBOX (cutbox-door.mjs). By AI agents, Wed Nov 11 2026. No macro, syntax, notation, axiom, sorry.
-/
import Derived.Test.YtcbolbdfdapidaaDoorRows
import GoSem.ClaimSeven
namespace Go.Proofs.YtcbolbdfdapidaaDoor
namespace Rows

/-- THE TIED CARD OF 'fairleadlaw03.CborWrites'. -/
def cborWritesCard : Claim7 := { stood := { row := cborWritesRow, standIns := [], harness := (true, "e0c1cd6ef9fdf033823d03fb2bbc95d512ed91ab1dc9b31a178fa81381b752bb"), looks := true }, kinds := [], alts := [], laidByText := true, laidKinds := [.handle], laidTests := true, laidLooks := .later }
def CborWritesCardSaid : Prop := Claim7.holds Tryd.pinned (.plain (OpenSpec.ofChange cborWritesSpec)) cborWritesCard

/-- THE TIED CARD OF 'fairleadlaw03.CborBack'. -/
def cborBackCard : Claim7 := { stood := { row := cborBackRow, standIns := [], harness := (true, "e0c1cd6ef9fdf033823d03fb2bbc95d512ed91ab1dc9b31a178fa81381b752bb"), looks := true }, kinds := [], alts := [], laidByText := true, laidKinds := [.handle], laidTests := true, laidLooks := .later }
def CborBackCardSaid : Prop := Claim7.holds Tryd.pinned (.plain (OpenSpec.ofChange cborBackSpec)) cborBackCard

/-- THE TIED CARD OF 'fairleadlaw03.CborAgain'. -/
def cborAgainCard : Claim7 := { stood := { row := cborAgainRow, standIns := [], harness := (true, "e0c1cd6ef9fdf033823d03fb2bbc95d512ed91ab1dc9b31a178fa81381b752bb"), looks := true }, kinds := [], alts := [], laidByText := true, laidKinds := [.handle], laidTests := true, laidLooks := .later }
def CborAgainCardSaid : Prop := Claim7.holds Tryd.pinned (.plain (OpenSpec.ofChange cborAgainSpec)) cborAgainCard

/-- THE TIED CARD OF 'fairleadlaw03.CborPrefix'. -/
def cborPrefixCard : Claim7 := { stood := { row := cborPrefixRow, standIns := [], harness := (true, "e0c1cd6ef9fdf033823d03fb2bbc95d512ed91ab1dc9b31a178fa81381b752bb"), looks := true }, kinds := [], alts := [], laidByText := true, laidKinds := [.handle], laidTests := true, laidLooks := .later }
def CborPrefixCardSaid : Prop := Claim7.holds Tryd.pinned (.plain (OpenSpec.ofChange cborPrefixSpec)) cborPrefixCard

/-- THE TIED CARD OF 'fairleadlaw03.CborHeads'. -/
def cborHeadsCard : Claim7 := { stood := { row := cborHeadsRow, standIns := [], harness := (true, "e0c1cd6ef9fdf033823d03fb2bbc95d512ed91ab1dc9b31a178fa81381b752bb"), looks := true }, kinds := [], alts := [], laidByText := true, laidKinds := [.handle], laidTests := true, laidLooks := .later }
def CborHeadsCardSaid : Prop := Claim7.holds Tryd.pinned (.plain (OpenSpec.ofChange cborHeadsSpec)) cborHeadsCard

/-- THE SECOND FORM's CARD OF 'fairleadlaw03.CborWrites'. -/
def cborWritesUptoCard : Claim7 := { stood := { row := cborWritesUptoRow, standIns := [], harness := (true, "e0c1cd6ef9fdf033823d03fb2bbc95d512ed91ab1dc9b31a178fa81381b752bb"), looks := true }, kinds := [], alts := [], laidByText := true, laidKinds := [.handle], laidTests := true, laidLooks := .later }
def CborWritesUptoCardSaid : Prop := Claim7.holds Tryd.pinned (.plain (OpenSpec.upto cborWritesSpec)) cborWritesUptoCard

/-- THE SECOND FORM's CARD OF 'fairleadlaw03.CborBack'. -/
def cborBackUptoCard : Claim7 := { stood := { row := cborBackUptoRow, standIns := [], harness := (true, "e0c1cd6ef9fdf033823d03fb2bbc95d512ed91ab1dc9b31a178fa81381b752bb"), looks := true }, kinds := [], alts := [], laidByText := true, laidKinds := [.handle], laidTests := true, laidLooks := .later }
def CborBackUptoCardSaid : Prop := Claim7.holds Tryd.pinned (.plain (OpenSpec.upto cborBackSpec)) cborBackUptoCard

/-- THE SECOND FORM's CARD OF 'fairleadlaw03.CborAgain'. -/
def cborAgainUptoCard : Claim7 := { stood := { row := cborAgainUptoRow, standIns := [], harness := (true, "e0c1cd6ef9fdf033823d03fb2bbc95d512ed91ab1dc9b31a178fa81381b752bb"), looks := true }, kinds := [], alts := [], laidByText := true, laidKinds := [.handle], laidTests := true, laidLooks := .later }
def CborAgainUptoCardSaid : Prop := Claim7.holds Tryd.pinned (.plain (OpenSpec.upto cborAgainSpec)) cborAgainUptoCard

/-- THE SECOND FORM's CARD OF 'fairleadlaw03.CborPrefix'. -/
def cborPrefixUptoCard : Claim7 := { stood := { row := cborPrefixUptoRow, standIns := [], harness := (true, "e0c1cd6ef9fdf033823d03fb2bbc95d512ed91ab1dc9b31a178fa81381b752bb"), looks := true }, kinds := [], alts := [], laidByText := true, laidKinds := [.handle], laidTests := true, laidLooks := .later }
def CborPrefixUptoCardSaid : Prop := Claim7.holds Tryd.pinned (.plain (OpenSpec.upto cborPrefixSpec)) cborPrefixUptoCard

/-- THE SECOND FORM's CARD OF 'fairleadlaw03.CborHeads'. -/
def cborHeadsUptoCard : Claim7 := { stood := { row := cborHeadsUptoRow, standIns := [], harness := (true, "e0c1cd6ef9fdf033823d03fb2bbc95d512ed91ab1dc9b31a178fa81381b752bb"), looks := true }, kinds := [], alts := [], laidByText := true, laidKinds := [.handle], laidTests := true, laidLooks := .later }
def CborHeadsUptoCardSaid : Prop := Claim7.holds Tryd.pinned (.plain (OpenSpec.upto cborHeadsSpec)) cborHeadsUptoCard
end Rows
end Go.Proofs.YtcbolbdfdapidaaDoor
