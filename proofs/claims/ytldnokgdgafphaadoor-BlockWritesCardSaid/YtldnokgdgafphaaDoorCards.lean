/-
  DERIVED. GIVEN WITH THE SEED: THE CARDS: each row of YtldnokgdgafphaaDoorRows.lean that lists a variable, with what it lists TIED to the program's text (the seventh form; the later family's looks); each row that meets fmt, with fmt's text TOLD by the authors' own Lean function (tested against real Go, not proved from fmt's source: count such statements apart). THE CARD IS WHAT COUNTS. Prove the row's statement (the work); the ties are given (YtldnokgdgafphaaDoorTie.lean); close each card by the builder's one call (the guide's Derived/Test/ToyasCard.lean, 'card_holds'). Laid BY PROGRAM, IN A SANDBOX (cutbox-door.mjs). By AI agents, Wed Nov 11 2026. No macro, syntax, notation, axiom, sorry.
-/
import Derived.Test.YtldnokgdgafphaaDoorRows
import GoSem.ClaimSeven
namespace Go.Proofs.YtldnokgdgafphaaDoor
namespace Rows

/-- THE TIED CARD OF 'fairleadlaw05.BlockWrites'. -/
def blockWritesCard : Claim7 := { stood := { row := blockWritesRow, standIns := [], harness := (true, "af5d3cc0d17c4446c1f99a9a1d7f1a5c7c1f722aedd8bbff17c38c57a6d98832"), looks := true }, kinds := [], alts := [], laidByText := true, laidKinds := [.handle], laidTests := true, laidLooks := .later }
def BlockWritesCardSaid : Prop := Claim7.holds Tryd.pinned (.plain (OpenSpec.ofChange blockWritesSpec)) blockWritesCard

/-- THE SECOND FORM's CARD OF 'fairleadlaw05.BlockWrites'. -/
def blockWritesUptoCard : Claim7 := { stood := { row := blockWritesUptoRow, standIns := [], harness := (true, "af5d3cc0d17c4446c1f99a9a1d7f1a5c7c1f722aedd8bbff17c38c57a6d98832"), looks := true }, kinds := [], alts := [], laidByText := true, laidKinds := [.handle], laidTests := true, laidLooks := .later }
def BlockWritesUptoCardSaid : Prop := Claim7.holds Tryd.pinned (.plain (OpenSpec.upto blockWritesSpec)) blockWritesUptoCard
end Rows
end Go.Proofs.YtldnokgdgafphaaDoor
