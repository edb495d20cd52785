/-
  NARROWER THAN 'FOR EVERY INPUT', by the rows' own cells (each row's printed sentence says how): BibTags: laid.
  DERIVED. THE GIVEN ROWS OF THIS SEAT. 1 by the template 'for every input the law returns true; each argument reads behind the call as it read before'; 0 by the template 'total and deterministic' (their statements: YtbnfkjkoinbkgaaGreatDoorTotals.lean).
  GIVEN WITH THE SEED: the statements are not yours to turn. If you find one false, say at which input.
  Laid BY PROGRAM, IN A SANDBOX (cutbox-rows.mjs): the forced cells as the released guide's own fill.sh prints them over the translation e1a1b1801f970831… (all of the seat's roots in one cut). By AI agents, Wed Nov 11 2026. No macro, syntax, notation, axiom, sorry.
-/
import Derived.Test.YtbnfkjkoinbkgaaGreatDoorChecked
import GoSem.Claim
import GoSem.ClaimJoined
import GoSem.ClaimMapViews
import Derived.JoinedTies
import Derived.KernelRfl
namespace Go.Proofs.YtbnfkjkoinbkgaaGreatDoor
/- THE CELL 'sum', in the pinned program and in every row, IS THE sha256 OF THE DUMP (.gsa) THAT YtbnfkjkoinbkgaaGreatDoorProg.lean LOADS. Nothing in Lean hashes anything: it is a label: what it is worth is what the hold of that sum in a sandbox is worth. -/
noncomputable def Tryz.pinned : Pinned := { name := "ytbnfkjkoinbkgaagreatdoor", sum := "e1a1b1801f9708318165264fff5ae7005e6302e31aa5db25e964b751d4d8a9a7", checked := Tryz.checked }
namespace Rows
def none {H : Type} : Left H := { results := [], args := [] }

/- WHAT THE LISTED PACKAGE-LEVEL VARIABLES READ AS WHEN THE CALL BEGINS. Each datum BY PROGRAM (the guide's laid-datum.mjs) off the statement by which the dump's own 'gosem.cut.vars' lays the variable. In a bare row this is a premise. The card (YtbnfkjkoinbkgaaGreatDoorCards.lean) ties it to the program's text. -/
def laid_errors_errorType {H : Type} : DataW H := .iface "internal/reflectlite.rtype" (.agg [.ptr (.lit (.string [101, 114, 114, 111, 114]))])
def laid_fairlead_eid_errScheme {H : Type} : DataW H := .iface "*errors.errorString" (.ptr (.agg [.lit (.string [110, 111, 32, 115, 117, 99, 104, 32, 115, 99, 104, 101, 109, 101])]))
def laid_fairlead_eid_errName {H : Type} : DataW H := .iface "*errors.errorString" (.ptr (.agg [.lit (.string [97, 32, 110, 97, 109, 101, 32, 116, 104, 97, 116, 32, 109, 97, 121, 32, 110, 111, 116, 32, 98, 101])]))
def laid_fairlead_eid_errNumber {H : Type} : DataW H := .iface "*errors.errorString" (.ptr (.agg [.lit (.string [97, 32, 110, 117, 109, 98, 101, 114, 32, 116, 104, 97, 116, 32, 109, 97, 121, 32, 110, 111, 116, 32, 98, 101])]))
def laid_fairlead_eid_errForm {H : Type} : DataW H := .iface "*errors.errorString" (.ptr (.agg [.lit (.string [97, 110, 111, 116, 104, 101, 114, 32, 102, 111, 114, 109, 32, 116, 104, 97, 110, 32, 116, 104, 101, 32, 101, 110, 100, 112, 111, 105, 110, 116, 39, 115])]))
def laid_fairlead_bib_errTarget {H : Type} : DataW H := .iface "*errors.errorString" (.ptr (.agg [.lit (.string [110, 111, 32, 105, 110, 116, 101, 103, 114, 105, 116, 121, 32, 98, 108, 111, 99, 107])]))
def laid_fairlead_bib_errTag {H : Type} : DataW H := .iface "*errors.errorString" (.ptr (.agg [.lit (.string [97, 32, 116, 97, 103, 32, 116, 104, 97, 116, 32, 105, 115, 32, 119, 114, 111, 110, 103])]))

/-- 'fairleadlaw10.BibTags': WHATEVER THE INPUT: true; the input reads as it did. -/
def bibTagsSpec : ChangeSpec := { name := "bibTags", fn := fun _ => fun
  | [d1, d2, d3] => { results := [.lit (.bool true)], args := [d1, d2, d3] }
  | _ => none }
def bibTagsRow : OpenClaim := { program := "ytbnfkjkoinbkgaagreatdoor", sum := "e1a1b1801f9708318165264fff5ae7005e6302e31aa5db25e964b751d4d8a9a7", func := "fairlead/fairleadlaw10.BibTags", spec := "bibTags", inPlace := ["internal/bytealg.IndexByteString", "internal/bytealg.IndexString", "internal/reflectlite.TypeOf", "internal/reflectlite.ValueOf", "(internal/reflectlite.Value).Type", "(internal/reflectlite.Value).IsNil", "(internal/reflectlite.Value).Elem", "(internal/reflectlite.Value).Set"], unfollowed := true, recurses := true, named := ["fairlead/eid.errScheme", "fairlead/eid.errNumber", "fairlead/eid.errName", "internal/bytealg.MaxLen", "fairlead/eid.errForm", "errors.errorType", "fairlead/bib.errTarget", "fairlead/bib.errTag"], apart := false, laid := [("errors.errorType", laid_errors_errorType), ("fairlead/eid.errScheme", laid_fairlead_eid_errScheme), ("fairlead/eid.errName", laid_fairlead_eid_errName), ("fairlead/eid.errNumber", laid_fairlead_eid_errNumber), ("fairlead/eid.errForm", laid_fairlead_eid_errForm), ("fairlead/bib.errTarget", laid_fairlead_bib_errTarget), ("fairlead/bib.errTag", laid_fairlead_bib_errTag)] }
def BibTagsSaid : Prop := bibTagsRow.holds Tryz.pinned (OpenSpec.ofChange bibTagsSpec)

/-- ITS FALSE NEIGHBOUR: 'it returns false'. Refute it at one input. -/
def bibTagsWrong : ChangeSpec := { name := "bibTags", fn := fun _ => fun
  | [d1, d2, d3] => { results := [.lit (.bool false)], args := [d1, d2, d3] }
  | _ => none }
def BibTagsWrongFalsely : Prop := bibTagsRow.holds Tryz.pinned (OpenSpec.ofChange bibTagsWrong)

/- THE SECOND FORM. 'bulk': how many values and letters a reading holds, each counted each time it is reached (what is shared counts as often as it is met; a slice's spare places count too). A statement '..UptoSaid' is the law's where the arguments, and the package variables that the reading takes, are together of bulk at most 1048576: NARROWER than '..Said'. Prove '..Said' where nothing that the law and all that it calls make is longer than what came in: it says more and counts as full. Else prove '..UptoSaid'. A law counts once. -/
mutual
def uptoBulk {H : Type} : DataW H → Nat
  | .lit (.string bytes) => bytes.length + 1
  | .lit _ => 1
  | .nil => 1
  | .ptr d => uptoBulk d + 1
  | .slice elems spare => uptoBulkAll elems + uptoBulkAll spare + 1
  | .agg parts => uptoBulkAll parts + 1
  | .iface _ d => uptoBulk d + 1
  | .map entries => uptoBulkEntries entries + 1
  | .held _ => 1
def uptoBulkAll {H : Type} : List (DataW H) → Nat
  | [] => 0
  | d :: r => uptoBulk d + uptoBulkAll r
def uptoBulkEntries {H : Type} : List (Lit × DataW H) → Nat
  | [] => 0
  | x :: r => uptoBulkEntry x + uptoBulkEntries r
def uptoBulkEntry {H : Type} : Lit × DataW H → Nat
  | (.string bytes, d) => bytes.length + uptoBulk d + 1
  | (_, d) => uptoBulk d + 1
 end
def uptoSmall : (H : Type) → List (DataW H) → Bool := fun _ ds => decide (uptoBulkAll ds ≤ 1048576)
def OpenSpec.upto (s : _root_.Go.ChangeSpec) : _root_.Go.OpenSpec := { _root_.Go.OpenSpec.ofChange s with cond := some uptoSmall }

/-- 'fairleadlaw10.BibTags', WHERE WHAT IT READS IS OF BULK AT MOST 1048576: true; the input reads as it did. -/
def bibTagsUptoRow : OpenClaim := { program := "ytbnfkjkoinbkgaagreatdoor", sum := "e1a1b1801f9708318165264fff5ae7005e6302e31aa5db25e964b751d4d8a9a7", func := "fairlead/fairleadlaw10.BibTags", spec := "bibTags", inPlace := ["internal/bytealg.IndexByteString", "internal/bytealg.IndexString", "internal/reflectlite.TypeOf", "internal/reflectlite.ValueOf", "(internal/reflectlite.Value).Type", "(internal/reflectlite.Value).IsNil", "(internal/reflectlite.Value).Elem", "(internal/reflectlite.Value).Set"], unfollowed := true, recurses := true, named := ["fairlead/eid.errScheme", "fairlead/eid.errNumber", "fairlead/eid.errName", "internal/bytealg.MaxLen", "fairlead/eid.errForm", "errors.errorType", "fairlead/bib.errTarget", "fairlead/bib.errTag"], apart := false, laid := [("errors.errorType", laid_errors_errorType), ("fairlead/eid.errScheme", laid_fairlead_eid_errScheme), ("fairlead/eid.errName", laid_fairlead_eid_errName), ("fairlead/eid.errNumber", laid_fairlead_eid_errNumber), ("fairlead/eid.errForm", laid_fairlead_eid_errForm), ("fairlead/bib.errTarget", laid_fairlead_bib_errTarget), ("fairlead/bib.errTag", laid_fairlead_bib_errTag)], narrowed := true }
def BibTagsUptoSaid : Prop := bibTagsUptoRow.holds Tryz.pinned (OpenSpec.upto bibTagsSpec)

end Rows
end Go.Proofs.YtbnfkjkoinbkgaaGreatDoor
