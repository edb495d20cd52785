/-
  NARROWER THAN 'FOR EVERY INPUT', by the rows' own cells (each row's printed sentence says how): WalKeeps: laid · WalApart: laid · WalFits: laid · WalNobody: laid.
  DERIVED. THE GIVEN ROWS OF THIS SEAT. 4 by the template 'for every input the law returns true; each argument reads behind the call as it read before'; 0 by the template 'total and deterministic' (their statements: YtahgaogmcffglaaDoorTotals.lean).
  GIVEN WITH THE SEED: the statements are not yours to turn. If you find one false, say at which input.
  Laid BY PROGRAM, IN A SANDBOX (cutbox-rows.mjs): the forced cells as the released guide's own fill.sh prints them over the translation f786b0801f4639c2… (all of the seat's roots in one cut). By AI agents, Wed Nov 11 2026. No macro, syntax, notation, axiom, sorry.
-/
import Derived.Test.YtahgaogmcffglaaDoorChecked
import GoSem.Claim
import GoSem.ClaimJoined
import GoSem.ClaimMapViews
import Derived.JoinedTies
import Derived.KernelRfl
namespace Go.Proofs.YtahgaogmcffglaaDoor
/- THE CELL 'sum', in the pinned program and in every row, IS THE sha256 OF THE DUMP (.gsa) THAT YtahgaogmcffglaaDoorProg.lean LOADS. Nothing in Lean hashes anything: it is a label: what it is worth is what the hold of that sum in a sandbox is worth. -/
noncomputable def Tryd.pinned : Pinned := { name := "ytahgaogmcffglaadoor", sum := "f786b0801f4639c289f859beb29a216c858ca606e79db23495a64969b3e2e443", checked := Tryd.checked }
namespace Rows
def none {H : Type} : Left H := { results := [], args := [] }

/- WHAT THE LISTED PACKAGE-LEVEL VARIABLES READ AS WHEN THE CALL BEGINS. Each datum BY PROGRAM (the guide's laid-datum.mjs) off the statement by which the dump's own 'gosem.cut.vars' lays the variable. In a bare row this is a premise. The card (YtahgaogmcffglaaDoorCards.lean) ties it to the program's text. -/
def laid_fairlead_record_errShort {H : Type} : DataW H := .iface "*errors.errorString" (.ptr (.agg [.lit (.string [98, 121, 116, 101, 115, 32, 116, 104, 97, 116, 32, 101, 110, 100, 32, 116, 111, 111, 32, 115, 111, 111, 110])]))
def laid_fairlead_record_errRecord {H : Type} : DataW H := .iface "*errors.errorString" (.ptr (.agg [.lit (.string [110, 111, 32, 114, 101, 99, 111, 114, 100])]))

/-- 'fairleadlaw15.WalKeeps': WHATEVER THE INPUT: true; the input reads as it did. -/
def walKeepsSpec : ChangeSpec := { name := "walKeeps", fn := fun _ => fun
  | [d1, d2, d3] => { results := [.lit (.bool true)], args := [d1, d2, d3] }
  | _ => none }
def walKeepsRow : OpenClaim := { program := "ytahgaogmcffglaadoor", sum := "f786b0801f4639c289f859beb29a216c858ca606e79db23495a64969b3e2e443", func := "fairlead/fairleadlaw15.WalKeeps", spec := "walKeeps", inPlace := ["internal/reflectlite.TypeOf"], unfollowed := true, recurses := true, named := ["fairlead/record.errShort", "fairlead/record.errRecord"], apart := false, laid := [("fairlead/record.errShort", laid_fairlead_record_errShort), ("fairlead/record.errRecord", laid_fairlead_record_errRecord)] }
def WalKeepsSaid : Prop := walKeepsRow.holds Tryd.pinned (OpenSpec.ofChange walKeepsSpec)

/-- ITS FALSE NEIGHBOUR: 'it returns false'. Refute it at one input. -/
def walKeepsWrong : ChangeSpec := { name := "walKeeps", fn := fun _ => fun
  | [d1, d2, d3] => { results := [.lit (.bool false)], args := [d1, d2, d3] }
  | _ => none }
def WalKeepsWrongFalsely : Prop := walKeepsRow.holds Tryd.pinned (OpenSpec.ofChange walKeepsWrong)

/-- 'fairleadlaw15.WalApart': WHATEVER THE INPUT: true; the input reads as it did. -/
def walApartSpec : ChangeSpec := { name := "walApart", fn := fun _ => fun
  | [d1, d2, d3] => { results := [.lit (.bool true)], args := [d1, d2, d3] }
  | _ => none }
def walApartRow : OpenClaim := { program := "ytahgaogmcffglaadoor", sum := "f786b0801f4639c289f859beb29a216c858ca606e79db23495a64969b3e2e443", func := "fairlead/fairleadlaw15.WalApart", spec := "walApart", inPlace := ["internal/reflectlite.TypeOf"], unfollowed := true, recurses := true, named := ["fairlead/record.errShort", "fairlead/record.errRecord"], apart := false, laid := [("fairlead/record.errShort", laid_fairlead_record_errShort), ("fairlead/record.errRecord", laid_fairlead_record_errRecord)] }
def WalApartSaid : Prop := walApartRow.holds Tryd.pinned (OpenSpec.ofChange walApartSpec)

/-- ITS FALSE NEIGHBOUR: 'it returns false'. Refute it at one input. -/
def walApartWrong : ChangeSpec := { name := "walApart", fn := fun _ => fun
  | [d1, d2, d3] => { results := [.lit (.bool false)], args := [d1, d2, d3] }
  | _ => none }
def WalApartWrongFalsely : Prop := walApartRow.holds Tryd.pinned (OpenSpec.ofChange walApartWrong)

/-- 'fairleadlaw15.WalFits': WHATEVER THE INPUT: true; the input reads as it did. -/
def walFitsSpec : ChangeSpec := { name := "walFits", fn := fun _ => fun
  | [d1, d2] => { results := [.lit (.bool true)], args := [d1, d2] }
  | _ => none }
def walFitsRow : OpenClaim := { program := "ytahgaogmcffglaadoor", sum := "f786b0801f4639c289f859beb29a216c858ca606e79db23495a64969b3e2e443", func := "fairlead/fairleadlaw15.WalFits", spec := "walFits", inPlace := ["internal/reflectlite.TypeOf"], unfollowed := true, recurses := true, named := ["fairlead/record.errShort", "fairlead/record.errRecord"], apart := false, laid := [("fairlead/record.errShort", laid_fairlead_record_errShort), ("fairlead/record.errRecord", laid_fairlead_record_errRecord)] }
def WalFitsSaid : Prop := walFitsRow.holds Tryd.pinned (OpenSpec.ofChange walFitsSpec)

/-- ITS FALSE NEIGHBOUR: 'it returns false'. Refute it at one input. -/
def walFitsWrong : ChangeSpec := { name := "walFits", fn := fun _ => fun
  | [d1, d2] => { results := [.lit (.bool false)], args := [d1, d2] }
  | _ => none }
def WalFitsWrongFalsely : Prop := walFitsRow.holds Tryd.pinned (OpenSpec.ofChange walFitsWrong)

/-- 'fairleadlaw15.WalNobody': WHATEVER THE INPUT: true; the input reads as it did. -/
def walNobodySpec : ChangeSpec := { name := "walNobody", fn := fun _ => fun
  | [d1, d2, d3] => { results := [.lit (.bool true)], args := [d1, d2, d3] }
  | _ => none }
def walNobodyRow : OpenClaim := { program := "ytahgaogmcffglaadoor", sum := "f786b0801f4639c289f859beb29a216c858ca606e79db23495a64969b3e2e443", func := "fairlead/fairleadlaw15.WalNobody", spec := "walNobody", inPlace := ["internal/reflectlite.TypeOf"], unfollowed := true, recurses := true, named := ["fairlead/record.errShort", "fairlead/record.errRecord"], apart := false, laid := [("fairlead/record.errShort", laid_fairlead_record_errShort), ("fairlead/record.errRecord", laid_fairlead_record_errRecord)] }
def WalNobodySaid : Prop := walNobodyRow.holds Tryd.pinned (OpenSpec.ofChange walNobodySpec)

/-- ITS FALSE NEIGHBOUR: 'it returns false'. Refute it at one input. -/
def walNobodyWrong : ChangeSpec := { name := "walNobody", fn := fun _ => fun
  | [d1, d2, d3] => { results := [.lit (.bool false)], args := [d1, d2, d3] }
  | _ => none }
def WalNobodyWrongFalsely : Prop := walNobodyRow.holds Tryd.pinned (OpenSpec.ofChange walNobodyWrong)

/- THE SECOND FORM. 'bulk': how many values and letters a reading holds, each counted each time it is reached (what is shared counts as often as it is met; a slice's spare places count too). A statement '..UptoSaid' is the law's where the arguments, and the package variables that the reading takes, are together of bulk at most 1048576: NARROWER than '..Said'. Prove '..Said' where nothing that the law and all that it calls make is longer than what came in: it says more and counts as full. Else prove '..UptoSaid'. A law counts once. -/
mutual
def uptoBulk {H : Type} : DataW H → Nat
  | .lit (.string bytes) => bytes.length + 1
  | .lit _ => 1
  | .nil => 1
  | .ptr d => uptoBulk d + 1
  | .slice elems spare => uptoBulkAll elems + uptoBulkAll spare + 1
  | .agg parts => uptoBulkAll parts + 1
  | .iface _ d => uptoBulk d + 1
  | .map entries => uptoBulkEntries entries + 1
  | .held _ => 1
def uptoBulkAll {H : Type} : List (DataW H) → Nat
  | [] => 0
  | d :: r => uptoBulk d + uptoBulkAll r
def uptoBulkEntries {H : Type} : List (Lit × DataW H) → Nat
  | [] => 0
  | x :: r => uptoBulkEntry x + uptoBulkEntries r
def uptoBulkEntry {H : Type} : Lit × DataW H → Nat
  | (.string bytes, d) => bytes.length + uptoBulk d + 1
  | (_, d) => uptoBulk d + 1
 end
def uptoSmall : (H : Type) → List (DataW H) → Bool := fun _ ds => decide (uptoBulkAll ds ≤ 1048576)
def OpenSpec.upto (s : _root_.Go.ChangeSpec) : _root_.Go.OpenSpec := { _root_.Go.OpenSpec.ofChange s with cond := some uptoSmall }

/-- 'fairleadlaw15.WalKeeps', WHERE WHAT IT READS IS OF BULK AT MOST 1048576: true; the input reads as it did. -/
def walKeepsUptoRow : OpenClaim := { program := "ytahgaogmcffglaadoor", sum := "f786b0801f4639c289f859beb29a216c858ca606e79db23495a64969b3e2e443", func := "fairlead/fairleadlaw15.WalKeeps", spec := "walKeeps", inPlace := ["internal/reflectlite.TypeOf"], unfollowed := true, recurses := true, named := ["fairlead/record.errShort", "fairlead/record.errRecord"], apart := false, laid := [("fairlead/record.errShort", laid_fairlead_record_errShort), ("fairlead/record.errRecord", laid_fairlead_record_errRecord)], narrowed := true }
def WalKeepsUptoSaid : Prop := walKeepsUptoRow.holds Tryd.pinned (OpenSpec.upto walKeepsSpec)

/-- 'fairleadlaw15.WalApart', WHERE WHAT IT READS IS OF BULK AT MOST 1048576: true; the input reads as it did. -/
def walApartUptoRow : OpenClaim := { program := "ytahgaogmcffglaadoor", sum := "f786b0801f4639c289f859beb29a216c858ca606e79db23495a64969b3e2e443", func := "fairlead/fairleadlaw15.WalApart", spec := "walApart", inPlace := ["internal/reflectlite.TypeOf"], unfollowed := true, recurses := true, named := ["fairlead/record.errShort", "fairlead/record.errRecord"], apart := false, laid := [("fairlead/record.errShort", laid_fairlead_record_errShort), ("fairlead/record.errRecord", laid_fairlead_record_errRecord)], narrowed := true }
def WalApartUptoSaid : Prop := walApartUptoRow.holds Tryd.pinned (OpenSpec.upto walApartSpec)

/-- 'fairleadlaw15.WalFits', WHERE WHAT IT READS IS OF BULK AT MOST 1048576: true; the input reads as it did. -/
def walFitsUptoRow : OpenClaim := { program := "ytahgaogmcffglaadoor", sum := "f786b0801f4639c289f859beb29a216c858ca606e79db23495a64969b3e2e443", func := "fairlead/fairleadlaw15.WalFits", spec := "walFits", inPlace := ["internal/reflectlite.TypeOf"], unfollowed := true, recurses := true, named := ["fairlead/record.errShort", "fairlead/record.errRecord"], apart := false, laid := [("fairlead/record.errShort", laid_fairlead_record_errShort), ("fairlead/record.errRecord", laid_fairlead_record_errRecord)], narrowed := true }
def WalFitsUptoSaid : Prop := walFitsUptoRow.holds Tryd.pinned (OpenSpec.upto walFitsSpec)

/-- 'fairleadlaw15.WalNobody', WHERE WHAT IT READS IS OF BULK AT MOST 1048576: true; the input reads as it did. -/
def walNobodyUptoRow : OpenClaim := { program := "ytahgaogmcffglaadoor", sum := "f786b0801f4639c289f859beb29a216c858ca606e79db23495a64969b3e2e443", func := "fairlead/fairleadlaw15.WalNobody", spec := "walNobody", inPlace := ["internal/reflectlite.TypeOf"], unfollowed := true, recurses := true, named := ["fairlead/record.errShort", "fairlead/record.errRecord"], apart := false, laid := [("fairlead/record.errShort", laid_fairlead_record_errShort), ("fairlead/record.errRecord", laid_fairlead_record_errRecord)], narrowed := true }
def WalNobodyUptoSaid : Prop := walNobodyUptoRow.holds Tryd.pinned (OpenSpec.upto walNobodySpec)

end Rows
end Go.Proofs.YtahgaogmcffglaaDoor
