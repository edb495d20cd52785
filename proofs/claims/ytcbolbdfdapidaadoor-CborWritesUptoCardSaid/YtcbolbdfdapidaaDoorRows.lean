/-
  NARROWER THAN 'FOR EVERY INPUT', by the rows' own cells (each row's printed sentence says how): CborWrites: loops, laid · CborBack: loops, laid · CborAgain: laid · CborPrefix: loops, laid · CborHeads: laid.
  DERIVED. THE GIVEN ROWS OF THIS SEAT. 5 by the template 'for every input the law returns true; each argument reads behind the call as it read before'; 0 by the template 'total and deterministic' (their statements: YtcbolbdfdapidaaDoorTotals.lean).
  GIVEN WITH THE SEED: the statements are not yours to turn. If you find one false, say at which input.
  Laid BY PROGRAM, IN A SANDBOX (cutbox-rows.mjs): the forced cells as the released guide's own fill.sh prints them over the translation 8c635a3f140b24eb… (all of the seat's roots in one cut). By AI agents, Wed Nov 11 2026. No macro, syntax, notation, axiom, sorry.
-/
import Derived.Test.YtcbolbdfdapidaaDoorChecked
import GoSem.Claim
import GoSem.ClaimJoined
import GoSem.ClaimMapViews
import Derived.JoinedTies
import Derived.KernelRfl
namespace Go.Proofs.YtcbolbdfdapidaaDoor
/- THE CELL 'sum', in the pinned program and in every row, IS THE sha256 OF THE DUMP (.gsa) THAT YtcbolbdfdapidaaDoorProg.lean LOADS. Nothing in Lean hashes anything: it is a label: what it is worth is what the hold of that sum in a sandbox is worth. -/
noncomputable def Tryd.pinned : Pinned := { name := "ytcbolbdfdapidaadoor", sum := "8c635a3f140b24ebb32f01767a3fcab5228f887eed965552232fb933880ad348", checked := Tryd.checked }
namespace Rows
def none {H : Type} : Left H := { results := [], args := [] }

/- WHAT THE LISTED PACKAGE-LEVEL VARIABLES READ AS WHEN THE CALL BEGINS. Each datum BY PROGRAM (the guide's laid-datum.mjs) off the statement by which the dump's own 'gosem.cut.vars' lays the variable. In a bare row this is a premise. The card (YtcbolbdfdapidaaDoorCards.lean) ties it to the program's text. -/
def laid_errors_errorType {H : Type} : DataW H := .iface "internal/reflectlite.rtype" (.agg [.ptr (.lit (.string [101, 114, 114, 111, 114]))])

/-- 'fairleadlaw03.CborWrites': WHATEVER THE INPUT: true; the input reads as it did. -/
def cborWritesSpec : ChangeSpec := { name := "cborWrites", fn := fun _ => fun
  | [d1, d2, d3, d4] => { results := [.lit (.bool true)], args := [d1, d2, d3, d4] }
  | _ => none }
def cborWritesRow : OpenClaim := { program := "ytcbolbdfdapidaadoor", sum := "8c635a3f140b24ebb32f01767a3fcab5228f887eed965552232fb933880ad348", func := "fairlead/fairleadlaw03.CborWrites", spec := "cborWrites", inPlace := ["internal/reflectlite.ValueOf", "(internal/reflectlite.Value).Type", "(internal/reflectlite.Value).IsNil", "internal/reflectlite.TypeOf", "(internal/reflectlite.Value).Elem", "(internal/reflectlite.Value).Set"], unfollowed := true, recurses := true, named := ["errors.errorType"], loops := true, apart := false, laid := [("errors.errorType", laid_errors_errorType)] }
def CborWritesSaid : Prop := cborWritesRow.holds Tryd.pinned (OpenSpec.ofChange cborWritesSpec)

/-- ITS FALSE NEIGHBOUR: 'it returns false'. Refute it at one input. -/
def cborWritesWrong : ChangeSpec := { name := "cborWrites", fn := fun _ => fun
  | [d1, d2, d3, d4] => { results := [.lit (.bool false)], args := [d1, d2, d3, d4] }
  | _ => none }
def CborWritesWrongFalsely : Prop := cborWritesRow.holds Tryd.pinned (OpenSpec.ofChange cborWritesWrong)

/-- 'fairleadlaw03.CborBack': WHATEVER THE INPUT: true; the input reads as it did. -/
def cborBackSpec : ChangeSpec := { name := "cborBack", fn := fun _ => fun
  | [d1, d2] => { results := [.lit (.bool true)], args := [d1, d2] }
  | _ => none }
def cborBackRow : OpenClaim := { program := "ytcbolbdfdapidaadoor", sum := "8c635a3f140b24ebb32f01767a3fcab5228f887eed965552232fb933880ad348", func := "fairlead/fairleadlaw03.CborBack", spec := "cborBack", inPlace := ["internal/reflectlite.ValueOf", "(internal/reflectlite.Value).Type", "(internal/reflectlite.Value).IsNil", "internal/reflectlite.TypeOf", "(internal/reflectlite.Value).Elem", "(internal/reflectlite.Value).Set"], unfollowed := true, recurses := true, named := ["errors.errorType"], loops := true, apart := false, laid := [("errors.errorType", laid_errors_errorType)] }
def CborBackSaid : Prop := cborBackRow.holds Tryd.pinned (OpenSpec.ofChange cborBackSpec)

/-- ITS FALSE NEIGHBOUR: 'it returns false'. Refute it at one input. -/
def cborBackWrong : ChangeSpec := { name := "cborBack", fn := fun _ => fun
  | [d1, d2] => { results := [.lit (.bool false)], args := [d1, d2] }
  | _ => none }
def CborBackWrongFalsely : Prop := cborBackRow.holds Tryd.pinned (OpenSpec.ofChange cborBackWrong)

/-- 'fairleadlaw03.CborAgain': WHATEVER THE INPUT: true; the input reads as it did. -/
def cborAgainSpec : ChangeSpec := { name := "cborAgain", fn := fun _ => fun
  | [d] => { results := [.lit (.bool true)], args := [d] }
  | _ => none }
def cborAgainRow : OpenClaim := { program := "ytcbolbdfdapidaadoor", sum := "8c635a3f140b24ebb32f01767a3fcab5228f887eed965552232fb933880ad348", func := "fairlead/fairleadlaw03.CborAgain", spec := "cborAgain", inPlace := ["internal/reflectlite.ValueOf", "(internal/reflectlite.Value).Type", "(internal/reflectlite.Value).IsNil", "internal/reflectlite.TypeOf", "(internal/reflectlite.Value).Elem", "(internal/reflectlite.Value).Set"], unfollowed := true, recurses := true, named := ["errors.errorType"], apart := false, laid := [("errors.errorType", laid_errors_errorType)] }
def CborAgainSaid : Prop := cborAgainRow.holds Tryd.pinned (OpenSpec.ofChange cborAgainSpec)

/-- ITS FALSE NEIGHBOUR: 'it returns false'. Refute it at one input. -/
def cborAgainWrong : ChangeSpec := { name := "cborAgain", fn := fun _ => fun
  | [d] => { results := [.lit (.bool false)], args := [d] }
  | _ => none }
def CborAgainWrongFalsely : Prop := cborAgainRow.holds Tryd.pinned (OpenSpec.ofChange cborAgainWrong)

/-- 'fairleadlaw03.CborPrefix': WHATEVER THE INPUT: true; the input reads as it did. -/
def cborPrefixSpec : ChangeSpec := { name := "cborPrefix", fn := fun _ => fun
  | [d1, d2] => { results := [.lit (.bool true)], args := [d1, d2] }
  | _ => none }
def cborPrefixRow : OpenClaim := { program := "ytcbolbdfdapidaadoor", sum := "8c635a3f140b24ebb32f01767a3fcab5228f887eed965552232fb933880ad348", func := "fairlead/fairleadlaw03.CborPrefix", spec := "cborPrefix", inPlace := ["internal/reflectlite.ValueOf", "(internal/reflectlite.Value).Type", "(internal/reflectlite.Value).IsNil", "internal/reflectlite.TypeOf", "(internal/reflectlite.Value).Elem", "(internal/reflectlite.Value).Set"], unfollowed := true, recurses := true, named := ["errors.errorType"], loops := true, apart := false, laid := [("errors.errorType", laid_errors_errorType)] }
def CborPrefixSaid : Prop := cborPrefixRow.holds Tryd.pinned (OpenSpec.ofChange cborPrefixSpec)

/-- ITS FALSE NEIGHBOUR: 'it returns false'. Refute it at one input. -/
def cborPrefixWrong : ChangeSpec := { name := "cborPrefix", fn := fun _ => fun
  | [d1, d2] => { results := [.lit (.bool false)], args := [d1, d2] }
  | _ => none }
def CborPrefixWrongFalsely : Prop := cborPrefixRow.holds Tryd.pinned (OpenSpec.ofChange cborPrefixWrong)

/-- 'fairleadlaw03.CborHeads': WHATEVER THE INPUT: true; the input reads as it did. -/
def cborHeadsSpec : ChangeSpec := { name := "cborHeads", fn := fun _ => fun
  | [d1, d2, d3] => { results := [.lit (.bool true)], args := [d1, d2, d3] }
  | _ => none }
def cborHeadsRow : OpenClaim := { program := "ytcbolbdfdapidaadoor", sum := "8c635a3f140b24ebb32f01767a3fcab5228f887eed965552232fb933880ad348", func := "fairlead/fairleadlaw03.CborHeads", spec := "cborHeads", inPlace := ["internal/reflectlite.ValueOf", "(internal/reflectlite.Value).Type", "(internal/reflectlite.Value).IsNil", "internal/reflectlite.TypeOf", "(internal/reflectlite.Value).Elem", "(internal/reflectlite.Value).Set"], unfollowed := true, recurses := true, named := ["errors.errorType"], apart := false, laid := [("errors.errorType", laid_errors_errorType)] }
def CborHeadsSaid : Prop := cborHeadsRow.holds Tryd.pinned (OpenSpec.ofChange cborHeadsSpec)

/-- ITS FALSE NEIGHBOUR: 'it returns false'. Refute it at one input. -/
def cborHeadsWrong : ChangeSpec := { name := "cborHeads", fn := fun _ => fun
  | [d1, d2, d3] => { results := [.lit (.bool false)], args := [d1, d2, d3] }
  | _ => none }
def CborHeadsWrongFalsely : Prop := cborHeadsRow.holds Tryd.pinned (OpenSpec.ofChange cborHeadsWrong)

/- THE SECOND FORM. 'bulk': how many values and letters a reading holds, each counted each time it is reached (what is shared counts as often as it is met; a slice's spare places count too). A statement '..UptoSaid' is the law's where the arguments, and the package variables that the reading takes, are together of bulk at most 1048576: NARROWER than '..Said'. Prove '..Said' where nothing that the law and all that it calls make is longer than what came in: it says more and counts as full. Else prove '..UptoSaid'. A law counts once. -/
mutual
def uptoBulk {H : Type} : DataW H → Nat
  | .lit (.string bytes) => bytes.length + 1
  | .lit _ => 1
  | .nil => 1
  | .ptr d => uptoBulk d + 1
  | .slice elems spare => uptoBulkAll elems + uptoBulkAll spare + 1
  | .agg parts => uptoBulkAll parts + 1
  | .iface _ d => uptoBulk d + 1
  | .map entries => uptoBulkEntries entries + 1
  | .held _ => 1
def uptoBulkAll {H : Type} : List (DataW H) → Nat
  | [] => 0
  | d :: r => uptoBulk d + uptoBulkAll r
def uptoBulkEntries {H : Type} : List (Lit × DataW H) → Nat
  | [] => 0
  | x :: r => uptoBulkEntry x + uptoBulkEntries r
def uptoBulkEntry {H : Type} : Lit × DataW H → Nat
  | (.string bytes, d) => bytes.length + uptoBulk d + 1
  | (_, d) => uptoBulk d + 1
 end
def uptoSmall : (H : Type) → List (DataW H) → Bool := fun _ ds => decide (uptoBulkAll ds ≤ 1048576)
def OpenSpec.upto (s : _root_.Go.ChangeSpec) : _root_.Go.OpenSpec := { _root_.Go.OpenSpec.ofChange s with cond := some uptoSmall }

/-- 'fairleadlaw03.CborWrites', WHERE WHAT IT READS IS OF BULK AT MOST 1048576: true; the input reads as it did. -/
def cborWritesUptoRow : OpenClaim := { program := "ytcbolbdfdapidaadoor", sum := "8c635a3f140b24ebb32f01767a3fcab5228f887eed965552232fb933880ad348", func := "fairlead/fairleadlaw03.CborWrites", spec := "cborWrites", inPlace := ["internal/reflectlite.ValueOf", "(internal/reflectlite.Value).Type", "(internal/reflectlite.Value).IsNil", "internal/reflectlite.TypeOf", "(internal/reflectlite.Value).Elem", "(internal/reflectlite.Value).Set"], unfollowed := true, recurses := true, named := ["errors.errorType"], loops := true, apart := false, laid := [("errors.errorType", laid_errors_errorType)], narrowed := true }
def CborWritesUptoSaid : Prop := cborWritesUptoRow.holds Tryd.pinned (OpenSpec.upto cborWritesSpec)

/-- 'fairleadlaw03.CborBack', WHERE WHAT IT READS IS OF BULK AT MOST 1048576: true; the input reads as it did. -/
def cborBackUptoRow : OpenClaim := { program := "ytcbolbdfdapidaadoor", sum := "8c635a3f140b24ebb32f01767a3fcab5228f887eed965552232fb933880ad348", func := "fairlead/fairleadlaw03.CborBack", spec := "cborBack", inPlace := ["internal/reflectlite.ValueOf", "(internal/reflectlite.Value).Type", "(internal/reflectlite.Value).IsNil", "internal/reflectlite.TypeOf", "(internal/reflectlite.Value).Elem", "(internal/reflectlite.Value).Set"], unfollowed := true, recurses := true, named := ["errors.errorType"], loops := true, apart := false, laid := [("errors.errorType", laid_errors_errorType)], narrowed := true }
def CborBackUptoSaid : Prop := cborBackUptoRow.holds Tryd.pinned (OpenSpec.upto cborBackSpec)

/-- 'fairleadlaw03.CborAgain', WHERE WHAT IT READS IS OF BULK AT MOST 1048576: true; the input reads as it did. -/
def cborAgainUptoRow : OpenClaim := { program := "ytcbolbdfdapidaadoor", sum := "8c635a3f140b24ebb32f01767a3fcab5228f887eed965552232fb933880ad348", func := "fairlead/fairleadlaw03.CborAgain", spec := "cborAgain", inPlace := ["internal/reflectlite.ValueOf", "(internal/reflectlite.Value).Type", "(internal/reflectlite.Value).IsNil", "internal/reflectlite.TypeOf", "(internal/reflectlite.Value).Elem", "(internal/reflectlite.Value).Set"], unfollowed := true, recurses := true, named := ["errors.errorType"], apart := false, laid := [("errors.errorType", laid_errors_errorType)], narrowed := true }
def CborAgainUptoSaid : Prop := cborAgainUptoRow.holds Tryd.pinned (OpenSpec.upto cborAgainSpec)

/-- 'fairleadlaw03.CborPrefix', WHERE WHAT IT READS IS OF BULK AT MOST 1048576: true; the input reads as it did. -/
def cborPrefixUptoRow : OpenClaim := { program := "ytcbolbdfdapidaadoor", sum := "8c635a3f140b24ebb32f01767a3fcab5228f887eed965552232fb933880ad348", func := "fairlead/fairleadlaw03.CborPrefix", spec := "cborPrefix", inPlace := ["internal/reflectlite.ValueOf", "(internal/reflectlite.Value).Type", "(internal/reflectlite.Value).IsNil", "internal/reflectlite.TypeOf", "(internal/reflectlite.Value).Elem", "(internal/reflectlite.Value).Set"], unfollowed := true, recurses := true, named := ["errors.errorType"], loops := true, apart := false, laid := [("errors.errorType", laid_errors_errorType)], narrowed := true }
def CborPrefixUptoSaid : Prop := cborPrefixUptoRow.holds Tryd.pinned (OpenSpec.upto cborPrefixSpec)

/-- 'fairleadlaw03.CborHeads', WHERE WHAT IT READS IS OF BULK AT MOST 1048576: true; the input reads as it did. -/
def cborHeadsUptoRow : OpenClaim := { program := "ytcbolbdfdapidaadoor", sum := "8c635a3f140b24ebb32f01767a3fcab5228f887eed965552232fb933880ad348", func := "fairlead/fairleadlaw03.CborHeads", spec := "cborHeads", inPlace := ["internal/reflectlite.ValueOf", "(internal/reflectlite.Value).Type", "(internal/reflectlite.Value).IsNil", "internal/reflectlite.TypeOf", "(internal/reflectlite.Value).Elem", "(internal/reflectlite.Value).Set"], unfollowed := true, recurses := true, named := ["errors.errorType"], apart := false, laid := [("errors.errorType", laid_errors_errorType)], narrowed := true }
def CborHeadsUptoSaid : Prop := cborHeadsUptoRow.holds Tryd.pinned (OpenSpec.upto cborHeadsSpec)

end Rows
end Go.Proofs.YtcbolbdfdapidaaDoor
