/-
  NARROWER THAN 'FOR EVERY INPUT', by the rows' own cells (each row's printed sentence says how): BibTwo: laid · BibWrites: laid · BibSigns: laid · BibVerifies: laid · BibBack: laid · BibTags: laid · PolicyJudges: laid · PolicyTags: laid · PolicyLess: laid · PolicyKeys: laid.
  DERIVED. THE GIVEN ROWS OF THIS SEAT. 10 by the template 'for every input the law returns true; each argument reads behind the call as it read before'; 0 by the template 'total and deterministic' (their statements: YteckeagobafoiaaGreatDoorTotals.lean).
  GIVEN WITH THE SEED: the statements are not yours to turn. If you find one false, say at which input.
  Laid BY PROGRAM, IN A SANDBOX (cutbox-rows.mjs): the forced cells as the released guide's own fill.sh prints them over the translation 6046f0c50bce28ed… (all of the seat's roots in one cut). By AI agents, Wed Nov 11 2026. No macro, syntax, notation, axiom, sorry.
-/
import Derived.Test.YteckeagobafoiaaGreatDoorChecked
import GoSem.Claim
import GoSem.ClaimJoined
import GoSem.ClaimMapViews
import Derived.JoinedTies
import Derived.KernelRfl
namespace Go.Proofs.YteckeagobafoiaaGreatDoor
/- THE CELL 'sum', in the pinned program and in every row, IS THE sha256 OF THE DUMP (.gsa) THAT YteckeagobafoiaaGreatDoorProg.lean LOADS. Nothing in Lean hashes anything: it is a label: what it is worth is what the hold of that sum in a sandbox is worth. -/
noncomputable def Tryz.pinned : Pinned := { name := "yteckeagobafoiaagreatdoor", sum := "6046f0c50bce28ed292bfc9535a9cc1544f45645aa2cea5d0d42118871ee2e52", checked := Tryz.checked }
namespace Rows
def none {H : Type} : Left H := { results := [], args := [] }

/- WHAT THE LISTED PACKAGE-LEVEL VARIABLES READ AS WHEN THE CALL BEGINS. Each datum BY PROGRAM (the guide's laid-datum.mjs) off the statement by which the dump's own 'gosem.cut.vars' lays the variable. In a bare row this is a premise. The card (YteckeagobafoiaaGreatDoorCards.lean) ties it to the program's text. -/
def laid_errors_errorType {H : Type} : DataW H := .iface "internal/reflectlite.rtype" (.agg [.ptr (.lit (.string [101, 114, 114, 111, 114]))])
def laid_fairlead_eid_errScheme {H : Type} : DataW H := .iface "*errors.errorString" (.ptr (.agg [.lit (.string [110, 111, 32, 115, 117, 99, 104, 32, 115, 99, 104, 101, 109, 101])]))
def laid_fairlead_eid_errName {H : Type} : DataW H := .iface "*errors.errorString" (.ptr (.agg [.lit (.string [97, 32, 110, 97, 109, 101, 32, 116, 104, 97, 116, 32, 109, 97, 121, 32, 110, 111, 116, 32, 98, 101])]))
def laid_fairlead_eid_errNumber {H : Type} : DataW H := .iface "*errors.errorString" (.ptr (.agg [.lit (.string [97, 32, 110, 117, 109, 98, 101, 114, 32, 116, 104, 97, 116, 32, 109, 97, 121, 32, 110, 111, 116, 32, 98, 101])]))
def laid_fairlead_eid_errForm {H : Type} : DataW H := .iface "*errors.errorString" (.ptr (.agg [.lit (.string [97, 110, 111, 116, 104, 101, 114, 32, 102, 111, 114, 109, 32, 116, 104, 97, 110, 32, 116, 104, 101, 32, 101, 110, 100, 112, 111, 105, 110, 116, 39, 115])]))
def laid_fairlead_bib_errTarget {H : Type} : DataW H := .iface "*errors.errorString" (.ptr (.agg [.lit (.string [110, 111, 32, 105, 110, 116, 101, 103, 114, 105, 116, 121, 32, 98, 108, 111, 99, 107])]))
def laid_fairlead_bib_errTag {H : Type} : DataW H := .iface "*errors.errorString" (.ptr (.agg [.lit (.string [97, 32, 116, 97, 103, 32, 116, 104, 97, 116, 32, 105, 115, 32, 119, 114, 111, 110, 103])]))

/-- 'fairleadlaw10.BibTwo': WHATEVER THE INPUT: true; the input reads as it did. -/
def bibTwoSpec : ChangeSpec := { name := "bibTwo", fn := fun _ => fun
  | [d1, d2, d3, d4, d5] => { results := [.lit (.bool true)], args := [d1, d2, d3, d4, d5] }
  | _ => none }
def bibTwoRow : OpenClaim := { program := "yteckeagobafoiaagreatdoor", sum := "6046f0c50bce28ed292bfc9535a9cc1544f45645aa2cea5d0d42118871ee2e52", func := "fairlead/fairleadlaw10.BibTwo", spec := "bibTwo", inPlace := ["internal/bytealg.IndexByteString", "internal/bytealg.IndexString", "internal/reflectlite.TypeOf", "internal/reflectlite.ValueOf", "(internal/reflectlite.Value).Type", "(internal/reflectlite.Value).IsNil", "(internal/reflectlite.Value).Elem", "(internal/reflectlite.Value).Set"], unfollowed := true, recurses := true, named := ["fairlead/eid.errScheme", "fairlead/eid.errNumber", "fairlead/eid.errName", "internal/bytealg.MaxLen", "fairlead/eid.errForm", "errors.errorType", "fairlead/bib.errTarget", "fairlead/bib.errTag"], apart := false, laid := [("errors.errorType", laid_errors_errorType), ("fairlead/eid.errScheme", laid_fairlead_eid_errScheme), ("fairlead/eid.errName", laid_fairlead_eid_errName), ("fairlead/eid.errNumber", laid_fairlead_eid_errNumber), ("fairlead/eid.errForm", laid_fairlead_eid_errForm), ("fairlead/bib.errTarget", laid_fairlead_bib_errTarget), ("fairlead/bib.errTag", laid_fairlead_bib_errTag)] }
def BibTwoSaid : Prop := bibTwoRow.holds Tryz.pinned (OpenSpec.ofChange bibTwoSpec)

/-- ITS FALSE NEIGHBOUR: 'it returns false'. Refute it at one input. -/
def bibTwoWrong : ChangeSpec := { name := "bibTwo", fn := fun _ => fun
  | [d1, d2, d3, d4, d5] => { results := [.lit (.bool false)], args := [d1, d2, d3, d4, d5] }
  | _ => none }
def BibTwoWrongFalsely : Prop := bibTwoRow.holds Tryz.pinned (OpenSpec.ofChange bibTwoWrong)

/-- 'fairleadlaw10.BibWrites': WHATEVER THE INPUT: true; the input reads as it did. -/
def bibWritesSpec : ChangeSpec := { name := "bibWrites", fn := fun _ => fun
  | [d1, d2] => { results := [.lit (.bool true)], args := [d1, d2] }
  | _ => none }
def bibWritesRow : OpenClaim := { program := "yteckeagobafoiaagreatdoor", sum := "6046f0c50bce28ed292bfc9535a9cc1544f45645aa2cea5d0d42118871ee2e52", func := "fairlead/fairleadlaw10.BibWrites", spec := "bibWrites", inPlace := ["internal/bytealg.IndexByteString", "internal/bytealg.IndexString", "internal/reflectlite.TypeOf", "internal/reflectlite.ValueOf", "(internal/reflectlite.Value).Type", "(internal/reflectlite.Value).IsNil", "(internal/reflectlite.Value).Elem", "(internal/reflectlite.Value).Set"], unfollowed := true, recurses := true, named := ["fairlead/eid.errScheme", "fairlead/eid.errNumber", "fairlead/eid.errName", "internal/bytealg.MaxLen", "fairlead/eid.errForm", "errors.errorType", "fairlead/bib.errTarget", "fairlead/bib.errTag"], apart := false, laid := [("errors.errorType", laid_errors_errorType), ("fairlead/eid.errScheme", laid_fairlead_eid_errScheme), ("fairlead/eid.errName", laid_fairlead_eid_errName), ("fairlead/eid.errNumber", laid_fairlead_eid_errNumber), ("fairlead/eid.errForm", laid_fairlead_eid_errForm), ("fairlead/bib.errTarget", laid_fairlead_bib_errTarget), ("fairlead/bib.errTag", laid_fairlead_bib_errTag)] }
def BibWritesSaid : Prop := bibWritesRow.holds Tryz.pinned (OpenSpec.ofChange bibWritesSpec)

/-- ITS FALSE NEIGHBOUR: 'it returns false'. Refute it at one input. -/
def bibWritesWrong : ChangeSpec := { name := "bibWrites", fn := fun _ => fun
  | [d1, d2] => { results := [.lit (.bool false)], args := [d1, d2] }
  | _ => none }
def BibWritesWrongFalsely : Prop := bibWritesRow.holds Tryz.pinned (OpenSpec.ofChange bibWritesWrong)

/-- 'fairleadlaw10.BibSigns': WHATEVER THE INPUT: true; the input reads as it did. -/
def bibSignsSpec : ChangeSpec := { name := "bibSigns", fn := fun _ => fun
  | [d1, d2, d3, d4, d5, d6] => { results := [.lit (.bool true)], args := [d1, d2, d3, d4, d5, d6] }
  | _ => none }
def bibSignsRow : OpenClaim := { program := "yteckeagobafoiaagreatdoor", sum := "6046f0c50bce28ed292bfc9535a9cc1544f45645aa2cea5d0d42118871ee2e52", func := "fairlead/fairleadlaw10.BibSigns", spec := "bibSigns", inPlace := ["internal/bytealg.IndexByteString", "internal/bytealg.IndexString", "internal/reflectlite.TypeOf", "internal/reflectlite.ValueOf", "(internal/reflectlite.Value).Type", "(internal/reflectlite.Value).IsNil", "(internal/reflectlite.Value).Elem", "(internal/reflectlite.Value).Set"], unfollowed := true, recurses := true, named := ["fairlead/eid.errScheme", "fairlead/eid.errNumber", "fairlead/eid.errName", "internal/bytealg.MaxLen", "fairlead/eid.errForm", "errors.errorType", "fairlead/bib.errTarget", "fairlead/bib.errTag"], apart := false, laid := [("errors.errorType", laid_errors_errorType), ("fairlead/eid.errScheme", laid_fairlead_eid_errScheme), ("fairlead/eid.errName", laid_fairlead_eid_errName), ("fairlead/eid.errNumber", laid_fairlead_eid_errNumber), ("fairlead/eid.errForm", laid_fairlead_eid_errForm), ("fairlead/bib.errTarget", laid_fairlead_bib_errTarget), ("fairlead/bib.errTag", laid_fairlead_bib_errTag)] }
def BibSignsSaid : Prop := bibSignsRow.holds Tryz.pinned (OpenSpec.ofChange bibSignsSpec)

/-- ITS FALSE NEIGHBOUR: 'it returns false'. Refute it at one input. -/
def bibSignsWrong : ChangeSpec := { name := "bibSigns", fn := fun _ => fun
  | [d1, d2, d3, d4, d5, d6] => { results := [.lit (.bool false)], args := [d1, d2, d3, d4, d5, d6] }
  | _ => none }
def BibSignsWrongFalsely : Prop := bibSignsRow.holds Tryz.pinned (OpenSpec.ofChange bibSignsWrong)

/-- 'fairleadlaw10.BibVerifies': WHATEVER THE INPUT: true; the input reads as it did. -/
def bibVerifiesSpec : ChangeSpec := { name := "bibVerifies", fn := fun _ => fun
  | [d1, d2, d3, d4] => { results := [.lit (.bool true)], args := [d1, d2, d3, d4] }
  | _ => none }
def bibVerifiesRow : OpenClaim := { program := "yteckeagobafoiaagreatdoor", sum := "6046f0c50bce28ed292bfc9535a9cc1544f45645aa2cea5d0d42118871ee2e52", func := "fairlead/fairleadlaw10.BibVerifies", spec := "bibVerifies", inPlace := ["internal/bytealg.IndexByteString", "internal/bytealg.IndexString", "internal/reflectlite.TypeOf", "internal/reflectlite.ValueOf", "(internal/reflectlite.Value).Type", "(internal/reflectlite.Value).IsNil", "(internal/reflectlite.Value).Elem", "(internal/reflectlite.Value).Set"], unfollowed := true, recurses := true, named := ["fairlead/eid.errScheme", "fairlead/eid.errNumber", "fairlead/eid.errName", "internal/bytealg.MaxLen", "fairlead/eid.errForm", "errors.errorType", "fairlead/bib.errTarget", "fairlead/bib.errTag"], apart := false, laid := [("errors.errorType", laid_errors_errorType), ("fairlead/eid.errScheme", laid_fairlead_eid_errScheme), ("fairlead/eid.errName", laid_fairlead_eid_errName), ("fairlead/eid.errNumber", laid_fairlead_eid_errNumber), ("fairlead/eid.errForm", laid_fairlead_eid_errForm), ("fairlead/bib.errTarget", laid_fairlead_bib_errTarget), ("fairlead/bib.errTag", laid_fairlead_bib_errTag)] }
def BibVerifiesSaid : Prop := bibVerifiesRow.holds Tryz.pinned (OpenSpec.ofChange bibVerifiesSpec)

/-- ITS FALSE NEIGHBOUR: 'it returns false'. Refute it at one input. -/
def bibVerifiesWrong : ChangeSpec := { name := "bibVerifies", fn := fun _ => fun
  | [d1, d2, d3, d4] => { results := [.lit (.bool false)], args := [d1, d2, d3, d4] }
  | _ => none }
def BibVerifiesWrongFalsely : Prop := bibVerifiesRow.holds Tryz.pinned (OpenSpec.ofChange bibVerifiesWrong)

/-- 'fairleadlaw10.BibBack': WHATEVER THE INPUT: true; the input reads as it did. -/
def bibBackSpec : ChangeSpec := { name := "bibBack", fn := fun _ => fun
  | [d1, d2, d3, d4, d5, d6] => { results := [.lit (.bool true)], args := [d1, d2, d3, d4, d5, d6] }
  | _ => none }
def bibBackRow : OpenClaim := { program := "yteckeagobafoiaagreatdoor", sum := "6046f0c50bce28ed292bfc9535a9cc1544f45645aa2cea5d0d42118871ee2e52", func := "fairlead/fairleadlaw10.BibBack", spec := "bibBack", inPlace := ["internal/bytealg.IndexByteString", "internal/bytealg.IndexString", "internal/reflectlite.TypeOf", "internal/reflectlite.ValueOf", "(internal/reflectlite.Value).Type", "(internal/reflectlite.Value).IsNil", "(internal/reflectlite.Value).Elem", "(internal/reflectlite.Value).Set"], unfollowed := true, recurses := true, named := ["fairlead/eid.errScheme", "fairlead/eid.errNumber", "fairlead/eid.errName", "internal/bytealg.MaxLen", "fairlead/eid.errForm", "errors.errorType", "fairlead/bib.errTarget", "fairlead/bib.errTag"], apart := false, laid := [("errors.errorType", laid_errors_errorType), ("fairlead/eid.errScheme", laid_fairlead_eid_errScheme), ("fairlead/eid.errName", laid_fairlead_eid_errName), ("fairlead/eid.errNumber", laid_fairlead_eid_errNumber), ("fairlead/eid.errForm", laid_fairlead_eid_errForm), ("fairlead/bib.errTarget", laid_fairlead_bib_errTarget), ("fairlead/bib.errTag", laid_fairlead_bib_errTag)] }
def BibBackSaid : Prop := bibBackRow.holds Tryz.pinned (OpenSpec.ofChange bibBackSpec)

/-- ITS FALSE NEIGHBOUR: 'it returns false'. Refute it at one input. -/
def bibBackWrong : ChangeSpec := { name := "bibBack", fn := fun _ => fun
  | [d1, d2, d3, d4, d5, d6] => { results := [.lit (.bool false)], args := [d1, d2, d3, d4, d5, d6] }
  | _ => none }
def BibBackWrongFalsely : Prop := bibBackRow.holds Tryz.pinned (OpenSpec.ofChange bibBackWrong)

/-- 'fairleadlaw10.BibTags': WHATEVER THE INPUT: true; the input reads as it did. -/
def bibTagsSpec : ChangeSpec := { name := "bibTags", fn := fun _ => fun
  | [d1, d2, d3] => { results := [.lit (.bool true)], args := [d1, d2, d3] }
  | _ => none }
def bibTagsRow : OpenClaim := { program := "yteckeagobafoiaagreatdoor", sum := "6046f0c50bce28ed292bfc9535a9cc1544f45645aa2cea5d0d42118871ee2e52", func := "fairlead/fairleadlaw10.BibTags", spec := "bibTags", inPlace := ["internal/bytealg.IndexByteString", "internal/bytealg.IndexString", "internal/reflectlite.TypeOf", "internal/reflectlite.ValueOf", "(internal/reflectlite.Value).Type", "(internal/reflectlite.Value).IsNil", "(internal/reflectlite.Value).Elem", "(internal/reflectlite.Value).Set"], unfollowed := true, recurses := true, named := ["fairlead/eid.errScheme", "fairlead/eid.errNumber", "fairlead/eid.errName", "internal/bytealg.MaxLen", "fairlead/eid.errForm", "errors.errorType", "fairlead/bib.errTarget", "fairlead/bib.errTag"], apart := false, laid := [("errors.errorType", laid_errors_errorType), ("fairlead/eid.errScheme", laid_fairlead_eid_errScheme), ("fairlead/eid.errName", laid_fairlead_eid_errName), ("fairlead/eid.errNumber", laid_fairlead_eid_errNumber), ("fairlead/eid.errForm", laid_fairlead_eid_errForm), ("fairlead/bib.errTarget", laid_fairlead_bib_errTarget), ("fairlead/bib.errTag", laid_fairlead_bib_errTag)] }
def BibTagsSaid : Prop := bibTagsRow.holds Tryz.pinned (OpenSpec.ofChange bibTagsSpec)

/-- ITS FALSE NEIGHBOUR: 'it returns false'. Refute it at one input. -/
def bibTagsWrong : ChangeSpec := { name := "bibTags", fn := fun _ => fun
  | [d1, d2, d3] => { results := [.lit (.bool false)], args := [d1, d2, d3] }
  | _ => none }
def BibTagsWrongFalsely : Prop := bibTagsRow.holds Tryz.pinned (OpenSpec.ofChange bibTagsWrong)

/-- 'fairleadlaw11.PolicyJudges': WHATEVER THE INPUT: true; the input reads as it did. -/
def policyJudgesSpec : ChangeSpec := { name := "policyJudges", fn := fun _ => fun
  | [d1, d2, d3, d4] => { results := [.lit (.bool true)], args := [d1, d2, d3, d4] }
  | _ => none }
def policyJudgesRow : OpenClaim := { program := "yteckeagobafoiaagreatdoor", sum := "6046f0c50bce28ed292bfc9535a9cc1544f45645aa2cea5d0d42118871ee2e52", func := "fairlead/fairleadlaw11.PolicyJudges", spec := "policyJudges", inPlace := ["internal/bytealg.IndexByteString", "internal/bytealg.IndexString", "internal/reflectlite.TypeOf", "internal/reflectlite.ValueOf", "(internal/reflectlite.Value).Type", "(internal/reflectlite.Value).IsNil", "(internal/reflectlite.Value).Elem", "(internal/reflectlite.Value).Set"], unfollowed := true, recurses := true, named := ["fairlead/eid.errScheme", "fairlead/eid.errNumber", "fairlead/eid.errName", "internal/bytealg.MaxLen", "fairlead/bib.errTarget", "errors.errorType", "fairlead/eid.errForm", "fairlead/bib.errTag"], apart := false, laid := [("errors.errorType", laid_errors_errorType), ("fairlead/eid.errScheme", laid_fairlead_eid_errScheme), ("fairlead/eid.errName", laid_fairlead_eid_errName), ("fairlead/eid.errNumber", laid_fairlead_eid_errNumber), ("fairlead/eid.errForm", laid_fairlead_eid_errForm), ("fairlead/bib.errTarget", laid_fairlead_bib_errTarget), ("fairlead/bib.errTag", laid_fairlead_bib_errTag)] }
def PolicyJudgesSaid : Prop := policyJudgesRow.holds Tryz.pinned (OpenSpec.ofChange policyJudgesSpec)

/-- ITS FALSE NEIGHBOUR: 'it returns false'. Refute it at one input. -/
def policyJudgesWrong : ChangeSpec := { name := "policyJudges", fn := fun _ => fun
  | [d1, d2, d3, d4] => { results := [.lit (.bool false)], args := [d1, d2, d3, d4] }
  | _ => none }
def PolicyJudgesWrongFalsely : Prop := policyJudgesRow.holds Tryz.pinned (OpenSpec.ofChange policyJudgesWrong)

/-- 'fairleadlaw11.PolicyTags': WHATEVER THE INPUT: true; the input reads as it did. -/
def policyTagsSpec : ChangeSpec := { name := "policyTags", fn := fun _ => fun
  | [d1, d2, d3] => { results := [.lit (.bool true)], args := [d1, d2, d3] }
  | _ => none }
def policyTagsRow : OpenClaim := { program := "yteckeagobafoiaagreatdoor", sum := "6046f0c50bce28ed292bfc9535a9cc1544f45645aa2cea5d0d42118871ee2e52", func := "fairlead/fairleadlaw11.PolicyTags", spec := "policyTags", inPlace := ["internal/bytealg.IndexByteString", "internal/bytealg.IndexString", "internal/reflectlite.TypeOf", "internal/reflectlite.ValueOf", "(internal/reflectlite.Value).Type", "(internal/reflectlite.Value).IsNil", "(internal/reflectlite.Value).Elem", "(internal/reflectlite.Value).Set"], unfollowed := true, recurses := true, named := ["fairlead/eid.errScheme", "fairlead/eid.errNumber", "fairlead/eid.errName", "internal/bytealg.MaxLen", "fairlead/bib.errTarget", "errors.errorType", "fairlead/eid.errForm", "fairlead/bib.errTag"], apart := false, laid := [("errors.errorType", laid_errors_errorType), ("fairlead/eid.errScheme", laid_fairlead_eid_errScheme), ("fairlead/eid.errName", laid_fairlead_eid_errName), ("fairlead/eid.errNumber", laid_fairlead_eid_errNumber), ("fairlead/eid.errForm", laid_fairlead_eid_errForm), ("fairlead/bib.errTarget", laid_fairlead_bib_errTarget), ("fairlead/bib.errTag", laid_fairlead_bib_errTag)] }
def PolicyTagsSaid : Prop := policyTagsRow.holds Tryz.pinned (OpenSpec.ofChange policyTagsSpec)

/-- ITS FALSE NEIGHBOUR: 'it returns false'. Refute it at one input. -/
def policyTagsWrong : ChangeSpec := { name := "policyTags", fn := fun _ => fun
  | [d1, d2, d3] => { results := [.lit (.bool false)], args := [d1, d2, d3] }
  | _ => none }
def PolicyTagsWrongFalsely : Prop := policyTagsRow.holds Tryz.pinned (OpenSpec.ofChange policyTagsWrong)

/-- 'fairleadlaw11.PolicyLess': WHATEVER THE INPUT: true; the input reads as it did. -/
def policyLessSpec : ChangeSpec := { name := "policyLess", fn := fun _ => fun
  | [d1, d2, d3] => { results := [.lit (.bool true)], args := [d1, d2, d3] }
  | _ => none }
def policyLessRow : OpenClaim := { program := "yteckeagobafoiaagreatdoor", sum := "6046f0c50bce28ed292bfc9535a9cc1544f45645aa2cea5d0d42118871ee2e52", func := "fairlead/fairleadlaw11.PolicyLess", spec := "policyLess", inPlace := ["internal/bytealg.IndexByteString", "internal/bytealg.IndexString", "internal/reflectlite.TypeOf", "internal/reflectlite.ValueOf", "(internal/reflectlite.Value).Type", "(internal/reflectlite.Value).IsNil", "(internal/reflectlite.Value).Elem", "(internal/reflectlite.Value).Set"], unfollowed := true, recurses := true, named := ["fairlead/eid.errScheme", "fairlead/eid.errNumber", "fairlead/eid.errName", "internal/bytealg.MaxLen", "fairlead/bib.errTarget", "errors.errorType", "fairlead/eid.errForm", "fairlead/bib.errTag"], apart := false, laid := [("errors.errorType", laid_errors_errorType), ("fairlead/eid.errScheme", laid_fairlead_eid_errScheme), ("fairlead/eid.errName", laid_fairlead_eid_errName), ("fairlead/eid.errNumber", laid_fairlead_eid_errNumber), ("fairlead/eid.errForm", laid_fairlead_eid_errForm), ("fairlead/bib.errTarget", laid_fairlead_bib_errTarget), ("fairlead/bib.errTag", laid_fairlead_bib_errTag)] }
def PolicyLessSaid : Prop := policyLessRow.holds Tryz.pinned (OpenSpec.ofChange policyLessSpec)

/-- ITS FALSE NEIGHBOUR: 'it returns false'. Refute it at one input. -/
def policyLessWrong : ChangeSpec := { name := "policyLess", fn := fun _ => fun
  | [d1, d2, d3] => { results := [.lit (.bool false)], args := [d1, d2, d3] }
  | _ => none }
def PolicyLessWrongFalsely : Prop := policyLessRow.holds Tryz.pinned (OpenSpec.ofChange policyLessWrong)

/-- 'fairleadlaw11.PolicyKeys': WHATEVER THE INPUT: true; the input reads as it did. -/
def policyKeysSpec : ChangeSpec := { name := "policyKeys", fn := fun _ => fun
  | [d1, d2, d3, d4, d5] => { results := [.lit (.bool true)], args := [d1, d2, d3, d4, d5] }
  | _ => none }
def policyKeysRow : OpenClaim := { program := "yteckeagobafoiaagreatdoor", sum := "6046f0c50bce28ed292bfc9535a9cc1544f45645aa2cea5d0d42118871ee2e52", func := "fairlead/fairleadlaw11.PolicyKeys", spec := "policyKeys", inPlace := ["internal/bytealg.IndexByteString", "internal/bytealg.IndexString", "internal/reflectlite.TypeOf", "internal/reflectlite.ValueOf", "(internal/reflectlite.Value).Type", "(internal/reflectlite.Value).IsNil", "(internal/reflectlite.Value).Elem", "(internal/reflectlite.Value).Set"], unfollowed := true, recurses := true, named := ["fairlead/eid.errScheme", "fairlead/eid.errNumber", "fairlead/eid.errName", "internal/bytealg.MaxLen", "fairlead/bib.errTarget", "errors.errorType", "fairlead/eid.errForm", "fairlead/bib.errTag"], apart := false, laid := [("errors.errorType", laid_errors_errorType), ("fairlead/eid.errScheme", laid_fairlead_eid_errScheme), ("fairlead/eid.errName", laid_fairlead_eid_errName), ("fairlead/eid.errNumber", laid_fairlead_eid_errNumber), ("fairlead/eid.errForm", laid_fairlead_eid_errForm), ("fairlead/bib.errTarget", laid_fairlead_bib_errTarget), ("fairlead/bib.errTag", laid_fairlead_bib_errTag)] }
def PolicyKeysSaid : Prop := policyKeysRow.holds Tryz.pinned (OpenSpec.ofChange policyKeysSpec)

/-- ITS FALSE NEIGHBOUR: 'it returns false'. Refute it at one input. -/
def policyKeysWrong : ChangeSpec := { name := "policyKeys", fn := fun _ => fun
  | [d1, d2, d3, d4, d5] => { results := [.lit (.bool false)], args := [d1, d2, d3, d4, d5] }
  | _ => none }
def PolicyKeysWrongFalsely : Prop := policyKeysRow.holds Tryz.pinned (OpenSpec.ofChange policyKeysWrong)

/- THE SECOND FORM. 'bulk': how many values and letters a reading holds, each counted each time it is reached (what is shared counts as often as it is met; a slice's spare places count too). A statement '..UptoSaid' is the law's where the arguments, and the package variables that the reading takes, are together of bulk at most 1048576: NARROWER than '..Said'. Prove '..Said' where nothing that the law and all that it calls make is longer than what came in: it says more and counts as full. Else prove '..UptoSaid'. A law counts once. -/
mutual
def uptoBulk {H : Type} : DataW H → Nat
  | .lit (.string bytes) => bytes.length + 1
  | .lit _ => 1
  | .nil => 1
  | .ptr d => uptoBulk d + 1
  | .slice elems spare => uptoBulkAll elems + uptoBulkAll spare + 1
  | .agg parts => uptoBulkAll parts + 1
  | .iface _ d => uptoBulk d + 1
  | .map entries => uptoBulkEntries entries + 1
  | .held _ => 1
def uptoBulkAll {H : Type} : List (DataW H) → Nat
  | [] => 0
  | d :: r => uptoBulk d + uptoBulkAll r
def uptoBulkEntries {H : Type} : List (Lit × DataW H) → Nat
  | [] => 0
  | x :: r => uptoBulkEntry x + uptoBulkEntries r
def uptoBulkEntry {H : Type} : Lit × DataW H → Nat
  | (.string bytes, d) => bytes.length + uptoBulk d + 1
  | (_, d) => uptoBulk d + 1
 end
def uptoSmall : (H : Type) → List (DataW H) → Bool := fun _ ds => decide (uptoBulkAll ds ≤ 1048576)
def OpenSpec.upto (s : _root_.Go.ChangeSpec) : _root_.Go.OpenSpec := { _root_.Go.OpenSpec.ofChange s with cond := some uptoSmall }

/-- 'fairleadlaw10.BibTwo', WHERE WHAT IT READS IS OF BULK AT MOST 1048576: true; the input reads as it did. -/
def bibTwoUptoRow : OpenClaim := { program := "yteckeagobafoiaagreatdoor", sum := "6046f0c50bce28ed292bfc9535a9cc1544f45645aa2cea5d0d42118871ee2e52", func := "fairlead/fairleadlaw10.BibTwo", spec := "bibTwo", inPlace := ["internal/bytealg.IndexByteString", "internal/bytealg.IndexString", "internal/reflectlite.TypeOf", "internal/reflectlite.ValueOf", "(internal/reflectlite.Value).Type", "(internal/reflectlite.Value).IsNil", "(internal/reflectlite.Value).Elem", "(internal/reflectlite.Value).Set"], unfollowed := true, recurses := true, named := ["fairlead/eid.errScheme", "fairlead/eid.errNumber", "fairlead/eid.errName", "internal/bytealg.MaxLen", "fairlead/eid.errForm", "errors.errorType", "fairlead/bib.errTarget", "fairlead/bib.errTag"], apart := false, laid := [("errors.errorType", laid_errors_errorType), ("fairlead/eid.errScheme", laid_fairlead_eid_errScheme), ("fairlead/eid.errName", laid_fairlead_eid_errName), ("fairlead/eid.errNumber", laid_fairlead_eid_errNumber), ("fairlead/eid.errForm", laid_fairlead_eid_errForm), ("fairlead/bib.errTarget", laid_fairlead_bib_errTarget), ("fairlead/bib.errTag", laid_fairlead_bib_errTag)], narrowed := true }
def BibTwoUptoSaid : Prop := bibTwoUptoRow.holds Tryz.pinned (OpenSpec.upto bibTwoSpec)

/-- 'fairleadlaw10.BibWrites', WHERE WHAT IT READS IS OF BULK AT MOST 1048576: true; the input reads as it did. -/
def bibWritesUptoRow : OpenClaim := { program := "yteckeagobafoiaagreatdoor", sum := "6046f0c50bce28ed292bfc9535a9cc1544f45645aa2cea5d0d42118871ee2e52", func := "fairlead/fairleadlaw10.BibWrites", spec := "bibWrites", inPlace := ["internal/bytealg.IndexByteString", "internal/bytealg.IndexString", "internal/reflectlite.TypeOf", "internal/reflectlite.ValueOf", "(internal/reflectlite.Value).Type", "(internal/reflectlite.Value).IsNil", "(internal/reflectlite.Value).Elem", "(internal/reflectlite.Value).Set"], unfollowed := true, recurses := true, named := ["fairlead/eid.errScheme", "fairlead/eid.errNumber", "fairlead/eid.errName", "internal/bytealg.MaxLen", "fairlead/eid.errForm", "errors.errorType", "fairlead/bib.errTarget", "fairlead/bib.errTag"], apart := false, laid := [("errors.errorType", laid_errors_errorType), ("fairlead/eid.errScheme", laid_fairlead_eid_errScheme), ("fairlead/eid.errName", laid_fairlead_eid_errName), ("fairlead/eid.errNumber", laid_fairlead_eid_errNumber), ("fairlead/eid.errForm", laid_fairlead_eid_errForm), ("fairlead/bib.errTarget", laid_fairlead_bib_errTarget), ("fairlead/bib.errTag", laid_fairlead_bib_errTag)], narrowed := true }
def BibWritesUptoSaid : Prop := bibWritesUptoRow.holds Tryz.pinned (OpenSpec.upto bibWritesSpec)

/-- 'fairleadlaw10.BibSigns', WHERE WHAT IT READS IS OF BULK AT MOST 1048576: true; the input reads as it did. -/
def bibSignsUptoRow : OpenClaim := { program := "yteckeagobafoiaagreatdoor", sum := "6046f0c50bce28ed292bfc9535a9cc1544f45645aa2cea5d0d42118871ee2e52", func := "fairlead/fairleadlaw10.BibSigns", spec := "bibSigns", inPlace := ["internal/bytealg.IndexByteString", "internal/bytealg.IndexString", "internal/reflectlite.TypeOf", "internal/reflectlite.ValueOf", "(internal/reflectlite.Value).Type", "(internal/reflectlite.Value).IsNil", "(internal/reflectlite.Value).Elem", "(internal/reflectlite.Value).Set"], unfollowed := true, recurses := true, named := ["fairlead/eid.errScheme", "fairlead/eid.errNumber", "fairlead/eid.errName", "internal/bytealg.MaxLen", "fairlead/eid.errForm", "errors.errorType", "fairlead/bib.errTarget", "fairlead/bib.errTag"], apart := false, laid := [("errors.errorType", laid_errors_errorType), ("fairlead/eid.errScheme", laid_fairlead_eid_errScheme), ("fairlead/eid.errName", laid_fairlead_eid_errName), ("fairlead/eid.errNumber", laid_fairlead_eid_errNumber), ("fairlead/eid.errForm", laid_fairlead_eid_errForm), ("fairlead/bib.errTarget", laid_fairlead_bib_errTarget), ("fairlead/bib.errTag", laid_fairlead_bib_errTag)], narrowed := true }
def BibSignsUptoSaid : Prop := bibSignsUptoRow.holds Tryz.pinned (OpenSpec.upto bibSignsSpec)

/-- 'fairleadlaw10.BibVerifies', WHERE WHAT IT READS IS OF BULK AT MOST 1048576: true; the input reads as it did. -/
def bibVerifiesUptoRow : OpenClaim := { program := "yteckeagobafoiaagreatdoor", sum := "6046f0c50bce28ed292bfc9535a9cc1544f45645aa2cea5d0d42118871ee2e52", func := "fairlead/fairleadlaw10.BibVerifies", spec := "bibVerifies", inPlace := ["internal/bytealg.IndexByteString", "internal/bytealg.IndexString", "internal/reflectlite.TypeOf", "internal/reflectlite.ValueOf", "(internal/reflectlite.Value).Type", "(internal/reflectlite.Value).IsNil", "(internal/reflectlite.Value).Elem", "(internal/reflectlite.Value).Set"], unfollowed := true, recurses := true, named := ["fairlead/eid.errScheme", "fairlead/eid.errNumber", "fairlead/eid.errName", "internal/bytealg.MaxLen", "fairlead/eid.errForm", "errors.errorType", "fairlead/bib.errTarget", "fairlead/bib.errTag"], apart := false, laid := [("errors.errorType", laid_errors_errorType), ("fairlead/eid.errScheme", laid_fairlead_eid_errScheme), ("fairlead/eid.errName", laid_fairlead_eid_errName), ("fairlead/eid.errNumber", laid_fairlead_eid_errNumber), ("fairlead/eid.errForm", laid_fairlead_eid_errForm), ("fairlead/bib.errTarget", laid_fairlead_bib_errTarget), ("fairlead/bib.errTag", laid_fairlead_bib_errTag)], narrowed := true }
def BibVerifiesUptoSaid : Prop := bibVerifiesUptoRow.holds Tryz.pinned (OpenSpec.upto bibVerifiesSpec)

/-- 'fairleadlaw10.BibBack', WHERE WHAT IT READS IS OF BULK AT MOST 1048576: true; the input reads as it did. -/
def bibBackUptoRow : OpenClaim := { program := "yteckeagobafoiaagreatdoor", sum := "6046f0c50bce28ed292bfc9535a9cc1544f45645aa2cea5d0d42118871ee2e52", func := "fairlead/fairleadlaw10.BibBack", spec := "bibBack", inPlace := ["internal/bytealg.IndexByteString", "internal/bytealg.IndexString", "internal/reflectlite.TypeOf", "internal/reflectlite.ValueOf", "(internal/reflectlite.Value).Type", "(internal/reflectlite.Value).IsNil", "(internal/reflectlite.Value).Elem", "(internal/reflectlite.Value).Set"], unfollowed := true, recurses := true, named := ["fairlead/eid.errScheme", "fairlead/eid.errNumber", "fairlead/eid.errName", "internal/bytealg.MaxLen", "fairlead/eid.errForm", "errors.errorType", "fairlead/bib.errTarget", "fairlead/bib.errTag"], apart := false, laid := [("errors.errorType", laid_errors_errorType), ("fairlead/eid.errScheme", laid_fairlead_eid_errScheme), ("fairlead/eid.errName", laid_fairlead_eid_errName), ("fairlead/eid.errNumber", laid_fairlead_eid_errNumber), ("fairlead/eid.errForm", laid_fairlead_eid_errForm), ("fairlead/bib.errTarget", laid_fairlead_bib_errTarget), ("fairlead/bib.errTag", laid_fairlead_bib_errTag)], narrowed := true }
def BibBackUptoSaid : Prop := bibBackUptoRow.holds Tryz.pinned (OpenSpec.upto bibBackSpec)

/-- 'fairleadlaw10.BibTags', WHERE WHAT IT READS IS OF BULK AT MOST 1048576: true; the input reads as it did. -/
def bibTagsUptoRow : OpenClaim := { program := "yteckeagobafoiaagreatdoor", sum := "6046f0c50bce28ed292bfc9535a9cc1544f45645aa2cea5d0d42118871ee2e52", func := "fairlead/fairleadlaw10.BibTags", spec := "bibTags", inPlace := ["internal/bytealg.IndexByteString", "internal/bytealg.IndexString", "internal/reflectlite.TypeOf", "internal/reflectlite.ValueOf", "(internal/reflectlite.Value).Type", "(internal/reflectlite.Value).IsNil", "(internal/reflectlite.Value).Elem", "(internal/reflectlite.Value).Set"], unfollowed := true, recurses := true, named := ["fairlead/eid.errScheme", "fairlead/eid.errNumber", "fairlead/eid.errName", "internal/bytealg.MaxLen", "fairlead/eid.errForm", "errors.errorType", "fairlead/bib.errTarget", "fairlead/bib.errTag"], apart := false, laid := [("errors.errorType", laid_errors_errorType), ("fairlead/eid.errScheme", laid_fairlead_eid_errScheme), ("fairlead/eid.errName", laid_fairlead_eid_errName), ("fairlead/eid.errNumber", laid_fairlead_eid_errNumber), ("fairlead/eid.errForm", laid_fairlead_eid_errForm), ("fairlead/bib.errTarget", laid_fairlead_bib_errTarget), ("fairlead/bib.errTag", laid_fairlead_bib_errTag)], narrowed := true }
def BibTagsUptoSaid : Prop := bibTagsUptoRow.holds Tryz.pinned (OpenSpec.upto bibTagsSpec)

/-- 'fairleadlaw11.PolicyJudges', WHERE WHAT IT READS IS OF BULK AT MOST 1048576: true; the input reads as it did. -/
def policyJudgesUptoRow : OpenClaim := { program := "yteckeagobafoiaagreatdoor", sum := "6046f0c50bce28ed292bfc9535a9cc1544f45645aa2cea5d0d42118871ee2e52", func := "fairlead/fairleadlaw11.PolicyJudges", spec := "policyJudges", inPlace := ["internal/bytealg.IndexByteString", "internal/bytealg.IndexString", "internal/reflectlite.TypeOf", "internal/reflectlite.ValueOf", "(internal/reflectlite.Value).Type", "(internal/reflectlite.Value).IsNil", "(internal/reflectlite.Value).Elem", "(internal/reflectlite.Value).Set"], unfollowed := true, recurses := true, named := ["fairlead/eid.errScheme", "fairlead/eid.errNumber", "fairlead/eid.errName", "internal/bytealg.MaxLen", "fairlead/bib.errTarget", "errors.errorType", "fairlead/eid.errForm", "fairlead/bib.errTag"], apart := false, laid := [("errors.errorType", laid_errors_errorType), ("fairlead/eid.errScheme", laid_fairlead_eid_errScheme), ("fairlead/eid.errName", laid_fairlead_eid_errName), ("fairlead/eid.errNumber", laid_fairlead_eid_errNumber), ("fairlead/eid.errForm", laid_fairlead_eid_errForm), ("fairlead/bib.errTarget", laid_fairlead_bib_errTarget), ("fairlead/bib.errTag", laid_fairlead_bib_errTag)], narrowed := true }
def PolicyJudgesUptoSaid : Prop := policyJudgesUptoRow.holds Tryz.pinned (OpenSpec.upto policyJudgesSpec)

/-- 'fairleadlaw11.PolicyTags', WHERE WHAT IT READS IS OF BULK AT MOST 1048576: true; the input reads as it did. -/
def policyTagsUptoRow : OpenClaim := { program := "yteckeagobafoiaagreatdoor", sum := "6046f0c50bce28ed292bfc9535a9cc1544f45645aa2cea5d0d42118871ee2e52", func := "fairlead/fairleadlaw11.PolicyTags", spec := "policyTags", inPlace := ["internal/bytealg.IndexByteString", "internal/bytealg.IndexString", "internal/reflectlite.TypeOf", "internal/reflectlite.ValueOf", "(internal/reflectlite.Value).Type", "(internal/reflectlite.Value).IsNil", "(internal/reflectlite.Value).Elem", "(internal/reflectlite.Value).Set"], unfollowed := true, recurses := true, named := ["fairlead/eid.errScheme", "fairlead/eid.errNumber", "fairlead/eid.errName", "internal/bytealg.MaxLen", "fairlead/bib.errTarget", "errors.errorType", "fairlead/eid.errForm", "fairlead/bib.errTag"], apart := false, laid := [("errors.errorType", laid_errors_errorType), ("fairlead/eid.errScheme", laid_fairlead_eid_errScheme), ("fairlead/eid.errName", laid_fairlead_eid_errName), ("fairlead/eid.errNumber", laid_fairlead_eid_errNumber), ("fairlead/eid.errForm", laid_fairlead_eid_errForm), ("fairlead/bib.errTarget", laid_fairlead_bib_errTarget), ("fairlead/bib.errTag", laid_fairlead_bib_errTag)], narrowed := true }
def PolicyTagsUptoSaid : Prop := policyTagsUptoRow.holds Tryz.pinned (OpenSpec.upto policyTagsSpec)

/-- 'fairleadlaw11.PolicyLess', WHERE WHAT IT READS IS OF BULK AT MOST 1048576: true; the input reads as it did. -/
def policyLessUptoRow : OpenClaim := { program := "yteckeagobafoiaagreatdoor", sum := "6046f0c50bce28ed292bfc9535a9cc1544f45645aa2cea5d0d42118871ee2e52", func := "fairlead/fairleadlaw11.PolicyLess", spec := "policyLess", inPlace := ["internal/bytealg.IndexByteString", "internal/bytealg.IndexString", "internal/reflectlite.TypeOf", "internal/reflectlite.ValueOf", "(internal/reflectlite.Value).Type", "(internal/reflectlite.Value).IsNil", "(internal/reflectlite.Value).Elem", "(internal/reflectlite.Value).Set"], unfollowed := true, recurses := true, named := ["fairlead/eid.errScheme", "fairlead/eid.errNumber", "fairlead/eid.errName", "internal/bytealg.MaxLen", "fairlead/bib.errTarget", "errors.errorType", "fairlead/eid.errForm", "fairlead/bib.errTag"], apart := false, laid := [("errors.errorType", laid_errors_errorType), ("fairlead/eid.errScheme", laid_fairlead_eid_errScheme), ("fairlead/eid.errName", laid_fairlead_eid_errName), ("fairlead/eid.errNumber", laid_fairlead_eid_errNumber), ("fairlead/eid.errForm", laid_fairlead_eid_errForm), ("fairlead/bib.errTarget", laid_fairlead_bib_errTarget), ("fairlead/bib.errTag", laid_fairlead_bib_errTag)], narrowed := true }
def PolicyLessUptoSaid : Prop := policyLessUptoRow.holds Tryz.pinned (OpenSpec.upto policyLessSpec)

/-- 'fairleadlaw11.PolicyKeys', WHERE WHAT IT READS IS OF BULK AT MOST 1048576: true; the input reads as it did. -/
def policyKeysUptoRow : OpenClaim := { program := "yteckeagobafoiaagreatdoor", sum := "6046f0c50bce28ed292bfc9535a9cc1544f45645aa2cea5d0d42118871ee2e52", func := "fairlead/fairleadlaw11.PolicyKeys", spec := "policyKeys", inPlace := ["internal/bytealg.IndexByteString", "internal/bytealg.IndexString", "internal/reflectlite.TypeOf", "internal/reflectlite.ValueOf", "(internal/reflectlite.Value).Type", "(internal/reflectlite.Value).IsNil", "(internal/reflectlite.Value).Elem", "(internal/reflectlite.Value).Set"], unfollowed := true, recurses := true, named := ["fairlead/eid.errScheme", "fairlead/eid.errNumber", "fairlead/eid.errName", "internal/bytealg.MaxLen", "fairlead/bib.errTarget", "errors.errorType", "fairlead/eid.errForm", "fairlead/bib.errTag"], apart := false, laid := [("errors.errorType", laid_errors_errorType), ("fairlead/eid.errScheme", laid_fairlead_eid_errScheme), ("fairlead/eid.errName", laid_fairlead_eid_errName), ("fairlead/eid.errNumber", laid_fairlead_eid_errNumber), ("fairlead/eid.errForm", laid_fairlead_eid_errForm), ("fairlead/bib.errTarget", laid_fairlead_bib_errTarget), ("fairlead/bib.errTag", laid_fairlead_bib_errTag)], narrowed := true }
def PolicyKeysUptoSaid : Prop := policyKeysUptoRow.holds Tryz.pinned (OpenSpec.upto policyKeysSpec)

end Rows
end Go.Proofs.YteckeagobafoiaaGreatDoor
