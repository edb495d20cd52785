/-
  NARROWER THAN 'FOR EVERY INPUT', by the rows' own cells (each row's printed sentence says how): EidTells: laid · EidReads: loops, laid · BlockReads: laid · BlockTells: loops, laid · BlockMakes: laid · BundleWrites: laid · IpptGrows: laid · IpptPlain: laid · IpptCovers: laid · IpptOthers: laid.
  DERIVED. THE GIVEN ROWS OF THIS SEAT. 10 by the template 'for every input the law returns true; each argument reads behind the call as it read before'; 0 by the template 'total and deterministic' (their statements: YtlecbblmaadpiaaGreatDoorTotals.lean).
  GIVEN WITH THE SEED: the statements are not yours to turn. If you find one false, say at which input.
  Laid BY PROGRAM, IN A SANDBOX (cutbox-rows.mjs): the forced cells as the released guide's own fill.sh prints them over the translation 42e0454c15aef075… (all of the seat's roots in one cut). By AI agents, Wed Nov 11 2026. No macro, syntax, notation, axiom, sorry.
-/
import Derived.Test.YtlecbblmaadpiaaGreatDoorChecked
import GoSem.Claim
import GoSem.ClaimJoined
import GoSem.ClaimMapViews
import Derived.JoinedTies
import Derived.KernelRfl
namespace Go.Proofs.YtlecbblmaadpiaaGreatDoor
/- THE CELL 'sum', in the pinned program and in every row, IS THE sha256 OF THE DUMP (.gsa) THAT YtlecbblmaadpiaaGreatDoorProg.lean LOADS. Nothing in Lean hashes anything: it is a label: what it is worth is what the hold of that sum in a sandbox is worth. -/
noncomputable def Tryz.pinned : Pinned := { name := "ytlecbblmaadpiaagreatdoor", sum := "42e0454c15aef0750b349f2aeab75067ca26593826ca9be1a6540a352f360a1e", checked := Tryz.checked }
namespace Rows
def none {H : Type} : Left H := { results := [], args := [] }

/- WHAT THE LISTED PACKAGE-LEVEL VARIABLES READ AS WHEN THE CALL BEGINS. Each datum BY PROGRAM (the guide's laid-datum.mjs) off the statement by which the dump's own 'gosem.cut.vars' lays the variable. In a bare row this is a premise. The card (YtlecbblmaadpiaaGreatDoorCards.lean) ties it to the program's text. -/
def laid_math_bits_deBruijn32tab {H : Type} : DataW H := .agg [.lit (.int .u8 0), .lit (.int .u8 1), .lit (.int .u8 28), .lit (.int .u8 2), .lit (.int .u8 29), .lit (.int .u8 14), .lit (.int .u8 24), .lit (.int .u8 3), .lit (.int .u8 30), .lit (.int .u8 22), .lit (.int .u8 20), .lit (.int .u8 15), .lit (.int .u8 25), .lit (.int .u8 17), .lit (.int .u8 4), .lit (.int .u8 8), .lit (.int .u8 31), .lit (.int .u8 27), .lit (.int .u8 13), .lit (.int .u8 23), .lit (.int .u8 21), .lit (.int .u8 19), .lit (.int .u8 16), .lit (.int .u8 7), .lit (.int .u8 26), .lit (.int .u8 12), .lit (.int .u8 18), .lit (.int .u8 6), .lit (.int .u8 11), .lit (.int .u8 5), .lit (.int .u8 10), .lit (.int .u8 9)]
def laid_math_bits_deBruijn64tab {H : Type} : DataW H := .agg [.lit (.int .u8 0), .lit (.int .u8 1), .lit (.int .u8 56), .lit (.int .u8 2), .lit (.int .u8 57), .lit (.int .u8 49), .lit (.int .u8 28), .lit (.int .u8 3), .lit (.int .u8 61), .lit (.int .u8 58), .lit (.int .u8 42), .lit (.int .u8 50), .lit (.int .u8 38), .lit (.int .u8 29), .lit (.int .u8 17), .lit (.int .u8 4), .lit (.int .u8 62), .lit (.int .u8 47), .lit (.int .u8 59), .lit (.int .u8 36), .lit (.int .u8 45), .lit (.int .u8 43), .lit (.int .u8 51), .lit (.int .u8 22), .lit (.int .u8 53), .lit (.int .u8 39), .lit (.int .u8 33), .lit (.int .u8 30), .lit (.int .u8 24), .lit (.int .u8 18), .lit (.int .u8 12), .lit (.int .u8 5), .lit (.int .u8 63), .lit (.int .u8 55), .lit (.int .u8 48), .lit (.int .u8 27), .lit (.int .u8 60), .lit (.int .u8 41), .lit (.int .u8 37), .lit (.int .u8 16), .lit (.int .u8 46), .lit (.int .u8 35), .lit (.int .u8 44), .lit (.int .u8 21), .lit (.int .u8 52), .lit (.int .u8 32), .lit (.int .u8 23), .lit (.int .u8 11), .lit (.int .u8 54), .lit (.int .u8 26), .lit (.int .u8 40), .lit (.int .u8 15), .lit (.int .u8 34), .lit (.int .u8 20), .lit (.int .u8 31), .lit (.int .u8 10), .lit (.int .u8 25), .lit (.int .u8 14), .lit (.int .u8 19), .lit (.int .u8 9), .lit (.int .u8 13), .lit (.int .u8 8), .lit (.int .u8 7), .lit (.int .u8 6)]
def laid_internal_strconv_uint64pow10 {H : Type} : DataW H := .agg [.lit (.int .u64 1), .lit (.int .u64 10), .lit (.int .u64 100), .lit (.int .u64 1000), .lit (.int .u64 10000), .lit (.int .u64 100000), .lit (.int .u64 1000000), .lit (.int .u64 10000000), .lit (.int .u64 100000000), .lit (.int .u64 1000000000), .lit (.int .u64 10000000000), .lit (.int .u64 100000000000), .lit (.int .u64 1000000000000), .lit (.int .u64 10000000000000), .lit (.int .u64 100000000000000), .lit (.int .u64 1000000000000000), .lit (.int .u64 10000000000000000), .lit (.int .u64 100000000000000000), .lit (.int .u64 1000000000000000000), .lit (.int .u64 10000000000000000000)]
def laid_strconv_ErrRange {H : Type} : DataW H := .iface "*errors.errorString" (.ptr (.agg [.lit (.string [118, 97, 108, 117, 101, 32, 111, 117, 116, 32, 111, 102, 32, 114, 97, 110, 103, 101])]))
def laid_strconv_ErrSyntax {H : Type} : DataW H := .iface "*errors.errorString" (.ptr (.agg [.lit (.string [105, 110, 118, 97, 108, 105, 100, 32, 115, 121, 110, 116, 97, 120])]))
def laid_fairlead_eid_errScheme {H : Type} : DataW H := .iface "*errors.errorString" (.ptr (.agg [.lit (.string [110, 111, 32, 115, 117, 99, 104, 32, 115, 99, 104, 101, 109, 101])]))
def laid_fairlead_eid_errName {H : Type} : DataW H := .iface "*errors.errorString" (.ptr (.agg [.lit (.string [97, 32, 110, 97, 109, 101, 32, 116, 104, 97, 116, 32, 109, 97, 121, 32, 110, 111, 116, 32, 98, 101])]))
def laid_fairlead_eid_errNumber {H : Type} : DataW H := .iface "*errors.errorString" (.ptr (.agg [.lit (.string [97, 32, 110, 117, 109, 98, 101, 114, 32, 116, 104, 97, 116, 32, 109, 97, 121, 32, 110, 111, 116, 32, 98, 101])]))
def laid_fairlead_eid_errForm {H : Type} : DataW H := .iface "*errors.errorString" (.ptr (.agg [.lit (.string [97, 110, 111, 116, 104, 101, 114, 32, 102, 111, 114, 109, 32, 116, 104, 97, 110, 32, 116, 104, 101, 32, 101, 110, 100, 112, 111, 105, 110, 116, 39, 115])]))
def laid_errors_errorType {H : Type} : DataW H := .iface "internal/reflectlite.rtype" (.agg [.ptr (.lit (.string [101, 114, 114, 111, 114]))])

/-- 'fairleadlaw04.EidTells': WHATEVER THE INPUT: true; the input reads as it did. -/
def eidTellsSpec : ChangeSpec := { name := "eidTells", fn := fun _ => fun
  | [d] => { results := [.lit (.bool true)], args := [d] }
  | _ => none }
def eidTellsRow : OpenClaim := { program := "ytlecbblmaadpiaagreatdoor", sum := "42e0454c15aef0750b349f2aeab75067ca26593826ca9be1a6540a352f360a1e", func := "fairlead/fairleadlaw04.EidTells", spec := "eidTells", inPlace := ["internal/bytealg.IndexByteString", "internal/bytealg.IndexString", "internal/reflectlite.TypeOf"], unfollowed := true, recurses := true, named := ["fairlead/eid.errScheme", "fairlead/eid.errNumber", "fairlead/eid.errName", "internal/bytealg.MaxLen", "fairlead/eid.errForm", "strconv.ErrSyntax", "strconv.ErrRange", "internal/strconv.uint64pow10", "math/bits.deBruijn32tab", "math/bits.deBruijn64tab"], apart := false, laid := [("math/bits.deBruijn32tab", laid_math_bits_deBruijn32tab), ("math/bits.deBruijn64tab", laid_math_bits_deBruijn64tab), ("internal/strconv.uint64pow10", laid_internal_strconv_uint64pow10), ("strconv.ErrRange", laid_strconv_ErrRange), ("strconv.ErrSyntax", laid_strconv_ErrSyntax), ("fairlead/eid.errScheme", laid_fairlead_eid_errScheme), ("fairlead/eid.errName", laid_fairlead_eid_errName), ("fairlead/eid.errNumber", laid_fairlead_eid_errNumber), ("fairlead/eid.errForm", laid_fairlead_eid_errForm)] }
def EidTellsSaid : Prop := eidTellsRow.holds Tryz.pinned (OpenSpec.ofChange eidTellsSpec)

/-- ITS FALSE NEIGHBOUR: 'it returns false'. Refute it at one input. -/
def eidTellsWrong : ChangeSpec := { name := "eidTells", fn := fun _ => fun
  | [d] => { results := [.lit (.bool false)], args := [d] }
  | _ => none }
def EidTellsWrongFalsely : Prop := eidTellsRow.holds Tryz.pinned (OpenSpec.ofChange eidTellsWrong)

/-- 'fairleadlaw04.EidReads': WHATEVER THE INPUT: true; the input reads as it did. -/
def eidReadsSpec : ChangeSpec := { name := "eidReads", fn := fun _ => fun
  | [d1, d2] => { results := [.lit (.bool true)], args := [d1, d2] }
  | _ => none }
def eidReadsRow : OpenClaim := { program := "ytlecbblmaadpiaagreatdoor", sum := "42e0454c15aef0750b349f2aeab75067ca26593826ca9be1a6540a352f360a1e", func := "fairlead/fairleadlaw04.EidReads", spec := "eidReads", inPlace := ["internal/bytealg.IndexByteString", "internal/bytealg.IndexString", "internal/reflectlite.TypeOf"], unfollowed := true, recurses := true, named := ["fairlead/eid.errForm", "fairlead/eid.errScheme", "fairlead/eid.errNumber", "internal/bytealg.MaxLen", "strconv.ErrSyntax", "strconv.ErrRange", "internal/strconv.uint64pow10", "math/bits.deBruijn32tab", "math/bits.deBruijn64tab", "fairlead/eid.errName"], loops := true, apart := false, laid := [("math/bits.deBruijn32tab", laid_math_bits_deBruijn32tab), ("math/bits.deBruijn64tab", laid_math_bits_deBruijn64tab), ("internal/strconv.uint64pow10", laid_internal_strconv_uint64pow10), ("strconv.ErrRange", laid_strconv_ErrRange), ("strconv.ErrSyntax", laid_strconv_ErrSyntax), ("fairlead/eid.errScheme", laid_fairlead_eid_errScheme), ("fairlead/eid.errName", laid_fairlead_eid_errName), ("fairlead/eid.errNumber", laid_fairlead_eid_errNumber), ("fairlead/eid.errForm", laid_fairlead_eid_errForm)] }
def EidReadsSaid : Prop := eidReadsRow.holds Tryz.pinned (OpenSpec.ofChange eidReadsSpec)

/-- ITS FALSE NEIGHBOUR: 'it returns false'. Refute it at one input. -/
def eidReadsWrong : ChangeSpec := { name := "eidReads", fn := fun _ => fun
  | [d1, d2] => { results := [.lit (.bool false)], args := [d1, d2] }
  | _ => none }
def EidReadsWrongFalsely : Prop := eidReadsRow.holds Tryz.pinned (OpenSpec.ofChange eidReadsWrong)

/-- 'fairleadlaw05.BlockReads': WHATEVER THE INPUT: true; the input reads as it did. -/
def blockReadsSpec : ChangeSpec := { name := "blockReads", fn := fun _ => fun
  | [d] => { results := [.lit (.bool true)], args := [d] }
  | _ => none }
def blockReadsRow : OpenClaim := { program := "ytlecbblmaadpiaagreatdoor", sum := "42e0454c15aef0750b349f2aeab75067ca26593826ca9be1a6540a352f360a1e", func := "fairlead/fairleadlaw05.BlockReads", spec := "blockReads", inPlace := ["internal/reflectlite.ValueOf", "(internal/reflectlite.Value).Type", "(internal/reflectlite.Value).IsNil", "internal/reflectlite.TypeOf", "(internal/reflectlite.Value).Elem", "(internal/reflectlite.Value).Set"], unfollowed := true, recurses := true, named := ["errors.errorType"], apart := false, laid := [("errors.errorType", laid_errors_errorType)] }
def BlockReadsSaid : Prop := blockReadsRow.holds Tryz.pinned (OpenSpec.ofChange blockReadsSpec)

/-- ITS FALSE NEIGHBOUR: 'it returns false'. Refute it at one input. -/
def blockReadsWrong : ChangeSpec := { name := "blockReads", fn := fun _ => fun
  | [d] => { results := [.lit (.bool false)], args := [d] }
  | _ => none }
def BlockReadsWrongFalsely : Prop := blockReadsRow.holds Tryz.pinned (OpenSpec.ofChange blockReadsWrong)

/-- 'fairleadlaw05.BlockTells': WHATEVER THE INPUT: true; the input reads as it did. -/
def blockTellsSpec : ChangeSpec := { name := "blockTells", fn := fun _ => fun
  | [d1, d2, d3, d4] => { results := [.lit (.bool true)], args := [d1, d2, d3, d4] }
  | _ => none }
def blockTellsRow : OpenClaim := { program := "ytlecbblmaadpiaagreatdoor", sum := "42e0454c15aef0750b349f2aeab75067ca26593826ca9be1a6540a352f360a1e", func := "fairlead/fairleadlaw05.BlockTells", spec := "blockTells", inPlace := ["internal/reflectlite.ValueOf", "(internal/reflectlite.Value).Type", "(internal/reflectlite.Value).IsNil", "internal/reflectlite.TypeOf", "(internal/reflectlite.Value).Elem", "(internal/reflectlite.Value).Set", "internal/bytealg.IndexByteString", "internal/bytealg.IndexString"], unfollowed := true, recurses := true, named := ["errors.errorType", "fairlead/eid.errForm", "fairlead/eid.errScheme", "fairlead/eid.errNumber", "fairlead/eid.errName", "internal/bytealg.MaxLen"], loops := true, apart := false, laid := [("errors.errorType", laid_errors_errorType), ("fairlead/eid.errScheme", laid_fairlead_eid_errScheme), ("fairlead/eid.errName", laid_fairlead_eid_errName), ("fairlead/eid.errNumber", laid_fairlead_eid_errNumber), ("fairlead/eid.errForm", laid_fairlead_eid_errForm)] }
def BlockTellsSaid : Prop := blockTellsRow.holds Tryz.pinned (OpenSpec.ofChange blockTellsSpec)

/-- ITS FALSE NEIGHBOUR: 'it returns false'. Refute it at one input. -/
def blockTellsWrong : ChangeSpec := { name := "blockTells", fn := fun _ => fun
  | [d1, d2, d3, d4] => { results := [.lit (.bool false)], args := [d1, d2, d3, d4] }
  | _ => none }
def BlockTellsWrongFalsely : Prop := blockTellsRow.holds Tryz.pinned (OpenSpec.ofChange blockTellsWrong)

/-- 'fairleadlaw05.BlockMakes': WHATEVER THE INPUT: true; the input reads as it did. -/
def blockMakesSpec : ChangeSpec := { name := "blockMakes", fn := fun _ => fun
  | [d1, d2, d3] => { results := [.lit (.bool true)], args := [d1, d2, d3] }
  | _ => none }
def blockMakesRow : OpenClaim := { program := "ytlecbblmaadpiaagreatdoor", sum := "42e0454c15aef0750b349f2aeab75067ca26593826ca9be1a6540a352f360a1e", func := "fairlead/fairleadlaw05.BlockMakes", spec := "blockMakes", inPlace := ["internal/reflectlite.ValueOf", "(internal/reflectlite.Value).Type", "(internal/reflectlite.Value).IsNil", "internal/reflectlite.TypeOf", "(internal/reflectlite.Value).Elem", "(internal/reflectlite.Value).Set", "internal/bytealg.IndexByteString", "internal/bytealg.IndexString"], unfollowed := true, recurses := true, named := ["errors.errorType", "fairlead/eid.errForm", "fairlead/eid.errScheme", "fairlead/eid.errNumber", "fairlead/eid.errName", "internal/bytealg.MaxLen"], apart := false, laid := [("errors.errorType", laid_errors_errorType), ("fairlead/eid.errScheme", laid_fairlead_eid_errScheme), ("fairlead/eid.errName", laid_fairlead_eid_errName), ("fairlead/eid.errNumber", laid_fairlead_eid_errNumber), ("fairlead/eid.errForm", laid_fairlead_eid_errForm)] }
def BlockMakesSaid : Prop := blockMakesRow.holds Tryz.pinned (OpenSpec.ofChange blockMakesSpec)

/-- ITS FALSE NEIGHBOUR: 'it returns false'. Refute it at one input. -/
def blockMakesWrong : ChangeSpec := { name := "blockMakes", fn := fun _ => fun
  | [d1, d2, d3] => { results := [.lit (.bool false)], args := [d1, d2, d3] }
  | _ => none }
def BlockMakesWrongFalsely : Prop := blockMakesRow.holds Tryz.pinned (OpenSpec.ofChange blockMakesWrong)

/-- 'fairleadlaw06.BundleWrites': WHATEVER THE INPUT: true; the input reads as it did. -/
def bundleWritesSpec : ChangeSpec := { name := "bundleWrites", fn := fun _ => fun
  | [d] => { results := [.lit (.bool true)], args := [d] }
  | _ => none }
def bundleWritesRow : OpenClaim := { program := "ytlecbblmaadpiaagreatdoor", sum := "42e0454c15aef0750b349f2aeab75067ca26593826ca9be1a6540a352f360a1e", func := "fairlead/fairleadlaw06.BundleWrites", spec := "bundleWrites", inPlace := ["internal/bytealg.IndexByteString", "internal/bytealg.IndexString", "internal/reflectlite.TypeOf", "internal/reflectlite.ValueOf", "(internal/reflectlite.Value).Type", "(internal/reflectlite.Value).IsNil", "(internal/reflectlite.Value).Elem", "(internal/reflectlite.Value).Set"], unfollowed := true, recurses := true, named := ["fairlead/eid.errScheme", "fairlead/eid.errNumber", "fairlead/eid.errName", "internal/bytealg.MaxLen", "fairlead/eid.errForm", "errors.errorType"], apart := false, laid := [("errors.errorType", laid_errors_errorType), ("fairlead/eid.errScheme", laid_fairlead_eid_errScheme), ("fairlead/eid.errName", laid_fairlead_eid_errName), ("fairlead/eid.errNumber", laid_fairlead_eid_errNumber), ("fairlead/eid.errForm", laid_fairlead_eid_errForm)] }
def BundleWritesSaid : Prop := bundleWritesRow.holds Tryz.pinned (OpenSpec.ofChange bundleWritesSpec)

/-- ITS FALSE NEIGHBOUR: 'it returns false'. Refute it at one input. -/
def bundleWritesWrong : ChangeSpec := { name := "bundleWrites", fn := fun _ => fun
  | [d] => { results := [.lit (.bool false)], args := [d] }
  | _ => none }
def BundleWritesWrongFalsely : Prop := bundleWritesRow.holds Tryz.pinned (OpenSpec.ofChange bundleWritesWrong)

/-- 'fairleadlaw09.IpptGrows': WHATEVER THE INPUT: true; the input reads as it did. -/
def ipptGrowsSpec : ChangeSpec := { name := "ipptGrows", fn := fun _ => fun
  | [d1, d2, d3] => { results := [.lit (.bool true)], args := [d1, d2, d3] }
  | _ => none }
def ipptGrowsRow : OpenClaim := { program := "ytlecbblmaadpiaagreatdoor", sum := "42e0454c15aef0750b349f2aeab75067ca26593826ca9be1a6540a352f360a1e", func := "fairlead/fairleadlaw09.IpptGrows", spec := "ipptGrows", inPlace := ["internal/bytealg.IndexByteString", "internal/bytealg.IndexString", "internal/reflectlite.TypeOf", "internal/reflectlite.ValueOf", "(internal/reflectlite.Value).Type", "(internal/reflectlite.Value).IsNil", "(internal/reflectlite.Value).Elem", "(internal/reflectlite.Value).Set"], unfollowed := true, recurses := true, named := ["fairlead/eid.errScheme", "fairlead/eid.errNumber", "fairlead/eid.errName", "internal/bytealg.MaxLen", "fairlead/eid.errForm", "errors.errorType"], apart := false, laid := [("errors.errorType", laid_errors_errorType), ("fairlead/eid.errScheme", laid_fairlead_eid_errScheme), ("fairlead/eid.errName", laid_fairlead_eid_errName), ("fairlead/eid.errNumber", laid_fairlead_eid_errNumber), ("fairlead/eid.errForm", laid_fairlead_eid_errForm)] }
def IpptGrowsSaid : Prop := ipptGrowsRow.holds Tryz.pinned (OpenSpec.ofChange ipptGrowsSpec)

/-- ITS FALSE NEIGHBOUR: 'it returns false'. Refute it at one input. -/
def ipptGrowsWrong : ChangeSpec := { name := "ipptGrows", fn := fun _ => fun
  | [d1, d2, d3] => { results := [.lit (.bool false)], args := [d1, d2, d3] }
  | _ => none }
def IpptGrowsWrongFalsely : Prop := ipptGrowsRow.holds Tryz.pinned (OpenSpec.ofChange ipptGrowsWrong)

/-- 'fairleadlaw09.IpptPlain': WHATEVER THE INPUT: true; the input reads as it did. -/
def ipptPlainSpec : ChangeSpec := { name := "ipptPlain", fn := fun _ => fun
  | [d1, d2, d3, d4, d5, d6] => { results := [.lit (.bool true)], args := [d1, d2, d3, d4, d5, d6] }
  | _ => none }
def ipptPlainRow : OpenClaim := { program := "ytlecbblmaadpiaagreatdoor", sum := "42e0454c15aef0750b349f2aeab75067ca26593826ca9be1a6540a352f360a1e", func := "fairlead/fairleadlaw09.IpptPlain", spec := "ipptPlain", inPlace := ["internal/bytealg.IndexByteString", "internal/bytealg.IndexString", "internal/reflectlite.TypeOf", "internal/reflectlite.ValueOf", "(internal/reflectlite.Value).Type", "(internal/reflectlite.Value).IsNil", "(internal/reflectlite.Value).Elem", "(internal/reflectlite.Value).Set"], unfollowed := true, recurses := true, named := ["fairlead/eid.errScheme", "fairlead/eid.errNumber", "fairlead/eid.errName", "internal/bytealg.MaxLen", "fairlead/eid.errForm", "errors.errorType"], apart := false, laid := [("errors.errorType", laid_errors_errorType), ("fairlead/eid.errScheme", laid_fairlead_eid_errScheme), ("fairlead/eid.errName", laid_fairlead_eid_errName), ("fairlead/eid.errNumber", laid_fairlead_eid_errNumber), ("fairlead/eid.errForm", laid_fairlead_eid_errForm)] }
def IpptPlainSaid : Prop := ipptPlainRow.holds Tryz.pinned (OpenSpec.ofChange ipptPlainSpec)

/-- ITS FALSE NEIGHBOUR: 'it returns false'. Refute it at one input. -/
def ipptPlainWrong : ChangeSpec := { name := "ipptPlain", fn := fun _ => fun
  | [d1, d2, d3, d4, d5, d6] => { results := [.lit (.bool false)], args := [d1, d2, d3, d4, d5, d6] }
  | _ => none }
def IpptPlainWrongFalsely : Prop := ipptPlainRow.holds Tryz.pinned (OpenSpec.ofChange ipptPlainWrong)

/-- 'fairleadlaw09.IpptCovers': WHATEVER THE INPUT: true; the input reads as it did. -/
def ipptCoversSpec : ChangeSpec := { name := "ipptCovers", fn := fun _ => fun
  | [d1, d2, d3, d4] => { results := [.lit (.bool true)], args := [d1, d2, d3, d4] }
  | _ => none }
def ipptCoversRow : OpenClaim := { program := "ytlecbblmaadpiaagreatdoor", sum := "42e0454c15aef0750b349f2aeab75067ca26593826ca9be1a6540a352f360a1e", func := "fairlead/fairleadlaw09.IpptCovers", spec := "ipptCovers", inPlace := ["internal/bytealg.IndexByteString", "internal/bytealg.IndexString", "internal/reflectlite.TypeOf", "internal/reflectlite.ValueOf", "(internal/reflectlite.Value).Type", "(internal/reflectlite.Value).IsNil", "(internal/reflectlite.Value).Elem", "(internal/reflectlite.Value).Set"], unfollowed := true, recurses := true, named := ["fairlead/eid.errScheme", "fairlead/eid.errNumber", "fairlead/eid.errName", "internal/bytealg.MaxLen", "fairlead/eid.errForm", "errors.errorType"], apart := false, laid := [("errors.errorType", laid_errors_errorType), ("fairlead/eid.errScheme", laid_fairlead_eid_errScheme), ("fairlead/eid.errName", laid_fairlead_eid_errName), ("fairlead/eid.errNumber", laid_fairlead_eid_errNumber), ("fairlead/eid.errForm", laid_fairlead_eid_errForm)] }
def IpptCoversSaid : Prop := ipptCoversRow.holds Tryz.pinned (OpenSpec.ofChange ipptCoversSpec)

/-- ITS FALSE NEIGHBOUR: 'it returns false'. Refute it at one input. -/
def ipptCoversWrong : ChangeSpec := { name := "ipptCovers", fn := fun _ => fun
  | [d1, d2, d3, d4] => { results := [.lit (.bool false)], args := [d1, d2, d3, d4] }
  | _ => none }
def IpptCoversWrongFalsely : Prop := ipptCoversRow.holds Tryz.pinned (OpenSpec.ofChange ipptCoversWrong)

/-- 'fairleadlaw09.IpptOthers': WHATEVER THE INPUT: true; the input reads as it did. -/
def ipptOthersSpec : ChangeSpec := { name := "ipptOthers", fn := fun _ => fun
  | [d1, d2, d3, d4] => { results := [.lit (.bool true)], args := [d1, d2, d3, d4] }
  | _ => none }
def ipptOthersRow : OpenClaim := { program := "ytlecbblmaadpiaagreatdoor", sum := "42e0454c15aef0750b349f2aeab75067ca26593826ca9be1a6540a352f360a1e", func := "fairlead/fairleadlaw09.IpptOthers", spec := "ipptOthers", inPlace := ["internal/bytealg.IndexByteString", "internal/bytealg.IndexString", "internal/reflectlite.TypeOf", "internal/reflectlite.ValueOf", "(internal/reflectlite.Value).Type", "(internal/reflectlite.Value).IsNil", "(internal/reflectlite.Value).Elem", "(internal/reflectlite.Value).Set"], unfollowed := true, recurses := true, named := ["fairlead/eid.errScheme", "fairlead/eid.errNumber", "fairlead/eid.errName", "internal/bytealg.MaxLen", "fairlead/eid.errForm", "errors.errorType"], apart := false, laid := [("errors.errorType", laid_errors_errorType), ("fairlead/eid.errScheme", laid_fairlead_eid_errScheme), ("fairlead/eid.errName", laid_fairlead_eid_errName), ("fairlead/eid.errNumber", laid_fairlead_eid_errNumber), ("fairlead/eid.errForm", laid_fairlead_eid_errForm)] }
def IpptOthersSaid : Prop := ipptOthersRow.holds Tryz.pinned (OpenSpec.ofChange ipptOthersSpec)

/-- ITS FALSE NEIGHBOUR: 'it returns false'. Refute it at one input. -/
def ipptOthersWrong : ChangeSpec := { name := "ipptOthers", fn := fun _ => fun
  | [d1, d2, d3, d4] => { results := [.lit (.bool false)], args := [d1, d2, d3, d4] }
  | _ => none }
def IpptOthersWrongFalsely : Prop := ipptOthersRow.holds Tryz.pinned (OpenSpec.ofChange ipptOthersWrong)

/- THE SECOND FORM. 'bulk': how many values and letters a reading holds, each counted each time it is reached (what is shared counts as often as it is met; a slice's spare places count too). A statement '..UptoSaid' is the law's where the arguments, and the package variables that the reading takes, are together of bulk at most 1048576: NARROWER than '..Said'. Prove '..Said' where nothing that the law and all that it calls make is longer than what came in: it says more and counts as full. Else prove '..UptoSaid'. A law counts once. -/
mutual
def uptoBulk {H : Type} : DataW H → Nat
  | .lit (.string bytes) => bytes.length + 1
  | .lit _ => 1
  | .nil => 1
  | .ptr d => uptoBulk d + 1
  | .slice elems spare => uptoBulkAll elems + uptoBulkAll spare + 1
  | .agg parts => uptoBulkAll parts + 1
  | .iface _ d => uptoBulk d + 1
  | .map entries => uptoBulkEntries entries + 1
  | .held _ => 1
def uptoBulkAll {H : Type} : List (DataW H) → Nat
  | [] => 0
  | d :: r => uptoBulk d + uptoBulkAll r
def uptoBulkEntries {H : Type} : List (Lit × DataW H) → Nat
  | [] => 0
  | x :: r => uptoBulkEntry x + uptoBulkEntries r
def uptoBulkEntry {H : Type} : Lit × DataW H → Nat
  | (.string bytes, d) => bytes.length + uptoBulk d + 1
  | (_, d) => uptoBulk d + 1
 end
def uptoSmall : (H : Type) → List (DataW H) → Bool := fun _ ds => decide (uptoBulkAll ds ≤ 1048576)
def OpenSpec.upto (s : _root_.Go.ChangeSpec) : _root_.Go.OpenSpec := { _root_.Go.OpenSpec.ofChange s with cond := some uptoSmall }

/-- 'fairleadlaw04.EidTells', WHERE WHAT IT READS IS OF BULK AT MOST 1048576: true; the input reads as it did. -/
def eidTellsUptoRow : OpenClaim := { program := "ytlecbblmaadpiaagreatdoor", sum := "42e0454c15aef0750b349f2aeab75067ca26593826ca9be1a6540a352f360a1e", func := "fairlead/fairleadlaw04.EidTells", spec := "eidTells", inPlace := ["internal/bytealg.IndexByteString", "internal/bytealg.IndexString", "internal/reflectlite.TypeOf"], unfollowed := true, recurses := true, named := ["fairlead/eid.errScheme", "fairlead/eid.errNumber", "fairlead/eid.errName", "internal/bytealg.MaxLen", "fairlead/eid.errForm", "strconv.ErrSyntax", "strconv.ErrRange", "internal/strconv.uint64pow10", "math/bits.deBruijn32tab", "math/bits.deBruijn64tab"], apart := false, laid := [("math/bits.deBruijn32tab", laid_math_bits_deBruijn32tab), ("math/bits.deBruijn64tab", laid_math_bits_deBruijn64tab), ("internal/strconv.uint64pow10", laid_internal_strconv_uint64pow10), ("strconv.ErrRange", laid_strconv_ErrRange), ("strconv.ErrSyntax", laid_strconv_ErrSyntax), ("fairlead/eid.errScheme", laid_fairlead_eid_errScheme), ("fairlead/eid.errName", laid_fairlead_eid_errName), ("fairlead/eid.errNumber", laid_fairlead_eid_errNumber), ("fairlead/eid.errForm", laid_fairlead_eid_errForm)], narrowed := true }
def EidTellsUptoSaid : Prop := eidTellsUptoRow.holds Tryz.pinned (OpenSpec.upto eidTellsSpec)

/-- 'fairleadlaw04.EidReads', WHERE WHAT IT READS IS OF BULK AT MOST 1048576: true; the input reads as it did. -/
def eidReadsUptoRow : OpenClaim := { program := "ytlecbblmaadpiaagreatdoor", sum := "42e0454c15aef0750b349f2aeab75067ca26593826ca9be1a6540a352f360a1e", func := "fairlead/fairleadlaw04.EidReads", spec := "eidReads", inPlace := ["internal/bytealg.IndexByteString", "internal/bytealg.IndexString", "internal/reflectlite.TypeOf"], unfollowed := true, recurses := true, named := ["fairlead/eid.errForm", "fairlead/eid.errScheme", "fairlead/eid.errNumber", "internal/bytealg.MaxLen", "strconv.ErrSyntax", "strconv.ErrRange", "internal/strconv.uint64pow10", "math/bits.deBruijn32tab", "math/bits.deBruijn64tab", "fairlead/eid.errName"], loops := true, apart := false, laid := [("math/bits.deBruijn32tab", laid_math_bits_deBruijn32tab), ("math/bits.deBruijn64tab", laid_math_bits_deBruijn64tab), ("internal/strconv.uint64pow10", laid_internal_strconv_uint64pow10), ("strconv.ErrRange", laid_strconv_ErrRange), ("strconv.ErrSyntax", laid_strconv_ErrSyntax), ("fairlead/eid.errScheme", laid_fairlead_eid_errScheme), ("fairlead/eid.errName", laid_fairlead_eid_errName), ("fairlead/eid.errNumber", laid_fairlead_eid_errNumber), ("fairlead/eid.errForm", laid_fairlead_eid_errForm)], narrowed := true }
def EidReadsUptoSaid : Prop := eidReadsUptoRow.holds Tryz.pinned (OpenSpec.upto eidReadsSpec)

/-- 'fairleadlaw05.BlockReads', WHERE WHAT IT READS IS OF BULK AT MOST 1048576: true; the input reads as it did. -/
def blockReadsUptoRow : OpenClaim := { program := "ytlecbblmaadpiaagreatdoor", sum := "42e0454c15aef0750b349f2aeab75067ca26593826ca9be1a6540a352f360a1e", func := "fairlead/fairleadlaw05.BlockReads", spec := "blockReads", inPlace := ["internal/reflectlite.ValueOf", "(internal/reflectlite.Value).Type", "(internal/reflectlite.Value).IsNil", "internal/reflectlite.TypeOf", "(internal/reflectlite.Value).Elem", "(internal/reflectlite.Value).Set"], unfollowed := true, recurses := true, named := ["errors.errorType"], apart := false, laid := [("errors.errorType", laid_errors_errorType)], narrowed := true }
def BlockReadsUptoSaid : Prop := blockReadsUptoRow.holds Tryz.pinned (OpenSpec.upto blockReadsSpec)

/-- 'fairleadlaw05.BlockTells', WHERE WHAT IT READS IS OF BULK AT MOST 1048576: true; the input reads as it did. -/
def blockTellsUptoRow : OpenClaim := { program := "ytlecbblmaadpiaagreatdoor", sum := "42e0454c15aef0750b349f2aeab75067ca26593826ca9be1a6540a352f360a1e", func := "fairlead/fairleadlaw05.BlockTells", spec := "blockTells", inPlace := ["internal/reflectlite.ValueOf", "(internal/reflectlite.Value).Type", "(internal/reflectlite.Value).IsNil", "internal/reflectlite.TypeOf", "(internal/reflectlite.Value).Elem", "(internal/reflectlite.Value).Set", "internal/bytealg.IndexByteString", "internal/bytealg.IndexString"], unfollowed := true, recurses := true, named := ["errors.errorType", "fairlead/eid.errForm", "fairlead/eid.errScheme", "fairlead/eid.errNumber", "fairlead/eid.errName", "internal/bytealg.MaxLen"], loops := true, apart := false, laid := [("errors.errorType", laid_errors_errorType), ("fairlead/eid.errScheme", laid_fairlead_eid_errScheme), ("fairlead/eid.errName", laid_fairlead_eid_errName), ("fairlead/eid.errNumber", laid_fairlead_eid_errNumber), ("fairlead/eid.errForm", laid_fairlead_eid_errForm)], narrowed := true }
def BlockTellsUptoSaid : Prop := blockTellsUptoRow.holds Tryz.pinned (OpenSpec.upto blockTellsSpec)

/-- 'fairleadlaw05.BlockMakes', WHERE WHAT IT READS IS OF BULK AT MOST 1048576: true; the input reads as it did. -/
def blockMakesUptoRow : OpenClaim := { program := "ytlecbblmaadpiaagreatdoor", sum := "42e0454c15aef0750b349f2aeab75067ca26593826ca9be1a6540a352f360a1e", func := "fairlead/fairleadlaw05.BlockMakes", spec := "blockMakes", inPlace := ["internal/reflectlite.ValueOf", "(internal/reflectlite.Value).Type", "(internal/reflectlite.Value).IsNil", "internal/reflectlite.TypeOf", "(internal/reflectlite.Value).Elem", "(internal/reflectlite.Value).Set", "internal/bytealg.IndexByteString", "internal/bytealg.IndexString"], unfollowed := true, recurses := true, named := ["errors.errorType", "fairlead/eid.errForm", "fairlead/eid.errScheme", "fairlead/eid.errNumber", "fairlead/eid.errName", "internal/bytealg.MaxLen"], apart := false, laid := [("errors.errorType", laid_errors_errorType), ("fairlead/eid.errScheme", laid_fairlead_eid_errScheme), ("fairlead/eid.errName", laid_fairlead_eid_errName), ("fairlead/eid.errNumber", laid_fairlead_eid_errNumber), ("fairlead/eid.errForm", laid_fairlead_eid_errForm)], narrowed := true }
def BlockMakesUptoSaid : Prop := blockMakesUptoRow.holds Tryz.pinned (OpenSpec.upto blockMakesSpec)

/-- 'fairleadlaw06.BundleWrites', WHERE WHAT IT READS IS OF BULK AT MOST 1048576: true; the input reads as it did. -/
def bundleWritesUptoRow : OpenClaim := { program := "ytlecbblmaadpiaagreatdoor", sum := "42e0454c15aef0750b349f2aeab75067ca26593826ca9be1a6540a352f360a1e", func := "fairlead/fairleadlaw06.BundleWrites", spec := "bundleWrites", inPlace := ["internal/bytealg.IndexByteString", "internal/bytealg.IndexString", "internal/reflectlite.TypeOf", "internal/reflectlite.ValueOf", "(internal/reflectlite.Value).Type", "(internal/reflectlite.Value).IsNil", "(internal/reflectlite.Value).Elem", "(internal/reflectlite.Value).Set"], unfollowed := true, recurses := true, named := ["fairlead/eid.errScheme", "fairlead/eid.errNumber", "fairlead/eid.errName", "internal/bytealg.MaxLen", "fairlead/eid.errForm", "errors.errorType"], apart := false, laid := [("errors.errorType", laid_errors_errorType), ("fairlead/eid.errScheme", laid_fairlead_eid_errScheme), ("fairlead/eid.errName", laid_fairlead_eid_errName), ("fairlead/eid.errNumber", laid_fairlead_eid_errNumber), ("fairlead/eid.errForm", laid_fairlead_eid_errForm)], narrowed := true }
def BundleWritesUptoSaid : Prop := bundleWritesUptoRow.holds Tryz.pinned (OpenSpec.upto bundleWritesSpec)

/-- 'fairleadlaw09.IpptGrows', WHERE WHAT IT READS IS OF BULK AT MOST 1048576: true; the input reads as it did. -/
def ipptGrowsUptoRow : OpenClaim := { program := "ytlecbblmaadpiaagreatdoor", sum := "42e0454c15aef0750b349f2aeab75067ca26593826ca9be1a6540a352f360a1e", func := "fairlead/fairleadlaw09.IpptGrows", spec := "ipptGrows", inPlace := ["internal/bytealg.IndexByteString", "internal/bytealg.IndexString", "internal/reflectlite.TypeOf", "internal/reflectlite.ValueOf", "(internal/reflectlite.Value).Type", "(internal/reflectlite.Value).IsNil", "(internal/reflectlite.Value).Elem", "(internal/reflectlite.Value).Set"], unfollowed := true, recurses := true, named := ["fairlead/eid.errScheme", "fairlead/eid.errNumber", "fairlead/eid.errName", "internal/bytealg.MaxLen", "fairlead/eid.errForm", "errors.errorType"], apart := false, laid := [("errors.errorType", laid_errors_errorType), ("fairlead/eid.errScheme", laid_fairlead_eid_errScheme), ("fairlead/eid.errName", laid_fairlead_eid_errName), ("fairlead/eid.errNumber", laid_fairlead_eid_errNumber), ("fairlead/eid.errForm", laid_fairlead_eid_errForm)], narrowed := true }
def IpptGrowsUptoSaid : Prop := ipptGrowsUptoRow.holds Tryz.pinned (OpenSpec.upto ipptGrowsSpec)

/-- 'fairleadlaw09.IpptPlain', WHERE WHAT IT READS IS OF BULK AT MOST 1048576: true; the input reads as it did. -/
def ipptPlainUptoRow : OpenClaim := { program := "ytlecbblmaadpiaagreatdoor", sum := "42e0454c15aef0750b349f2aeab75067ca26593826ca9be1a6540a352f360a1e", func := "fairlead/fairleadlaw09.IpptPlain", spec := "ipptPlain", inPlace := ["internal/bytealg.IndexByteString", "internal/bytealg.IndexString", "internal/reflectlite.TypeOf", "internal/reflectlite.ValueOf", "(internal/reflectlite.Value).Type", "(internal/reflectlite.Value).IsNil", "(internal/reflectlite.Value).Elem", "(internal/reflectlite.Value).Set"], unfollowed := true, recurses := true, named := ["fairlead/eid.errScheme", "fairlead/eid.errNumber", "fairlead/eid.errName", "internal/bytealg.MaxLen", "fairlead/eid.errForm", "errors.errorType"], apart := false, laid := [("errors.errorType", laid_errors_errorType), ("fairlead/eid.errScheme", laid_fairlead_eid_errScheme), ("fairlead/eid.errName", laid_fairlead_eid_errName), ("fairlead/eid.errNumber", laid_fairlead_eid_errNumber), ("fairlead/eid.errForm", laid_fairlead_eid_errForm)], narrowed := true }
def IpptPlainUptoSaid : Prop := ipptPlainUptoRow.holds Tryz.pinned (OpenSpec.upto ipptPlainSpec)

/-- 'fairleadlaw09.IpptCovers', WHERE WHAT IT READS IS OF BULK AT MOST 1048576: true; the input reads as it did. -/
def ipptCoversUptoRow : OpenClaim := { program := "ytlecbblmaadpiaagreatdoor", sum := "42e0454c15aef0750b349f2aeab75067ca26593826ca9be1a6540a352f360a1e", func := "fairlead/fairleadlaw09.IpptCovers", spec := "ipptCovers", inPlace := ["internal/bytealg.IndexByteString", "internal/bytealg.IndexString", "internal/reflectlite.TypeOf", "internal/reflectlite.ValueOf", "(internal/reflectlite.Value).Type", "(internal/reflectlite.Value).IsNil", "(internal/reflectlite.Value).Elem", "(internal/reflectlite.Value).Set"], unfollowed := true, recurses := true, named := ["fairlead/eid.errScheme", "fairlead/eid.errNumber", "fairlead/eid.errName", "internal/bytealg.MaxLen", "fairlead/eid.errForm", "errors.errorType"], apart := false, laid := [("errors.errorType", laid_errors_errorType), ("fairlead/eid.errScheme", laid_fairlead_eid_errScheme), ("fairlead/eid.errName", laid_fairlead_eid_errName), ("fairlead/eid.errNumber", laid_fairlead_eid_errNumber), ("fairlead/eid.errForm", laid_fairlead_eid_errForm)], narrowed := true }
def IpptCoversUptoSaid : Prop := ipptCoversUptoRow.holds Tryz.pinned (OpenSpec.upto ipptCoversSpec)

/-- 'fairleadlaw09.IpptOthers', WHERE WHAT IT READS IS OF BULK AT MOST 1048576: true; the input reads as it did. -/
def ipptOthersUptoRow : OpenClaim := { program := "ytlecbblmaadpiaagreatdoor", sum := "42e0454c15aef0750b349f2aeab75067ca26593826ca9be1a6540a352f360a1e", func := "fairlead/fairleadlaw09.IpptOthers", spec := "ipptOthers", inPlace := ["internal/bytealg.IndexByteString", "internal/bytealg.IndexString", "internal/reflectlite.TypeOf", "internal/reflectlite.ValueOf", "(internal/reflectlite.Value).Type", "(internal/reflectlite.Value).IsNil", "(internal/reflectlite.Value).Elem", "(internal/reflectlite.Value).Set"], unfollowed := true, recurses := true, named := ["fairlead/eid.errScheme", "fairlead/eid.errNumber", "fairlead/eid.errName", "internal/bytealg.MaxLen", "fairlead/eid.errForm", "errors.errorType"], apart := false, laid := [("errors.errorType", laid_errors_errorType), ("fairlead/eid.errScheme", laid_fairlead_eid_errScheme), ("fairlead/eid.errName", laid_fairlead_eid_errName), ("fairlead/eid.errNumber", laid_fairlead_eid_errNumber), ("fairlead/eid.errForm", laid_fairlead_eid_errForm)], narrowed := true }
def IpptOthersUptoSaid : Prop := ipptOthersUptoRow.holds Tryz.pinned (OpenSpec.upto ipptOthersSpec)

end Rows
end Go.Proofs.YtlecbblmaadpiaaGreatDoor
