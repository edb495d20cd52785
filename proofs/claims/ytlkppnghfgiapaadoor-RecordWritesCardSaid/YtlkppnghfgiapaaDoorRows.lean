/-
  NARROWER THAN 'FOR EVERY INPUT', by the rows' own cells (each row's printed sentence says how): RecordWrites: laid · RecordReads: laid · RecordBack: laid · RecordTurned: laid.
  DERIVED. THE GIVEN ROWS OF THIS SEAT. 4 by the template 'for every input the law returns true; each argument reads behind the call as it read before'; 0 by the template 'total and deterministic' (their statements: YtlkppnghfgiapaaDoorTotals.lean).
  GIVEN WITH THE SEED: the statements are not yours to turn. If you find one false, say at which input.
  Laid BY PROGRAM, IN A SANDBOX (cutbox-rows.mjs): the forced cells as the released guide's own fill.sh prints them over the translation eeefd192dfc70dba… (all of the seat's roots in one cut). By AI agents, Wed Nov 11 2026. No macro, syntax, notation, axiom, sorry.
-/
import Derived.Test.YtlkppnghfgiapaaDoorChecked
import GoSem.Claim
import GoSem.ClaimJoined
import GoSem.ClaimMapViews
import Derived.JoinedTies
import Derived.KernelRfl
namespace Go.Proofs.YtlkppnghfgiapaaDoor
/- THE CELL 'sum', in the pinned program and in every row, IS THE sha256 OF THE DUMP (.gsa) THAT YtlkppnghfgiapaaDoorProg.lean LOADS. Nothing in Lean hashes anything: it is a label: what it is worth is what the hold of that sum in a sandbox is worth. -/
noncomputable def Tryd.pinned : Pinned := { name := "ytlkppnghfgiapaadoor", sum := "eeefd192dfc70dbaac465b77521457a913657c96507807fdf31c5cafb4fdeae7", checked := Tryd.checked }
namespace Rows
def none {H : Type} : Left H := { results := [], args := [] }

/- WHAT THE LISTED PACKAGE-LEVEL VARIABLES READ AS WHEN THE CALL BEGINS. Each datum BY PROGRAM (the guide's laid-datum.mjs) off the statement by which the dump's own 'gosem.cut.vars' lays the variable. In a bare row this is a premise. The card (YtlkppnghfgiapaaDoorCards.lean) ties it to the program's text. -/
def laid_fairlead_record_errShort {H : Type} : DataW H := .iface "*errors.errorString" (.ptr (.agg [.lit (.string [98, 121, 116, 101, 115, 32, 116, 104, 97, 116, 32, 101, 110, 100, 32, 116, 111, 111, 32, 115, 111, 111, 110])]))
def laid_fairlead_record_errRecord {H : Type} : DataW H := .iface "*errors.errorString" (.ptr (.agg [.lit (.string [110, 111, 32, 114, 101, 99, 111, 114, 100])]))

/-- 'fairleadlaw14.RecordWrites': WHATEVER THE INPUT: true; the input reads as it did. -/
def recordWritesSpec : ChangeSpec := { name := "recordWrites", fn := fun _ => fun
  | [d1, d2] => { results := [.lit (.bool true)], args := [d1, d2] }
  | _ => none }
def recordWritesRow : OpenClaim := { program := "ytlkppnghfgiapaadoor", sum := "eeefd192dfc70dbaac465b77521457a913657c96507807fdf31c5cafb4fdeae7", func := "fairlead/fairleadlaw14.RecordWrites", spec := "recordWrites", inPlace := ["internal/reflectlite.TypeOf"], unfollowed := true, recurses := true, named := ["fairlead/record.errRecord", "fairlead/record.errShort"], apart := false, laid := [("fairlead/record.errShort", laid_fairlead_record_errShort), ("fairlead/record.errRecord", laid_fairlead_record_errRecord)] }
def RecordWritesSaid : Prop := recordWritesRow.holds Tryd.pinned (OpenSpec.ofChange recordWritesSpec)

/-- ITS FALSE NEIGHBOUR: 'it returns false'. Refute it at one input. -/
def recordWritesWrong : ChangeSpec := { name := "recordWrites", fn := fun _ => fun
  | [d1, d2] => { results := [.lit (.bool false)], args := [d1, d2] }
  | _ => none }
def RecordWritesWrongFalsely : Prop := recordWritesRow.holds Tryd.pinned (OpenSpec.ofChange recordWritesWrong)

/-- 'fairleadlaw14.RecordReads': WHATEVER THE INPUT: true; the input reads as it did. -/
def recordReadsSpec : ChangeSpec := { name := "recordReads", fn := fun _ => fun
  | [d1, d2] => { results := [.lit (.bool true)], args := [d1, d2] }
  | _ => none }
def recordReadsRow : OpenClaim := { program := "ytlkppnghfgiapaadoor", sum := "eeefd192dfc70dbaac465b77521457a913657c96507807fdf31c5cafb4fdeae7", func := "fairlead/fairleadlaw14.RecordReads", spec := "recordReads", inPlace := ["internal/reflectlite.TypeOf"], unfollowed := true, recurses := true, named := ["fairlead/record.errRecord", "fairlead/record.errShort"], apart := false, laid := [("fairlead/record.errShort", laid_fairlead_record_errShort), ("fairlead/record.errRecord", laid_fairlead_record_errRecord)] }
def RecordReadsSaid : Prop := recordReadsRow.holds Tryd.pinned (OpenSpec.ofChange recordReadsSpec)

/-- ITS FALSE NEIGHBOUR: 'it returns false'. Refute it at one input. -/
def recordReadsWrong : ChangeSpec := { name := "recordReads", fn := fun _ => fun
  | [d1, d2] => { results := [.lit (.bool false)], args := [d1, d2] }
  | _ => none }
def RecordReadsWrongFalsely : Prop := recordReadsRow.holds Tryd.pinned (OpenSpec.ofChange recordReadsWrong)

/-- 'fairleadlaw14.RecordBack': WHATEVER THE INPUT: true; the input reads as it did. -/
def recordBackSpec : ChangeSpec := { name := "recordBack", fn := fun _ => fun
  | [d1, d2, d3] => { results := [.lit (.bool true)], args := [d1, d2, d3] }
  | _ => none }
def recordBackRow : OpenClaim := { program := "ytlkppnghfgiapaadoor", sum := "eeefd192dfc70dbaac465b77521457a913657c96507807fdf31c5cafb4fdeae7", func := "fairlead/fairleadlaw14.RecordBack", spec := "recordBack", inPlace := ["internal/reflectlite.TypeOf"], unfollowed := true, recurses := true, named := ["fairlead/record.errRecord", "fairlead/record.errShort"], apart := false, laid := [("fairlead/record.errShort", laid_fairlead_record_errShort), ("fairlead/record.errRecord", laid_fairlead_record_errRecord)] }
def RecordBackSaid : Prop := recordBackRow.holds Tryd.pinned (OpenSpec.ofChange recordBackSpec)

/-- ITS FALSE NEIGHBOUR: 'it returns false'. Refute it at one input. -/
def recordBackWrong : ChangeSpec := { name := "recordBack", fn := fun _ => fun
  | [d1, d2, d3] => { results := [.lit (.bool false)], args := [d1, d2, d3] }
  | _ => none }
def RecordBackWrongFalsely : Prop := recordBackRow.holds Tryd.pinned (OpenSpec.ofChange recordBackWrong)

/-- 'fairleadlaw14.RecordTurned': WHATEVER THE INPUT: true; the input reads as it did. -/
def recordTurnedSpec : ChangeSpec := { name := "recordTurned", fn := fun _ => fun
  | [d1, d2, d3] => { results := [.lit (.bool true)], args := [d1, d2, d3] }
  | _ => none }
def recordTurnedRow : OpenClaim := { program := "ytlkppnghfgiapaadoor", sum := "eeefd192dfc70dbaac465b77521457a913657c96507807fdf31c5cafb4fdeae7", func := "fairlead/fairleadlaw14.RecordTurned", spec := "recordTurned", inPlace := ["internal/reflectlite.TypeOf"], unfollowed := true, recurses := true, named := ["fairlead/record.errRecord", "fairlead/record.errShort"], apart := false, laid := [("fairlead/record.errShort", laid_fairlead_record_errShort), ("fairlead/record.errRecord", laid_fairlead_record_errRecord)] }
def RecordTurnedSaid : Prop := recordTurnedRow.holds Tryd.pinned (OpenSpec.ofChange recordTurnedSpec)

/-- ITS FALSE NEIGHBOUR: 'it returns false'. Refute it at one input. -/
def recordTurnedWrong : ChangeSpec := { name := "recordTurned", fn := fun _ => fun
  | [d1, d2, d3] => { results := [.lit (.bool false)], args := [d1, d2, d3] }
  | _ => none }
def RecordTurnedWrongFalsely : Prop := recordTurnedRow.holds Tryd.pinned (OpenSpec.ofChange recordTurnedWrong)

/- THE SECOND FORM. 'bulk': how many values and letters a reading holds, each counted each time it is reached (what is shared counts as often as it is met; a slice's spare places count too). A statement '..UptoSaid' is the law's where the arguments, and the package variables that the reading takes, are together of bulk at most 1048576: NARROWER than '..Said'. Prove '..Said' where nothing that the law and all that it calls make is longer than what came in: it says more and counts as full. Else prove '..UptoSaid'. A law counts once. -/
mutual
def uptoBulk {H : Type} : DataW H → Nat
  | .lit (.string bytes) => bytes.length + 1
  | .lit _ => 1
  | .nil => 1
  | .ptr d => uptoBulk d + 1
  | .slice elems spare => uptoBulkAll elems + uptoBulkAll spare + 1
  | .agg parts => uptoBulkAll parts + 1
  | .iface _ d => uptoBulk d + 1
  | .map entries => uptoBulkEntries entries + 1
  | .held _ => 1
def uptoBulkAll {H : Type} : List (DataW H) → Nat
  | [] => 0
  | d :: r => uptoBulk d + uptoBulkAll r
def uptoBulkEntries {H : Type} : List (Lit × DataW H) → Nat
  | [] => 0
  | x :: r => uptoBulkEntry x + uptoBulkEntries r
def uptoBulkEntry {H : Type} : Lit × DataW H → Nat
  | (.string bytes, d) => bytes.length + uptoBulk d + 1
  | (_, d) => uptoBulk d + 1
 end
def uptoSmall : (H : Type) → List (DataW H) → Bool := fun _ ds => decide (uptoBulkAll ds ≤ 1048576)
def OpenSpec.upto (s : _root_.Go.ChangeSpec) : _root_.Go.OpenSpec := { _root_.Go.OpenSpec.ofChange s with cond := some uptoSmall }

/-- 'fairleadlaw14.RecordWrites', WHERE WHAT IT READS IS OF BULK AT MOST 1048576: true; the input reads as it did. -/
def recordWritesUptoRow : OpenClaim := { program := "ytlkppnghfgiapaadoor", sum := "eeefd192dfc70dbaac465b77521457a913657c96507807fdf31c5cafb4fdeae7", func := "fairlead/fairleadlaw14.RecordWrites", spec := "recordWrites", inPlace := ["internal/reflectlite.TypeOf"], unfollowed := true, recurses := true, named := ["fairlead/record.errRecord", "fairlead/record.errShort"], apart := false, laid := [("fairlead/record.errShort", laid_fairlead_record_errShort), ("fairlead/record.errRecord", laid_fairlead_record_errRecord)], narrowed := true }
def RecordWritesUptoSaid : Prop := recordWritesUptoRow.holds Tryd.pinned (OpenSpec.upto recordWritesSpec)

/-- 'fairleadlaw14.RecordReads', WHERE WHAT IT READS IS OF BULK AT MOST 1048576: true; the input reads as it did. -/
def recordReadsUptoRow : OpenClaim := { program := "ytlkppnghfgiapaadoor", sum := "eeefd192dfc70dbaac465b77521457a913657c96507807fdf31c5cafb4fdeae7", func := "fairlead/fairleadlaw14.RecordReads", spec := "recordReads", inPlace := ["internal/reflectlite.TypeOf"], unfollowed := true, recurses := true, named := ["fairlead/record.errRecord", "fairlead/record.errShort"], apart := false, laid := [("fairlead/record.errShort", laid_fairlead_record_errShort), ("fairlead/record.errRecord", laid_fairlead_record_errRecord)], narrowed := true }
def RecordReadsUptoSaid : Prop := recordReadsUptoRow.holds Tryd.pinned (OpenSpec.upto recordReadsSpec)

/-- 'fairleadlaw14.RecordBack', WHERE WHAT IT READS IS OF BULK AT MOST 1048576: true; the input reads as it did. -/
def recordBackUptoRow : OpenClaim := { program := "ytlkppnghfgiapaadoor", sum := "eeefd192dfc70dbaac465b77521457a913657c96507807fdf31c5cafb4fdeae7", func := "fairlead/fairleadlaw14.RecordBack", spec := "recordBack", inPlace := ["internal/reflectlite.TypeOf"], unfollowed := true, recurses := true, named := ["fairlead/record.errRecord", "fairlead/record.errShort"], apart := false, laid := [("fairlead/record.errShort", laid_fairlead_record_errShort), ("fairlead/record.errRecord", laid_fairlead_record_errRecord)], narrowed := true }
def RecordBackUptoSaid : Prop := recordBackUptoRow.holds Tryd.pinned (OpenSpec.upto recordBackSpec)

/-- 'fairleadlaw14.RecordTurned', WHERE WHAT IT READS IS OF BULK AT MOST 1048576: true; the input reads as it did. -/
def recordTurnedUptoRow : OpenClaim := { program := "ytlkppnghfgiapaadoor", sum := "eeefd192dfc70dbaac465b77521457a913657c96507807fdf31c5cafb4fdeae7", func := "fairlead/fairleadlaw14.RecordTurned", spec := "recordTurned", inPlace := ["internal/reflectlite.TypeOf"], unfollowed := true, recurses := true, named := ["fairlead/record.errRecord", "fairlead/record.errShort"], apart := false, laid := [("fairlead/record.errShort", laid_fairlead_record_errShort), ("fairlead/record.errRecord", laid_fairlead_record_errRecord)], narrowed := true }
def RecordTurnedUptoSaid : Prop := recordTurnedUptoRow.holds Tryd.pinned (OpenSpec.upto recordTurnedSpec)

end Rows
end Go.Proofs.YtlkppnghfgiapaaDoor
