/-
  No cell of these rows narrows 'for every input' (looked for: loops, veiled, ifaces, maps, wideKeys, modest, calm, conditions, laid).
  DERIVED. THE GIVEN ROWS OF THIS SEAT. 5 by the template 'for every input the law returns true; each argument reads behind the call as it read before'; 0 by the template 'total and deterministic' (their statements: YtkflekaibfkicaaTotals.lean).
  GIVEN WITH THE SEED: the statements are not yours to turn. If you find one false, say at which input.
  Laid BY PROGRAM, IN A SANDBOX (cutbox-rows.mjs): the forced cells as the released guide's own fill.sh prints them over the translation b074fe1a67381c33… (all of the seat's roots in one cut). By AI agents, Wed Nov 11 2026. No macro, syntax, notation, axiom, sorry.
-/
import Derived.Test.YtkflekaibfkicaaChecked
import GoSem.Claim
import GoSem.ClaimJoined
import GoSem.ClaimMapViews
import Derived.JoinedTies
import Derived.KernelRfl
namespace Go.Proofs.Ytkflekaibfkicaa
/- THE CELL 'sum', in the pinned program and in every row, IS THE sha256 OF THE DUMP (.gsa) THAT YtkflekaibfkicaaProg.lean LOADS. Nothing in Lean hashes anything: it is a label: what it is worth is what the hold of that sum in a sandbox is worth. -/
noncomputable def Try.pinned : Pinned := { name := "ytkflekaibfkicaa", sum := "b074fe1a67381c33ab39a1f1cc4d296e375f25d7a69a123024ed2816a8c7e8a4", checked := Try.checked }
namespace Rows
def none {H : Type} : Left H := { results := [], args := [] }

/-- 'fairleadlaw12.BagTable': WHATEVER THE INPUT: true; the input reads as it did. -/
def bagTableSpec : ChangeSpec := { name := "bagTable", fn := fun _ => fun
  | [d] => { results := [.lit (.bool true)], args := [d] }
  | _ => none }
def bagTableRow : OpenClaim := { program := "ytkflekaibfkicaa", sum := "b074fe1a67381c33ab39a1f1cc4d296e375f25d7a69a123024ed2816a8c7e8a4", func := "fairlead/fairleadlaw12.BagTable", spec := "bagTable", recurses := true, plainKeys := false, apart := false }
def BagTableSaid : Prop := bagTableRow.holds Try.pinned (OpenSpec.ofChange bagTableSpec)

/-- ITS FALSE NEIGHBOUR: 'it returns false'. Refute it at one input. -/
def bagTableWrong : ChangeSpec := { name := "bagTable", fn := fun _ => fun
  | [d] => { results := [.lit (.bool false)], args := [d] }
  | _ => none }
def BagTableWrongFalsely : Prop := bagTableRow.holds Try.pinned (OpenSpec.ofChange bagTableWrong)

/-- 'fairleadlaw12.BagKeys': WHATEVER THE INPUT: true; the input reads as it did. -/
def bagKeysSpec : ChangeSpec := { name := "bagKeys", fn := fun _ => fun
  | [d] => { results := [.lit (.bool true)], args := [d] }
  | _ => none }
def bagKeysRow : OpenClaim := { program := "ytkflekaibfkicaa", sum := "b074fe1a67381c33ab39a1f1cc4d296e375f25d7a69a123024ed2816a8c7e8a4", func := "fairlead/fairleadlaw12.BagKeys", spec := "bagKeys", recurses := true, plainKeys := false, apart := false }
def BagKeysSaid : Prop := bagKeysRow.holds Try.pinned (OpenSpec.ofChange bagKeysSpec)

/-- ITS FALSE NEIGHBOUR: 'it returns false'. Refute it at one input. -/
def bagKeysWrong : ChangeSpec := { name := "bagKeys", fn := fun _ => fun
  | [d] => { results := [.lit (.bool false)], args := [d] }
  | _ => none }
def BagKeysWrongFalsely : Prop := bagKeysRow.holds Try.pinned (OpenSpec.ofChange bagKeysWrong)

/-- 'fairleadlaw12.BagQueue': WHATEVER THE INPUT: true; the input reads as it did. -/
def bagQueueSpec : ChangeSpec := { name := "bagQueue", fn := fun _ => fun
  | [d1, d2] => { results := [.lit (.bool true)], args := [d1, d2] }
  | _ => none }
def bagQueueRow : OpenClaim := { program := "ytkflekaibfkicaa", sum := "b074fe1a67381c33ab39a1f1cc4d296e375f25d7a69a123024ed2816a8c7e8a4", func := "fairlead/fairleadlaw12.BagQueue", spec := "bagQueue", recurses := true, plainKeys := false, apart := false }
def BagQueueSaid : Prop := bagQueueRow.holds Try.pinned (OpenSpec.ofChange bagQueueSpec)

/-- ITS FALSE NEIGHBOUR: 'it returns false'. Refute it at one input. -/
def bagQueueWrong : ChangeSpec := { name := "bagQueue", fn := fun _ => fun
  | [d1, d2] => { results := [.lit (.bool false)], args := [d1, d2] }
  | _ => none }
def BagQueueWrongFalsely : Prop := bagQueueRow.holds Try.pinned (OpenSpec.ofChange bagQueueWrong)

/-- 'fairleadlaw12.BagTwo': WHATEVER THE INPUT: true; the input reads as it did. -/
def bagTwoSpec : ChangeSpec := { name := "bagTwo", fn := fun _ => fun
  | [d] => { results := [.lit (.bool true)], args := [d] }
  | _ => none }
def bagTwoRow : OpenClaim := { program := "ytkflekaibfkicaa", sum := "b074fe1a67381c33ab39a1f1cc4d296e375f25d7a69a123024ed2816a8c7e8a4", func := "fairlead/fairleadlaw12.BagTwo", spec := "bagTwo", recurses := true, plainKeys := false, apart := false }
def BagTwoSaid : Prop := bagTwoRow.holds Try.pinned (OpenSpec.ofChange bagTwoSpec)

/-- ITS FALSE NEIGHBOUR: 'it returns false'. Refute it at one input. -/
def bagTwoWrong : ChangeSpec := { name := "bagTwo", fn := fun _ => fun
  | [d] => { results := [.lit (.bool false)], args := [d] }
  | _ => none }
def BagTwoWrongFalsely : Prop := bagTwoRow.holds Try.pinned (OpenSpec.ofChange bagTwoWrong)

/-- 'fairleadlaw12.BagNobody': WHATEVER THE INPUT: true; the input reads as it did. -/
def bagNobodySpec : ChangeSpec := { name := "bagNobody", fn := fun _ => fun
  | [d1, d2] => { results := [.lit (.bool true)], args := [d1, d2] }
  | _ => none }
def bagNobodyRow : OpenClaim := { program := "ytkflekaibfkicaa", sum := "b074fe1a67381c33ab39a1f1cc4d296e375f25d7a69a123024ed2816a8c7e8a4", func := "fairlead/fairleadlaw12.BagNobody", spec := "bagNobody", recurses := true, plainKeys := false, apart := false }
def BagNobodySaid : Prop := bagNobodyRow.holds Try.pinned (OpenSpec.ofChange bagNobodySpec)

/-- ITS FALSE NEIGHBOUR: 'it returns false'. Refute it at one input. -/
def bagNobodyWrong : ChangeSpec := { name := "bagNobody", fn := fun _ => fun
  | [d1, d2] => { results := [.lit (.bool false)], args := [d1, d2] }
  | _ => none }
def BagNobodyWrongFalsely : Prop := bagNobodyRow.holds Try.pinned (OpenSpec.ofChange bagNobodyWrong)

/- THE SECOND FORM. 'bulk': how many values and letters a reading holds, each counted each time it is reached (what is shared counts as often as it is met; a slice's spare places count too). A statement '..UptoSaid' is the law's where the arguments, and the package variables that the reading takes, are together of bulk at most 1048576: NARROWER than '..Said'. Prove '..Said' where nothing that the law and all that it calls make is longer than what came in: it says more and counts as full. Else prove '..UptoSaid'. A law counts once. -/
mutual
def uptoBulk {H : Type} : DataW H → Nat
  | .lit (.string bytes) => bytes.length + 1
  | .lit _ => 1
  | .nil => 1
  | .ptr d => uptoBulk d + 1
  | .slice elems spare => uptoBulkAll elems + uptoBulkAll spare + 1
  | .agg parts => uptoBulkAll parts + 1
  | .iface _ d => uptoBulk d + 1
  | .map entries => uptoBulkEntries entries + 1
  | .held _ => 1
def uptoBulkAll {H : Type} : List (DataW H) → Nat
  | [] => 0
  | d :: r => uptoBulk d + uptoBulkAll r
def uptoBulkEntries {H : Type} : List (Lit × DataW H) → Nat
  | [] => 0
  | x :: r => uptoBulkEntry x + uptoBulkEntries r
def uptoBulkEntry {H : Type} : Lit × DataW H → Nat
  | (.string bytes, d) => bytes.length + uptoBulk d + 1
  | (_, d) => uptoBulk d + 1
 end
def uptoSmall : (H : Type) → List (DataW H) → Bool := fun _ ds => decide (uptoBulkAll ds ≤ 1048576)
def OpenSpec.upto (s : _root_.Go.ChangeSpec) : _root_.Go.OpenSpec := { _root_.Go.OpenSpec.ofChange s with cond := some uptoSmall }

/-- 'fairleadlaw12.BagTable', WHERE WHAT IT READS IS OF BULK AT MOST 1048576: true; the input reads as it did. -/
def bagTableUptoRow : OpenClaim := { program := "ytkflekaibfkicaa", sum := "b074fe1a67381c33ab39a1f1cc4d296e375f25d7a69a123024ed2816a8c7e8a4", func := "fairlead/fairleadlaw12.BagTable", spec := "bagTable", recurses := true, plainKeys := false, apart := false, narrowed := true }
def BagTableUptoSaid : Prop := bagTableUptoRow.holds Try.pinned (OpenSpec.upto bagTableSpec)

/-- 'fairleadlaw12.BagKeys', WHERE WHAT IT READS IS OF BULK AT MOST 1048576: true; the input reads as it did. -/
def bagKeysUptoRow : OpenClaim := { program := "ytkflekaibfkicaa", sum := "b074fe1a67381c33ab39a1f1cc4d296e375f25d7a69a123024ed2816a8c7e8a4", func := "fairlead/fairleadlaw12.BagKeys", spec := "bagKeys", recurses := true, plainKeys := false, apart := false, narrowed := true }
def BagKeysUptoSaid : Prop := bagKeysUptoRow.holds Try.pinned (OpenSpec.upto bagKeysSpec)

/-- 'fairleadlaw12.BagQueue', WHERE WHAT IT READS IS OF BULK AT MOST 1048576: true; the input reads as it did. -/
def bagQueueUptoRow : OpenClaim := { program := "ytkflekaibfkicaa", sum := "b074fe1a67381c33ab39a1f1cc4d296e375f25d7a69a123024ed2816a8c7e8a4", func := "fairlead/fairleadlaw12.BagQueue", spec := "bagQueue", recurses := true, plainKeys := false, apart := false, narrowed := true }
def BagQueueUptoSaid : Prop := bagQueueUptoRow.holds Try.pinned (OpenSpec.upto bagQueueSpec)

/-- 'fairleadlaw12.BagTwo', WHERE WHAT IT READS IS OF BULK AT MOST 1048576: true; the input reads as it did. -/
def bagTwoUptoRow : OpenClaim := { program := "ytkflekaibfkicaa", sum := "b074fe1a67381c33ab39a1f1cc4d296e375f25d7a69a123024ed2816a8c7e8a4", func := "fairlead/fairleadlaw12.BagTwo", spec := "bagTwo", recurses := true, plainKeys := false, apart := false, narrowed := true }
def BagTwoUptoSaid : Prop := bagTwoUptoRow.holds Try.pinned (OpenSpec.upto bagTwoSpec)

/-- 'fairleadlaw12.BagNobody', WHERE WHAT IT READS IS OF BULK AT MOST 1048576: true; the input reads as it did. -/
def bagNobodyUptoRow : OpenClaim := { program := "ytkflekaibfkicaa", sum := "b074fe1a67381c33ab39a1f1cc4d296e375f25d7a69a123024ed2816a8c7e8a4", func := "fairlead/fairleadlaw12.BagNobody", spec := "bagNobody", recurses := true, plainKeys := false, apart := false, narrowed := true }
def BagNobodyUptoSaid : Prop := bagNobodyUptoRow.holds Try.pinned (OpenSpec.upto bagNobodySpec)

end Rows
end Go.Proofs.Ytkflekaibfkicaa
