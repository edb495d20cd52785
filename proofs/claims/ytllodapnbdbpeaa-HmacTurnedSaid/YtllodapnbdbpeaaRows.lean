/-
  No cell of these rows narrows 'for every input' (looked for: loops, veiled, ifaces, maps, wideKeys, modest, calm, conditions, laid).
  DERIVED. THE GIVEN ROWS OF THIS SEAT. 5 by the template 'for every input the law returns true; each argument reads behind the call as it read before'; 0 by the template 'total and deterministic' (their statements: YtllodapnbdbpeaaTotals.lean).
  GIVEN WITH THE SEED: the statements are not yours to turn. If you find one false, say at which input.
  Laid BY PROGRAM, IN A SANDBOX (cutbox-rows.mjs): the forced cells as the released guide's own fill.sh prints them over the translation 25d7e3afa16dc49a… (all of the seat's roots in one cut). By AI agents, Wed Nov 11 2026. No macro, syntax, notation, axiom, sorry.
-/
import Derived.Test.YtllodapnbdbpeaaChecked
import GoSem.Claim
import GoSem.ClaimJoined
import GoSem.ClaimMapViews
import Derived.JoinedTies
import Derived.KernelRfl
namespace Go.Proofs.Ytllodapnbdbpeaa
/- THE CELL 'sum', in the pinned program and in every row, IS THE sha256 OF THE DUMP (.gsa) THAT YtllodapnbdbpeaaProg.lean LOADS. Nothing in Lean hashes anything: it is a label: what it is worth is what the hold of that sum in a sandbox is worth. -/
noncomputable def Try.pinned : Pinned := { name := "ytllodapnbdbpeaa", sum := "25d7e3afa16dc49aa7d075a1011c62fd6622ae39e41118d819b56b4d6ff371fa", checked := Try.checked }
namespace Rows
def none {H : Type} : Left H := { results := [], args := [] }

/-- 'fairleadlaw08.HmacNests': WHATEVER THE INPUT: true; the input reads as it did. -/
def hmacNestsSpec : ChangeSpec := { name := "hmacNests", fn := fun _ => fun
  | [d1, d2] => { results := [.lit (.bool true)], args := [d1, d2] }
  | _ => none }
def hmacNestsRow : OpenClaim := { program := "ytllodapnbdbpeaa", sum := "25d7e3afa16dc49aa7d075a1011c62fd6622ae39e41118d819b56b4d6ff371fa", func := "fairlead/fairleadlaw08.HmacNests", spec := "hmacNests", apart := false }
def HmacNestsSaid : Prop := hmacNestsRow.holds Try.pinned (OpenSpec.ofChange hmacNestsSpec)

/-- ITS FALSE NEIGHBOUR: 'it returns false'. Refute it at one input. -/
def hmacNestsWrong : ChangeSpec := { name := "hmacNests", fn := fun _ => fun
  | [d1, d2] => { results := [.lit (.bool false)], args := [d1, d2] }
  | _ => none }
def HmacNestsWrongFalsely : Prop := hmacNestsRow.holds Try.pinned (OpenSpec.ofChange hmacNestsWrong)

/-- 'fairleadlaw08.HmacTags': WHATEVER THE INPUT: true; the input reads as it did. -/
def hmacTagsSpec : ChangeSpec := { name := "hmacTags", fn := fun _ => fun
  | [d1, d2] => { results := [.lit (.bool true)], args := [d1, d2] }
  | _ => none }
def hmacTagsRow : OpenClaim := { program := "ytllodapnbdbpeaa", sum := "25d7e3afa16dc49aa7d075a1011c62fd6622ae39e41118d819b56b4d6ff371fa", func := "fairlead/fairleadlaw08.HmacTags", spec := "hmacTags", apart := false }
def HmacTagsSaid : Prop := hmacTagsRow.holds Try.pinned (OpenSpec.ofChange hmacTagsSpec)

/-- ITS FALSE NEIGHBOUR: 'it returns false'. Refute it at one input. -/
def hmacTagsWrong : ChangeSpec := { name := "hmacTags", fn := fun _ => fun
  | [d1, d2] => { results := [.lit (.bool false)], args := [d1, d2] }
  | _ => none }
def HmacTagsWrongFalsely : Prop := hmacTagsRow.holds Try.pinned (OpenSpec.ofChange hmacTagsWrong)

/-- 'fairleadlaw08.HmacVerifies': WHATEVER THE INPUT: true; the input reads as it did. -/
def hmacVerifiesSpec : ChangeSpec := { name := "hmacVerifies", fn := fun _ => fun
  | [d1, d2, d3] => { results := [.lit (.bool true)], args := [d1, d2, d3] }
  | _ => none }
def hmacVerifiesRow : OpenClaim := { program := "ytllodapnbdbpeaa", sum := "25d7e3afa16dc49aa7d075a1011c62fd6622ae39e41118d819b56b4d6ff371fa", func := "fairlead/fairleadlaw08.HmacVerifies", spec := "hmacVerifies", apart := false }
def HmacVerifiesSaid : Prop := hmacVerifiesRow.holds Try.pinned (OpenSpec.ofChange hmacVerifiesSpec)

/-- ITS FALSE NEIGHBOUR: 'it returns false'. Refute it at one input. -/
def hmacVerifiesWrong : ChangeSpec := { name := "hmacVerifies", fn := fun _ => fun
  | [d1, d2, d3] => { results := [.lit (.bool false)], args := [d1, d2, d3] }
  | _ => none }
def HmacVerifiesWrongFalsely : Prop := hmacVerifiesRow.holds Try.pinned (OpenSpec.ofChange hmacVerifiesWrong)

/-- 'fairleadlaw08.HmacTurned': WHATEVER THE INPUT: true; the input reads as it did. -/
def hmacTurnedSpec : ChangeSpec := { name := "hmacTurned", fn := fun _ => fun
  | [d1, d2, d3] => { results := [.lit (.bool true)], args := [d1, d2, d3] }
  | _ => none }
def hmacTurnedRow : OpenClaim := { program := "ytllodapnbdbpeaa", sum := "25d7e3afa16dc49aa7d075a1011c62fd6622ae39e41118d819b56b4d6ff371fa", func := "fairlead/fairleadlaw08.HmacTurned", spec := "hmacTurned", apart := false }
def HmacTurnedSaid : Prop := hmacTurnedRow.holds Try.pinned (OpenSpec.ofChange hmacTurnedSpec)

/-- ITS FALSE NEIGHBOUR: 'it returns false'. Refute it at one input. -/
def hmacTurnedWrong : ChangeSpec := { name := "hmacTurned", fn := fun _ => fun
  | [d1, d2, d3] => { results := [.lit (.bool false)], args := [d1, d2, d3] }
  | _ => none }
def HmacTurnedWrongFalsely : Prop := hmacTurnedRow.holds Try.pinned (OpenSpec.ofChange hmacTurnedWrong)

/-- 'fairleadlaw08.HmacKeys': WHATEVER THE INPUT: true; the input reads as it did. -/
def hmacKeysSpec : ChangeSpec := { name := "hmacKeys", fn := fun _ => fun
  | [d1, d2, d3, d4] => { results := [.lit (.bool true)], args := [d1, d2, d3, d4] }
  | _ => none }
def hmacKeysRow : OpenClaim := { program := "ytllodapnbdbpeaa", sum := "25d7e3afa16dc49aa7d075a1011c62fd6622ae39e41118d819b56b4d6ff371fa", func := "fairlead/fairleadlaw08.HmacKeys", spec := "hmacKeys", apart := false }
def HmacKeysSaid : Prop := hmacKeysRow.holds Try.pinned (OpenSpec.ofChange hmacKeysSpec)

/-- ITS FALSE NEIGHBOUR: 'it returns false'. Refute it at one input. -/
def hmacKeysWrong : ChangeSpec := { name := "hmacKeys", fn := fun _ => fun
  | [d1, d2, d3, d4] => { results := [.lit (.bool false)], args := [d1, d2, d3, d4] }
  | _ => none }
def HmacKeysWrongFalsely : Prop := hmacKeysRow.holds Try.pinned (OpenSpec.ofChange hmacKeysWrong)

/- THE SECOND FORM. 'bulk': how many values and letters a reading holds, each counted each time it is reached (what is shared counts as often as it is met; a slice's spare places count too). A statement '..UptoSaid' is the law's where the arguments, and the package variables that the reading takes, are together of bulk at most 1048576: NARROWER than '..Said'. Prove '..Said' where nothing that the law and all that it calls make is longer than what came in: it says more and counts as full. Else prove '..UptoSaid'. A law counts once. -/
mutual
def uptoBulk {H : Type} : DataW H → Nat
  | .lit (.string bytes) => bytes.length + 1
  | .lit _ => 1
  | .nil => 1
  | .ptr d => uptoBulk d + 1
  | .slice elems spare => uptoBulkAll elems + uptoBulkAll spare + 1
  | .agg parts => uptoBulkAll parts + 1
  | .iface _ d => uptoBulk d + 1
  | .map entries => uptoBulkEntries entries + 1
  | .held _ => 1
def uptoBulkAll {H : Type} : List (DataW H) → Nat
  | [] => 0
  | d :: r => uptoBulk d + uptoBulkAll r
def uptoBulkEntries {H : Type} : List (Lit × DataW H) → Nat
  | [] => 0
  | x :: r => uptoBulkEntry x + uptoBulkEntries r
def uptoBulkEntry {H : Type} : Lit × DataW H → Nat
  | (.string bytes, d) => bytes.length + uptoBulk d + 1
  | (_, d) => uptoBulk d + 1
 end
def uptoSmall : (H : Type) → List (DataW H) → Bool := fun _ ds => decide (uptoBulkAll ds ≤ 1048576)
def OpenSpec.upto (s : _root_.Go.ChangeSpec) : _root_.Go.OpenSpec := { _root_.Go.OpenSpec.ofChange s with cond := some uptoSmall }

/-- 'fairleadlaw08.HmacNests', WHERE WHAT IT READS IS OF BULK AT MOST 1048576: true; the input reads as it did. -/
def hmacNestsUptoRow : OpenClaim := { program := "ytllodapnbdbpeaa", sum := "25d7e3afa16dc49aa7d075a1011c62fd6622ae39e41118d819b56b4d6ff371fa", func := "fairlead/fairleadlaw08.HmacNests", spec := "hmacNests", apart := false, narrowed := true }
def HmacNestsUptoSaid : Prop := hmacNestsUptoRow.holds Try.pinned (OpenSpec.upto hmacNestsSpec)

/-- 'fairleadlaw08.HmacTags', WHERE WHAT IT READS IS OF BULK AT MOST 1048576: true; the input reads as it did. -/
def hmacTagsUptoRow : OpenClaim := { program := "ytllodapnbdbpeaa", sum := "25d7e3afa16dc49aa7d075a1011c62fd6622ae39e41118d819b56b4d6ff371fa", func := "fairlead/fairleadlaw08.HmacTags", spec := "hmacTags", apart := false, narrowed := true }
def HmacTagsUptoSaid : Prop := hmacTagsUptoRow.holds Try.pinned (OpenSpec.upto hmacTagsSpec)

/-- 'fairleadlaw08.HmacVerifies', WHERE WHAT IT READS IS OF BULK AT MOST 1048576: true; the input reads as it did. -/
def hmacVerifiesUptoRow : OpenClaim := { program := "ytllodapnbdbpeaa", sum := "25d7e3afa16dc49aa7d075a1011c62fd6622ae39e41118d819b56b4d6ff371fa", func := "fairlead/fairleadlaw08.HmacVerifies", spec := "hmacVerifies", apart := false, narrowed := true }
def HmacVerifiesUptoSaid : Prop := hmacVerifiesUptoRow.holds Try.pinned (OpenSpec.upto hmacVerifiesSpec)

/-- 'fairleadlaw08.HmacTurned', WHERE WHAT IT READS IS OF BULK AT MOST 1048576: true; the input reads as it did. -/
def hmacTurnedUptoRow : OpenClaim := { program := "ytllodapnbdbpeaa", sum := "25d7e3afa16dc49aa7d075a1011c62fd6622ae39e41118d819b56b4d6ff371fa", func := "fairlead/fairleadlaw08.HmacTurned", spec := "hmacTurned", apart := false, narrowed := true }
def HmacTurnedUptoSaid : Prop := hmacTurnedUptoRow.holds Try.pinned (OpenSpec.upto hmacTurnedSpec)

/-- 'fairleadlaw08.HmacKeys', WHERE WHAT IT READS IS OF BULK AT MOST 1048576: true; the input reads as it did. -/
def hmacKeysUptoRow : OpenClaim := { program := "ytllodapnbdbpeaa", sum := "25d7e3afa16dc49aa7d075a1011c62fd6622ae39e41118d819b56b4d6ff371fa", func := "fairlead/fairleadlaw08.HmacKeys", spec := "hmacKeys", apart := false, narrowed := true }
def HmacKeysUptoSaid : Prop := hmacKeysUptoRow.holds Try.pinned (OpenSpec.upto hmacKeysSpec)

end Rows
end Go.Proofs.Ytllodapnbdbpeaa
