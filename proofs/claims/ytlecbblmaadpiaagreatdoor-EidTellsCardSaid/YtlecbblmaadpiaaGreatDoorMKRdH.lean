/- The reader of layer 3: bytes and texts, and heads. The reader of layer 3: heads. -/
import Derived.Test.YtlecbblmaadpiaaGreatDoorMEidI1
namespace Go.Proofs.YtlecbblmaadpiaaGreatDoor
open Go.RowKit
section
variable {w : World} {g n c i p d : Nat} {A : Option Addr} {bs : List UInt8}
end
section
variable {w : World} {g n c i p d : Nat} {A : Option Addr} {bs : List UInt8}
end
end Go.Proofs.YtlecbblmaadpiaaGreatDoor
