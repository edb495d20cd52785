/- What Decode of layer 3 returns. -/
import Derived.Test.YtlecbblmaadpiaaGreatDoorMKRdE
namespace Go.Proofs.YtlecbblmaadpiaaGreatDoor
open Go.RowKit
section
variable {w : World} {g n c i p d D : Nat} {A : Option Addr} {bs : List UInt8} {sub : Nat → List UInt8 → Except Int (Itm × Nat × List UInt8)} {deep : Bool}
end
end Go.Proofs.YtlecbblmaadpiaaGreatDoor
