/- What item of layer 3's reader returns, and Decode. -/
import Derived.Test.YtlecbblmaadpiaaGreatDoorMKDecG
namespace Go.Proofs.YtlecbblmaadpiaaGreatDoor
open Go.RowKit
section
variable {w : World} {g n c i p d D : Nat} {A : Option Addr} {bs : List UInt8} {sub : Nat → List UInt8 → Except Int (Itm × Nat × List UInt8)} {deep : Bool}
end
end Go.Proofs.YtlecbblmaadpiaaGreatDoor
