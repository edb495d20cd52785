/- What item of layer 3's reader returns, where a head of uint stands. What item of layer 3's reader returns, where a head of bytes stands. What item of layer 3's reader returns, where a head of text stands. What item of layer 3's reader returns, where a head of array stands. -/
import Derived.Test.YtlecbblmaadpiaaGreatDoorMKDec
namespace Go.Proofs.YtlecbblmaadpiaaGreatDoor
open Go.RowKit
section
variable {w : World} {g n c i p d D : Nat} {A : Option Addr} {bs : List UInt8} {sub : Nat → List UInt8 → Except Int (Itm × Nat × List UInt8)} {deep : Bool}
end
section
variable {w : World} {g n c i p d D : Nat} {A : Option Addr} {bs : List UInt8} {sub : Nat → List UInt8 → Except Int (Itm × Nat × List UInt8)} {deep : Bool}
end
section
variable {w : World} {g n c i p d D : Nat} {A : Option Addr} {bs : List UInt8} {sub : Nat → List UInt8 → Except Int (Itm × Nat × List UInt8)} {deep : Bool}
end
section
variable {w : World} {g n c i p d D : Nat} {A : Option Addr} {bs : List UInt8} {sub : Nat → List UInt8 → Except Int (Itm × Nat × List UInt8)} {deep : Bool}
end
end Go.Proofs.YtlecbblmaadpiaaGreatDoor
