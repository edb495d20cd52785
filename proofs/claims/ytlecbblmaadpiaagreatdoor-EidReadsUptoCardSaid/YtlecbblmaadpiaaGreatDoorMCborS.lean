/- What right of layer 3's reference returns. What right of layer 3's reference returns, at arrays; and at every item. What right of layer 3's reference returns. -/
import Derived.Test.YtlecbblmaadpiaaGreatDoorMKWrite
namespace Go.Proofs.YtlecbblmaadpiaaGreatDoor
open Go.RowKit
mutual
def hgt : Itm → Nat | .mk _ _ _ l => hgts l + 1
def hgts : List Itm → Nat | [] => 0 | x :: r => max (hgt x) (hgts r)
end
end Go.Proofs.YtlecbblmaadpiaaGreatDoor
