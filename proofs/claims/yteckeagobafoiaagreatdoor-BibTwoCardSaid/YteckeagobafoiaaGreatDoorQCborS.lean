import Derived.Test.YteckeagobafoiaaGreatDoorQCborR
namespace Go.Proofs.YteckeagobafoiaaGreatDoor
open Go.RowKit
mutual
def hgt:Itm→Nat | .mk _ _ _ l=>hgts l+1
def hgts:List Itm→Nat | []=>0|x::r=>max (hgt x) (hgts r)
end
end Go.Proofs.YteckeagobafoiaaGreatDoor
