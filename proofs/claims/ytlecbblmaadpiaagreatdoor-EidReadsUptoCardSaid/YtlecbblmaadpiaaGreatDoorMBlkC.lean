/- What numberOf, check, Check and sumSize of layer 5 return. -/
import Derived.Test.YtlecbblmaadpiaaGreatDoorMBAsW
import Derived.Test.YtlecbblmaadpiaaGreatDoorMEidM
import Derived.Test.YtlecbblmaadpiaaGreatDoorMKWrite
import Derived.Stop.IfaceNil
namespace Go.Proofs.YtlecbblmaadpiaaGreatDoor
open Go.RowKit
end Go.Proofs.YtlecbblmaadpiaaGreatDoor
