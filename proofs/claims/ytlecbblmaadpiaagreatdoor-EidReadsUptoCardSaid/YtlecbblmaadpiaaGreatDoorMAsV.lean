/- errors.As at a target whose element is a struct of one number, an error by value: nil gives false; the very type is a hit. After the guide's worked text on errors.As. -/
import Derived.Test.YtlecbblmaadpiaaGreatDoorMCborM
import Derived.Test.YtlecbblmaadpiaaGreatDoorMLaidE
import Derived.LaidEql
import Derived.Stop.Asserts
import Derived.RowKitTokens
namespace Go.Proofs.YtlecbblmaadpiaaGreatDoor
open Go.RowKit Go.Extern.Stop Go.Stop Go.Extern
end Go.Proofs.YtlecbblmaadpiaaGreatDoor
