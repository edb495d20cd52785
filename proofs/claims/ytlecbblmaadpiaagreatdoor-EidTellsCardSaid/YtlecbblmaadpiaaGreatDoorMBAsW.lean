/- errors.As at a target whose element is a struct of one number, an error of that very type by value: a hit: '*target' is set. -/
import Derived.Test.YtlecbblmaadpiaaGreatDoorMBAsV
namespace Go.Proofs.YtlecbblmaadpiaaGreatDoor
open Go.RowKit Go.Extern.Stop Go.Stop Go.Extern
end Go.Proofs.YtlecbblmaadpiaaGreatDoor
