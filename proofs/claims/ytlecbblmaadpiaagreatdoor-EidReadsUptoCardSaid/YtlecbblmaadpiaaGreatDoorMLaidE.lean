/- What the listed variable of package errors holds: the handle of the type 'error'; and a world that holds it. -/
import Derived.Test.YtlecbblmaadpiaaGreatDoorCards
import Derived.Test.YtlecbblmaadpiaaGreatDoorTie
import Derived.WalkKit
import Derived.LaidLaws
import Derived.LaidHandle
namespace Go.Proofs.YtlecbblmaadpiaaGreatDoor
open Go.RowKit
def LaidE (w : World) : Prop := w.cell? ⟨4, 0, none⟩ = some (.iface 236 (.agg #[.pointer (some ⟨11, 95, none⟩)]))
theorem LaidE.below {B : Nat} {w w' : World} (h : LaidE w) (hb : Below B w w') (hB : 4 < B) : LaidE w' := (hb.cell (p := ⟨4, 0, none⟩) hB).trans h
theorem LaidE.lt {w : World} (h : LaidE w) : 4 < w.heap.size := World.block_lt_of_cell? w _ h
end Go.Proofs.YtlecbblmaadpiaaGreatDoor
