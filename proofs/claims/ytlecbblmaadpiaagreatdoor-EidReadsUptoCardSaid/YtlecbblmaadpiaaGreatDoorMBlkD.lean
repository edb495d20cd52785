/- What item of layer 5 returns. (Made by gen/BlkD.py.) -/
import Derived.Test.YtlecbblmaadpiaaGreatDoorMArrS
import Derived.Test.YtlecbblmaadpiaaGreatDoorMBlkC
import Derived.Test.YtlecbblmaadpiaaGreatDoorMEidI1
import Derived.Deep.RegionHeld3
import Derived.Deep.AppendLies
import Derived.Laws.MakeOwn
namespace Go.Proofs.YtlecbblmaadpiaaGreatDoor
open Go.RowKit
theorem ItC.row {lo : Nat} {W : World} {cs : List Value} {xs : List Itm} {t : TypeId} (hlo : lo ≤ W.heap.size) (h : ItC (mask (lows lo) W) W.heap.size cs xs) :
    RdIs (mask (lows lo) (W.alloc (.cells cs.toArray t))) (W.heap.size + 1) W.heap.size 0 xs :=
  ItC.lie (h.mask_go (S' := lows lo) (B' := W.heap.size + 1) (Nat.le_succ _) (fun _ hk _ => Below.heap_alloc _ _ _ hk) (fun _ _ h => h)) (fun j u hj => by
    rw [Nat.zero_add, mask_cell (lows_f.2 hlo), World.cell?_alloc_at _ _ _ _ rfl]
    simpa using hj)
end Go.Proofs.YtlecbblmaadpiaaGreatDoor
