/- What write of layer 5 returns; Encode of layer 3 with its slice as one's own. -/
import Derived.Test.YtlecbblmaadpiaaGreatDoorMBlkD
import Derived.Test.YtlecbblmaadpiaaGreatDoorMCborCs
import Derived.Laws.CopyOwn
namespace Go.Proofs.YtlecbblmaadpiaaGreatDoor
open Go.RowKit
theorem Ob.low {w : World} {base base' : Nat} {t : TypeId} {v : Value} {l : List UInt8} (h : Ob w base t v l) (hb : base' ≤ base) : Ob w base' t v l :=
  ⟨h.1, h.2.imp id fun ⟨g, cap, cur, hv, h1, r⟩ => ⟨g, cap, cur, hv, Nat.le_trans hb h1, r⟩⟩
theorem Ob.cur {w : World} {base : Nat} {t : TypeId} {v : Value} {l : List UInt8} (h : Ob w base t v l) (h0 : 0 < l.length) : ∃ g cap cur, v = .slice (some ⟨g, 0, none⟩) l.length cap ∧ base ≤ g ∧ l.length ≤ cap ∧ w.heap[g]? = some (.cells cur t (0, 0)) ∧ cur.size = cap := by
  rcases h.2 with ⟨_, hn⟩ | ⟨g, cap, cur, hv, hb, hg, hnc, hcm, hcs, ht⟩
  · omega
  · exact ⟨g, cap, cur, hv, hb, hnc, hg, by rwa [Nat.mul_one] at hcs⟩
end Go.Proofs.YtlecbblmaadpiaaGreatDoor
