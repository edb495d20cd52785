/- What speltNumbers and spelt of layer 4 return: the one endpoint whose text this could be. -/
import Derived.Test.YtldnokgdgafphaaGreatDoorJRfF
namespace Go.Proofs.YtldnokgdgafphaaGreatDoor
open Go.RowKit
theorem zeroE {w W':World} {g:Nat} (hg:g=w.heap.size) (h:Below (g+1) (w.alloc (.cells #[.int .i64 0,.string ⟨#[]⟩,.int .u64 0,.int .u64 0] 25)) W') :
    (W'.cell? ⟨g,0,none⟩=some (.int .i64 0)∧W'.cell? ⟨g,1,none⟩=some (.string ⟨#[]⟩)∧W'.cell? ⟨g,2,none⟩=some (.int .u64 0)∧W'.cell? ⟨g,3,none⟩=some (.int .u64 0)) ∧
    (W'.frozen? ⟨g,0,none⟩=false∧W'.frozen? ⟨g,1,none⟩=false∧W'.frozen? ⟨g,2,none⟩=false∧W'.frozen? ⟨g,3,none⟩=false):=by
  subst hg
  exact ⟨box_cells4 (h.mono (by simp)),(h.frozen (p:=⟨w.heap.size,0,none⟩) (Nat.lt_succ_self _)).trans (by simp),(h.frozen (p:=⟨w.heap.size,1,none⟩) (Nat.lt_succ_self _)).trans (by simp),(h.frozen (p:=⟨w.heap.size,2,none⟩) (Nat.lt_succ_self _)).trans (by simp),(h.frozen (p:=⟨w.heap.size,3,none⟩) (Nat.lt_succ_self _)).trans (by simp)⟩
theorem below_put4 {B g:Nat} {w W':World} {u0 u1 u2 u3:Value} (h:Below B w W') (hg:B≤g):Below B w ((((W'.setCell ⟨g,0,none⟩ u0).setCell ⟨g,1,none⟩ u1).setCell ⟨g,2,none⟩ u2).setCell ⟨g,3,none⟩ u3) :=
  (((h.setCell (p:=⟨g,0,none⟩) hg _).setCell (p:=⟨g,1,none⟩) hg _).setCell (p:=⟨g,2,none⟩) hg _).setCell (p:=⟨g,3,none⟩) hg _
end Go.Proofs.YtldnokgdgafphaaGreatDoor
