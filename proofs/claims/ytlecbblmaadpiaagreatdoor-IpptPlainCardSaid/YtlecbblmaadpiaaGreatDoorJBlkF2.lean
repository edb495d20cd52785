/- What taken of layer 5 returns. -/
import Derived.Test.YtlecbblmaadpiaaGreatDoorJBlkE
namespace Go.Proofs.YtlecbblmaadpiaaGreatDoor
open Go.RowKit
theorem below_put5 {B g : Nat} {w W' : World} {u0 u1 u2 u3 u4 : Value} (h : Below B w W') (hg : B ≤ g) : Below B w (((((W'.setCell ⟨g, 0, none⟩ u0).setCell ⟨g, 1, none⟩ u1).setCell ⟨g, 2, none⟩ u2).setCell ⟨g, 3, none⟩ u3).setCell ⟨g, 4, none⟩ u4) :=
  (((((h.setCell (p := ⟨g, 0, none⟩) hg _).setCell (p := ⟨g, 1, none⟩) hg _).setCell (p := ⟨g, 2, none⟩) hg _).setCell (p := ⟨g, 3, none⟩) hg _).setCell (p := ⟨g, 4, none⟩) hg _)
theorem zero5 {w w' : World} {g : Nat} (hg : g = w.heap.size) (h : Below (g + 1) (w.alloc (.cells #[.int .u64 0, .int .u64 0, .int .u64 0, .int .i64 0, .slice none 0 0] 48)) w') :
    (w'.cell? ⟨g, 0, none⟩ = some (.int .u64 0) ∧ w'.cell? ⟨g, 1, none⟩ = some (.int .u64 0) ∧ w'.cell? ⟨g, 2, none⟩ = some (.int .u64 0) ∧ w'.cell? ⟨g, 3, none⟩ = some (.int .i64 0) ∧ w'.cell? ⟨g, 4, none⟩ = some (.slice none 0 0)) ∧
    (w'.frozen? ⟨g, 0, none⟩ = false ∧ w'.frozen? ⟨g, 1, none⟩ = false ∧ w'.frozen? ⟨g, 2, none⟩ = false ∧ w'.frozen? ⟨g, 3, none⟩ = false ∧ w'.frozen? ⟨g, 4, none⟩ = false) := by
  refine ⟨box5 hg h, ?_⟩
  subst hg
  refine ⟨?_, ?_, ?_, ?_, ?_⟩ <;> (rw [h.frozen (Nat.lt_succ_self _)]; simp)
theorem RdI.cells {w : World} {B : Nat} {c0 c1 c2 c3 : Value} {k : Int} {n : Nat} {d : List UInt8} {l : List Itm} (h : RdI w B (.agg #[c0, c1, c2, c3]) (.mk k n d l)) :
    ∃ (A : Option Addr) (nd cd : Nat), c0 = .int .i64 k ∧ c1 = .int .u64 (n : Int) ∧ c2 = .slice A nd cd ∧ n < 18446744073709551616 ∧ (nd ≤ cd ∧ nd ≤ 140737488355328) ∧ Rd w B A nd d := by
  obtain ⟨A, nd, cd, AL, cl, e, -, h2, h3, h4, -, -⟩ := h.open
  injection e with e
  simp only [Array.mk.injEq, List.cons.injEq, and_true] at e
  obtain ⟨rfl, rfl, rfl, -⟩ := e
  exact ⟨A, nd, cd, rfl, rfl, rfl, h2, h3, h4⟩
theorem i64eq (n : Int) : IntKind.i64.wrap n = wrap64 n := by
  simp only [IntKind.wrap, wrap64, IntKind.signed, IntKind.bits]
  first | rfl | (simp; omega) | omega
end Go.Proofs.YtlecbblmaadpiaaGreatDoor
