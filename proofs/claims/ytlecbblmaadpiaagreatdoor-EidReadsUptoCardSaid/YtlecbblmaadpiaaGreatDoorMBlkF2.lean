/- What taken of layer 5 returns. -/
import Derived.Test.YtlecbblmaadpiaaGreatDoorMBlkE
namespace Go.Proofs.YtlecbblmaadpiaaGreatDoor
open Go.RowKit
theorem RdI.cells {w : World} {B : Nat} {c0 c1 c2 c3 : Value} {k : Int} {n : Nat} {d : List UInt8} {l : List Itm} (h : RdI w B (.agg #[c0, c1, c2, c3]) (.mk k n d l)) :
    ∃ (A : Option Addr) (nd cd : Nat), c0 = .int .i64 k ∧ c1 = .int .u64 (n : Int) ∧ c2 = .slice A nd cd ∧ n < 18446744073709551616 ∧ (nd ≤ cd ∧ nd ≤ 140737488355328) ∧ Rd w B A nd d := by
  obtain ⟨A, nd, cd, AL, cl, e, -, h2, h3, h4, -, -⟩ := h.open
  injection e with e
  simp only [Array.mk.injEq, List.cons.injEq, and_true] at e
  obtain ⟨rfl, rfl, rfl, -⟩ := e
  exact ⟨A, nd, cd, rfl, rfl, rfl, h2, h3, h4⟩
theorem i64eq (n : Int) : IntKind.i64.wrap n = wrap64 n := by
  simp only [IntKind.wrap, wrap64, IntKind.signed, IntKind.bits]
  first | rfl | (simp; omega) | omega
end Go.Proofs.YtlecbblmaadpiaaGreatDoor
