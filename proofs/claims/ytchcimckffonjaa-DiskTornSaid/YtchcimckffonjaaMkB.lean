/- make of bytes. No program. -/
import Derived.Test.YtchcimckffonjaaOwn
import Derived.Laws.MakeOwn
namespace Go.Proofs.Ytchcimckffonjaa
open Go.RowKit

/-- make of bytes with room behind them. -/
theorem wpList_makeB13 {P : Program} {ops : Array Oper} {rest : List Oper} {o : Oper} {a : Act} {w : World} {Q : Exit → Act → World → Prop} (hg : o.guard = none) (l c : Operand) (t : TypeId) (hop : o.op = Op.makeSlice t l c)
    (e : TypeId) (ht : P.underlying t = some (.slice e)) (hinfo : (P.info? e).map (fun i => (i.zero, i.size, i.bytes)) = some (some (.int .u8 0), 1, 1)) (M C : Nat) (x y : Int) (hl : a.eval l = .int .i64 x) (hc : a.eval c = .int .i64 y) (hx : x = (M : Int)) (hy : y = (C : Int)) (hMC : M ≤ C) (hC : C ≤ 140737488355328)
    (h : ∀ w' : World, Ob w' w.heap.size e (.slice (some ⟨w.heap.size, 0, none⟩) M C) (List.replicate M 0) → Below w.heap.size w w' → wpList P ops Q rest (a.put o.dst (.slice (some ⟨w.heap.size, 0, none⟩) M C)) w') : wpList P ops Q (o :: rest) a w := by
  subst hx hy
  obtain ⟨i, hi, hzz⟩ := Option.map_eq_some_iff.1 hinfo
  simp only [Prod.mk.injEq] at hzz
  obtain ⟨hz, hs, hb⟩ := hzz
  have hr := run_make (P := P) w t e i (.int .u8 0) ht hi hz .i64 .i64 (M : Int) (C : Int) (by omega) (by omega) (by rw [hb]; omega) (by omega)
  simp only [Int.toNat_natCast, hs, Nat.mul_one] at hr
  refine wpList_plain hg fun K hK => ?_
  unfold Oper.wp
  simp [execOp, hop, hl, hc, hr, Result.andThen]
  refine hK _ _ (h _ ⟨?_, .inr ⟨w.heap.size, C, _, by simp, Nat.le_refl _, heap_alloc_new w _, by simpa using hMC, by unfold maxLen; omega, by rw [size_madeCells, Nat.mul_one], ?_⟩⟩ ((Below.refl _ _).alloc (Nat.le_refl _) _))
  · simp
  · apply List.ext_getElem?
    intro j
    have hz1 : (Value.int IntKind.u8 0).cells = #[.int .u8 0] := rfl
    rw [hz1]
    by_cases hj : j < M
    · have hj2 : j < C := by omega
      simp [hj, madeCells, hj2, Nat.mod_one, bv]
    · simp [hj]
      omega
end Go.Proofs.Ytchcimckffonjaa
