/- A bundle stored whole: the 18 cells of a box laid anew at once. (Made by gen/bun.py.) -/
import Derived.Test.YtanbjifdcplmnaaGreatDoorTBunS
import Derived.Deep.WholeRow
import Derived.Laws.CopyOwn
import Derived.Laws.ResultCell
import Derived.Deep.RegionHeld3
namespace Go.Proofs.YtanbjifdcplmnaaGreatDoor
open Go.RowKit

/-- A bundle stored over 18 cells. -/
theorem st18 {P : Program} {W : World} {g : Nat} {t : TypeId} {old : Array Value} {v0 : Value} {v1 : Value} {v2 : Value} {v3 : Value} {v4 : Value} {v5 : Value} {v6 : Value} {v7 : Value} {v8 : Value} {v9 : Value} {v10 : Value} {v11 : Value} {v12 : Value} {v13 : Value} {v14 : Value} {v15 : Value} {v16 : Value} {v17 : Value} (hg : W.heap[g]? = some (.cells old t (0, 0))) (ho : old.size = 18) (h1 : ([v0, v1, v2, v3, v4, v5, v6, v7, v8, v9, v10, v11, v12, v13, v14, v15, v16, v17] : List Value).all (·.oneCell') = true) :
    ∃ W', (storeCells ⟨g, 0, none⟩ [v0, v1, v2, v3, v4, v5, v6, v7, v8, v9, v10, v11, v12, v13, v14, v15, v16, v17] 0).run P W = .ok () W' ∧ W'.heap[g]? = some (.cells #[v0, v1, v2, v3, v4, v5, v6, v7, v8, v9, v10, v11, v12, v13, v14, v15, v16, v17] t (0, 0)) ∧ (W'.cell? ⟨g, 0, none⟩ = some v0 ∧ W'.cell? ⟨g, 1, none⟩ = some v1 ∧ W'.cell? ⟨g, 2, none⟩ = some v2 ∧ W'.cell? ⟨g, 3, none⟩ = some v3 ∧ W'.cell? ⟨g, 4, none⟩ = some v4 ∧ W'.cell? ⟨g, 5, none⟩ = some v5 ∧ W'.cell? ⟨g, 6, none⟩ = some v6 ∧ W'.cell? ⟨g, 7, none⟩ = some v7 ∧ W'.cell? ⟨g, 8, none⟩ = some v8 ∧ W'.cell? ⟨g, 9, none⟩ = some v9 ∧ W'.cell? ⟨g, 10, none⟩ = some v10 ∧ W'.cell? ⟨g, 11, none⟩ = some v11 ∧ W'.cell? ⟨g, 12, none⟩ = some v12 ∧ W'.cell? ⟨g, 13, none⟩ = some v13 ∧ W'.cell? ⟨g, 14, none⟩ = some v14 ∧ W'.cell? ⟨g, 15, none⟩ = some v15 ∧ W'.cell? ⟨g, 16, none⟩ = some v16 ∧ W'.cell? ⟨g, 17, none⟩ = some v17) ∧
      (∀ p : Addr, p.block ≠ g → W'.cell? p = W.cell? p) ∧ (∀ (B : Nat) (w0 : World), Below B w0 W → B ≤ g → Below B w0 W') ∧ W'.heap.size = W.heap.size := by
  have hrun := run_storeCells_from (P := P) g t [v0, v1, v2, v3, v4, v5, v6, v7, v8, v9, v10, v11, v12, v13, v14, v15, v16, v17] 0 old W hg (by simp; omega) (fun v hv => List.all_eq_true.1 h1 v hv)
  rw [List.take_zero, List.nil_append] at hrun
  have hrow : (W.setRow g #[v0, v1, v2, v3, v4, v5, v6, v7, v8, v9, v10, v11, v12, v13, v14, v15, v16, v17]).heap[g]? = some (.cells #[v0, v1, v2, v3, v4, v5, v6, v7, v8, v9, v10, v11, v12, v13, v14, v15, v16, v17] t (0, 0)) := setRow_heap W g old _ t _ hg
  have hc : ∀ j v, (#[v0, v1, v2, v3, v4, v5, v6, v7, v8, v9, v10, v11, v12, v13, v14, v15, v16, v17] : Array Value)[j]? = some v → (W.setRow g #[v0, v1, v2, v3, v4, v5, v6, v7, v8, v9, v10, v11, v12, v13, v14, v15, v16, v17]).cell? ⟨g, j, none⟩ = some v := fun j v hj => by
    unfold World.cell?
    rw [hrow]
    simpa using hj
  exact ⟨W.setRow g #[v0, v1, v2, v3, v4, v5, v6, v7, v8, v9, v10, v11, v12, v13, v14, v15, v16, v17], hrun, hrow, ⟨hc 0 _ rfl, hc 1 _ rfl, hc 2 _ rfl, hc 3 _ rfl, hc 4 _ rfl, hc 5 _ rfl, hc 6 _ rfl, hc 7 _ rfl, hc 8 _ rfl, hc 9 _ rfl, hc 10 _ rfl, hc 11 _ rfl, hc 12 _ rfl, hc 13 _ rfl, hc 14 _ rfl, hc 15 _ rfl, hc 16 _ rfl, hc 17 _ rfl⟩, fun p hp => cell_setRow_other W g _ p hp, fun B w0 hb hB => below_setRow hb hB _, setRow_size W g _⟩
/-- The operation. -/
theorem wpList_st18 {P : Program} {w : World} {ops : Array Oper} {rest : List Oper} {o : Oper} {a : Act} {Q : Exit → Act → World → Prop} (hgd : o.guard = none) (ty : TypeId) (x y : Operand) (ho : o.op = .store ty x y)
    (g : Nat) {v0 : Value} {v1 : Value} {v2 : Value} {v3 : Value} {v4 : Value} {v5 : Value} {v6 : Value} {v7 : Value} {v8 : Value} {v9 : Value} {v10 : Value} {v11 : Value} {v12 : Value} {v13 : Value} {v14 : Value} {v15 : Value} {v16 : Value} {v17 : Value} (hx : a.eval x = .pointer (some ⟨g, 0, none⟩)) (hy : a.eval y = .agg #[v0, v1, v2, v3, v4, v5, v6, v7, v8, v9, v10, v11, v12, v13, v14, v15, v16, v17]) (t : TypeId) (old : Array Value) (hg : w.heap[g]? = some (.cells old t (0, 0)))
    (hi : (P.info? ty).map (·.size) = some 18) (hold : old.size = 18) (h1 : ([v0, v1, v2, v3, v4, v5, v6, v7, v8, v9, v10, v11, v12, v13, v14, v15, v16, v17] : List Value).all (·.oneCell') = true)
    (h : ∀ W', W'.heap[g]? = some (.cells #[v0, v1, v2, v3, v4, v5, v6, v7, v8, v9, v10, v11, v12, v13, v14, v15, v16, v17] t (0, 0)) → (W'.cell? ⟨g, 0, none⟩ = some v0 ∧ W'.cell? ⟨g, 1, none⟩ = some v1 ∧ W'.cell? ⟨g, 2, none⟩ = some v2 ∧ W'.cell? ⟨g, 3, none⟩ = some v3 ∧ W'.cell? ⟨g, 4, none⟩ = some v4 ∧ W'.cell? ⟨g, 5, none⟩ = some v5 ∧ W'.cell? ⟨g, 6, none⟩ = some v6 ∧ W'.cell? ⟨g, 7, none⟩ = some v7 ∧ W'.cell? ⟨g, 8, none⟩ = some v8 ∧ W'.cell? ⟨g, 9, none⟩ = some v9 ∧ W'.cell? ⟨g, 10, none⟩ = some v10 ∧ W'.cell? ⟨g, 11, none⟩ = some v11 ∧ W'.cell? ⟨g, 12, none⟩ = some v12 ∧ W'.cell? ⟨g, 13, none⟩ = some v13 ∧ W'.cell? ⟨g, 14, none⟩ = some v14 ∧ W'.cell? ⟨g, 15, none⟩ = some v15 ∧ W'.cell? ⟨g, 16, none⟩ = some v16 ∧ W'.cell? ⟨g, 17, none⟩ = some v17) → (∀ p : Addr, p.block ≠ g → W'.cell? p = w.cell? p) → (∀ (B : Nat) (w0 : World), Below B w0 w → B ≤ g → Below B w0 W') → W'.heap.size = w.heap.size → wpList P ops Q rest (a.put o.dst undef) W') :
    wpList P ops Q (o :: rest) a w := by
  have hrow : (w.setRow g #[v0, v1, v2, v3, v4, v5, v6, v7, v8, v9, v10, v11, v12, v13, v14, v15, v16, v17]).heap[g]? = some (.cells #[v0, v1, v2, v3, v4, v5, v6, v7, v8, v9, v10, v11, v12, v13, v14, v15, v16, v17] t (0, 0)) := setRow_heap w g old _ t _ hg
  have hc : ∀ j v, (#[v0, v1, v2, v3, v4, v5, v6, v7, v8, v9, v10, v11, v12, v13, v14, v15, v16, v17] : Array Value)[j]? = some v → (w.setRow g #[v0, v1, v2, v3, v4, v5, v6, v7, v8, v9, v10, v11, v12, v13, v14, v15, v16, v17]).cell? ⟨g, j, none⟩ = some v := fun j v hj => by
    unfold World.cell?
    rw [hrow]
    simpa using hj
  exact wpList_store_row hgd ty x y ho g #[v0, v1, v2, v3, v4, v5, v6, v7, v8, v9, v10, v11, v12, v13, v14, v15, v16, v17] hx hy t old hg hi hold (Array.all_eq_true_iff_forall_mem.2 fun v hv => List.all_eq_true.1 h1 v (by simpa using hv))
    (h _ hrow ⟨hc 0 _ rfl, hc 1 _ rfl, hc 2 _ rfl, hc 3 _ rfl, hc 4 _ rfl, hc 5 _ rfl, hc 6 _ rfl, hc 7 _ rfl, hc 8 _ rfl, hc 9 _ rfl, hc 10 _ rfl, hc 11 _ rfl, hc 12 _ rfl, hc 13 _ rfl, hc 14 _ rfl, hc 15 _ rfl, hc 16 _ rfl, hc 17 _ rfl⟩ (fun p hp => cell_setRow_other w g _ p hp) (fun B w0 hb hB => below_setRow hb hB _) (setRow_size w g _))
/-- The row of a box. -/
theorem row_of_box {w W : World} {c : Array Value} {t : TypeId} {g : Nat} (hg : g = w.heap.size) (h : Below (g + 1) (w.alloc (.cells c t)) W) : W.heap[g]? = some (.cells c t (0, 0)) := by
  subst hg
  rw [h.block w.heap.size (Nat.lt_succ_self _)]
  exact heap_alloc_new w _
theorem cell_row {W : World} {g : Nat} {c : Array Value} {t : TypeId} (h : W.heap[g]? = some (.cells c t (0, 0))) (j : Nat) {v : Value} (hj : c[j]? = some v) : W.cell? ⟨g, j, none⟩ = some v := by
  unfold World.cell?
  rw [h]
  simpa using hj
/-- The last of the 18 cells laid anew. -/
theorem set17 {W : World} {g : Nat} {t : TypeId} {c0 : Value} {c1 : Value} {c2 : Value} {c3 : Value} {c4 : Value} {c5 : Value} {c6 : Value} {c7 : Value} {c8 : Value} {c9 : Value} {c10 : Value} {c11 : Value} {c12 : Value} {c13 : Value} {c14 : Value} {c15 : Value} {c16 : Value} {c17 : Value} (v : Value) (h : W.heap[g]? = some (.cells #[c0, c1, c2, c3, c4, c5, c6, c7, c8, c9, c10, c11, c12, c13, c14, c15, c16, c17] t (0, 0))) :
    (W.setCell ⟨g, 17, none⟩ v).heap[g]? = some (.cells #[c0, c1, c2, c3, c4, c5, c6, c7, c8, c9, c10, c11, c12, c13, c14, c15, c16, v] t (0, 0)) := by
  rw [setCell_eq_setRow W g 17 #[c0, c1, c2, c3, c4, c5, c6, c7, c8, c9, c10, c11, c12, c13, c14, c15, c16, c17] t (0, 0) v h]
  exact setRow_heap W g _ _ t _ h
theorem row_free {W : World} {g : Nat} {t : TypeId} {c : Array Value} (h : W.heap[g]? = some (.cells c t (0, 0))) (j : Nat) : W.frozen? ⟨g, j, none⟩ = false := by
  simp [World.frozen?, h]
/-! ### At a step of a region that draws its order -/
theorem step_st18 {P : Program} {w : World} {ops : Array Oper} {o : Oper} {a : Act} {K : Act → World → Prop} {Q : Exit → Act → World → Prop} {E : Prop} (hgd : o.guard = none) (ty : TypeId) (x y : Operand) (ho : o.op = .store ty x y)
    (g : Nat) {v0 : Value} {v1 : Value} {v2 : Value} {v3 : Value} {v4 : Value} {v5 : Value} {v6 : Value} {v7 : Value} {v8 : Value} {v9 : Value} {v10 : Value} {v11 : Value} {v12 : Value} {v13 : Value} {v14 : Value} {v15 : Value} {v16 : Value} {v17 : Value} (hx : a.eval x = .pointer (some ⟨g, 0, none⟩)) (hy : a.eval y = .agg #[v0, v1, v2, v3, v4, v5, v6, v7, v8, v9, v10, v11, v12, v13, v14, v15, v16, v17]) (t : TypeId) (old : Array Value) (hg : w.heap[g]? = some (.cells old t (0, 0)))
    (hi : (P.info? ty).map (·.size) = some 18) (hold : old.size = 18) (h1 : ([v0, v1, v2, v3, v4, v5, v6, v7, v8, v9, v10, v11, v12, v13, v14, v15, v16, v17] : List Value).all (·.oneCell') = true)
    (h : ∀ W', W'.heap[g]? = some (.cells #[v0, v1, v2, v3, v4, v5, v6, v7, v8, v9, v10, v11, v12, v13, v14, v15, v16, v17] t (0, 0)) → (∀ p : Addr, p.block ≠ g → W'.cell? p = w.cell? p) → (∀ (B : Nat) (w0 : World), Below B w0 w → B ≤ g → Below B w0 W') → W'.heap.size = w.heap.size → (∀ j, j ≠ g → W'.heap[j]? = w.heap[j]?) → K (a.put o.dst undef) W') :
    if Region.wanted o (yielded ops a.tmps) = true then Oper.wp P o a w K Q else E := by
  have hw : Region.wanted o (yielded ops a.tmps) = true := by simp [Region.wanted, hgd]
  rw [if_pos hw]
  have hrow : (w.setRow g #[v0, v1, v2, v3, v4, v5, v6, v7, v8, v9, v10, v11, v12, v13, v14, v15, v16, v17]).heap[g]? = some (.cells #[v0, v1, v2, v3, v4, v5, v6, v7, v8, v9, v10, v11, v12, v13, v14, v15, v16, v17] t (0, 0)) := setRow_heap w g old _ t _ hg
  exact wp_store_row ty x y ho g #[v0, v1, v2, v3, v4, v5, v6, v7, v8, v9, v10, v11, v12, v13, v14, v15, v16, v17] hx hy t old hg hi hold (Array.all_eq_true_iff_forall_mem.2 fun v hv => List.all_eq_true.1 h1 v (by simpa using hv))
    (h _ hrow (fun p hp => cell_setRow_other w g _ p hp) (fun B w0 hb hB => below_setRow hb hB _) (setRow_size w g _) (fun j hj => setRow_other w g j _ hj))
theorem takeW18 {P : Program} {md : Region.Mode} {l : List Oper} {Q : Exit → Act → World → Prop} {S : World → Prop} {i : Nat} {oi : Oper} {v : Value} {fuel : Nat} {listed : Array Bool} {a : Act} {w : World} (hi : l[i]? = some oi)
    (hs : Region.noSelect l.toArray = true) (hf : Region.free md l.toArray listed i = true) (hr : (Region.ready md l.toArray listed).contains i = true)
    (hQ : ∀ c a w, Q (.panic c) (a.put oi.dst v) w → Q (.panic c) a w) (hw : Region.wanted oi (yielded l.toArray a.tmps) = true) (hy : ∀ w, S w → (execOp a.eval oi).run P w = .ok (.value v) w) (hS : S w)
    (h : wpAnyH P md l.toArray Q S fuel (listed.setIfInBounds i true) (a.put oi.dst v) w) : wpAnyH P md l.toArray Q S (fuel + 1) listed a w :=
  wpAnyH_take (oi := oi) (v := v) (by simpa using hi) hs hf hr hQ (Or.inl ⟨hw, hy⟩) hS h
end Go.Proofs.YtanbjifdcplmnaaGreatDoor
