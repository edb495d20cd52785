/- A bundle stored whole: the 18 cells of a box laid anew at once. (Made by gen/bun.py.) -/
import Derived.Test.YtoggkjoadiombaaGreatDoorJBunG
import Derived.Test.YtoggkjoadiombaaGreatDoorJBunL
import Derived.Test.YtoggkjoadiombaaGreatDoorJEidQ
import Derived.Test.YtoggkjoadiombaaGreatDoorJKRd
import Derived.Deep.WholeRow
import Derived.Laws.CopyOwn
import Derived.Laws.ResultCell
import Derived.Deep.RegionHeld3
import Derived.WalkMore
import Derived.StillTailTactics
import Derived.BigQuiet
import Derived.BigRegion
import Derived.Deep.QuietTactic
namespace Go.Proofs.YtoggkjoadiombaaGreatDoor
open Go.RowKit
theorem info_bun : (Tryz.prog.info? 28).map (·.size) = some 18 := by kernel_rfl
theorem wpList_st18 {P : Program} {w : World} {ops : Array Oper} {rest : List Oper} {o : Oper} {a : Act} {Q : Exit → Act → World → Prop} (hgd : o.guard = none) (ty : TypeId) (x y : Operand) (ho : o.op = .store ty x y)
    (g : Nat) {v0 : Value} {v1 : Value} {v2 : Value} {v3 : Value} {v4 : Value} {v5 : Value} {v6 : Value} {v7 : Value} {v8 : Value} {v9 : Value} {v10 : Value} {v11 : Value} {v12 : Value} {v13 : Value} {v14 : Value} {v15 : Value} {v16 : Value} {v17 : Value} (hx : a.eval x = .pointer (some ⟨g, 0, none⟩)) (hy : a.eval y = .agg #[v0, v1, v2, v3, v4, v5, v6, v7, v8, v9, v10, v11, v12, v13, v14, v15, v16, v17]) (t : TypeId) (old : Array Value) (hg : w.heap[g]? = some (.cells old t (0, 0)))
    (hi : (P.info? ty).map (·.size) = some 18) (hold : old.size = 18) (h1 : ([v0, v1, v2, v3, v4, v5, v6, v7, v8, v9, v10, v11, v12, v13, v14, v15, v16, v17] : List Value).all (·.oneCell') = true)
    (h : ∀ W', W'.heap[g]? = some (.cells #[v0, v1, v2, v3, v4, v5, v6, v7, v8, v9, v10, v11, v12, v13, v14, v15, v16, v17] t (0, 0)) → (W'.cell? ⟨g, 0, none⟩ = some v0 ∧ W'.cell? ⟨g, 1, none⟩ = some v1 ∧ W'.cell? ⟨g, 2, none⟩ = some v2 ∧ W'.cell? ⟨g, 3, none⟩ = some v3 ∧ W'.cell? ⟨g, 4, none⟩ = some v4 ∧ W'.cell? ⟨g, 5, none⟩ = some v5 ∧ W'.cell? ⟨g, 6, none⟩ = some v6 ∧ W'.cell? ⟨g, 7, none⟩ = some v7 ∧ W'.cell? ⟨g, 8, none⟩ = some v8 ∧ W'.cell? ⟨g, 9, none⟩ = some v9 ∧ W'.cell? ⟨g, 10, none⟩ = some v10 ∧ W'.cell? ⟨g, 11, none⟩ = some v11 ∧ W'.cell? ⟨g, 12, none⟩ = some v12 ∧ W'.cell? ⟨g, 13, none⟩ = some v13 ∧ W'.cell? ⟨g, 14, none⟩ = some v14 ∧ W'.cell? ⟨g, 15, none⟩ = some v15 ∧ W'.cell? ⟨g, 16, none⟩ = some v16 ∧ W'.cell? ⟨g, 17, none⟩ = some v17) → (∀ p : Addr, p.block ≠ g → W'.cell? p = w.cell? p) → (∀ (B : Nat) (w0 : World), Below B w0 w → B ≤ g → Below B w0 W') → W'.heap.size = w.heap.size → wpList P ops Q rest (a.put o.dst undef) W') :
    wpList P ops Q (o :: rest) a w := by
  have hrow : (w.setRow g #[v0, v1, v2, v3, v4, v5, v6, v7, v8, v9, v10, v11, v12, v13, v14, v15, v16, v17]).heap[g]? = some (.cells #[v0, v1, v2, v3, v4, v5, v6, v7, v8, v9, v10, v11, v12, v13, v14, v15, v16, v17] t (0, 0)) := setRow_heap w g old _ t _ hg
  have hc : ∀ j v, (#[v0, v1, v2, v3, v4, v5, v6, v7, v8, v9, v10, v11, v12, v13, v14, v15, v16, v17] : Array Value)[j]? = some v → (w.setRow g #[v0, v1, v2, v3, v4, v5, v6, v7, v8, v9, v10, v11, v12, v13, v14, v15, v16, v17]).cell? ⟨g, j, none⟩ = some v := fun j v hj => by
    unfold World.cell?
    rw [hrow]
    simpa using hj
  exact wpList_store_row hgd ty x y ho g #[v0, v1, v2, v3, v4, v5, v6, v7, v8, v9, v10, v11, v12, v13, v14, v15, v16, v17] hx hy t old hg hi hold (Array.all_eq_true_iff_forall_mem.2 fun v hv => List.all_eq_true.1 h1 v (by simpa using hv))
    (h _ hrow ⟨hc 0 _ rfl, hc 1 _ rfl, hc 2 _ rfl, hc 3 _ rfl, hc 4 _ rfl, hc 5 _ rfl, hc 6 _ rfl, hc 7 _ rfl, hc 8 _ rfl, hc 9 _ rfl, hc 10 _ rfl, hc 11 _ rfl, hc 12 _ rfl, hc 13 _ rfl, hc 14 _ rfl, hc 15 _ rfl, hc 16 _ rfl, hc 17 _ rfl⟩ (fun p hp => cell_setRow_other w g _ p hp) (fun B w0 hb hB => below_setRow hb hB _) (setRow_size w g _))
set_option maxRecDepth 100000 in
theorem load18 {W : World} {g : Nat} {vs : Array Value} {t : TypeId} (hg : W.heap[g]? = some (.cells vs t (0, 0))) (hs : vs.size = 18) : (loadVar 28 ⟨g, 0, none⟩).run Tryz.prog W = .ok (.agg vs) W :=
  run_loadVar_row W g t 28 vs (0, 0) _ hg Tryz.underlying28 rfl (by rw [hs]; exact info_bun)
set_option maxRecDepth 100000 in
theorem res_bt {fn : Func} {p u : Tmp} (h : fn.results = #[.cell p 28, .tmp u]) (tmps : Array Value) (W : World) {g : Nat} {vs : Array Value} {t : TypeId} (hp : tmps.getD p undef = .pointer (some ⟨g, 0, none⟩))
    (hg : W.heap[g]? = some (.cells vs t (0, 0))) (hs : vs.size = 18) : (results fn tmps).run Tryz.prog W = .ok (.tuple #[.agg vs, tmps.getD u undef]) W := by
  rw [results_cell_tmp h, hp]
  simp only [asAddr, Sem.run_pure, Result.andThen, load18 hg hs]
set_option maxRecDepth 100000 in
theorem res_b {fn : Func} {p : Tmp} (h : fn.results = #[.cell p 28]) (tmps : Array Value) (W : World) {g : Nat} {vs : Array Value} {t : TypeId} (hp : tmps.getD p undef = .pointer (some ⟨g, 0, none⟩))
    (hg : W.heap[g]? = some (.cells vs t (0, 0))) (hs : vs.size = 18) : (results fn tmps).run Tryz.prog W = .ok (.agg vs) W :=
  results_cell_row h tmps W g t vs (0, 0) _ hp hg Tryz.underlying28 rfl (by rw [hs]; exact info_bun)
set_option maxRecDepth 100000 in
theorem res_btt {fn : Func} {p u v : Tmp} (h : fn.results = #[.cell p 28, .tmp u, .tmp v]) (tmps : Array Value) (W : World) {g : Nat} {vs : Array Value} {t : TypeId} (hp : tmps.getD p undef = .pointer (some ⟨g, 0, none⟩))
    (hg : W.heap[g]? = some (.cells vs t (0, 0))) (hs : vs.size = 18) : (results fn tmps).run Tryz.prog W = .ok (.tuple #[.agg vs, tmps.getD u undef, tmps.getD v undef]) W := by
  have e : (results fn tmps).run Tryz.prog W = ((asAddr (tmps.getD p undef)).run Tryz.prog W).andThen fun a w₁ => ((loadVar 28 a).run Tryz.prog w₁).andThen fun x w₂ => .ok (.tuple #[x, tmps.getD u undef, tmps.getD v undef]) w₂ := by
    simp only [results, h]
    simp [Sem.run_bind, Result.andThen]
  rw [e, hp]
  simp only [asAddr, Sem.run_pure, Result.andThen, load18 hg hs]
set_option maxRecDepth 100000 in
theorem wpList_ld18 {w : World} {ops : Array Oper} {rest : List Oper} {o : Oper} {a : Act} {Q : Exit → Act → World → Prop} (hgd : o.guard = none) (x : Operand) (ho : o.op = .load 28 x)
    (g : Nat) (hx : a.eval x = .pointer (some ⟨g, 0, none⟩)) (t : TypeId) (cs : Array Value) (hg : w.heap[g]? = some (.cells cs t (0, 0))) (hs : cs.size = 18) (h : wpList Tryz.prog ops Q rest (a.put o.dst (.agg cs)) w) : wpList Tryz.prog ops Q (o :: rest) a w :=
  wpList_load_row hgd 28 x ho g hx t cs (0, 0) _ hg Tryz.underlying28 rfl (by rw [hs]; exact info_bun) h
theorem row_of_box {w W : World} {c : Array Value} {t : TypeId} {g : Nat} (hg : g = w.heap.size) (h : Below (g + 1) (w.alloc (.cells c t)) W) : W.heap[g]? = some (.cells c t (0, 0)) := by
  subst hg
  rw [h.block w.heap.size (Nat.lt_succ_self _)]
  exact heap_alloc_new w _
theorem cell_row {W : World} {g : Nat} {c : Array Value} {t : TypeId} (h : W.heap[g]? = some (.cells c t (0, 0))) (j : Nat) {v : Value} (hj : c[j]? = some v) : W.cell? ⟨g, j, none⟩ = some v := by
  unfold World.cell?
  rw [h]
  simpa using hj
theorem set17 {W : World} {g : Nat} {t : TypeId} {c0 : Value} {c1 : Value} {c2 : Value} {c3 : Value} {c4 : Value} {c5 : Value} {c6 : Value} {c7 : Value} {c8 : Value} {c9 : Value} {c10 : Value} {c11 : Value} {c12 : Value} {c13 : Value} {c14 : Value} {c15 : Value} {c16 : Value} {c17 : Value} (v : Value) (h : W.heap[g]? = some (.cells #[c0, c1, c2, c3, c4, c5, c6, c7, c8, c9, c10, c11, c12, c13, c14, c15, c16, c17] t (0, 0))) :
    (W.setCell ⟨g, 17, none⟩ v).heap[g]? = some (.cells #[c0, c1, c2, c3, c4, c5, c6, c7, c8, c9, c10, c11, c12, c13, c14, c15, c16, v] t (0, 0)) := by
  rw [setCell_eq_setRow W g 17 #[c0, c1, c2, c3, c4, c5, c6, c7, c8, c9, c10, c11, c12, c13, c14, c15, c16, c17] t (0, 0) v h]
  exact setRow_heap W g _ _ t _ h
theorem row_free {W : World} {g : Nat} {t : TypeId} {c : Array Value} (h : W.heap[g]? = some (.cells c t (0, 0))) (j : Nat) : W.frozen? ⟨g, j, none⟩ = false := by
  simp [World.frozen?, h]
/-! ### At a step of a region that draws its order -/
theorem exec_ld18 {ev : Operand → Value} {o : Oper} {x : Operand} (ho : o.op = .load 28 x) {g : Nat} {cs : Array Value} {t : TypeId} (hx : ev x = .pointer (some ⟨g, 0, none⟩)) {W : World} (hg : W.heap[g]? = some (.cells cs t (0, 0))) (hs : cs.size = 18) :
    (execOp ev o).run Tryz.prog W = .ok (.value (.agg cs)) W := by
  unfold execOp
  simp only [ho, hx, Instr.loadAt, Instr.sureAddr, Sem.run_bind, Sem.run_pure, Result.andThen_ok, load18 hg hs]
theorem step_st18 {P : Program} {w : World} {ops : Array Oper} {o : Oper} {a : Act} {K : Act → World → Prop} {Q : Exit → Act → World → Prop} {E : Prop} (hgd : o.guard = none) (ty : TypeId) (x y : Operand) (ho : o.op = .store ty x y)
    (g : Nat) {v0 : Value} {v1 : Value} {v2 : Value} {v3 : Value} {v4 : Value} {v5 : Value} {v6 : Value} {v7 : Value} {v8 : Value} {v9 : Value} {v10 : Value} {v11 : Value} {v12 : Value} {v13 : Value} {v14 : Value} {v15 : Value} {v16 : Value} {v17 : Value} (hx : a.eval x = .pointer (some ⟨g, 0, none⟩)) (hy : a.eval y = .agg #[v0, v1, v2, v3, v4, v5, v6, v7, v8, v9, v10, v11, v12, v13, v14, v15, v16, v17]) (t : TypeId) (old : Array Value) (hg : w.heap[g]? = some (.cells old t (0, 0)))
    (hi : (P.info? ty).map (·.size) = some 18) (hold : old.size = 18) (h1 : ([v0, v1, v2, v3, v4, v5, v6, v7, v8, v9, v10, v11, v12, v13, v14, v15, v16, v17] : List Value).all (·.oneCell') = true)
    (h : ∀ W', W'.heap[g]? = some (.cells #[v0, v1, v2, v3, v4, v5, v6, v7, v8, v9, v10, v11, v12, v13, v14, v15, v16, v17] t (0, 0)) → (∀ p : Addr, p.block ≠ g → W'.cell? p = w.cell? p) → (∀ (B : Nat) (w0 : World), Below B w0 w → B ≤ g → Below B w0 W') → W'.heap.size = w.heap.size → (∀ j, j ≠ g → W'.heap[j]? = w.heap[j]?) → K (a.put o.dst undef) W') :
    if Region.wanted o (yielded ops a.tmps) = true then Oper.wp P o a w K Q else E := by
  have hw : Region.wanted o (yielded ops a.tmps) = true := by simp [Region.wanted, hgd]
  rw [if_pos hw]
  have hrow : (w.setRow g #[v0, v1, v2, v3, v4, v5, v6, v7, v8, v9, v10, v11, v12, v13, v14, v15, v16, v17]).heap[g]? = some (.cells #[v0, v1, v2, v3, v4, v5, v6, v7, v8, v9, v10, v11, v12, v13, v14, v15, v16, v17] t (0, 0)) := setRow_heap w g old _ t _ hg
  exact wp_store_row ty x y ho g #[v0, v1, v2, v3, v4, v5, v6, v7, v8, v9, v10, v11, v12, v13, v14, v15, v16, v17] hx hy t old hg hi hold (Array.all_eq_true_iff_forall_mem.2 fun v hv => List.all_eq_true.1 h1 v (by simpa using hv))
    (h _ hrow (fun p hp => cell_setRow_other w g _ p hp) (fun B w0 hb hB => below_setRow hb hB _) (setRow_size w g _) (fun j hj => setRow_other w g j _ hj))
theorem takeW18 {P : Program} {md : Region.Mode} {l : List Oper} {Q : Exit → Act → World → Prop} {S : World → Prop} {i : Nat} {oi : Oper} {v : Value} {fuel : Nat} {listed : Array Bool} {a : Act} {w : World} (hi : l[i]? = some oi)
    (hs : Region.noSelect l.toArray = true) (hf : Region.free md l.toArray listed i = true) (hr : (Region.ready md l.toArray listed).contains i = true)
    (hQ : ∀ c a w, Q (.panic c) (a.put oi.dst v) w → Q (.panic c) a w) (hw : Region.wanted oi (yielded l.toArray a.tmps) = true) (hy : ∀ w, S w → (execOp a.eval oi).run P w = .ok (.value v) w) (hS : S w)
    (h : wpAnyH P md l.toArray Q S fuel (listed.setIfInBounds i true) (a.put oi.dst v) w) : wpAnyH P md l.toArray Q S (fuel + 1) listed a w :=
  wpAnyH_take (oi := oi) (v := v) (by simpa using hi) hs hf hr hQ (Or.inl ⟨hw, hy⟩) hS h
end Go.Proofs.YtoggkjoadiombaaGreatDoor
/- What slices.Clone over blocks and copied of layer 6 return. (Made by gen/bun.py.) -/
namespace Go.Proofs.YtoggkjoadiombaaGreatDoor
open Go.RowKit
def SrcK (w : World) (B : Nat) (p : PK) : Prop := Bd p.x ∧ (p.nd ≤ p.cd ∧ p.nd ≤ 140737488355328) ∧ Rd w B p.A p.nd p.x.dat
theorem RdKs.pks {w : World} {B b : Nat} : ∀ {l : List Blk} {o : Nat}, RdKs w B b o l → ∃ ps : List PK, ps.map (·.x) = l ∧ (∀ j u, (rowK ps)[j]? = some u → w.cell? ⟨b, o + j, none⟩ = some u) ∧ ∀ p ∈ ps, SrcK w B p
  | [], _, _ => ⟨[], rfl, fun j u hj => by simp [rowK] at hj, fun _ h => by cases h⟩
  | x :: r, o, ⟨⟨A, nd, cd, hk⟩, hr⟩ => by
    obtain ⟨ps, h1, h2, h3⟩ := RdKs.pks hr
    refine ⟨⟨x, A, nd, cd⟩ :: ps, by rw [List.map_cons, h1], fun j u hj => ?_, fun p hp => ?_⟩
    · rw [rowK] at hj
      match j, hj with
      | 0, hj => cases hj; exact hk.k0
      | 1, hj => cases hj; exact hk.k1
      | 2, hj => cases hj; exact hk.k2
      | 3, hj => cases hj; exact hk.k3
      | 4, hj => cases hj; exact hk.k4
      | j + 5, hj =>
        rw [List.getElem?_append_right (by simp [fiveK])] at hj
        have := h2 j u (by simpa [fiveK] using hj)
        rw [show o + (j + 5) = o + 5 + j by omega]
        exact this
    · rcases List.mem_cons.1 hp with rfl | hp
      · exact ⟨hk.bd, hk.le, hk.rd⟩
      · exact h3 p hp
theorem rowK_set : ∀ (qs : List PK) (i : Nat) (hi : i < qs.length) (A : Option Addr) (c : Nat), rowK (qs.set i ⟨(qs[i]'hi).x, A, (qs[i]'hi).nd, c⟩) = (rowK qs).set (i * 5 + 4) (.slice A (qs[i]'hi).nd c)
  | p :: r, 0, _, A, c => by simp [rowK, fiveK]
  | p :: r, i + 1, hi, A, c => by
    have ih := rowK_set r i (by simpa using hi) A c
    simp only [List.set_cons_succ, List.getElem_cons_succ, rowK]
    rw [ih, List.set_append_right _ _ (by simp [fiveK]; omega)]
    congr 2
    simp [fiveK]
    omega
set_option maxRecDepth 100000 in
set_option maxHeartbeats 4000000 in
theorem kclone_any (b o n c B : Nat) (ps : List PK) (w : World) (hB : B ≤ w.heap.size) (hb : b < B) (hc : ∀ j u, (rowK ps)[j]? = some u → w.cell? ⟨b, o + j, none⟩ = some u) (hn : ps.length = n) (h0 : 0 < n) (hm : n ≤ 1000) :
    Calls Tryz.prog 71 #[.slice (some ⟨b, o, none⟩) n c] w fun e w' => ∃ g cap, e = .returned (.slice (some ⟨g, 0, none⟩) n cap) ∧ w'.ownsRow w.heap.size 44 5 (.slice (some ⟨g, 0, none⟩) n cap) n (rowK ps) ∧ Below w.heap.size w w' ∧ g < w'.heap.size := by
  obtain ⟨i0, hi0, hz0, hz1, hz2⟩ := info_parts info_blk
  have HI := Lib.hid hi0
  have HI0 := Lib.hid hz0
  have HI1 := Lib.hid hz1
  have HI2 := Lib.hid hz2
  have q22 := fun (W : World) (a : Option Addr) (n c : Nat) => Lib.run_eql_slice_nil (P := Tryz.prog) W 26 44 a n c 0 0 Tryz.underlying26
  have HB0 := Lib.hid ((Below.refl w.heap.size w).alloc (Nat.le_refl _) (.cells #[] 44))
  have hlt : b < w.heap.size := Nat.lt_of_lt_of_le hb hB
  have OX : Hid ((w.alloc (.cells #[] 44)).ownsRow w.heap.size 44 5 (.slice (some ⟨w.heap.size, 0, none⟩) 0 0) 0 []) := World.ownsRow_lit (base := w.heap.size) (e := 44) (size := 5) w #[] 0 (Nat.le_refl _) (by decide) rfl
  have NX : Hid (∀ j u, (rowK ps)[j]? = some u → (w.alloc (.cells #[] 44)).cell? ((⟨b, o, none⟩ : Addr).add j) = some u) := fun j u hj => by
    rw [show (⟨b, o, none⟩ : Addr).add j = ⟨b, o + j, none⟩ by unfold Addr.add; split <;> simp_all, World.cell?_alloc_lt _ _ ⟨b, o + j, none⟩ hlt]
    exact hc j u hj
  have HN := Lib.hid (And.intro hn (And.intro h0 hm))
  have HLN : Hid ((rowK ps).length = n * 5) := by show _ = _; rw [rowK_len, hn]
  clear hi0 hz0 hz1 hz2 hB hb hc hn h0 hm hlt
  go_enter Tryz.func71, Tryz.ntmps71
  go_wp2_with (first
    | (at_builtin; refine wpList_append_lies _ rfl (.tmp 5) (.tmp 6) 26 rfl w.heap.size 44 i0 _ 5 56 Tryz.underlying26 HI.out HI0.out HI1.out HI2.out rfl (by decide) (.slice (some ⟨w.heap.size, 0, none⟩) 0 0) 0 [] rfl OX.out ⟨b, o, none⟩ n c (rowK ps) rfl HLN.out NX.out (rowK_one ps) HN.out.2.1 (by have := HN.out.2.2; unfold maxLen; omega) (by have := HN.out.2.2; omega) (le_alloc _ _) _ rfl ?_; intro g cap w3 ho3 hg3 hat hlt3; have HG3 := Lib.hid hg3; have HO3 := Lib.hid ho3; have HAT := Lib.hid hat; have HLT3 := Lib.hid hlt3; clear ho3 hg3 hat hlt3)
    | fail)
  go_ret
  have ho := HO3.out
  rw [Nat.zero_add, List.nil_append] at ho
  refine ⟨g, cap, rfl, ho, ⟨HG3.out.os, HG3.out.tape, HG3.out.output, by have := HG3.out.size; have := HB0.out.size; omega, fun j hj => ?_⟩, HLT3.out⟩
  rw [HG3.out.block j (by have := HB0.out.size; omega) (fun e => by have := HB0.out.size; injection e with e; simp at e; omega)]
  exact Below.heap_alloc _ _ _ hj
end Go.Proofs.YtoggkjoadiombaaGreatDoor
/- What copied of layer 6 returns. (Made by gen/bun.py.) -/
namespace Go.Proofs.YtoggkjoadiombaaGreatDoor
open Go.RowKit
theorem setCell_self {W : World} {g j : Nat} {cs : Array Value} {t : TypeId} {fr : Nat × Nat} {v : Value} (h : W.heap[g]? = some (.cells cs t fr)) (hj : cs[j]? = some v) : W.setCell ⟨g, j, none⟩ v = W := by
  rw [setCell_eq_setRow W g j cs t fr v h]
  have e : cs.setIfInBounds j v = cs := by
    apply Array.ext_getElem?
    intro i
    rw [Array.getElem?_setIfInBounds]
    split
    · rename_i hi
      subst hi
      have hlt := (Array.getElem?_eq_some_iff.1 hj).1
      rw [if_pos hlt, hj]
    · rfl
  rw [e]
  have e2 : (W.setRow g cs).heap = W.heap := by
    apply Array.ext_getElem?
    intro i
    by_cases hi : i = g
    · subst hi; rw [setRow_heap W i cs cs t fr h, h]
    · exact setRow_other W g i cs hi
  unfold World.setRow at e2 ⊢
  simp only at e2
  rw [e2]
theorem SrcK.below {w w' : World} {B : Nat} {p : PK} (h : SrcK w B p) (hb : Below B w w') : SrcK w' B p := ⟨h.1, h.2.1, h.2.2.below hb⟩
structure CpSt (lo base B g cap n : Nat) (W5 : World) (l : List Blk) (k : Nat) (wr : World) (qs : List PK) : Prop where
  own : wr.ownsRow base 44 5 (.slice (some ⟨g, 0, none⟩) n cap) n (rowK qs)
  map : qs.map (·.x) = l
  len : qs.length = n
  done : ∀ j (hj : j < qs.length), j < k → OkK lo wr (.slice (some ⟨g, 0, none⟩) n cap) qs[j]
  rest : ∀ j (hj : j < qs.length), k ≤ j → SrcK wr B qs[j]
  bel : Below base W5 wr
theorem CpSt.blk {lo base B g cap n : Nat} {W5 : World} {l : List Blk} {k : Nat} {wr : World} {qs : List PK} (h : CpSt lo base B g cap n W5 l k wr qs) : base ≤ g ∧ g < wr.heap.size := World.ownsRow.lt h.own g rfl
theorem rowK_at : ∀ (qs : List PK) (k : Nat) (hk : k < qs.length), (rowK qs)[k * 5 + 4]? = some (.slice qs[k].A qs[k].nd qs[k].cd)
  | p :: r, 0, _ => rfl
  | p :: r, k + 1, hk => by
    rw [rowK, List.getElem?_append_right (by simp [fiveK]; omega)]
    have := rowK_at r k (by simpa using hk)
    rw [show (k + 1) * 5 + 4 - (fiveK p).length = k * 5 + 4 by simp [fiveK]; omega, this]
    rfl
theorem CpSt.cell {lo base B g cap n : Nat} {W5 : World} {l : List Blk} {k : Nat} {wr : World} {qs : List PK} (h : CpSt lo base B g cap n W5 l k wr qs) {j : Nat} (hj : j < qs.length) : wr.cell? ⟨g, j * 5 + 4, none⟩ = some (.slice qs[j].A qs[j].nd qs[j].cd) := by
  rw [World.ownsRow.cellAt h.own _ (by rw [← h.len]; omega)]
  exact rowK_at qs j hj
theorem CpSt.step {lo base B g cap n : Nat} {W5 : World} {l : List Blk} {k : Nat} {wr wc : World} {qs : List PK} (h : CpSt lo base B g cap n W5 l k wr qs) (hlo : lo ≤ base) (hB : B ≤ base) (hk : k < qs.length) (hb : Below wr.heap.size wr wc)
    {A : Option Addr} {c : Nat} (hO : Ob wc wr.heap.size 5 (.slice A qs[k].nd c) qs[k].x.dat) :
    CpSt lo base B g cap n W5 l (k + 1) (wc.setCell ⟨g, k * 5 + 4, none⟩ (.slice A qs[k].nd c)) (qs.set k ⟨qs[k].x, A, qs[k].nd, c⟩) := by
  have hg := h.blk
  have hsrc := h.rest k hk (Nat.le_refl _)
  have hrd : n = n ∧ qs[k].nd ≤ c ∧ Rd wc wc.heap.size A qs[k].nd qs[k].x.dat := by
    obtain ⟨A', c', hv, hc, -, hr⟩ := hO.rdn hsrc.2.2.1
    injection hv with h1 h2 h3
    subst h1 h3
    exact ⟨rfl, hc, hr⟩
  have hnew : ∀ b o, A = some ⟨b, o, none⟩ → wr.heap.size ≤ b := fun b o e => (World.ownsRow.lt hO b (by rw [e]; rfl)).1
  have hoff : ∀ {B' : Nat} {A' : Option Addr} {m : Nat} {d : List UInt8}, Rd wc B' A' m d → (0 < m → ∀ b o, A' = some ⟨b, o, none⟩ → b ≠ g) → B' ≤ wc.heap.size → Rd (wc.setCell ⟨g, k * 5 + 4, none⟩ (.slice A qs[k].nd c)) B' A' m d := fun hr hne _ => ⟨hr.1, fun h0 => by
    obtain ⟨b, o, e, hlt, hc⟩ := hr.2 h0
    exact ⟨b, o, e, hlt, fun i hi => by rw [World.cell?_setCell_far _ _ _ _ (by have := hne h0 b o e; show ¬ g = b; omega)]; exact hc i hi⟩⟩
  have hsz : (wc.setCell ⟨g, k * 5 + 4, none⟩ (.slice A qs[k].nd c)).heap.size = wc.heap.size := by simp [World.setCell]
  have hbw : Below base wr wc := hb.mono (by omega)
  refine ⟨?_, ?_, ?_, ?_, ?_, ?_⟩
  · rw [rowK_set]
    exact (World.ownsRow.stored (ownsRow_below h.own hb) _ _).1
  · rw [List.map_set, ← h.map]
    apply List.ext_getElem?
    intro i
    rw [List.getElem?_set]
    split
    · rename_i hi
      subst hi
      rw [List.length_map, if_pos hk]
      simp [hk]
    · rfl
  · rw [List.length_set]; exact h.len
  · intro j hj hjk
    rw [List.length_set] at hj
    by_cases he : j = k
    · subst he
      rw [List.getElem_set_self]
      refine ⟨hsrc.1, ⟨hrd.2.1, hsrc.2.1.2⟩, ?_, ?_, ?_⟩
      · rw [hsz]
        exact hoff hrd.2.2 (fun _ b o e => by have := hnew b o e; omega) (Nat.le_refl _)
      · intro _ b o e hh
        injection hh with hh
        have := hnew b o e
        have hh' : g = b := hh
        omega
      · intro _ b o e
        have := hnew b o e
        omega
    · rw [List.getElem_set_ne (by omega)]
      have ho := (h.done j hj (by omega)).below hb
      refine ⟨ho.bd, ho.le, ?_, ho.far, ho.new⟩
      rw [hsz]
      exact hoff ho.rd (fun h0 b o e hh => ho.far h0 b o e (by rw [hh]; rfl)) (Nat.le_refl _)
  · intro j hj hjk
    rw [List.length_set] at hj
    rw [List.getElem_set_ne (by omega)]
    have hs := (h.rest j hj (by omega)).below (hbw.mono hB)
    refine ⟨hs.1, hs.2.1, hoff hs.2.2 (fun h0 b o e hh => ?_) (by have := hb.size; omega)⟩
    obtain ⟨b', o', e', hlt, -⟩ := hs.2.2.2 h0
    rw [e] at e'
    injection e' with e'
    injection e' with e1 e2
    omega
  · exact (h.bel.trans hbw).setCell (p := ⟨g, k * 5 + 4, none⟩) hg.1 _
theorem CpSt.full {lo base B g cap n : Nat} {W5 : World} {l : List Blk} {k : Nat} {wr : World} {qs : List PK} (h : CpSt lo base B g cap n W5 l k wr qs) (hlo : lo ≤ base) (hk : n ≤ k) (hn : n ≤ 140737488355328) :
    RdL (mask (lows lo) wr) wr.heap.size (some ⟨g, 0, none⟩) n l := by
  have hg := h.blk
  refine ⟨by rw [← h.map, List.length_map, h.len], fun h0 => ⟨g, 0, rfl, hg.2, ?_⟩, hn⟩
  rw [← h.map]
  refine rowK_read (v := .slice (some ⟨g, 0, none⟩) n cap) (Nat.le_trans hlo hg.1) qs 0 (fun j u hj => ?_) (fun p hp => ?_)
  · have hjl : j < n * 5 := by
      rw [← h.len, ← rowK_len]
      rcases Nat.lt_or_ge j (rowK qs).length with h | h
      · exact h
      · rw [List.getElem?_eq_none h] at hj; cases hj
    rw [Nat.zero_add, World.ownsRow.cellAt h.own j hjl]
    exact hj
  · obtain ⟨j, hj, rfl⟩ := List.getElem_of_mem hp
    exact h.done j hj (by rw [h.len] at hj; omega)
end Go.Proofs.YtoggkjoadiombaaGreatDoor
/- What copied of layer 6 returns: the walk. (Made by gen/bun.py.) -/
namespace Go.Proofs.YtoggkjoadiombaaGreatDoor
open Go.RowKit
def CopU (h : BH) (l : List Blk) (w : World) (e : Ending) (w' : World) : Prop := Below w.heap.size w w' ∧ ∃ (A : Option Addr) (n c : Nat), e = .returned (bunV h A n c) ∧ RdL (mask (lows w.heap.size) w') w'.heap.size A n l ∧ n ≤ c
set_option maxRecDepth 100000 in
set_option maxHeartbeats 16000000 in
theorem ucopied_any (h : BH) (l : List Blk) (A : Option Addr) (n c B : Nat) (w : World) (hbd : h.Bd) (hr : RdL w B A n l) (hB : B ≤ w.heap.size) (h0 : 0 < n) (hm : n ≤ 1000) :
    Calls Tryz.prog 47 #[bunV h A n c] w (CopU h l w) := by
  obtain ⟨b, o, rfl, hb, hks⟩ := hr.2.1 h0
  obtain ⟨ps, hmap, hcell, hsrc⟩ := hks.pks
  have hlen : ps.length = n := by rw [← hr.1, ← hmap, List.length_map]
  have HP := Lib.hid (And.intro hmap (And.intro hcell (And.intro hsrc hlen)))
  have HH := Lib.hid (And.intro hb (And.intro hB (And.intro h0 hm)))
  have HN := Lib.hid hbd
  have HB0 := Lib.hid (((Below.refl w.heap.size w).alloc (Nat.le_refl _) (.cells #[.int .u64 (h.flg : Int), .int .i64 h.crc, .int .i64 h.dsc, .string h.dnm, .int .u64 (h.dn : Int), .int .u64 (h.dv : Int), .int .i64 h.ssc, .string h.snm, .int .u64 (h.sn : Int), .int .u64 (h.sv : Int), .int .i64 h.rsc, .string h.rnm, .int .u64 (h.rn : Int), .int .u64 (h.rv : Int), .int .u64 (h.tim : Int), .int .u64 (h.seq : Int), .int .u64 (h.lif : Int), .slice (some ⟨b, o, none⟩) n c] 28)).alloc (le_alloc _ _) (.cells #[.int .u64 0, .int .i64 0, .int .i64 0, .string ⟨#[]⟩, .int .u64 0, .int .u64 0, .int .i64 0, .string ⟨#[]⟩, .int .u64 0, .int .u64 0, .int .i64 0, .string ⟨#[]⟩, .int .u64 0, .int .u64 0, .int .u64 0, .int .u64 0, .int .u64 0, .slice none 0 0] 28))
  have HW0 : Hid (Below (w.heap.size + 2) ((w.alloc (.cells #[.int .u64 (h.flg : Int), .int .i64 h.crc, .int .i64 h.dsc, .string h.dnm, .int .u64 (h.dn : Int), .int .u64 (h.dv : Int), .int .i64 h.ssc, .string h.snm, .int .u64 (h.sn : Int), .int .u64 (h.sv : Int), .int .i64 h.rsc, .string h.rnm, .int .u64 (h.rn : Int), .int .u64 (h.rv : Int), .int .u64 (h.tim : Int), .int .u64 (h.seq : Int), .int .u64 (h.lif : Int), .slice (some ⟨b, o, none⟩) n c] 28)).alloc (.cells #[.int .u64 0, .int .i64 0, .int .i64 0, .string ⟨#[]⟩, .int .u64 0, .int .u64 0, .int .i64 0, .string ⟨#[]⟩, .int .u64 0, .int .u64 0, .int .i64 0, .string ⟨#[]⟩, .int .u64 0, .int .u64 0, .int .u64 0, .int .u64 0, .int .u64 0, .slice none 0 0] 28)) ((w.alloc (.cells #[.int .u64 (h.flg : Int), .int .i64 h.crc, .int .i64 h.dsc, .string h.dnm, .int .u64 (h.dn : Int), .int .u64 (h.dv : Int), .int .i64 h.ssc, .string h.snm, .int .u64 (h.sn : Int), .int .u64 (h.sv : Int), .int .i64 h.rsc, .string h.rnm, .int .u64 (h.rn : Int), .int .u64 (h.rv : Int), .int .u64 (h.tim : Int), .int .u64 (h.seq : Int), .int .u64 (h.lif : Int), .slice (some ⟨b, o, none⟩) n c] 28)).alloc (.cells #[.int .u64 0, .int .i64 0, .int .i64 0, .string ⟨#[]⟩, .int .u64 0, .int .u64 0, .int .i64 0, .string ⟨#[]⟩, .int .u64 0, .int .u64 0, .int .i64 0, .string ⟨#[]⟩, .int .u64 0, .int .u64 0, .int .u64 0, .int .u64 0, .int .u64 0, .slice none 0 0] 28))) := Below.refl _ _
  have HS0 : Hid (((w.alloc (.cells #[.int .u64 (h.flg : Int), .int .i64 h.crc, .int .i64 h.dsc, .string h.dnm, .int .u64 (h.dn : Int), .int .u64 (h.dv : Int), .int .i64 h.ssc, .string h.snm, .int .u64 (h.sn : Int), .int .u64 (h.sv : Int), .int .i64 h.rsc, .string h.rnm, .int .u64 (h.rn : Int), .int .u64 (h.rv : Int), .int .u64 (h.tim : Int), .int .u64 (h.seq : Int), .int .u64 (h.lif : Int), .slice (some ⟨b, o, none⟩) n c] 28)).alloc (.cells #[.int .u64 0, .int .i64 0, .int .i64 0, .string ⟨#[]⟩, .int .u64 0, .int .u64 0, .int .i64 0, .string ⟨#[]⟩, .int .u64 0, .int .u64 0, .int .i64 0, .string ⟨#[]⟩, .int .u64 0, .int .u64 0, .int .u64 0, .int .u64 0, .int .u64 0, .slice none 0 0] 28)).heap.size = w.heap.size + 2) := by show _ = _; simp
  have HX1 := Lib.hid (fun (W : World) (hb : Below (w.heap.size + 2) ((w.alloc (.cells #[.int .u64 (h.flg : Int), .int .i64 h.crc, .int .i64 h.dsc, .string h.dnm, .int .u64 (h.dn : Int), .int .u64 (h.dv : Int), .int .i64 h.ssc, .string h.snm, .int .u64 (h.sn : Int), .int .u64 (h.sv : Int), .int .i64 h.rsc, .string h.rnm, .int .u64 (h.rn : Int), .int .u64 (h.rv : Int), .int .u64 (h.tim : Int), .int .u64 (h.seq : Int), .int .u64 (h.lif : Int), .slice (some ⟨b, o, none⟩) n c] 28)).alloc (.cells #[.int .u64 0, .int .i64 0, .int .i64 0, .string ⟨#[]⟩, .int .u64 0, .int .u64 0, .int .i64 0, .string ⟨#[]⟩, .int .u64 0, .int .u64 0, .int .i64 0, .string ⟨#[]⟩, .int .u64 0, .int .u64 0, .int .u64 0, .int .u64 0, .int .u64 0, .slice none 0 0] 28)) W) => (row_of_box (w := w) (g := w.heap.size) rfl (((Below.refl (w.heap.size + 1) (w.alloc (.cells #[.int .u64 (h.flg : Int), .int .i64 h.crc, .int .i64 h.dsc, .string h.dnm, .int .u64 (h.dn : Int), .int .u64 (h.dv : Int), .int .i64 h.ssc, .string h.snm, .int .u64 (h.sn : Int), .int .u64 (h.sv : Int), .int .i64 h.rsc, .string h.rnm, .int .u64 (h.rn : Int), .int .u64 (h.rv : Int), .int .u64 (h.tim : Int), .int .u64 (h.seq : Int), .int .u64 (h.lif : Int), .slice (some ⟨b, o, none⟩) n c] 28))).alloc (by simp) (.cells #[.int .u64 0, .int .i64 0, .int .i64 0, .string ⟨#[]⟩, .int .u64 0, .int .u64 0, .int .i64 0, .string ⟨#[]⟩, .int .u64 0, .int .u64 0, .int .i64 0, .string ⟨#[]⟩, .int .u64 0, .int .u64 0, .int .u64 0, .int .u64 0, .int .u64 0, .slice none 0 0] 28)).trans (hb.mono (Nat.le_succ _)))))
  have HX2 := Lib.hid (fun (W : World) (hb : Below (w.heap.size + 2) ((w.alloc (.cells #[.int .u64 (h.flg : Int), .int .i64 h.crc, .int .i64 h.dsc, .string h.dnm, .int .u64 (h.dn : Int), .int .u64 (h.dv : Int), .int .i64 h.ssc, .string h.snm, .int .u64 (h.sn : Int), .int .u64 (h.sv : Int), .int .i64 h.rsc, .string h.rnm, .int .u64 (h.rn : Int), .int .u64 (h.rv : Int), .int .u64 (h.tim : Int), .int .u64 (h.seq : Int), .int .u64 (h.lif : Int), .slice (some ⟨b, o, none⟩) n c] 28)).alloc (.cells #[.int .u64 0, .int .i64 0, .int .i64 0, .string ⟨#[]⟩, .int .u64 0, .int .u64 0, .int .i64 0, .string ⟨#[]⟩, .int .u64 0, .int .u64 0, .int .i64 0, .string ⟨#[]⟩, .int .u64 0, .int .u64 0, .int .u64 0, .int .u64 0, .int .u64 0, .slice none 0 0] 28)) W) => (row_of_box (w := w.alloc (.cells #[.int .u64 (h.flg : Int), .int .i64 h.crc, .int .i64 h.dsc, .string h.dnm, .int .u64 (h.dn : Int), .int .u64 (h.dv : Int), .int .i64 h.ssc, .string h.snm, .int .u64 (h.sn : Int), .int .u64 (h.sv : Int), .int .i64 h.rsc, .string h.rnm, .int .u64 (h.rn : Int), .int .u64 (h.rv : Int), .int .u64 (h.tim : Int), .int .u64 (h.seq : Int), .int .u64 (h.lif : Int), .slice (some ⟨b, o, none⟩) n c] 28)) (g := w.heap.size + 1) (by simp) hb))
  have C1 := Lib.hid (fun W => sclone_any h.dnm W hbd.dnm)
  have C2 := Lib.hid (fun W => sclone_any h.snm W hbd.snm)
  have C3 := Lib.hid (fun W => sclone_any h.rnm W hbd.rnm)
  clear hbd hr hB h0 hm hb hks hmap hcell hsrc hlen
  unfold bunV
  go_enter Tryz.func47, Tryz.ntmps47
  go_wp2_with fail
  refine (C1.out _).mono ?_
  rintro e w1 ⟨rfl, hb1⟩
  have B1 := Lib.hid (Below.push HW0.out (Nat.le_of_eq HS0.out.symm) hb1)
  have f3 := row_free (HX1.out _ B1.out) 3
  have x3s := cell_row (HX1.out _ B1.out) 3 rfl
  have x7 := cell_row (HX1.out _ B1.out) 7 rfl
  have E1 := Lib.hid (setCell_self (HX1.out _ B1.out) (j := 3) (v := .string h.dnm) rfl)
  clear hb1
  go_wp2_with fail
  rw [E1.out]
  clear E1 f3 x3s
  refine (C2.out _).mono ?_
  rintro e w2 ⟨rfl, hb2⟩
  have B2 := Lib.hid (Below.push B1.out (Nat.le_of_eq HS0.out.symm) hb2)
  have f7 := row_free (HX1.out _ B2.out) 7
  have x7s := cell_row (HX1.out _ B2.out) 7 rfl
  have x11 := cell_row (HX1.out _ B2.out) 11 rfl
  have E2 := Lib.hid (setCell_self (HX1.out _ B2.out) (j := 7) (v := .string h.snm) rfl)
  clear hb2 x7
  go_wp2_with fail
  rw [E2.out]
  clear E2 f7 x7s
  refine (C3.out _).mono ?_
  rintro e w3 ⟨rfl, hb3⟩
  have B3 := Lib.hid (Below.push B2.out (Nat.le_of_eq HS0.out.symm) hb3)
  have f11 := row_free (HX1.out _ B3.out) 11
  have x11s := cell_row (HX1.out _ B3.out) 11 rfl
  have x17 := cell_row (HX1.out _ B3.out) 17 rfl
  have E3 := Lib.hid (setCell_self (HX1.out _ B3.out) (j := 11) (v := .string h.rnm) rfl)
  have BB3 := Lib.hid (HB0.out.trans (B3.out.mono (Nat.le_add_right _ 2)))
  have C4 := Lib.hid (kclone_any b o n c B ps w3 (Nat.le_trans HH.out.2.1 BB3.out.size) HH.out.1 (fun j u hj => by
    rw [BB3.out.cell (p := ⟨b, o + j, none⟩) (Nat.lt_of_lt_of_le HH.out.1 HH.out.2.1)]
    exact HP.out.2.1 j u hj) HP.out.2.2.2 HH.out.2.2.1 HH.out.2.2.2)
  clear hb3 x11
  go_wp2_with fail
  rw [E3.out]
  clear E3 f11 x11s
  refine C4.out.mono ?_
  rintro e w4 ⟨g, cap, rfl, hown, hb4, hg4⟩
  have B4 := Lib.hid (Below.push B3.out (Nat.le_of_eq HS0.out.symm) hb4)
  have hw2 : w.heap.size + 2 ≤ w3.heap.size := by have := B3.out.size; have := HS0.out; omega
  have HBS := Lib.hid hw2
  have hg3 : w3.heap.size ≤ g := (World.ownsRow.lt hown g rfl).1
  have x17' := cell_row (HX1.out _ B4.out) 17 rfl
  have f17 := row_free (HX1.out _ B4.out) 17
  have hrow5 := set17 (.slice (some ⟨g, 0, none⟩) n cap) (HX1.out _ B4.out)
  have hz5 : (w4.setCell ⟨w.heap.size, 17, none⟩ (.slice (some ⟨g, 0, none⟩) n cap)).heap[w.heap.size + 1]? = _ := (Below.heap_setCell w4 ⟨w.heap.size, 17, none⟩ (.slice (some ⟨g, 0, none⟩) n cap) (w.heap.size + 1) (by simp)).trans (HX2.out _ B4.out)
  have hown5 := ownsRow_setCell_below hown (a := ⟨w.heap.size, 17, none⟩) (by show w.heap.size < _; omega) (.slice (some ⟨g, 0, none⟩) n cap)
  have BB5 := Lib.hid ((HB0.out.trans (B4.out.mono (Nat.le_add_right _ 2))).setCell (p := ⟨w.heap.size, 17, none⟩) (Nat.le_refl _) (.slice (some ⟨g, 0, none⟩) n cap))
  have x17b := cell_row hrow5 17 rfl
  have hcap : n ≤ cap := by
    rcases hown.2 with ⟨hv, -⟩ | ⟨q, cap', cur, hv, -, -, hnc, -⟩
    · cases hv
    · injection hv with _ _ h3; omega
  have HROW5 := Lib.hid hrow5
  have HZ5 := Lib.hid hz5
  have HC := Lib.hid (And.intro hg3 hcap)
  have hsz5 : (w4.setCell ⟨w.heap.size, 17, none⟩ (.slice (some ⟨g, 0, none⟩) n cap)).heap.size = w4.heap.size := by simp [World.setCell]
  have HSZ5 : Hid (w3.heap.size ≤ (w4.setCell ⟨w.heap.size, 17, none⟩ (.slice (some ⟨g, 0, none⟩) n cap)).heap.size) := by show _ ≤ _; rw [hsz5]; omega
  have HCS : Hid (CpSt w3.heap.size w3.heap.size B g cap n (w4.setCell ⟨w.heap.size, 17, none⟩ (.slice (some ⟨g, 0, none⟩) n cap)) l 0 (w4.setCell ⟨w.heap.size, 17, none⟩ (.slice (some ⟨g, 0, none⟩) n cap)) ps) :=
    ⟨hown5, HP.out.1, HP.out.2.2.2, fun j hj h => absurd h (Nat.not_lt_zero j), fun j hj _ => (HP.out.2.2.1 _ (List.getElem_mem hj)).below (BB5.out.mono HH.out.2.1), Below.refl _ _⟩
  clear hown hb4 hg4 hg3 x17 hrow5 hz5 hown5 hcap hw2 hsz5 C4
  go_wp2_with fail
  generalize w4.setCell ⟨w.heap.size, 17, none⟩ (.slice (some ⟨g, 0, none⟩) n cap) = W5 at *
  go_loopw [29] (fun v wr => ∃ (k : Nat) (qs : List PK), k ≤ n ∧ v = .int .i64 (k : Int) ∧ Hid (CpSt w3.heap.size w3.heap.size B g cap n W5 l k wr qs)) (fun v _ => n - (intOf v).toNat)
  case atStart => exact ⟨0, ps, Nat.zero_le _, rfl, HCS.out⟩
  case round =>
    obtain ⟨k, qs, hk, rfl, HS⟩ := hrel
    have HROWr := Lib.hid ((HS.out.bel.block w.heap.size (by have := HBS.out; omega)).trans HROW5.out)
    have HZr := Lib.hid ((HS.out.bel.block (w.heap.size + 1) (by have := HBS.out; omega)).trans HZ5.out)
    by_cases hlt : k < n
    · have hkl : k < qs.length := by rw [HS.out.len]; exact hlt
      have hii : (k : Int) < (n : Int) := by omega
      have hs := HS.out.rest k hkl (Nat.le_refl _)
      have hSz := HS.out.bel.size
      have hBr : B ≤ wr.heap.size := by have := HH.out.2.1; have := HBS.out; have := HSZ5.out; omega
      have hcr := HS.out.cell hkl
      have hfr := World.ownsRow.frozenAt HS.out.own (k * 5 + 4)
      have hgl := HS.out.blk
      have HQ : Hid (∀ (wc : World) (A : Option Addr) (c : Nat), Below wr.heap.size wr wc → Ob wc wr.heap.size 5 (.slice A qs[k].nd c) qs[k].x.dat → CpSt w3.heap.size w3.heap.size B g cap n W5 l (k + 1) (wc.setCell ⟨g, k * 5 + 4, none⟩ (.slice A qs[k].nd c)) (qs.set k ⟨qs[k].x, A, qs[k].nd, c⟩)) :=
        fun wc A c hb hO => HS.out.step (Nat.le_refl _) (by have := HH.out.2.1; have := HBS.out; omega) hkl hb hO
      have C5 := Lib.hid (fun (W : World) (hW : Below wr.heap.size wr W) => bclone_any qs[k].A qs[k].nd qs[k].cd B qs[k].x.dat W (Nat.le_trans hBr hW.size) (hs.2.2.below (hW.mono hBr)) hs.2.1.2)
      have hS : ∀ W, Below wr.heap.size wr W → W.cell? ⟨w.heap.size, 17, none⟩ = some (.slice (some ⟨g, 0, none⟩) n cap) ∧ W.cell? ⟨g, k * 5 + 4, none⟩ = some (.slice qs[k].A qs[k].nd qs[k].cd) ∧ W.frozen? ⟨g, k * 5 + 4, none⟩ = false := fun W hW =>
        ⟨(hW.cell (p := ⟨w.heap.size, 17, none⟩) (by show w.heap.size < _; have := HBS.out; omega)).trans (cell_row HROWr.out 17 rfl), (hW.cell (p := ⟨g, k * 5 + 4, none⟩) hgl.2).trans hcr, (hW.frozen (p := ⟨g, k * 5 + 4, none⟩) hgl.2).trans hfr⟩
      have HSS := Lib.hid hS
      have HL : Hid (qs[k].x.dat.length = qs[k].nd) := hs.2.2.1
      have HGW : Hid (w.heap.size < g) := by show _ < _; have := hgl.1; have := HBS.out; omega
      generalize qs[k] = q at *
      clear hs hSz hBr hcr hfr hgl hS
      go_wp2_with fail
      have hd := (HSS.out _ (Below.refl _ _)).2.1
      have hdd := drew_cell hd
      refine wp_region_held_drew (S := fun W => W.cell? ⟨w.heap.size, 17, none⟩ = some (.slice (some ⟨g, 0, none⟩) n cap)) (by kernel_rfl) (HSS.out _ Below.drew_).1 (fun hHeld => ?_)
      refine takeW18 (i := 0) (v := ?v0) rfl (by kernel_rfl) (by kernel_rfl) (by kernel_rfl) (fun _ _ _ h => h) (by rfl) ?hy0 (by assumption) ?rest0
      case hy0 => (intro w hSw; go_simp; try with_reducible rfl)
      try simp only [Act.put, List.setIfInBounds_toArray, List.set_cons_zero, List.set_cons_succ]
      refine takeW18 (i := 1) (v := ?v1) rfl (by kernel_rfl) (by kernel_rfl) (by kernel_rfl) (fun _ _ _ h => h) (by rfl) ?hy1 (by assumption) ?rest1
      case hy1 => (intro w hSw; go_simp; try with_reducible rfl)
      try simp only [Act.put, List.setIfInBounds_toArray, List.set_cons_zero, List.set_cons_succ]
      refine takeW18 (i := 2) (v := ?v2) rfl (by kernel_rfl) (by kernel_rfl) (by kernel_rfl) (fun _ _ _ h => h) (by rfl) ?hy2 (by assumption) ?rest2
      case hy2 => (intro w hSw; go_simp; try with_reducible rfl)
      try simp only [Act.put, List.setIfInBounds_toArray, List.set_cons_zero, List.set_cons_succ]
      refine takeW18 (i := 3) (v := ?v3) rfl (by kernel_rfl) (by kernel_rfl) (by kernel_rfl) (fun _ _ _ h => h) (by rfl) ?hy3 (by assumption) ?rest3
      case hy3 => (intro w hSw; go_simp; try with_reducible rfl)
      try simp only [Act.put, List.setIfInBounds_toArray, List.set_cons_zero, List.set_cons_succ]
      refine takeW18 (i := 4) (v := ?v4) rfl (by kernel_rfl) (by kernel_rfl) (by kernel_rfl) (fun _ _ _ h => h) (by rfl) ?hy4 (by assumption) ?rest4
      case hy4 => (intro w hSw; go_simp; try with_reducible rfl)
      try simp only [Act.put, List.setIfInBounds_toArray, List.set_cons_zero, List.set_cons_succ]
      refine takeW18 (i := 5) (v := ?v5) rfl (by kernel_rfl) (by kernel_rfl) (by kernel_rfl) (fun _ _ _ h => h) (by rfl) ?hy5 (by assumption) ?rest5
      case hy5 => (intro w hSw; go_simp; try with_reducible rfl)
      try simp only [Act.put, List.setIfInBounds_toArray, List.set_cons_zero, List.set_cons_succ]
      refine takeW18 (i := 6) (v := ?v6) rfl (by kernel_rfl) (by kernel_rfl) (by kernel_rfl) (fun _ _ _ h => h) (by rfl) ?hy6 (by assumption) ?rest6
      case hy6 => (intro w hSw; go_simp; try with_reducible rfl)
      try simp only [Act.put, List.setIfInBounds_toArray, List.set_cons_zero, List.set_cons_succ]
      refine takeW18 (i := 7) (v := ?v7) rfl (by kernel_rfl) (by kernel_rfl) (by kernel_rfl) (fun _ _ _ h => h) (by rfl) ?hy7 (by assumption) ?rest7
      case hy7 => (intro w hSw; go_simp; try with_reducible rfl)
      try simp only [Act.put, List.setIfInBounds_toArray, List.set_cons_zero, List.set_cons_succ]
      refine wpAnyH_ready (rs := [8]) (by kernel_rfl) (by simp) ?_
      refine AllReadyH.cons rfl (fun K hK => ?_) AllReadyH.nil
      go_simp
      refine hK.out _ _ (HSS.out _ Below.drew_).1 (fun hHeld => ?_)
      try simp only [Act.put, List.setIfInBounds_toArray]
      clear hK K
      refine wpAnyH_ready (rs := [9]) (by kernel_rfl) (by simp) ?_
      refine AllReadyH.cons rfl (fun K hK => ?_) AllReadyH.nil
      go_simp
      refine (C5.out _ Below.drew_).mono ?_
      rintro e w5 ⟨v5, rfl, ho5, hb5⟩
      obtain ⟨A5, c5, rfl, -, -, -⟩ := ho5.rdn HL.out
      have D2 : Hid (Below wr.heap.size wr w5) := Below.drew_.trans hb5
      have O2 := Lib.hid ho5
      have y1 := (HSS.out _ D2.out).2.1
      have y2 := (HSS.out _ D2.out).2.2
      clear hb5 ho5 hd hdd
      go_simp
      refine hK.out _ _ (HSS.out _ D2.out).1 (fun hHeld => ?_)
      try simp only [Act.put, List.setIfInBounds_toArray]
      clear hK K
      refine takeW18 (i := 10) (v := ?v10) rfl (by kernel_rfl) (by kernel_rfl) (by kernel_rfl) (fun _ _ _ h => h) (by rfl) ?hy10 (by assumption) ?rest10
      case hy10 => (intro w hSw; go_simp; try with_reducible rfl)
      try simp only [Act.put, List.setIfInBounds_toArray, List.set_cons_zero, List.set_cons_succ]
      refine takeW18 (i := 11) (v := ?v11) rfl (by kernel_rfl) (by kernel_rfl) (by kernel_rfl) (fun _ _ _ h => h) (by rfl) ?hy11 (by assumption) ?rest11
      case hy11 => (intro w hSw; go_simp; try with_reducible rfl)
      try simp only [Act.put, List.setIfInBounds_toArray, List.set_cons_zero, List.set_cons_succ]
      refine wpAnyH_ready (rs := [12]) (by kernel_rfl) (by simp) ?_
      refine AllReadyH.cons rfl (fun K hK => ?_) AllReadyH.nil
      go_simp
      refine hK.out _ _ (by rw [World.cell?_setCell_far _ _ _ _ (by have := HGW.out; show ¬ g = w.heap.size; omega)]; exact (HSS.out _ D2.out).1) (fun hHeld => ?_)
      try simp only [Act.put]
      clear hK K
      refine wpAnyH_done (by kernel_rfl) ?_ _
      have HST := Lib.hid (HQ.out w5 A5 c5 D2.out O2.out)
      clear y1 y2
      go_wp2_with fail
      have hw : wrap64 ((k : Int) + 1) = ((k + 1 : Nat) : Int) := by unfold wrap64; have := HH.out.2.2.2; omega
      go_roundw
      case rel => exact ⟨k + 1, _, by omega, by rw [hw], HST⟩
      case measure =>
        have key : ∀ z : Int, intOf (.int .i64 z) = z := fun z => rfl
        rw [hw, key, key, Int.toNat_natCast, Int.toNat_natCast]
        omega
    · obtain rfl : k = n := by omega
      have hii : decide ((k : Int) < (k : Int)) = false := decide_eq_false (by omega)
      have hrl := HS.out.full (Nat.le_refl _) (Nat.le_refl _) (by have := HH.out.2.2.2; omega)
      have hbel := BB5.out.trans (HS.out.bel.mono (by have := HBS.out; omega))
      have HRL := Lib.hid hrl
      have HBE := Lib.hid hbel
      clear hrl hbel
      go_wp2_with (first
        | (refine wpList_ld18 rfl (.tmp 1) rfl _ rfl _ _ HROWr.out rfl ?_)
        | (refine wpList_st18 rfl 28 (.tmp 2) (.tmp 45) rfl _ rfl rfl _ _ HZr.out info_bun rfl rfl ?_; intro W' hrow' _ hoth hbel hsz; have HWB := Lib.hid (hbel _ _ HBE.out (Nat.le_succ _)); clear hbel)
        | fail)
      refine bodyPost_ret (res_b Tryz.results47 _ _ rfl hrow' rfl) rfl ⟨HWB.out, some ⟨g, 0, none⟩, k, cap, rfl, ?_, HC.out.2⟩
      exact HRL.out.maskgo (by have := HBS.out; omega) (fun p hp u hu => (hoth p (by have := HBS.out; omega)).trans hu) (Nat.le_of_eq hsz.symm)
end Go.Proofs.YtoggkjoadiombaaGreatDoor
/- What taken of layer 6 returns. (Made by gen/BunH.py, gen/bun.py.) -/
namespace Go.Proofs.YtoggkjoadiombaaGreatDoor
open Go.RowKit
def TakU (ls : List Itm) (w : World) (e : Ending) (w' : World) : Prop := Below w.heap.size w w' ∧
  ((∃ h : BH, e = .returned (.tuple #[bunV h none 0 0, .nilIface]) ∧ h.Bd ∧ Wr (h.bun []) ∧ ∀ (b : Bun) (s : List UInt8), Wr b → ls = (itmP b s).list → primW (h.bun []) = primW b ∧ h.bun [] = { b with blks := [] }) ∨
   ((∀ (b : Bun) (s : List UInt8), Wr b → ls = (itmP b s).list → False) ∧ ∃ z s, z ≠ 0 ∧ e = .returned (.tuple #[.agg #[.int .u64 0, .int .i64 0, .int .i64 0, .string ⟨#[]⟩, .int .u64 0, .int .u64 0, .int .i64 0, .string ⟨#[]⟩, .int .u64 0, .int .u64 0, .int .i64 0, .string ⟨#[]⟩, .int .u64 0, .int .u64 0, .int .u64 0, .int .u64 0, .int .u64 0, .slice none 0 0], ufl z s])))
def FromZ (x : Itm) (w : World) (e : Ending) (w' : World) : Prop := Below w.heap.size w w' ∧ ∃ (sc : Int) (s : ByteArray) (n v : Nat) (z : Int), e = .returned (.tuple #[epdV sc s n v, .int .i64 z]) ∧ s.size ≤ 140737488355328 ∧ n < 18446744073709551616 ∧ v < 18446744073709551616 ∧
  ((z = 0 ∧ checkB (ep sc s n v) = true ∧ itemE (ep sc s n v) = x) ∨ (z = 40 ∧ ∀ e0, checkB e0 = true → itemE e0 ≠ x))
theorem fromz_any (A : Snt) (x : Itm) (v0 : Value) (B : Nat) (w : World) (hA : Lds A w) (hB : B ≤ w.heap.size) (h : RdI w B v0 x) :
    Calls Tryz.prog 126 #[v0] w (FromZ x w) :=
  (from_any A x v0 B w hA hB h).mono fun e w' ⟨hb, hh⟩ => ⟨hb, by
    rcases hh with ⟨sc, s, n, v, he, h1, h2, h3, h4, h5⟩ | ⟨h1, he⟩
    · exact ⟨sc, s, n, v, 0, he, h1, h2, h3, .inl ⟨rfl, h4, h5⟩⟩
    · exact ⟨0, ⟨#[]⟩, 0, 0, 40, he, by decide, by decide, by decide, .inr ⟨rfl, h1⟩⟩⟩
theorem itmP_list (b : Bun) (s : List UInt8) : (itmP b s).list = partsP b ++ if b.crc = 0 then [] else [.mk 2 0 s []] := rfl
theorem itmP_nine {x0 x1 x2 x3 x4 x5 x6 x7 : Itm} {rest : List Itm} {b : Bun} {s : List UInt8} (h : x0 :: x1 :: x2 :: x3 :: x4 :: x5 :: x6 :: x7 :: rest = (itmP b s).list) :
    x1 = .mk 0 b.flg [] [] ∧ x2 = .mk 0 b.crc.toNat [] [] ∧ x3 = itemE b.dst ∧ x4 = itemE b.src ∧ x5 = itemE b.rep ∧ x6 = .mk 4 0 [] [.mk 0 b.tim [] [], .mk 0 b.seq [] []] ∧ x7 = .mk 0 b.lif [] [] := by
  rw [itmP_list] at h
  unfold partsP at h
  simp only [List.cons_append, List.cons.injEq] at h
  exact ⟨h.2.1, h.2.2.1, h.2.2.2.1, h.2.2.2.2.1, h.2.2.2.2.2.1, h.2.2.2.2.2.2.1, h.2.2.2.2.2.2.2.1⟩
set_option maxRecDepth 100000 in
set_option maxHeartbeats 16000000 in
theorem utaken_any (S : Snt) (b o n c B : Nat) (ls : List Itm) (w : World) (hS : Wd S w) (hB : B ≤ w.heap.size) (hb : b < B) (h : RdIs w B b o ls) (hn : ls.length = n) (h8 : 8 ≤ n) (_hc : n ≤ c) :
    Calls Tryz.prog 106 #[.slice (some ⟨b, o, none⟩) n c] w (TakU ls w) := by
  obtain ⟨x0, x1, x2, x3, x4, x5, x6, x7, rest, rfl⟩ : ∃ x0 x1 x2 x3 x4 x5 x6 x7 rest, ls = x0 :: x1 :: x2 :: x3 :: x4 :: x5 :: x6 :: x7 :: rest := by
    match ls, (show 8 ≤ ls.length by omega) with
    | x0 :: x1 :: x2 :: x3 :: x4 :: x5 :: x6 :: x7 :: rest, _ => exact ⟨_, _, _, _, _, _, _, _, _, rfl⟩
    | [], hh => simp at hh
    | [_], hh => simp at hh
    | [_, _], hh => simp at hh
    | [_, _, _], hh => simp at hh
    | [_, _, _, _], hh => simp at hh
    | [_, _, _, _, _], hh => simp at hh
    | [_, _, _, _, _, _], hh => simp at hh
    | [_, _, _, _, _, _, _], hh => simp at hh
  have hlt : b < w.heap.size := Nat.lt_of_lt_of_le hb hB
  have hlt1 : (1 : Int) < (n : Int) := by omega
  have hlt2 : (2 : Int) < (n : Int) := by omega
  have hlt3 : (3 : Int) < (n : Int) := by omega
  have hlt4 : (4 : Int) < (n : Int) := by omega
  have hlt5 : (5 : Int) < (n : Int) := by omega
  have hlt6 : (6 : Int) < (n : Int) := by omega
  have hlt7 : (7 : Int) < (n : Int) := by omega
  obtain ⟨LS, hLS⟩ : ∃ LS, LS = x0 :: x1 :: x2 :: x3 :: x4 :: x5 :: x6 :: x7 :: rest := ⟨_, rfl⟩
  rw [← hLS]
  have HI := Lib.hid (fun (bb : Bun) (s : List UInt8) (hh : LS = (itmP bb s).list) => itmP_nine (hLS.symm.trans hh))
  clear hLS hn
  rw [RdIs, RdIs, RdIs, RdIs, RdIs, RdIs, RdIs, RdIs] at h
  obtain ⟨-, ⟨p10, p11, p12, p13, g10, g11, g12, g13, X1⟩, ⟨p20, p21, p22, p23, g20, g21, g22, g23, X2⟩, ⟨p30, p31, p32, p33, g30, g31, g32, g33, X3⟩, ⟨p40, p41, p42, p43, g40, g41, g42, g43, X4⟩, ⟨p50, p51, p52, p53, g50, g51, g52, g53, X5⟩, ⟨p60, p61, p62, p63, g60, g61, g62, g63, X6⟩, ⟨p70, p71, p72, p73, g70, g71, g72, g73, X7⟩, -⟩ := h
  obtain ⟨k1, m1, d1, l1⟩ := x1
  have HX1 := Lib.hid X1
  obtain ⟨A1, nd1, cd1, AL1, cl1, e1, -, hm1, -, -, hl1, hrow1⟩ := X1.open
  injection e1 with e1
  simp only [Array.mk.injEq, List.cons.injEq, and_true] at e1
  obtain ⟨rfl, rfl, rfl, rfl⟩ := e1
  clear X1
  obtain ⟨k2, m2, d2, l2⟩ := x2
  have HX2 := Lib.hid X2
  obtain ⟨A2, nd2, cd2, AL2, cl2, e2, -, hm2, -, -, hl2, hrow2⟩ := X2.open
  injection e2 with e2
  simp only [Array.mk.injEq, List.cons.injEq, and_true] at e2
  obtain ⟨rfl, rfl, rfl, rfl⟩ := e2
  clear X2
  obtain ⟨k3, m3, d3, l3⟩ := x3
  have HX3 := Lib.hid X3
  obtain ⟨A3, nd3, cd3, AL3, cl3, e3, -, hm3, -, -, hl3, hrow3⟩ := X3.open
  injection e3 with e3
  simp only [Array.mk.injEq, List.cons.injEq, and_true] at e3
  obtain ⟨rfl, rfl, rfl, rfl⟩ := e3
  clear X3
  obtain ⟨k4, m4, d4, l4⟩ := x4
  have HX4 := Lib.hid X4
  obtain ⟨A4, nd4, cd4, AL4, cl4, e4, -, hm4, -, -, hl4, hrow4⟩ := X4.open
  injection e4 with e4
  simp only [Array.mk.injEq, List.cons.injEq, and_true] at e4
  obtain ⟨rfl, rfl, rfl, rfl⟩ := e4
  clear X4
  obtain ⟨k5, m5, d5, l5⟩ := x5
  have HX5 := Lib.hid X5
  obtain ⟨A5, nd5, cd5, AL5, cl5, e5, -, hm5, -, -, hl5, hrow5⟩ := X5.open
  injection e5 with e5
  simp only [Array.mk.injEq, List.cons.injEq, and_true] at e5
  obtain ⟨rfl, rfl, rfl, rfl⟩ := e5
  clear X5
  obtain ⟨k6, m6, d6, l6⟩ := x6
  have HX6 := Lib.hid X6
  obtain ⟨A6, nd6, cd6, AL6, cl6, e6, -, hm6, -, -, hl6, hrow6⟩ := X6.open
  injection e6 with e6
  simp only [Array.mk.injEq, List.cons.injEq, and_true] at e6
  obtain ⟨rfl, rfl, rfl, rfl⟩ := e6
  clear X6
  obtain ⟨k7, m7, d7, l7⟩ := x7
  have HX7 := Lib.hid X7
  obtain ⟨A7, nd7, cd7, AL7, cl7, e7, -, hm7, -, -, hl7, hrow7⟩ := X7.open
  injection e7 with e7
  simp only [Array.mk.injEq, List.cons.injEq, and_true] at e7
  obtain ⟨rfl, rfl, rfl, rfl⟩ := e7
  clear X7
  have HG : Hid (∀ W, Below w.heap.size w W → W.cell? ⟨b, o + 4 + 1, none⟩ = some (.int .u64 (m1 : Int)) ∧ W.cell? ⟨b, o + 8 + 1, none⟩ = some (.int .u64 (m2 : Int)) ∧ W.cell? ⟨b, o + 12, none⟩ = some (.int .i64 k3) ∧ W.cell? ⟨b, o + 12 + 1, none⟩ = some (.int .u64 (m3 : Int)) ∧ W.cell? ⟨b, o + 12 + 2, none⟩ = some (.slice A3 nd3 cd3) ∧ W.cell? ⟨b, o + 12 + 3, none⟩ = some (.slice AL3 l3.length cl3) ∧ W.cell? ⟨b, o + 16, none⟩ = some (.int .i64 k4) ∧ W.cell? ⟨b, o + 16 + 1, none⟩ = some (.int .u64 (m4 : Int)) ∧ W.cell? ⟨b, o + 16 + 2, none⟩ = some (.slice A4 nd4 cd4) ∧ W.cell? ⟨b, o + 16 + 3, none⟩ = some (.slice AL4 l4.length cl4) ∧ W.cell? ⟨b, o + 20, none⟩ = some (.int .i64 k5) ∧ W.cell? ⟨b, o + 20 + 1, none⟩ = some (.int .u64 (m5 : Int)) ∧ W.cell? ⟨b, o + 20 + 2, none⟩ = some (.slice A5 nd5 cd5) ∧ W.cell? ⟨b, o + 20 + 3, none⟩ = some (.slice AL5 l5.length cl5) ∧ W.cell? ⟨b, o + 24 + 3, none⟩ = some (.slice AL6 l6.length cl6) ∧ W.cell? ⟨b, o + 28 + 1, none⟩ = some (.int .u64 (m7 : Int))) := fun W hw => ⟨(hw.cell hlt).trans g11, (hw.cell hlt).trans g21, (hw.cell hlt).trans g30, (hw.cell hlt).trans g31, (hw.cell hlt).trans g32, (hw.cell hlt).trans g33, (hw.cell hlt).trans g40, (hw.cell hlt).trans g41, (hw.cell hlt).trans g42, (hw.cell hlt).trans g43, (hw.cell hlt).trans g50, (hw.cell hlt).trans g51, (hw.cell hlt).trans g52, (hw.cell hlt).trans g53, (hw.cell hlt).trans g63, (hw.cell hlt).trans g71⟩
  clear g10 g11 g12 g13 g20 g21 g22 g23 g30 g31 g32 g33 g40 g41 g42 g43 g50 g51 g52 g53 g60 g61 g62 g63 g70 g71 g72 g73 hl1 hrow1 hl2 hrow2 hl3 hrow3 hl4 hrow4 hl5 hrow5 hl7 hrow7
  have HB0 : Hid (Below w.heap.size w (w.alloc (.cells #[.int .u64 0, .int .i64 0, .int .i64 0, .string ⟨#[]⟩, .int .u64 0, .int .u64 0, .int .i64 0, .string ⟨#[]⟩, .int .u64 0, .int .u64 0, .int .i64 0, .string ⟨#[]⟩, .int .u64 0, .int .u64 0, .int .u64 0, .int .u64 0, .int .u64 0, .slice none 0 0] 28))) := (Below.refl _ _).alloc (Nat.le_refl _) _
  have HF := Lib.hid (fun (W : World) (hw : Below (w.heap.size + 1) (w.alloc (.cells #[.int .u64 0, .int .i64 0, .int .i64 0, .string ⟨#[]⟩, .int .u64 0, .int .u64 0, .int .i64 0, .string ⟨#[]⟩, .int .u64 0, .int .u64 0, .int .i64 0, .string ⟨#[]⟩, .int .u64 0, .int .u64 0, .int .u64 0, .int .u64 0, .int .u64 0, .slice none 0 0] 28)) W) => zero18 rfl hw)
  have HZ := Lib.hid (fun (W : World) (hw : Below (w.heap.size + 1) (w.alloc (.cells #[.int .u64 0, .int .i64 0, .int .i64 0, .string ⟨#[]⟩, .int .u64 0, .int .u64 0, .int .i64 0, .string ⟨#[]⟩, .int .u64 0, .int .u64 0, .int .i64 0, .string ⟨#[]⟩, .int .u64 0, .int .u64 0, .int .u64 0, .int .u64 0, .int .u64 0, .slice none 0 0] 28)) W) => box18 rfl hw)
  have HZB : Hid (∀ W, Below (w.heap.size + 1) (w.alloc (.cells #[.int .u64 0, .int .i64 0, .int .i64 0, .string ⟨#[]⟩, .int .u64 0, .int .u64 0, .int .i64 0, .string ⟨#[]⟩, .int .u64 0, .int .u64 0, .int .i64 0, .string ⟨#[]⟩, .int .u64 0, .int .u64 0, .int .u64 0, .int .u64 0, .int .u64 0, .slice none 0 0] 28)) W → W.heap[w.heap.size]? = some (.cells #[.int .u64 0, .int .i64 0, .int .i64 0, .string ⟨#[]⟩, .int .u64 0, .int .u64 0, .int .i64 0, .string ⟨#[]⟩, .int .u64 0, .int .u64 0, .int .i64 0, .string ⟨#[]⟩, .int .u64 0, .int .u64 0, .int .u64 0, .int .u64 0, .int .u64 0, .slice none 0 0] 28 (0, 0))) := fun W hw => by
    rw [hw.block w.heap.size (Nat.lt_succ_self _)]; exact heap_alloc_new w _
  have HL := Lib.hid (hS.lds.alloc (.cells #[.int .u64 0, .int .i64 0, .int .i64 0, .string ⟨#[]⟩, .int .u64 0, .int .u64 0, .int .i64 0, .string ⟨#[]⟩, .int .u64 0, .int .u64 0, .int .i64 0, .string ⟨#[]⟩, .int .u64 0, .int .u64 0, .int .u64 0, .int .u64 0, .int .u64 0, .slice none 0 0] 28))
  have hs0 : (w.alloc (.cells #[.int .u64 0, .int .i64 0, .int .i64 0, .string ⟨#[]⟩, .int .u64 0, .int .u64 0, .int .i64 0, .string ⟨#[]⟩, .int .u64 0, .int .u64 0, .int .i64 0, .string ⟨#[]⟩, .int .u64 0, .int .u64 0, .int .u64 0, .int .u64 0, .int .u64 0, .slice none 0 0] 28)).heap.size = w.heap.size + 1 := by simp
  have HS0 := Lib.hid hs0
  have CN := Lib.hid unone_any
  obtain ⟨g11, g21, g30, g31, g32, g33, g40, g41, g42, g43, g50, g51, g52, g53, g63, g71⟩ := HG.out _ HB0.out
  have HBW := Lib.hid hB
  clear hS hB hb h8 _hc hs0
  go_enter Tryz.func106, Tryz.ntmps106
  go_wp2_with fail
  go_quiet (fail)
  have HQ0 : Hid (Below (w.heap.size + 1) (w.alloc (.cells #[.int .u64 0, .int .i64 0, .int .i64 0, .string ⟨#[]⟩, .int .u64 0, .int .u64 0, .int .i64 0, .string ⟨#[]⟩, .int .u64 0, .int .u64 0, .int .i64 0, .string ⟨#[]⟩, .int .u64 0, .int .u64 0, .int .u64 0, .int .u64 0, .int .u64 0, .slice none 0 0] 28)) ((w.alloc (.cells #[.int .u64 0, .int .i64 0, .int .i64 0, .string ⟨#[]⟩, .int .u64 0, .int .u64 0, .int .i64 0, .string ⟨#[]⟩, .int .u64 0, .int .u64 0, .int .i64 0, .string ⟨#[]⟩, .int .u64 0, .int .u64 0, .int .u64 0, .int .u64 0, .int .u64 0, .slice none 0 0] 28)).drewN nq)) := drewN_below nq
  have HB1 : Hid (Below w.heap.size w ((w.alloc (.cells #[.int .u64 0, .int .i64 0, .int .i64 0, .string ⟨#[]⟩, .int .u64 0, .int .u64 0, .int .i64 0, .string ⟨#[]⟩, .int .u64 0, .int .u64 0, .int .i64 0, .string ⟨#[]⟩, .int .u64 0, .int .u64 0, .int .u64 0, .int .u64 0, .int .u64 0, .slice none 0 0] 28)).drewN nq)) := HB0.out.trans (drewN_below nq)
  have HL1 : Hid (Lds S ((w.alloc (.cells #[.int .u64 0, .int .i64 0, .int .i64 0, .string ⟨#[]⟩, .int .u64 0, .int .u64 0, .int .i64 0, .string ⟨#[]⟩, .int .u64 0, .int .u64 0, .int .i64 0, .string ⟨#[]⟩, .int .u64 0, .int .u64 0, .int .u64 0, .int .u64 0, .int .u64 0, .slice none 0 0] 28)).drewN nq)) := HL.out.below (drewN_below (B := (w.alloc (.cells #[.int .u64 0, .int .i64 0, .int .i64 0, .string ⟨#[]⟩, .int .u64 0, .int .u64 0, .int .i64 0, .string ⟨#[]⟩, .int .u64 0, .int .u64 0, .int .i64 0, .string ⟨#[]⟩, .int .u64 0, .int .u64 0, .int .u64 0, .int .u64 0, .int .u64 0, .slice none 0 0] 28)).heap.size) nq) (Nat.le_refl _)
  have hs1 : w.heap.size + 1 ≤ ((w.alloc (.cells #[.int .u64 0, .int .i64 0, .int .i64 0, .string ⟨#[]⟩, .int .u64 0, .int .u64 0, .int .i64 0, .string ⟨#[]⟩, .int .u64 0, .int .u64 0, .int .i64 0, .string ⟨#[]⟩, .int .u64 0, .int .u64 0, .int .u64 0, .int .u64 0, .int .u64 0, .slice none 0 0] 28)).drewN nq).heap.size := by have := (drewN_below (B := 0) (w := w.alloc (.cells #[.int .u64 0, .int .i64 0, .int .i64 0, .string ⟨#[]⟩, .int .u64 0, .int .u64 0, .int .i64 0, .string ⟨#[]⟩, .int .u64 0, .int .u64 0, .int .i64 0, .string ⟨#[]⟩, .int .u64 0, .int .u64 0, .int .u64 0, .int .u64 0, .int .u64 0, .slice none 0 0] 28)) nq).size; have := HS0.out; omega
  clear g11 g21 g30 g31 g32 g33 g40 g41 g42 g43 g50 g51 g52 g53 g63 g71
  obtain ⟨g11, g21, g30, g31, g32, g33, g40, g41, g42, g43, g50, g51, g52, g53, g63, g71⟩ := HG.out _ HB1.out
  generalize (w.alloc (.cells #[.int .u64 0, .int .i64 0, .int .i64 0, .string ⟨#[]⟩, .int .u64 0, .int .u64 0, .int .i64 0, .string ⟨#[]⟩, .int .u64 0, .int .u64 0, .int .i64 0, .string ⟨#[]⟩, .int .u64 0, .int .u64 0, .int .u64 0, .int .u64 0, .int .u64 0, .slice none 0 0] 28)).drewN nq = V0 at *
  have HS1 := Lib.hid hs1
  clear hs1
  by_cases hk : 2 < m2
  · have t1 : decide ((2 : Int) < (m2 : Int)) = true := decide_eq_true (by omega)
    have HNO : Hid (∀ (bb : Bun) (s : List UInt8), Wr bb → LS = (itmP bb s).list → False) := fun bb s hw hh => by
      obtain ⟨-, h2, -⟩ := HI.out bb s hh
      injection h2 with _ h2
      have := hw.1
      omega
    clear g11 g21 g30 g31 g32 g33 g40 g41 g42 g43 g50 g51 g52 g53 g63 g71
    go_wp2_with (first
      | (go_at_call 57; refine (CN.out _ _).mono ?_; rintro e w1 ⟨rfl, rfl⟩)
      | (refine wpList_st18 rfl 28 (.tmp 2) (.tmp 22) rfl _ rfl rfl _ _ (HZB.out _ HQ0.out) info_bun rfl rfl ?_; intro W' hrow' ⟨r0, r1, r2, r3, r4, r5, r6, r7, r8, r9, r10, r11, r12, r13, r14, r15, r16, r17⟩ hoth hbel hsz; have HWB := Lib.hid (hbel _ _ HB1.out (Nat.le_refl _)); clear hoth hbel hsz)
      | fail)
    exact bodyPost_ret (res_bt Tryz.results106 _ _ rfl hrow' rfl) rfl ⟨HWB.out, .inr ⟨HNO.out, 60, _, by decide, rfl⟩⟩
  have t1 : decide ((2 : Int) < (m2 : Int)) = false := decide_eq_false (by omega)
  by_cases h2 : l6.length = 2
  case neg =>
    have t2 : ((l6.length : Int) == 2) = false := by simp; omega
    have t3 : ((l6.length : Int) != 2) = true := by simp; omega
    have HNO : Hid (∀ (bb : Bun) (s : List UInt8), Wr bb → LS = (itmP bb s).list → False) := fun bb s hw hh => by
      obtain ⟨-, -, -, -, -, h6, -⟩ := HI.out bb s hh
      injection h6 with _ _ _ h6
      rw [h6] at h2
      exact h2 rfl
    clear g11 g21 g30 g31 g32 g33 g40 g41 g42 g43 g50 g51 g52 g53 g63 g71
    go_wp2_with (first
      | (go_at_call 57; refine (CN.out _ _).mono ?_; rintro e w1 ⟨rfl, rfl⟩)
      | (refine wpList_st18 rfl 28 (.tmp 2) (.tmp 27) rfl _ rfl rfl _ _ (HZB.out _ HQ0.out) info_bun rfl rfl ?_; intro W' hrow' ⟨r0, r1, r2, r3, r4, r5, r6, r7, r8, r9, r10, r11, r12, r13, r14, r15, r16, r17⟩ hoth hbel hsz; have HWB := Lib.hid (hbel _ _ HB1.out (Nat.le_refl _)); clear hoth hbel hsz)
      | fail)
    exact bodyPost_ret (res_bt Tryz.results106 _ _ rfl hrow' rfl) rfl ⟨HWB.out, .inr ⟨HNO.out, 60, _, by decide, rfl⟩⟩
  obtain ⟨y0, y1, rfl⟩ : ∃ y0 y1, l6 = [y0, y1] := by
    match l6, h2 with
    | [y0, y1], _ => exact ⟨y0, y1, rfl⟩
  obtain ⟨b6, o6, rfl, hb6, hs6⟩ := hrow6 (by simp)
  have t2 : ((([y0, y1] : List Itm).length : Int) == 2) = true := rfl
  have hlt6' : b6 < w.heap.size := Nat.lt_of_lt_of_le hb6 HBW.out
  rw [RdIs, RdIs] at hs6
  obtain ⟨⟨a0, a1, a2, a3, -, u1, -, -, Y0⟩, ⟨c0, c1, c2, c3, -, v1, -, -, Y1⟩, -⟩ := hs6
  obtain ⟨ka, ma, da, la⟩ := y0
  obtain ⟨kb, mb, db, lb⟩ := y1
  obtain ⟨Aa, nda, cda, ALa, cla, ea, -, hma, -⟩ := Y0.open
  obtain ⟨Ab, ndb, cdb, ALb, clb, eb, -, hmb, -⟩ := Y1.open
  injection ea with ea
  simp only [Array.mk.injEq, List.cons.injEq, and_true] at ea
  obtain ⟨rfl, rfl, rfl, rfl⟩ := ea
  injection eb with eb
  simp only [Array.mk.injEq, List.cons.injEq, and_true] at eb
  obtain ⟨rfl, rfl, rfl, rfl⟩ := eb
  have HU : Hid (∀ W, Below w.heap.size w W → W.cell? ⟨b6, o6 + 1, none⟩ = some (.int .u64 (ma : Int)) ∧ W.cell? ⟨b6, o6 + 4 + 1, none⟩ = some (.int .u64 (mb : Int))) := fun W hw => ⟨(hw.cell hlt6').trans u1, (hw.cell hlt6').trans v1⟩
  have HM := Lib.hid (And.intro hma (And.intro hmb (And.intro hm1 hm7)))
  have hwr : IntKind.i64.wrap (m2 : Int) = (m2 : Int) := by rcases (show m2 = 0 ∨ m2 = 1 ∨ m2 = 2 by omega) with rfl | rfl | rfl <;> rfl
  have HK := Lib.hid hk
  have l2 : ((([Itm.mk ka ma da la, Itm.mk kb mb db lb] : List Itm).length : Nat) : Int) = 2 := rfl
  rw [show ([Itm.mk ka ma da la, Itm.mk kb mb db lb] : List Itm).length = 2 from rfl] at *
  clear u1 v1 Y0 Y1 hb6 hlt6' hma hmb hk h2 hrow6 l2
  have C1 := Lib.hid (fromz_any S _ _ B V0 HL1.out (Nat.le_trans HBW.out HB1.out.size) (HX3.out.below (HB1.out.mono HBW.out)))
  go_wp2_with fail
  refine C1.out.mono ?_
  rintro e w1 ⟨hb1, sc1, s1, q1, r1, z1, rfl, hs1, hq1, hr1, hz1⟩
  unfold epdV
  have HH1 := Lib.hid (And.intro hs1 (And.intro hq1 (And.intro hr1 hz1)))
  have hal1 := hb1.alloc hb1.size (.cells #[.int .i64 sc1, .string s1, .int .u64 (q1 : Int), .int .u64 (r1 : Int)] 25)
  have HB2 := Lib.hid (Below.push HB1.out (Nat.le_refl _) hal1)
  have HQ1 := Lib.hid (Below.push HQ0.out (Nat.le_of_eq HS0.out.symm) hal1)
  have HL2 := Lib.hid (HL1.out.below hal1 (Nat.le_refl _))
  have HE1 := Lib.hid (fun (W : World) (hw : Below (w1.alloc (.cells #[.int .i64 sc1, .string s1, .int .u64 (q1 : Int), .int .u64 (r1 : Int)] 25)).heap.size (w1.alloc (.cells #[.int .i64 sc1, .string s1, .int .u64 (q1 : Int), .int .u64 (r1 : Int)] 25)) W) => box_cells4 hw)
  have HD1 := Lib.hid hal1
  clear g11 g21 g30 g31 g32 g33 g40 g41 g42 g43 g50 g51 g52 g53 g63 g71 hb1 hs1 hq1 hr1 hz1 hal1
  obtain ⟨g11, g21, g30, g31, g32, g33, g40, g41, g42, g43, g50, g51, g52, g53, g63, g71⟩ := HG.out _ HB2.out
  have C2 := Lib.hid (fromz_any S _ _ B (w1.alloc (.cells #[.int .i64 sc1, .string s1, .int .u64 (q1 : Int), .int .u64 (r1 : Int)] 25)) HL2.out (Nat.le_trans HBW.out HB2.out.size) (HX4.out.below (HB2.out.mono HBW.out)))
  go_wp2_with fail
  refine C2.out.mono ?_
  rintro e w2 ⟨hb2, sc2, s2, q2, r2, z2, rfl, hs2, hq2, hr2, hz2⟩
  unfold epdV
  have HH2 := Lib.hid (And.intro hs2 (And.intro hq2 (And.intro hr2 hz2)))
  have hal2 := hb2.alloc hb2.size (.cells #[.int .i64 sc2, .string s2, .int .u64 (q2 : Int), .int .u64 (r2 : Int)] 25)
  have HB3 := Lib.hid (Below.push HB2.out (Nat.le_refl _) hal2)
  have HQ2 := Lib.hid (Below.push HQ1.out (Nat.le_of_eq HS0.out.symm) hal2)
  have HL3 := Lib.hid (HL2.out.below hal2 (Nat.le_refl _))
  have HE2 := Lib.hid (fun (W : World) (hw : Below (w2.alloc (.cells #[.int .i64 sc2, .string s2, .int .u64 (q2 : Int), .int .u64 (r2 : Int)] 25)).heap.size (w2.alloc (.cells #[.int .i64 sc2, .string s2, .int .u64 (q2 : Int), .int .u64 (r2 : Int)] 25)) W) => box_cells4 hw)
  have HD2 := Lib.hid hal2
  clear g11 g21 g30 g31 g32 g33 g40 g41 g42 g43 g50 g51 g52 g53 g63 g71 hb2 hs2 hq2 hr2 hz2 hal2
  obtain ⟨g11, g21, g30, g31, g32, g33, g40, g41, g42, g43, g50, g51, g52, g53, g63, g71⟩ := HG.out _ HB3.out
  have C3 := Lib.hid (fromz_any S _ _ B (w2.alloc (.cells #[.int .i64 sc2, .string s2, .int .u64 (q2 : Int), .int .u64 (r2 : Int)] 25)) HL3.out (Nat.le_trans HBW.out HB3.out.size) (HX5.out.below (HB3.out.mono HBW.out)))
  go_wp2_with fail
  refine C3.out.mono ?_
  rintro e w3 ⟨hb3, sc3, s3, q3, r3, z3, rfl, hs3, hq3, hr3, hz3⟩
  unfold epdV
  have HH3 := Lib.hid (And.intro hs3 (And.intro hq3 (And.intro hr3 hz3)))
  have hal3 := hb3.alloc hb3.size (.cells #[.int .i64 sc3, .string s3, .int .u64 (q3 : Int), .int .u64 (r3 : Int)] 25)
  have HB4 := Lib.hid (Below.push HB3.out (Nat.le_refl _) hal3)
  have HQ3 := Lib.hid (Below.push HQ2.out (Nat.le_of_eq HS0.out.symm) hal3)
  have HL4 := Lib.hid (HL3.out.below hal3 (Nat.le_refl _))
  have HE3 := Lib.hid (fun (W : World) (hw : Below (w3.alloc (.cells #[.int .i64 sc3, .string s3, .int .u64 (q3 : Int), .int .u64 (r3 : Int)] 25)).heap.size (w3.alloc (.cells #[.int .i64 sc3, .string s3, .int .u64 (q3 : Int), .int .u64 (r3 : Int)] 25)) W) => box_cells4 hw)
  have HD3 := Lib.hid hal3
  clear g11 g21 g30 g31 g32 g33 g40 g41 g42 g43 g50 g51 g52 g53 g63 g71 hb3 hs3 hq3 hr3 hz3 hal3
  obtain ⟨g11, g21, g30, g31, g32, g33, g40, g41, g42, g43, g50, g51, g52, g53, g63, g71⟩ := HG.out _ HB4.out
  have HW : Hid (∀ (bb : Bun) (s : List UInt8), Wr bb → LS = (itmP bb s).list → checkB bb.dst = true ∧ checkB bb.src = true ∧ checkB bb.rep = true ∧ Itm.mk k3 m3 d3 l3 = itemE bb.dst ∧ Itm.mk k4 m4 d4 l4 = itemE bb.src ∧ Itm.mk k5 m5 d5 l5 = itemE bb.rep) := fun bb s hw hh => by
    obtain ⟨-, -, h3, h4, h5, -, -⟩ := HI.out bb s hh
    exact ⟨hw.2.1, hw.2.2.1, hw.2.2.2, h3, h4, h5⟩
  rcases HH1.out.2.2.2 with ⟨rfl, K1⟩ | ⟨rfl, N1⟩
  rotate_left
  · have HNO : Hid (∀ (bb : Bun) (s : List UInt8), Wr bb → LS = (itmP bb s).list → False) := fun bb s hw hh => by
      obtain ⟨c1, c2, c3, i1, i2, i3⟩ := HW.out bb s hw hh
      exact N1 _ c1 i1.symm
    clear g11 g21 g30 g31 g32 g33 g40 g41 g42 g43 g50 g51 g52 g53 g63 g71
    go_wp2_with (first
      | (go_at_call 57; refine (CN.out _ _).mono ?_; rintro e w1 ⟨rfl, rfl⟩)
      | (refine wpList_st18 rfl 28 (.tmp 2) (.tmp 60) rfl _ rfl rfl _ _ (HZB.out _ HQ3.out) info_bun rfl rfl ?_; intro W' hrow' ⟨r0, r1, r2, r3, r4, r5, r6, r7, r8, r9, r10, r11, r12, r13, r14, r15, r16, r17⟩ hoth hbel hsz; have HWB := Lib.hid (hbel _ _ HB4.out (Nat.le_refl _)); clear hoth hbel hsz)
      | fail)
    exact bodyPost_ret (res_bt Tryz.results106 _ _ rfl hrow' rfl) rfl ⟨HWB.out, .inr ⟨HNO.out, 60, _, by decide, rfl⟩⟩
  rcases HH2.out.2.2.2 with ⟨rfl, K2⟩ | ⟨rfl, N2⟩
  rotate_left
  · have HNO : Hid (∀ (bb : Bun) (s : List UInt8), Wr bb → LS = (itmP bb s).list → False) := fun bb s hw hh => by
      obtain ⟨c1, c2, c3, i1, i2, i3⟩ := HW.out bb s hw hh
      exact N2 _ c2 i2.symm
    clear g11 g21 g30 g31 g32 g33 g40 g41 g42 g43 g50 g51 g52 g53 g63 g71
    go_wp2_with (first
      | (go_at_call 57; refine (CN.out _ _).mono ?_; rintro e w1 ⟨rfl, rfl⟩)
      | (refine wpList_st18 rfl 28 (.tmp 2) (.tmp 60) rfl _ rfl rfl _ _ (HZB.out _ HQ3.out) info_bun rfl rfl ?_; intro W' hrow' ⟨r0, r1, r2, r3, r4, r5, r6, r7, r8, r9, r10, r11, r12, r13, r14, r15, r16, r17⟩ hoth hbel hsz; have HWB := Lib.hid (hbel _ _ HB4.out (Nat.le_refl _)); clear hoth hbel hsz)
      | fail)
    exact bodyPost_ret (res_bt Tryz.results106 _ _ rfl hrow' rfl) rfl ⟨HWB.out, .inr ⟨HNO.out, 60, _, by decide, rfl⟩⟩
  rcases HH3.out.2.2.2 with ⟨rfl, K3⟩ | ⟨rfl, N3⟩
  rotate_left
  · have HNO : Hid (∀ (bb : Bun) (s : List UInt8), Wr bb → LS = (itmP bb s).list → False) := fun bb s hw hh => by
      obtain ⟨c1, c2, c3, i1, i2, i3⟩ := HW.out bb s hw hh
      exact N3 _ c3 i3.symm
    clear g11 g21 g30 g31 g32 g33 g40 g41 g42 g43 g50 g51 g52 g53 g63 g71
    go_wp2_with (first
      | (go_at_call 57; refine (CN.out _ _).mono ?_; rintro e w1 ⟨rfl, rfl⟩)
      | (refine wpList_st18 rfl 28 (.tmp 2) (.tmp 60) rfl _ rfl rfl _ _ (HZB.out _ HQ3.out) info_bun rfl rfl ?_; intro W' hrow' ⟨r0, r1, r2, r3, r4, r5, r6, r7, r8, r9, r10, r11, r12, r13, r14, r15, r16, r17⟩ hoth hbel hsz; have HWB := Lib.hid (hbel _ _ HB4.out (Nat.le_refl _)); clear hoth hbel hsz)
      | fail)
    exact bodyPost_ret (res_bt Tryz.results106 _ _ rfl hrow' rfl) rfl ⟨HWB.out, .inr ⟨HNO.out, 60, _, by decide, rfl⟩⟩
  have HKK := Lib.hid (And.intro K1 (And.intro K2 K3))
  clear K1 K2 K3
  obtain ⟨u1, u2⟩ := HU.out _ HB4.out
  have hD3 := Below.push HD2.out (Nat.le_refl _) HD3.out
  obtain ⟨b10, b11, b12, b13⟩ := HE1.out _ hD3
  obtain ⟨b20, b21, b22, b23⟩ := HE2.out _ HD3.out
  obtain ⟨b30, b31, b32, b33⟩ := HE3.out _ (Below.refl _ _)
  clear hD3 t1 t2
  go_wp2_with fail
  generalize (w3.alloc (.cells #[.int .i64 sc3, .string s3, .int .u64 (q3 : Int), .int .u64 (r3 : Int)] 25)) = V3 at *
  refine wp_region_still_tail 22 (by kernel_rfl) (by kernel_rfl) ?_
  simp only [List.take_succ_cons, List.take_zero, List.drop_succ_cons, List.drop_zero]
  repeat still_step
  refine wpStill_nil ?_
  have HWD : Hid (Below w.heap.size w V3.drew) := HB4.out.drew
  have HQD : Hid (Below (w.heap.size + 1) (w.alloc (.cells #[.int .u64 0, .int .i64 0, .int .i64 0, .string ⟨#[]⟩, .int .u64 0, .int .u64 0, .int .i64 0, .string ⟨#[]⟩, .int .u64 0, .int .u64 0, .int .i64 0, .string ⟨#[]⟩, .int .u64 0, .int .u64 0, .int .u64 0, .int .u64 0, .int .u64 0, .slice none 0 0] 28)) V3.drew) := HQ3.out.drew
  change wpList _ _ _ _ _ V3.drew
  generalize V3.drew = V4 at *
  clear g11 g21 g30 g31 g32 g33 g40 g41 g42 g43 g50 g51 g52 g53 g63 g71 u1 u2 b10 b11 b12 b13 b20 b21 b22 b23 b30 b31 b32 b33
  go_wp2_with (first
    | (refine wpList_st18 rfl 28 (.tmp 2) (.tmp 83) rfl _ rfl rfl _ _ (HZB.out _ HQD.out) info_bun rfl rfl ?_; intro W' hrow' _ hoth hbel hsz; have HWB := Lib.hid (hbel _ _ HWD.out (Nat.le_refl _)); clear hoth hbel hsz)
    | fail)
  have hk2 : m2 ≤ 2 := by have := HK.out; omega
  refine bodyPost_ret (res_bt Tryz.results106 _ _ rfl hrow' rfl) rfl ⟨HWB.out, .inl ⟨⟨m1, m2, sc1, s1, q1, r1, sc2, s2, q2, r2, sc3, s3, q3, r3, ma, mb, m7⟩, rfl, ⟨HM.out.2.2.1, HH1.out.1, HH1.out.2.1, HH1.out.2.2.1, HH2.out.1, HH2.out.2.1, HH2.out.2.2.1, HH3.out.1, HH3.out.2.1, HH3.out.2.2.1, HM.out.1, HM.out.2.1, HM.out.2.2.2⟩, ⟨⟨by show (0 : Int) ≤ (m2 : Int); omega, by show (m2 : Int) ≤ 2; omega⟩, HKK.out.1.1, HKK.out.2.1.1, HKK.out.2.2.1⟩, fun bb s hw hh => ?_⟩⟩
  obtain ⟨h1, h2, h3, h4, h5, h6, h7⟩ := HI.out bb s hh
  injection h1 with _ h1
  injection h2 with _ h2
  injection h7 with _ h7
  injection h6 with _ _ _ h6
  simp only [List.cons.injEq, Itm.mk.injEq, and_true] at h6
  have i1 := item_inj HKK.out.1.1 hw.2.1 (HKK.out.1.2.trans h3)
  have i2 := item_inj HKK.out.2.1.1 hw.2.2.1 (HKK.out.2.1.2.trans h4)
  have i3 := item_inj HKK.out.2.2.1 hw.2.2.2 (HKK.out.2.2.2.trans h5)
  have hc : (m2 : Int) = bb.crc := by have := hw.1; omega
  have e : (⟨m1, m2, sc1, s1, q1, r1, sc2, s2, q2, r2, sc3, s3, q3, r3, ma, mb, m7⟩ : BH).bun [] = { bb with blks := [] } := by
    obtain ⟨bf, bc, bd, bs, br, bt, bq, bl, bk⟩ := bb
    simp only at h1 hc i1 i2 i3 h6 h7
    subst h1 hc i1 i2 i3 h7
    obtain ⟨⟨-, rfl, -⟩, -, rfl, -⟩ := h6
    rfl
  exact ⟨by rw [e]; rfl, e⟩
end Go.Proofs.YtoggkjoadiombaaGreatDoor
