/- The code's disk: New, what a sector has. -/
import Derived.Test.YtahgaogmcffglaaDoorJDscA
import Derived.Laws.Rows
import Derived.Deep.WholeRow
namespace Go.Proofs.YtahgaogmcffglaaDoor
open Go.RowKit

theorem add_mk (b o j : Nat) : (⟨b, o, none⟩ : Addr).add j = ⟨b, o + j, none⟩ := by unfold Addr.add; split <;> simp_all
/-- A struct or an array loaded whole. -/
theorem run_ldN {P : Program} {w : World} {ty : TypeId} {ad : Addr} {cs : List Value} {d : TypeDesc} (hu : P.underlying ty = some d) (hd : (match d with | .struct _ | .array _ _ => true | _ => false) = true) (hi : (P.info? ty).map (·.size) = some cs.length)
    (hsrc : ∀ j v, cs[j]? = some v → w.cell? (ad.add j) = some v) : (loadVar ty ad).run P w = .ok (.agg cs.toArray) w := by
  have hl := run_loadCells_list (P := P) w ad cs hsrc
  cases hq : P.info? ty with
  | none => simp [hq] at hi
  | some i =>
    have hs : i.size = cs.length := by simpa [hq] using hi
    have hagg : (isAgg ty).run P w = .ok true w := by
      unfold isAgg
      rw [Sem.run_bind, run_underlying hu w]
      cases d <;> simp_all
    simp [loadVar, Sem.run_bind, hagg, sizeOf, typeInfo, hq, hs, hl]
theorem wpList_ldN {P : Program} {w : World} {ops : Array Oper} {rest : List Oper} {o : Oper} {a : Act} {Q : Exit → Act → World → Prop} (hgd : o.guard = none) (ty : TypeId) (x : Operand) (ho : o.op = .load ty x) (ad : Addr) (hx : a.eval x = .pointer (some ad)) (v : Value) (hl : (loadVar ty ad).run P w = .ok v w)
    (h : wpList P ops Q rest (a.put o.dst v) w) : wpList P ops Q (o :: rest) a w := by
  refine wpList_plain hgd fun K hK => ?_
  unfold Oper.wp execOp
  simp only [ho, hx, Instr.loadAt, Instr.sureAddr, Sem.run_bind, Sem.run_pure, Result.andThen_ok, hl]
  exact hK _ _ h
theorem wpList_allocN13 {P : Program} {ops : Array Oper} {rest : List Oper} {o : Oper} {a : Act} {w : World} {Q : Exit → Act → World → Prop} (hg : o.guard = none) (t : TypeId) (ho : o.op = .alloc t) (C : Array Value) (hz : ∀ w : World, (zeroValue t).run P w = .ok (.agg C) w)
    (h : wpList P ops Q rest (a.put o.dst (.pointer (some ⟨w.heap.size, 0, none⟩))) (w.alloc (.cells C t))) : wpList P ops Q (o :: rest) a w := by
  refine wpList_plain hg fun K hK => ?_
  unfold Oper.wp execOp
  simp only [ho, Instr.alloc, Sem.run_bind, hz, Result.andThen_ok, newVar, Sem.run_pure]
  exact hK _ _ h
/-- A row stored anew, whole: what the new world is good for. -/
theorem wpList_stRow13 {P : Program} {ops : Array Oper} {rest : List Oper} {o : Oper} {a : Act} {w : World} {Q : Exit → Act → World → Prop} (hgd : o.guard = none) (ty : TypeId) (x y : Operand) (ho : o.op = .store ty x y)
    (g : Nat) (cells : Array Value) (hx : a.eval x = .pointer (some ⟨g, 0, none⟩)) (hy : a.eval y = .agg cells)
    (t : TypeId) (old : Array Value) (hg : w.heap[g]? = some (.cells old t (0, 0))) (hi : (P.info? ty).map (·.size) = some cells.size)
    (hold : old.size = cells.size) (h1 : ∀ u ∈ cells, u.oneCell' = true)
    (h : ∀ W' : World, W'.heap[g]? = some (.cells cells t (0, 0)) → (∀ k, k ≠ g → W'.heap[k]? = w.heap[k]?) → (∀ (B : Nat) (w0 : World), Below B w0 w → B ≤ g → Below B w0 W') → W'.heap.size = w.heap.size → wpList P ops Q rest (a.put o.dst undef) W') :
    wpList P ops Q (o :: rest) a w :=
  wpList_store_row hgd ty x y ho g cells hx hy t old hg hi hold (Array.all_eq_true_iff_forall_mem.2 h1)
    (h _ (setRow_heap w g old cells t _ hg) (fun k hk => setRow_other w g k _ hk) (fun _ _ hb hB => below_setRow hb hB _) (setRow_size w g _))
/-- Sixty-four noughts. -/
def z64 : List UInt8 := List.replicate 64 0
theorem sec_zero (w : World) : (zeroValue 77).run Tryd.prog w = .ok (.agg (z64.map bv).toArray) w :=
  (zero_of_info (P := Tryd.prog) (t := 77) (v := .agg (z64.map bv).toArray) (n := 64) (by kernel_rfl)).1 w
theorem sec_info : (Tryd.prog.info? 77).map (·.size) = some 64 := by kernel_rfl
theorem sec_all : (Tryd.prog.info? 77).map (fun i => (i.zero, i.size, i.bytes)) = some (some (.agg (z64.map bv).toArray), 64, 64) := by kernel_rfl
theorem own_whole13 {w : World} {base g n size : Nat} {e : TypeId} {cs : List Value} (h : w.ownsRow base e size (.slice (some ⟨g, 0, none⟩) n n) n cs) : w.heap[g]? = some (.cells cs.toArray e (0, 0)) := by
  rcases h.2 with ⟨e, _⟩ | ⟨g', cap, cur, e, hb, hg, hnc, hm, hs, ht⟩
  · cases e
  · simp only [Value.slice.injEq, Option.some.injEq, Addr.mk.injEq] at e
    obtain ⟨⟨rfl, _, _⟩, e2, rfl⟩ := e
    rw [hg]
    have : cur = cs.toArray := by
      rw [← ht, List.take_of_length_le (by simp [hs])]
    rw [this]
theorem made_secs (n : Nat) : (madeCells (Value.agg (z64.map bv).toArray).cells (n * 64)).toList = (List.replicate (n * 64) (0 : UInt8)).map bv := by
  apply List.ext_getElem?
  intro j
  have hz1 : (Value.agg (z64.map bv).toArray).cells = (z64.map bv).toArray := rfl
  rw [hz1]
  have hs : ((z64.map bv).toArray).size = 64 := by simp [z64]
  by_cases hj : j < n * 64
  · have e : ∀ k, k < 64 → (z64.map bv)[k]? = some (bv 0) := fun k hk => by rw [List.getElem?_map, z64, List.getElem?_replicate_of_lt hk]; rfl
    have h1 := e (j % 64) (Nat.mod_lt _ (by decide))
    simp only [madeCells, hs, Array.toList_map, Array.toList_range, List.getElem?_map, List.getElem?_range hj, List.getElem?_replicate_of_lt hj, Option.map_some]
    simp [h1]
  · simp [hj, madeCells]
/-- What New answers. -/
def CNewR (n : Int) (w : World) (e : Ending) (w' : World) : Prop := (1 ≤ n ∧ n ≤ 65536 ∧ ∃ (F : Nat → Prop) (g : Nat), e = .returned (.tuple #[.pointer (some ⟨g, 0, none⟩), .int .i64 0]) ∧ CDk w' F w.heap.size g ⟨List.replicate n.toNat z64, [], true, -1⟩ ∧ Below w.heap.size w w') ∨
  (¬ (1 ≤ n ∧ n ≤ 65536) ∧ e = .returned (.tuple #[.pointer none, .int .i64 2]) ∧ Below w.heap.size w w')

set_option maxRecDepth 100000 in
set_option maxHeartbeats 2000000 in
theorem cnew_any (n : Int) (w : World) : Calls Tryd.prog 23 #[.int .i64 n] w (CNewR n w) := by
  by_cases h1 : n < 1
  · go_enter Tryd.func23, Tryd.ntmps23
    go_wp2_with fail
    refine bodyPost_ret (v := .tuple #[.pointer none, .int .i64 2]) (by simp [results, Tryd.results23, go_sem]) rfl (show CNewR _ _ _ _ from .inr ⟨by omega, rfl, Below.refl _ _⟩)
  by_cases h2 : 65536 < n
  · have h0 : ¬ n < 1 := h1
    have HN : Hid (¬ (1 ≤ n ∧ n ≤ 65536)) := by show ¬ _; omega
    go_enter Tryd.func23, Tryd.ntmps23
    go_wp2_with fail
    refine bodyPost_ret (v := .tuple #[.pointer none, .int .i64 2]) (by simp [results, Tryd.results23, go_sem]) rfl (show CNewR _ _ _ _ from .inr ⟨HN.out, rfl, Below.refl _ _⟩)
  obtain ⟨m, hm⟩ : ∃ m : Nat, n = (m : Int) := ⟨n.toNat, by omega⟩
  subst hm
  obtain ⟨i0, hi0, hzz⟩ := Option.map_eq_some_iff.1 sec_all
  simp only [Prod.mk.injEq] at hzz
  obtain ⟨hz0, hz1, hz2⟩ := hzz
  have HI := Lib.hid (And.intro hi0 (And.intro hz0 (And.intro hz1 hz2)))
  have HM : Hid (1 ≤ m ∧ m ≤ 65536) := by show _ ∧ _; omega
  clear hi0 hz0 hz1 hz2
  go_enter Tryd.func23, Tryd.ntmps23
  go_wp2_with (first
    | (refine wpList_make_full _ rfl (.tmp 10) (.tmp 10) 81 rfl w.heap.size 77 i0 (.agg (z64.map bv).toArray) 64 Tryd.underlying81 HI.out.1 HI.out.2.1 HI.out.2.2.1 .i64 .i64 _ _ m rfl rfl (by first | rfl | omega | simp) (by first | rfl | omega | simp) (by rw [HI.out.2.2.2]; have := HM.out; omega) (by have := HM.out; unfold maxLen; omega) (Nat.le_refl _) ?_; intro w1 ho1 hg1; have O1 := Lib.hid (And.intro ho1 hg1); clear ho1 hg1)
    | fail)
  have hob := own_whole13 O1.out.1
  rw [made_secs] at hob
  have hb1 : Below w.heap.size w w1 := ⟨O1.out.2.os, O1.out.2.tape, O1.out.2.output, O1.out.2.size, fun k hk => O1.out.2.block k hk (by simp)⟩
  have hlt : w.heap.size < w1.heap.size := (Array.getElem?_eq_some_iff.1 hob).1
  have hm := HM.out
  refine bodyPost_ret (v := .tuple #[.pointer (some ⟨w1.heap.size, 0, none⟩), .int .i64 0]) (by simp [results, Tryd.results23, go_sem]) rfl (show CNewR _ _ _ _ from .inl ⟨by omega, by omega, fun k => k = w.heap.size ∨ k = w1.heap.size, w1.heap.size, rfl, ?_, hb1.alloc hb1.size _⟩)
  refine ⟨hb1.size, .inr rfl, fun s hs => by rw [(List.mem_replicate.1 hs).2]; simp [z64], by simp; omega, by simp; omega, fun x hx => (nomatch hx), fun x hx => (nomatch hx), fun k hk => ?_, w.heap.size, .slice none 0 0, ?_, ?_, .inl rfl, Nat.le_refl _, Nat.ne_of_lt hlt, World.ownsRow_nil _ _ _ 65, fun b hb => (nomatch hb)⟩
  · rcases hk with rfl | rfl
    · exact ⟨Nat.le_refl _, by simp; omega⟩
    · exact ⟨hb1.size, by simp⟩
  · rw [heap_alloc_new w1 _]
    simp
  · rw [Below.heap_alloc _ _ _ hlt, hob]
    have e : (List.replicate (m : Int).toNat z64).flatten = List.replicate (m * 64) 0 := flat_rep m
    rw [e]
section
variable {w : World} {F : Nat → Prop} {B g : Nat} {D : Cd}
/-- A sector's cells. -/
theorem CDk.sec (h : CDk w F B g D) {i : Nat} (hi : i < D.secs.length) : ∃ ga, w.cell? ⟨g, 0, none⟩ = some (.slice (some ⟨ga, 0, none⟩) D.secs.length D.secs.length) ∧ ga < w.heap.size ∧ F ga ∧ ga ≠ g ∧ ∀ j v, (D.secs[i].map bv)[j]? = some v → w.cell? ((⟨ga, i * 64, none⟩ : Addr).add j) = some v := by
  obtain ⟨ga, vw, h1, h2, h3, h4, h5, -⟩ := h.st
  have hl := h.wide _ (List.getElem_mem hi)
  refine ⟨ga, by simp [World.cell?, h1], (h.fit ga h3).2, h3, h5, fun j v hv => ?_⟩
  have hj : j < 64 := by
    have := (List.getElem?_eq_some_iff.1 hv).1
    rw [List.length_map] at this
    omega
  rw [add_mk, cell_of_row w ga _ _ _ _ h2, List.getElem?_toArray, List.getElem?_map, flat_at h.wide hi hj, ← List.getElem?_map]
  exact hv
/-- A write that waits. -/
theorem CDk.wait (h : CDk w F B g D) {i : Nat} (hi : i < D.waits.length) : ∃ gw cap, w.cell? ⟨g, 1, none⟩ = some (.slice (some ⟨gw, 0, none⟩) D.waits.length cap) ∧ gw < w.heap.size ∧ F gw ∧ gw ≠ g ∧ (∀ j v, (wcs D.waits[i])[j]? = some v → w.cell? ((⟨gw, i * 65, none⟩ : Addr).add j) = some v) ∧ ∀ ga N c, w.cell? ⟨g, 0, none⟩ = some (.slice (some ⟨ga, 0, none⟩) N c) → gw ≠ ga := by
  obtain ⟨ga, vw, h1, h2, h3, h4, h5, h6, h7⟩ := h.st
  have hl := h.wid _ (List.getElem_mem hi)
  obtain ⟨hlen, hn | ⟨gw, cap, cur, rfl, hb, hg, hnc, hm, hs, ht⟩⟩ := h6
  · omega
  refine ⟨gw, cap, by simp [World.cell?, h1], (h.fit gw (h7 gw rfl).1).2, (h7 gw rfl).1, (h7 gw rfl).2.1, fun j v hv => ?_, fun ga' N c e => ?_⟩
  · have hj : j < 65 := by
      have := (List.getElem?_eq_some_iff.1 hv).1
      rw [wcs_len hl] at this
      exact this
    rw [add_mk, cell_of_row w gw _ _ _ _ hg, ← Array.getElem?_toList, ← rowW_at h.wid hi hj] at *
    rw [← ht, List.getElem?_take_of_lt (by omega)] at hv
    exact hv
  · have e0 : w.cell? ⟨g, 0, none⟩ = some (.slice (some ⟨ga, 0, none⟩) D.secs.length D.secs.length) := by simp [World.cell?, h1]
    rw [e0] at e
    injection e with e
    injection e with e _ _
    injection e with e
    injection e with e
    rw [← e]; exact (h7 gw rfl).2.2
theorem wcs_zero {x : Nat × List UInt8} (h : ∀ j v, (wcs x)[j]? = some v → w.cell? ((⟨g, B, none⟩ : Addr).add j) = some v) : w.cell? ⟨g, B, none⟩ = some (.int .i64 (x.1 : Int)) := by
  have := h 0 (.int .i64 (x.1 : Int)) rfl
  rw [add_mk] at this
  exact this
theorem wcs_rest {x : Nat × List UInt8} (h : ∀ j v, (wcs x)[j]? = some v → w.cell? ((⟨g, B, none⟩ : Addr).add j) = some v) : ∀ j v, (x.2.map bv)[j]? = some v → w.cell? ((⟨g, B + 1, none⟩ : Addr).add j) = some v := by
  intro j v hv
  have := h (j + 1) v (by unfold wcs; rw [List.getElem?_cons_succ]; exact hv)
  rw [add_mk] at this ⊢
  rw [show B + 1 + j = B + (j + 1) by omega]
  exact this
end
/-- Writes to other sectors do not matter. -/
theorem layW_other (S : List (List UInt8)) (ws : List (Nat × List UInt8)) {i a : Nat} (hi : i < ws.length) (hne : ws[i].1 ≠ a) (h : (layW S (ws.take (i + 1)))[a]? = (layW S ws)[a]?) : (layW S (ws.take i))[a]? = (layW S ws)[a]? := by
  rw [← h, List.take_add_one, List.getElem?_eq_getElem hi]
  show _ = (layW S (ws.take i ++ [ws[i]]))[a]?
  rw [layW_snoc, List.getElem?_set_ne hne]
theorem layW_last (S : List (List UInt8)) (ws : List (Nat × List UInt8)) {i a : Nat} (hi : i < ws.length) (he : ws[i].1 = a) (ha : a < S.length) : (layW S (ws.take (i + 1)))[a]? = some ws[i].2 := by
  rw [List.take_add_one, List.getElem?_eq_getElem hi]
  show (layW S (ws.take i ++ [ws[i]]))[a]? = _
  rw [layW_snoc, ← he, List.getElem?_set_self (by rw [layW_len, he]; exact ha)]
/-- What a sector is answered as. -/
def LateR (D : Cd) (a : Nat) (w : World) (e : Ending) (w' : World) : Prop := (∃ l, (layW D.secs D.waits)[a]? = some l ∧ l.length = 64 ∧ e = .returned (.agg (l.map bv).toArray)) ∧ Below w.heap.size w w'

set_option maxRecDepth 100000 in
set_option maxHeartbeats 4000000 in
theorem clatest_any (w : World) {F : Nat → Prop} {B g : Nat} {D : Cd} (a : Nat) (h : CDk w F B g D) (ha : a < D.secs.length) (hws : D.waits.length ≤ 1000000) :
    Calls Tryd.prog 37 #[.pointer (some ⟨g, 0, none⟩), .int .i64 (a : Int)] w (LateR D a w) := by
  obtain ⟨n, hn⟩ : ∃ n, n = D.waits.length := ⟨_, rfl⟩
  obtain ⟨N, hN⟩ : ∃ N, N = D.secs.length := ⟨_, rfl⟩
  obtain ⟨w1, hw1⟩ : ∃ w1, w1 = w.alloc (.cells (z64.map bv).toArray 77) := ⟨_, rfl⟩
  have hb1 : Below w.heap.size w w1 := by rw [hw1]; exact (Below.refl _ _).alloc (Nat.le_refl _) _
  have h1 := h.below hb1
  have hbox : w1.heap[w.heap.size]? = some (.cells (z64.map bv).toArray 77 (0, 0)) := by rw [hw1]; exact heap_alloc_new w _
  have H1 := Lib.hid h1
  have HB := Lib.hid hb1
  have HX := Lib.hid hbox
  have HN : Hid (n = D.waits.length ∧ N = D.secs.length ∧ a < D.secs.length ∧ n ≤ 1000000) := ⟨hn, hN, ha, by omega⟩
  have HW := Lib.hid hw1
  obtain ⟨ga, vw, ⟨c0, c1, -, -⟩, -⟩ := h1.cells
  obtain ⟨ga2, vw2, s1, -, -, -, -, s6, -⟩ := h1.st
  obtain ⟨A, cap, rfl, -⟩ := len_of_own' s6
  have c1' : w1.cell? ⟨g, 1, none⟩ = some (.slice A n cap) := by rw [hn]; simp [World.cell?, s1]
  rw [← hN] at c0
  have hwn : wrap64 ((n : Int) - 1) = (n : Int) - 1 := by unfold wrap64; omega
  have hwn2 : IntKind.i64.wrap ((n : Int) - 1) = (n : Int) - 1 := by rw [IntKind.wrap_i64]; omega
  have ta : (a : Int) < (N : Int) := by omega
  have ta0 : (0 : Int) ≤ (a : Int) := by omega
  clear hn hN hb1 h1 hbox h ha hws c1 s1 s6 hw1
  go_enter Tryd.func37, Tryd.ntmps37
  go_wp2_with (first
    | (refine wpList_allocN13 rfl 77 rfl _ sec_zero ?_; rw [← HW.out])
    | fail)
  go_loopw [5] (fun k wr => ∃ i : Nat, i ≤ n ∧ k = .int .i64 ((i : Int) - 1) ∧ wr = w1 ∧ Hid ((layW D.secs (D.waits.take i))[a]? = (layW D.secs D.waits)[a]?)) (fun k _ => (intOf k + 1).toNat)
  case atStart => exact ⟨n, Nat.le_refl _, rfl, rfl, by show _ = _; rw [List.take_of_length_le (by rw [← HN.out.1]; exact Nat.le_refl _)]⟩
  case round =>
    obtain ⟨i, hi, rfl, rfl, hl⟩ := hrel
    cases i with
    | zero =>
      obtain ⟨ga3, k0, hga, -, -, hsrc⟩ := H1.out.sec HN.out.2.2.1
      rw [← HN.out.2.1, c0] at k0
      injection k0 with k0
      injection k0 with k0 _ _
      injection k0 with k0
      injection k0 with k0
      subst k0
      have hsl := H1.out.wide _ (List.getElem_mem HN.out.2.2.1)
      have hll : (layW D.secs D.waits)[a]? = some (D.secs[a]'HN.out.2.2.1) := by
        have h := hl.out
        rw [List.take_zero, layW_nil, List.getElem?_eq_getElem HN.out.2.2.1] at h
        exact h.symm
      obtain ⟨l, hle⟩ : ∃ l, l = D.secs[a]'HN.out.2.2.1 := ⟨_, rfl⟩
      rw [← hle] at hsrc hsl hll
      have HS := Lib.hid (And.intro hsrc hsl)
      have HL := Lib.hid hll
      clear hsrc hsl hl hll hle
      go_wp2_with (first
        | (refine wpList_ldN rfl 77 (.tmp 39) rfl ⟨ga, a * 64, none⟩ rfl _ (run_ldN Tryd.underlying77 rfl (by rw [List.length_map, HS.out.2]; exact sec_info) HS.out.1) ?_)
        | (refine wpList_stRow13 rfl 77 (.tmp 4) (.tmp 40) rfl w.heap.size _ rfl rfl 77 _ HX.out (by rw [List.size_toArray, List.length_map, HS.out.2]; exact sec_info) (by rw [List.size_toArray, List.length_map, List.size_toArray, List.length_map, HS.out.2]; rfl) (fun u hu => bv_one _ u (by simpa using hu)) ?_; intro w6 r6 o6 b6 z6; have R6 := Lib.hid r6; have B6 := Lib.hid b6; clear r6 o6 b6 z6)
        | fail)
      refine bodyPost_ret (v := .agg (l.map bv).toArray) (results_cell_row (p := 4) (ty := 77) rfl _ _ w.heap.size 77 _ (0, 0) _ rfl R6.out Tryd.underlying77 rfl (by rw [List.size_toArray, List.length_map, HS.out.2]; exact sec_info)) rfl ?_
      exact (show LateR _ _ _ _ _ from ⟨⟨l, HL.out, HS.out.2, rfl⟩, B6.out _ _ HB.out (Nat.le_refl _)⟩)
    | succ i =>
      have hiw : i < D.waits.length := by rw [← HN.out.1]; exact hi
      obtain ⟨gw, cap2, k1, hgw, -, -, hsrc, -⟩ := H1.out.wait hiw
      rw [← HN.out.1, c1'] at k1
      injection k1 with k1
      injection k1 with k1 _ k2
      subst k1 k2
      have i0 : (0 : Int) ≤ (i : Int) := by omega
      have tn : (i : Int) < (n : Int) := by omega
      have hsl := H1.out.wid _ (List.getElem_mem hiw)
      have k2 : wr.cell? ⟨gw, i * 65, none⟩ = some (.int .i64 ((D.waits[i]'hiw).1 : Int)) := wcs_zero hsrc
      have h3 := wcs_rest hsrc
      have HIW := Lib.hid hiw
      obtain ⟨q, hq⟩ : ∃ q, q = (D.waits[i]'hiw).1 := ⟨_, rfl⟩
      obtain ⟨l, hle⟩ : ∃ l, l = (D.waits[i]'hiw).2 := ⟨_, rfl⟩
      rw [← hq] at k2
      rw [← hle] at h3 hsl
      have HS := Lib.hid (And.intro h3 hsl)
      have HQ : Hid (q = (D.waits[i]'HIW.out).1 ∧ l = (D.waits[i]'HIW.out).2) := ⟨hq, hle⟩
      clear hsrc hsl h3 hq hle hiw
      rw [show ((i + 1 : Nat) : Int) - 1 = (i : Int) by omega]
      by_cases he : q = a
      · have hbe : ((q : Int) == (a : Int)) = true := by simp [he]
        have HL : Hid ((layW D.secs D.waits)[a]? = some l) := by
          have h := hl.out
          rw [layW_last _ _ HIW.out (HQ.out.1 ▸ he) HN.out.2.2.1, ← HQ.out.2] at h
          exact h.symm
        clear he hl hi
        go_wp2_with (first
          | (refine wpList_ldN rfl 77 (.tmp 32) rfl ⟨gw, i * 65 + 1, none⟩ rfl _ (run_ldN Tryd.underlying77 rfl (by rw [List.length_map, HS.out.2]; exact sec_info) HS.out.1) ?_)
          | (refine wpList_stRow13 rfl 77 (.tmp 4) (.tmp 33) rfl w.heap.size _ rfl rfl 77 _ HX.out (by rw [List.size_toArray, List.length_map, HS.out.2]; exact sec_info) (by rw [List.size_toArray, List.length_map, List.size_toArray, List.length_map, HS.out.2]; rfl) (fun u hu => bv_one _ u (by simpa using hu)) ?_; intro w6 r6 o6 b6 z6; have R6 := Lib.hid r6; have B6 := Lib.hid b6; clear r6 o6 b6 z6)
          | fail)
        refine bodyPost_ret (v := .agg (l.map bv).toArray) (results_cell_row (p := 4) (ty := 77) rfl _ _ w.heap.size 77 _ (0, 0) _ rfl R6.out Tryd.underlying77 rfl (by rw [List.size_toArray, List.length_map, HS.out.2]; exact sec_info)) rfl ?_
        exact (show LateR _ _ _ _ _ from ⟨⟨l, HL.out, HS.out.2, rfl⟩, B6.out _ _ HB.out (Nat.le_refl _)⟩)
      · have hbe : ((q : Int) == (a : Int)) = false := by simp; omega
        have HL : Hid ((layW D.secs (D.waits.take i))[a]? = (layW D.secs D.waits)[a]?) := layW_other _ _ HIW.out (fun e => he (HQ.out.1.trans e)) hl.out
        have hwi : wrap64 ((i : Int) - 1) = (i : Int) - 1 := by unfold wrap64; have := HN.out.2.2.2; omega
        have hwi2 : IntKind.i64.wrap ((i : Int) - 1) = (i : Int) - 1 := by rw [IntKind.wrap_i64]; have := HN.out.2.2.2; omega
        clear he hl
        go_wp2_with fail
        go_roundw
        case rel => exact ⟨i, by omega, by simp, by simp, HL⟩
        case measure => simp [intOf]
end Go.Proofs.YtahgaogmcffglaaDoor
