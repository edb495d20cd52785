/- Text and Array of layer 3's reference, read in no block below lo; boxes of an item stored and loaded whole. (Made by gen/RfC.py.) -/
import Derived.Test.YtanbjifdcplmnaaGreatDoorTBunT
import Derived.Test.YtanbjifdcplmnaaGreatDoorTCfBlockTells
import Derived.Test.YtanbjifdcplmnaaGreatDoorTKCheck
import Derived.Test.YtanbjifdcplmnaaGreatDoorTShaE
namespace Go.Proofs.YtanbjifdcplmnaaGreatDoor
open Go.RowKit

theorem mask_same {S : Nat → Bool} {w w' : World} {p : Addr} (h : w'.heap[p.block]? = w.heap[p.block]?) : (mask S w').cell? p = (mask S w).cell? p := by
  apply World.cell?_of_block
  unfold mask
  simp only [Array.getElem?_mapIdx, h]

set_option maxRecDepth 100000 in
set_option maxHeartbeats 1000000 in
theorem rtextL_any (lo : Nat) (s : ByteArray) (w : World) (hlo : lo ≤ w.heap.size) (hs : s.size ≤ 140737488355328) :
    Calls Tryz.prog 42 #[.string s] w (GivesL lo (.mk 3 0 s.data.toList []) w) := by
  obtain ⟨c, W', hrun, hrd, hc, hb, hz⟩ := conv_bytes (w.alloc (.cells #[.int .i64 0, .int .u64 0, .slice none 0 0, .slice none 0 0] 37)) s
  have hz1 : (w.alloc (.cells #[.int .i64 0, .int .u64 0, .slice none 0 0, .slice none 0 0] 37)).heap.size = w.heap.size + 1 := by simp
  rw [hz1] at hrun hrd hb hz
  obtain ⟨⟨z0, z1, z2, z3⟩, f0, f1, f2, f3⟩ := zero_cells hb
  have HRD := Lib.hid hrd
  have HB := Lib.hid hb
  have HZ := Lib.hid hz
  have HS := Lib.hid hs
  have HLO := Lib.hid hlo
  clear hrd hb hz hz1 hs hlo
  go_enter Tryz.func42, Tryz.ntmps42
  go_wp2_with fail
  have hsz4 : ((((W'.setCell ⟨w.heap.size, 0, none⟩ (.int .i64 3)).setCell ⟨w.heap.size, 1, none⟩ (.int .u64 0)).setCell ⟨w.heap.size, 2, none⟩ (.slice (some ⟨w.heap.size + 1, 0, none⟩) s.size c)).setCell ⟨w.heap.size, 3, none⟩ (.slice none 0 0)).heap.size = W'.heap.size := by simp [World.setCell]
  refine bodyPost_ret (v := .agg #[.int .i64 3, .int .u64 0, .slice (some ⟨w.heap.size + 1, 0, none⟩) s.size c, .slice none 0 0]) (by simp [results, Tryz.results42, go_sem, z0, z1, z2, z3]) rfl ⟨_, rfl, RdI.mk_data (by decide) hc HS.out (Rd.mask_one ?_ (Nat.le_trans HLO.out (Nat.le_succ _))), ?_⟩
  · rw [hsz4, HZ.out]
    exact HRD.out.set4 (fun _ b o h => (by cases h; omega))
  · exact below_set4 (((Below.refl _ _).alloc (Nat.le_refl _) _).trans (HB.out.mono (Nat.le_succ _))) (Nat.le_refl _)

set_option maxRecDepth 100000 in
set_option maxHeartbeats 2000000 in
theorem rarrayL_any (lo b o n c B : Nat) (l : List Itm) (w : World) (hB : B ≤ w.heap.size) (hb : b < B) (h : RdIs (mask (lows lo) w) B b o l) (hlo : lo ≤ w.heap.size) (hl : l.length = n) (h0 : 0 < n) (hn : n ≤ 1000000) (_hc : n ≤ c) :
    Calls Tryz.prog 20 #[.slice (some ⟨b, o, none⟩) n c] w (GivesL lo (.mk 4 0 [] l) w) := by
  obtain ⟨i0, hi0, hz0, hz1, hz2⟩ := info_parts info_item
  obtain ⟨cs, n1, n2, n3, n4⟩ := h.news
  rw [hl] at n1
  have bs : b < w.heap.size := by omega
  have N2 : Hid (∀ j u, cs[j]? = some u → ((w.alloc (.cells #[.int .i64 0, .int .u64 0, .slice none 0 0, .slice none 0 0] 37)).alloc (.cells #[] 37)).cell? ((⟨b, o, none⟩ : Addr).add j) = some u) := by
    intro j u hj
    have e : (⟨b, o, none⟩ : Addr).add j = ⟨b, o + j, none⟩ := by unfold Addr.add; split <;> simp_all
    rw [e, World.cell?_alloc_lt _ _ _ (Nat.lt_of_lt_of_le bs (le_alloc _ _)), World.cell?_alloc_lt _ _ _ bs]
    exact mask_sub (n2 j u hj)
  have HO := Lib.hid (show ((w.alloc (.cells #[.int .i64 0, .int .u64 0, .slice none 0 0, .slice none 0 0] 37)).alloc (.cells #[] 37)).ownsRow (w.heap.size + 1) 37 4 (.slice (some ⟨w.heap.size + 1, 0, none⟩) 0 0) 0 [] by
    have h := World.ownsRow_lit (base := w.heap.size + 1) (e := 37) (size := 4) (w.alloc (.cells #[.int .i64 0, .int .u64 0, .slice none 0 0, .slice none 0 0] 37)) #[] 0 (by simp) (by decide) rfl
    simpa using h)
  have HLO := Lib.hid hlo
  have N1 := Lib.hid n1
  have N3 := Lib.hid n3
  have N4 := Lib.hid n4
  have HL := Lib.hid hl
  have HBB := Lib.hid hB
  have H0 := Lib.hid h0
  have HN := Lib.hid hn
  have HI := Lib.hid hi0
  have HZ0 := Lib.hid hz0
  have HZ1 := Lib.hid hz1
  have HZ2 := Lib.hid hz2
  clear hlo n1 n2 n3 n4 h hl hB hb bs hi0 hz0 hz1 hz2 h0 hn
  go_enter Tryz.func20, Tryz.ntmps20
  go_wp2_with (first
    | (at_builtin; refine wpList_append_lies _ rfl (.tmp 3) (.tmp 4) 35 rfl (w.heap.size + 1) 37 i0 _ 4 64 Tryz.underlying35 HI.out HZ0.out HZ1.out HZ2.out rfl (by decide) _ 0 [] rfl HO.out ⟨b, o, none⟩ n c cs rfl N1.out N2.out N3.out H0.out (by have := HN.out; unfold maxLen; omega) (by have := HN.out; omega) (by simp) _ rfl ?_; intro g cap w1 ho1 hg1 hat hlt; have B1 := Lib.hid (((Below.refl (w.heap.size + 1) (w.alloc (.cells #[.int .i64 0, .int .u64 0, .slice none 0 0, .slice none 0 0] 37))).alloc (by simp) _).grown hg1 (by simp) (fun k hk => by cases hk; exact Nat.le_refl _)); obtain ⟨⟨z0, z1, z2, z3⟩, f0, f1, f2, f3⟩ := zero_cells B1.out; have O1 := Lib.hid ho1; have HLT := Lib.hid hlt; clear ho1 hg1 hat hlt)
    | fail)
  have ho := O1.out
  rw [Nat.zero_add, List.nil_append] at ho
  have hg := (ho.lt g rfl).1
  have hcap : n ≤ cap := by
    rcases ho.2 with ⟨hv, _⟩ | ⟨g', cap', cur, hv, _, _, hnc, _⟩
    · cases hv
    · injection hv with _ _ h3
      omega
  refine bodyPost_ret (v := .agg #[.int .i64 4, .int .u64 0, .slice none 0 0, .slice (some ⟨g, 0, none⟩) n cap]) (by simp [results, Tryz.results20, go_sem, z0, z1, z2, z3]) rfl ⟨_, rfl, RdI.mk_list (by decide) hcap (by have := HN.out; omega) HL.out (by have := HLT.out; simpa [World.setCell] using this) (N4.out _ _ g 0 ?_ ?_ ?_), ?_⟩
  · intro j u hj
    have hjn : j < n * 4 := by
      rw [← N1.out]
      rcases Nat.lt_or_ge j cs.length with h | h
      · exact h
      · rw [List.getElem?_eq_none h] at hj; cases hj
    rw [mask_cell (lows_f.2 (show lo ≤ g by have := HLO.out; omega)), Nat.zero_add, World.cell?_setCell_far _ _ _ _ (by show w.heap.size ≠ g; omega), World.cell?_setCell_far _ _ _ _ (by show w.heap.size ≠ g; omega), World.cell?_setCell_far _ _ _ _ (by show w.heap.size ≠ g; omega), World.cell?_setCell_far _ _ _ _ (by show w.heap.size ≠ g; omega), ho.cellAt j hjn]
    exact hj
  · intro p hp
    have hp' : p.block < w.heap.size := Nat.lt_of_lt_of_le hp HBB.out
    exact mask_same ((below_set4 (((Below.refl _ _).alloc (Nat.le_refl _) _).trans (B1.out.mono (Nat.le_succ _))) (Nat.le_refl _)).block _ hp')
  · have := HBB.out
    have h2 := B1.out.size
    simp [World.setCell] at h2 ⊢
    omega
  · exact below_set4 (((Below.refl _ _).alloc (Nat.le_refl _) _).trans (B1.out.mono (Nat.le_succ _))) (Nat.le_refl _)

set_option maxRecDepth 100000 in
set_option maxHeartbeats 2000000 in
theorem rarrayC_any (b o n c : Nat) (cs : List Value) (w : World) (bs : b < w.heap.size) (n1 : cs.length = n * 4) (n2 : ∀ j u, cs[j]? = some u → w.cell? ⟨b, o + j, none⟩ = some u) (n3 : ∀ u ∈ cs, u.oneCell' = true) (h0 : 0 < n) (hn : n ≤ 1000000) :
    Calls Tryz.prog 20 #[.slice (some ⟨b, o, none⟩) n c] w fun e w' => ∃ g cap, e = .returned (.agg #[.int .i64 4, .int .u64 0, .slice none 0 0, .slice (some ⟨g, 0, none⟩) n cap]) ∧ w.heap.size < g ∧ g < w'.heap.size ∧ n ≤ cap ∧ (∀ j u, cs[j]? = some u → w'.cell? ⟨g, j, none⟩ = some u) ∧ Below w.heap.size w w' := by
  obtain ⟨i0, hi0, hz0, hz1, hz2⟩ := info_parts info_item
  have N2 : Hid (∀ j u, cs[j]? = some u → ((w.alloc (.cells #[.int .i64 0, .int .u64 0, .slice none 0 0, .slice none 0 0] 37)).alloc (.cells #[] 37)).cell? ((⟨b, o, none⟩ : Addr).add j) = some u) := by
    intro j u hj
    have e : (⟨b, o, none⟩ : Addr).add j = ⟨b, o + j, none⟩ := by unfold Addr.add; split <;> simp_all
    rw [e, World.cell?_alloc_lt _ _ _ (Nat.lt_of_lt_of_le bs (le_alloc _ _)), World.cell?_alloc_lt _ _ _ bs]
    exact n2 j u hj
  have HO := Lib.hid (show ((w.alloc (.cells #[.int .i64 0, .int .u64 0, .slice none 0 0, .slice none 0 0] 37)).alloc (.cells #[] 37)).ownsRow (w.heap.size + 1) 37 4 (.slice (some ⟨w.heap.size + 1, 0, none⟩) 0 0) 0 [] by
    have h := World.ownsRow_lit (base := w.heap.size + 1) (e := 37) (size := 4) (w.alloc (.cells #[.int .i64 0, .int .u64 0, .slice none 0 0, .slice none 0 0] 37)) #[] 0 (by simp) (by decide) rfl
    simpa using h)
  have N1 := Lib.hid n1
  have N3 := Lib.hid n3
  have H0 := Lib.hid h0
  have HN := Lib.hid hn
  have HI := Lib.hid hi0
  have HZ0 := Lib.hid hz0
  have HZ1 := Lib.hid hz1
  have HZ2 := Lib.hid hz2
  clear n1 n2 n3 bs hi0 hz0 hz1 hz2 h0 hn
  go_enter Tryz.func20, Tryz.ntmps20
  go_wp2_with (first
    | (at_builtin; refine wpList_append_lies _ rfl (.tmp 3) (.tmp 4) 35 rfl (w.heap.size + 1) 37 i0 _ 4 64 Tryz.underlying35 HI.out HZ0.out HZ1.out HZ2.out rfl (by decide) _ 0 [] rfl HO.out ⟨b, o, none⟩ n c cs rfl N1.out N2.out N3.out H0.out (by have := HN.out; unfold maxLen; omega) (by have := HN.out; omega) (by simp) _ rfl ?_; intro g cap w1 ho1 hg1 hat hlt; have B1 := Lib.hid (((Below.refl (w.heap.size + 1) (w.alloc (.cells #[.int .i64 0, .int .u64 0, .slice none 0 0, .slice none 0 0] 37))).alloc (by simp) _).grown hg1 (by simp) (fun k hk => by cases hk; exact Nat.le_refl _)); obtain ⟨⟨z0, z1, z2, z3⟩, f0, f1, f2, f3⟩ := zero_cells B1.out; have O1 := Lib.hid ho1; have HLT := Lib.hid hlt; clear ho1 hg1 hat hlt)
    | fail)
  have ho := O1.out
  rw [Nat.zero_add, List.nil_append] at ho
  have hg := (ho.lt g rfl).1
  have hcap : n ≤ cap := by
    rcases ho.2 with ⟨hv, _⟩ | ⟨g', cap', cur, hv, _, _, hnc, _⟩
    · cases hv
    · injection hv with _ _ h3
      omega
  refine bodyPost_ret (v := .agg #[.int .i64 4, .int .u64 0, .slice none 0 0, .slice (some ⟨g, 0, none⟩) n cap]) (by simp [results, Tryz.results20, go_sem, z0, z1, z2, z3]) rfl ⟨g, cap, rfl, hg, by have := HLT.out; simpa [World.setCell] using this, hcap, ?_, ?_⟩
  · intro j u hj
    have hjn : j < n * 4 := by
      rw [← N1.out]
      rcases Nat.lt_or_ge j cs.length with h | h
      · exact h
      · rw [List.getElem?_eq_none h] at hj; cases hj
    rw [World.cell?_setCell_far _ _ _ _ (by show w.heap.size ≠ g; omega), World.cell?_setCell_far _ _ _ _ (by show w.heap.size ≠ g; omega), World.cell?_setCell_far _ _ _ _ (by show w.heap.size ≠ g; omega), World.cell?_setCell_far _ _ _ _ (by show w.heap.size ≠ g; omega), ho.cellAt j hjn]
    exact hj
  · exact below_set4 (((Below.refl _ _).alloc (Nat.le_refl _) _).trans (B1.out.mono (Nat.le_succ _))) (Nat.le_refl _)

theorem size_it : (Tryz.prog.info? 37).map (·.size) = some 4 := by kernel_rfl
set_option maxRecDepth 100000 in
theorem load4 {W : World} {g : Nat} {vs : Array Value} {t : TypeId} (hg : W.heap[g]? = some (.cells vs t (0, 0))) (hs : vs.size = 4) : (loadVar 37 ⟨g, 0, none⟩).run Tryz.prog W = .ok (.agg vs) W :=
  run_loadVar_row W g t 37 vs (0, 0) _ hg Tryz.underlying37 rfl (by rw [hs]; exact size_it)
theorem exec_ld4 {ev : Operand → Value} {o : Oper} {x : Operand} (ho : o.op = .load 37 x) {g : Nat} {cs : Array Value} {t : TypeId} (hx : ev x = .pointer (some ⟨g, 0, none⟩)) {W : World} (hg : W.heap[g]? = some (.cells cs t (0, 0))) (hs : cs.size = 4) :
    (execOp ev o).run Tryz.prog W = .ok (.value (.agg cs)) W := by
  unfold execOp
  simp only [ho, hx, Instr.loadAt, Instr.sureAddr, Sem.run_bind, Sem.run_pure, Result.andThen_ok, load4 hg hs]
theorem wpList_ld4 {w : World} {ops : Array Oper} {rest : List Oper} {o : Oper} {a : Act} {Q : Exit → Act → World → Prop} (hgd : o.guard = none) (x : Operand) (ho : o.op = .load 37 x)
    (g : Nat) (hx : a.eval x = .pointer (some ⟨g, 0, none⟩)) (t : TypeId) (cs : Array Value) (hg : w.heap[g]? = some (.cells cs t (0, 0))) (hs : cs.size = 4) (h : wpList Tryz.prog ops Q rest (a.put o.dst (.agg cs)) w) : wpList Tryz.prog ops Q (o :: rest) a w :=
  wpList_load_row hgd 37 x ho g hx t cs (0, 0) _ hg Tryz.underlying37 rfl (by rw [hs]; exact size_it) h
/-- What holds behind a store over a whole box. -/
def St4 (g : Nat) (t : TypeId) (vs : Array Value) (w W' : World) : Prop := W'.heap[g]? = some (.cells vs t (0, 0)) ∧ (∀ (B : Nat) (w0 : World), Below B w0 w → B ≤ g → Below B w0 W') ∧ W'.heap.size = w.heap.size ∧ ∀ j, j ≠ g → W'.heap[j]? = w.heap[j]?
theorem wpList_st4 {P : Program} {w : World} {ops : Array Oper} {rest : List Oper} {o : Oper} {a : Act} {Q : Exit → Act → World → Prop} (hgd : o.guard = none) (ty : TypeId) (x y : Operand) (ho : o.op = .store ty x y)
    (g : Nat) (v0 v1 v2 v3 : Value) (hx : a.eval x = .pointer (some ⟨g, 0, none⟩)) (hy : a.eval y = .agg #[v0, v1, v2, v3]) (t : TypeId) (old : Array Value) (hg : w.heap[g]? = some (.cells old t (0, 0)))
    (hi : (P.info? ty).map (·.size) = some 4) (hold : old.size = 4) (h1 : ([v0, v1, v2, v3] : List Value).all (·.oneCell') = true)
    (h : ∀ W', St4 g t #[v0, v1, v2, v3] w W' → wpList P ops Q rest (a.put o.dst undef) W') :
    wpList P ops Q (o :: rest) a w :=
  wpList_store_row hgd ty x y ho g #[v0, v1, v2, v3] hx hy t old hg hi hold (Array.all_eq_true_iff_forall_mem.2 fun v hv => List.all_eq_true.1 h1 v (by simpa using hv))
    (h _ ⟨setRow_heap w g old _ t _ hg, fun B w0 hb hB => below_setRow hb hB _, setRow_size w g _, fun j hj => setRow_other w g j _ hj⟩)
theorem step_st4 {P : Program} {w : World} {ops : Array Oper} {o : Oper} {a : Act} {K : Act → World → Prop} {Q : Exit → Act → World → Prop} {E : Prop} (hgd : o.guard = none) (ty : TypeId) (x y : Operand) (ho : o.op = .store ty x y)
    (g : Nat) (v0 v1 v2 v3 : Value) (hx : a.eval x = .pointer (some ⟨g, 0, none⟩)) (hy : a.eval y = .agg #[v0, v1, v2, v3]) (t : TypeId) (old : Array Value) (hg : w.heap[g]? = some (.cells old t (0, 0)))
    (hi : (P.info? ty).map (·.size) = some 4) (hold : old.size = 4) (h1 : ([v0, v1, v2, v3] : List Value).all (·.oneCell') = true)
    (h : ∀ W', St4 g t #[v0, v1, v2, v3] w W' → K (a.put o.dst undef) W') :
    if Region.wanted o (yielded ops a.tmps) = true then Oper.wp P o a w K Q else E := by
  have hw : Region.wanted o (yielded ops a.tmps) = true := by simp [Region.wanted, hgd]
  rw [if_pos hw]
  exact wp_store_row ty x y ho g #[v0, v1, v2, v3] hx hy t old hg hi hold (Array.all_eq_true_iff_forall_mem.2 fun v hv => List.all_eq_true.1 h1 v (by simpa using hv))
    (h _ ⟨setRow_heap w g old _ t _ hg, fun B w0 hb hB => below_setRow hb hB _, setRow_size w g _, fun j hj => setRow_other w g j _ hj⟩)
/-- What a function returns: an item that lies in a box, and one value more. -/
theorem res_it {fn : Func} {p u : Tmp} (h : fn.results = #[.cell p 37, .tmp u]) (tmps : Array Value) (W : World) {g : Nat} {vs : Array Value} {t : TypeId} (hp : tmps.getD p undef = .pointer (some ⟨g, 0, none⟩))
    (hg : W.heap[g]? = some (.cells vs t (0, 0))) (hs : vs.size = 4) : (results fn tmps).run Tryz.prog W = .ok (.tuple #[.agg vs, tmps.getD u undef]) W := by
  rw [results_cell_tmp h, hp]
  simp only [asAddr, Sem.run_pure, Result.andThen, load4 hg hs]
/-- Cells of items laid into a new row. -/
theorem ItL.row {lo : Nat} {W : World} {cs : List Value} {xs : List Itm} {t : TypeId} (hlo : lo ≤ W.heap.size) (h : ItC (mask (lows lo) W) W.heap.size cs xs) :
    RdIs (mask (lows lo) (W.alloc (.cells cs.toArray t))) (W.alloc (.cells cs.toArray t)).heap.size W.heap.size 0 xs := RdIs.more (by simp) (ItC.row hlo h)
theorem RdI.maskup {lo lo' : Nat} {w w' : World} {v : Value} {x : Itm} (h : RdI (mask (lows lo) w) w.heap.size v x) (hl : lo' ≤ lo) (hb : ∀ j, lo ≤ j → j < w.heap.size → w'.heap[j]? = w.heap[j]?) (hs : w.heap.size ≤ w'.heap.size) : RdI (mask (lows lo') w') w'.heap.size v x :=
  h.mask_go hs (fun k hk hf => hb k (lows_f.1 hf) hk) (fun _ _ hf => lows_f.2 (Nat.le_trans hl (lows_f.1 hf)))
theorem one4' (k : Int) (n : Nat) (A : Option Addr) (nd cd : Nat) (AL : Option Addr) (nl cl : Nat) : ([.int .i64 k, .int .u64 (n : Int), .slice A nd cd, .slice AL nl cl] : List Value).all (·.oneCell') = true := rfl
end Go.Proofs.YtanbjifdcplmnaaGreatDoor
