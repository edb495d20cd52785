/- A bundle stored whole: the 18 cells of a box laid anew at once. (Made by gen/bun.py.) -/
import Derived.Test.YtlecbblmaadpiaaGreatDoorJBunS
import Derived.Test.YtlecbblmaadpiaaGreatDoorJKRd
import Derived.Test.YtlecbblmaadpiaaGreatDoorJKRdE
import Derived.Deep.WholeRow
import Derived.Laws.CopyOwn
import Derived.Laws.ResultCell
import Derived.Deep.RegionHeld3
namespace Go.Proofs.YtlecbblmaadpiaaGreatDoor
open Go.RowKit
theorem info_bun : (Tryz.prog.info? 73).map (·.size) = some 18 := by kernel_rfl
theorem wpList_st18 {P : Program} {w : World} {ops : Array Oper} {rest : List Oper} {o : Oper} {a : Act} {Q : Exit → Act → World → Prop} (hgd : o.guard = none) (ty : TypeId) (x y : Operand) (ho : o.op = .store ty x y)
    (g : Nat) {v0 : Value} {v1 : Value} {v2 : Value} {v3 : Value} {v4 : Value} {v5 : Value} {v6 : Value} {v7 : Value} {v8 : Value} {v9 : Value} {v10 : Value} {v11 : Value} {v12 : Value} {v13 : Value} {v14 : Value} {v15 : Value} {v16 : Value} {v17 : Value} (hx : a.eval x = .pointer (some ⟨g, 0, none⟩)) (hy : a.eval y = .agg #[v0, v1, v2, v3, v4, v5, v6, v7, v8, v9, v10, v11, v12, v13, v14, v15, v16, v17]) (t : TypeId) (old : Array Value) (hg : w.heap[g]? = some (.cells old t (0, 0)))
    (hi : (P.info? ty).map (·.size) = some 18) (hold : old.size = 18) (h1 : ([v0, v1, v2, v3, v4, v5, v6, v7, v8, v9, v10, v11, v12, v13, v14, v15, v16, v17] : List Value).all (·.oneCell') = true)
    (h : ∀ W', W'.heap[g]? = some (.cells #[v0, v1, v2, v3, v4, v5, v6, v7, v8, v9, v10, v11, v12, v13, v14, v15, v16, v17] t (0, 0)) → (W'.cell? ⟨g, 0, none⟩ = some v0 ∧ W'.cell? ⟨g, 1, none⟩ = some v1 ∧ W'.cell? ⟨g, 2, none⟩ = some v2 ∧ W'.cell? ⟨g, 3, none⟩ = some v3 ∧ W'.cell? ⟨g, 4, none⟩ = some v4 ∧ W'.cell? ⟨g, 5, none⟩ = some v5 ∧ W'.cell? ⟨g, 6, none⟩ = some v6 ∧ W'.cell? ⟨g, 7, none⟩ = some v7 ∧ W'.cell? ⟨g, 8, none⟩ = some v8 ∧ W'.cell? ⟨g, 9, none⟩ = some v9 ∧ W'.cell? ⟨g, 10, none⟩ = some v10 ∧ W'.cell? ⟨g, 11, none⟩ = some v11 ∧ W'.cell? ⟨g, 12, none⟩ = some v12 ∧ W'.cell? ⟨g, 13, none⟩ = some v13 ∧ W'.cell? ⟨g, 14, none⟩ = some v14 ∧ W'.cell? ⟨g, 15, none⟩ = some v15 ∧ W'.cell? ⟨g, 16, none⟩ = some v16 ∧ W'.cell? ⟨g, 17, none⟩ = some v17) → (∀ p : Addr, p.block ≠ g → W'.cell? p = w.cell? p) → (∀ (B : Nat) (w0 : World), Below B w0 w → B ≤ g → Below B w0 W') → W'.heap.size = w.heap.size → wpList P ops Q rest (a.put o.dst undef) W') :
    wpList P ops Q (o :: rest) a w := by
  have hrow : (w.setRow g #[v0, v1, v2, v3, v4, v5, v6, v7, v8, v9, v10, v11, v12, v13, v14, v15, v16, v17]).heap[g]? = some (.cells #[v0, v1, v2, v3, v4, v5, v6, v7, v8, v9, v10, v11, v12, v13, v14, v15, v16, v17] t (0, 0)) := setRow_heap w g old _ t _ hg
  have hc : ∀ j v, (#[v0, v1, v2, v3, v4, v5, v6, v7, v8, v9, v10, v11, v12, v13, v14, v15, v16, v17] : Array Value)[j]? = some v → (w.setRow g #[v0, v1, v2, v3, v4, v5, v6, v7, v8, v9, v10, v11, v12, v13, v14, v15, v16, v17]).cell? ⟨g, j, none⟩ = some v := fun j v hj => by
    unfold World.cell?
    rw [hrow]
    simpa using hj
  exact wpList_store_row hgd ty x y ho g #[v0, v1, v2, v3, v4, v5, v6, v7, v8, v9, v10, v11, v12, v13, v14, v15, v16, v17] hx hy t old hg hi hold (Array.all_eq_true_iff_forall_mem.2 fun v hv => List.all_eq_true.1 h1 v (by simpa using hv))
    (h _ hrow ⟨hc 0 _ rfl, hc 1 _ rfl, hc 2 _ rfl, hc 3 _ rfl, hc 4 _ rfl, hc 5 _ rfl, hc 6 _ rfl, hc 7 _ rfl, hc 8 _ rfl, hc 9 _ rfl, hc 10 _ rfl, hc 11 _ rfl, hc 12 _ rfl, hc 13 _ rfl, hc 14 _ rfl, hc 15 _ rfl, hc 16 _ rfl, hc 17 _ rfl⟩ (fun p hp => cell_setRow_other w g _ p hp) (fun B w0 hb hB => below_setRow hb hB _) (setRow_size w g _))
set_option maxRecDepth 100000 in
theorem load18 {W : World} {g : Nat} {vs : Array Value} {t : TypeId} (hg : W.heap[g]? = some (.cells vs t (0, 0))) (hs : vs.size = 18) : (loadVar 73 ⟨g, 0, none⟩).run Tryz.prog W = .ok (.agg vs) W :=
  run_loadVar_row W g t 73 vs (0, 0) _ hg Tryz.underlying73 rfl (by rw [hs]; exact info_bun)
set_option maxRecDepth 100000 in
theorem res_bt {fn : Func} {p u : Tmp} (h : fn.results = #[.cell p 73, .tmp u]) (tmps : Array Value) (W : World) {g : Nat} {vs : Array Value} {t : TypeId} (hp : tmps.getD p undef = .pointer (some ⟨g, 0, none⟩))
    (hg : W.heap[g]? = some (.cells vs t (0, 0))) (hs : vs.size = 18) : (results fn tmps).run Tryz.prog W = .ok (.tuple #[.agg vs, tmps.getD u undef]) W := by
  rw [results_cell_tmp h, hp]
  simp only [asAddr, Sem.run_pure, Result.andThen, load18 hg hs]
set_option maxRecDepth 100000 in
theorem res_b {fn : Func} {p : Tmp} (h : fn.results = #[.cell p 73]) (tmps : Array Value) (W : World) {g : Nat} {vs : Array Value} {t : TypeId} (hp : tmps.getD p undef = .pointer (some ⟨g, 0, none⟩))
    (hg : W.heap[g]? = some (.cells vs t (0, 0))) (hs : vs.size = 18) : (results fn tmps).run Tryz.prog W = .ok (.agg vs) W :=
  results_cell_row h tmps W g t vs (0, 0) _ hp hg Tryz.underlying73 rfl (by rw [hs]; exact info_bun)
set_option maxRecDepth 100000 in
theorem wpList_ld18 {w : World} {ops : Array Oper} {rest : List Oper} {o : Oper} {a : Act} {Q : Exit → Act → World → Prop} (hgd : o.guard = none) (x : Operand) (ho : o.op = .load 73 x)
    (g : Nat) (hx : a.eval x = .pointer (some ⟨g, 0, none⟩)) (t : TypeId) (cs : Array Value) (hg : w.heap[g]? = some (.cells cs t (0, 0))) (hs : cs.size = 18) (h : wpList Tryz.prog ops Q rest (a.put o.dst (.agg cs)) w) : wpList Tryz.prog ops Q (o :: rest) a w :=
  wpList_load_row hgd 73 x ho g hx t cs (0, 0) _ hg Tryz.underlying73 rfl (by rw [hs]; exact info_bun) h
theorem row_of_box {w W : World} {c : Array Value} {t : TypeId} {g : Nat} (hg : g = w.heap.size) (h : Below (g + 1) (w.alloc (.cells c t)) W) : W.heap[g]? = some (.cells c t (0, 0)) := by
  subst hg
  rw [h.block w.heap.size (Nat.lt_succ_self _)]
  exact heap_alloc_new w _
theorem cell_row {W : World} {g : Nat} {c : Array Value} {t : TypeId} (h : W.heap[g]? = some (.cells c t (0, 0))) (j : Nat) {v : Value} (hj : c[j]? = some v) : W.cell? ⟨g, j, none⟩ = some v := by
  unfold World.cell?
  rw [h]
  simpa using hj
theorem set17 {W : World} {g : Nat} {t : TypeId} {c0 : Value} {c1 : Value} {c2 : Value} {c3 : Value} {c4 : Value} {c5 : Value} {c6 : Value} {c7 : Value} {c8 : Value} {c9 : Value} {c10 : Value} {c11 : Value} {c12 : Value} {c13 : Value} {c14 : Value} {c15 : Value} {c16 : Value} {c17 : Value} (v : Value) (h : W.heap[g]? = some (.cells #[c0, c1, c2, c3, c4, c5, c6, c7, c8, c9, c10, c11, c12, c13, c14, c15, c16, c17] t (0, 0))) :
    (W.setCell ⟨g, 17, none⟩ v).heap[g]? = some (.cells #[c0, c1, c2, c3, c4, c5, c6, c7, c8, c9, c10, c11, c12, c13, c14, c15, c16, v] t (0, 0)) := by
  rw [setCell_eq_setRow W g 17 #[c0, c1, c2, c3, c4, c5, c6, c7, c8, c9, c10, c11, c12, c13, c14, c15, c16, c17] t (0, 0) v h]
  exact setRow_heap W g _ _ t _ h
theorem row_free {W : World} {g : Nat} {t : TypeId} {c : Array Value} (h : W.heap[g]? = some (.cells c t (0, 0))) (j : Nat) : W.frozen? ⟨g, j, none⟩ = false := by
  simp [World.frozen?, h]
/-! ### At a step of a region that draws its order -/
theorem exec_ld18 {ev : Operand → Value} {o : Oper} {x : Operand} (ho : o.op = .load 73 x) {g : Nat} {cs : Array Value} {t : TypeId} (hx : ev x = .pointer (some ⟨g, 0, none⟩)) {W : World} (hg : W.heap[g]? = some (.cells cs t (0, 0))) (hs : cs.size = 18) :
    (execOp ev o).run Tryz.prog W = .ok (.value (.agg cs)) W := by
  unfold execOp
  simp only [ho, hx, Instr.loadAt, Instr.sureAddr, Sem.run_bind, Sem.run_pure, Result.andThen_ok, load18 hg hs]
end Go.Proofs.YtlecbblmaadpiaaGreatDoor
/- What few of layer 9's statements returns: where it is true, no block has more than 5000 bytes. (Made by gen/bun.py.) -/
namespace Go.Proofs.YtlecbblmaadpiaaGreatDoor
open Go.RowKit
def FewP (l : List Blk) (n : Nat) (w : World) (e : Ending) (w' : World) : Prop := ∃ R : Bool, e = .returned (.bool R) ∧ (R = true → n ≤ 30 ∧ ∀ x ∈ l, x.dat.length ≤ 5000) ∧ Below w.heap.size w w'
set_option maxRecDepth 100000 in
set_option maxHeartbeats 8000000 in
theorem few09_any (h : BH) (l : List Blk) (A : Option Addr) (n c B : Nat) (w : World) (hr : RdL w B A n l) (hB : B ≤ w.heap.size) :
    Calls Tryz.prog 58 #[bunV h A n c] w (FewP l n w) := by
  have HB0 := Lib.hid ((Below.refl w.heap.size w).alloc (Nat.le_refl _) (.cells #[.int .u64 (h.flg : Int), .int .i64 h.crc, .int .i64 h.dsc, .string h.dnm, .int .u64 (h.dn : Int), .int .u64 (h.dv : Int), .int .i64 h.ssc, .string h.snm, .int .u64 (h.sn : Int), .int .u64 (h.sv : Int), .int .i64 h.rsc, .string h.rnm, .int .u64 (h.rn : Int), .int .u64 (h.rv : Int), .int .u64 (h.tim : Int), .int .u64 (h.seq : Int), .int .u64 (h.lif : Int), .slice A n c] 73))
  have HS0 : Hid ((w.alloc (.cells #[.int .u64 (h.flg : Int), .int .i64 h.crc, .int .i64 h.dsc, .string h.dnm, .int .u64 (h.dn : Int), .int .u64 (h.dv : Int), .int .i64 h.ssc, .string h.snm, .int .u64 (h.sn : Int), .int .u64 (h.sv : Int), .int .i64 h.rsc, .string h.rnm, .int .u64 (h.rn : Int), .int .u64 (h.rv : Int), .int .u64 (h.tim : Int), .int .u64 (h.seq : Int), .int .u64 (h.lif : Int), .slice A n c] 73)).heap.size = w.heap.size + 1) := by show _ = _; simp
  have x17 : (w.alloc (.cells #[.int .u64 (h.flg : Int), .int .i64 h.crc, .int .i64 h.dsc, .string h.dnm, .int .u64 (h.dn : Int), .int .u64 (h.dv : Int), .int .i64 h.ssc, .string h.snm, .int .u64 (h.sn : Int), .int .u64 (h.sv : Int), .int .i64 h.rsc, .string h.rnm, .int .u64 (h.rn : Int), .int .u64 (h.rv : Int), .int .u64 (h.tim : Int), .int .u64 (h.seq : Int), .int .u64 (h.lif : Int), .slice A n c] 73)).cell? ⟨w.heap.size, 17, none⟩ = some (.slice A n c) := cell_row (row_of_box (w := w) rfl (Below.refl _ _)) 17 rfl
  have HR := Lib.hid (hr.below (HB0.out.mono hB))
  have hn47 := hr.2.2
  have HG : Hid (∀ e w' (R : Bool), e = .returned (.bool R) → (R = true → n ≤ 30 ∧ ∀ x ∈ l, x.dat.length ≤ 5000) → Below w.heap.size w w' → FewP l n w e w') := fun _ _ R h1 h2 h3 => ⟨R, h1, h2, h3⟩
  clear hr hB
  unfold bunV
  by_cases h30 : 30 < n
  · have t1 : decide ((30 : Int) < (n : Int)) = true := decide_eq_true (by omega)
    go_enter Tryz.func58, Tryz.ntmps58
    go_wp2_with fail
    go_ret
    exact HG.out _ _ _ rfl (fun h => absurd h (by decide)) HB0.out
  have t1 : decide ((30 : Int) < (n : Int)) = false := decide_eq_false (by omega)
  go_enter Tryz.func58, Tryz.ntmps58
  go_wp2_with fail
  generalize w.alloc (.cells #[.int .u64 (h.flg : Int), .int .i64 h.crc, .int .i64 h.dsc, .string h.dnm, .int .u64 (h.dn : Int), .int .u64 (h.dv : Int), .int .i64 h.ssc, .string h.snm, .int .u64 (h.sn : Int), .int .u64 (h.sv : Int), .int .i64 h.rsc, .string h.rnm, .int .u64 (h.rn : Int), .int .u64 (h.rv : Int), .int .u64 (h.tim : Int), .int .u64 (h.seq : Int), .int .u64 (h.lif : Int), .slice A n c] 73) = W0 at *
  go_loop [3, 4] (fun s v => ∃ i q : Nat, i ≤ n ∧ v = .int .i64 (i : Int) ∧ s = .int .i64 (q : Int) ∧ q ≤ 140737488355328 + 5000 ∧ Hid (∀ x ∈ l.take i, x.dat.length ≤ q)) (fun _ v => n - (intOf v).toNat)
  case atStart => exact ⟨0, 0, Nat.zero_le _, rfl, rfl, by omega, fun x hx => by simp at hx⟩
  case round =>
    obtain ⟨i, q, hi, rfl, rfl, hq, HQ⟩ := hrel
    by_cases hlt : i < n
    · have hii : decide ((i : Int) < (n : Int)) = true := decide_eq_true (by omega)
      have hi1 : (i : Int) < (n : Int) := by omega
      by_cases hq5 : q ≤ 5000
      · have hqq : decide ((q : Int) ≤ 5000) = true := decide_eq_true (by omega)
        have hil : i < l.length := by rw [HR.out.1]; exact hlt
        obtain ⟨b, o, rfl, hbB, hks⟩ := HR.out.2.1 (by omega)
        obtain ⟨A1, nd, cd, hk⟩ := hks.get i hil
        have g4 := hk.k4
        have hnd := hk.le.2
        have HQ2 : Hid (∀ x ∈ l.take (i + 1), x.dat.length ≤ q + nd) := fun x hx => by
          rw [List.take_add_one, List.mem_append] at hx
          rcases hx with hx | hx
          · have := HQ.out x hx; omega
          · rw [List.getElem?_eq_getElem hil] at hx
            obtain rfl : x = l[i] := by simpa using hx
            have := hk.rd.1; omega
        clear HQ
        have hw : wrap64 ((q : Int) + (nd : Int)) = ((q + nd : Nat) : Int) := by unfold wrap64; omega
        clear hk hks hbB
        go_wp2_with fail
        go_round
        case rel => exact ⟨i + 1, q + nd, by omega, by go_num, by rw [Int.natCast_add], by omega, HQ2⟩
        case measure => simp [intOf]; omega
      · have hqq : decide ((q : Int) ≤ 5000) = false := decide_eq_false (by omega)
        go_wp2_with fail
        go_ret
        exact HG.out _ _ _ rfl (fun h => absurd h (by decide)) HB0.out
    · obtain rfl : i = n := by omega
      have hii : decide ((i : Int) < (i : Int)) = false := decide_eq_false (by omega)
      by_cases hq5 : q ≤ 5000
      · have hqq : decide ((q : Int) ≤ 5000) = true := decide_eq_true (by omega)
        go_wp2_with fail
        go_ret
        have hall : ∀ x ∈ l, x.dat.length ≤ 5000 := fun x hx => by
          have := HQ.out x (by rw [List.take_of_length_le (by rw [HR.out.1]; exact Nat.le_refl _)]; exact hx)
          omega
        exact HG.out _ _ _ rfl (fun _ => ⟨by omega, hall⟩) HB0.out
      · have hqq : decide ((q : Int) ≤ 5000) = false := decide_eq_false (by omega)
        go_wp2_with fail
        go_ret
        exact HG.out _ _ _ rfl (fun h => absurd h (by decide)) HB0.out
end Go.Proofs.YtlecbblmaadpiaaGreatDoor
/- Text and Array of layer 3's reference, read in no block below lo; boxes of an item stored and loaded whole. (Made by gen/RfC.py.) -/
namespace Go.Proofs.YtlecbblmaadpiaaGreatDoor
open Go.RowKit
theorem mask_same {S : Nat → Bool} {w w' : World} {p : Addr} (h : w'.heap[p.block]? = w.heap[p.block]?) : (mask S w').cell? p = (mask S w).cell? p := by
  apply World.cell?_of_block
  unfold mask
  simp only [Array.getElem?_mapIdx, h]
set_option maxRecDepth 100000 in
set_option maxHeartbeats 1000000 in
theorem rtextL_any (lo : Nat) (s : ByteArray) (w : World) (hlo : lo ≤ w.heap.size) (hs : s.size ≤ 140737488355328) :
    Calls Tryz.prog 67 #[.string s] w (GivesL lo (.mk 3 0 s.data.toList []) w) := by
  obtain ⟨c, W', hrun, hrd, hc, hb, hz⟩ := conv_bytes (w.alloc (.cells #[.int .i64 0, .int .u64 0, .slice none 0 0, .slice none 0 0] 30)) s
  have hz1 : (w.alloc (.cells #[.int .i64 0, .int .u64 0, .slice none 0 0, .slice none 0 0] 30)).heap.size = w.heap.size + 1 := by simp
  rw [hz1] at hrun hrd hb hz
  obtain ⟨⟨z0, z1, z2, z3⟩, f0, f1, f2, f3⟩ := zero_cells hb
  have HRD := Lib.hid hrd
  have HB := Lib.hid hb
  have HZ := Lib.hid hz
  have HS := Lib.hid hs
  have HLO := Lib.hid hlo
  clear hrd hb hz hz1 hs hlo
  go_enter Tryz.func67, Tryz.ntmps67
  go_wp2_with fail
  have hsz4 : ((((W'.setCell ⟨w.heap.size, 0, none⟩ (.int .i64 3)).setCell ⟨w.heap.size, 1, none⟩ (.int .u64 0)).setCell ⟨w.heap.size, 2, none⟩ (.slice (some ⟨w.heap.size + 1, 0, none⟩) s.size c)).setCell ⟨w.heap.size, 3, none⟩ (.slice none 0 0)).heap.size = W'.heap.size := by simp [World.setCell]
  refine bodyPost_ret (v := .agg #[.int .i64 3, .int .u64 0, .slice (some ⟨w.heap.size + 1, 0, none⟩) s.size c, .slice none 0 0]) (by simp [results, Tryz.results67, go_sem, z0, z1, z2, z3]) rfl ⟨_, rfl, RdI.mk_data (by decide) hc HS.out (Rd.mask_one ?_ (Nat.le_trans HLO.out (Nat.le_succ _))), ?_⟩
  · rw [hsz4, HZ.out]
    exact HRD.out.set4 (fun _ b o h => (by cases h; omega))
  · exact below_set4 (((Below.refl _ _).alloc (Nat.le_refl _) _).trans (HB.out.mono (Nat.le_succ _))) (Nat.le_refl _)
set_option maxRecDepth 100000 in
set_option maxHeartbeats 2000000 in
theorem rarrayL_any (lo b o n c B : Nat) (l : List Itm) (w : World) (hB : B ≤ w.heap.size) (hb : b < B) (h : RdIs (mask (lows lo) w) B b o l) (hlo : lo ≤ w.heap.size) (hl : l.length = n) (h0 : 0 < n) (hn : n ≤ 1000000) (_hc : n ≤ c) :
    Calls Tryz.prog 43 #[.slice (some ⟨b, o, none⟩) n c] w (GivesL lo (.mk 4 0 [] l) w) := by
  obtain ⟨i0, hi0, hz0, hz1, hz2⟩ := info_parts info_item
  obtain ⟨cs, n1, n2, n3, n4⟩ := h.news
  rw [hl] at n1
  have bs : b < w.heap.size := by omega
  have N2 : Hid (∀ j u, cs[j]? = some u → ((w.alloc (.cells #[.int .i64 0, .int .u64 0, .slice none 0 0, .slice none 0 0] 30)).alloc (.cells #[] 30)).cell? ((⟨b, o, none⟩ : Addr).add j) = some u) := by
    intro j u hj
    have e : (⟨b, o, none⟩ : Addr).add j = ⟨b, o + j, none⟩ := by unfold Addr.add; split <;> simp_all
    rw [e, World.cell?_alloc_lt _ _ _ (Nat.lt_of_lt_of_le bs (le_alloc _ _)), World.cell?_alloc_lt _ _ _ bs]
    exact mask_sub (n2 j u hj)
  have HO := Lib.hid (show ((w.alloc (.cells #[.int .i64 0, .int .u64 0, .slice none 0 0, .slice none 0 0] 30)).alloc (.cells #[] 30)).ownsRow (w.heap.size + 1) 30 4 (.slice (some ⟨w.heap.size + 1, 0, none⟩) 0 0) 0 [] by
    have h := World.ownsRow_lit (base := w.heap.size + 1) (e := 30) (size := 4) (w.alloc (.cells #[.int .i64 0, .int .u64 0, .slice none 0 0, .slice none 0 0] 30)) #[] 0 (by simp) (by decide) rfl
    simpa using h)
  have HLO := Lib.hid hlo
  have N1 := Lib.hid n1
  have N3 := Lib.hid n3
  have N4 := Lib.hid n4
  have HL := Lib.hid hl
  have HBB := Lib.hid hB
  have H0 := Lib.hid h0
  have HN := Lib.hid hn
  have HI := Lib.hid hi0
  have HZ0 := Lib.hid hz0
  have HZ1 := Lib.hid hz1
  have HZ2 := Lib.hid hz2
  clear hlo n1 n2 n3 n4 h hl hB hb bs hi0 hz0 hz1 hz2 h0 hn
  go_enter Tryz.func43, Tryz.ntmps43
  go_wp2_with (first
    | (at_builtin; refine wpList_append_lies _ rfl (.tmp 3) (.tmp 4) 28 rfl (w.heap.size + 1) 30 i0 _ 4 64 Tryz.underlying28 HI.out HZ0.out HZ1.out HZ2.out rfl (by decide) _ 0 [] rfl HO.out ⟨b, o, none⟩ n c cs rfl N1.out N2.out N3.out H0.out (by have := HN.out; unfold maxLen; omega) (by have := HN.out; omega) (by simp) _ rfl ?_; intro g cap w1 ho1 hg1 hat hlt; have B1 := Lib.hid (((Below.refl (w.heap.size + 1) (w.alloc (.cells #[.int .i64 0, .int .u64 0, .slice none 0 0, .slice none 0 0] 30))).alloc (by simp) _).grown hg1 (by simp) (fun k hk => by cases hk; exact Nat.le_refl _)); obtain ⟨⟨z0, z1, z2, z3⟩, f0, f1, f2, f3⟩ := zero_cells B1.out; have O1 := Lib.hid ho1; have HLT := Lib.hid hlt; clear ho1 hg1 hat hlt)
    | fail)
  have ho := O1.out
  rw [Nat.zero_add, List.nil_append] at ho
  have hg := (ho.lt g rfl).1
  have hcap : n ≤ cap := by
    rcases ho.2 with ⟨hv, _⟩ | ⟨g', cap', cur, hv, _, _, hnc, _⟩
    · cases hv
    · injection hv with _ _ h3
      omega
  refine bodyPost_ret (v := .agg #[.int .i64 4, .int .u64 0, .slice none 0 0, .slice (some ⟨g, 0, none⟩) n cap]) (by simp [results, Tryz.results43, go_sem, z0, z1, z2, z3]) rfl ⟨_, rfl, RdI.mk_list (by decide) hcap (by have := HN.out; omega) HL.out (by have := HLT.out; simpa [World.setCell] using this) (N4.out _ _ g 0 ?_ ?_ ?_), ?_⟩
  · intro j u hj
    have hjn : j < n * 4 := by
      rw [← N1.out]
      rcases Nat.lt_or_ge j cs.length with h | h
      · exact h
      · rw [List.getElem?_eq_none h] at hj; cases hj
    rw [mask_cell (lows_f.2 (show lo ≤ g by have := HLO.out; omega)), Nat.zero_add, World.cell?_setCell_far _ _ _ _ (by show w.heap.size ≠ g; omega), World.cell?_setCell_far _ _ _ _ (by show w.heap.size ≠ g; omega), World.cell?_setCell_far _ _ _ _ (by show w.heap.size ≠ g; omega), World.cell?_setCell_far _ _ _ _ (by show w.heap.size ≠ g; omega), ho.cellAt j hjn]
    exact hj
  · intro p hp
    have hp' : p.block < w.heap.size := Nat.lt_of_lt_of_le hp HBB.out
    exact mask_same ((below_set4 (((Below.refl _ _).alloc (Nat.le_refl _) _).trans (B1.out.mono (Nat.le_succ _))) (Nat.le_refl _)).block _ hp')
  · have := HBB.out
    have h2 := B1.out.size
    simp [World.setCell] at h2 ⊢
    omega
  · exact below_set4 (((Below.refl _ _).alloc (Nat.le_refl _) _).trans (B1.out.mono (Nat.le_succ _))) (Nat.le_refl _)
set_option maxRecDepth 100000 in
set_option maxHeartbeats 2000000 in
theorem rarrayC_any (b o n c : Nat) (cs : List Value) (w : World) (bs : b < w.heap.size) (n1 : cs.length = n * 4) (n2 : ∀ j u, cs[j]? = some u → w.cell? ⟨b, o + j, none⟩ = some u) (n3 : ∀ u ∈ cs, u.oneCell' = true) (h0 : 0 < n) (hn : n ≤ 1000000) :
    Calls Tryz.prog 43 #[.slice (some ⟨b, o, none⟩) n c] w fun e w' => ∃ g cap, e = .returned (.agg #[.int .i64 4, .int .u64 0, .slice none 0 0, .slice (some ⟨g, 0, none⟩) n cap]) ∧ w.heap.size < g ∧ g < w'.heap.size ∧ n ≤ cap ∧ (∀ j u, cs[j]? = some u → w'.cell? ⟨g, j, none⟩ = some u) ∧ Below w.heap.size w w' := by
  obtain ⟨i0, hi0, hz0, hz1, hz2⟩ := info_parts info_item
  have N2 : Hid (∀ j u, cs[j]? = some u → ((w.alloc (.cells #[.int .i64 0, .int .u64 0, .slice none 0 0, .slice none 0 0] 30)).alloc (.cells #[] 30)).cell? ((⟨b, o, none⟩ : Addr).add j) = some u) := by
    intro j u hj
    have e : (⟨b, o, none⟩ : Addr).add j = ⟨b, o + j, none⟩ := by unfold Addr.add; split <;> simp_all
    rw [e, World.cell?_alloc_lt _ _ _ (Nat.lt_of_lt_of_le bs (le_alloc _ _)), World.cell?_alloc_lt _ _ _ bs]
    exact n2 j u hj
  have HO := Lib.hid (show ((w.alloc (.cells #[.int .i64 0, .int .u64 0, .slice none 0 0, .slice none 0 0] 30)).alloc (.cells #[] 30)).ownsRow (w.heap.size + 1) 30 4 (.slice (some ⟨w.heap.size + 1, 0, none⟩) 0 0) 0 [] by
    have h := World.ownsRow_lit (base := w.heap.size + 1) (e := 30) (size := 4) (w.alloc (.cells #[.int .i64 0, .int .u64 0, .slice none 0 0, .slice none 0 0] 30)) #[] 0 (by simp) (by decide) rfl
    simpa using h)
  have N1 := Lib.hid n1
  have N3 := Lib.hid n3
  have H0 := Lib.hid h0
  have HN := Lib.hid hn
  have HI := Lib.hid hi0
  have HZ0 := Lib.hid hz0
  have HZ1 := Lib.hid hz1
  have HZ2 := Lib.hid hz2
  clear n1 n2 n3 bs hi0 hz0 hz1 hz2 h0 hn
  go_enter Tryz.func43, Tryz.ntmps43
  go_wp2_with (first
    | (at_builtin; refine wpList_append_lies _ rfl (.tmp 3) (.tmp 4) 28 rfl (w.heap.size + 1) 30 i0 _ 4 64 Tryz.underlying28 HI.out HZ0.out HZ1.out HZ2.out rfl (by decide) _ 0 [] rfl HO.out ⟨b, o, none⟩ n c cs rfl N1.out N2.out N3.out H0.out (by have := HN.out; unfold maxLen; omega) (by have := HN.out; omega) (by simp) _ rfl ?_; intro g cap w1 ho1 hg1 hat hlt; have B1 := Lib.hid (((Below.refl (w.heap.size + 1) (w.alloc (.cells #[.int .i64 0, .int .u64 0, .slice none 0 0, .slice none 0 0] 30))).alloc (by simp) _).grown hg1 (by simp) (fun k hk => by cases hk; exact Nat.le_refl _)); obtain ⟨⟨z0, z1, z2, z3⟩, f0, f1, f2, f3⟩ := zero_cells B1.out; have O1 := Lib.hid ho1; have HLT := Lib.hid hlt; clear ho1 hg1 hat hlt)
    | fail)
  have ho := O1.out
  rw [Nat.zero_add, List.nil_append] at ho
  have hg := (ho.lt g rfl).1
  have hcap : n ≤ cap := by
    rcases ho.2 with ⟨hv, _⟩ | ⟨g', cap', cur, hv, _, _, hnc, _⟩
    · cases hv
    · injection hv with _ _ h3
      omega
  refine bodyPost_ret (v := .agg #[.int .i64 4, .int .u64 0, .slice none 0 0, .slice (some ⟨g, 0, none⟩) n cap]) (by simp [results, Tryz.results43, go_sem, z0, z1, z2, z3]) rfl ⟨g, cap, rfl, hg, by have := HLT.out; simpa [World.setCell] using this, hcap, ?_, ?_⟩
  · intro j u hj
    have hjn : j < n * 4 := by
      rw [← N1.out]
      rcases Nat.lt_or_ge j cs.length with h | h
      · exact h
      · rw [List.getElem?_eq_none h] at hj; cases hj
    rw [World.cell?_setCell_far _ _ _ _ (by show w.heap.size ≠ g; omega), World.cell?_setCell_far _ _ _ _ (by show w.heap.size ≠ g; omega), World.cell?_setCell_far _ _ _ _ (by show w.heap.size ≠ g; omega), World.cell?_setCell_far _ _ _ _ (by show w.heap.size ≠ g; omega), ho.cellAt j hjn]
    exact hj
  · exact below_set4 (((Below.refl _ _).alloc (Nat.le_refl _) _).trans (B1.out.mono (Nat.le_succ _))) (Nat.le_refl _)
theorem size_it : (Tryz.prog.info? 30).map (·.size) = some 4 := by kernel_rfl
set_option maxRecDepth 100000 in
theorem load4 {W : World} {g : Nat} {vs : Array Value} {t : TypeId} (hg : W.heap[g]? = some (.cells vs t (0, 0))) (hs : vs.size = 4) : (loadVar 30 ⟨g, 0, none⟩).run Tryz.prog W = .ok (.agg vs) W :=
  run_loadVar_row W g t 30 vs (0, 0) _ hg Tryz.underlying30 rfl (by rw [hs]; exact size_it)
theorem exec_ld4 {ev : Operand → Value} {o : Oper} {x : Operand} (ho : o.op = .load 30 x) {g : Nat} {cs : Array Value} {t : TypeId} (hx : ev x = .pointer (some ⟨g, 0, none⟩)) {W : World} (hg : W.heap[g]? = some (.cells cs t (0, 0))) (hs : cs.size = 4) :
    (execOp ev o).run Tryz.prog W = .ok (.value (.agg cs)) W := by
  unfold execOp
  simp only [ho, hx, Instr.loadAt, Instr.sureAddr, Sem.run_bind, Sem.run_pure, Result.andThen_ok, load4 hg hs]
def St4 (g : Nat) (t : TypeId) (vs : Array Value) (w W' : World) : Prop := W'.heap[g]? = some (.cells vs t (0, 0)) ∧ (∀ (B : Nat) (w0 : World), Below B w0 w → B ≤ g → Below B w0 W') ∧ W'.heap.size = w.heap.size ∧ ∀ j, j ≠ g → W'.heap[j]? = w.heap[j]?
theorem wpList_st4 {P : Program} {w : World} {ops : Array Oper} {rest : List Oper} {o : Oper} {a : Act} {Q : Exit → Act → World → Prop} (hgd : o.guard = none) (ty : TypeId) (x y : Operand) (ho : o.op = .store ty x y)
    (g : Nat) (v0 v1 v2 v3 : Value) (hx : a.eval x = .pointer (some ⟨g, 0, none⟩)) (hy : a.eval y = .agg #[v0, v1, v2, v3]) (t : TypeId) (old : Array Value) (hg : w.heap[g]? = some (.cells old t (0, 0)))
    (hi : (P.info? ty).map (·.size) = some 4) (hold : old.size = 4) (h1 : ([v0, v1, v2, v3] : List Value).all (·.oneCell') = true)
    (h : ∀ W', St4 g t #[v0, v1, v2, v3] w W' → wpList P ops Q rest (a.put o.dst undef) W') :
    wpList P ops Q (o :: rest) a w :=
  wpList_store_row hgd ty x y ho g #[v0, v1, v2, v3] hx hy t old hg hi hold (Array.all_eq_true_iff_forall_mem.2 fun v hv => List.all_eq_true.1 h1 v (by simpa using hv))
    (h _ ⟨setRow_heap w g old _ t _ hg, fun B w0 hb hB => below_setRow hb hB _, setRow_size w g _, fun j hj => setRow_other w g j _ hj⟩)
theorem step_st4 {P : Program} {w : World} {ops : Array Oper} {o : Oper} {a : Act} {K : Act → World → Prop} {Q : Exit → Act → World → Prop} {E : Prop} (hgd : o.guard = none) (ty : TypeId) (x y : Operand) (ho : o.op = .store ty x y)
    (g : Nat) (v0 v1 v2 v3 : Value) (hx : a.eval x = .pointer (some ⟨g, 0, none⟩)) (hy : a.eval y = .agg #[v0, v1, v2, v3]) (t : TypeId) (old : Array Value) (hg : w.heap[g]? = some (.cells old t (0, 0)))
    (hi : (P.info? ty).map (·.size) = some 4) (hold : old.size = 4) (h1 : ([v0, v1, v2, v3] : List Value).all (·.oneCell') = true)
    (h : ∀ W', St4 g t #[v0, v1, v2, v3] w W' → K (a.put o.dst undef) W') :
    if Region.wanted o (yielded ops a.tmps) = true then Oper.wp P o a w K Q else E := by
  have hw : Region.wanted o (yielded ops a.tmps) = true := by simp [Region.wanted, hgd]
  rw [if_pos hw]
  exact wp_store_row ty x y ho g #[v0, v1, v2, v3] hx hy t old hg hi hold (Array.all_eq_true_iff_forall_mem.2 fun v hv => List.all_eq_true.1 h1 v (by simpa using hv))
    (h _ ⟨setRow_heap w g old _ t _ hg, fun B w0 hb hB => below_setRow hb hB _, setRow_size w g _, fun j hj => setRow_other w g j _ hj⟩)
theorem res_it {fn : Func} {p u : Tmp} (h : fn.results = #[.cell p 30, .tmp u]) (tmps : Array Value) (W : World) {g : Nat} {vs : Array Value} {t : TypeId} (hp : tmps.getD p undef = .pointer (some ⟨g, 0, none⟩))
    (hg : W.heap[g]? = some (.cells vs t (0, 0))) (hs : vs.size = 4) : (results fn tmps).run Tryz.prog W = .ok (.tuple #[.agg vs, tmps.getD u undef]) W := by
  rw [results_cell_tmp h, hp]
  simp only [asAddr, Sem.run_pure, Result.andThen, load4 hg hs]
theorem ItL.row {lo : Nat} {W : World} {cs : List Value} {xs : List Itm} {t : TypeId} (hlo : lo ≤ W.heap.size) (h : ItC (mask (lows lo) W) W.heap.size cs xs) :
    RdIs (mask (lows lo) (W.alloc (.cells cs.toArray t))) (W.alloc (.cells cs.toArray t)).heap.size W.heap.size 0 xs := RdIs.more (by simp) (ItC.row hlo h)
theorem RdI.maskup {lo lo' : Nat} {w w' : World} {v : Value} {x : Itm} (h : RdI (mask (lows lo) w) w.heap.size v x) (hl : lo' ≤ lo) (hb : ∀ j, lo ≤ j → j < w.heap.size → w'.heap[j]? = w.heap[j]?) (hs : w.heap.size ≤ w'.heap.size) : RdI (mask (lows lo') w') w'.heap.size v x :=
  h.mask_go hs (fun k hk hf => hb k (lows_f.1 hf) hk) (fun _ _ hf => lows_f.2 (Nat.le_trans hl (lows_f.1 hf)))
end Go.Proofs.YtlecbblmaadpiaaGreatDoor
