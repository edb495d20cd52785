/- Faults of layer 6, errors.Is over them, and numberOf. -/
import Derived.Test.YtlecbblmaadpiaaGreatDoorMCborCs
import Derived.Test.YtlecbblmaadpiaaGreatDoorMEidD
import Derived.Test.YtlecbblmaadpiaaGreatDoorMEidF
import Derived.Test.YtlecbblmaadpiaaGreatDoorMEidI1
import Derived.Test.YtlecbblmaadpiaaGreatDoorMEidI3
import Derived.Test.YtlecbblmaadpiaaGreatDoorMRfR
import Derived.Lib.IfaceEq
import Derived.Deep.WholeRow
import Derived.Laws.CopyOwn
import Derived.Laws.ResultCell
import Derived.Deep.RegionHeld3
namespace Go.Proofs.YtlecbblmaadpiaaGreatDoor
open Go.RowKit Go.Extern.Stop Go.Stop Go.Extern
end Go.Proofs.YtlecbblmaadpiaaGreatDoor
/- Bundles and their blocks as values and in memory. (Made by gen/bun.py.) -/
namespace Go.Proofs.YtlecbblmaadpiaaGreatDoor
open Go.RowKit
/-! ### Blocks in memory -/
structure RdK (w : World) (B b o : Nat) (x : Blk) (A : Option Addr) (nd cd : Nat) : Prop where
  k0 : w.cell? ⟨b, o, none⟩ = some (.int .u64 (x.typ : Int))
  k1 : w.cell? ⟨b, o + 1, none⟩ = some (.int .u64 (x.num : Int))
  k2 : w.cell? ⟨b, o + 2, none⟩ = some (.int .u64 (x.flg : Int))
  k3 : w.cell? ⟨b, o + 3, none⟩ = some (.int .i64 x.crc)
  k4 : w.cell? ⟨b, o + 4, none⟩ = some (.slice A nd cd)
  bd : Bd x
  le : nd ≤ cd ∧ nd ≤ 140737488355328
  rd : Rd w B A nd x.dat
theorem RdK.below {w w' : World} {B b o nd cd : Nat} {x : Blk} {A : Option Addr} (h : RdK w B b o x A nd cd) (hb : Below B w w') (hB : b < B) : RdK w' B b o x A nd cd :=
  ⟨(hb.cell hB).trans h.k0, (hb.cell hB).trans h.k1, (hb.cell hB).trans h.k2, (hb.cell hB).trans h.k3, (hb.cell hB).trans h.k4, h.bd, h.le, h.rd.below hb⟩
theorem RdK.more {w : World} {B B' b o nd cd : Nat} {x : Blk} {A : Option Addr} (h : RdK w B b o x A nd cd) (hB : B ≤ B') : RdK w B' b o x A nd cd :=
  ⟨h.k0, h.k1, h.k2, h.k3, h.k4, h.bd, h.le, h.rd.more hB⟩
def RdKs (w : World) (B b : Nat) : Nat → List Blk → Prop
  | _, [] => True
  | o, x :: r => (∃ A nd cd, RdK w B b o x A nd cd) ∧ RdKs w B b (o + 5) r
theorem RdKs.below {w w' : World} {B b : Nat} (hb : Below B w w') (hB : b < B) : ∀ {l : List Blk} {o : Nat}, RdKs w B b o l → RdKs w' B b o l
  | [], _, _ => trivial
  | _ :: _, _, ⟨⟨A, nd, cd, h⟩, hr⟩ => ⟨⟨A, nd, cd, h.below hb hB⟩, RdKs.below hb hB hr⟩
theorem RdKs.more {w : World} {B B' b : Nat} (hB : B ≤ B') : ∀ {l : List Blk} {o : Nat}, RdKs w B b o l → RdKs w B' b o l
  | [], _, _ => trivial
  | _ :: _, _, ⟨⟨A, nd, cd, h⟩, hr⟩ => ⟨⟨A, nd, cd, h.more hB⟩, RdKs.more hB hr⟩
theorem RdKs.get {w : World} {B b : Nat} : ∀ {l : List Blk} {o : Nat}, RdKs w B b o l → ∀ i (hi : i < l.length), ∃ A nd cd, RdK w B b (o + i * 5) (l[i]'hi) A nd cd
  | x :: r, o, ⟨h, hr⟩, 0, _ => by simpa using h
  | x :: r, o, ⟨h, hr⟩, i + 1, hi => by
    have := RdKs.get hr i (Nat.lt_of_succ_lt_succ hi)
    rw [show o + (i + 1) * 5 = o + 5 + i * 5 by omega]
    simpa using this
theorem RdKs.of_get {w : World} {B b : Nat} : ∀ {l : List Blk} {o : Nat}, (∀ i (hi : i < l.length), ∃ A nd cd, RdK w B b (o + i * 5) (l[i]'hi) A nd cd) → RdKs w B b o l
  | [], _, _ => trivial
  | x :: r, o, h => ⟨by have := h 0 (by simp); rw [Nat.zero_mul, Nat.add_zero] at this; exact this, RdKs.of_get fun i hi => by
      have := h (i + 1) (by simpa using hi)
      rw [show o + (i + 1) * 5 = o + 5 + i * 5 by omega] at this
      simpa using this⟩
def RdL (w : World) (B : Nat) (A : Option Addr) (n : Nat) (l : List Blk) : Prop := l.length = n ∧ (0 < n → ∃ b o, A = some ⟨b, o, none⟩ ∧ b < B ∧ RdKs w B b o l) ∧ n ≤ 140737488355328
theorem RdL.below {w w' : World} {B n : Nat} {A : Option Addr} {l : List Blk} (h : RdL w B A n l) (hb : Below B w w') : RdL w' B A n l :=
  ⟨h.1, fun hn => by obtain ⟨b, o, e, h1, h2⟩ := h.2.1 hn; exact ⟨b, o, e, h1, h2.below hb h1⟩, h.2.2⟩
theorem RdL.more {w : World} {B B' n : Nat} {A : Option Addr} {l : List Blk} (h : RdL w B A n l) (hB : B ≤ B') : RdL w B' A n l :=
  ⟨h.1, fun hn => by obtain ⟨b, o, e, h1, h2⟩ := h.2.1 hn; exact ⟨b, o, e, Nat.lt_of_lt_of_le h1 hB, h2.more hB⟩, h.2.2⟩
theorem RdL.nil_ {w : World} {B : Nat} {A : Option Addr} : RdL w B A 0 [] := ⟨rfl, fun h => absurd h (Nat.lt_irrefl 0), Nat.zero_le _⟩
theorem RdL.take {w : World} {B n : Nat} {A : Option Addr} {l : List Blk} (h : RdL w B A n l) (i : Nat) (hi : i ≤ n) : RdL w B A i (l.take i) := by
  obtain ⟨h1, h2, h3⟩ := h
  refine ⟨by rw [List.length_take]; omega, fun h0 => ?_, by omega⟩
  obtain ⟨b, o, e, hb, hk⟩ := h2 (by omega)
  refine ⟨b, o, e, hb, RdKs.of_get fun j hj => ?_⟩
  have hjl : j < l.length := by rw [List.length_take] at hj; omega
  have := hk.get j hjl
  rw [List.getElem_take]
  exact this
/-! ### Bundles' heads: all but the blocks -/
structure BH where
  flg : Nat
  crc : Int
  dsc : Int
  dnm : ByteArray
  dn : Nat
  dv : Nat
  ssc : Int
  snm : ByteArray
  sn : Nat
  sv : Nat
  rsc : Int
  rnm : ByteArray
  rn : Nat
  rv : Nat
  tim : Nat
  seq : Nat
  lif : Nat
def BH.zero : BH := ⟨0, 0, 0, ⟨#[]⟩, 0, 0, 0, ⟨#[]⟩, 0, 0, 0, ⟨#[]⟩, 0, 0, 0, 0, 0⟩
def BH.dst (h : BH) : Epd := ep h.dsc h.dnm h.dn h.dv
def BH.src (h : BH) : Epd := ep h.ssc h.snm h.sn h.sv
def BH.rep (h : BH) : Epd := ep h.rsc h.rnm h.rn h.rv
def BH.bun (h : BH) (l : List Blk) : Bun := ⟨h.flg, h.crc, h.dst, h.src, h.rep, h.tim, h.seq, h.lif, l⟩
structure BH.Bd (h : BH) : Prop where
  flg : h.flg < 18446744073709551616
  dnm : h.dnm.size ≤ 140737488355328
  dn : h.dn < 18446744073709551616
  dv : h.dv < 18446744073709551616
  snm : h.snm.size ≤ 140737488355328
  sn : h.sn < 18446744073709551616
  sv : h.sv < 18446744073709551616
  rnm : h.rnm.size ≤ 140737488355328
  rn : h.rn < 18446744073709551616
  rv : h.rv < 18446744073709551616
  tim : h.tim < 18446744073709551616
  seq : h.seq < 18446744073709551616
  lif : h.lif < 18446744073709551616
/-! ### The world -/
structure Wd (S : Snt) (w : World) : Prop where
  lds : Lds S w
  laid : LaidE w
theorem Wd.below {S : Snt} {w w' : World} {B : Nat} (h : Wd S w) (hb : Below B w w') (hB : w.heap.size ≤ B) : Wd S w' :=
  ⟨h.lds.below hb hB, h.laid.below hb (Nat.lt_of_lt_of_le h.laid.lt hB)⟩
theorem Wd.alloc {S : Snt} {w : World} (h : Wd S w) (o : Obj) : Wd S (w.alloc o) := h.below ((Below.refl _ _).alloc (Nat.le_refl _) o) (Nat.le_refl _)
theorem Below.push {B : Nat} {W0 w1 w2 : World} (h : Below B W0 w1) (hB : B ≤ W0.heap.size) (h2 : Below w1.heap.size w1 w2) : Below B W0 w2 :=
  h.trans (h2.mono (Nat.le_trans hB h.size))
end Go.Proofs.YtlecbblmaadpiaaGreatDoor
/- A bundle stored whole: the 18 cells of a box laid anew at once. (Made by gen/bun.py.) -/
namespace Go.Proofs.YtlecbblmaadpiaaGreatDoor
open Go.RowKit
theorem row_of_box {w W : World} {c : Array Value} {t : TypeId} {g : Nat} (hg : g = w.heap.size) (h : Below (g + 1) (w.alloc (.cells c t)) W) : W.heap[g]? = some (.cells c t (0, 0)) := by
  subst hg
  rw [h.block w.heap.size (Nat.lt_succ_self _)]
  exact heap_alloc_new w _
theorem cell_row {W : World} {g : Nat} {c : Array Value} {t : TypeId} (h : W.heap[g]? = some (.cells c t (0, 0))) (j : Nat) {v : Value} (hj : c[j]? = some v) : W.cell? ⟨g, j, none⟩ = some v := by
  unfold World.cell?
  rw [h]
  simpa using hj
theorem row_free {W : World} {g : Nat} {t : TypeId} {c : Array Value} (h : W.heap[g]? = some (.cells c t (0, 0))) (j : Nat) : W.frozen? ⟨g, j, none⟩ = false := by
  simp [World.frozen?, h]
/-! ### At a step of a region that draws its order -/
end Go.Proofs.YtlecbblmaadpiaaGreatDoor
/- Text and Array of layer 3's reference, read in no block below lo; boxes of an item stored and loaded whole. (Made by gen/RfC.py.) -/
namespace Go.Proofs.YtlecbblmaadpiaaGreatDoor
open Go.RowKit
theorem mask_same {S : Nat → Bool} {w w' : World} {p : Addr} (h : w'.heap[p.block]? = w.heap[p.block]?) : (mask S w').cell? p = (mask S w).cell? p := by
  apply World.cell?_of_block
  unfold mask
  simp only [Array.getElem?_mapIdx, h]
set_option maxRecDepth 100000 in
set_option maxHeartbeats 1000000 in
theorem rtextL_any (lo : Nat) (s : ByteArray) (w : World) (hlo : lo ≤ w.heap.size) (hs : s.size ≤ 140737488355328) :
    Calls Tryz.prog 67 #[.string s] w (GivesL lo (.mk 3 0 s.data.toList []) w) := by
  obtain ⟨c, W', hrun, hrd, hc, hb, hz⟩ := conv_bytes (w.alloc (.cells #[.int .i64 0, .int .u64 0, .slice none 0 0, .slice none 0 0] 30)) s
  have hz1 : (w.alloc (.cells #[.int .i64 0, .int .u64 0, .slice none 0 0, .slice none 0 0] 30)).heap.size = w.heap.size + 1 := by simp
  rw [hz1] at hrun hrd hb hz
  obtain ⟨⟨z0, z1, z2, z3⟩, f0, f1, f2, f3⟩ := zero_cells hb
  have HRD := Lib.hid hrd
  have HB := Lib.hid hb
  have HZ := Lib.hid hz
  have HS := Lib.hid hs
  have HLO := Lib.hid hlo
  clear hrd hb hz hz1 hs hlo
  go_enter Tryz.func67, Tryz.ntmps67
  go_wp2_with fail
  have hsz4 : ((((W'.setCell ⟨w.heap.size, 0, none⟩ (.int .i64 3)).setCell ⟨w.heap.size, 1, none⟩ (.int .u64 0)).setCell ⟨w.heap.size, 2, none⟩ (.slice (some ⟨w.heap.size + 1, 0, none⟩) s.size c)).setCell ⟨w.heap.size, 3, none⟩ (.slice none 0 0)).heap.size = W'.heap.size := by simp [World.setCell]
  refine bodyPost_ret (v := .agg #[.int .i64 3, .int .u64 0, .slice (some ⟨w.heap.size + 1, 0, none⟩) s.size c, .slice none 0 0]) (by simp [results, Tryz.results67, go_sem, z0, z1, z2, z3]) rfl ⟨_, rfl, RdI.mk_data (by decide) hc HS.out (Rd.mask_one ?_ (Nat.le_trans HLO.out (Nat.le_succ _))), ?_⟩
  · rw [hsz4, HZ.out]
    exact HRD.out.set4 (fun _ b o h => (by cases h; omega))
  · exact below_set4 (((Below.refl _ _).alloc (Nat.le_refl _) _).trans (HB.out.mono (Nat.le_succ _))) (Nat.le_refl _)
set_option maxRecDepth 100000 in
set_option maxHeartbeats 2000000 in
theorem rarrayL_any (lo b o n c B : Nat) (l : List Itm) (w : World) (hB : B ≤ w.heap.size) (hb : b < B) (h : RdIs (mask (lows lo) w) B b o l) (hlo : lo ≤ w.heap.size) (hl : l.length = n) (h0 : 0 < n) (hn : n ≤ 1000000) (_hc : n ≤ c) :
    Calls Tryz.prog 43 #[.slice (some ⟨b, o, none⟩) n c] w (GivesL lo (.mk 4 0 [] l) w) := by
  obtain ⟨i0, hi0, hz0, hz1, hz2⟩ := info_parts info_item
  obtain ⟨cs, n1, n2, n3, n4⟩ := h.news
  rw [hl] at n1
  have bs : b < w.heap.size := by omega
  have N2 : Hid (∀ j u, cs[j]? = some u → ((w.alloc (.cells #[.int .i64 0, .int .u64 0, .slice none 0 0, .slice none 0 0] 30)).alloc (.cells #[] 30)).cell? ((⟨b, o, none⟩ : Addr).add j) = some u) := by
    intro j u hj
    have e : (⟨b, o, none⟩ : Addr).add j = ⟨b, o + j, none⟩ := by unfold Addr.add; split <;> simp_all
    rw [e, World.cell?_alloc_lt _ _ _ (Nat.lt_of_lt_of_le bs (le_alloc _ _)), World.cell?_alloc_lt _ _ _ bs]
    exact mask_sub (n2 j u hj)
  have HO := Lib.hid (show ((w.alloc (.cells #[.int .i64 0, .int .u64 0, .slice none 0 0, .slice none 0 0] 30)).alloc (.cells #[] 30)).ownsRow (w.heap.size + 1) 30 4 (.slice (some ⟨w.heap.size + 1, 0, none⟩) 0 0) 0 [] by
    have h := World.ownsRow_lit (base := w.heap.size + 1) (e := 30) (size := 4) (w.alloc (.cells #[.int .i64 0, .int .u64 0, .slice none 0 0, .slice none 0 0] 30)) #[] 0 (by simp) (by decide) rfl
    simpa using h)
  have HLO := Lib.hid hlo
  have N1 := Lib.hid n1
  have N3 := Lib.hid n3
  have N4 := Lib.hid n4
  have HL := Lib.hid hl
  have HBB := Lib.hid hB
  have H0 := Lib.hid h0
  have HN := Lib.hid hn
  have HI := Lib.hid hi0
  have HZ0 := Lib.hid hz0
  have HZ1 := Lib.hid hz1
  have HZ2 := Lib.hid hz2
  clear hlo n1 n2 n3 n4 h hl hB hb bs hi0 hz0 hz1 hz2 h0 hn
  go_enter Tryz.func43, Tryz.ntmps43
  go_wp2_with (first
    | (at_builtin; refine wpList_append_lies _ rfl (.tmp 3) (.tmp 4) 28 rfl (w.heap.size + 1) 30 i0 _ 4 64 Tryz.underlying28 HI.out HZ0.out HZ1.out HZ2.out rfl (by decide) _ 0 [] rfl HO.out ⟨b, o, none⟩ n c cs rfl N1.out N2.out N3.out H0.out (by have := HN.out; unfold maxLen; omega) (by have := HN.out; omega) (by simp) _ rfl ?_; intro g cap w1 ho1 hg1 hat hlt; have B1 := Lib.hid (((Below.refl (w.heap.size + 1) (w.alloc (.cells #[.int .i64 0, .int .u64 0, .slice none 0 0, .slice none 0 0] 30))).alloc (by simp) _).grown hg1 (by simp) (fun k hk => by cases hk; exact Nat.le_refl _)); obtain ⟨⟨z0, z1, z2, z3⟩, f0, f1, f2, f3⟩ := zero_cells B1.out; have O1 := Lib.hid ho1; have HLT := Lib.hid hlt; clear ho1 hg1 hat hlt)
    | fail)
  have ho := O1.out
  rw [Nat.zero_add, List.nil_append] at ho
  have hg := (ho.lt g rfl).1
  have hcap : n ≤ cap := by
    rcases ho.2 with ⟨hv, _⟩ | ⟨g', cap', cur, hv, _, _, hnc, _⟩
    · cases hv
    · injection hv with _ _ h3
      omega
  refine bodyPost_ret (v := .agg #[.int .i64 4, .int .u64 0, .slice none 0 0, .slice (some ⟨g, 0, none⟩) n cap]) (by simp [results, Tryz.results43, go_sem, z0, z1, z2, z3]) rfl ⟨_, rfl, RdI.mk_list (by decide) hcap (by have := HN.out; omega) HL.out (by have := HLT.out; simpa [World.setCell] using this) (N4.out _ _ g 0 ?_ ?_ ?_), ?_⟩
  · intro j u hj
    have hjn : j < n * 4 := by
      rw [← N1.out]
      rcases Nat.lt_or_ge j cs.length with h | h
      · exact h
      · rw [List.getElem?_eq_none h] at hj; cases hj
    rw [mask_cell (lows_f.2 (show lo ≤ g by have := HLO.out; omega)), Nat.zero_add, World.cell?_setCell_far _ _ _ _ (by show w.heap.size ≠ g; omega), World.cell?_setCell_far _ _ _ _ (by show w.heap.size ≠ g; omega), World.cell?_setCell_far _ _ _ _ (by show w.heap.size ≠ g; omega), World.cell?_setCell_far _ _ _ _ (by show w.heap.size ≠ g; omega), ho.cellAt j hjn]
    exact hj
  · intro p hp
    have hp' : p.block < w.heap.size := Nat.lt_of_lt_of_le hp HBB.out
    exact mask_same ((below_set4 (((Below.refl _ _).alloc (Nat.le_refl _) _).trans (B1.out.mono (Nat.le_succ _))) (Nat.le_refl _)).block _ hp')
  · have := HBB.out
    have h2 := B1.out.size
    simp [World.setCell] at h2 ⊢
    omega
  · exact below_set4 (((Below.refl _ _).alloc (Nat.le_refl _) _).trans (B1.out.mono (Nat.le_succ _))) (Nat.le_refl _)
theorem size_it : (Tryz.prog.info? 30).map (·.size) = some 4 := by kernel_rfl
set_option maxRecDepth 100000 in
theorem load4 {W : World} {g : Nat} {vs : Array Value} {t : TypeId} (hg : W.heap[g]? = some (.cells vs t (0, 0))) (hs : vs.size = 4) : (loadVar 30 ⟨g, 0, none⟩).run Tryz.prog W = .ok (.agg vs) W :=
  run_loadVar_row W g t 30 vs (0, 0) _ hg Tryz.underlying30 rfl (by rw [hs]; exact size_it)
theorem exec_ld4 {ev : Operand → Value} {o : Oper} {x : Operand} (ho : o.op = .load 30 x) {g : Nat} {cs : Array Value} {t : TypeId} (hx : ev x = .pointer (some ⟨g, 0, none⟩)) {W : World} (hg : W.heap[g]? = some (.cells cs t (0, 0))) (hs : cs.size = 4) :
    (execOp ev o).run Tryz.prog W = .ok (.value (.agg cs)) W := by
  unfold execOp
  simp only [ho, hx, Instr.loadAt, Instr.sureAddr, Sem.run_bind, Sem.run_pure, Result.andThen_ok, load4 hg hs]
def St4 (g : Nat) (t : TypeId) (vs : Array Value) (w W' : World) : Prop := W'.heap[g]? = some (.cells vs t (0, 0)) ∧ (∀ (B : Nat) (w0 : World), Below B w0 w → B ≤ g → Below B w0 W') ∧ W'.heap.size = w.heap.size ∧ ∀ j, j ≠ g → W'.heap[j]? = w.heap[j]?
theorem wpList_st4 {P : Program} {w : World} {ops : Array Oper} {rest : List Oper} {o : Oper} {a : Act} {Q : Exit → Act → World → Prop} (hgd : o.guard = none) (ty : TypeId) (x y : Operand) (ho : o.op = .store ty x y)
    (g : Nat) (v0 v1 v2 v3 : Value) (hx : a.eval x = .pointer (some ⟨g, 0, none⟩)) (hy : a.eval y = .agg #[v0, v1, v2, v3]) (t : TypeId) (old : Array Value) (hg : w.heap[g]? = some (.cells old t (0, 0)))
    (hi : (P.info? ty).map (·.size) = some 4) (hold : old.size = 4) (h1 : ([v0, v1, v2, v3] : List Value).all (·.oneCell') = true)
    (h : ∀ W', St4 g t #[v0, v1, v2, v3] w W' → wpList P ops Q rest (a.put o.dst undef) W') :
    wpList P ops Q (o :: rest) a w :=
  wpList_store_row hgd ty x y ho g #[v0, v1, v2, v3] hx hy t old hg hi hold (Array.all_eq_true_iff_forall_mem.2 fun v hv => List.all_eq_true.1 h1 v (by simpa using hv))
    (h _ ⟨setRow_heap w g old _ t _ hg, fun B w0 hb hB => below_setRow hb hB _, setRow_size w g _, fun j hj => setRow_other w g j _ hj⟩)
theorem step_st4 {P : Program} {w : World} {ops : Array Oper} {o : Oper} {a : Act} {K : Act → World → Prop} {Q : Exit → Act → World → Prop} {E : Prop} (hgd : o.guard = none) (ty : TypeId) (x y : Operand) (ho : o.op = .store ty x y)
    (g : Nat) (v0 v1 v2 v3 : Value) (hx : a.eval x = .pointer (some ⟨g, 0, none⟩)) (hy : a.eval y = .agg #[v0, v1, v2, v3]) (t : TypeId) (old : Array Value) (hg : w.heap[g]? = some (.cells old t (0, 0)))
    (hi : (P.info? ty).map (·.size) = some 4) (hold : old.size = 4) (h1 : ([v0, v1, v2, v3] : List Value).all (·.oneCell') = true)
    (h : ∀ W', St4 g t #[v0, v1, v2, v3] w W' → K (a.put o.dst undef) W') :
    if Region.wanted o (yielded ops a.tmps) = true then Oper.wp P o a w K Q else E := by
  have hw : Region.wanted o (yielded ops a.tmps) = true := by simp [Region.wanted, hgd]
  rw [if_pos hw]
  exact wp_store_row ty x y ho g #[v0, v1, v2, v3] hx hy t old hg hi hold (Array.all_eq_true_iff_forall_mem.2 fun v hv => List.all_eq_true.1 h1 v (by simpa using hv))
    (h _ ⟨setRow_heap w g old _ t _ hg, fun B w0 hb hB => below_setRow hb hB _, setRow_size w g _, fun j hj => setRow_other w g j _ hj⟩)
theorem res_it {fn : Func} {p u : Tmp} (h : fn.results = #[.cell p 30, .tmp u]) (tmps : Array Value) (W : World) {g : Nat} {vs : Array Value} {t : TypeId} (hp : tmps.getD p undef = .pointer (some ⟨g, 0, none⟩))
    (hg : W.heap[g]? = some (.cells vs t (0, 0))) (hs : vs.size = 4) : (results fn tmps).run Tryz.prog W = .ok (.tuple #[.agg vs, tmps.getD u undef]) W := by
  rw [results_cell_tmp h, hp]
  simp only [asAddr, Sem.run_pure, Result.andThen, load4 hg hs]
theorem ItL.row {lo : Nat} {W : World} {cs : List Value} {xs : List Itm} {t : TypeId} (hlo : lo ≤ W.heap.size) (h : ItC (mask (lows lo) W) W.heap.size cs xs) :
    RdIs (mask (lows lo) (W.alloc (.cells cs.toArray t))) (W.alloc (.cells cs.toArray t)).heap.size W.heap.size 0 xs := RdIs.more (by simp) (ItC.row hlo h)
theorem RdI.maskup {lo lo' : Nat} {w w' : World} {v : Value} {x : Itm} (h : RdI (mask (lows lo) w) w.heap.size v x) (hl : lo' ≤ lo) (hb : ∀ j, lo ≤ j → j < w.heap.size → w'.heap[j]? = w.heap[j]?) (hs : w.heap.size ≤ w'.heap.size) : RdI (mask (lows lo') w') w'.heap.size v x :=
  h.mask_go hs (fun k hk hf => hb k (lows_f.1 hf) hk) (fun _ _ hf => lows_f.2 (Nat.le_trans hl (lows_f.1 hf)))
end Go.Proofs.YtlecbblmaadpiaaGreatDoor
