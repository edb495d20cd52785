/- Bundles and blocks that come in as arguments, opened. (Made by gen/bun.py.) -/
import Derived.Test.YtanbjifdcplmnaaGreatDoorRBunS
import Derived.Test.YtanbjifdcplmnaaGreatDoorRCborDt
import Derived.Test.YtanbjifdcplmnaaGreatDoorRLaidE
import Derived.Deep.Slices
import Derived.Test.YtanbjifdcplmnaaGreatDoorCards
import Derived.Test.YtanbjifdcplmnaaGreatDoorTie
import Derived.LaidLaws
import Derived.Lay
import Derived.LaidSub
import Derived.LaidHandle
import Derived.ChangeArms
namespace Go.Proofs.YtanbjifdcplmnaaGreatDoor
open Go.RowKit Go.ChangeShapes Go.WideShapes Go.ChangeAt Go.Deep

section
variable {H : Type} {enc : TypeId × Value → H} {w : World}
theorem cEid : Tryz.prog.cellsOf 46 = 4 := by kernel_rfl
theorem cStr : Tryz.prog.cellsOf 9 = 1 := by kernel_rfl
theorem cSch : Tryz.prog.cellsOf 44 = 1 := by kernel_rfl
theorem bU8 : Tryz.prog.bytesOf 5 = 1 := by kernel_rfl
theorem bBlk : 1 ≤ Tryz.prog.bytesOf 25 := of_decide_eq_true (by kernel_rfl)
theorem weightsAll_mem {e : TypeId} : ∀ (l : List (DataW H)) (i : Nat) (hi : i < l.length) (x : Nat), x ∈ DataW.weights Tryz.prog e (l[i]'hi) → x ∈ DataW.weightsAll Tryz.prog e l
  | [], _, hi, _, _ => absurd hi (Nat.not_lt_zero _)
  | d :: r, 0, _, x, h => by rw [DataW.weightsAll]; exact List.mem_append.2 (.inl h)
  | d :: r, i + 1, hi, x, h => by rw [DataW.weightsAll]; exact List.mem_append.2 (.inr (weightsAll_mem r i (by simpa using hi) x (by simpa using h)))

set_option maxRecDepth 100000 in
/-- An endpoint's cells that are read. -/
theorem open_eidc {fuel : Nat} {cs : List Value} {y : DataW H × List MemPlace} (h : DataW.trod enc Tryz.prog w 0 (fun _ => true) true fuel 46 cs = some y) (hw : ∀ x ∈ DataW.weights Tryz.prog 46 y.1, x ≤ reachBytes) :
    ∃ (sc : Int) (s : ByteArray) (n v : Nat), cs = [.int .i64 sc, .string s, .int .u64 (n : Int), .int .u64 (v : Int)] ∧ s.size ≤ 140737488355328 ∧ n < 18446744073709551616 ∧ v < 18446744073709551616 := by
  obtain ⟨xs, n, rfl, rfl, hl, hlen, hf⟩ := DataW.trod_struct Tryz.underlying46 h
  rw [cEid] at hl
  match xs, hlen, cs, hl with
  | [y0, y1, y2, y3], _, [c0, c1, c2, c3], _ =>
    have g0 := hf 0 _ rfl
    have g1 := hf 1 _ rfl
    have g2 := hf 2 _ rfl
    have g3 := hf 3 _ rfl
    simp [cStr, cSch, cellsU64] at g0 g1 g2 g3
    obtain ⟨sc, e0, rfl, w0⟩ := DataW.trod_int Tryz.underlying44 g0
    obtain ⟨s, e1, rfl, w1⟩ := DataW.trod_string Tryz.underlying9 g1
    obtain ⟨a2, e2, rfl, w2⟩ := DataW.trod_int Tryz.underlying23 g2
    obtain ⟨a3, e3, rfl, w3⟩ := DataW.trod_int Tryz.underlying23 g3
    simp only [List.cons.injEq, and_true] at e0 e1 e2 e3
    subst e0 e1 e2 e3
    have hz : s.size ≤ 140737488355328 := by
      have h := hw s.data.toList.length (by simp [DataW.weights, Tryz.underlying46, DataW.weightsEach])
      have e : s.data.toList.length = s.size := by simp
      rw [e] at h
      exact Nat.le_trans h (by decide)
    obtain ⟨q2, hq2, rfl⟩ : ∃ g : Nat, g < 18446744073709551616 ∧ a2 = (g : Int) := ⟨a2.toNat, by have h := wfU w2; omega, by have h := wfU w2; omega⟩
    obtain ⟨q3, hq3, rfl⟩ : ∃ g : Nat, g < 18446744073709551616 ∧ a3 = (g : Int) := ⟨a3.toNat, by have h := wfU w3; omega, by have h := wfU w3; omega⟩
    exact ⟨sc, s, q2, q3, rfl, hz, hq2, hq3⟩

set_option maxRecDepth 100000 in
/-- A block's cells that are read. -/
theorem open_blkc {fuel : Nat} {cs : List Value} {y : DataW H × List MemPlace} (h : DataW.trod enc Tryz.prog w 0 (fun _ => true) true fuel 25 cs = some y) (hw : ∀ x ∈ DataW.weights Tryz.prog 25 y.1, x ≤ reachBytes) :
    ∃ (b : Blk) (A : Option Addr) (nd cd : Nat), cs = [.int .u64 (b.typ : Int), .int .u64 (b.num : Int), .int .u64 (b.flg : Int), .int .i64 b.crc, .slice A nd cd] ∧ Bd b ∧ (nd ≤ cd ∧ nd ≤ 140737488355328) ∧ Rd w w.heap.size A nd b.dat := by
  obtain ⟨xs, n, rfl, rfl, hl, hlen, hf⟩ := DataW.trod_struct Tryz.underlying25 h
  rw [cellsBlk] at hl
  match xs, hlen, cs, hl with
  | [y0, y1, y2, y3, y4], _, [c0, c1, c2, c3, c4], _ =>
    have g0 := hf 0 _ rfl
    have g1 := hf 1 _ rfl
    have g2 := hf 2 _ rfl
    have g3 := hf 3 _ rfl
    have g4 := hf 4 _ rfl
    simp [cellsU64, cellsInt, cellsBy] at g0 g1 g2 g3 g4
    obtain ⟨a0, e0, rfl, w0⟩ := DataW.trod_int Tryz.underlying23 g0
    obtain ⟨a1, e1, rfl, w1⟩ := DataW.trod_int Tryz.underlying23 g1
    obtain ⟨a2, e2, rfl, w2⟩ := DataW.trod_int Tryz.underlying23 g2
    obtain ⟨a3, e3, rfl, w3⟩ := DataW.trod_int Tryz.underlying3 g3
    simp only [List.cons.injEq, and_true] at e0 e1 e2 e3
    subst e0 e1 e2 e3
    obtain ⟨q0, hq0, rfl⟩ : ∃ g : Nat, g < 18446744073709551616 ∧ a0 = (g : Int) := ⟨a0.toNat, by have h := wfU w0; omega, by have h := wfU w0; omega⟩
    obtain ⟨q1, hq1, rfl⟩ : ∃ g : Nat, g < 18446744073709551616 ∧ a1 = (g : Int) := ⟨a1.toNat, by have h := wfU w1; omega, by have h := wfU w1; omega⟩
    obtain ⟨q2, hq2, rfl⟩ : ∃ g : Nat, g < 18446744073709551616 ∧ a2 = (g : Int) := ⟨a2.toNat, by have h := wfU w2; omega, by have h := wfU w2; omega⟩
    rcases open_ints Tryz.underlying22 Tryz.underlying5 (by kernel_rfl) g4 with ⟨hcs, _⟩ | ⟨x, l, c, zs, hcs, _, hlc, hm, hz, hd, hcell, hwz⟩
    · simp only [List.cons.injEq, and_true] at hcs
      subst hcs
      exact ⟨⟨q0, q1, q2, a3, []⟩, none, 0, 0, rfl, ⟨hq0, hq1, hq2⟩, ⟨Nat.le_refl _, Nat.zero_le _⟩, Rd.nil_⟩
    · simp only [List.cons.injEq, and_true] at hcs
      subst hcs
      have hz' : zs.length = c := by simpa using hz
      have hb : c ≤ 140737488355328 := by
        subst hd
        have h := hw c (by
          simp [DataW.weights, Tryz.underlying25, Tryz.underlying22, DataW.weightsEach, bU8, lits]
          omega)
        exact Nat.le_trans h (by decide)
      exact ⟨⟨q0, q1, q2, a3, _⟩, some x, l, c, rfl, ⟨hq0, hq1, hq2⟩, ⟨hlc, by omega⟩, Rd.of_ints hlc hz' hcell hwz⟩

/-- Blocks chosen for each element. -/
theorem pick_blk : ∀ (n : Nat) (P : Nat → Blk → Prop), (∀ i, i < n → ∃ x, P i x) → ∃ l : List Blk, l.length = n ∧ ∀ i (hi : i < l.length), P i (l[i]'hi)
  | 0, P, _ => ⟨[], rfl, fun i hi => absurd hi (Nat.not_lt_zero _)⟩
  | n + 1, P, h => by
    obtain ⟨x, hx⟩ := h 0 (by omega)
    obtain ⟨l, h1, h2⟩ := pick_blk n (fun i => P (i + 1)) (fun i hi => h (i + 1) (by omega))
    refine ⟨x :: l, by simp [h1], fun i hi => ?_⟩
    cases i with
    | zero => exact hx
    | succ i => exact h2 i (by simpa using hi)

set_option maxRecDepth 100000 in
theorem arr18 {α : Type} {cs : Array α} (h : cs.size = 18) : ∃ c0 c1 c2 c3 c4 c5 c6 c7 c8 c9 c10 c11 c12 c13 c14 c15 c16 c17, cs = #[c0, c1, c2, c3, c4, c5, c6, c7, c8, c9, c10, c11, c12, c13, c14, c15, c16, c17] := by
  obtain ⟨l⟩ := cs
  match l, h with
  | [c0, c1, c2, c3, c4, c5, c6, c7, c8, c9, c10, c11, c12, c13, c14, c15, c16, c17], _ => exact ⟨c0, c1, c2, c3, c4, c5, c6, c7, c8, c9, c10, c11, c12, c13, c14, c15, c16, c17, rfl⟩
end

/-- An argument that is a block. -/
def BlkIn2 (w : World) (b : Blk) (A : Option Addr) (nd cd : Nat) : Prop := Bd b ∧ (nd ≤ cd ∧ nd ≤ 140737488355328) ∧ Rd w w.heap.size A nd b.dat
set_option maxRecDepth 100000 in
theorem open_blk2 {H : Type} {enc : TypeId × Value → H} {W : World} {r : Reach} {b0 : Nat} {v : Value} {d : DataW H} {p : List MemPlace} (hv : Value.okWide Tryz.prog W r b0 25 v) (h : DataW.Trod enc Tryz.prog W 0 (fun _ => true) true 25 v d p) (hw : ∀ x ∈ DataW.weights Tryz.prog 25 d, x ≤ reachBytes) :
    ∃ (b : Blk) (A : Option Addr) (nd cd : Nat), v = blkV b.typ b.num b.flg b.crc A nd cd ∧ BlkIn2 W b A nd cd := by
  obtain ⟨cs, rfl, hsz⟩ := okWide_struct Tryz.underlying25 hv
  obtain ⟨fuel, hf⟩ := h
  obtain ⟨b, A, nd, cd, hcs, h1⟩ := open_blkc hf hw
  have e : cs = #[.int .u64 (b.typ : Int), .int .u64 (b.num : Int), .int .u64 (b.flg : Int), .int .i64 b.crc, .slice A nd cd] := by have h := congrArg List.toArray hcs; simpa [Value.cells] using h
  subst e
  exact ⟨b, A, nd, cd, rfl, h1⟩
/-- An argument that is a bundle. -/
def BunIn (w : World) (h : BH) (l : List Blk) (A : Option Addr) (n c : Nat) : Prop := h.Bd ∧ RdL w w.heap.size A n l ∧ n ≤ c

end Go.Proofs.YtanbjifdcplmnaaGreatDoor
/- What the listed variables of layer 6's rows give: the handle of the type 'error', and the four sentinels of layer 4; and a world that holds them all. -/
namespace Go.Proofs.YtanbjifdcplmnaaGreatDoor
open Go.RowKit

def laidU : List (String × DataW Unit) := [("errors.errorType", Rows.laid_errors_errorType), ("fairlead/eid.errScheme", Rows.laid_fairlead_eid_errScheme), ("fairlead/eid.errName", Rows.laid_fairlead_eid_errName), ("fairlead/eid.errNumber", Rows.laid_fairlead_eid_errNumber), ("fairlead/eid.errForm", Rows.laid_fairlead_eid_errForm)]
def laidL : List (String × DataW Unit) := [("fairlead/eid.errScheme", Rows.laid_fairlead_eid_errScheme), ("fairlead/eid.errName", Rows.laid_fairlead_eid_errName), ("fairlead/eid.errNumber", Rows.laid_fairlead_eid_errNumber), ("fairlead/eid.errForm", Rows.laid_fairlead_eid_errForm)]

theorem gS : Tryz.prog.globalNamed "fairlead/eid.errScheme" = some 2 := by kernel_rfl
theorem gN : Tryz.prog.globalNamed "fairlead/eid.errName" = some 3 := by kernel_rfl
theorem gU : Tryz.prog.globalNamed "fairlead/eid.errNumber" = some 4 := by kernel_rfl
theorem gF : Tryz.prog.globalNamed "fairlead/eid.errForm" = some 1 := by kernel_rfl
theorem gtS : (Tryz.prog.globals[2]?).map (·.type) = some 60 := by kernel_rfl
theorem gtN : (Tryz.prog.globals[3]?).map (·.type) = some 60 := by kernel_rfl
theorem gtU : (Tryz.prog.globals[4]?).map (·.type) = some 60 := by kernel_rfl
theorem gtF : (Tryz.prog.globals[1]?).map (·.type) = some 60 := by kernel_rfl
theorem cellsEs : Tryz.prog.cellsOf 219 = 1 := by kernel_rfl
theorem cellsSt : Tryz.prog.cellsOf 9 = 1 := by kernel_rfl
theorem starE : "*" ++ "errors.errorString" = "*errors.errorString" := by decide
theorem rowE (u : TypeId) (h : Tryz.prog.typeName? 3 u = some "*errors.errorString") : u = 198 :=
  typeName_ptr_named (nm := "errors.errorString") (by rw [starE]; kernel_rfl) (by kernel_rfl) (by decide) u (by rw [starE]; exact h)

set_option maxRecDepth 1000000 in
/-- One sentinel's cell, and where its text lies. -/
theorem one_of {W : World} {n : String} {g : Nat} {text : List UInt8} {t : TypeId} {cs : Array Value} {fuel : Nat} {p : List MemPlace} {ps : List MemPlace}
    (hg : Tryz.prog.globalNamed n = some g) (ht : (Tryz.prog.globals[g]?).map (·.type) = some 60) (ht' : (Tryz.prog.globals[g]?).map (·.type) = some t) (hv : W.var? Tryz.prog n = some cs)
    (hd : DataW.trod (fun _ => ()) Tryz.prog W 0 (fun _ => true) false fuel t cs.toList = some (.iface "*errors.errorString" (.ptr (.agg [.lit (.string text)])), p))
    (hrows : ∀ b off, MemPlace.cell b off ∈ ps → (∃ c t, W.heap[b]? = some (.cells c t (0, 0))) ∧ ∀ u v, W.cell? ⟨b, off, none⟩ = some (.iface u v) → Value.okWide Tryz.prog W .any 0 u v)
    (hin : ∀ x ∈ MemPlace.row ⟨g, 0, none⟩ cs.size ++ p, x ∈ ps) :
    ∃ a : Addr, cs = #[snt a] ∧ p = MemPlace.row a 1 ∧ W.cell? ⟨g, 0, none⟩ = some (snt a) ∧ ∃ c t, W.heap[a.block]? = some (.cells c t (0, 0)) := by
  obtain rfl := Option.some.inj (ht.symm.trans ht')
  obtain ⟨l⟩ := cs
  have ok : ∀ u v, l = [.iface u v] → Value.okWide Tryz.prog W .any 0 u v := fun u v e => by
    subst e
    exact (hrows g 0 (hin _ (by simp [MemPlace.row]))).2 u v (by simpa using World.var?_cell hg hv 0)
  obtain ⟨a, s, rfl, hc, -, -, rfl⟩ := errorString_of_trod Tryz.underlying60 rowE Tryz.underlying198 Tryz.underlying219 rfl rfl Tryz.underlying9 cellsEs cellsSt hd ok
  obtain ⟨c, t, hb⟩ := (hrows a.block a.off (hin _ (by simp [MemPlace.row]))).1
  exact ⟨a, rfl, rfl, by simpa [snt] using World.var?_cell hg hv 0, c, t, hb⟩

set_option maxRecDepth 1000000 in
theorem lds_of {W : World} (h : laidMet Tryz.prog laidL W) : ∃ A, Lds A W := by
  obtain ⟨ps, hv, hnd, hrows⟩ := h
  unfold laidL at hv
  simp only [DataW.LaidVars] at hv
  obtain ⟨g6, t6, c6, f6, p6, q6, hg6, ht6, hw6, hd6, ⟨g7, t7, c7, f7, p7, q7, hg7, ht7, hw7, hd7, ⟨g8, t8, c8, f8, p8, q8, hg8, ht8, hw8, hd8, ⟨g9, t9, c9, f9, p9, q9, hg9, ht9, hw9, hd9, e9, e8'⟩, e8⟩, e7⟩, e6⟩ := hv
  obtain rfl := Option.some.inj (gS.symm.trans hg6)
  obtain rfl := Option.some.inj (gN.symm.trans hg7)
  obtain rfl := Option.some.inj (gU.symm.trans hg8)
  obtain rfl := Option.some.inj (gF.symm.trans hg9)
  subst e9 e8' e8 e7 e6
  obtain ⟨a6, rfl, rfl, k6, r6⟩ := one_of gS gtS ht6 hw6 hd6 hrows (fun x hx => by simp only [List.mem_append] at hx ⊢; rcases hx with h | h <;> simp only [h, true_or, or_true])
  obtain ⟨a7, rfl, rfl, k7, r7⟩ := one_of gN gtN ht7 hw7 hd7 hrows (fun x hx => by simp only [List.mem_append] at hx ⊢; rcases hx with h | h <;> simp only [h, true_or, or_true])
  obtain ⟨a8, rfl, rfl, k8, r8⟩ := one_of gU gtU ht8 hw8 hd8 hrows (fun x hx => by simp only [List.mem_append] at hx ⊢; rcases hx with h | h <;> simp only [h, true_or, or_true])
  obtain ⟨a9, rfl, rfl, k9, r9⟩ := one_of gF gtF ht9 hw9 hd9 hrows (fun x hx => by simp only [List.mem_append] at hx ⊢; rcases hx with h | h <;> simp only [h, true_or, or_true])
  have n5 := hnd
  simp [MemPlace.row] at n5
  refine ⟨⟨a6, a7, a8, a9⟩, k6, k7, k8, k9, ?_, ?_⟩
  · rintro a (rfl | rfl | rfl | rfl)
    · exact r6
    · exact r7
    · exact r8
    · exact r9
  · refine ⟨fun e => ?_, fun e => ?_, fun e => ?_, fun e => ?_, fun e => ?_, fun e => ?_⟩ <;> (dsimp only at e; subst e; simp at n5)

set_option maxRecDepth 1000000 in
theorem wd_of {W : World} (h : laidMetH Tryz.prog laidU W) : ∃ S, Wd S W := by
  have h' : laidMet Tryz.prog laidL W ∧ handlesMet Tryz.prog [("errors.errorType", Rows.laid_errors_errorType)] W := h
  obtain ⟨S, hS⟩ := lds_of h'.1
  exact ⟨S, hS, laidE_of (show laidMetH Tryz.prog [("errors.errorType", Rows.laid_errors_errorType)] W from ⟨⟨[], rfl, List.nodup_nil, fun _ _ h => by cases h⟩, h'.2⟩)⟩

noncomputable def laidW (os : Os) : World := (laidWorld os).layVars Tryz.prog laidL
set_option maxRecDepth 1000000 in
theorem laidW_met (os : Os) (args : Array Value) : laidMet Tryz.prog laidL ((laidW os).forCall (fun _ _ => 0) ⟨#[], args, []⟩).memory := by
  have e1 : (laidL.filter fun x => (laidL.map (·.1)).contains x.1) = laidL := List.filter_eq_self.2 fun x hx => List.contains_iff_mem.2 (List.mem_map.2 ⟨x, hx, rfl⟩)
  have e2 : (laidL.filter fun x => !(laidL.map (·.1)).contains x.1) = [] := List.filter_eq_nil_iff.2 fun x hx => by rw [List.contains_iff_mem.2 (List.mem_map.2 ⟨x, hx, rfl⟩)]; simp
  have h : laidMet Tryz.prog laidL (laidW os) := laidMet_layVars (w0 := laidWorld os) (laidL.map (·.1)) [] (by rw [e1]; rfl) (by rw [e1]; kernel_rfl) (by rw [e1]; kernel_rfl) (by rw [e2]; exact LaidIn.none)
  exact h.of_heap (by simp [World.memory, World.forCall, Input.heap])
set_option maxRecDepth 1000000 in
theorem laidW_metH (os : Os) (args : Array Value) : laidMetH Tryz.prog laidU ((laidW os).forCall (fun _ _ => 0) ⟨#[], args, []⟩).memory :=
  laidMetH_of_parts (laidW_met os args) (by kernel_rfl)
end Go.Proofs.YtanbjifdcplmnaaGreatDoor
