/- Put and Get of layer 1's reference; append as a step. (ShaE without Hex.) -/
import Derived.Test.YtahgaogmcffglaaDoorJBase
import Derived.Test.YtahgaogmcffglaaDoorJCrcR
import Derived.Test.YtahgaogmcffglaaDoorJNumB
import Derived.Test.YtahgaogmcffglaaDoorJOwn
import Derived.Test.YtahgaogmcffglaaDoorJRecO
import Derived.Test.YtahgaogmcffglaaDoorJRfA
import Derived.Deep.Draws
import Derived.RegionTactic
import Derived.Deep.RegionLawGrows
import Derived.Laws.Rows
import Derived.Deep.CutRange
import Derived.Deep.DeepCutAuto
import Derived.Laws.CopyOwn
import Derived.Laws.Tables
namespace Go.Proofs.YtahgaogmcffglaaDoor
open Go.RowKit

/-- A call gives back a slice of its own that reads as l, and leaves what was there. -/
def GivesO (t : TypeId) (l : List UInt8) (w : World) (e : Ending) (w' : World) : Prop := ∃ v, e = .returned v ∧ Ob w' w.heap.size t v l ∧ Below w.heap.size w w'

theorem be_take (x n k : Nat) (hk : k < n) : (be x n).take (k + 1) = (be x n).take k ++ [UInt8.ofNat (x / 256 ^ (n - 1 - k))] := by
  rw [take_more _ _ (by rw [be_length]; exact hk)]
  simp [be, List.getD, hk]
theorem one_byte (x : Int) (h0 : 0 ≤ x) (s : Nat) : #[Value.int .u8 (x / 2 ^ (8 * s) % 256)] = (([UInt8.ofNat (x.toNat / 256 ^ s)] : List UInt8).map fun u => Value.int .u8 (u.toNat : Int)).toArray := by
  rw [byte_at_pow x h0 s]; rfl

/-- append at a step of a region that draws its order, and what else it leaves. -/
theorem step_appG {P : Program} {w : World} {ops : Array Oper} {o : Oper} {a : Act} {K : Act → World → Prop} {Q : Exit → Act → World → Prop} {E : Prop} (hgd : o.guard = none) (s x : Operand) (t : TypeId)
    (ho : o.op = .call { callee := .builtin .append, args := #[s, x], argTypes := #[t, t] })
    (base : Nat) (e : TypeId) (ht : P.underlying t = some (.slice e)) (hinfo : (P.info? e).map (fun i => (i.zero, i.size, i.bytes)) = some (some (.int .u8 0), 1, 1))
    (v : Value) (l : List UInt8) (hs : a.eval s = v) (hown : Ob w base e v l) (B : Nat) (A : Option Addr) (m c : Nat) (news : List UInt8) (hx : a.eval x = .slice A m c) (hr : Rd w B A m news)
    (hbound : l.length + m ≤ 140737488355328) (hbase : base ≤ w.heap.size)
    (h : ∀ v' w', Ob w' base e v' (l ++ news) → w.grownBy w' v.ownBlock → K (a.put o.dst v') w') : if Region.wanted o (yielded ops a.tmps) = true then Oper.wp P o a w K Q else E := by
  have hw : Region.wanted o (yielded ops a.tmps) = true := by simp [Region.wanted, hgd]
  rw [if_pos hw]
  obtain ⟨v', w', hrun, h2, h3, h4⟩ := run_app (P := P) w base t o.type e ht hinfo v l hown B A m c news hr hbound hbase
  unfold Oper.wp execOp
  simp only [ho, resolve, invoke, builtin, Sem.run_bind, Sem.run_pure, Result.andThen_ok, List.map_toArray, List.map_cons, List.map_nil, hs, hx, hrun]
  exact h v' w' h2 h3
theorem Rd.grown {w w' : World} {B n : Nat} {A : Option Addr} {l : List UInt8} {row : Option Nat} (h : Rd w B A n l) (hg : w.grownBy w' row) (hB : B ≤ w.heap.size) (hne : ∀ b o, A = some ⟨b, o, none⟩ → row ≠ some b) : Rd w' B A n l :=
  ⟨h.1, fun hn => by
    obtain ⟨b, o, e, hb, hc⟩ := h.2 hn
    refine ⟨b, o, e, hb, fun i hi => ?_⟩
    rw [← hc i hi]
    simp only [World.cell?]
    rw [hg.block b (by omega) (fun h => hne b o e h.symm)]⟩

theorem grown_trans {w0 W w' : World} {t : TypeId} {v : Value} {l : List UInt8} (hg : W.grownBy w' v.ownBlock) (hown : Ob W w0.heap.size t v l) (hb : Below w0.heap.size w0 W) : Below w0.heap.size w0 w' :=
  hb.trans ⟨hg.os, hg.tape, hg.output, hg.size, fun k hk => hg.block k (Nat.lt_of_lt_of_le hk hb.size) (fun e => by have := (World.ownsRow.lt hown k e.symm).1; omega)⟩

/-- The digits of bytes. -/
def dgt (x : Nat) : UInt8 := if x < 10 then UInt8.ofNat (48 + x) else UInt8.ofNat (87 + x)
def hexL (l : List UInt8) : List UInt8 := l.flatMap fun x => [dgt (x.toNat / 16), dgt (x.toNat % 16)]
end Go.Proofs.YtahgaogmcffglaaDoor
/- Layer 14's reference: right, Size. -/
namespace Go.Proofs.YtahgaogmcffglaaDoor
open Go.RowKit

theorem cell_alloc2 (w : World) (c0 c1 : Value) (t : TypeId) : (w.alloc (.cells #[c0, c1] t)).cell? ⟨w.heap.size, 1, none⟩ = some c1 := by
  have h := heap_alloc_new w (.cells #[c0, c1] t)
  rw [cell_of_row (w.alloc (.cells #[c0, c1] t)) w.heap.size 1 _ _ _ h]
  rfl
set_option maxRecDepth 100000 in
set_option maxHeartbeats 1000000 in
theorem rright_any (t : Int) (A : Option Addr) (n c : Nat) (d : List UInt8) (w : World) (hd : d.length = n) :
    Calls Tryd.prog 43 #[recV t A n c] w fun e w' => e = .returned (.bool (rokR ⟨t, d⟩)) ∧ Below w.heap.size w w' := by
  have HB : Hid (Below w.heap.size w (w.alloc (.cells #[.int .i64 t, .slice A n c] 35))) := (Below.refl _ _).alloc (Nat.le_refl _) _
  unfold recV
  by_cases h1 : 1 ≤ t
  case neg =>
    have HR : Hid (rokR ⟨t, d⟩ = false) := by show _ = _; simp [rokR, h1]
    rw [HR.out]
    clear hd
    go_enter Tryd.func43, Tryd.ntmps43
    go_wp2_with fail
    go_ret
    exact ⟨rfl, HB.out⟩
  by_cases h2 : t ≤ 255
  case neg =>
    have HR : Hid (rokR ⟨t, d⟩ = false) := by show _ = _; simp [rokR, h2]
    rw [HR.out]
    clear hd
    go_enter Tryd.func43, Tryd.ntmps43
    go_wp2_with fail
    go_ret
    exact ⟨rfl, HB.out⟩
  by_cases h3 : n ≤ 8192
  · have h3i : (n : Int) ≤ 8192 := by omega
    have HR : Hid (rokR ⟨t, d⟩ = true) := rokR_iff.2 ⟨h1, h2, by show d.length ≤ _; omega⟩
    rw [HR.out]
    clear hd h3
    go_enter Tryd.func43, Tryd.ntmps43
    go_wp2_with fail
    go_ret
    exact ⟨rfl, HB.out⟩
  · have h3i : ¬ (n : Int) ≤ 8192 := by omega
    have HR : Hid (rokR ⟨t, d⟩ = false) := by
      show _ = _
      have : ¬ d.length ≤ 8192 := by omega
      simp [rokR, this]
    rw [HR.out]
    clear hd h3
    go_enter Tryd.func43, Tryd.ntmps43
    go_wp2_with fail
    go_ret
    exact ⟨rfl, HB.out⟩
set_option maxRecDepth 100000 in
set_option maxHeartbeats 1000000 in
theorem rsize_any (t : Int) (A : Option Addr) (n c : Nat) (d : List UInt8) (w : World) (hd : d.length = n) (hn : n ≤ 140737488355328) :
    Calls Tryd.prog 18 #[recV t A n c] w fun e w' => e = .returned (.int .i64 (if rokR ⟨t, d⟩ = true then (n : Int) + 7 else 0)) ∧ Below w.heap.size w w' := by
  have hb : Below w.heap.size w (w.alloc (.cells #[.int .i64 t, .slice A n c] 35)) := (Below.refl _ _).alloc (Nat.le_refl _) _
  have HB := Lib.hid hb
  have CR := Lib.hid (rright_any t A n c d (w.alloc (.cells #[.int .i64 t, .slice A n c] 35)) hd)
  have z1 := cell_alloc2 w (.int .i64 t) (.slice A n c) 35
  have Z1 := Lib.hid z1
  unfold recV at *
  cases hr : rokR ⟨t, d⟩ with
  | true =>
    rw [hr] at CR
    rw [if_pos rfl]
    clear hd hr hb z1
    go_enter Tryd.func18, Tryd.ntmps18
    go_wp2_with fail
    refine CR.out.mono ?_
    rintro e w1 ⟨rfl, hb1⟩
    have q1 : w1.cell? ⟨w.heap.size, 1, none⟩ = some (.slice A n c) := (hb1.cell (p := ⟨w.heap.size, 1, none⟩) (by simp)).trans Z1.out
    have B1 := Lib.hid (HB.out.trans (hb1.mono (by simp)))
    clear hb1
    go_wp2_with fail
    go_ret
    exact ⟨rfl, B1.out⟩
  | false =>
    rw [hr] at CR
    rw [if_neg (by decide)]
    clear hd hr hb z1
    go_enter Tryd.func18, Tryd.ntmps18
    go_wp2_with fail
    refine CR.out.mono ?_
    rintro e w1 ⟨rfl, hb1⟩
    have B1 := Lib.hid (HB.out.trans (hb1.mono (by simp)))
    clear hb1
    go_wp2_with fail
    go_ret
    exact ⟨rfl, B1.out⟩
end Go.Proofs.YtahgaogmcffglaaDoor
/- Layer 14's reference: Frame. (Made by gen/RecG.py.) -/
namespace Go.Proofs.YtahgaogmcffglaaDoor
open Go.RowKit

/-- What Frame answers. -/
def FrmR (salt : Nat) (r : Rcd) (w : World) (e : Ending) (w' : World) : Prop := Below w.heap.size w w' ∧ ∃ (v : Value) (z : Int), e = .returned (.tuple #[v, .int .i64 z]) ∧ z = (if rokR r = true then 0 else 140) ∧ Ob w' w.heap.size 5 v (if rokR r = true then frameR salt r else [])
theorem Ob.wide {w : World} {base base' : Nat} {t : TypeId} {v : Value} {l : List UInt8} (h : Ob w base t v l) (hb : base' ≤ base) : Ob w base' t v l := by
  refine ⟨h.1, ?_⟩
  rcases h.2 with hn | ⟨g, cap, cur, e, hg, rest⟩
  · exact .inl hn
  · exact .inr ⟨g, cap, cur, e, Nat.le_trans hb hg, rest⟩
theorem byte_of (t : Int) (h1 : 1 ≤ t) (h2 : t ≤ 255) : IntKind.u8.wrap t = ((UInt8.ofNat t.toNat).toNat : Int) := by
  rw [show IntKind.u8.wrap t = t % 256 from rfl, UInt8.toNat_ofNat']
  omega

end Go.Proofs.YtahgaogmcffglaaDoor
/- Layer 14's reference: Next, where it says no at once. (Made by gen/RecH.py.) -/
namespace Go.Proofs.YtahgaogmcffglaaDoor
open Go.RowKit

/-- What Next answers. -/
def NexR (salt : Nat) (l : List UInt8) (w : World) (e : Ending) (w' : World) : Prop := Below w.heap.size w w' ∧ ∃ A n c, e = .returned (.tuple #[recV (nextR salt l).1.typ A n c, .int .i64 ((nextR salt l).2.1 : Int), .int .i64 (nextR salt l).2.2]) ∧ Ob w' w.heap.size 5 (.slice A n c) (nextR salt l).1.dat
theorem nexR_no {salt : Nat} {l : List UInt8} {w w' : World} {e : Ending} {z : Int} (h : nextR salt l = (.zero, 0, z)) (hb : Below w.heap.size w w') (he : e = .returned (.tuple #[.agg #[.int .i64 0, .slice none 0 0], .int .i64 0, .int .i64 z])) : NexR salt l w e w' := by
  refine ⟨hb, none, 0, 0, ?_, ?_⟩
  · rw [he, h]; rfl
  · rw [h]; exact Ob.nil_ _ _ _
theorem below_put2 {B g : Nat} {w W' : World} {u0 u1 : Value} (h : Below B w W') (hg : B ≤ g) : Below B w ((W'.setCell ⟨g, 0, none⟩ u0).setCell ⟨g, 1, none⟩ u1) := (h.setCell (p := ⟨g, 0, none⟩) hg _).setCell (p := ⟨g, 1, none⟩) hg _
theorem row2 {W : World} {g : Nat} {c0 c1 : Value} {t : TypeId} (h : W.heap[g]? = some (.cells #[c0, c1] t (0, 0))) :
    (W.cell? ⟨g, 0, none⟩ = some c0 ∧ W.cell? ⟨g, 1, none⟩ = some c1) ∧ W.frozen? ⟨g, 0, none⟩ = false ∧ W.frozen? ⟨g, 1, none⟩ = false := by
  refine ⟨⟨?_, ?_⟩, ?_, ?_⟩ <;> simp [World.cell?, World.frozen?, h]
theorem cut_lh14 {P : Program} {w : World} {B n : Nat} {A : Option Addr} {l : List UInt8} (t e : TypeId) (ht : P.underlying t = some (.slice e)) (hz : ∀ W : World, (sizeOf e).run P W = .ok 1 W) (c : Nat) (h : Rd w B A n l) (x y : Int) (i j : Nat) (hx : x = (i : Int)) (hy : y = (j : Int)) (hij : i ≤ j) (hj : j ≤ n) (hc : n ≤ c) (hi : i < n) :
    ∃ A' c', (∀ W : World, (Instr.slice t (.slice A n c) (some (.int .i64 x)) (some (.int .i64 y)) none).run P W = .ok (.slice A' (j - i) c') W) ∧ j - i ≤ c' ∧ c' ≤ c ∧ Rd w B A' (j - i) ((l.drop i).take (j - i)) := by
  subst hx hy
  refine ⟨A.map (·.add i), c - i, fun W => ?_, by omega, by omega, (h.cut (k := i)).take (by omega)⟩
  have h1 : ¬ c = i := by omega
  have h2 : j ≤ c := by omega
  have h3 : i ≤ j := by omega
  go_simp

end Go.Proofs.YtahgaogmcffglaaDoor
/- Layer 14's reference: Next, where a record may stand. (Made by gen/RecI.py.) -/
namespace Go.Proofs.YtahgaogmcffglaaDoor
open Go.RowKit

theorem step_st2 {P : Program} {w : World} {ops : Array Oper} {o : Oper} {a : Act} {K : Act → World → Prop} {Q : Exit → Act → World → Prop} {E : Prop} (hgd : o.guard = none) (ty : TypeId) (x y : Operand) (ho : o.op = .store ty x y)
    (g : Nat) (v0 v1 : Value) (hx : a.eval x = .pointer (some ⟨g, 0, none⟩)) (hy : a.eval y = .agg #[v0, v1]) (t : TypeId) (old : Array Value) (hg : w.heap[g]? = some (.cells old t (0, 0)))
    (hi : (P.info? ty).map (·.size) = some 2) (hold : old.size = 2) (h1 : ([v0, v1] : List Value).all (·.oneCell') = true)
    (h : ∀ W', W'.heap[g]? = some (.cells #[v0, v1] t (0, 0)) → (∀ (B : Nat) (w0 : World), Below B w0 w → B ≤ g → Below B w0 W') → W'.heap.size = w.heap.size → (∀ j, j ≠ g → W'.heap[j]? = w.heap[j]?) → K (a.put o.dst undef) W') :
    if Region.wanted o (yielded ops a.tmps) = true then Oper.wp P o a w K Q else E := by
  have hw : Region.wanted o (yielded ops a.tmps) = true := by simp [Region.wanted, hgd]
  rw [if_pos hw]
  exact wp_store_row ty x y ho g #[v0, v1] hx hy t old hg hi hold (Array.all_eq_true_iff_forall_mem.2 fun v hv => List.all_eq_true.1 h1 v (by simpa using hv))
    (h _ (setRow_heap w g old _ t _ hg) (fun B w0 hb hB => below_setRow hb hB _) (setRow_size w g _) (fun j hj => setRow_other w g j _ hj))
theorem Ob.not_at14 {B g : Nat} {w : World} {t t' : TypeId} {v : Value} {l : List UInt8} {cs : Array Value} {fr : Nat × Nat} (h : Ob w B t v l) (hx : w.heap[g]? = some (.cells cs t' fr)) (hne : t ≠ t') : v.ownBlock ≠ some g := by
  rcases h.2 with ⟨hv, -⟩ | ⟨b, cap, cur, hv, hb, hg, -⟩
  · rw [hv]
    intro e
    cases e
  · rw [hv]
    intro e
    have e : some b = some g := e
    injection e with e
    subst e
    rw [hx] at hg
    injection hg with hg
    injection hg with _ hg _
    exact hne hg.symm
theorem Ob.far14 {B g : Nat} {w W' : World} {t : TypeId} {v : Value} {l : List UInt8} (h : Ob w B t v l) (hne : v.ownBlock ≠ some g) (hk : ∀ j, j ≠ g → W'.heap[j]? = w.heap[j]?) : Ob W' B t v l := by
  refine ⟨h.1, ?_⟩
  rcases h.2 with hn | ⟨b, cap, cur, rfl, hb, hg, rest⟩
  · exact .inl hn
  · exact .inr ⟨b, cap, cur, rfl, hb, (hk b (fun e => hne (by rw [e]; rfl))).trans hg, rest⟩

end Go.Proofs.YtahgaogmcffglaaDoor
