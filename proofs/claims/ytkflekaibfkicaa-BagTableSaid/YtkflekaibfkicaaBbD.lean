/- The calls of the statement's own table. (Made by gen/bag/BbD.py.) -/
import Derived.Test.YtkflekaibfkicaaBbC
import Derived.Test.YtkflekaibfkicaaBbE
import Derived.Test.YtkflekaibfkicaaBbF
import Derived.Test.YtkflekaibfkicaaBbG
import Derived.Test.YtkflekaibfkicaaBbA
namespace Go.Proofs.Ytkflekaibfkicaa
open Go.RowKit

theorem RowAt.src1 {w : World} {g : Nat} {u : Value} (h : RowAt w g [u]) : Src w (.slice (some ⟨g, 0, none⟩) 1 1) [u] :=
  .inr ⟨g, 0, 1, rfl, Nat.le_refl _, h.1, fun j x hj => by rw [← addr_add]; exact h.2 j x hj⟩
theorem RowAt.grownV {w w' : World} {g : Nat} {row : Option Nat} {cs : List Value} (h : RowAt w g cs) (hg : w.grownBy w' row) (hne : row ≠ some g) : RowAt w' g cs :=
  ⟨Nat.lt_of_lt_of_le h.1 hg.size, fun j u hj => by rw [addr0, hg.cell_far ⟨g, j, none⟩ h.1 (fun e => hne e.symm), ← addr0]; exact h.2 j u hj⟩
theorem one_map {α : Type} {f : α → Value} (hf : ∀ x, (f x).oneCell' = true) (l : List α) : ∀ y ∈ l.map f, y.oneCell' = true := fun y hy => by
  obtain ⟨x, -, rfl⟩ := List.mem_map.1 hy
  exact hf x
theorem Ov.mono_base {w : World} {base base' : Nat} {e : TypeId} {v : Value} {xs : List Value} (h : Ov w base e v xs) (hb : base' ≤ base) : Ov w base' e v xs := by
  refine ⟨h.1, ?_⟩
  rcases h.2 with hn | ⟨b, cap, cur, rfl, hbb, rest⟩
  · exact .inl hn
  · exact .inr ⟨b, cap, cur, rfl, Nat.le_trans hb hbb, rest⟩
theorem set_pairs {l : List (Int × ByteArray)} {i : Nat} {k : Int} {v : ByteArray} (h : (l.map (·.1))[i]? = some k) :
    (l.take i ++ ([(k, v)] ++ l.drop (i + 1))).map (fun p => Value.int .i64 p.1) = l.map (fun p => Value.int .i64 p.1) ∧ (l.take i ++ ([(k, v)] ++ l.drop (i + 1))).map (fun p => Value.string p.2) = (l.map fun p => Value.string p.2).set i (.string v) := by
  have hil : i < l.length := by
    rcases Nat.lt_or_ge i l.length with h2 | h2
    · exact h2
    · rw [List.getElem?_map, List.getElem?_eq_none h2] at h; cases h
  rw [List.getElem?_map, List.getElem?_eq_getElem hil] at h
  have hk : l[i].1 = k := by injection h
  constructor
  · have e : l = l.take i ++ ([l[i]] ++ l.drop (i + 1)) := by (conv => lhs; rw [← List.take_append_drop i l, List.drop_eq_getElem_cons hil]); rfl
    have e2 := congrArg (List.map fun p : Int × ByteArray => Value.int .i64 p.1) e
    rw [List.map_append, List.map_append, List.map_singleton, hk] at e2
    rw [List.map_append, List.map_append, List.map_singleton]
    exact e2.symm
  · rw [List.set_eq_take_append_cons_drop, if_pos (by rw [List.length_map]; exact hil)]
    simp
/-- Block g holds a table of the pairs l; its rows lie in neither g nor q. -/
structure Ut (B : Nat) (w : World) (g q : Nat) (l : List (Int × ByteArray)) : Prop where
  le : B ≤ g
  lt : q < w.heap.size
  ne : g ≠ q
  fr0 : w.frozen? ⟨g, 0, none⟩ = false
  fr1 : w.frozen? ⟨g, 1, none⟩ = false
  st : ∃ vk vv, w.cell? ⟨g, 0, none⟩ = some vk ∧ w.cell? ⟨g, 1, none⟩ = some vv ∧ Ov w B 3 vk (l.map fun p => Value.int .i64 p.1) ∧ Ov w B 9 vv (l.map fun p => Value.string p.2) ∧ (∀ b, vk.ownBlock = some b → b ≠ g ∧ b ≠ q) ∧ (∀ b, vv.ownBlock = some b → b ≠ g ∧ b ≠ q) ∧ ∀ b, vk.ownBlock = some b → vv.ownBlock ≠ some b
theorem Ut.below {B g q : Nat} {w w' : World} {l : List (Int × ByteArray)} (h : Ut B w g q l) (hb : Below w.heap.size w w') : Ut B w' g q l := by
  obtain ⟨vk, vv, h1, h2, h3, h4, rest⟩ := h.st
  have hg := World.block_lt_of_cell? w ⟨g, 0, none⟩ h1
  have e := hb.block g hg
  exact ⟨h.le, Nat.lt_of_lt_of_le h.lt hb.size, h.ne, by rw [World.frozen?_of_block (w := w) e]; exact h.fr0, by rw [World.frozen?_of_block (w := w) e]; exact h.fr1, vk, vv, by rw [World.cell?_of_block (w := w) e]; exact h1, by rw [World.cell?_of_block (w := w) e]; exact h2, h3.below hb, h4.below hb, rest⟩
/-- A call that changes block q and no map, or maps and q alone. -/
theorem Ut.kpq {B B' g q : Nat} {t : Bool} {w w' : World} {l : List (Int × ByteArray)} (h : Ut B w g q l) (hk : Kp t B' q w w') : Ut B w' g q l := by
  obtain ⟨vk, vv, h1, h2, h3, h4, h5, h6, h7⟩ := h.st
  exact ⟨h.le, Nat.lt_of_lt_of_le h.lt hk.size, h.ne, (hk.frozen (p := ⟨g, 0, none⟩) h.ne h1).trans h.fr0, (hk.frozen (p := ⟨g, 1, none⟩) h.ne h2).trans h.fr1, vk, vv, hk.cell (p := ⟨g, 0, none⟩) h.ne h1, hk.cell (p := ⟨g, 1, none⟩) h.ne h2, h3.kp hk (fun b hb => (h5 b hb).2), h4.kp hk (fun b hb => (h6 b hb).2), h5, h6, h7⟩
/-- A block that came later. -/
theorem Ut.new {B g q z : Nat} {w w' : World} {l : List (Int × ByteArray)} (h : Ut B w g q l) (hb : Below w.heap.size w w') (h1 : w.heap.size ≤ z) (h2 : z < w'.heap.size) : Ut B w' g z l := by
  have hw := h.below hb
  obtain ⟨vk, vv, a1, a2, a3, a4, a5, a6, a7⟩ := h.st
  have hg := World.block_lt_of_cell? w ⟨g, 0, none⟩ a1
  have e := hb.block g hg
  exact ⟨h.le, h2, by show g ≠ z; have : g < w.heap.size := hg; omega, hw.fr0, hw.fr1, vk, vv, by rw [World.cell?_of_block (w := w) e]; exact a1, by rw [World.cell?_of_block (w := w) e]; exact a2, a3.below hb, a4.below hb, fun b hb => ⟨(a5 b hb).1, by have := (a3.lt hb).2; omega⟩, fun b hb => ⟨(a6 b hb).1, by have := (a4.lt hb).2; omega⟩, a7⟩
theorem Ut.kp2 {B B' g q z : Nat} {t : Bool} {w w' : World} {l : List (Int × ByteArray)} (h : Ut B w g q l) (h2 : Ut B w g z l) (hk : Kp t B' q w w') : Ut B w' g z l := by
  obtain ⟨vk, vv, a1, a2, a3, a4, a5, a6, a7⟩ := h.st
  obtain ⟨vk', vv', b1, b2, -, -, b5, b6, -⟩ := h2.st
  obtain rfl : vk = vk' := by rw [a1] at b1; injection b1
  obtain rfl : vv = vv' := by rw [a2] at b2; injection b2
  exact ⟨h.le, Nat.lt_of_lt_of_le h2.lt hk.size, h2.ne, (hk.frozen (p := ⟨g, 0, none⟩) h.ne a1).trans h.fr0, (hk.frozen (p := ⟨g, 1, none⟩) h.ne a2).trans h.fr1, vk, vv, hk.cell (p := ⟨g, 0, none⟩) h.ne a1, hk.cell (p := ⟨g, 1, none⟩) h.ne a2, a3.kp hk (fun b hb => (a5 b hb).2), a4.kp hk (fun b hb => (a6 b hb).2), b5, b6, a7⟩
theorem Ut.far {B g q r : Nat} {w : World} {l : List (Int × ByteArray)} (h : Ut B w g q l) (hr : r = g ∨ ∃ vv, w.cell? ⟨g, 1, none⟩ = some vv ∧ vv.ownBlock = some r) : r ≠ q := by
  rcases hr with rfl | ⟨vv, hc, hv⟩
  · exact h.ne
  · obtain ⟨vk, vv', a1, a2, a3, a4, a5, a6, a7⟩ := h.st
    obtain rfl : vv' = vv := by rw [a2] at hc; injection hc
    exact (a6 r hv).2
/-- What two stores into block g leave, the one row behind the other. -/
theorem Ut.two {B g q : Nat} {w1 wd w3 we : World} {l : List (Int × ByteArray)} {vk vv : Value} (hB : B ≤ w1.heap.size) (hle : B ≤ g) (hne : g ≠ q) (hgl : g < w1.heap.size) (hql : q < w1.heap.size)
    (hf0 : w1.frozen? ⟨g, 0, none⟩ = false) (hf1 : w1.frozen? ⟨g, 1, none⟩ = false) {c0 c1 : Value} (hc0 : w1.cell? ⟨g, 0, none⟩ = some c0) (hc1 : w1.cell? ⟨g, 1, none⟩ = some c1)
    (h1 : Below w1.heap.size w1 wd) (o1 : Ov wd w1.heap.size 3 vk (l.map fun p => Value.int .i64 p.1)) (e3 : w3 = wd.setCell ⟨g, 0, none⟩ vk)
    (h2 : Below w3.heap.size w3 we) (o2 : Ov we w3.heap.size 9 vv (l.map fun p => Value.string p.2)) :
    Ut B (we.setCell ⟨g, 1, none⟩ vv) g q l ∧ Kp true B g w1 (we.setCell ⟨g, 1, none⟩ vv) := by
  have s3 : w3.heap.size = wd.heap.size := by rw [e3]; simp [World.setCell]
  have hgd : g < wd.heap.size := Nat.lt_of_lt_of_le hgl h1.size
  have cd0 := (h1.cell (p := ⟨g, 0, none⟩) hgl).trans hc0
  have cd1 := (h1.cell (p := ⟨g, 1, none⟩) hgl).trans hc1
  have c30 : w3.cell? ⟨g, 0, none⟩ = some vk := by rw [e3, World.cell?_setCell_same _ _ _ cd0]
  have c31 : w3.cell? ⟨g, 1, none⟩ = some c1 := by rw [e3, World.cell?_setCell_other _ _ _ _ (by simp)]; exact cd1
  have ce0 := (h2.cell (p := ⟨g, 0, none⟩) (by rw [s3]; exact hgd)).trans c30
  have ce1 := (h2.cell (p := ⟨g, 1, none⟩) (by rw [s3]; exact hgd)).trans c31
  have k1 : Kp true B g w1 wd := Kp.of_below hB h1
  have k2 : Kp true B g wd w3 := by rw [e3]; exact Kp.setCell hle 0 vk cd0
  have k3 : Kp true B g w3 we := Kp.of_below (by rw [s3]; exact Nat.le_trans hB h1.size) h2
  have k4 : Kp true B g we (we.setCell ⟨g, 1, none⟩ vv) := Kp.setCell hle 1 vv ce1
  have hK := ((k1.trans k2).trans k3).trans k4
  have f1 : ∀ j, w1.frozen? ⟨g, j, none⟩ = false → (we.setCell ⟨g, 1, none⟩ vv).frozen? ⟨g, j, none⟩ = false := fun j hj => by
    rw [World.frozen?_setCell, World.frozen?_of_block (w := w3) (h2.block g (by rw [s3]; exact hgd)), e3, World.frozen?_setCell, World.frozen?_of_block (w := w1) (h1.block g hgl)]
    exact hj
  have b1 : ∀ b, vk.ownBlock = some b → w1.heap.size ≤ b ∧ b < wd.heap.size := fun b hb => o1.lt hb
  have b2 : ∀ b, vv.ownBlock = some b → w3.heap.size ≤ b := fun b hb => (o2.lt hb).1
  refine ⟨⟨hle, by simp only [World.size_setCell]; have := h1.size; have := h2.size; omega, hne, f1 0 hf0, f1 1 hf1, vk, vv, ?_, ?_, ?_, ?_, fun b hb => ?_, fun b hb => ?_, fun b hb e => ?_⟩, hK⟩
  · rw [World.cell?_setCell_other _ _ _ _ (by simp)]; exact ce0
  · rw [World.cell?_setCell_same _ _ _ ce1]
  · exact Ov.mono_base ((((o1.kp (t := true) (B := B) (g := g) k2 (fun b hb => by have := (b1 b hb).1; omega)).below h2).kp k4 (fun b hb => by have := (b1 b hb).1; omega))) hB
  · exact Ov.mono_base (o2.kp k4 (fun b hb => by have := b2 b hb; omega)) (by rw [s3]; exact Nat.le_trans hB h1.size)
  · have := (b1 b hb).1; omega
  · have := b2 b hb; have := h1.size; omega
  · have := (b1 b hb).2; have := b2 b e; omega
/-- Where key k stands, or would. -/
def UAt (l : List (Int × ByteArray)) (k : Int) (i : Nat) (ok : Bool) : Prop := i ≤ l.length ∧ (∀ j x, j < i → (l.map (·.1))[j]? = some x → x < k) ∧ (ok = true → (l.map (·.1))[i]? = some k) ∧ (ok = false → ∀ x, (l.map (·.1))[i]? = some x → k < x)
def PutU (B g q : Nat) (l : List (Int × ByteArray)) (k : Int) (v : ByteArray) (w : World) (e : Ending) (w' : World) : Prop := ∃ (i : Nat) (ok : Bool), UAt l k i ok ∧ e = .returned (.bool ok) ∧ Ut B w' g q (if ok then l.take i ++ ([(k, v)] ++ l.drop (i + 1)) else l.take i ++ (k, v) :: l.drop i) ∧ ∃ r, (r = g ∨ ∃ vv, w.cell? ⟨g, 1, none⟩ = some vv ∧ vv.ownBlock = some r) ∧ Kp true B r w w'
def GetU (l : List (Int × ByteArray)) (k : Int) (w : World) (e : Ending) (w' : World) : Prop := ∃ (i : Nat) (ok : Bool), UAt l k i ok ∧ e = .returned (.tuple #[.string (if ok then ((l[i]?).map (·.2)).getD ⟨#[]⟩ else ⟨#[]⟩), .bool ok]) ∧ Below w.heap.size w w'
def DelU (B g q : Nat) (l : List (Int × ByteArray)) (k : Int) (w : World) (e : Ending) (w' : World) : Prop := ∃ (i : Nat) (ok : Bool), UAt l k i ok ∧ e = .returned (.bool ok) ∧ Ut B w' g q (if ok then l.take i ++ l.drop (i + 1) else l) ∧ Kp true B g w w'

set_option maxRecDepth 100000 in
set_option maxHeartbeats 16000000 in
theorem uput_any (w : World) {B g q : Nat} {l : List (Int × ByteArray)} (k : Int) (v : ByteArray) (hB : B ≤ w.heap.size) (h : Ut B w g q l) (hl : l.length ≤ 1000000) :
    Calls Try.prog 10 #[.pointer (some ⟨g, 0, none⟩), .int .i64 k, .string v] w (PutU B g q l k v w) := by
  obtain ⟨vk, vv, hck, hcv, hok, hov, hn1, hn2, hn3⟩ := h.st
  obtain ⟨A, c, hvk, -, hrz⟩ := (show Ov w B 3 vk ((l.map (·.1)).map (Value.int .i64)) by rw [List.map_map]; exact hok).rz
  have HP := Lib.hid (uplace_any w k (by rw [← hvk]; exact hck) hrz (by rw [List.length_map]; exact hl))
  rw [List.length_map] at HP
  have HC := Lib.hid (And.intro hck (And.intro hcv (And.intro hok hov)))
  have HN := Lib.hid (And.intro hn1 (And.intro hn2 hn3))
  have HU := Lib.hid h
  have HL := Lib.hid hl
  have HB := Lib.hid hB
  have gl := World.block_lt_of_cell? w ⟨g, 0, none⟩ hck
  have HGL := Lib.hid gl
  clear hvk hrz hok hov hck hcv hn1 hn2 hn3 h hl gl hB
  go_enter Try.func10, Try.ntmps10
  go_wp2_with fail
  refine HP.out.mono ?_
  rintro e w1 ⟨i, ok, rfl, hi, hlow, hyes, hno, hb1⟩
  have HI : Hid (UAt l k i ok) := ⟨hi, hlow, hyes, hno⟩
  clear hi hlow hyes hno
  cases ok with
  | true =>
    have hb := hb1
    have hck := (hb.cell (p := ⟨g, 0, none⟩) HGL.out).trans HC.out.1
    have hcv := (hb.cell (p := ⟨g, 1, none⟩) HGL.out).trans HC.out.2.1
    have hf0 : w1.frozen? ⟨g, 0, none⟩ = false := (World.frozen?_of_block (w := w) (hb.block g HGL.out)).trans HU.out.fr0
    have hf1 : w1.frozen? ⟨g, 1, none⟩ = false := (World.frozen?_of_block (w := w) (hb.block g HGL.out)).trans HU.out.fr1
    have hok := (HC.out.2.2.1.below hb).src
    have hov := (HC.out.2.2.2.below hb).src
    have hil : i < l.length := by
      rcases Nat.lt_or_ge i l.length with h | h
      · exact h
      · have h2 := HI.out.2.2.1 rfl
        rw [List.getElem?_map, List.getElem?_eq_none h] at h2; cases h2
    have hov2 := HC.out.2.2.2.below hb
    have hok2 := HC.out.2.2.1.below hb
    obtain ⟨AV, cV, hvv, hcl, hfm⟩ := hov2.form
    rw [List.length_map] at hvv hcl hfm
    obtain ⟨bV, rfl, hB1, hB2, hcells⟩ := hfm (by omega)
    obtain ⟨m, hm⟩ : ∃ m, m = l.length := ⟨_, rfl⟩
    rw [← hm] at hvv
    subst hvv
    have hcx := hcells i (.string l[i].2) (by rw [List.getElem?_map, List.getElem?_eq_getElem hil]; rfl)
    have hfz : w1.frozen? ⟨bV, i, none⟩ = false := World.ownsRow.frozenAt (show w1.ownsRow B 9 1 (.slice (some ⟨bV, 0, none⟩) m cV) m (l.map fun p => Value.string p.2) from by have h := hov2; unfold Ov at h; rw [List.length_map, ← hm] at h; exact h) i
    obtain ⟨p1, p2⟩ := set_pairs (v := v) (HI.out.2.2.1 rfl)
    have hVg := (HN.out.2.1 bV rfl).1
    have hk : Kp true B bV w1 (w1.setCell ⟨bV, i, none⟩ (.string v)) := Kp.setCell hB1 i _ hcx
    have HK : Hid ((bV = g ∨ ∃ vv, w.cell? ⟨g, 1, none⟩ = some vv ∧ vv.ownBlock = some bV) ∧ Kp true B bV w (w1.setCell ⟨bV, i, none⟩ (.string v))) := (And.intro (.inr ⟨_, HC.out.2.1, rfl⟩) ((Kp.of_below (g := bV) (t := true) HB.out hb).trans hk))
    have HR : Hid (Ut B (w1.setCell ⟨bV, i, none⟩ (.string v)) g q (l.take i ++ ([(k, v)] ++ l.drop (i + 1)))) := by
      refine ⟨HU.out.le, by rw [World.size_setCell]; exact Nat.lt_of_lt_of_le HU.out.lt hb.size, HU.out.ne, by rw [World.frozen?_setCell]; exact hf0, by rw [World.frozen?_setCell]; exact hf1, vk, _, hk.cell (p := ⟨g, 0, none⟩) hVg.symm hck, hk.cell (p := ⟨g, 1, none⟩) hVg.symm hcv, ?_, ?_, HN.out.1, HN.out.2.1, HN.out.2.2⟩
      · rw [p1]; exact hok2.kp hk (fun b hb e => HN.out.2.2 b hb (by rw [e]; rfl))
      · rw [p2]; exact hov2.stored (.string v)
    have tn : (i : Int) < (m : Int) := by omega
    have i0 : (0 : Int) ≤ (i : Int) := by omega
    generalize l[i].2 = x at *
    clear hb hb1 hf0 hf1 hok hov hov2 hok2 hcells hfm hm hck p1 p2 hk hVg
    go_wp2_with fail
    go_ret
    exact (show PutU _ _ _ _ _ _ _ _ _ from ⟨i, true, HI.out, rfl, HR.out, bV, HK.out⟩)
  | false =>
    have hb := hb1
    have hck := (hb.cell (p := ⟨g, 0, none⟩) HGL.out).trans HC.out.1
    have hcv := (hb.cell (p := ⟨g, 1, none⟩) HGL.out).trans HC.out.2.1
    have hf0 : w1.frozen? ⟨g, 0, none⟩ = false := (World.frozen?_of_block (w := w) (hb.block g HGL.out)).trans HU.out.fr0
    have hf1 : w1.frozen? ⟨g, 1, none⟩ = false := (World.frozen?_of_block (w := w) (hb.block g HGL.out)).trans HU.out.fr1
    have hok := (HC.out.2.2.1.below hb).src
    have hov := (HC.out.2.2.2.below hb).src
    have HY : Hid (∀ W, Below w1.heap.size w1 W → W.cell? ⟨g, 0, none⟩ = some vk) := fun W hW => (hW.cell (p := ⟨g, 0, none⟩) (World.block_lt_of_cell? w1 ⟨g, 0, none⟩ hck)).trans hck
    have HF : Hid (∀ W, Below w1.heap.size w1 W → W.frozen? ⟨g, 0, none⟩ = false) := fun W hW => (World.frozen?_of_block (w := w1) (hW.block g (World.block_lt_of_cell? w1 ⟨g, 0, none⟩ hck))).trans hf0
    obtain ⟨c1, cut1, hs1⟩ := Src.take (P := Try.prog) (t := 27) (e := 3) Try.underlying27 (fun W => by kernel_rfl) hok i (by rw [List.length_map]; exact HI.out.1)
    obtain ⟨c2, cut2, hs2⟩ := Src.drop (P := Try.prog) (t := 27) (e := 3) Try.underlying27 (fun W => by kernel_rfl) hok (i) (by rw [List.length_map]; exact HI.out.1) (i : Int) (by omega)
    rw [← List.map_take] at hs1
    rw [← List.map_drop] at hs2
    have HS1 : Hid (∀ W, Below w1.heap.size w1 W → Src W c1 ((l.take i).map (fun p : Int × ByteArray => Value.int .i64 p.1))) := fun W hW => hs1.below hW
    have HS2 : Hid (∀ W, Below w1.heap.size w1 W → Src W c2 ((l.drop (i)).map (fun p : Int × ByteArray => Value.int .i64 p.1))) := fun W hW => hs2.below hW
    have H1 := Lib.hid (And.intro hb1 (And.intro hck (And.intro hcv (And.intro hf0 (And.intro hf1 hov)))))
    clear hb hb1 hck hcv hf0 hf1 hok hov hs1 hs2
    go_upto_region 5 with fail
    go_cut [] from 23 to 43 (fun wx => Hid (∃ (v' : Value) (wd : World), wx = wd.setCell ⟨g, 0, none⟩ v' ∧ Below w1.heap.size w1 wd ∧ Ov wd w1.heap.size 3 v' ((l.take i ++ (k, v) :: l.drop i).map (fun p : Int × ByteArray => Value.int .i64 p.1))))
    case first =>
      go_wp2_with fail
      refine AnyE.begin (S := fun W => Below w1.heap.size w1 W) (z := 21) (by kernel_rfl) ?_
      have hHeld : Below w1.heap.size w1 w1.drew := (Below.refl _ _).drew
      refine takeE (i := 0) (v := ?v0_1) rfl (by decide) (by kernel_rfl) (by kernel_rfl) (by kernel_rfl) (by kernel_rfl) (fun _ _ _ h => h) (by rfl) ?hy0_1 (by assumption) ?rest0_1
      case hy0_1 => (intro W hSw; go_simp; try with_reducible rfl)
      try simp only [Act.put]
      try simp only [List.setIfInBounds_toArray]
      try simp only [List.set_cons_succ]
      try simp only [List.set_cons_zero]
      refine takeE (i := 2) (v := ?v2_2) rfl (by decide) (by kernel_rfl) (by kernel_rfl) (by kernel_rfl) (by kernel_rfl) (fun _ _ _ h => h) (by rfl) ?hy2_2 (by assumption) ?rest2_2
      case hy2_2 => (intro W hSw; go_simp; try with_reducible rfl)
      try simp only [Act.put]
      try simp only [List.setIfInBounds_toArray]
      try simp only [List.set_cons_succ]
      try simp only [List.set_cons_zero]
      refine takeE (i := 3) (v := ?v3_3) rfl (by decide) (by kernel_rfl) (by kernel_rfl) (by kernel_rfl) (by kernel_rfl) (fun _ _ _ h => h) (by rfl) ?hy3_3 (by assumption) ?rest3_3
      case hy3_3 => (intro W hSw; go_simp; try with_reducible rfl)
      try simp only [Act.put]
      try simp only [List.setIfInBounds_toArray]
      try simp only [List.set_cons_succ]
      try simp only [List.set_cons_zero]
      refine takeE (i := 4) (v := ?v4_4) rfl (by decide) (by kernel_rfl) (by kernel_rfl) (by kernel_rfl) (by kernel_rfl) (fun _ _ _ h => h) (by rfl) ?hy4_4 (by assumption) ?rest4_4
      case hy4_4 => (intro W hSw; go_simp; try with_reducible rfl)
      try simp only [Act.put]
      try simp only [List.setIfInBounds_toArray]
      try simp only [List.set_cons_succ]
      try simp only [List.set_cons_zero]
      refine takeE (i := 5) (v := ?v5_5) rfl (by decide) (by kernel_rfl) (by kernel_rfl) (by kernel_rfl) (by kernel_rfl) (fun _ _ _ h => h) (by rfl) ?hy5_5 (by assumption) ?rest5_5
      case hy5_5 => (intro W hSw; have y0 := HY.out W hSw; go_simp; try with_reducible rfl)
      try simp only [Act.put]
      try simp only [List.setIfInBounds_toArray]
      try simp only [List.set_cons_succ]
      try simp only [List.set_cons_zero]
      refine takeE (i := 6) (v := ?v6_6) rfl (by decide) (by kernel_rfl) (by kernel_rfl) (by kernel_rfl) (by kernel_rfl) (fun _ _ _ h => h) (by rfl) ?hy6_6 (by assumption) ?rest6_6
      case hy6_6 => (intro W hSw; go_simp; try with_reducible rfl)
      try simp only [Act.put]
      try simp only [List.setIfInBounds_toArray]
      try simp only [List.set_cons_succ]
      try simp only [List.set_cons_zero]
      refine takeE (i := 7) (v := ?v7_7) rfl (by decide) (by kernel_rfl) (by kernel_rfl) (by kernel_rfl) (by kernel_rfl) (fun _ _ _ h => h) (by rfl) ?hy7_7 (by assumption) ?rest7_7
      case hy7_7 => (intro W hSw; go_simp; try with_reducible rfl)
      try simp only [Act.put]
      try simp only [List.setIfInBounds_toArray]
      try simp only [List.set_cons_succ]
      try simp only [List.set_cons_zero]
      refine takeE (i := 9) (v := ?v9_8) rfl (by decide) (by kernel_rfl) (by kernel_rfl) (by kernel_rfl) (by kernel_rfl) (fun _ _ _ h => h) (by rfl) ?hy9_8 (by assumption) ?rest9_8
      case hy9_8 => (intro W hSw; go_simp; try with_reducible rfl)
      try simp only [Act.put]
      try simp only [List.setIfInBounds_toArray]
      try simp only [List.set_cons_succ]
      try simp only [List.set_cons_zero]
      refine takeE (i := 12) (v := ?v12_9) rfl (by decide) (by kernel_rfl) (by kernel_rfl) (by kernel_rfl) (by kernel_rfl) (fun _ _ _ h => h) (by rfl) ?hy12_9 (by assumption) ?rest12_9
      case hy12_9 => (intro W hSw; go_simp; try with_reducible rfl)
      try simp only [Act.put]
      try simp only [List.setIfInBounds_toArray]
      try simp only [List.set_cons_succ]
      try simp only [List.set_cons_zero]
      refine takeE (i := 13) (v := ?v13_10) rfl (by decide) (by kernel_rfl) (by kernel_rfl) (by kernel_rfl) (by kernel_rfl) (fun _ _ _ h => h) (by rfl) ?hy13_10 (by assumption) ?rest13_10
      case hy13_10 => (intro W hSw; go_simp; try with_reducible rfl)
      try simp only [Act.put]
      try simp only [List.setIfInBounds_toArray]
      try simp only [List.set_cons_succ]
      try simp only [List.set_cons_zero]
      refine takeE (i := 14) (v := ?v14_11) rfl (by decide) (by kernel_rfl) (by kernel_rfl) (by kernel_rfl) (by kernel_rfl) (fun _ _ _ h => h) (by rfl) ?hy14_11 (by assumption) ?rest14_11
      case hy14_11 => (intro W hSw; go_simp; try with_reducible rfl)
      try simp only [Act.put]
      try simp only [List.setIfInBounds_toArray]
      try simp only [List.set_cons_succ]
      try simp only [List.set_cons_zero]
      refine takeE (i := 15) (v := ?v15_12) rfl (by decide) (by kernel_rfl) (by kernel_rfl) (by kernel_rfl) (by kernel_rfl) (fun _ _ _ h => h) (by rfl) ?hy15_12 (by assumption) ?rest15_12
      case hy15_12 => (intro W hSw; have y0 := HY.out W hSw; go_simp; try with_reducible rfl)
      try simp only [Act.put]
      try simp only [List.setIfInBounds_toArray]
      try simp only [List.set_cons_succ]
      try simp only [List.set_cons_zero]
      refine takeE (i := 16) (v := ?v16_13) rfl (by decide) (by kernel_rfl) (by kernel_rfl) (by kernel_rfl) (by kernel_rfl) (fun _ _ _ h => h) (by rfl) ?hy16_13 (by assumption) ?rest16_13
      case hy16_13 => (intro W hSw; go_simp; try with_reducible rfl)
      try simp only [Act.put]
      try simp only [List.setIfInBounds_toArray]
      try simp only [List.set_cons_succ]
      try simp only [List.set_cons_zero]
      refine takeE (i := 17) (v := ?v17_14) rfl (by decide) (by kernel_rfl) (by kernel_rfl) (by kernel_rfl) (by kernel_rfl) (fun _ _ _ h => h) (by rfl) ?hy17_14 (by assumption) ?rest17_14
      case hy17_14 => (intro W hSw; go_simp; try with_reducible rfl)
      try simp only [Act.put]
      try simp only [List.setIfInBounds_toArray]
      try simp only [List.set_cons_succ]
      try simp only [List.set_cons_zero]
      have BT : Hid (Below w1.heap.size w1 w1.drew) := (Below.refl _ _).drew
      clear hHeld
      obtain ⟨wc, hwc⟩ : ∃ wc, wc = w1.drew := ⟨_, rfl⟩
      rw [← hwc] at BT
      rw [← hwc]
      clear hwc
      refine AnyE.ready (rs := [1, 10]) (by kernel_rfl) (by simp) ?_
      refine ReadyE.cons rfl (fun K hK => ?_) ?_
      · skip
        rw [if_pos (by rfl)]
        go_simp
        have OC : Hid (Ov (wc.alloc (.cells #[] 3)) w1.heap.size 3 (.slice (some ⟨wc.heap.size, 0, none⟩) 0 0) []) := Ov.lit0 wc BT.out.size
        have BN : Hid (Below w1.heap.size w1 (wc.alloc (.cells #[] 3))) := BT.out.alloc BT.out.size _
        clear BT
        have BT := BN
        clear BN
        refine hK.out _ _ BT.out (fun hHeld => ?_)
        try simp only [Act.put]
        try simp only [List.setIfInBounds_toArray]
        try simp only [List.set_cons_succ]
        try simp only [List.set_cons_zero]
        clear hK K hHeld
        generalize wc.alloc (.cells #[] 3) = wd at *
        generalize wc.heap.size = g0 at *
        clear wc
        obtain ⟨wc, rfl⟩ : ∃ wc, wc = wd := ⟨_, rfl⟩
        refine AnyE.ready (rs := [8, 10]) (by kernel_rfl) (by simp) ?_
        refine ReadyE.cons rfl (fun K hK => ?_) ?_
        · skip
          refine step_appV (by rfl) (.tmp 24) (.tmp 30) 27 (by rfl) w1.heap.size 3 (.int .i64 0) 8 Try.underlying27 info_int rfl (by decide) (.slice (some ⟨g0, 0, none⟩) 0 0) [] (by rfl) OC.out _ ((l.take i).map (fun p : Int × ByteArray => Value.int .i64 p.1)) (by rfl) (HS1.out _ BT.out) (one_map (fun _ => rfl) _) (by have := HL.out; simp; omega) BT.out.size ?_
          intro vA wd ho hg hat
          rw [List.nil_append] at ho
          have OC2 := Lib.hid ho
          have BN : Hid (Below w1.heap.size w1 wd) := OC.out.grownB BT.out BT.out.size hg
          clear BT OC ho hg hat
          have BT := BN
          have OC := OC2
          clear BN OC2
          refine hK.out _ _ BT.out (fun hHeld => ?_)
          try simp only [Act.put]
          try simp only [List.setIfInBounds_toArray]
          try simp only [List.set_cons_succ]
          try simp only [List.set_cons_zero]
          clear hK K hHeld
          clear wc
          obtain ⟨wc, rfl⟩ : ∃ wc, wc = wd := ⟨_, rfl⟩
          refine AnyE.ready (rs := [10]) (by kernel_rfl) (by simp) ?_
          refine ReadyE.cons rfl (fun K hK => ?_) ReadyE.nil
          rw [if_pos (by rfl)]
          go_simp
          have RX : Hid (RowAt (wc.alloc (.cells #[.int .i64 k] 3)) wc.heap.size [.int .i64 k]) := RowAt.made wc #[.int .i64 k] 3
          have NX : Hid ((Value.ownBlock vA) ≠ some wc.heap.size) := fun e => by have := (OC.out.lt e).2; omega
          have OC2 := Lib.hid (OC.out.alloc (.cells #[.int .i64 k] 3))
          clear OC
          have OC := OC2
          clear OC2
          have BN : Hid (Below w1.heap.size w1 (wc.alloc (.cells #[.int .i64 k] 3))) := BT.out.alloc BT.out.size _
          clear BT
          have BT := BN
          clear BN
          refine hK.out _ _ BT.out (fun hHeld => ?_)
          try simp only [Act.put]
          try simp only [List.setIfInBounds_toArray]
          try simp only [List.set_cons_succ]
          try simp only [List.set_cons_zero]
          clear hK K hHeld
          generalize wc.alloc (.cells #[.int .i64 k] 3) = wd at *
          generalize wc.heap.size = gx at *
          clear wc
          obtain ⟨wc, rfl⟩ : ∃ wc, wc = wd := ⟨_, rfl⟩
          refine AnyE.ready (rs := [11]) (by kernel_rfl) (by simp) ?_
          refine ReadyE.cons rfl (fun K hK => ?_) ReadyE.nil
          refine step_appV (by rfl) (.tmp 31) (.tmp 33) 27 (by rfl) w1.heap.size 3 (.int .i64 0) 8 Try.underlying27 info_int rfl (by decide) vA ((l.take i).map (fun p : Int × ByteArray => Value.int .i64 p.1)) (by rfl) OC.out _ [.int .i64 k] (by rfl) (RX.out.src1) (fun y hy => by simp at hy; subst hy; rfl) (by have := HL.out; simp; omega) BT.out.size ?_
          intro vB wd ho hg hat
          have OC2 := Lib.hid ho
          have BN : Hid (Below w1.heap.size w1 wd) := OC.out.grownB BT.out BT.out.size hg
          clear BT OC ho hg hat RX NX
          have BT := BN
          have OC := OC2
          clear BN OC2
          refine hK.out _ _ BT.out (fun hHeld => ?_)
          try simp only [Act.put]
          try simp only [List.setIfInBounds_toArray]
          try simp only [List.set_cons_succ]
          try simp only [List.set_cons_zero]
          clear hK K hHeld
          clear wc
          obtain ⟨wc, rfl⟩ : ∃ wc, wc = wd := ⟨_, rfl⟩
          refine AnyE.ready (rs := [18]) (by kernel_rfl) (by simp) ?_
          refine ReadyE.cons rfl (fun K hK => ?_) ReadyE.nil
          refine step_appV (by rfl) (.tmp 34) (.tmp 40) 27 (by rfl) w1.heap.size 3 (.int .i64 0) 8 Try.underlying27 info_int rfl (by decide) vB ((l.take i).map (fun p : Int × ByteArray => Value.int .i64 p.1) ++ [.int .i64 k]) (by rfl) OC.out _ ((l.drop (i)).map (fun p : Int × ByteArray => Value.int .i64 p.1)) (by rfl) (HS2.out _ BT.out) (one_map (fun _ => rfl) _) (by have := HL.out; simp; omega) BT.out.size ?_
          intro vC wd ho hg hat
          have OC2 := Lib.hid ho
          have BN : Hid (Below w1.heap.size w1 wd) := OC.out.grownB BT.out BT.out.size hg
          clear BT OC ho hg hat
          have BT := BN
          have OC := OC2
          clear BN OC2
          refine hK.out _ _ BT.out (fun hHeld => ?_)
          try simp only [Act.put]
          try simp only [List.setIfInBounds_toArray]
          try simp only [List.set_cons_succ]
          try simp only [List.set_cons_zero]
          clear hK K hHeld
          clear wc
          obtain ⟨wc, rfl⟩ : ∃ wc, wc = wd := ⟨_, rfl⟩
          obtain ⟨AC, nC, cC, rfl⟩ : ∃ A n c, vC = .slice A n c := (by obtain ⟨A, c, h, -, -⟩ := OC.out.form; exact ⟨A, _, c, h⟩)
          refine AnyE.ready (rs := [19]) (by kernel_rfl) (by simp) ?_
          refine ReadyE.cons rfl (fun K hK => ?_) ReadyE.nil
          rw [if_pos (by rfl)]
          go_simp
          refine hK.out _ _ BT.out (fun hHeld => ?_)
          try simp only [Act.put]
          try simp only [List.setIfInBounds_toArray]
          try simp only [List.set_cons_succ]
          try simp only [List.set_cons_zero]
          clear hK K hHeld
          refine AnyE.ready (rs := [20]) (by kernel_rfl) (by simp) ?_
          refine ReadyE.cons rfl (fun K hK => ?_) ReadyE.nil
          rw [if_pos (by rfl)]
          go_simp
          refine hK.out _ _ BT.out (fun hHeld => ?_)
          try simp only [Act.put]
          try simp only [List.setIfInBounds_toArray]
          try simp only [List.set_cons_succ]
          try simp only [List.set_cons_zero]
          clear hK K hHeld
          refine AnyE.ready (rs := [21]) (by kernel_rfl) (by simp) ?_
          refine ReadyE.last rfl (fun K hK => ?_)
          have y0 := HY.out _ BT.out
          have f0 := HF.out _ BT.out
          rw [if_pos (by rfl)]
          go_simp
          refine hK.out _ _ ?_
          try simp only [Act.put]
          try simp only [List.setIfInBounds_toArray]
          try simp only [List.set_cons_succ]
          try simp only [List.set_cons_zero]
          clear hK K y0 f0
          refine AnyE.done (by kernel_rfl) ?_ _
          go_wp2_with fail
          go_meet
          case rel => exact ⟨.slice AC nC cC, wc, rfl, BT.out, by simpa using OC.out⟩
        refine ReadyE.cons rfl (fun K hK => ?_) ReadyE.nil
        rw [if_pos (by rfl)]
        go_simp
        have RX : Hid (RowAt (wc.alloc (.cells #[.int .i64 k] 3)) wc.heap.size [.int .i64 k]) := RowAt.made wc #[.int .i64 k] 3
        have NX : Hid ((Value.ownBlock (.slice (some ⟨g0, 0, none⟩) 0 0)) ≠ some wc.heap.size) := fun e => by have := (OC.out.lt e).2; omega
        have OC2 := Lib.hid (OC.out.alloc (.cells #[.int .i64 k] 3))
        clear OC
        have OC := OC2
        clear OC2
        have BN : Hid (Below w1.heap.size w1 (wc.alloc (.cells #[.int .i64 k] 3))) := BT.out.alloc BT.out.size _
        clear BT
        have BT := BN
        clear BN
        refine hK.out _ _ BT.out (fun hHeld => ?_)
        try simp only [Act.put]
        try simp only [List.setIfInBounds_toArray]
        try simp only [List.set_cons_succ]
        try simp only [List.set_cons_zero]
        clear hK K hHeld
        generalize wc.alloc (.cells #[.int .i64 k] 3) = wd at *
        generalize wc.heap.size = gx at *
        clear wc
        obtain ⟨wc, rfl⟩ : ∃ wc, wc = wd := ⟨_, rfl⟩
        refine AnyE.ready (rs := [8]) (by kernel_rfl) (by simp) ?_
        refine ReadyE.cons rfl (fun K hK => ?_) ReadyE.nil
        refine step_appV (by rfl) (.tmp 24) (.tmp 30) 27 (by rfl) w1.heap.size 3 (.int .i64 0) 8 Try.underlying27 info_int rfl (by decide) (.slice (some ⟨g0, 0, none⟩) 0 0) [] (by rfl) OC.out _ ((l.take i).map (fun p : Int × ByteArray => Value.int .i64 p.1)) (by rfl) (HS1.out _ BT.out) (one_map (fun _ => rfl) _) (by have := HL.out; simp; omega) BT.out.size ?_
        intro vA wd ho hg hat
        rw [List.nil_append] at ho
        have OC2 := Lib.hid ho
        have BN : Hid (Below w1.heap.size w1 wd) := OC.out.grownB BT.out BT.out.size hg
        have NX2 : Hid (vA.ownBlock ≠ some gx) := by
          show _ ≠ _
          rcases hat with h | h <;> rw [h]
          · exact NX.out
          · intro e; injection e with e; have := RX.out.1; omega
        have RX2 := Lib.hid (RX.out.grownV hg NX.out)
        clear NX
        have NX := NX2
        clear NX2
        clear RX
        have RX := RX2
        clear RX2
        clear BT OC ho hg hat
        have BT := BN
        have OC := OC2
        clear BN OC2
        refine hK.out _ _ BT.out (fun hHeld => ?_)
        try simp only [Act.put]
        try simp only [List.setIfInBounds_toArray]
        try simp only [List.set_cons_succ]
        try simp only [List.set_cons_zero]
        clear hK K hHeld
        clear wc
        obtain ⟨wc, rfl⟩ : ∃ wc, wc = wd := ⟨_, rfl⟩
        refine AnyE.ready (rs := [11]) (by kernel_rfl) (by simp) ?_
        refine ReadyE.cons rfl (fun K hK => ?_) ReadyE.nil
        refine step_appV (by rfl) (.tmp 31) (.tmp 33) 27 (by rfl) w1.heap.size 3 (.int .i64 0) 8 Try.underlying27 info_int rfl (by decide) vA ((l.take i).map (fun p : Int × ByteArray => Value.int .i64 p.1)) (by rfl) OC.out _ [.int .i64 k] (by rfl) (RX.out.src1) (fun y hy => by simp at hy; subst hy; rfl) (by have := HL.out; simp; omega) BT.out.size ?_
        intro vB wd ho hg hat
        have OC2 := Lib.hid ho
        have BN : Hid (Below w1.heap.size w1 wd) := OC.out.grownB BT.out BT.out.size hg
        clear BT OC ho hg hat RX NX
        have BT := BN
        have OC := OC2
        clear BN OC2
        refine hK.out _ _ BT.out (fun hHeld => ?_)
        try simp only [Act.put]
        try simp only [List.setIfInBounds_toArray]
        try simp only [List.set_cons_succ]
        try simp only [List.set_cons_zero]
        clear hK K hHeld
        clear wc
        obtain ⟨wc, rfl⟩ : ∃ wc, wc = wd := ⟨_, rfl⟩
        refine AnyE.ready (rs := [18]) (by kernel_rfl) (by simp) ?_
        refine ReadyE.cons rfl (fun K hK => ?_) ReadyE.nil
        refine step_appV (by rfl) (.tmp 34) (.tmp 40) 27 (by rfl) w1.heap.size 3 (.int .i64 0) 8 Try.underlying27 info_int rfl (by decide) vB ((l.take i).map (fun p : Int × ByteArray => Value.int .i64 p.1) ++ [.int .i64 k]) (by rfl) OC.out _ ((l.drop (i)).map (fun p : Int × ByteArray => Value.int .i64 p.1)) (by rfl) (HS2.out _ BT.out) (one_map (fun _ => rfl) _) (by have := HL.out; simp; omega) BT.out.size ?_
        intro vC wd ho hg hat
        have OC2 := Lib.hid ho
        have BN : Hid (Below w1.heap.size w1 wd) := OC.out.grownB BT.out BT.out.size hg
        clear BT OC ho hg hat
        have BT := BN
        have OC := OC2
        clear BN OC2
        refine hK.out _ _ BT.out (fun hHeld => ?_)
        try simp only [Act.put]
        try simp only [List.setIfInBounds_toArray]
        try simp only [List.set_cons_succ]
        try simp only [List.set_cons_zero]
        clear hK K hHeld
        clear wc
        obtain ⟨wc, rfl⟩ : ∃ wc, wc = wd := ⟨_, rfl⟩
        obtain ⟨AC, nC, cC, rfl⟩ : ∃ A n c, vC = .slice A n c := (by obtain ⟨A, c, h, -, -⟩ := OC.out.form; exact ⟨A, _, c, h⟩)
        refine AnyE.ready (rs := [19]) (by kernel_rfl) (by simp) ?_
        refine ReadyE.cons rfl (fun K hK => ?_) ReadyE.nil
        rw [if_pos (by rfl)]
        go_simp
        refine hK.out _ _ BT.out (fun hHeld => ?_)
        try simp only [Act.put]
        try simp only [List.setIfInBounds_toArray]
        try simp only [List.set_cons_succ]
        try simp only [List.set_cons_zero]
        clear hK K hHeld
        refine AnyE.ready (rs := [20]) (by kernel_rfl) (by simp) ?_
        refine ReadyE.cons rfl (fun K hK => ?_) ReadyE.nil
        rw [if_pos (by rfl)]
        go_simp
        refine hK.out _ _ BT.out (fun hHeld => ?_)
        try simp only [Act.put]
        try simp only [List.setIfInBounds_toArray]
        try simp only [List.set_cons_succ]
        try simp only [List.set_cons_zero]
        clear hK K hHeld
        refine AnyE.ready (rs := [21]) (by kernel_rfl) (by simp) ?_
        refine ReadyE.last rfl (fun K hK => ?_)
        have y0 := HY.out _ BT.out
        have f0 := HF.out _ BT.out
        rw [if_pos (by rfl)]
        go_simp
        refine hK.out _ _ ?_
        try simp only [Act.put]
        try simp only [List.setIfInBounds_toArray]
        try simp only [List.set_cons_succ]
        try simp only [List.set_cons_zero]
        clear hK K y0 f0
        refine AnyE.done (by kernel_rfl) ?_ _
        go_wp2_with fail
        go_meet
        case rel => exact ⟨.slice AC nC cC, wc, rfl, BT.out, by simpa using OC.out⟩
      refine ReadyE.cons rfl (fun K hK => ?_) ReadyE.nil
      rw [if_pos (by rfl)]
      go_simp
      have RX : Hid (RowAt (wc.alloc (.cells #[.int .i64 k] 3)) wc.heap.size [.int .i64 k]) := RowAt.made wc #[.int .i64 k] 3
      have BN : Hid (Below w1.heap.size w1 (wc.alloc (.cells #[.int .i64 k] 3))) := BT.out.alloc BT.out.size _
      clear BT
      have BT := BN
      clear BN
      refine hK.out _ _ BT.out (fun hHeld => ?_)
      try simp only [Act.put]
      try simp only [List.setIfInBounds_toArray]
      try simp only [List.set_cons_succ]
      try simp only [List.set_cons_zero]
      clear hK K hHeld
      generalize wc.alloc (.cells #[.int .i64 k] 3) = wd at *
      generalize wc.heap.size = gx at *
      clear wc
      obtain ⟨wc, rfl⟩ : ∃ wc, wc = wd := ⟨_, rfl⟩
      refine AnyE.ready (rs := [1]) (by kernel_rfl) (by simp) ?_
      refine ReadyE.cons rfl (fun K hK => ?_) ReadyE.nil
      rw [if_pos (by rfl)]
      go_simp
      have OC : Hid (Ov (wc.alloc (.cells #[] 3)) w1.heap.size 3 (.slice (some ⟨wc.heap.size, 0, none⟩) 0 0) []) := Ov.lit0 wc BT.out.size
      have NX : Hid ((Value.slice (some ⟨wc.heap.size, 0, none⟩) 0 0).ownBlock ≠ some gx) := fun e => by have e2 : wc.heap.size = gx := Option.some.inj e; have := RX.out.1; omega
      have RX2 := Lib.hid (RX.out.alloc (.cells #[] 3))
      clear RX
      have RX := RX2
      clear RX2
      have BN : Hid (Below w1.heap.size w1 (wc.alloc (.cells #[] 3))) := BT.out.alloc BT.out.size _
      clear BT
      have BT := BN
      clear BN
      refine hK.out _ _ BT.out (fun hHeld => ?_)
      try simp only [Act.put]
      try simp only [List.setIfInBounds_toArray]
      try simp only [List.set_cons_succ]
      try simp only [List.set_cons_zero]
      clear hK K hHeld
      generalize wc.alloc (.cells #[] 3) = wd at *
      generalize wc.heap.size = g0 at *
      clear wc
      obtain ⟨wc, rfl⟩ : ∃ wc, wc = wd := ⟨_, rfl⟩
      refine AnyE.ready (rs := [8]) (by kernel_rfl) (by simp) ?_
      refine ReadyE.cons rfl (fun K hK => ?_) ReadyE.nil
      refine step_appV (by rfl) (.tmp 24) (.tmp 30) 27 (by rfl) w1.heap.size 3 (.int .i64 0) 8 Try.underlying27 info_int rfl (by decide) (.slice (some ⟨g0, 0, none⟩) 0 0) [] (by rfl) OC.out _ ((l.take i).map (fun p : Int × ByteArray => Value.int .i64 p.1)) (by rfl) (HS1.out _ BT.out) (one_map (fun _ => rfl) _) (by have := HL.out; simp; omega) BT.out.size ?_
      intro vA wd ho hg hat
      rw [List.nil_append] at ho
      have OC2 := Lib.hid ho
      have BN : Hid (Below w1.heap.size w1 wd) := OC.out.grownB BT.out BT.out.size hg
      have NX2 : Hid (vA.ownBlock ≠ some gx) := by
        show _ ≠ _
        rcases hat with h | h <;> rw [h]
        · exact NX.out
        · intro e; injection e with e; have := RX.out.1; omega
      have RX2 := Lib.hid (RX.out.grownV hg NX.out)
      clear NX
      have NX := NX2
      clear NX2
      clear RX
      have RX := RX2
      clear RX2
      clear BT OC ho hg hat
      have BT := BN
      have OC := OC2
      clear BN OC2
      refine hK.out _ _ BT.out (fun hHeld => ?_)
      try simp only [Act.put]
      try simp only [List.setIfInBounds_toArray]
      try simp only [List.set_cons_succ]
      try simp only [List.set_cons_zero]
      clear hK K hHeld
      clear wc
      obtain ⟨wc, rfl⟩ : ∃ wc, wc = wd := ⟨_, rfl⟩
      refine AnyE.ready (rs := [11]) (by kernel_rfl) (by simp) ?_
      refine ReadyE.cons rfl (fun K hK => ?_) ReadyE.nil
      refine step_appV (by rfl) (.tmp 31) (.tmp 33) 27 (by rfl) w1.heap.size 3 (.int .i64 0) 8 Try.underlying27 info_int rfl (by decide) vA ((l.take i).map (fun p : Int × ByteArray => Value.int .i64 p.1)) (by rfl) OC.out _ [.int .i64 k] (by rfl) (RX.out.src1) (fun y hy => by simp at hy; subst hy; rfl) (by have := HL.out; simp; omega) BT.out.size ?_
      intro vB wd ho hg hat
      have OC2 := Lib.hid ho
      have BN : Hid (Below w1.heap.size w1 wd) := OC.out.grownB BT.out BT.out.size hg
      clear BT OC ho hg hat RX NX
      have BT := BN
      have OC := OC2
      clear BN OC2
      refine hK.out _ _ BT.out (fun hHeld => ?_)
      try simp only [Act.put]
      try simp only [List.setIfInBounds_toArray]
      try simp only [List.set_cons_succ]
      try simp only [List.set_cons_zero]
      clear hK K hHeld
      clear wc
      obtain ⟨wc, rfl⟩ : ∃ wc, wc = wd := ⟨_, rfl⟩
      refine AnyE.ready (rs := [18]) (by kernel_rfl) (by simp) ?_
      refine ReadyE.cons rfl (fun K hK => ?_) ReadyE.nil
      refine step_appV (by rfl) (.tmp 34) (.tmp 40) 27 (by rfl) w1.heap.size 3 (.int .i64 0) 8 Try.underlying27 info_int rfl (by decide) vB ((l.take i).map (fun p : Int × ByteArray => Value.int .i64 p.1) ++ [.int .i64 k]) (by rfl) OC.out _ ((l.drop (i)).map (fun p : Int × ByteArray => Value.int .i64 p.1)) (by rfl) (HS2.out _ BT.out) (one_map (fun _ => rfl) _) (by have := HL.out; simp; omega) BT.out.size ?_
      intro vC wd ho hg hat
      have OC2 := Lib.hid ho
      have BN : Hid (Below w1.heap.size w1 wd) := OC.out.grownB BT.out BT.out.size hg
      clear BT OC ho hg hat
      have BT := BN
      have OC := OC2
      clear BN OC2
      refine hK.out _ _ BT.out (fun hHeld => ?_)
      try simp only [Act.put]
      try simp only [List.setIfInBounds_toArray]
      try simp only [List.set_cons_succ]
      try simp only [List.set_cons_zero]
      clear hK K hHeld
      clear wc
      obtain ⟨wc, rfl⟩ : ∃ wc, wc = wd := ⟨_, rfl⟩
      obtain ⟨AC, nC, cC, rfl⟩ : ∃ A n c, vC = .slice A n c := (by obtain ⟨A, c, h, -, -⟩ := OC.out.form; exact ⟨A, _, c, h⟩)
      refine AnyE.ready (rs := [19]) (by kernel_rfl) (by simp) ?_
      refine ReadyE.cons rfl (fun K hK => ?_) ReadyE.nil
      rw [if_pos (by rfl)]
      go_simp
      refine hK.out _ _ BT.out (fun hHeld => ?_)
      try simp only [Act.put]
      try simp only [List.setIfInBounds_toArray]
      try simp only [List.set_cons_succ]
      try simp only [List.set_cons_zero]
      clear hK K hHeld
      refine AnyE.ready (rs := [20]) (by kernel_rfl) (by simp) ?_
      refine ReadyE.cons rfl (fun K hK => ?_) ReadyE.nil
      rw [if_pos (by rfl)]
      go_simp
      refine hK.out _ _ BT.out (fun hHeld => ?_)
      try simp only [Act.put]
      try simp only [List.setIfInBounds_toArray]
      try simp only [List.set_cons_succ]
      try simp only [List.set_cons_zero]
      clear hK K hHeld
      refine AnyE.ready (rs := [21]) (by kernel_rfl) (by simp) ?_
      refine ReadyE.last rfl (fun K hK => ?_)
      have y0 := HY.out _ BT.out
      have f0 := HF.out _ BT.out
      rw [if_pos (by rfl)]
      go_simp
      refine hK.out _ _ ?_
      try simp only [Act.put]
      try simp only [List.setIfInBounds_toArray]
      try simp only [List.set_cons_succ]
      try simp only [List.set_cons_zero]
      clear hK K y0 f0
      refine AnyE.done (by kernel_rfl) ?_ _
      go_wp2_with fail
      go_meet
      case rel => exact ⟨.slice AC nC cC, wc, rfl, BT.out, by simpa using OC.out⟩
    case rest =>
      obtain ⟨v1, wd, hw, h3, o3⟩ := hcut.out
      clear hcut
      obtain ⟨w3, e3⟩ : ∃ w3, w3 = wd.setCell ⟨g, 0, none⟩ v1 := ⟨_, rfl⟩
      rw [← e3] at hw
      have hw := hw.symm
      subst hw
      have HE3 := Lib.hid (And.intro e3 (And.intro h3 o3))
      have hgd : g < wd.heap.size := Nat.lt_of_lt_of_le (Nat.lt_of_lt_of_le HGL.out H1.out.1.size) h3.size
      have hcv3 : w3.cell? ⟨g, 1, none⟩ = some vv := by
        rw [e3, World.cell?_setCell_other _ _ _ _ (by simp)]
        exact (h3.cell (p := ⟨g, 1, none⟩) (Nat.lt_of_lt_of_le HGL.out H1.out.1.size)).trans H1.out.2.2.1
      have hf13 : w3.frozen? ⟨g, 1, none⟩ = false := by
        rw [e3, World.frozen?_setCell]
        exact (World.frozen?_of_block (w := w1) (h3.block g (Nat.lt_of_lt_of_le HGL.out H1.out.1.size))).trans H1.out.2.2.2.2.1
      have hov3 : Src w3 vv (l.map (fun p : Int × ByteArray => Value.string p.2)) := by
        have k2 : Kp true B g wd w3 := by rw [e3]; exact Kp.setCell HU.out.le 0 v1 ((h3.cell (p := ⟨g, 0, none⟩) (Nat.lt_of_lt_of_le HGL.out H1.out.1.size)).trans H1.out.2.1)
        exact (((HC.out.2.2.2.below H1.out.1).below h3).kp k2 fun b hb => (HN.out.2.1 b hb).1).src
      clear e3 h3 o3 hgd HY HF HS1 HS2 cut1 cut2
      have HY : Hid (∀ W, Below w3.heap.size w3 W → W.cell? ⟨g, 1, none⟩ = some vv) := fun W hW => (hW.cell (p := ⟨g, 1, none⟩) (World.block_lt_of_cell? w3 ⟨g, 1, none⟩ hcv3)).trans hcv3
      have HF : Hid (∀ W, Below w3.heap.size w3 W → W.frozen? ⟨g, 1, none⟩ = false) := fun W hW => (World.frozen?_of_block (w := w3) (hW.block g (World.block_lt_of_cell? w3 ⟨g, 1, none⟩ hcv3))).trans hf13
      obtain ⟨c1, cut1, hs1⟩ := Src.take (P := Try.prog) (t := 28) (e := 9) Try.underlying28 (fun W => by kernel_rfl) hov3 i (by rw [List.length_map]; exact HI.out.1)
      obtain ⟨c2, cut2, hs2⟩ := Src.drop (P := Try.prog) (t := 28) (e := 9) Try.underlying28 (fun W => by kernel_rfl) hov3 (i) (by rw [List.length_map]; exact HI.out.1) (i : Int) (by omega)
      rw [← List.map_take] at hs1
      rw [← List.map_drop] at hs2
      have HS1 : Hid (∀ W, Below w3.heap.size w3 W → Src W c1 ((l.take i).map (fun p : Int × ByteArray => Value.string p.2))) := fun W hW => hs1.below hW
      have HS2 : Hid (∀ W, Below w3.heap.size w3 W → Src W c2 ((l.drop (i)).map (fun p : Int × ByteArray => Value.string p.2))) := fun W hW => hs2.below hW
      clear hcv3 hf13 hov3 hs1 hs2
      go_upto_region 6 with fail
      go_cut [] from 44 to 64 (fun wx => Hid (∃ (v' : Value) (wd : World), wx = wd.setCell ⟨g, 1, none⟩ v' ∧ Below w3.heap.size w3 wd ∧ Ov wd w3.heap.size 9 v' ((l.take i ++ (k, v) :: l.drop i).map (fun p : Int × ByteArray => Value.string p.2))))
      case first =>
        go_wp2_with fail
        refine AnyE.begin (S := fun W => Below w3.heap.size w3 W) (z := 21) (by kernel_rfl) ?_
        have hHeld : Below w3.heap.size w3 w3.drew := (Below.refl _ _).drew
        refine takeE (i := 0) (v := ?v0_15) rfl (by decide) (by kernel_rfl) (by kernel_rfl) (by kernel_rfl) (by kernel_rfl) (fun _ _ _ h => h) (by rfl) ?hy0_15 (by assumption) ?rest0_15
        case hy0_15 => (intro W hSw; go_simp; try with_reducible rfl)
        try simp only [Act.put]
        try simp only [List.setIfInBounds_toArray]
        try simp only [List.set_cons_succ]
        try simp only [List.set_cons_zero]
        refine takeE (i := 2) (v := ?v2_16) rfl (by decide) (by kernel_rfl) (by kernel_rfl) (by kernel_rfl) (by kernel_rfl) (fun _ _ _ h => h) (by rfl) ?hy2_16 (by assumption) ?rest2_16
        case hy2_16 => (intro W hSw; go_simp; try with_reducible rfl)
        try simp only [Act.put]
        try simp only [List.setIfInBounds_toArray]
        try simp only [List.set_cons_succ]
        try simp only [List.set_cons_zero]
        refine takeE (i := 3) (v := ?v3_17) rfl (by decide) (by kernel_rfl) (by kernel_rfl) (by kernel_rfl) (by kernel_rfl) (fun _ _ _ h => h) (by rfl) ?hy3_17 (by assumption) ?rest3_17
        case hy3_17 => (intro W hSw; go_simp; try with_reducible rfl)
        try simp only [Act.put]
        try simp only [List.setIfInBounds_toArray]
        try simp only [List.set_cons_succ]
        try simp only [List.set_cons_zero]
        refine takeE (i := 4) (v := ?v4_18) rfl (by decide) (by kernel_rfl) (by kernel_rfl) (by kernel_rfl) (by kernel_rfl) (fun _ _ _ h => h) (by rfl) ?hy4_18 (by assumption) ?rest4_18
        case hy4_18 => (intro W hSw; go_simp; try with_reducible rfl)
        try simp only [Act.put]
        try simp only [List.setIfInBounds_toArray]
        try simp only [List.set_cons_succ]
        try simp only [List.set_cons_zero]
        refine takeE (i := 5) (v := ?v5_19) rfl (by decide) (by kernel_rfl) (by kernel_rfl) (by kernel_rfl) (by kernel_rfl) (fun _ _ _ h => h) (by rfl) ?hy5_19 (by assumption) ?rest5_19
        case hy5_19 => (intro W hSw; have y0 := HY.out W hSw; go_simp; try with_reducible rfl)
        try simp only [Act.put]
        try simp only [List.setIfInBounds_toArray]
        try simp only [List.set_cons_succ]
        try simp only [List.set_cons_zero]
        refine takeE (i := 6) (v := ?v6_20) rfl (by decide) (by kernel_rfl) (by kernel_rfl) (by kernel_rfl) (by kernel_rfl) (fun _ _ _ h => h) (by rfl) ?hy6_20 (by assumption) ?rest6_20
        case hy6_20 => (intro W hSw; go_simp; try with_reducible rfl)
        try simp only [Act.put]
        try simp only [List.setIfInBounds_toArray]
        try simp only [List.set_cons_succ]
        try simp only [List.set_cons_zero]
        refine takeE (i := 7) (v := ?v7_21) rfl (by decide) (by kernel_rfl) (by kernel_rfl) (by kernel_rfl) (by kernel_rfl) (fun _ _ _ h => h) (by rfl) ?hy7_21 (by assumption) ?rest7_21
        case hy7_21 => (intro W hSw; go_simp; try with_reducible rfl)
        try simp only [Act.put]
        try simp only [List.setIfInBounds_toArray]
        try simp only [List.set_cons_succ]
        try simp only [List.set_cons_zero]
        refine takeE (i := 9) (v := ?v9_22) rfl (by decide) (by kernel_rfl) (by kernel_rfl) (by kernel_rfl) (by kernel_rfl) (fun _ _ _ h => h) (by rfl) ?hy9_22 (by assumption) ?rest9_22
        case hy9_22 => (intro W hSw; go_simp; try with_reducible rfl)
        try simp only [Act.put]
        try simp only [List.setIfInBounds_toArray]
        try simp only [List.set_cons_succ]
        try simp only [List.set_cons_zero]
        refine takeE (i := 12) (v := ?v12_23) rfl (by decide) (by kernel_rfl) (by kernel_rfl) (by kernel_rfl) (by kernel_rfl) (fun _ _ _ h => h) (by rfl) ?hy12_23 (by assumption) ?rest12_23
        case hy12_23 => (intro W hSw; go_simp; try with_reducible rfl)
        try simp only [Act.put]
        try simp only [List.setIfInBounds_toArray]
        try simp only [List.set_cons_succ]
        try simp only [List.set_cons_zero]
        refine takeE (i := 13) (v := ?v13_24) rfl (by decide) (by kernel_rfl) (by kernel_rfl) (by kernel_rfl) (by kernel_rfl) (fun _ _ _ h => h) (by rfl) ?hy13_24 (by assumption) ?rest13_24
        case hy13_24 => (intro W hSw; go_simp; try with_reducible rfl)
        try simp only [Act.put]
        try simp only [List.setIfInBounds_toArray]
        try simp only [List.set_cons_succ]
        try simp only [List.set_cons_zero]
        refine takeE (i := 14) (v := ?v14_25) rfl (by decide) (by kernel_rfl) (by kernel_rfl) (by kernel_rfl) (by kernel_rfl) (fun _ _ _ h => h) (by rfl) ?hy14_25 (by assumption) ?rest14_25
        case hy14_25 => (intro W hSw; go_simp; try with_reducible rfl)
        try simp only [Act.put]
        try simp only [List.setIfInBounds_toArray]
        try simp only [List.set_cons_succ]
        try simp only [List.set_cons_zero]
        refine takeE (i := 15) (v := ?v15_26) rfl (by decide) (by kernel_rfl) (by kernel_rfl) (by kernel_rfl) (by kernel_rfl) (fun _ _ _ h => h) (by rfl) ?hy15_26 (by assumption) ?rest15_26
        case hy15_26 => (intro W hSw; have y0 := HY.out W hSw; go_simp; try with_reducible rfl)
        try simp only [Act.put]
        try simp only [List.setIfInBounds_toArray]
        try simp only [List.set_cons_succ]
        try simp only [List.set_cons_zero]
        refine takeE (i := 16) (v := ?v16_27) rfl (by decide) (by kernel_rfl) (by kernel_rfl) (by kernel_rfl) (by kernel_rfl) (fun _ _ _ h => h) (by rfl) ?hy16_27 (by assumption) ?rest16_27
        case hy16_27 => (intro W hSw; go_simp; try with_reducible rfl)
        try simp only [Act.put]
        try simp only [List.setIfInBounds_toArray]
        try simp only [List.set_cons_succ]
        try simp only [List.set_cons_zero]
        refine takeE (i := 17) (v := ?v17_28) rfl (by decide) (by kernel_rfl) (by kernel_rfl) (by kernel_rfl) (by kernel_rfl) (fun _ _ _ h => h) (by rfl) ?hy17_28 (by assumption) ?rest17_28
        case hy17_28 => (intro W hSw; go_simp; try with_reducible rfl)
        try simp only [Act.put]
        try simp only [List.setIfInBounds_toArray]
        try simp only [List.set_cons_succ]
        try simp only [List.set_cons_zero]
        have BT : Hid (Below w3.heap.size w3 w3.drew) := (Below.refl _ _).drew
        clear hHeld
        obtain ⟨wc, hwc⟩ : ∃ wc, wc = w3.drew := ⟨_, rfl⟩
        rw [← hwc] at BT
        rw [← hwc]
        clear hwc
        refine AnyE.ready (rs := [1, 10]) (by kernel_rfl) (by simp) ?_
        refine ReadyE.cons rfl (fun K hK => ?_) ?_
        · skip
          rw [if_pos (by rfl)]
          go_simp
          have OC : Hid (Ov (wc.alloc (.cells #[] 9)) w3.heap.size 9 (.slice (some ⟨wc.heap.size, 0, none⟩) 0 0) []) := Ov.lit0 wc BT.out.size
          have BN : Hid (Below w3.heap.size w3 (wc.alloc (.cells #[] 9))) := BT.out.alloc BT.out.size _
          clear BT
          have BT := BN
          clear BN
          refine hK.out _ _ BT.out (fun hHeld => ?_)
          try simp only [Act.put]
          try simp only [List.setIfInBounds_toArray]
          try simp only [List.set_cons_succ]
          try simp only [List.set_cons_zero]
          clear hK K hHeld
          generalize wc.alloc (.cells #[] 9) = wd at *
          generalize wc.heap.size = g0 at *
          clear wc
          obtain ⟨wc, rfl⟩ : ∃ wc, wc = wd := ⟨_, rfl⟩
          refine AnyE.ready (rs := [8, 10]) (by kernel_rfl) (by simp) ?_
          refine ReadyE.cons rfl (fun K hK => ?_) ?_
          · skip
            refine step_appV (by rfl) (.tmp 45) (.tmp 51) 28 (by rfl) w3.heap.size 9 (.string ⟨#[]⟩) 16 Try.underlying28 info_str rfl (by decide) (.slice (some ⟨g0, 0, none⟩) 0 0) [] (by rfl) OC.out _ ((l.take i).map (fun p : Int × ByteArray => Value.string p.2)) (by rfl) (HS1.out _ BT.out) (one_map (fun _ => rfl) _) (by have := HL.out; simp; omega) BT.out.size ?_
            intro vA wd ho hg hat
            rw [List.nil_append] at ho
            have OC2 := Lib.hid ho
            have BN : Hid (Below w3.heap.size w3 wd) := OC.out.grownB BT.out BT.out.size hg
            clear BT OC ho hg hat
            have BT := BN
            have OC := OC2
            clear BN OC2
            refine hK.out _ _ BT.out (fun hHeld => ?_)
            try simp only [Act.put]
            try simp only [List.setIfInBounds_toArray]
            try simp only [List.set_cons_succ]
            try simp only [List.set_cons_zero]
            clear hK K hHeld
            clear wc
            obtain ⟨wc, rfl⟩ : ∃ wc, wc = wd := ⟨_, rfl⟩
            refine AnyE.ready (rs := [10]) (by kernel_rfl) (by simp) ?_
            refine ReadyE.cons rfl (fun K hK => ?_) ReadyE.nil
            rw [if_pos (by rfl)]
            go_simp
            have RX : Hid (RowAt (wc.alloc (.cells #[.string v] 9)) wc.heap.size [.string v]) := RowAt.made wc #[.string v] 9
            have NX : Hid ((Value.ownBlock vA) ≠ some wc.heap.size) := fun e => by have := (OC.out.lt e).2; omega
            have OC2 := Lib.hid (OC.out.alloc (.cells #[.string v] 9))
            clear OC
            have OC := OC2
            clear OC2
            have BN : Hid (Below w3.heap.size w3 (wc.alloc (.cells #[.string v] 9))) := BT.out.alloc BT.out.size _
            clear BT
            have BT := BN
            clear BN
            refine hK.out _ _ BT.out (fun hHeld => ?_)
            try simp only [Act.put]
            try simp only [List.setIfInBounds_toArray]
            try simp only [List.set_cons_succ]
            try simp only [List.set_cons_zero]
            clear hK K hHeld
            generalize wc.alloc (.cells #[.string v] 9) = wd at *
            generalize wc.heap.size = gx at *
            clear wc
            obtain ⟨wc, rfl⟩ : ∃ wc, wc = wd := ⟨_, rfl⟩
            refine AnyE.ready (rs := [11]) (by kernel_rfl) (by simp) ?_
            refine ReadyE.cons rfl (fun K hK => ?_) ReadyE.nil
            refine step_appV (by rfl) (.tmp 52) (.tmp 54) 28 (by rfl) w3.heap.size 9 (.string ⟨#[]⟩) 16 Try.underlying28 info_str rfl (by decide) vA ((l.take i).map (fun p : Int × ByteArray => Value.string p.2)) (by rfl) OC.out _ [.string v] (by rfl) (RX.out.src1) (fun y hy => by simp at hy; subst hy; rfl) (by have := HL.out; simp; omega) BT.out.size ?_
            intro vB wd ho hg hat
            have OC2 := Lib.hid ho
            have BN : Hid (Below w3.heap.size w3 wd) := OC.out.grownB BT.out BT.out.size hg
            clear BT OC ho hg hat RX NX
            have BT := BN
            have OC := OC2
            clear BN OC2
            refine hK.out _ _ BT.out (fun hHeld => ?_)
            try simp only [Act.put]
            try simp only [List.setIfInBounds_toArray]
            try simp only [List.set_cons_succ]
            try simp only [List.set_cons_zero]
            clear hK K hHeld
            clear wc
            obtain ⟨wc, rfl⟩ : ∃ wc, wc = wd := ⟨_, rfl⟩
            refine AnyE.ready (rs := [18]) (by kernel_rfl) (by simp) ?_
            refine ReadyE.cons rfl (fun K hK => ?_) ReadyE.nil
            refine step_appV (by rfl) (.tmp 55) (.tmp 61) 28 (by rfl) w3.heap.size 9 (.string ⟨#[]⟩) 16 Try.underlying28 info_str rfl (by decide) vB ((l.take i).map (fun p : Int × ByteArray => Value.string p.2) ++ [.string v]) (by rfl) OC.out _ ((l.drop (i)).map (fun p : Int × ByteArray => Value.string p.2)) (by rfl) (HS2.out _ BT.out) (one_map (fun _ => rfl) _) (by have := HL.out; simp; omega) BT.out.size ?_
            intro vC wd ho hg hat
            have OC2 := Lib.hid ho
            have BN : Hid (Below w3.heap.size w3 wd) := OC.out.grownB BT.out BT.out.size hg
            clear BT OC ho hg hat
            have BT := BN
            have OC := OC2
            clear BN OC2
            refine hK.out _ _ BT.out (fun hHeld => ?_)
            try simp only [Act.put]
            try simp only [List.setIfInBounds_toArray]
            try simp only [List.set_cons_succ]
            try simp only [List.set_cons_zero]
            clear hK K hHeld
            clear wc
            obtain ⟨wc, rfl⟩ : ∃ wc, wc = wd := ⟨_, rfl⟩
            obtain ⟨AC, nC, cC, rfl⟩ : ∃ A n c, vC = .slice A n c := (by obtain ⟨A, c, h, -, -⟩ := OC.out.form; exact ⟨A, _, c, h⟩)
            refine AnyE.ready (rs := [19]) (by kernel_rfl) (by simp) ?_
            refine ReadyE.cons rfl (fun K hK => ?_) ReadyE.nil
            rw [if_pos (by rfl)]
            go_simp
            refine hK.out _ _ BT.out (fun hHeld => ?_)
            try simp only [Act.put]
            try simp only [List.setIfInBounds_toArray]
            try simp only [List.set_cons_succ]
            try simp only [List.set_cons_zero]
            clear hK K hHeld
            refine AnyE.ready (rs := [20]) (by kernel_rfl) (by simp) ?_
            refine ReadyE.cons rfl (fun K hK => ?_) ReadyE.nil
            rw [if_pos (by rfl)]
            go_simp
            refine hK.out _ _ BT.out (fun hHeld => ?_)
            try simp only [Act.put]
            try simp only [List.setIfInBounds_toArray]
            try simp only [List.set_cons_succ]
            try simp only [List.set_cons_zero]
            clear hK K hHeld
            refine AnyE.ready (rs := [21]) (by kernel_rfl) (by simp) ?_
            refine ReadyE.last rfl (fun K hK => ?_)
            have y0 := HY.out _ BT.out
            have f0 := HF.out _ BT.out
            rw [if_pos (by rfl)]
            go_simp
            refine hK.out _ _ ?_
            try simp only [Act.put]
            try simp only [List.setIfInBounds_toArray]
            try simp only [List.set_cons_succ]
            try simp only [List.set_cons_zero]
            clear hK K y0 f0
            refine AnyE.done (by kernel_rfl) ?_ _
            go_wp2_with fail
            go_meet
            case rel => exact ⟨.slice AC nC cC, wc, rfl, BT.out, by simpa using OC.out⟩
          refine ReadyE.cons rfl (fun K hK => ?_) ReadyE.nil
          rw [if_pos (by rfl)]
          go_simp
          have RX : Hid (RowAt (wc.alloc (.cells #[.string v] 9)) wc.heap.size [.string v]) := RowAt.made wc #[.string v] 9
          have NX : Hid ((Value.ownBlock (.slice (some ⟨g0, 0, none⟩) 0 0)) ≠ some wc.heap.size) := fun e => by have := (OC.out.lt e).2; omega
          have OC2 := Lib.hid (OC.out.alloc (.cells #[.string v] 9))
          clear OC
          have OC := OC2
          clear OC2
          have BN : Hid (Below w3.heap.size w3 (wc.alloc (.cells #[.string v] 9))) := BT.out.alloc BT.out.size _
          clear BT
          have BT := BN
          clear BN
          refine hK.out _ _ BT.out (fun hHeld => ?_)
          try simp only [Act.put]
          try simp only [List.setIfInBounds_toArray]
          try simp only [List.set_cons_succ]
          try simp only [List.set_cons_zero]
          clear hK K hHeld
          generalize wc.alloc (.cells #[.string v] 9) = wd at *
          generalize wc.heap.size = gx at *
          clear wc
          obtain ⟨wc, rfl⟩ : ∃ wc, wc = wd := ⟨_, rfl⟩
          refine AnyE.ready (rs := [8]) (by kernel_rfl) (by simp) ?_
          refine ReadyE.cons rfl (fun K hK => ?_) ReadyE.nil
          refine step_appV (by rfl) (.tmp 45) (.tmp 51) 28 (by rfl) w3.heap.size 9 (.string ⟨#[]⟩) 16 Try.underlying28 info_str rfl (by decide) (.slice (some ⟨g0, 0, none⟩) 0 0) [] (by rfl) OC.out _ ((l.take i).map (fun p : Int × ByteArray => Value.string p.2)) (by rfl) (HS1.out _ BT.out) (one_map (fun _ => rfl) _) (by have := HL.out; simp; omega) BT.out.size ?_
          intro vA wd ho hg hat
          rw [List.nil_append] at ho
          have OC2 := Lib.hid ho
          have BN : Hid (Below w3.heap.size w3 wd) := OC.out.grownB BT.out BT.out.size hg
          have NX2 : Hid (vA.ownBlock ≠ some gx) := by
            show _ ≠ _
            rcases hat with h | h <;> rw [h]
            · exact NX.out
            · intro e; injection e with e; have := RX.out.1; omega
          have RX2 := Lib.hid (RX.out.grownV hg NX.out)
          clear NX
          have NX := NX2
          clear NX2
          clear RX
          have RX := RX2
          clear RX2
          clear BT OC ho hg hat
          have BT := BN
          have OC := OC2
          clear BN OC2
          refine hK.out _ _ BT.out (fun hHeld => ?_)
          try simp only [Act.put]
          try simp only [List.setIfInBounds_toArray]
          try simp only [List.set_cons_succ]
          try simp only [List.set_cons_zero]
          clear hK K hHeld
          clear wc
          obtain ⟨wc, rfl⟩ : ∃ wc, wc = wd := ⟨_, rfl⟩
          refine AnyE.ready (rs := [11]) (by kernel_rfl) (by simp) ?_
          refine ReadyE.cons rfl (fun K hK => ?_) ReadyE.nil
          refine step_appV (by rfl) (.tmp 52) (.tmp 54) 28 (by rfl) w3.heap.size 9 (.string ⟨#[]⟩) 16 Try.underlying28 info_str rfl (by decide) vA ((l.take i).map (fun p : Int × ByteArray => Value.string p.2)) (by rfl) OC.out _ [.string v] (by rfl) (RX.out.src1) (fun y hy => by simp at hy; subst hy; rfl) (by have := HL.out; simp; omega) BT.out.size ?_
          intro vB wd ho hg hat
          have OC2 := Lib.hid ho
          have BN : Hid (Below w3.heap.size w3 wd) := OC.out.grownB BT.out BT.out.size hg
          clear BT OC ho hg hat RX NX
          have BT := BN
          have OC := OC2
          clear BN OC2
          refine hK.out _ _ BT.out (fun hHeld => ?_)
          try simp only [Act.put]
          try simp only [List.setIfInBounds_toArray]
          try simp only [List.set_cons_succ]
          try simp only [List.set_cons_zero]
          clear hK K hHeld
          clear wc
          obtain ⟨wc, rfl⟩ : ∃ wc, wc = wd := ⟨_, rfl⟩
          refine AnyE.ready (rs := [18]) (by kernel_rfl) (by simp) ?_
          refine ReadyE.cons rfl (fun K hK => ?_) ReadyE.nil
          refine step_appV (by rfl) (.tmp 55) (.tmp 61) 28 (by rfl) w3.heap.size 9 (.string ⟨#[]⟩) 16 Try.underlying28 info_str rfl (by decide) vB ((l.take i).map (fun p : Int × ByteArray => Value.string p.2) ++ [.string v]) (by rfl) OC.out _ ((l.drop (i)).map (fun p : Int × ByteArray => Value.string p.2)) (by rfl) (HS2.out _ BT.out) (one_map (fun _ => rfl) _) (by have := HL.out; simp; omega) BT.out.size ?_
          intro vC wd ho hg hat
          have OC2 := Lib.hid ho
          have BN : Hid (Below w3.heap.size w3 wd) := OC.out.grownB BT.out BT.out.size hg
          clear BT OC ho hg hat
          have BT := BN
          have OC := OC2
          clear BN OC2
          refine hK.out _ _ BT.out (fun hHeld => ?_)
          try simp only [Act.put]
          try simp only [List.setIfInBounds_toArray]
          try simp only [List.set_cons_succ]
          try simp only [List.set_cons_zero]
          clear hK K hHeld
          clear wc
          obtain ⟨wc, rfl⟩ : ∃ wc, wc = wd := ⟨_, rfl⟩
          obtain ⟨AC, nC, cC, rfl⟩ : ∃ A n c, vC = .slice A n c := (by obtain ⟨A, c, h, -, -⟩ := OC.out.form; exact ⟨A, _, c, h⟩)
          refine AnyE.ready (rs := [19]) (by kernel_rfl) (by simp) ?_
          refine ReadyE.cons rfl (fun K hK => ?_) ReadyE.nil
          rw [if_pos (by rfl)]
          go_simp
          refine hK.out _ _ BT.out (fun hHeld => ?_)
          try simp only [Act.put]
          try simp only [List.setIfInBounds_toArray]
          try simp only [List.set_cons_succ]
          try simp only [List.set_cons_zero]
          clear hK K hHeld
          refine AnyE.ready (rs := [20]) (by kernel_rfl) (by simp) ?_
          refine ReadyE.cons rfl (fun K hK => ?_) ReadyE.nil
          rw [if_pos (by rfl)]
          go_simp
          refine hK.out _ _ BT.out (fun hHeld => ?_)
          try simp only [Act.put]
          try simp only [List.setIfInBounds_toArray]
          try simp only [List.set_cons_succ]
          try simp only [List.set_cons_zero]
          clear hK K hHeld
          refine AnyE.ready (rs := [21]) (by kernel_rfl) (by simp) ?_
          refine ReadyE.last rfl (fun K hK => ?_)
          have y0 := HY.out _ BT.out
          have f0 := HF.out _ BT.out
          rw [if_pos (by rfl)]
          go_simp
          refine hK.out _ _ ?_
          try simp only [Act.put]
          try simp only [List.setIfInBounds_toArray]
          try simp only [List.set_cons_succ]
          try simp only [List.set_cons_zero]
          clear hK K y0 f0
          refine AnyE.done (by kernel_rfl) ?_ _
          go_wp2_with fail
          go_meet
          case rel => exact ⟨.slice AC nC cC, wc, rfl, BT.out, by simpa using OC.out⟩
        refine ReadyE.cons rfl (fun K hK => ?_) ReadyE.nil
        rw [if_pos (by rfl)]
        go_simp
        have RX : Hid (RowAt (wc.alloc (.cells #[.string v] 9)) wc.heap.size [.string v]) := RowAt.made wc #[.string v] 9
        have BN : Hid (Below w3.heap.size w3 (wc.alloc (.cells #[.string v] 9))) := BT.out.alloc BT.out.size _
        clear BT
        have BT := BN
        clear BN
        refine hK.out _ _ BT.out (fun hHeld => ?_)
        try simp only [Act.put]
        try simp only [List.setIfInBounds_toArray]
        try simp only [List.set_cons_succ]
        try simp only [List.set_cons_zero]
        clear hK K hHeld
        generalize wc.alloc (.cells #[.string v] 9) = wd at *
        generalize wc.heap.size = gx at *
        clear wc
        obtain ⟨wc, rfl⟩ : ∃ wc, wc = wd := ⟨_, rfl⟩
        refine AnyE.ready (rs := [1]) (by kernel_rfl) (by simp) ?_
        refine ReadyE.cons rfl (fun K hK => ?_) ReadyE.nil
        rw [if_pos (by rfl)]
        go_simp
        have OC : Hid (Ov (wc.alloc (.cells #[] 9)) w3.heap.size 9 (.slice (some ⟨wc.heap.size, 0, none⟩) 0 0) []) := Ov.lit0 wc BT.out.size
        have NX : Hid ((Value.slice (some ⟨wc.heap.size, 0, none⟩) 0 0).ownBlock ≠ some gx) := fun e => by have e2 : wc.heap.size = gx := Option.some.inj e; have := RX.out.1; omega
        have RX2 := Lib.hid (RX.out.alloc (.cells #[] 9))
        clear RX
        have RX := RX2
        clear RX2
        have BN : Hid (Below w3.heap.size w3 (wc.alloc (.cells #[] 9))) := BT.out.alloc BT.out.size _
        clear BT
        have BT := BN
        clear BN
        refine hK.out _ _ BT.out (fun hHeld => ?_)
        try simp only [Act.put]
        try simp only [List.setIfInBounds_toArray]
        try simp only [List.set_cons_succ]
        try simp only [List.set_cons_zero]
        clear hK K hHeld
        generalize wc.alloc (.cells #[] 9) = wd at *
        generalize wc.heap.size = g0 at *
        clear wc
        obtain ⟨wc, rfl⟩ : ∃ wc, wc = wd := ⟨_, rfl⟩
        refine AnyE.ready (rs := [8]) (by kernel_rfl) (by simp) ?_
        refine ReadyE.cons rfl (fun K hK => ?_) ReadyE.nil
        refine step_appV (by rfl) (.tmp 45) (.tmp 51) 28 (by rfl) w3.heap.size 9 (.string ⟨#[]⟩) 16 Try.underlying28 info_str rfl (by decide) (.slice (some ⟨g0, 0, none⟩) 0 0) [] (by rfl) OC.out _ ((l.take i).map (fun p : Int × ByteArray => Value.string p.2)) (by rfl) (HS1.out _ BT.out) (one_map (fun _ => rfl) _) (by have := HL.out; simp; omega) BT.out.size ?_
        intro vA wd ho hg hat
        rw [List.nil_append] at ho
        have OC2 := Lib.hid ho
        have BN : Hid (Below w3.heap.size w3 wd) := OC.out.grownB BT.out BT.out.size hg
        have NX2 : Hid (vA.ownBlock ≠ some gx) := by
          show _ ≠ _
          rcases hat with h | h <;> rw [h]
          · exact NX.out
          · intro e; injection e with e; have := RX.out.1; omega
        have RX2 := Lib.hid (RX.out.grownV hg NX.out)
        clear NX
        have NX := NX2
        clear NX2
        clear RX
        have RX := RX2
        clear RX2
        clear BT OC ho hg hat
        have BT := BN
        have OC := OC2
        clear BN OC2
        refine hK.out _ _ BT.out (fun hHeld => ?_)
        try simp only [Act.put]
        try simp only [List.setIfInBounds_toArray]
        try simp only [List.set_cons_succ]
        try simp only [List.set_cons_zero]
        clear hK K hHeld
        clear wc
        obtain ⟨wc, rfl⟩ : ∃ wc, wc = wd := ⟨_, rfl⟩
        refine AnyE.ready (rs := [11]) (by kernel_rfl) (by simp) ?_
        refine ReadyE.cons rfl (fun K hK => ?_) ReadyE.nil
        refine step_appV (by rfl) (.tmp 52) (.tmp 54) 28 (by rfl) w3.heap.size 9 (.string ⟨#[]⟩) 16 Try.underlying28 info_str rfl (by decide) vA ((l.take i).map (fun p : Int × ByteArray => Value.string p.2)) (by rfl) OC.out _ [.string v] (by rfl) (RX.out.src1) (fun y hy => by simp at hy; subst hy; rfl) (by have := HL.out; simp; omega) BT.out.size ?_
        intro vB wd ho hg hat
        have OC2 := Lib.hid ho
        have BN : Hid (Below w3.heap.size w3 wd) := OC.out.grownB BT.out BT.out.size hg
        clear BT OC ho hg hat RX NX
        have BT := BN
        have OC := OC2
        clear BN OC2
        refine hK.out _ _ BT.out (fun hHeld => ?_)
        try simp only [Act.put]
        try simp only [List.setIfInBounds_toArray]
        try simp only [List.set_cons_succ]
        try simp only [List.set_cons_zero]
        clear hK K hHeld
        clear wc
        obtain ⟨wc, rfl⟩ : ∃ wc, wc = wd := ⟨_, rfl⟩
        refine AnyE.ready (rs := [18]) (by kernel_rfl) (by simp) ?_
        refine ReadyE.cons rfl (fun K hK => ?_) ReadyE.nil
        refine step_appV (by rfl) (.tmp 55) (.tmp 61) 28 (by rfl) w3.heap.size 9 (.string ⟨#[]⟩) 16 Try.underlying28 info_str rfl (by decide) vB ((l.take i).map (fun p : Int × ByteArray => Value.string p.2) ++ [.string v]) (by rfl) OC.out _ ((l.drop (i)).map (fun p : Int × ByteArray => Value.string p.2)) (by rfl) (HS2.out _ BT.out) (one_map (fun _ => rfl) _) (by have := HL.out; simp; omega) BT.out.size ?_
        intro vC wd ho hg hat
        have OC2 := Lib.hid ho
        have BN : Hid (Below w3.heap.size w3 wd) := OC.out.grownB BT.out BT.out.size hg
        clear BT OC ho hg hat
        have BT := BN
        have OC := OC2
        clear BN OC2
        refine hK.out _ _ BT.out (fun hHeld => ?_)
        try simp only [Act.put]
        try simp only [List.setIfInBounds_toArray]
        try simp only [List.set_cons_succ]
        try simp only [List.set_cons_zero]
        clear hK K hHeld
        clear wc
        obtain ⟨wc, rfl⟩ : ∃ wc, wc = wd := ⟨_, rfl⟩
        obtain ⟨AC, nC, cC, rfl⟩ : ∃ A n c, vC = .slice A n c := (by obtain ⟨A, c, h, -, -⟩ := OC.out.form; exact ⟨A, _, c, h⟩)
        refine AnyE.ready (rs := [19]) (by kernel_rfl) (by simp) ?_
        refine ReadyE.cons rfl (fun K hK => ?_) ReadyE.nil
        rw [if_pos (by rfl)]
        go_simp
        refine hK.out _ _ BT.out (fun hHeld => ?_)
        try simp only [Act.put]
        try simp only [List.setIfInBounds_toArray]
        try simp only [List.set_cons_succ]
        try simp only [List.set_cons_zero]
        clear hK K hHeld
        refine AnyE.ready (rs := [20]) (by kernel_rfl) (by simp) ?_
        refine ReadyE.cons rfl (fun K hK => ?_) ReadyE.nil
        rw [if_pos (by rfl)]
        go_simp
        refine hK.out _ _ BT.out (fun hHeld => ?_)
        try simp only [Act.put]
        try simp only [List.setIfInBounds_toArray]
        try simp only [List.set_cons_succ]
        try simp only [List.set_cons_zero]
        clear hK K hHeld
        refine AnyE.ready (rs := [21]) (by kernel_rfl) (by simp) ?_
        refine ReadyE.last rfl (fun K hK => ?_)
        have y0 := HY.out _ BT.out
        have f0 := HF.out _ BT.out
        rw [if_pos (by rfl)]
        go_simp
        refine hK.out _ _ ?_
        try simp only [Act.put]
        try simp only [List.setIfInBounds_toArray]
        try simp only [List.set_cons_succ]
        try simp only [List.set_cons_zero]
        clear hK K y0 f0
        refine AnyE.done (by kernel_rfl) ?_ _
        go_wp2_with fail
        go_meet
        case rel => exact ⟨.slice AC nC cC, wc, rfl, BT.out, by simpa using OC.out⟩
      case rest =>
        obtain ⟨v3, we, hw4, h4, o4⟩ := hcut.out
        clear hcut
        obtain ⟨hut, hkp⟩ := Ut.two (vk := v1) (vv := v3) (Nat.le_trans HB.out H1.out.1.size) HU.out.le HU.out.ne (Nat.lt_of_lt_of_le HGL.out H1.out.1.size) (Nat.lt_of_lt_of_le HU.out.lt H1.out.1.size) H1.out.2.2.2.1 H1.out.2.2.2.2.1 H1.out.2.1 H1.out.2.2.1 HE3.out.2.1 HE3.out.2.2 HE3.out.1 h4 o4
        rw [← hw4] at hut hkp
        have HR := Lib.hid (And.intro hut ((Kp.of_below HB.out H1.out.1).trans hkp))
        clear hut hkp hw4 h4 o4 cut1 cut2 HY HF HS1 HS2
        go_wp2_with fail
        go_ret
        exact (show PutU _ _ _ _ _ _ _ _ _ from ⟨i, false, HI.out, rfl, HR.out.1, g, .inl rfl, HR.out.2⟩)

set_option maxRecDepth 100000 in
set_option maxHeartbeats 4000000 in
theorem uget_any (w : World) {B g q : Nat} {l : List (Int × ByteArray)} (k : Int) (hB : B ≤ w.heap.size) (h : Ut B w g q l) (hl : l.length ≤ 1000000) :
    Calls Try.prog 14 #[.pointer (some ⟨g, 0, none⟩), .int .i64 k] w (GetU l k w) := by
  obtain ⟨vk, vv, hck, hcv, hok, hov, hn1, hn2, hn3⟩ := h.st
  obtain ⟨A, c, hvk, -, hrz⟩ := (show Ov w B 3 vk ((l.map (·.1)).map (Value.int .i64)) by rw [List.map_map]; exact hok).rz
  have HP := Lib.hid (uplace_any w k (by rw [← hvk]; exact hck) hrz (by rw [List.length_map]; exact hl))
  rw [List.length_map] at HP
  have HC := Lib.hid (And.intro hck (And.intro hcv (And.intro hok hov)))
  have HN := Lib.hid (And.intro hn1 (And.intro hn2 hn3))
  have HU := Lib.hid h
  have HL := Lib.hid hl
  have HB := Lib.hid hB
  have gl := World.block_lt_of_cell? w ⟨g, 0, none⟩ hck
  have HGL := Lib.hid gl
  clear hvk hrz hok hov hck hcv hn1 hn2 hn3 h hl gl hB
  go_enter Try.func14, Try.ntmps14
  go_wp2_with fail
  refine HP.out.mono ?_
  rintro e w1 ⟨i, ok, rfl, hi, hlow, hyes, hno, hb1⟩
  have HI : Hid (UAt l k i ok) := ⟨hi, hlow, hyes, hno⟩
  clear hi hlow hyes hno
  cases ok with
  | true =>
    have hb := hb1
    have hck := (hb.cell (p := ⟨g, 0, none⟩) HGL.out).trans HC.out.1
    have hcv := (hb.cell (p := ⟨g, 1, none⟩) HGL.out).trans HC.out.2.1
    have hf0 : w1.frozen? ⟨g, 0, none⟩ = false := (World.frozen?_of_block (w := w) (hb.block g HGL.out)).trans HU.out.fr0
    have hf1 : w1.frozen? ⟨g, 1, none⟩ = false := (World.frozen?_of_block (w := w) (hb.block g HGL.out)).trans HU.out.fr1
    have hok := (HC.out.2.2.1.below hb).src
    have hov := (HC.out.2.2.2.below hb).src
    have hil : i < l.length := by
      rcases Nat.lt_or_ge i l.length with h | h
      · exact h
      · have h2 := HI.out.2.2.1 rfl
        rw [List.getElem?_map, List.getElem?_eq_none h] at h2; cases h2
    have hov2 := HC.out.2.2.2.below hb
    obtain ⟨AV, cV, hvv, hcl, hfm⟩ := hov2.form
    rw [List.length_map] at hvv hcl hfm
    obtain ⟨bV, rfl, hB1, hB2, hcells⟩ := hfm (by omega)
    have hcx := hcells i (.string l[i].2) (by rw [List.getElem?_map, List.getElem?_eq_getElem hil]; rfl)
    obtain ⟨m, hm⟩ : ∃ m, m = l.length := ⟨_, rfl⟩
    have hlx : ((l[i]?).map (·.2)).getD ⟨#[]⟩ = l[i].2 := by rw [List.getElem?_eq_getElem hil]; rfl
    rw [← hm] at hvv
    rw [hvv] at hcv
    have tn : (i : Int) < (m : Int) := by omega
    have i0 : (0 : Int) ≤ (i : Int) := by omega
    have HX := Lib.hid (And.intro hb1 hlx)
    generalize l[i].2 = x at *
    clear hb hb1 hf0 hf1 hok hov hov2 hcells hfm hlx hm hck hvv
    go_wp2_with fail
    refine bodyPost_ret (v := .tuple #[.string x, .bool true]) (by simp [results, Try.results14, go_sem]) rfl ?_
    exact (show GetU _ _ _ _ _ from ⟨i, true, HI.out, (by rw [if_pos rfl, HX.out.2]), HX.out.1⟩)
  | false =>
    have HX := Lib.hid hb1
    clear hb1
    go_wp2_with fail
    refine bodyPost_ret (v := .tuple #[.string ⟨#[]⟩, .bool false]) (by simp [results, Try.results14, go_sem]) rfl ?_
    exact (show GetU _ _ _ _ _ from ⟨i, false, HI.out, rfl, HX.out⟩)

set_option maxRecDepth 100000 in
set_option maxHeartbeats 16000000 in
theorem udel_any (w : World) {B g q : Nat} {l : List (Int × ByteArray)} (k : Int) (hB : B ≤ w.heap.size) (h : Ut B w g q l) (hl : l.length ≤ 1000000) :
    Calls Try.prog 12 #[.pointer (some ⟨g, 0, none⟩), .int .i64 k] w (DelU B g q l k w) := by
  obtain ⟨vk, vv, hck, hcv, hok, hov, hn1, hn2, hn3⟩ := h.st
  obtain ⟨A, c, hvk, -, hrz⟩ := (show Ov w B 3 vk ((l.map (·.1)).map (Value.int .i64)) by rw [List.map_map]; exact hok).rz
  have HP := Lib.hid (uplace_any w k (by rw [← hvk]; exact hck) hrz (by rw [List.length_map]; exact hl))
  rw [List.length_map] at HP
  have HC := Lib.hid (And.intro hck (And.intro hcv (And.intro hok hov)))
  have HN := Lib.hid (And.intro hn1 (And.intro hn2 hn3))
  have HU := Lib.hid h
  have HL := Lib.hid hl
  have HB := Lib.hid hB
  have gl := World.block_lt_of_cell? w ⟨g, 0, none⟩ hck
  have HGL := Lib.hid gl
  clear hvk hrz hok hov hck hcv hn1 hn2 hn3 h hl gl hB
  go_enter Try.func12, Try.ntmps12
  go_wp2_with fail
  refine HP.out.mono ?_
  rintro e w1 ⟨i, ok, rfl, hi, hlow, hyes, hno, hb1⟩
  have HI : Hid (UAt l k i ok) := ⟨hi, hlow, hyes, hno⟩
  clear hi hlow hyes hno
  cases ok with
  | true =>
    have hb := hb1
    have hck := (hb.cell (p := ⟨g, 0, none⟩) HGL.out).trans HC.out.1
    have hcv := (hb.cell (p := ⟨g, 1, none⟩) HGL.out).trans HC.out.2.1
    have hf0 : w1.frozen? ⟨g, 0, none⟩ = false := (World.frozen?_of_block (w := w) (hb.block g HGL.out)).trans HU.out.fr0
    have hf1 : w1.frozen? ⟨g, 1, none⟩ = false := (World.frozen?_of_block (w := w) (hb.block g HGL.out)).trans HU.out.fr1
    have hok := (HC.out.2.2.1.below hb).src
    have hov := (HC.out.2.2.2.below hb).src
    have hil : i + 1 ≤ l.length := by
      rcases Nat.lt_or_ge i l.length with h | h
      · exact h
      · have h2 := HI.out.2.2.1 rfl
        rw [List.getElem?_map, List.getElem?_eq_none h] at h2; cases h2
    have HIL := Lib.hid hil
    have hwi : IntKind.i64.wrap ((i : Int) + 1) = (i : Int) + 1 := by rw [IntKind.wrap_i64]; have := HL.out; omega
    have hwj : wrap64 ((i : Int) + 1) = (i : Int) + 1 := by unfold wrap64; have := HL.out; omega
    clear hil
    have HY : Hid (∀ W, Below w1.heap.size w1 W → W.cell? ⟨g, 0, none⟩ = some vk) := fun W hW => (hW.cell (p := ⟨g, 0, none⟩) (World.block_lt_of_cell? w1 ⟨g, 0, none⟩ hck)).trans hck
    have HF : Hid (∀ W, Below w1.heap.size w1 W → W.frozen? ⟨g, 0, none⟩ = false) := fun W hW => (World.frozen?_of_block (w := w1) (hW.block g (World.block_lt_of_cell? w1 ⟨g, 0, none⟩ hck))).trans hf0
    obtain ⟨c1, cut1, hs1⟩ := Src.take (P := Try.prog) (t := 27) (e := 3) Try.underlying27 (fun W => by kernel_rfl) hok i (by rw [List.length_map]; exact HI.out.1)
    obtain ⟨c2, cut2, hs2⟩ := Src.drop (P := Try.prog) (t := 27) (e := 3) Try.underlying27 (fun W => by kernel_rfl) hok (i + 1) (by rw [List.length_map]; exact HIL.out) ((i : Int) + 1) (by omega)
    rw [← List.map_take] at hs1
    rw [← List.map_drop] at hs2
    have HS1 : Hid (∀ W, Below w1.heap.size w1 W → Src W c1 ((l.take i).map (fun p : Int × ByteArray => Value.int .i64 p.1))) := fun W hW => hs1.below hW
    have HS2 : Hid (∀ W, Below w1.heap.size w1 W → Src W c2 ((l.drop (i + 1)).map (fun p : Int × ByteArray => Value.int .i64 p.1))) := fun W hW => hs2.below hW
    have H1 := Lib.hid (And.intro hb1 (And.intro hck (And.intro hcv (And.intro hf0 (And.intro hf1 hov)))))
    clear hb hb1 hck hcv hf0 hf1 hok hov hs1 hs2
    go_upto_region 3 with fail
    go_cut [] from 14 to 32 (fun wx => Hid (∃ (v' : Value) (wd : World), wx = wd.setCell ⟨g, 0, none⟩ v' ∧ Below w1.heap.size w1 wd ∧ Ov wd w1.heap.size 3 v' ((l.take i ++ l.drop (i + 1)).map (fun p : Int × ByteArray => Value.int .i64 p.1))))
    case first =>
      go_wp2_with fail
      refine AnyE.begin (S := fun W => Below w1.heap.size w1 W) (z := 19) (by kernel_rfl) ?_
      have hHeld : Below w1.heap.size w1 w1.drew := (Below.refl _ _).drew
      refine takeE (i := 0) (v := ?v0_29) rfl (by decide) (by kernel_rfl) (by kernel_rfl) (by kernel_rfl) (by kernel_rfl) (fun _ _ _ h => h) (by rfl) ?hy0_29 (by assumption) ?rest0_29
      case hy0_29 => (intro W hSw; go_simp; try with_reducible rfl)
      try simp only [Act.put]
      try simp only [List.setIfInBounds_toArray]
      try simp only [List.set_cons_succ]
      try simp only [List.set_cons_zero]
      refine takeE (i := 2) (v := ?v2_30) rfl (by decide) (by kernel_rfl) (by kernel_rfl) (by kernel_rfl) (by kernel_rfl) (fun _ _ _ h => h) (by rfl) ?hy2_30 (by assumption) ?rest2_30
      case hy2_30 => (intro W hSw; go_simp; try with_reducible rfl)
      try simp only [Act.put]
      try simp only [List.setIfInBounds_toArray]
      try simp only [List.set_cons_succ]
      try simp only [List.set_cons_zero]
      refine takeE (i := 3) (v := ?v3_31) rfl (by decide) (by kernel_rfl) (by kernel_rfl) (by kernel_rfl) (by kernel_rfl) (fun _ _ _ h => h) (by rfl) ?hy3_31 (by assumption) ?rest3_31
      case hy3_31 => (intro W hSw; go_simp; try with_reducible rfl)
      try simp only [Act.put]
      try simp only [List.setIfInBounds_toArray]
      try simp only [List.set_cons_succ]
      try simp only [List.set_cons_zero]
      refine takeE (i := 4) (v := ?v4_32) rfl (by decide) (by kernel_rfl) (by kernel_rfl) (by kernel_rfl) (by kernel_rfl) (fun _ _ _ h => h) (by rfl) ?hy4_32 (by assumption) ?rest4_32
      case hy4_32 => (intro W hSw; go_simp; try with_reducible rfl)
      try simp only [Act.put]
      try simp only [List.setIfInBounds_toArray]
      try simp only [List.set_cons_succ]
      try simp only [List.set_cons_zero]
      refine takeE (i := 5) (v := ?v5_33) rfl (by decide) (by kernel_rfl) (by kernel_rfl) (by kernel_rfl) (by kernel_rfl) (fun _ _ _ h => h) (by rfl) ?hy5_33 (by assumption) ?rest5_33
      case hy5_33 => (intro W hSw; have y0 := HY.out W hSw; go_simp; try with_reducible rfl)
      try simp only [Act.put]
      try simp only [List.setIfInBounds_toArray]
      try simp only [List.set_cons_succ]
      try simp only [List.set_cons_zero]
      refine takeE (i := 6) (v := ?v6_34) rfl (by decide) (by kernel_rfl) (by kernel_rfl) (by kernel_rfl) (by kernel_rfl) (fun _ _ _ h => h) (by rfl) ?hy6_34 (by assumption) ?rest6_34
      case hy6_34 => (intro W hSw; go_simp; try with_reducible rfl)
      try simp only [Act.put]
      try simp only [List.setIfInBounds_toArray]
      try simp only [List.set_cons_succ]
      try simp only [List.set_cons_zero]
      refine takeE (i := 7) (v := ?v7_35) rfl (by decide) (by kernel_rfl) (by kernel_rfl) (by kernel_rfl) (by kernel_rfl) (fun _ _ _ h => h) (by rfl) ?hy7_35 (by assumption) ?rest7_35
      case hy7_35 => (intro W hSw; go_simp; try with_reducible rfl)
      try simp only [Act.put]
      try simp only [List.setIfInBounds_toArray]
      try simp only [List.set_cons_succ]
      try simp only [List.set_cons_zero]
      refine takeE (i := 9) (v := ?v9_36) rfl (by decide) (by kernel_rfl) (by kernel_rfl) (by kernel_rfl) (by kernel_rfl) (fun _ _ _ h => h) (by rfl) ?hy9_36 (by assumption) ?rest9_36
      case hy9_36 => (intro W hSw; go_simp; try with_reducible rfl)
      try simp only [Act.put]
      try simp only [List.setIfInBounds_toArray]
      try simp only [List.set_cons_succ]
      try simp only [List.set_cons_zero]
      refine takeE (i := 10) (v := ?v10_37) rfl (by decide) (by kernel_rfl) (by kernel_rfl) (by kernel_rfl) (by kernel_rfl) (fun _ _ _ h => h) (by rfl) ?hy10_37 (by assumption) ?rest10_37
      case hy10_37 => (intro W hSw; go_simp; try with_reducible rfl)
      try simp only [Act.put]
      try simp only [List.setIfInBounds_toArray]
      try simp only [List.set_cons_succ]
      try simp only [List.set_cons_zero]
      refine takeE (i := 11) (v := ?v11_38) rfl (by decide) (by kernel_rfl) (by kernel_rfl) (by kernel_rfl) (by kernel_rfl) (fun _ _ _ h => h) (by rfl) ?hy11_38 (by assumption) ?rest11_38
      case hy11_38 => (intro W hSw; go_simp; try with_reducible rfl)
      try simp only [Act.put]
      try simp only [List.setIfInBounds_toArray]
      try simp only [List.set_cons_succ]
      try simp only [List.set_cons_zero]
      refine takeE (i := 12) (v := ?v12_39) rfl (by decide) (by kernel_rfl) (by kernel_rfl) (by kernel_rfl) (by kernel_rfl) (fun _ _ _ h => h) (by rfl) ?hy12_39 (by assumption) ?rest12_39
      case hy12_39 => (intro W hSw; have y0 := HY.out W hSw; go_simp; try with_reducible rfl)
      try simp only [Act.put]
      try simp only [List.setIfInBounds_toArray]
      try simp only [List.set_cons_succ]
      try simp only [List.set_cons_zero]
      refine takeE (i := 13) (v := ?v13_40) rfl (by decide) (by kernel_rfl) (by kernel_rfl) (by kernel_rfl) (by kernel_rfl) (fun _ _ _ h => h) (by rfl) ?hy13_40 (by assumption) ?rest13_40
      case hy13_40 => (intro W hSw; go_simp; try with_reducible rfl)
      try simp only [Act.put]
      try simp only [List.setIfInBounds_toArray]
      try simp only [List.set_cons_succ]
      try simp only [List.set_cons_zero]
      refine takeE (i := 14) (v := ?v14_41) rfl (by decide) (by kernel_rfl) (by kernel_rfl) (by kernel_rfl) (by kernel_rfl) (fun _ _ _ h => h) (by rfl) ?hy14_41 (by assumption) ?rest14_41
      case hy14_41 => (intro W hSw; go_simp; try with_reducible rfl)
      try simp only [Act.put]
      try simp only [List.setIfInBounds_toArray]
      try simp only [List.set_cons_succ]
      try simp only [List.set_cons_zero]
      refine takeE (i := 15) (v := ?v15_42) rfl (by decide) (by kernel_rfl) (by kernel_rfl) (by kernel_rfl) (by kernel_rfl) (fun _ _ _ h => h) (by rfl) ?hy15_42 (by assumption) ?rest15_42
      case hy15_42 => (intro W hSw; go_simp; try with_reducible rfl)
      try simp only [Act.put]
      try simp only [List.setIfInBounds_toArray]
      try simp only [List.set_cons_succ]
      try simp only [List.set_cons_zero]
      have BT : Hid (Below w1.heap.size w1 w1.drew) := (Below.refl _ _).drew
      clear hHeld
      obtain ⟨wc, hwc⟩ : ∃ wc, wc = w1.drew := ⟨_, rfl⟩
      rw [← hwc] at BT
      rw [← hwc]
      clear hwc
      refine AnyE.ready (rs := [1]) (by kernel_rfl) (by simp) ?_
      refine ReadyE.cons rfl (fun K hK => ?_) ReadyE.nil
      rw [if_pos (by rfl)]
      go_simp
      have OC : Hid (Ov (wc.alloc (.cells #[] 3)) w1.heap.size 3 (.slice (some ⟨wc.heap.size, 0, none⟩) 0 0) []) := Ov.lit0 wc BT.out.size
      have BN : Hid (Below w1.heap.size w1 (wc.alloc (.cells #[] 3))) := BT.out.alloc BT.out.size _
      clear BT
      have BT := BN
      clear BN
      refine hK.out _ _ BT.out (fun hHeld => ?_)
      try simp only [Act.put]
      try simp only [List.setIfInBounds_toArray]
      try simp only [List.set_cons_succ]
      try simp only [List.set_cons_zero]
      clear hK K hHeld
      generalize wc.alloc (.cells #[] 3) = wd at *
      generalize wc.heap.size = g0 at *
      clear wc
      obtain ⟨wc, rfl⟩ : ∃ wc, wc = wd := ⟨_, rfl⟩
      refine AnyE.ready (rs := [8]) (by kernel_rfl) (by simp) ?_
      refine ReadyE.cons rfl (fun K hK => ?_) ReadyE.nil
      refine step_appV (by rfl) (.tmp 15) (.tmp 21) 27 (by rfl) w1.heap.size 3 (.int .i64 0) 8 Try.underlying27 info_int rfl (by decide) (.slice (some ⟨g0, 0, none⟩) 0 0) [] (by rfl) OC.out _ ((l.take i).map (fun p : Int × ByteArray => Value.int .i64 p.1)) (by rfl) (HS1.out _ BT.out) (one_map (fun _ => rfl) _) (by have := HL.out; simp; omega) BT.out.size ?_
      intro vA wd ho hg hat
      rw [List.nil_append] at ho
      have OC2 := Lib.hid ho
      have BN : Hid (Below w1.heap.size w1 wd) := OC.out.grownB BT.out BT.out.size hg
      clear BT OC ho hg hat
      have BT := BN
      have OC := OC2
      clear BN OC2
      refine hK.out _ _ BT.out (fun hHeld => ?_)
      try simp only [Act.put]
      try simp only [List.setIfInBounds_toArray]
      try simp only [List.set_cons_succ]
      try simp only [List.set_cons_zero]
      clear hK K hHeld
      clear wc
      obtain ⟨wc, rfl⟩ : ∃ wc, wc = wd := ⟨_, rfl⟩
      refine AnyE.ready (rs := [16]) (by kernel_rfl) (by simp) ?_
      refine ReadyE.cons rfl (fun K hK => ?_) ReadyE.nil
      refine step_appV (by rfl) (.tmp 22) (.tmp 29) 27 (by rfl) w1.heap.size 3 (.int .i64 0) 8 Try.underlying27 info_int rfl (by decide) vA ((l.take i).map (fun p : Int × ByteArray => Value.int .i64 p.1)) (by rfl) OC.out _ ((l.drop (i + 1)).map (fun p : Int × ByteArray => Value.int .i64 p.1)) (by rfl) (HS2.out _ BT.out) (one_map (fun _ => rfl) _) (by have := HL.out; simp; omega) BT.out.size ?_
      intro vB wd ho hg hat
      have OC2 := Lib.hid ho
      have BN : Hid (Below w1.heap.size w1 wd) := OC.out.grownB BT.out BT.out.size hg
      clear BT OC ho hg hat
      have BT := BN
      have OC := OC2
      clear BN OC2
      refine hK.out _ _ BT.out (fun hHeld => ?_)
      try simp only [Act.put]
      try simp only [List.setIfInBounds_toArray]
      try simp only [List.set_cons_succ]
      try simp only [List.set_cons_zero]
      clear hK K hHeld
      clear wc
      obtain ⟨wc, rfl⟩ : ∃ wc, wc = wd := ⟨_, rfl⟩
      obtain ⟨AC, nC, cC, rfl⟩ : ∃ A n c, vB = .slice A n c := (by obtain ⟨A, c, h, -, -⟩ := OC.out.form; exact ⟨A, _, c, h⟩)
      refine AnyE.ready (rs := [17]) (by kernel_rfl) (by simp) ?_
      refine ReadyE.cons rfl (fun K hK => ?_) ReadyE.nil
      rw [if_pos (by rfl)]
      go_simp
      refine hK.out _ _ BT.out (fun hHeld => ?_)
      try simp only [Act.put]
      try simp only [List.setIfInBounds_toArray]
      try simp only [List.set_cons_succ]
      try simp only [List.set_cons_zero]
      clear hK K hHeld
      refine AnyE.ready (rs := [18]) (by kernel_rfl) (by simp) ?_
      refine ReadyE.cons rfl (fun K hK => ?_) ReadyE.nil
      rw [if_pos (by rfl)]
      go_simp
      refine hK.out _ _ BT.out (fun hHeld => ?_)
      try simp only [Act.put]
      try simp only [List.setIfInBounds_toArray]
      try simp only [List.set_cons_succ]
      try simp only [List.set_cons_zero]
      clear hK K hHeld
      refine AnyE.ready (rs := [19]) (by kernel_rfl) (by simp) ?_
      refine ReadyE.last rfl (fun K hK => ?_)
      have y0 := HY.out _ BT.out
      have f0 := HF.out _ BT.out
      rw [if_pos (by rfl)]
      go_simp
      refine hK.out _ _ ?_
      try simp only [Act.put]
      try simp only [List.setIfInBounds_toArray]
      try simp only [List.set_cons_succ]
      try simp only [List.set_cons_zero]
      clear hK K y0 f0
      refine AnyE.done (by kernel_rfl) ?_ _
      go_wp2_with fail
      go_meet
      case rel => exact ⟨.slice AC nC cC, wc, rfl, BT.out, by simpa using OC.out⟩
    case rest =>
      obtain ⟨v1, wd, hw, h3, o3⟩ := hcut.out
      clear hcut
      obtain ⟨w3, e3⟩ : ∃ w3, w3 = wd.setCell ⟨g, 0, none⟩ v1 := ⟨_, rfl⟩
      rw [← e3] at hw
      have hw := hw.symm
      subst hw
      have HE3 := Lib.hid (And.intro e3 (And.intro h3 o3))
      have hgd : g < wd.heap.size := Nat.lt_of_lt_of_le (Nat.lt_of_lt_of_le HGL.out H1.out.1.size) h3.size
      have hcv3 : w3.cell? ⟨g, 1, none⟩ = some vv := by
        rw [e3, World.cell?_setCell_other _ _ _ _ (by simp)]
        exact (h3.cell (p := ⟨g, 1, none⟩) (Nat.lt_of_lt_of_le HGL.out H1.out.1.size)).trans H1.out.2.2.1
      have hf13 : w3.frozen? ⟨g, 1, none⟩ = false := by
        rw [e3, World.frozen?_setCell]
        exact (World.frozen?_of_block (w := w1) (h3.block g (Nat.lt_of_lt_of_le HGL.out H1.out.1.size))).trans H1.out.2.2.2.2.1
      have hov3 : Src w3 vv (l.map (fun p : Int × ByteArray => Value.string p.2)) := by
        have k2 : Kp true B g wd w3 := by rw [e3]; exact Kp.setCell HU.out.le 0 v1 ((h3.cell (p := ⟨g, 0, none⟩) (Nat.lt_of_lt_of_le HGL.out H1.out.1.size)).trans H1.out.2.1)
        exact (((HC.out.2.2.2.below H1.out.1).below h3).kp k2 fun b hb => (HN.out.2.1 b hb).1).src
      clear e3 h3 o3 hgd HY HF HS1 HS2 cut1 cut2
      have HY : Hid (∀ W, Below w3.heap.size w3 W → W.cell? ⟨g, 1, none⟩ = some vv) := fun W hW => (hW.cell (p := ⟨g, 1, none⟩) (World.block_lt_of_cell? w3 ⟨g, 1, none⟩ hcv3)).trans hcv3
      have HF : Hid (∀ W, Below w3.heap.size w3 W → W.frozen? ⟨g, 1, none⟩ = false) := fun W hW => (World.frozen?_of_block (w := w3) (hW.block g (World.block_lt_of_cell? w3 ⟨g, 1, none⟩ hcv3))).trans hf13
      obtain ⟨c1, cut1, hs1⟩ := Src.take (P := Try.prog) (t := 28) (e := 9) Try.underlying28 (fun W => by kernel_rfl) hov3 i (by rw [List.length_map]; exact HI.out.1)
      obtain ⟨c2, cut2, hs2⟩ := Src.drop (P := Try.prog) (t := 28) (e := 9) Try.underlying28 (fun W => by kernel_rfl) hov3 (i + 1) (by rw [List.length_map]; exact HIL.out) ((i : Int) + 1) (by omega)
      rw [← List.map_take] at hs1
      rw [← List.map_drop] at hs2
      have HS1 : Hid (∀ W, Below w3.heap.size w3 W → Src W c1 ((l.take i).map (fun p : Int × ByteArray => Value.string p.2))) := fun W hW => hs1.below hW
      have HS2 : Hid (∀ W, Below w3.heap.size w3 W → Src W c2 ((l.drop (i + 1)).map (fun p : Int × ByteArray => Value.string p.2))) := fun W hW => hs2.below hW
      clear hcv3 hf13 hov3 hs1 hs2
      go_upto_region 4 with fail
      go_cut [] from 33 to 51 (fun wx => Hid (∃ (v' : Value) (wd : World), wx = wd.setCell ⟨g, 1, none⟩ v' ∧ Below w3.heap.size w3 wd ∧ Ov wd w3.heap.size 9 v' ((l.take i ++ l.drop (i + 1)).map (fun p : Int × ByteArray => Value.string p.2))))
      case first =>
        go_wp2_with fail
        refine AnyE.begin (S := fun W => Below w3.heap.size w3 W) (z := 19) (by kernel_rfl) ?_
        have hHeld : Below w3.heap.size w3 w3.drew := (Below.refl _ _).drew
        refine takeE (i := 0) (v := ?v0_43) rfl (by decide) (by kernel_rfl) (by kernel_rfl) (by kernel_rfl) (by kernel_rfl) (fun _ _ _ h => h) (by rfl) ?hy0_43 (by assumption) ?rest0_43
        case hy0_43 => (intro W hSw; go_simp; try with_reducible rfl)
        try simp only [Act.put]
        try simp only [List.setIfInBounds_toArray]
        try simp only [List.set_cons_succ]
        try simp only [List.set_cons_zero]
        refine takeE (i := 2) (v := ?v2_44) rfl (by decide) (by kernel_rfl) (by kernel_rfl) (by kernel_rfl) (by kernel_rfl) (fun _ _ _ h => h) (by rfl) ?hy2_44 (by assumption) ?rest2_44
        case hy2_44 => (intro W hSw; go_simp; try with_reducible rfl)
        try simp only [Act.put]
        try simp only [List.setIfInBounds_toArray]
        try simp only [List.set_cons_succ]
        try simp only [List.set_cons_zero]
        refine takeE (i := 3) (v := ?v3_45) rfl (by decide) (by kernel_rfl) (by kernel_rfl) (by kernel_rfl) (by kernel_rfl) (fun _ _ _ h => h) (by rfl) ?hy3_45 (by assumption) ?rest3_45
        case hy3_45 => (intro W hSw; go_simp; try with_reducible rfl)
        try simp only [Act.put]
        try simp only [List.setIfInBounds_toArray]
        try simp only [List.set_cons_succ]
        try simp only [List.set_cons_zero]
        refine takeE (i := 4) (v := ?v4_46) rfl (by decide) (by kernel_rfl) (by kernel_rfl) (by kernel_rfl) (by kernel_rfl) (fun _ _ _ h => h) (by rfl) ?hy4_46 (by assumption) ?rest4_46
        case hy4_46 => (intro W hSw; go_simp; try with_reducible rfl)
        try simp only [Act.put]
        try simp only [List.setIfInBounds_toArray]
        try simp only [List.set_cons_succ]
        try simp only [List.set_cons_zero]
        refine takeE (i := 5) (v := ?v5_47) rfl (by decide) (by kernel_rfl) (by kernel_rfl) (by kernel_rfl) (by kernel_rfl) (fun _ _ _ h => h) (by rfl) ?hy5_47 (by assumption) ?rest5_47
        case hy5_47 => (intro W hSw; have y0 := HY.out W hSw; go_simp; try with_reducible rfl)
        try simp only [Act.put]
        try simp only [List.setIfInBounds_toArray]
        try simp only [List.set_cons_succ]
        try simp only [List.set_cons_zero]
        refine takeE (i := 6) (v := ?v6_48) rfl (by decide) (by kernel_rfl) (by kernel_rfl) (by kernel_rfl) (by kernel_rfl) (fun _ _ _ h => h) (by rfl) ?hy6_48 (by assumption) ?rest6_48
        case hy6_48 => (intro W hSw; go_simp; try with_reducible rfl)
        try simp only [Act.put]
        try simp only [List.setIfInBounds_toArray]
        try simp only [List.set_cons_succ]
        try simp only [List.set_cons_zero]
        refine takeE (i := 7) (v := ?v7_49) rfl (by decide) (by kernel_rfl) (by kernel_rfl) (by kernel_rfl) (by kernel_rfl) (fun _ _ _ h => h) (by rfl) ?hy7_49 (by assumption) ?rest7_49
        case hy7_49 => (intro W hSw; go_simp; try with_reducible rfl)
        try simp only [Act.put]
        try simp only [List.setIfInBounds_toArray]
        try simp only [List.set_cons_succ]
        try simp only [List.set_cons_zero]
        refine takeE (i := 9) (v := ?v9_50) rfl (by decide) (by kernel_rfl) (by kernel_rfl) (by kernel_rfl) (by kernel_rfl) (fun _ _ _ h => h) (by rfl) ?hy9_50 (by assumption) ?rest9_50
        case hy9_50 => (intro W hSw; go_simp; try with_reducible rfl)
        try simp only [Act.put]
        try simp only [List.setIfInBounds_toArray]
        try simp only [List.set_cons_succ]
        try simp only [List.set_cons_zero]
        refine takeE (i := 10) (v := ?v10_51) rfl (by decide) (by kernel_rfl) (by kernel_rfl) (by kernel_rfl) (by kernel_rfl) (fun _ _ _ h => h) (by rfl) ?hy10_51 (by assumption) ?rest10_51
        case hy10_51 => (intro W hSw; go_simp; try with_reducible rfl)
        try simp only [Act.put]
        try simp only [List.setIfInBounds_toArray]
        try simp only [List.set_cons_succ]
        try simp only [List.set_cons_zero]
        refine takeE (i := 11) (v := ?v11_52) rfl (by decide) (by kernel_rfl) (by kernel_rfl) (by kernel_rfl) (by kernel_rfl) (fun _ _ _ h => h) (by rfl) ?hy11_52 (by assumption) ?rest11_52
        case hy11_52 => (intro W hSw; go_simp; try with_reducible rfl)
        try simp only [Act.put]
        try simp only [List.setIfInBounds_toArray]
        try simp only [List.set_cons_succ]
        try simp only [List.set_cons_zero]
        refine takeE (i := 12) (v := ?v12_53) rfl (by decide) (by kernel_rfl) (by kernel_rfl) (by kernel_rfl) (by kernel_rfl) (fun _ _ _ h => h) (by rfl) ?hy12_53 (by assumption) ?rest12_53
        case hy12_53 => (intro W hSw; have y0 := HY.out W hSw; go_simp; try with_reducible rfl)
        try simp only [Act.put]
        try simp only [List.setIfInBounds_toArray]
        try simp only [List.set_cons_succ]
        try simp only [List.set_cons_zero]
        refine takeE (i := 13) (v := ?v13_54) rfl (by decide) (by kernel_rfl) (by kernel_rfl) (by kernel_rfl) (by kernel_rfl) (fun _ _ _ h => h) (by rfl) ?hy13_54 (by assumption) ?rest13_54
        case hy13_54 => (intro W hSw; go_simp; try with_reducible rfl)
        try simp only [Act.put]
        try simp only [List.setIfInBounds_toArray]
        try simp only [List.set_cons_succ]
        try simp only [List.set_cons_zero]
        refine takeE (i := 14) (v := ?v14_55) rfl (by decide) (by kernel_rfl) (by kernel_rfl) (by kernel_rfl) (by kernel_rfl) (fun _ _ _ h => h) (by rfl) ?hy14_55 (by assumption) ?rest14_55
        case hy14_55 => (intro W hSw; go_simp; try with_reducible rfl)
        try simp only [Act.put]
        try simp only [List.setIfInBounds_toArray]
        try simp only [List.set_cons_succ]
        try simp only [List.set_cons_zero]
        refine takeE (i := 15) (v := ?v15_56) rfl (by decide) (by kernel_rfl) (by kernel_rfl) (by kernel_rfl) (by kernel_rfl) (fun _ _ _ h => h) (by rfl) ?hy15_56 (by assumption) ?rest15_56
        case hy15_56 => (intro W hSw; go_simp; try with_reducible rfl)
        try simp only [Act.put]
        try simp only [List.setIfInBounds_toArray]
        try simp only [List.set_cons_succ]
        try simp only [List.set_cons_zero]
        have BT : Hid (Below w3.heap.size w3 w3.drew) := (Below.refl _ _).drew
        clear hHeld
        obtain ⟨wc, hwc⟩ : ∃ wc, wc = w3.drew := ⟨_, rfl⟩
        rw [← hwc] at BT
        rw [← hwc]
        clear hwc
        refine AnyE.ready (rs := [1]) (by kernel_rfl) (by simp) ?_
        refine ReadyE.cons rfl (fun K hK => ?_) ReadyE.nil
        rw [if_pos (by rfl)]
        go_simp
        have OC : Hid (Ov (wc.alloc (.cells #[] 9)) w3.heap.size 9 (.slice (some ⟨wc.heap.size, 0, none⟩) 0 0) []) := Ov.lit0 wc BT.out.size
        have BN : Hid (Below w3.heap.size w3 (wc.alloc (.cells #[] 9))) := BT.out.alloc BT.out.size _
        clear BT
        have BT := BN
        clear BN
        refine hK.out _ _ BT.out (fun hHeld => ?_)
        try simp only [Act.put]
        try simp only [List.setIfInBounds_toArray]
        try simp only [List.set_cons_succ]
        try simp only [List.set_cons_zero]
        clear hK K hHeld
        generalize wc.alloc (.cells #[] 9) = wd at *
        generalize wc.heap.size = g0 at *
        clear wc
        obtain ⟨wc, rfl⟩ : ∃ wc, wc = wd := ⟨_, rfl⟩
        refine AnyE.ready (rs := [8]) (by kernel_rfl) (by simp) ?_
        refine ReadyE.cons rfl (fun K hK => ?_) ReadyE.nil
        refine step_appV (by rfl) (.tmp 34) (.tmp 40) 28 (by rfl) w3.heap.size 9 (.string ⟨#[]⟩) 16 Try.underlying28 info_str rfl (by decide) (.slice (some ⟨g0, 0, none⟩) 0 0) [] (by rfl) OC.out _ ((l.take i).map (fun p : Int × ByteArray => Value.string p.2)) (by rfl) (HS1.out _ BT.out) (one_map (fun _ => rfl) _) (by have := HL.out; simp; omega) BT.out.size ?_
        intro vA wd ho hg hat
        rw [List.nil_append] at ho
        have OC2 := Lib.hid ho
        have BN : Hid (Below w3.heap.size w3 wd) := OC.out.grownB BT.out BT.out.size hg
        clear BT OC ho hg hat
        have BT := BN
        have OC := OC2
        clear BN OC2
        refine hK.out _ _ BT.out (fun hHeld => ?_)
        try simp only [Act.put]
        try simp only [List.setIfInBounds_toArray]
        try simp only [List.set_cons_succ]
        try simp only [List.set_cons_zero]
        clear hK K hHeld
        clear wc
        obtain ⟨wc, rfl⟩ : ∃ wc, wc = wd := ⟨_, rfl⟩
        refine AnyE.ready (rs := [16]) (by kernel_rfl) (by simp) ?_
        refine ReadyE.cons rfl (fun K hK => ?_) ReadyE.nil
        refine step_appV (by rfl) (.tmp 41) (.tmp 48) 28 (by rfl) w3.heap.size 9 (.string ⟨#[]⟩) 16 Try.underlying28 info_str rfl (by decide) vA ((l.take i).map (fun p : Int × ByteArray => Value.string p.2)) (by rfl) OC.out _ ((l.drop (i + 1)).map (fun p : Int × ByteArray => Value.string p.2)) (by rfl) (HS2.out _ BT.out) (one_map (fun _ => rfl) _) (by have := HL.out; simp; omega) BT.out.size ?_
        intro vB wd ho hg hat
        have OC2 := Lib.hid ho
        have BN : Hid (Below w3.heap.size w3 wd) := OC.out.grownB BT.out BT.out.size hg
        clear BT OC ho hg hat
        have BT := BN
        have OC := OC2
        clear BN OC2
        refine hK.out _ _ BT.out (fun hHeld => ?_)
        try simp only [Act.put]
        try simp only [List.setIfInBounds_toArray]
        try simp only [List.set_cons_succ]
        try simp only [List.set_cons_zero]
        clear hK K hHeld
        clear wc
        obtain ⟨wc, rfl⟩ : ∃ wc, wc = wd := ⟨_, rfl⟩
        obtain ⟨AC, nC, cC, rfl⟩ : ∃ A n c, vB = .slice A n c := (by obtain ⟨A, c, h, -, -⟩ := OC.out.form; exact ⟨A, _, c, h⟩)
        refine AnyE.ready (rs := [17]) (by kernel_rfl) (by simp) ?_
        refine ReadyE.cons rfl (fun K hK => ?_) ReadyE.nil
        rw [if_pos (by rfl)]
        go_simp
        refine hK.out _ _ BT.out (fun hHeld => ?_)
        try simp only [Act.put]
        try simp only [List.setIfInBounds_toArray]
        try simp only [List.set_cons_succ]
        try simp only [List.set_cons_zero]
        clear hK K hHeld
        refine AnyE.ready (rs := [18]) (by kernel_rfl) (by simp) ?_
        refine ReadyE.cons rfl (fun K hK => ?_) ReadyE.nil
        rw [if_pos (by rfl)]
        go_simp
        refine hK.out _ _ BT.out (fun hHeld => ?_)
        try simp only [Act.put]
        try simp only [List.setIfInBounds_toArray]
        try simp only [List.set_cons_succ]
        try simp only [List.set_cons_zero]
        clear hK K hHeld
        refine AnyE.ready (rs := [19]) (by kernel_rfl) (by simp) ?_
        refine ReadyE.last rfl (fun K hK => ?_)
        have y0 := HY.out _ BT.out
        have f0 := HF.out _ BT.out
        rw [if_pos (by rfl)]
        go_simp
        refine hK.out _ _ ?_
        try simp only [Act.put]
        try simp only [List.setIfInBounds_toArray]
        try simp only [List.set_cons_succ]
        try simp only [List.set_cons_zero]
        clear hK K y0 f0
        refine AnyE.done (by kernel_rfl) ?_ _
        go_wp2_with fail
        go_meet
        case rel => exact ⟨.slice AC nC cC, wc, rfl, BT.out, by simpa using OC.out⟩
      case rest =>
        obtain ⟨v3, we, hw4, h4, o4⟩ := hcut.out
        clear hcut
        obtain ⟨hut, hkp⟩ := Ut.two (vk := v1) (vv := v3) (Nat.le_trans HB.out H1.out.1.size) HU.out.le HU.out.ne (Nat.lt_of_lt_of_le HGL.out H1.out.1.size) (Nat.lt_of_lt_of_le HU.out.lt H1.out.1.size) H1.out.2.2.2.1 H1.out.2.2.2.2.1 H1.out.2.1 H1.out.2.2.1 HE3.out.2.1 HE3.out.2.2 HE3.out.1 h4 o4
        rw [← hw4] at hut hkp
        have HR := Lib.hid (And.intro hut ((Kp.of_below HB.out H1.out.1).trans hkp))
        clear hut hkp hw4 h4 o4 cut1 cut2 HY HF HS1 HS2
        go_wp2_with fail
        go_ret
        exact (show DelU _ _ _ _ _ _ _ _ from ⟨i, true, HI.out, rfl, HR.out⟩)
  | false =>
    have HR : Hid (Ut B w1 g q l ∧ Kp true B g w w1) := ⟨HU.out.below hb1, Kp.of_below HB.out hb1⟩
    clear hb1
    go_wp2_with fail
    go_ret
    exact (show DelU _ _ _ _ _ _ _ _ from ⟨i, false, HI.out, rfl, HR.out⟩)
end Go.Proofs.Ytkflekaibfkicaa
