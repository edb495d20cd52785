/- Rows of calls that come in, of layer 13. -/
import Derived.Test.YtchcimckffonjaaDscI
import Derived.Deep.Slices
import Derived.ChangeArms
import Derived.ChangeSlices
namespace Go.Proofs.Ytchcimckffonjaa
open Go.RowKit Go.ChangeShapes Go.WideShapes

/-- A slice of n ints reads as xs. -/
def Rz13 (w : World) (A : Option Addr) (n : Nat) (xs : List Int) : Prop :=
  n = xs.length ∧ (0 < n → ∃ b o, A = some ⟨b, o, none⟩ ∧ ∀ j x, xs[j]? = some x → w.cell? ⟨b, o + j, none⟩ = some (.int .i64 x))
theorem Rz13.below {w w' : World} {A : Option Addr} {n : Nat} {xs : List Int} (h : Rz13 w A n xs) (hb : Below w.heap.size w w') : Rz13 w' A n xs :=
  ⟨h.1, fun h0 => by
    obtain ⟨b, o, hA, hx⟩ := h.2 h0
    exact ⟨b, o, hA, fun j x hj => (World.cell?_of_block (w := w) (a := ⟨b, o + j, none⟩) (hb.block b (World.block_lt_of_cell? w ⟨b, o + j, none⟩ (hx j x hj)))).trans (hx j x hj)⟩⟩
theorem Rz13.nil_ {w : World} : Rz13 w none 0 [] := ⟨rfl, fun h => absurd h (Nat.lt_irrefl 0)⟩
theorem Rz13.of_ints {w : World} {x : Addr} {n c : Nat} {zs : List Int} (hn : n ≤ c) (hz : zs.length = c) (hcell : ∀ i, i < zs.length → w.cell? (x.add i) = some (.int .i64 (zs.getD i 0))) : Rz13 w (some x) n (zs.take n) := by
  refine ⟨by simp; omega, fun h0 => ?_⟩
  obtain ⟨b, off, spot⟩ := x
  have hc := hcell 0 (by omega)
  have hspot : spot = none := by simpa [Addr.add] using World.cell?_spot hc
  subst hspot
  refine ⟨b, off, rfl, fun j x hj => ?_⟩
  have hjn : j < n := by
    rcases Nat.lt_or_ge j n with h | h
    · exact h
    · rw [List.getElem?_eq_none (by simp; omega)] at hj; cases hj
  rw [List.getElem?_take_of_lt hjn] at hj
  have := hcell j (by omega)
  rw [add_mk] at this
  rw [this, List.getD_eq_getElem?_getD, hj]
  rfl
/-- A keep, as Crash asks it. -/
theorem Rz13.keep {w : World} {A : Option Addr} {n : Nat} {xs : List Int} (h : Rz13 w A n xs) (h0 : 0 < n) : ∃ b o, A = some ⟨b, o, none⟩ ∧ b < w.heap.size ∧ ∀ j x, xs[j]? = some x → w.cell? ⟨b, o + j, none⟩ = some (.int .i64 x) := by
  obtain ⟨b, o, hA, hx⟩ := h.2 h0
  have hl : 0 < xs.length := by rw [← h.1]; exact h0
  exact ⟨b, o, hA, World.block_lt_of_cell? w ⟨b, o + 0, none⟩ (hx 0 _ (List.getElem?_eq_getElem hl)), hx⟩
/-- A call. -/
structure OpD where
  kind : Int
  at_ : Int
  fill : UInt8
  size : Int
  ad : Option Addr
  n : Nat
  c : Nat
  ks : List Int
instance : Inhabited OpD := ⟨⟨0, 0, 0, 0, none, 0, 0, []⟩⟩
/-- The cells of a call. -/
def OpD.cs (x : OpD) : List Value := [.int .i64 x.kind, .int .i64 x.at_, .int .u8 (x.fill.toNat : Int), .int .i64 x.size, .slice x.ad x.n x.c]
/-- What a call's numbers are good for. -/
def OpD.ok (w : World) (x : OpD) : Prop := (Lit.int .i64 x.at_).wf = true ∧ (Lit.int .i64 x.size).wf = true ∧ Rz13 w x.ad x.n x.ks
/-- A slice of n calls reads as l. -/
def RdO13 (w : World) (A : Option Addr) (n : Nat) (l : List OpD) : Prop :=
  n = l.length ∧ (∀ x ∈ l, x.ok w) ∧ (0 < n → ∃ b o, A = some ⟨b, o, none⟩ ∧ ∀ i x, l[i]? = some x → ∀ j v, x.cs[j]? = some v → w.cell? ⟨b, o + i * 5 + j, none⟩ = some v)
theorem RdO13.below {w w' : World} {A : Option Addr} {n : Nat} {l : List OpD} (h : RdO13 w A n l) (hb : Below w.heap.size w w') : RdO13 w' A n l := by
  have k : ∀ (p : Addr) (u : Value), w.cell? p = some u → w'.cell? p = some u := fun p u hu => (World.cell?_of_block (w := w) (hb.block p.block (World.block_lt_of_cell? w p hu))).trans hu
  refine ⟨h.1, fun x hx => ⟨(h.2.1 x hx).1, (h.2.1 x hx).2.1, (h.2.1 x hx).2.2.below hb⟩, fun h0 => ?_⟩
  obtain ⟨b, o, hA, hx⟩ := h.2.2 h0
  exact ⟨b, o, hA, fun i x hi j v hv => k _ _ (hx i x hi j v hv)⟩
theorem RdO13.at_ {w : World} {A : Option Addr} {n : Nat} {l : List OpD} (h : RdO13 w A n l) {i : Nat} (hi : i < n) : ∃ b o x, A = some ⟨b, o, none⟩ ∧ l[i]? = some x ∧ x.ok w ∧ b < w.heap.size ∧ (∀ j v, x.cs[j]? = some v → w.cell? ⟨b, o + i * 5 + j, none⟩ = some v) := by
  obtain ⟨b, o, hA, hx⟩ := h.2.2 (by omega)
  have hl : i < l.length := by rw [← h.1]; exact hi
  have hc := hx i _ (List.getElem?_eq_getElem hl)
  exact ⟨b, o, l[i], hA, List.getElem?_eq_getElem hl, h.2.1 _ (List.getElem_mem hl), World.block_lt_of_cell? w ⟨b, o + i * 5 + 0, none⟩ (hc 0 _ rfl), hc⟩
theorem cells13 : Try.prog.cellsOf 31 = 5 ∧ Try.prog.cellsOf 3 = 1 ∧ Try.prog.cellsOf 5 = 1 ∧ Try.prog.cellsOf 28 = 1 := ⟨by kernel_rfl, by kernel_rfl, by kernel_rfl, by kernel_rfl⟩
theorem wf_byte {z : Int} (h : (Lit.int .u8 z).wf = true) : ((UInt8.ofNat z.toNat).toNat : Int) = z := by
  have := wf_u8 h
  rw [UInt8.toNat_ofNat']
  omega
/-- A row of calls that came in. -/
theorem open_ops13 {H : Type} {enc : TypeId × Value → H} {w : World} {base : Nat} {spare : Nat → Bool} {held : Bool} {fuel : Nat} {A : Option Addr} {n c : Nat} {x : DataW H × List MemPlace}
    (h : DataW.trod enc Try.prog w base spare held fuel 22 [.slice A n c] = some x) : ∃ l, RdO13 w A n l := by
  rcases Deep.open_slice Try.underlying22 h with ⟨h0, -⟩ | ⟨a, len, cap, m, k, D, Pl, h0, -, hl, -, hm, -, hx⟩
  · simp at h0
    obtain ⟨rfl, rfl, rfl⟩ := h0
    exact ⟨[], rfl, fun x hx => by simp at hx, fun h => absurd h (Nat.lt_irrefl 0)⟩
  · simp at h0
    obtain ⟨rfl, rfl, rfl⟩ := h0
    have hlm : n ≤ m := by rw [hm]; split <;> omega
    obtain ⟨ce, ci, cb, cl⟩ := cells13
    have each : ∀ i, i < n → ∃ q : OpD, q.ok w ∧ ∀ j v, q.cs[j]? = some v → w.cell? (a.add (i * 5 + j)) = some v := by
      intro i hi
      obtain ⟨cs', h1, h2⟩ := hx i (by omega)
      rw [ce] at h1
      obtain ⟨_, hlen, hcell⟩ := World.cells?_some h1
      obtain ⟨xs, k', -, -, hl5, hlx, hfs⟩ := DataW.trod_struct Try.underlying31 h2
      obtain ⟨y0, y1, y2, y3, y4, rfl⟩ : ∃ y0 y1 y2 y3 y4, xs = [y0, y1, y2, y3, y4] := by
        match xs, hlx with
        | [y0, y1, y2, y3, y4], _ => exact ⟨y0, y1, y2, y3, y4, rfl⟩
      have g0 := hfs 0 _ rfl
      have g1 := hfs 1 _ rfl
      have g2 := hfs 2 _ rfl
      have g3 := hfs 3 _ rfl
      have g4 := hfs 4 _ rfl
      clear hfs
      match cs', hlen with
      | [v0, v1, v2, v3, v4], _ =>
        simp [ci, cb, cl] at g0 g1 g2 g3 g4
        obtain ⟨z0, e0, -, -⟩ := DataW.trod_int Try.underlying3 g0
        obtain ⟨z1, e1, -, w1⟩ := DataW.trod_int Try.underlying3 g1
        obtain ⟨z2, e2, -, w2⟩ := DataW.trod_int Try.underlying5 g2
        obtain ⟨z3, e3, -, w3⟩ := DataW.trod_int Try.underlying3 g3
        simp only [List.cons.injEq, and_true] at e0 e1 e2 e3
        subst e0 e1 e2 e3
        obtain ⟨A4, n4, c4, ks, rfl, hk⟩ : ∃ A4 n4 c4 ks, v4 = .slice A4 n4 c4 ∧ Rz13 w A4 n4 ks := by
          rcases open_ints Try.underlying28 Try.underlying3 (by kernel_rfl) g4 with ⟨hcs, _⟩ | ⟨x, l, c, zs, hcs, _, hlc, hm, hz, hd, hcell4, hwz⟩
          · simp only [List.cons.injEq, and_true] at hcs
            exact ⟨none, 0, 0, [], hcs, Rz13.nil_⟩
          · simp only [List.cons.injEq, and_true] at hcs
            exact ⟨some x, l, c, zs.take l, hcs, Rz13.of_ints (by rw [hz]; split <;> omega) rfl hcell4⟩
        refine ⟨⟨z0, z1, UInt8.ofNat z2.toNat, z3, A4, n4, c4, ks⟩, ⟨w1, w3, hk⟩, fun j v hv => ?_⟩
        have hj : j < 5 := (List.getElem?_eq_some_iff.1 hv).1
        have q := hcell j hj
        rw [Deep.add_add] at q
        rw [q, ← hv]
        have e2 : ((UInt8.ofNat z2.toNat).toNat : Int) = z2 := wf_byte w2
        unfold OpD.cs
        simp only [e2]
    obtain ⟨q, hq⟩ := Deep.choose_lt each
    refine ⟨(List.range n).map q, by simp, fun x hx => ?_, fun h0 => ?_⟩
    · obtain ⟨i, hi, rfl⟩ := List.mem_map.1 hx
      exact (hq i (List.mem_range.1 hi)).1
    · obtain ⟨b, o, spot⟩ := a
      have hs : spot = none := by simpa [Addr.add] using World.cell?_spot ((hq 0 h0).2 0 _ rfl)
      subst hs
      refine ⟨b, o, rfl, fun i x hi j v hv => ?_⟩
      have hin : i < n := by
        rcases Nat.lt_or_ge i n with h | h
        · exact h
        · rw [List.getElem?_eq_none (by simpa using h)] at hi; cases hi
      rw [List.getElem?_map, List.getElem?_range hin] at hi
      obtain rfl : q i = x := Option.some.inj hi
      have := (hq i hin).2 j v hv
      rw [add_mk] at this
      rw [Nat.add_assoc]
      exact this
end Go.Proofs.Ytchcimckffonjaa
