/- Rows of calls that come in; what a table holds behind them. -/
import Derived.Test.YtkflekaibfkicaaBagV
import Derived.Deep.Slices
import Derived.Deep.Strs
namespace Go.Proofs.Ytkflekaibfkicaa
open Go.RowKit Go.ChangeShapes Go.WideShapes

/-- A call: its kind, a key, a value. -/
abbrev OpT := Int × Int × ByteArray
/-- A slice of n calls reads as l. -/
def RdO (w : World) (A : Option Addr) (n : Nat) (l : List OpT) : Prop :=
  n = l.length ∧ (∀ x ∈ l, (Lit.int .i64 x.2.1).wf = true) ∧ (0 < n → ∃ b o, A = some ⟨b, o, none⟩ ∧ ∀ i x, l[i]? = some x → w.cell? ⟨b, o + i * 3, none⟩ = some (.int .i64 x.1) ∧ w.cell? ⟨b, o + i * 3 + 1, none⟩ = some (.int .i64 x.2.1) ∧ w.cell? ⟨b, o + i * 3 + 2, none⟩ = some (.string x.2.2))
theorem RdO.at_ {w : World} {A : Option Addr} {n : Nat} {l : List OpT} (h : RdO w A n l) {i : Nat} (hi : i < n) : ∃ b o x, A = some ⟨b, o, none⟩ ∧ l[i]? = some x ∧ (Lit.int .i64 x.2.1).wf = true ∧ w.cell? ⟨b, o + i * 3, none⟩ = some (.int .i64 x.1) ∧ w.cell? ⟨b, o + i * 3 + 1, none⟩ = some (.int .i64 x.2.1) ∧ w.cell? ⟨b, o + i * 3 + 2, none⟩ = some (.string x.2.2) := by
  obtain ⟨b, o, hA, hx⟩ := h.2.2 (by omega)
  have hl : i < l.length := by rw [← h.1]; exact hi
  obtain ⟨c0, c1, c2⟩ := hx i _ (List.getElem?_eq_getElem hl)
  exact ⟨b, o, l[i], hA, List.getElem?_eq_getElem hl, h.2.1 _ (List.getElem_mem hl), c0, c1, c2⟩
theorem RdO.below {w w' : World} {A : Option Addr} {n : Nat} {l : List OpT} (h : RdO w A n l) (hb : Below w.heap.size w w') : RdO w' A n l := by
  have k : ∀ (p : Addr) (u : Value), w.cell? p = some u → w'.cell? p = some u := fun p u hu => (World.cell?_of_block (w := w) (hb.block p.block (World.block_lt_of_cell? w p hu))).trans hu
  refine ⟨h.1, h.2.1, fun h0 => ?_⟩
  obtain ⟨b, o, hA, hx⟩ := h.2.2 h0
  exact ⟨b, o, hA, fun i x hi => ⟨k _ _ (hx i x hi).1, k _ _ (hx i x hi).2.1, k _ _ (hx i x hi).2.2⟩⟩
theorem RdO.lt {w : World} {b o n : Nat} {l : List OpT} (h : RdO w (some ⟨b, o, none⟩) n l) (hn : 0 < n) : b < w.heap.size := by
  obtain ⟨b', o', x, e, -, -, hc, -⟩ := h.at_ hn
  injection e with e
  injection e with e _ _
  subst e
  exact World.block_lt_of_cell? w ⟨b, o' + 0 * 3, none⟩ hc
/-- A row of calls that came in. -/
theorem open_ops {H : Type} {enc : TypeId × Value → H} {w : World} {base : Nat} {spare : Nat → Bool} {held : Bool} {fuel : Nat} {A : Option Addr} {n c : Nat} {x : DataW H × List MemPlace}
    (h : DataW.trod enc Try.prog w base spare held fuel 22 [.slice A n c] = some x) : ∃ l, RdO w A n l := by
  rcases Deep.open_slice Try.underlying22 h with ⟨h0, -⟩ | ⟨a, len, cap, m, k, D, Pl, h0, -, hl, -, hm, -, hx⟩
  · simp at h0
    obtain ⟨rfl, rfl, rfl⟩ := h0
    exact ⟨[], rfl, fun x hx => by simp at hx, fun h => absurd h (Nat.lt_irrefl 0)⟩
  · simp at h0
    obtain ⟨rfl, rfl, rfl⟩ := h0
    have hlm : n ≤ m := by rw [hm]; split <;> omega
    have ce : Try.prog.cellsOf 32 = 3 := by kernel_rfl
    have ci : Try.prog.cellsOf 3 = 1 := by kernel_rfl
    have cs : Try.prog.cellsOf 9 = 1 := by kernel_rfl
    have each : ∀ i, i < n → ∃ q : OpT, (Lit.int .i64 q.2.1).wf = true ∧ w.cell? (a.add (i * 3)) = some (.int .i64 q.1) ∧ w.cell? (a.add (i * 3 + 1)) = some (.int .i64 q.2.1) ∧ w.cell? (a.add (i * 3 + 2)) = some (.string q.2.2) := by
      intro i hi
      obtain ⟨cs', h1, h2⟩ := hx i (by omega)
      rw [ce] at h1
      obtain ⟨_, hlen, hcell⟩ := World.cells?_some h1
      obtain ⟨y0, y1, y2, k', -, -, g0, g1, g2⟩ := Deep.trod_struct3 Try.underlying32 h2
      rw [ci] at g0 g1
      rw [cs] at g2
      match cs', hlen with
      | [v0, v1, v2], _ =>
        obtain ⟨z0, e0, -, -⟩ := DataW.trod_int Try.underlying3 g0
        obtain ⟨z1, e1, -, hw⟩ := DataW.trod_int Try.underlying3 g1
        obtain ⟨s, e2, -, -⟩ := DataW.trod_string Try.underlying9 g2
        simp at e0 e1 e2
        subst e0 e1 e2
        have q0 := hcell 0 (by omega)
        have q1 := hcell 1 (by omega)
        have q2 := hcell 2 (by omega)
        rw [Deep.add_add] at q0 q1 q2
        exact ⟨(z0, z1, s), hw, by simpa using q0, by simpa using q1, by simpa using q2⟩
    obtain ⟨q, hq⟩ := Deep.choose_lt each
    refine ⟨(List.range n).map q, by simp, fun x hx => ?_, fun h0 => ?_⟩
    · obtain ⟨i, hi, rfl⟩ := List.mem_map.1 hx
      exact (hq i (List.mem_range.1 hi)).1
    · obtain ⟨b, o, spot⟩ := a
      have hs : spot = none := by simpa [Addr.add] using World.cell?_spot (hq 0 h0).2.1
      subst hs
      refine ⟨b, o, rfl, fun i x hi => ?_⟩
      have hin : i < n := by
        rcases Nat.lt_or_ge i n with h | h
        · exact h
        · rw [List.getElem?_eq_none (by simpa using h)] at hi; cases hi
      rw [List.getElem?_map, List.getElem?_range hin] at hi
      obtain rfl : q i = x := Option.some.inj hi
      have e : ∀ j, (⟨b, o, none⟩ : Addr).add j = ⟨b, o + j, none⟩ := fun j => by unfold Addr.add; split <;> simp_all
      obtain ⟨-, c0, c1, c2⟩ := hq i hin
      rw [e] at c0 c1 c2
      exact ⟨c0, by rw [Nat.add_assoc]; exact c1, by rw [Nat.add_assoc]; exact c2⟩

/-- What one call makes of a table. -/
def opT (T : Int → Option ByteArray) (x : OpT) : Int → Option ByteArray := if x.1 = 1 then delT T x.2.1 else putT T x.2.1 x.2.2
/-- What a row of calls makes of an empty one. -/
def runT (l : List OpT) : Int → Option ByteArray := l.foldl opT fun _ => none
theorem runT_snoc (l : List OpT) (x : OpT) : runT (l ++ [x]) = opT (runT l) x := by simp [runT, List.foldl_append]
theorem opT_ne {T : Int → Option ByteArray} {x : OpT} {k : Int} (h : x.2.1 ≠ k) : opT T x k = T k := by
  unfold opT delT putT
  split <;> simp [Ne.symm h]
theorem opT_eq {T : Int → Option ByteArray} {x : OpT} : opT T x x.2.1 = if x.1 = 1 then none else some x.2.2 := by
  unfold opT delT putT
  split <;> simp
/-- The last call that names a key tells what it has. -/
theorem runT_last {l : List OpT} {j : Nat} {x : OpT} (hj : l[j]? = some x) (h : ∀ t y, j < t → l[t]? = some y → y.2.1 ≠ x.2.1) : runT l x.2.1 = if x.1 = 1 then none else some x.2.2 := by
  have hjl : j < l.length := by
    rcases Nat.lt_or_ge j l.length with h | h
    · exact h
    · rw [List.getElem?_eq_none h] at hj; cases hj
  have e : l = l.take (j + 1) ++ l.drop (j + 1) := (List.take_append_drop _ _).symm
  have e2 : l.take (j + 1) = l.take j ++ [x] := by rw [List.take_add_one, hj]; rfl
  have key : ∀ (m : List OpT) (T : Int → Option ByteArray), (∀ y ∈ m, y.2.1 ≠ x.2.1) → m.foldl opT T x.2.1 = T x.2.1 := by
    intro m
    induction m with
    | nil => intro T _; rfl
    | cons y m ih =>
      intro T hm
      rw [List.foldl_cons, ih _ fun z hz => hm z (by simp [hz]), opT_ne (hm y (by simp))]
  rw [runT, e, List.foldl_append, key _ _ fun y hy => ?_]
  · rw [e2, List.foldl_append]
    show opT _ x x.2.1 = _
    exact opT_eq
  · obtain ⟨t, ht, rfl⟩ := List.mem_iff_getElem.1 hy
    refine h (j + 1 + t) _ (by omega) ?_
    rw [← List.getElem?_drop, List.getElem?_eq_getElem ht]
theorem nTSt.mono {B g N N' : Nat} {w : World} {T : Int → Option ByteArray} (h : nTSt B w g N T) (hn : N ≤ N') : nTSt B w g N' T := by
  obtain ⟨v, hc, hm⟩ := h.st
  refine ⟨h.le, h.fr, v, hc, ?_⟩
  rcases hm with hm | ⟨b, D, h1, h2, h3, h4⟩
  · exact .inl hm
  · exact .inr ⟨b, D, h1, h2, h3.mono hn, h4⟩
end Go.Proofs.Ytkflekaibfkicaa
