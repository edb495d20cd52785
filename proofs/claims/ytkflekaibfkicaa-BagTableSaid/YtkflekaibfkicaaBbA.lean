/- Texts that come in; what a table and a queue of other things hold behind them. -/
import Derived.Test.YtkflekaibfkicaaBagV
import Derived.ChangeKeysEq
import Derived.Test.YtkflekaibfkicaaBagY
import Derived.Test.YtkflekaibfkicaaBagGu
import Derived.Test.YtkflekaibfkicaaBagPs
import Derived.Test.YtkflekaibfkicaaBagQs
import Derived.Test.YtkflekaibfkicaaBagTs
namespace Go.Proofs.Ytkflekaibfkicaa
open Go.RowKit Go.ChangeShapes Go.WideShapes

/-- A slice of n texts reads as l. -/
def RdS (w : World) (A : Option Addr) (n : Nat) (l : List ByteArray) : Prop :=
  n = l.length ∧ (∀ x ∈ l, x.size ≤ maxLen) ∧ (0 < n → ∃ b o, A = some ⟨b, o, none⟩ ∧ ∀ i x, l[i]? = some x → w.cell? ⟨b, o + i, none⟩ = some (.string x))
theorem RdS.at_ {w : World} {A : Option Addr} {n : Nat} {l : List ByteArray} (h : RdS w A n l) {i : Nat} (hi : i < n) : ∃ b o x, A = some ⟨b, o, none⟩ ∧ l[i]? = some x ∧ x.size ≤ maxLen ∧ w.cell? ⟨b, o + i, none⟩ = some (.string x) := by
  obtain ⟨b, o, hA, hx⟩ := h.2.2 (by omega)
  have hl : i < l.length := by rw [← h.1]; exact hi
  exact ⟨b, o, l[i], hA, List.getElem?_eq_getElem hl, h.2.1 _ (List.getElem_mem hl), hx i _ (List.getElem?_eq_getElem hl)⟩
theorem RdS.below {w w' : World} {A : Option Addr} {n : Nat} {l : List ByteArray} (h : RdS w A n l) (hb : Below w.heap.size w w') : RdS w' A n l :=
  ⟨h.1, h.2.1, fun h0 => by
    obtain ⟨b, o, hA, hx⟩ := h.2.2 h0
    exact ⟨b, o, hA, fun i x hi => (World.cell?_of_block (w := w) (hb.block b (World.block_lt_of_cell? w ⟨b, o + i, none⟩ (hx i x hi)))).trans (hx i x hi)⟩⟩
theorem RdS.lt {w : World} {b o n : Nat} {l : List ByteArray} (h : RdS w (some ⟨b, o, none⟩) n l) (hn : 0 < n) : b < w.heap.size := by
  obtain ⟨b', o', x, e, -, -, hc⟩ := h.at_ hn
  injection e with e
  injection e with e _ _
  subst e
  exact World.block_lt_of_cell? w ⟨b, o' + 0, none⟩ hc
/-- A row of texts that came in. -/
theorem open_strs12 {H : Type} {enc : TypeId × Value → H} {w : World} {base : Nat} {spare : Nat → Bool} {held : Bool} {fuel : Nat} {A : Option Addr} {n c : Nat} {x : DataW H × List MemPlace}
    (h : DataW.trod enc Try.prog w base spare held fuel 28 [.slice A n c] = some x) : ∃ l, RdS w A n l := by
  rcases Deep.open_slice Try.underlying28 h with ⟨h0, -⟩ | ⟨a, len, cap, m, k, D, Pl, h0, -, hl, -, hm, -, hx⟩
  · simp at h0
    obtain ⟨rfl, rfl, rfl⟩ := h0
    exact ⟨[], rfl, fun x hx => by simp at hx, fun h => absurd h (Nat.lt_irrefl 0)⟩
  · simp at h0
    obtain ⟨rfl, rfl, rfl⟩ := h0
    have hlm : n ≤ m := by rw [hm]; split <;> omega
    have cs : Try.prog.cellsOf 9 = 1 := by kernel_rfl
    have each : ∀ i, i < n → ∃ q : ByteArray, q.size ≤ maxLen ∧ w.cell? (a.add i) = some (.string q) := by
      intro i hi
      obtain ⟨cs', h1, h2⟩ := hx i (by omega)
      rw [cs] at h1
      obtain ⟨_, hlen, hcell⟩ := World.cells?_some h1
      obtain ⟨s, e2, -, hs⟩ := DataW.trod_string Try.underlying9 h2
      subst e2
      have q0 := hcell 0 (by omega)
      rw [Deep.add_add] at q0
      exact ⟨s, hs, by simpa using q0⟩
    obtain ⟨q, hq⟩ := Deep.choose_lt each
    refine ⟨(List.range n).map q, by simp, fun x hx => ?_, fun h0 => ?_⟩
    · obtain ⟨i, hi, rfl⟩ := List.mem_map.1 hx
      exact (hq i (List.mem_range.1 hi)).1
    · obtain ⟨b, o, spot⟩ := a
      have hs : spot = none := by simpa [Addr.add] using World.cell?_spot (hq 0 h0).2
      subst hs
      refine ⟨b, o, rfl, fun i x hi => ?_⟩
      have hin : i < n := by
        rcases Nat.lt_or_ge i n with h | h
        · exact h
        · rw [List.getElem?_eq_none (by simpa using h)] at hi; cases hi
      rw [List.getElem?_map, List.getElem?_range hin] at hi
      obtain rfl : q i = x := Option.some.inj hi
      have e : ∀ j, (⟨b, o, none⟩ : Addr).add j = ⟨b, o + j, none⟩ := fun j => by unfold Addr.add; split <;> simp_all
      have := (hq i hin).2
      rwa [e] at this

/-- What a table holds behind texts put with their places. -/
def runS (l : List ByteArray) : ByteArray → Option Int := l.zipIdx.foldl (fun T p => putT T p.1 (p.2 : Int)) fun _ => none
theorem runS_snoc (l : List ByteArray) (x : ByteArray) : runS (l ++ [x]) = putT (runS l) x (l.length : Int) := by
  simp [runS, List.zipIdx_append, List.foldl_append]
theorem runS_last {l : List ByteArray} {j : Nat} {x : ByteArray} (hj : l[j]? = some x) (h : ∀ t y, j < t → l[t]? = some y → y ≠ x) : runS l x = some (j : Int) := by
  have hjl : j < l.length := by
    rcases Nat.lt_or_ge j l.length with h | h
    · exact h
    · rw [List.getElem?_eq_none h] at hj; cases hj
  have key : ∀ m : Nat, j + 1 + m ≤ l.length → runS (l.take (j + 1 + m)) x = some (j : Int) := by
    intro m
    induction m with
    | zero =>
      intro _
      rw [Nat.add_zero, List.take_add_one, hj]
      show runS (l.take j ++ [x]) x = _
      rw [runS_snoc, putT, if_pos rfl, List.length_take, Nat.min_eq_left (by omega)]
    | succ m ih =>
      intro hm
      have e : l[j + 1 + m]? = some l[j + 1 + m] := List.getElem?_eq_getElem (by omega)
      rw [← Nat.add_assoc, List.take_add_one, e]
      show runS (l.take (j + 1 + m) ++ [l[j + 1 + m]]) x = _
      rw [runS_snoc, putT, if_neg (fun e2 => h (j + 1 + m) _ (by omega) e e2.symm)]
      exact ih (by omega)
  have := key (l.length - (j + 1)) (by omega)
  rwa [List.take_of_length_le (by omega)] at this
/-- The pairs that a queue holds. -/
def pr (i : Nat) (l : List ByteArray) : List (List Value) := (l.zipIdx i).map fun p => [.int .i64 (p.2 : Int), .int .i64 (p.1.size : Int)]
theorem pr_snoc (l : List ByteArray) (x : ByteArray) : pr 0 (l ++ [x]) = pr 0 l ++ [[.int .i64 (l.length : Int), .int .i64 (x.size : Int)]] := by
  simp [pr, List.zipIdx_append]
theorem pr_cons (i : Nat) (l : List ByteArray) (x : ByteArray) : pr i (x :: l) = [.int .i64 (i : Int), .int .i64 (x.size : Int)] :: pr (i + 1) l := by
  simp [pr, List.zipIdx_cons]
theorem pr_len (i : Nat) (l : List ByteArray) : (pr i l).length = l.length := by simp [pr]

theorem sTSt.kp {B B' g g2 N : Nat} {w w' : World} {T : ByteArray → Option Int} (h : sTSt B w g N T) (hk : Kp true B' g2 w w') (hne : g ≠ g2) : sTSt B w' g N T := by
  obtain ⟨v, hc, hm⟩ := h.st
  exact ⟨h.le, (hk.frozen (p := ⟨g, 0, none⟩) hne hc).trans h.fr, v, hk.cell (p := ⟨g, 0, none⟩) hne hc, hm.keep fun b es c hb => hk.knd b _ hb ⟨es, c, rfl⟩⟩
theorem sTSt.mono {B g N N' : Nat} {w : World} {T : ByteArray → Option Int} (h : sTSt B w g N T) (hn : N ≤ N') : sTSt B w g N' T := by
  obtain ⟨v, hc, hm⟩ := h.st
  refine ⟨h.le, h.fr, v, hc, ?_⟩
  rcases hm with hm | ⟨b, D, h1, h2, h3, h4⟩
  · exact .inl hm
  · exact .inr ⟨b, D, h1, h2, h3.mono hn, h4⟩
theorem QSt.kpr {B B' g q : Nat} {w w' : World} {l : List (List Value)} (h : QSt B w g q l) (hk : Kp false B' q w w') (hne : g ≠ q) : QSt B w' g q l := by
  obtain ⟨v, hc, hs⟩ := h.st
  refine ⟨h.le, (hk.frozen (p := ⟨g, 0, none⟩) hne hc).trans h.fr, v, hk.cell (p := ⟨g, 0, none⟩) hne hc, ?_⟩
  rcases hs with h1 | ⟨c, cap, vs, h1, h2, ⟨s, r, h3⟩, h4, h5, h6⟩
  · exact .inl h1
  · exact .inr ⟨c, cap, vs, h1, h2, ⟨s, r, hk.knd c _ h3 ⟨_, _, _, _, _, _, rfl⟩⟩, h4, h5, h6.kpr hk⟩
theorem neq_pair (i s : Int) (W : World) : (binOp .neq 56 (.agg #[.int .i64 i, .int .i64 s]) (.agg #[.int .i64 i, .int .i64 s])).run Try.prog W = .ok (.bool false) W := by
  have hd : (Try.prog.info? 3).isSome = true := by kernel_rfl
  obtain ⟨inf, hi⟩ := Option.isSome_iff_exists.1 hd
  have ce : Try.prog.cellsOf 3 = 1 := by kernel_rfl
  have hu := Try.underlying3
  have h : ∀ d : Nat, (Op.equalIn (d + 2) 56 (.agg #[.int .i64 i, .int .i64 s]) (.agg #[.int .i64 i, .int .i64 s])).run Try.prog W = .ok true W := fun d => by
    rw [run_equalIn_array W (d + 1) _ _ Try.underlying56 hi, ce, show List.range 2 = [0, 1] from rfl]
    have p1 : (part 3 #[.int .i64 i, .int .i64 s] (0 * 1)).run Try.prog W = .ok (.int .i64 i) W := by simp [part, isAgg, run_underlying hu]
    have p2 : (part 3 #[.int .i64 i, .int .i64 s] (1 * 1)).run Try.prog W = .ok (.int .i64 s) W := by simp [part, isAgg, run_underlying hu]
    rw [Nat.zero_mul] at p1
    rw [Nat.mul_one] at p2
    simp [Op.eqItems, p1, p2, run_equalIn_int W d 3 .i64 .i64 _ _ hu]
  simp only [binOp]
  simp [Op.equal, Op.maxDepth, h 9998]
end Go.Proofs.Ytkflekaibfkicaa
