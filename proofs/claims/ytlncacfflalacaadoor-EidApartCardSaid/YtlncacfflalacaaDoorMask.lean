/- Worlds with some blocks rubbed out, and lists of items in a row of cells. No program's number stands here but items' (CborI). -/
import Derived.Test.YtlncacfflalacaaDoorRub
namespace Go.Proofs.YtlncacfflalacaaDoor
open Go.RowKit

/-- The world with the blocks of S rubbed out. -/
def mask (S : Nat → Bool) (w : World) : World := { w with heap := w.heap.mapIdx fun i o => if S i then .cells #[] 0 else o }
theorem mask_size {S : Nat → Bool} {w : World} : (mask S w).heap.size = w.heap.size := by simp [mask]
theorem mask_heap {S : Nat → Bool} {w : World} {k : Nat} (h : S k = false) : (mask S w).heap[k]? = w.heap[k]? := by
  unfold mask
  simp only [Array.getElem?_mapIdx, h]
  cases w.heap[k]? <;> simp
theorem mask_cell {S : Nat → Bool} {w : World} {p : Addr} (h : S p.block = false) : (mask S w).cell? p = w.cell? p := World.cell?_of_block (w := w) (mask_heap h)
theorem mask_out {S : Nat → Bool} {w : World} {p : Addr} {u : Value} (h : (mask S w).cell? p = some u) : S p.block = false := by
  rcases hs : S p.block with _ | _
  · rfl
  · exfalso
    have hlt := World.block_lt_of_cell? (mask S w) p h
    rw [mask_size] at hlt
    have hb : (mask S w).heap[p.block]? = some (.cells #[] 0) := by
      unfold mask
      simp only [Array.getElem?_mapIdx]
      simp [hlt, hs]
    unfold World.cell? at h
    rw [hb] at h
    simp at h
theorem mask_sub {S : Nat → Bool} {w : World} {p : Addr} {u : Value} (h : (mask S w).cell? p = some u) : w.cell? p = some u := by rw [← mask_cell (mask_out h)]; exact h
/-- What reads with the blocks of S rubbed out goes on to, in a world where all others stand, with those of S' rubbed out, if these are not among them. -/
theorem mask_go {S S' : Nat → Bool} {w w' : World} {p : Addr} {u : Value} (h : (mask S w).cell? p = some u) (hk : ∀ k, k < w.heap.size → S k = false → w'.heap[k]? = w.heap[k]?) (hs : ∀ k, k < w.heap.size → S k = false → S' k = false) : (mask S' w').cell? p = some u := by
  have ho := mask_out h
  have hc := mask_sub h
  have hlt := World.block_lt_of_cell? w p hc
  rw [mask_cell (hs _ hlt ho), World.cell?_of_block (w := w) (hk _ hlt ho)]
  exact hc
theorem RdI.mask_go {S S' : Nat → Bool} {w w' : World} {B B' : Nat} {v : Value} {x : Itm} (h : RdI (mask S w) B v x) (hB : B ≤ B') (hk : ∀ k, k < w.heap.size → S k = false → w'.heap[k]? = w.heap[k]?) (hs : ∀ k, k < w.heap.size → S k = false → S' k = false) : RdI (mask S' w') B' v x :=
  h.sub hB fun _ _ _ hc => Go.Proofs.YtlncacfflalacaaDoor.mask_go hc hk hs
theorem Rd.mask_go {S S' : Nat → Bool} {w w' : World} {B B' n : Nat} {A : Option Addr} {l : List UInt8} (h : Rd (mask S w) B A n l) (hB : B ≤ B') (hk : ∀ k, k < w.heap.size → S k = false → w'.heap[k]? = w.heap[k]?) (hs : ∀ k, k < w.heap.size → S k = false → S' k = false) : Rd (mask S' w') B' A n l :=
  h.sub hB fun _ _ _ hc => Go.Proofs.YtlncacfflalacaaDoor.mask_go hc hk hs
theorem RdI.unmask {S : Nat → Bool} {w : World} {B : Nat} {v : Value} {x : Itm} (h : RdI (mask S w) B v x) : RdI w B v x := h.sub (Nat.le_refl _) fun _ _ _ hc => mask_sub hc

/-- Below lo. -/
def lows (lo : Nat) (k : Nat) : Bool := decide (k < lo)
/-- Below lo, or v's own block. -/
def lowsOr (lo : Nat) (v : Value) (k : Nat) : Bool := decide (k < lo) || decide (v.ownBlock = some k)
theorem lows_f {lo k : Nat} : lows lo k = false ↔ lo ≤ k := by unfold lows; simp
theorem lowsOr_f {lo k : Nat} {v : Value} : lowsOr lo v k = false ↔ lo ≤ k ∧ v.ownBlock ≠ some k := by unfold lowsOr; simp

/-- Cells, four an item. -/
def ItC (w : World) (B : Nat) : List Value → List Itm → Prop
  | [], [] => True
  | c0 :: c1 :: c2 :: c3 :: cs, x :: xs => RdI w B (.agg #[c0, c1, c2, c3]) x ∧ ItC w B cs xs
  | _, _ => False
theorem ItC.sub {w w' : World} {B B' : Nat} (hB : B ≤ B') (hk : ∀ (p : Addr) (u : Value), p.block < B → w.cell? p = some u → w'.cell? p = some u) : ∀ {cs : List Value} {xs : List Itm}, ItC w B cs xs → ItC w' B' cs xs
  | [], [], _ => trivial
  | c0 :: c1 :: c2 :: c3 :: cs, x :: xs, h => ⟨h.1.sub hB hk, ItC.sub hB hk h.2⟩
  | [], _ :: _, h => h.elim
  | [_], _, h => by simp [ItC] at h
  | [_, _], _, h => by simp [ItC] at h
  | [_, _, _], _, h => by simp [ItC] at h
  | _ :: _ :: _ :: _ :: _, [], h => h.elim
theorem ItC.mask_go {S S' : Nat → Bool} {w w' : World} {B B' : Nat} {cs : List Value} {xs : List Itm} (h : ItC (mask S w) B cs xs) (hB : B ≤ B') (hk : ∀ k, k < w.heap.size → S k = false → w'.heap[k]? = w.heap[k]?) (hs : ∀ k, k < w.heap.size → S k = false → S' k = false) : ItC (mask S' w') B' cs xs :=
  h.sub hB fun _ _ _ hc => Go.Proofs.YtlncacfflalacaaDoor.mask_go hc hk hs
theorem ItC.snoc {w : World} {B : Nat} {c0 c1 c2 c3 : Value} {x : Itm} (hx : RdI w B (.agg #[c0, c1, c2, c3]) x) : ∀ {cs : List Value} {xs : List Itm}, ItC w B cs xs → ItC w B (cs ++ [c0, c1, c2, c3]) (xs ++ [x])
  | [], [], _ => ⟨hx, trivial⟩
  | c0 :: c1 :: c2 :: c3 :: cs, x :: xs, h => ⟨h.1, ItC.snoc hx h.2⟩
  | [], _ :: _, h => h.elim
  | [_], _, h => by simp [ItC] at h
  | [_, _], _, h => by simp [ItC] at h
  | [_, _, _], _, h => by simp [ItC] at h
  | _ :: _ :: _ :: _ :: _, [], h => h.elim
theorem ItC.len {w : World} {B : Nat} : ∀ {cs : List Value} {xs : List Itm}, ItC w B cs xs → cs.length = xs.length * 4
  | [], [], _ => rfl
  | c0 :: c1 :: c2 :: c3 :: cs, x :: xs, h => by have := ItC.len h.2; simp; omega
  | [], _ :: _, h => h.elim
  | [_], _, h => by simp [ItC] at h
  | [_, _], _, h => by simp [ItC] at h
  | [_, _, _], _, h => by simp [ItC] at h
  | _ :: _ :: _ :: _ :: _, [], h => h.elim
/-- Where they lie. -/
theorem ItC.lie {w : World} {B b : Nat} : ∀ {cs : List Value} {xs : List Itm} {o : Nat}, ItC w B cs xs → (∀ j u, cs[j]? = some u → w.cell? ⟨b, o + j, none⟩ = some u) → RdIs w B b o xs
  | [], [], _, _, _ => by rw [RdIs]; trivial
  | c0 :: c1 :: c2 :: c3 :: cs, x :: xs, o, h, hc => by
    rw [RdIs]
    refine ⟨⟨c0, c1, c2, c3, hc 0 c0 rfl, hc 1 c1 rfl, hc 2 c2 rfl, hc 3 c3 rfl, h.1⟩, ItC.lie h.2 fun j u hj => ?_⟩
    rw [show o + 4 + j = o + (j + 4) by omega]
    exact hc (j + 4) u (by simpa using hj)
  | [], _ :: _, _, h, _ => h.elim
  | [_], _, _, h, _ => by simp [ItC] at h
  | [_, _], _, _, h, _ => by simp [ItC] at h
  | [_, _, _], _, _, h, _ => by simp [ItC] at h
  | _ :: _ :: _ :: _ :: _, [], _, h, _ => h.elim
end Go.Proofs.YtlncacfflalacaaDoor
