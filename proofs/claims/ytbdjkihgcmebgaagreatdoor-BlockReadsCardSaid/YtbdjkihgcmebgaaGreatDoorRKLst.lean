/- The reader of layer 3: an array as it grows. -/
import Derived.Test.YtbdjkihgcmebgaaGreatDoorRCborD2
import Derived.Test.YtbdjkihgcmebgaaGreatDoorRKCheck
import Derived.Test.YtbdjkihgcmebgaaGreatDoorRKRdH
namespace Go.Proofs.YtbdjkihgcmebgaaGreatDoor
open Go.RowKit

/-- Behind w two blocks were laid, the result's variable and the array's; the array has the items xs by now, in cells of a row of its own. -/
structure LstSt (w wr : World) (g : Nat) (k : Int) (vL : Value) (cells : List Value) (xs : List Itm) : Prop where
  b0 : wr.cell? ⟨w.heap.size + 1, 0, none⟩ = some (.int .i64 k)
  b1 : wr.cell? ⟨w.heap.size + 1, 1, none⟩ = some (.int .u64 0)
  b2 : wr.cell? ⟨w.heap.size + 1, 2, none⟩ = some (.slice none 0 0)
  b3 : wr.cell? ⟨w.heap.size + 1, 3, none⟩ = some vL
  bf : wr.frozen? ⟨w.heap.size + 1, 3, none⟩ = false
  z0 : wr.cell? ⟨w.heap.size, 0, none⟩ = some (.int .i64 0)
  z1 : wr.cell? ⟨w.heap.size, 1, none⟩ = some (.int .u64 0)
  z2 : wr.cell? ⟨w.heap.size, 2, none⟩ = some (.slice none 0 0)
  z3 : wr.cell? ⟨w.heap.size, 3, none⟩ = some (.slice none 0 0)
  f0 : wr.frozen? ⟨w.heap.size, 0, none⟩ = false
  f1 : wr.frozen? ⟨w.heap.size, 1, none⟩ = false
  f2 : wr.frozen? ⟨w.heap.size, 2, none⟩ = false
  f3 : wr.frozen? ⟨w.heap.size, 3, none⟩ = false
  own : wr.ownsRow (w.heap.size + 2) 42 4 vL xs.length cells
  its : ItC (mask (lowsOr (w.heap.size + 2) vL) wr) wr.heap.size cells xs
  only : Only g w wr
  sz : w.heap.size + 2 ≤ wr.heap.size

section
variable {w wr w1 w3 : World} {g : Nat} {k : Int} {vL : Value} {cells : List Value} {xs : List Itm}
theorem LstSt.start (_hg : g < w.heap.size) (k : Int) : LstSt w ((w.alloc (.cells #[.int .i64 0, .int .u64 0, .slice none 0 0, .slice none 0 0] 42)).alloc (.cells #[.int .i64 k, .int .u64 0, .slice none 0 0, .slice none 0 0] 42)) g k (.slice none 0 0) [] [] := by
  refine ⟨by simp, by simp, by simp, by simp, by simp, by simp, by simp, by simp, by simp, by simp, by simp, by simp, by simp, World.ownsRow_nil _ _ _ _, trivial, ((Only.refl g w).alloc _).alloc _, by simp⟩
/-- The reader is turned, and new blocks are laid. -/
theorem LstSt.on (h : LstSt w wr g k vL cells xs) (ho : Only g wr w1) (hg : g < w.heap.size) : LstSt w w1 g k vL cells xs := by
  have hsz := h.sz
  have hb : ∀ j, j < wr.heap.size → j ≠ g → w1.heap[j]? = wr.heap[j]? := ho.block
  have c := fun (q : Addr) (hq : q.block < wr.heap.size) (hq2 : q.block ≠ g) => World.cell?_of_block (w := wr) (a := q) (hb q.block hq hq2)
  have f := fun (q : Addr) (hq : q.block < wr.heap.size) (hq2 : q.block ≠ g) => World.frozen?_of_block (w := wr) (a := q) (hb q.block hq hq2)
  have m0 : w.heap.size < wr.heap.size ∧ w.heap.size ≠ g := by omega
  have m1 : w.heap.size + 1 < wr.heap.size ∧ w.heap.size + 1 ≠ g := by omega
  refine ⟨(c _ m1.1 m1.2).trans h.b0, (c _ m1.1 m1.2).trans h.b1, (c _ m1.1 m1.2).trans h.b2, (c _ m1.1 m1.2).trans h.b3, (f _ m1.1 m1.2).trans h.bf, (c _ m0.1 m0.2).trans h.z0, (c _ m0.1 m0.2).trans h.z1, (c _ m0.1 m0.2).trans h.z2, (c _ m0.1 m0.2).trans h.z3,
    (f _ m0.1 m0.2).trans h.f0, (f _ m0.1 m0.2).trans h.f1, (f _ m0.1 m0.2).trans h.f2, (f _ m0.1 m0.2).trans h.f3, ?_, ?_, h.only.trans ho, Nat.le_trans h.sz ho.size⟩
  · refine World.ownsRow.kept h.own (row := some g) ⟨ho.os, ho.tape, ho.output, ho.size, fun j hj hne => hb j hj (fun e => hne (by rw [e]))⟩ ?_
    rcases hv : vL.ownBlock with _ | q
    · exact .inl rfl
    · refine .inr fun e => ?_
      injection e with e
      have := (World.ownsRow.lt h.own q hv).1
      omega
  · exact h.its.mask_go ho.size (fun j hj hs => hb j hj (by have := (lowsOr_f.1 hs).1; omega)) (fun _ _ hs => hs)
/-- One item more. -/
theorem LstSt.push (h : LstSt w wr g k vL cells xs) (ho : Only g wr w1) (hg : g < w.heap.size) {c0 c1 c2 c3 : Value} {x : Itm} (hx : RdI (mask (lows wr.heap.size) w1) w1.heap.size (.agg #[c0, c1, c2, c3]) x) (o1 o2 : Obj)
    {g2 cap m : Nat} (hm : xs.length = m) (hown : w3.ownsRow (w.heap.size + 2) 42 4 (.slice (some ⟨g2, 0, none⟩) (m + 1) cap) (m + 1) (cells ++ [c0, c1, c2, c3])) (hgr : ((w1.alloc o1).alloc o2).grownBy w3 vL.ownBlock) (hor : vL.ownBlock = some g2 ∨ g2 = ((w1.alloc o1).alloc o2).heap.size) :
    LstSt w (w3.setCell ⟨w.heap.size + 1, 3, none⟩ (.slice (some ⟨g2, 0, none⟩) (m + 1) cap)) g k (.slice (some ⟨g2, 0, none⟩) (m + 1) cap) (cells ++ [c0, c1, c2, c3]) (xs ++ [x]) := by
  subst hm
  have h1 := ((h.on ho hg).on ((Only.refl g w1).alloc o1) hg).on ((Only.refl g _).alloc o2) hg
  have hz2 : ((w1.alloc o1).alloc o2).heap.size = w1.heap.size + 2 := by simp
  have hzr := ho.size
  have hsz := h.sz
  have hlt := fun q (e : vL.ownBlock = some q) => World.ownsRow.lt h.own q e
  have hz3 := hgr.size
  have hb : ∀ j, j < ((w1.alloc o1).alloc o2).heap.size → vL.ownBlock ≠ some j → w3.heap[j]? = ((w1.alloc o1).alloc o2).heap[j]? := fun j hj hne => hgr.block j hj (fun e => hne e.symm)
  have hlow : ∀ j, j < w.heap.size + 2 → vL.ownBlock ≠ some j := fun j hj e => by have := (hlt j e).1; omega
  have c := fun (q : Addr) (hq : q.block < w.heap.size + 2) => World.cell?_of_block (w := (w1.alloc o1).alloc o2) (a := q) (hb q.block (by omega) (hlow _ hq))
  have f := fun (q : Addr) (hq : q.block < w.heap.size + 2) => World.frozen?_of_block (w := (w1.alloc o1).alloc o2) (a := q) (hb q.block (by omega) (hlow _ hq))
  have m0 : w.heap.size < w.heap.size + 2 := by omega
  have m1 : w.heap.size + 1 < w.heap.size + 2 := by omega
  have k0 : ∀ j u, w3.cell? ⟨w.heap.size, j, none⟩ = some u → (w3.setCell ⟨w.heap.size + 1, 3, none⟩ (.slice (some ⟨g2, 0, none⟩) (xs.length + 1) cap)).cell? ⟨w.heap.size, j, none⟩ = some u := fun j u hu => by
    rw [World.cell?_setCell_far _ _ _ _ (by show w.heap.size + 1 ≠ w.heap.size; omega)]; exact hu
  have hnew : ∀ j, j < ((w1.alloc o1).alloc o2).heap.size → vL.ownBlock ≠ some j → g2 ≠ j := fun j hj hne e => by
    rcases hor with e2 | e2
    · exact hne (by rw [e2, e])
    · omega
  refine ⟨cell_set_ne (by decide) ((c _ m1).trans h1.b0), cell_set_ne (by decide) ((c _ m1).trans h1.b1), cell_set_ne (by decide) ((c _ m1).trans h1.b2), World.cell?_setCell_same _ _ _ ((c _ m1).trans h1.b3), by rw [World.frozen?_setCell]; exact (f _ m1).trans h1.bf,
    k0 _ _ ((c _ m0).trans h1.z0), k0 _ _ ((c _ m0).trans h1.z1), k0 _ _ ((c _ m0).trans h1.z2), k0 _ _ ((c _ m0).trans h1.z3),
    by rw [World.frozen?_setCell]; exact (f _ m0).trans h1.f0, by rw [World.frozen?_setCell]; exact (f _ m0).trans h1.f1, by rw [World.frozen?_setCell]; exact (f _ m0).trans h1.f2, by rw [World.frozen?_setCell]; exact (f _ m0).trans h1.f3, ?_, ?_, ?_, ?_⟩
  · rw [List.length_append, List.length_singleton]
    refine World.ownsRow.kept hown (row := some (w.heap.size + 1)) ⟨rfl, rfl, rfl, by simp [World.setCell], fun j _ hne => Below.heap_setCell _ _ _ _ (fun e => hne (by rw [e]))⟩ (.inr fun e => ?_)
    have := (World.ownsRow.lt hown g2 rfl).1
    injection e with e
    simp at e
    omega
  · refine ItC.snoc ?_ ?_
    · refine hx.mask_go (by simp [World.setCell]; omega) (fun j hj hs => ?_) (fun j hj hs => ?_)
      · have hs' := lows_f.1 hs
        have hne : vL.ownBlock ≠ some j := fun e => by have := (hlt j e).2; omega
        rw [Below.heap_setCell _ _ _ _ (by show j ≠ w.heap.size + 1; omega), hb j (by omega) hne, Below.heap_alloc _ _ _ (by simp; omega), Below.heap_alloc _ _ _ hj]
      · have hs' := lows_f.1 hs
        have hne : vL.ownBlock ≠ some j := fun e => by have := (hlt j e).2; omega
        exact lowsOr_f.2 ⟨by omega, fun e => hnew j (by omega) hne (by injection e)⟩
    · refine (h1.its).mask_go (by simp [World.setCell]; omega) (fun j hj hs => ?_) (fun j hj hs => ?_)
      · have hs' := lowsOr_f.1 hs
        rw [Below.heap_setCell _ _ _ _ (by show j ≠ w.heap.size + 1; omega), hb j hj hs'.2]
      · have hs' := lowsOr_f.1 hs
        exact lowsOr_f.2 ⟨hs'.1, fun e => hnew j hj hs'.2 (by injection e)⟩
  · have ho1 := h1.only
    refine ⟨hgr.os.trans ho1.os, hgr.tape.trans ho1.tape, hgr.output.trans ho1.output, by simp [World.setCell]; omega, fun j hj hne => ?_⟩
    rw [Below.heap_setCell _ _ _ _ (by show j ≠ w.heap.size + 1; omega), hb j (by omega) (hlow j (by omega))]
    exact ho1.block j hj hne
  · simp [World.setCell]; omega
/-- What an append to its row leaves. -/
theorem LstSt.far (h : LstSt w wr g k vL cells xs) (hgr : wr.grownBy w3 vL.ownBlock) : w3.cell? ⟨w.heap.size + 1, 3, none⟩ = some vL ∧ w3.frozen? ⟨w.heap.size + 1, 3, none⟩ = false ∧ Below (w.heap.size + 2) wr w3 := by
  have hsz := h.sz
  have hb : Below (w.heap.size + 2) wr w3 := ⟨hgr.os, hgr.tape, hgr.output, hgr.size, fun j hj => hgr.block j (by omega) (fun e => by have := (World.ownsRow.lt h.own j e.symm).1; omega)⟩
  exact ⟨(hb.cell (p := ⟨w.heap.size + 1, 3, none⟩) (Nat.lt_succ_self _)).trans h.b3, (hb.frozen (p := ⟨w.heap.size + 1, 3, none⟩) (Nat.lt_succ_self _)).trans h.bf, hb⟩
theorem RSt.setFar {n c i p d b j : Nat} {A : Option Addr} {bs : List UInt8} (h : RSt w g A n c bs i p d) (hb : g < b) (u : Value) : RSt (w.setCell ⟨b, j, none⟩ u) g A n c bs i p d :=
  h.below (B := b) ((Below.refl b w).setCell (p := ⟨b, j, none⟩) (Nat.le_refl _) u) hb
/-- What a list in cells reads as, behind all. -/
theorem LstSt.read (h : LstSt w wr g k vL cells xs) (hk : (Lit.int .i64 k).wf = true) (hl : xs.length ≤ 140737488355328) : RdI (mask (lows (w.heap.size + 2)) wr) wr.heap.size (.agg #[.int .i64 k, .int .u64 0, .slice none 0 0, vL]) (.mk k 0 [] xs) := by
  rcases h.own.2 with ⟨hv, h0⟩ | ⟨q, cap, cur, hv, hbq, hgq, hnc, hcm, hcs, htake⟩
  · have e : xs = [] := List.eq_nil_of_length_eq_zero h0
    subst e
    rw [hv]
    exact (RdI.mk_data (w := wr) (B := wr.heap.size) (nd := 0) (cd := 0) (A := none) hk (Nat.le_refl _) (by decide) Rd.nil_).bare
  · have hlt := World.ownsRow.lt h.own q (by rw [hv]; rfl)
    have hown := h.own
    rw [hv] at hown ⊢
    refine RdI.mk_list hk hnc hl rfl hlt.2 (ItC.lie (h.its.mask_go (Nat.le_refl _) (fun _ _ _ => rfl) (fun j _ hs => lows_f.2 (lowsOr_f.1 hs).1)) fun j u hj => ?_)
    have hjl : j < xs.length * 4 := by
      rw [← hown.1]
      rcases Nat.lt_or_ge j cells.length with h | h
      · exact h
      · rw [List.getElem?_eq_none h] at hj; cases hj
    rw [Nat.zero_add, mask_cell (lows_f.2 hlt.1), World.ownsRow.cellAt hown j hjl]
    exact hj
end
end Go.Proofs.YtbdjkihgcmebgaaGreatDoor
