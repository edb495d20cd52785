/- The reader of layer 3: an array as it grows. -/
import Derived.Test.YtlecbblmaadpiaaGreatDoorMCborCs
import Derived.Test.YtlecbblmaadpiaaGreatDoorMCborN
import Derived.Test.YtlecbblmaadpiaaGreatDoorMEidM
import Derived.Test.YtlecbblmaadpiaaGreatDoorMKRdH
namespace Go.Proofs.YtlecbblmaadpiaaGreatDoor
open Go.RowKit
structure LstSt (w wr : World) (g : Nat) (k : Int) (vL : Value) (cells : List Value) (xs : List Itm) : Prop where
  b0 : wr.cell? ⟨w.heap.size + 1, 0, none⟩ = some (.int .i64 k)
  b1 : wr.cell? ⟨w.heap.size + 1, 1, none⟩ = some (.int .u64 0)
  b2 : wr.cell? ⟨w.heap.size + 1, 2, none⟩ = some (.slice none 0 0)
  b3 : wr.cell? ⟨w.heap.size + 1, 3, none⟩ = some vL
  bf : wr.frozen? ⟨w.heap.size + 1, 3, none⟩ = false
  z0 : wr.cell? ⟨w.heap.size, 0, none⟩ = some (.int .i64 0)
  z1 : wr.cell? ⟨w.heap.size, 1, none⟩ = some (.int .u64 0)
  z2 : wr.cell? ⟨w.heap.size, 2, none⟩ = some (.slice none 0 0)
  z3 : wr.cell? ⟨w.heap.size, 3, none⟩ = some (.slice none 0 0)
  f0 : wr.frozen? ⟨w.heap.size, 0, none⟩ = false
  f1 : wr.frozen? ⟨w.heap.size, 1, none⟩ = false
  f2 : wr.frozen? ⟨w.heap.size, 2, none⟩ = false
  f3 : wr.frozen? ⟨w.heap.size, 3, none⟩ = false
  own : wr.ownsRow (w.heap.size + 2) 30 4 vL xs.length cells
  its : ItC (mask (lowsOr (w.heap.size + 2) vL) wr) wr.heap.size cells xs
  only : Only g w wr
  sz : w.heap.size + 2 ≤ wr.heap.size
section
variable {w wr w1 w3 : World} {g : Nat} {k : Int} {vL : Value} {cells : List Value} {xs : List Itm}
theorem LstSt.on (h : LstSt w wr g k vL cells xs) (ho : Only g wr w1) (hg : g < w.heap.size) : LstSt w w1 g k vL cells xs := by
  have hsz := h.sz
  have hb : ∀ j, j < wr.heap.size → j ≠ g → w1.heap[j]? = wr.heap[j]? := ho.block
  have c := fun (q : Addr) (hq : q.block < wr.heap.size) (hq2 : q.block ≠ g) => World.cell?_of_block (w := wr) (a := q) (hb q.block hq hq2)
  have f := fun (q : Addr) (hq : q.block < wr.heap.size) (hq2 : q.block ≠ g) => World.frozen?_of_block (w := wr) (a := q) (hb q.block hq hq2)
  have m0 : w.heap.size < wr.heap.size ∧ w.heap.size ≠ g := by omega
  have m1 : w.heap.size + 1 < wr.heap.size ∧ w.heap.size + 1 ≠ g := by omega
  refine ⟨(c _ m1.1 m1.2).trans h.b0, (c _ m1.1 m1.2).trans h.b1, (c _ m1.1 m1.2).trans h.b2, (c _ m1.1 m1.2).trans h.b3, (f _ m1.1 m1.2).trans h.bf, (c _ m0.1 m0.2).trans h.z0, (c _ m0.1 m0.2).trans h.z1, (c _ m0.1 m0.2).trans h.z2, (c _ m0.1 m0.2).trans h.z3,
    (f _ m0.1 m0.2).trans h.f0, (f _ m0.1 m0.2).trans h.f1, (f _ m0.1 m0.2).trans h.f2, (f _ m0.1 m0.2).trans h.f3, ?_, ?_, h.only.trans ho, Nat.le_trans h.sz ho.size⟩
  · refine World.ownsRow.kept h.own (row := some g) ⟨ho.os, ho.tape, ho.output, ho.size, fun j hj hne => hb j hj (fun e => hne (by rw [e]))⟩ ?_
    rcases hv : vL.ownBlock with _ | q
    · exact .inl rfl
    · refine .inr fun e => ?_
      injection e with e
      have := (World.ownsRow.lt h.own q hv).1
      omega
  · exact h.its.mask_go ho.size (fun j hj hs => hb j hj (by have := (lowsOr_f.1 hs).1; omega)) (fun _ _ hs => hs)
theorem LstSt.push (h : LstSt w wr g k vL cells xs) (ho : Only g wr w1) (hg : g < w.heap.size) {c0 c1 c2 c3 : Value} {x : Itm} (hx : RdI (mask (lows wr.heap.size) w1) w1.heap.size (.agg #[c0, c1, c2, c3]) x) (o1 o2 : Obj)
    {g2 cap m : Nat} (hm : xs.length = m) (hown : w3.ownsRow (w.heap.size + 2) 30 4 (.slice (some ⟨g2, 0, none⟩) (m + 1) cap) (m + 1) (cells ++ [c0, c1, c2, c3])) (hgr : ((w1.alloc o1).alloc o2).grownBy w3 vL.ownBlock) (hor : vL.ownBlock = some g2 ∨ g2 = ((w1.alloc o1).alloc o2).heap.size) :
    LstSt w (w3.setCell ⟨w.heap.size + 1, 3, none⟩ (.slice (some ⟨g2, 0, none⟩) (m + 1) cap)) g k (.slice (some ⟨g2, 0, none⟩) (m + 1) cap) (cells ++ [c0, c1, c2, c3]) (xs ++ [x]) := by
  subst hm
  have h1 := ((h.on ho hg).on ((Only.refl g w1).alloc o1) hg).on ((Only.refl g _).alloc o2) hg
  have hz2 : ((w1.alloc o1).alloc o2).heap.size = w1.heap.size + 2 := by simp
  have hzr := ho.size
  have hsz := h.sz
  have hlt := fun q (e : vL.ownBlock = some q) => World.ownsRow.lt h.own q e
  have hz3 := hgr.size
  have hb : ∀ j, j < ((w1.alloc o1).alloc o2).heap.size → vL.ownBlock ≠ some j → w3.heap[j]? = ((w1.alloc o1).alloc o2).heap[j]? := fun j hj hne => hgr.block j hj (fun e => hne e.symm)
  have hlow : ∀ j, j < w.heap.size + 2 → vL.ownBlock ≠ some j := fun j hj e => by have := (hlt j e).1; omega
  have c := fun (q : Addr) (hq : q.block < w.heap.size + 2) => World.cell?_of_block (w := (w1.alloc o1).alloc o2) (a := q) (hb q.block (by omega) (hlow _ hq))
  have f := fun (q : Addr) (hq : q.block < w.heap.size + 2) => World.frozen?_of_block (w := (w1.alloc o1).alloc o2) (a := q) (hb q.block (by omega) (hlow _ hq))
  have m0 : w.heap.size < w.heap.size + 2 := by omega
  have m1 : w.heap.size + 1 < w.heap.size + 2 := by omega
  have k0 : ∀ j u, w3.cell? ⟨w.heap.size, j, none⟩ = some u → (w3.setCell ⟨w.heap.size + 1, 3, none⟩ (.slice (some ⟨g2, 0, none⟩) (xs.length + 1) cap)).cell? ⟨w.heap.size, j, none⟩ = some u := fun j u hu => by
    rw [World.cell?_setCell_far _ _ _ _ (by show w.heap.size + 1 ≠ w.heap.size; omega)]; exact hu
  have hnew : ∀ j, j < ((w1.alloc o1).alloc o2).heap.size → vL.ownBlock ≠ some j → g2 ≠ j := fun j hj hne e => by
    rcases hor with e2 | e2
    · exact hne (by rw [e2, e])
    · omega
  refine ⟨cell_set_ne (by decide) ((c _ m1).trans h1.b0), cell_set_ne (by decide) ((c _ m1).trans h1.b1), cell_set_ne (by decide) ((c _ m1).trans h1.b2), World.cell?_setCell_same _ _ _ ((c _ m1).trans h1.b3), by rw [World.frozen?_setCell]; exact (f _ m1).trans h1.bf,
    k0 _ _ ((c _ m0).trans h1.z0), k0 _ _ ((c _ m0).trans h1.z1), k0 _ _ ((c _ m0).trans h1.z2), k0 _ _ ((c _ m0).trans h1.z3),
    by rw [World.frozen?_setCell]; exact (f _ m0).trans h1.f0, by rw [World.frozen?_setCell]; exact (f _ m0).trans h1.f1, by rw [World.frozen?_setCell]; exact (f _ m0).trans h1.f2, by rw [World.frozen?_setCell]; exact (f _ m0).trans h1.f3, ?_, ?_, ?_, ?_⟩
  · rw [List.length_append, List.length_singleton]
    refine World.ownsRow.kept hown (row := some (w.heap.size + 1)) ⟨rfl, rfl, rfl, by simp [World.setCell], fun j _ hne => Below.heap_setCell _ _ _ _ (fun e => hne (by rw [e]))⟩ (.inr fun e => ?_)
    have := (World.ownsRow.lt hown g2 rfl).1
    injection e with e
    simp at e
    omega
  · refine ItC.snoc ?_ ?_
    · refine hx.mask_go (by simp [World.setCell]; omega) (fun j hj hs => ?_) (fun j hj hs => ?_)
      · have hs' := lows_f.1 hs
        have hne : vL.ownBlock ≠ some j := fun e => by have := (hlt j e).2; omega
        rw [Below.heap_setCell _ _ _ _ (by show j ≠ w.heap.size + 1; omega), hb j (by omega) hne, Below.heap_alloc _ _ _ (by simp; omega), Below.heap_alloc _ _ _ hj]
      · have hs' := lows_f.1 hs
        have hne : vL.ownBlock ≠ some j := fun e => by have := (hlt j e).2; omega
        exact lowsOr_f.2 ⟨by omega, fun e => hnew j (by omega) hne (by injection e)⟩
    · refine (h1.its).mask_go (by simp [World.setCell]; omega) (fun j hj hs => ?_) (fun j hj hs => ?_)
      · have hs' := lowsOr_f.1 hs
        rw [Below.heap_setCell _ _ _ _ (by show j ≠ w.heap.size + 1; omega), hb j hj hs'.2]
      · have hs' := lowsOr_f.1 hs
        exact lowsOr_f.2 ⟨hs'.1, fun e => hnew j hj hs'.2 (by injection e)⟩
  · have ho1 := h1.only
    refine ⟨hgr.os.trans ho1.os, hgr.tape.trans ho1.tape, hgr.output.trans ho1.output, by simp [World.setCell]; omega, fun j hj hne => ?_⟩
    rw [Below.heap_setCell _ _ _ _ (by show j ≠ w.heap.size + 1; omega), hb j (by omega) (hlow j (by omega))]
    exact ho1.block j hj hne
  · simp [World.setCell]; omega
theorem LstSt.far (h : LstSt w wr g k vL cells xs) (hgr : wr.grownBy w3 vL.ownBlock) : w3.cell? ⟨w.heap.size + 1, 3, none⟩ = some vL ∧ w3.frozen? ⟨w.heap.size + 1, 3, none⟩ = false ∧ Below (w.heap.size + 2) wr w3 := by
  have hsz := h.sz
  have hb : Below (w.heap.size + 2) wr w3 := ⟨hgr.os, hgr.tape, hgr.output, hgr.size, fun j hj => hgr.block j (by omega) (fun e => by have := (World.ownsRow.lt h.own j e.symm).1; omega)⟩
  exact ⟨(hb.cell (p := ⟨w.heap.size + 1, 3, none⟩) (Nat.lt_succ_self _)).trans h.b3, (hb.frozen (p := ⟨w.heap.size + 1, 3, none⟩) (Nat.lt_succ_self _)).trans h.bf, hb⟩
theorem LstSt.read (h : LstSt w wr g k vL cells xs) (hk : (Lit.int .i64 k).wf = true) (hl : xs.length ≤ 140737488355328) : RdI (mask (lows (w.heap.size + 2)) wr) wr.heap.size (.agg #[.int .i64 k, .int .u64 0, .slice none 0 0, vL]) (.mk k 0 [] xs) := by
  rcases h.own.2 with ⟨hv, h0⟩ | ⟨q, cap, cur, hv, hbq, hgq, hnc, hcm, hcs, htake⟩
  · have e : xs = [] := List.eq_nil_of_length_eq_zero h0
    subst e
    rw [hv]
    exact (RdI.mk_data (w := wr) (B := wr.heap.size) (nd := 0) (cd := 0) (A := none) hk (Nat.le_refl _) (by decide) Rd.nil_).bare
  · have hlt := World.ownsRow.lt h.own q (by rw [hv]; rfl)
    have hown := h.own
    rw [hv] at hown ⊢
    refine RdI.mk_list hk hnc hl rfl hlt.2 (ItC.lie (h.its.mask_go (Nat.le_refl _) (fun _ _ _ => rfl) (fun j _ hs => lows_f.2 (lowsOr_f.1 hs).1)) fun j u hj => ?_)
    have hjl : j < xs.length * 4 := by
      rw [← hown.1]
      rcases Nat.lt_or_ge j cells.length with h | h
      · exact h
      · rw [List.getElem?_eq_none h] at hj; cases hj
    rw [Nat.zero_add, mask_cell (lows_f.2 hlt.1), World.ownsRow.cellAt hown j hjl]
    exact hj
end
end Go.Proofs.YtlecbblmaadpiaaGreatDoor
/- The reader of layer 3: arrays of a length. -/
namespace Go.Proofs.YtlecbblmaadpiaaGreatDoor
open Go.RowKit
def prep (xs : List Itm) (r : Except Int (List Itm × Nat × List UInt8)) : Except Int (List Itm × Nat × List UInt8) :=
  match r with
  | .error z => .error z
  | .ok (ys, q, l') => .ok (xs ++ ys, q, l')
def lst (k : Int) (r : Except Int (List Itm × Nat × List UInt8)) : Except Int (Itm × Nat × List UInt8) :=
  match r with
  | .error z => .error z
  | .ok (xs, q, l') => .ok (.mk k 0 [] xs, q, l')
structure ArrSt (w wr : World) (g : Nat) (A : Option Addr) (n c : Nat) (bs : List UInt8) (d D m j i p : Nat) (vL : Value) (cells : List Value) (xs : List Itm) (R : Except Int (List Itm × Nat × List UInt8)) : Prop where
  st : RSt wr g A n c bs i p (d + 1)
  ls : LstSt w wr g 4 vL cells xs
  hj : j ≤ m
  hl : xs.length = j
  hp : p ≤ 4096
  hjp : j ≤ p
  eq : R = prep xs (many (dec D) (m - j) p (bs.drop i))
section
variable {w wr w1 w3 : World} {g n c i p d D m j : Nat} {A : Option Addr} {bs : List UInt8} {vL : Value} {cells : List Value} {xs : List Itm} {R : Except Int (List Itm × Nat × List UInt8)}
theorem many_succ {sub : Nat → List UInt8 → Except Int (Itm × Nat × List UInt8)} (k : Nat) (p : Nat) (l : List UInt8) (hk : 0 < k) : many sub k p l = match sub p l with
    | .error e => .error e
    | .ok (x, p1, l1) => match many sub (k - 1) p1 l1 with
      | .error e => .error e
      | .ok (xs, p2, l2) => .ok (x :: xs, p2, l2) := by
  obtain ⟨q, rfl⟩ : ∃ q, k = q + 1 := ⟨k - 1, by omega⟩
  rw [many, Nat.add_sub_cancel]
  rcases sub p l with z | ⟨x, p1, l1⟩
  · rfl
  · rcases many sub q p1 l1 with z | ⟨ys, p2, l2⟩ <;> rfl
theorem ArrSt.fail (h : ArrSt w wr g A n c bs d D m j i p vL cells xs R) (hj : j < m) {z : Int} (he : dec D p (bs.drop i) = .error z) : R = .error z := by
  rw [h.eq, many_succ _ _ _ (by omega), he]
  rfl
theorem ArrSt.next (h : ArrSt w wr g A n c bs d D m j i p vL cells xs R) (hj : j < m) {x : Itm} {p1 i1 : Nat} {l1 : List UInt8} (he : dec D p (bs.drop i) = .ok (x, p1, l1)) (hl1 : bs.drop i1 = l1) {w4 : World} {vL' : Value} {cells' : List Value}
    (hst : RSt w4 g A n c bs i1 p1 (d + 1)) (hls : LstSt w w4 g 4 vL' cells' (xs ++ [x])) : ArrSt w w4 g A n c bs d D m (j + 1) i1 p1 vL' cells' (xs ++ [x]) R := by
  obtain ⟨-, -, -, -, e5, e6⟩ := dec_ok D p _ x p1 l1 h.hp he
  have hpp := par_pos x
  have hjp := h.hjp
  refine ⟨hst, hls, by omega, by rw [List.length_append, List.length_singleton, h.hl], e6, by omega, ?_⟩
  rw [h.eq, many_succ _ _ _ (by omega), he, hl1, Nat.sub_sub]
  show prep xs (match many (dec D) (m - (j + 1)) p1 l1 with | .error e => .error e | .ok (ys, p2, l2) => .ok (x :: ys, p2, l2)) = _
  rcases many (dec D) (m - (j + 1)) p1 l1 with z | ⟨ys, q, l'⟩
  · rfl
  · simp [prep]
theorem ArrSt.done (h : ArrSt w wr g A n c bs d D m j i p vL cells xs R) (hj : ¬ j < m) : R = .ok (xs, p, bs.drop i) := by
  have := h.hj
  rw [h.eq, show m - j = 0 by omega, many, prep, List.append_nil]
end
end Go.Proofs.YtlecbblmaadpiaaGreatDoor
/- The reader of layer 3: arrays without a length. -/
namespace Go.Proofs.YtlecbblmaadpiaaGreatDoor
open Go.RowKit
structure EndSt (w wr : World) (g : Nat) (A : Option Addr) (n c : Nat) (bs : List UInt8) (d D f i p : Nat) (vL : Value) (cells : List Value) (xs : List Itm) (R : Except Int (List Itm × Nat × List UInt8)) : Prop where
  st : RSt wr g A n c bs i p (d + 1)
  ls : LstSt w wr g 5 vL cells xs
  hf : (bs.drop i).length < f
  hp : p ≤ 4096
  hjp : xs.length ≤ p
  eq : R = prep xs (endl (dec D) f p (bs.drop i))
section
variable {w wr w1 w3 : World} {g n c i p d D f : Nat} {A : Option Addr} {bs : List UInt8} {vL : Value} {cells : List Value} {xs : List Itm} {R : Except Int (List Itm × Nat × List UInt8)}
theorem endl_succ {sub : Nat → List UInt8 → Except Int (Itm × Nat × List UInt8)} (k : Nat) (p : Nat) (x : UInt8) (r : List UInt8) (hk : 0 < k) (hx : x ≠ 0xff) : endl sub k p (x :: r) = match sub p (x :: r) with
    | .error e => .error e
    | .ok (x, p1, l1) => match endl sub (k - 1) p1 l1 with
      | .error e => .error e
      | .ok (xs, p2, l2) => .ok (x :: xs, p2, l2) := by
  obtain ⟨q, rfl⟩ : ∃ q, k = q + 1 := ⟨k - 1, by omega⟩
  rw [endl, if_neg hx, Nat.add_sub_cancel]
  rcases sub p (x :: r) with z | ⟨x, p1, l1⟩
  · rfl
  · rcases endl sub q p1 l1 with z | ⟨ys, p2, l2⟩ <;> rfl
theorem dec_nil (D p : Nat) : dec D p [] = .error 30 := by cases D <;> rfl
theorem EndSt.out (h : EndSt w wr g A n c bs d D f i p vL cells xs R) (he : ¬ i < n) : R = .error 30 ∧ dec D p (bs.drop i) = .error 30 := by
  have hl := h.st.rd.1
  have e : bs.drop i = [] := List.drop_eq_nil_of_le (by omega)
  obtain ⟨q, rfl⟩ : ∃ q, f = q + 1 := ⟨f - 1, by have := h.hf; omega⟩
  rw [h.eq, e]
  exact ⟨rfl, dec_nil _ _⟩
theorem EndSt.fail (h : EndSt w wr g A n c bs d D f i p vL cells xs R) {x : UInt8} (hx : bs.drop i = x :: bs.drop (i + 1)) (hne : x ≠ 0xff) {z : Int} (he : dec D p (bs.drop i) = .error z) : R = .error z := by
  have hf := h.hf
  rw [h.eq, hx, endl_succ _ _ _ _ (by omega) hne, ← hx, he]
  rfl
theorem EndSt.next (h : EndSt w wr g A n c bs d D f i p vL cells xs R) {y : UInt8} (hy : bs.drop i = y :: bs.drop (i + 1)) (hne : y ≠ 0xff) {x : Itm} {p1 i1 : Nat} {l1 : List UInt8} (he : dec D p (bs.drop i) = .ok (x, p1, l1)) (hl1 : bs.drop i1 = l1) {w4 : World} {vL' : Value} {cells' : List Value}
    (hst : RSt w4 g A n c bs i1 p1 (d + 1)) (hls : LstSt w w4 g 5 vL' cells' (xs ++ [x])) : EndSt w w4 g A n c bs d D (f - 1) i1 p1 vL' cells' (xs ++ [x]) R ∧ n - i1 < n - i := by
  obtain ⟨e1, -, -, -, e5, e6⟩ := dec_ok D p _ x p1 l1 h.hp he
  obtain ⟨cc, rr, hw, -⟩ := wr_ne x
  have hpp := par_pos x
  have hjp := h.hjp
  have hf := h.hf
  have hl := h.st.rd.1
  have hlen : l1.length < (bs.drop i).length := by rw [e1, hw]; simp; omega
  have hl1' := hlen
  rw [← hl1, List.length_drop, List.length_drop] at hl1'
  refine ⟨⟨hst, hls, by rw [hl1]; omega, e6, by rw [List.length_append, List.length_singleton]; omega, ?_⟩, by omega⟩
  rw [h.eq, hy, endl_succ _ _ _ _ (by omega) hne, ← hy, he, hl1]
  show prep xs (match endl (dec D) (f - 1) p1 l1 with | .error e => .error e | .ok (ys, p2, l2) => .ok (x :: ys, p2, l2)) = _
  rcases endl (dec D) (f - 1) p1 l1 with z | ⟨ys, q, l'⟩
  · rfl
  · simp [prep]
theorem EndSt.on (h : EndSt w wr g A n c bs d D f i p vL cells xs R) (hb : Below wr.heap.size wr w1) (hg : g < w.heap.size) : EndSt w w1 g A n c bs d D f i p vL cells xs R :=
  ⟨h.st.below hb h.st.lt, h.ls.on (Only.of_below hb) hg, h.hf, h.hp, h.hjp, h.eq⟩
theorem EndSt.done (h : EndSt w wr g A n c bs d D f i p vL cells xs R) (hy : bs.drop i = 0xff :: bs.drop (i + 1)) : R = .ok (xs, p, bs.drop (i + 1)) := by
  obtain ⟨q, rfl⟩ : ∃ q, f = q + 1 := ⟨f - 1, by have := h.hf; omega⟩
  rw [h.eq, hy, endl, if_pos rfl, prep, List.append_nil]
end
end Go.Proofs.YtlecbblmaadpiaaGreatDoor
