/- For code that keeps its state in one block of its own (a reader behind a pointer): worlds with that block rubbed out, and calls that turn that block alone. No program's number stands here but items' (CborI). -/
import Derived.Test.YtbdjkihgcmebgaaGreatDoorRCborI
import Derived.Test.YtbdjkihgcmebgaaGreatDoorRCborO
import Derived.Test.YtbdjkihgcmebgaaGreatDoorRCborQ
namespace Go.Proofs.YtbdjkihgcmebgaaGreatDoor
open Go.RowKit

/-- What reads in w reads in w', if every cell that is there in w is there in w'. -/
theorem Rd.sub {w w' : World} {B B' n : Nat} {A : Option Addr} {l : List UInt8} (h : Rd w B A n l) (hB : B ≤ B') (hk : ∀ (p : Addr) (u : Value), p.block < B → w.cell? p = some u → w'.cell? p = some u) : Rd w' B' A n l :=
  ⟨h.1, fun hn => by
    obtain ⟨b, o, e, hb, hc⟩ := h.2 hn
    exact ⟨b, o, e, by omega, fun i hi => hk ⟨b, o + i, none⟩ _ hb (hc i hi)⟩⟩
mutual
theorem RdI.sub {w w' : World} {B B' : Nat} (hB : B ≤ B') (hk : ∀ (p : Addr) (u : Value), p.block < B → w.cell? p = some u → w'.cell? p = some u) : ∀ {x : Itm} {v : Value}, RdI w B v x → RdI w' B' v x
  | .mk k n d l, v, h => by
    rw [RdI] at h ⊢
    obtain ⟨A, nd, cd, AL, nl, cl, e, h1, h2, h3, h4, h5, h6, h7⟩ := h
    refine ⟨A, nd, cd, AL, nl, cl, e, h1, h2, h3, h4.sub hB hk, h5, h6, fun h0 => ?_⟩
    obtain ⟨b, o, ea, hb, hs⟩ := h7 h0
    exact ⟨b, o, ea, by omega, RdIs.sub hB hk hb hs⟩
theorem RdIs.sub {w w' : World} {B B' : Nat} (hB : B ≤ B') (hk : ∀ (p : Addr) (u : Value), p.block < B → w.cell? p = some u → w'.cell? p = some u) {b : Nat} (hb : b < B) : ∀ {l : List Itm} {o : Nat}, RdIs w B b o l → RdIs w' B' b o l
  | [], o, _ => by rw [RdIs]; trivial
  | x :: r, o, h => by
    rw [RdIs] at h ⊢
    obtain ⟨⟨c0, c1, c2, c3, g0, g1, g2, g3, gx⟩, hr⟩ := h
    exact ⟨⟨c0, c1, c2, c3, hk ⟨b, o, none⟩ _ hb g0, hk ⟨b, o + 1, none⟩ _ hb g1, hk ⟨b, o + 2, none⟩ _ hb g2, hk ⟨b, o + 3, none⟩ _ hb g3, RdI.sub hB hk gx⟩, RdIs.sub hB hk hb hr⟩
end

/-- The world with block g rubbed out. -/
def rub (g : Nat) (w : World) : World := { w with heap := w.heap.modify g fun _ => .cells #[] 0 }
theorem rub_heap {g k : Nat} {w : World} (h : k ≠ g) : (rub g w).heap[k]? = w.heap[k]? := by
  unfold rub
  simp only [Array.getElem?_modify]
  rw [if_neg (fun e => h e.symm)]
theorem rub_size {g : Nat} {w : World} : (rub g w).heap.size = w.heap.size := by simp [rub]
theorem rub_cell {g : Nat} {w : World} {p : Addr} (h : p.block ≠ g) : (rub g w).cell? p = w.cell? p := World.cell?_of_block (w := w) (rub_heap h)
theorem rub_none {g : Nat} {w : World} {p : Addr} {u : Value} (h : (rub g w).cell? p = some u) : p.block ≠ g := by
  intro e
  have hlt := World.block_lt_of_cell? (rub g w) p h
  have hb : (rub g w).heap[g]? = some (.cells #[] 0) := by
    unfold rub
    simp only [Array.getElem?_modify]
    rw [rub_size, e] at hlt
    simp [hlt]
  unfold World.cell? at h
  rw [e, hb] at h
  simp at h
theorem rub_sub {g : Nat} {w : World} {p : Addr} {u : Value} (h : (rub g w).cell? p = some u) : w.cell? p = some u := by rw [← rub_cell (rub_none h)]; exact h

/-- A call turned block g alone, and made new ones. -/
structure Only (g : Nat) (w w' : World) : Prop where
  os : w'.os = w.os
  tape : w'.tape = w.tape
  output : w'.output = w.output
  size : w.heap.size ≤ w'.heap.size
  block : ∀ k, k < w.heap.size → k ≠ g → w'.heap[k]? = w.heap[k]?
section
variable {g : Nat} {a b c : World}
theorem Only.refl (g : Nat) (w : World) : Only g w w := ⟨rfl, rfl, rfl, Nat.le_refl _, fun _ _ _ => rfl⟩
theorem Only.trans (h : Only g a b) (k : Only g b c) : Only g a c :=
  ⟨k.os.trans h.os, k.tape.trans h.tape, k.output.trans h.output, Nat.le_trans h.size k.size, fun i hi hg => (k.block i (Nat.lt_of_lt_of_le hi h.size) hg).trans (h.block i hi hg)⟩
theorem Only.of_below (h : Below a.heap.size a b) : Only g a b := ⟨h.os, h.tape, h.output, h.size, fun k hk _ => h.block k hk⟩
theorem Only.below (h : Only g a b) (hg : g ≤ a.heap.size) : Below g a b := ⟨h.os, h.tape, h.output, h.size, fun k hk => h.block k (by omega) (by omega)⟩
theorem Only.alloc (h : Only g a b) (o : Obj) : Only g a (b.alloc o) := h.trans (Only.of_below ((Below.refl _ _).alloc (Nat.le_refl _) o))
theorem Only.drew (h : Only g a b) : Only g a b.drew := ⟨h.os, h.tape, h.output, h.size, h.block⟩
theorem Only.setCell (h : Only g a b) {p : Addr} (hp : p.block = g) (u : Value) : Only g a (b.setCell p u) :=
  h.trans ⟨rfl, rfl, rfl, by simp [World.setCell], fun k _ hk => Below.heap_setCell _ _ _ _ (by omega)⟩
theorem Only.cell (h : Only g a b) {p : Addr} (hp : p.block < a.heap.size) (hg : p.block ≠ g) : b.cell? p = a.cell? p := World.cell?_of_block (w := a) (h.block p.block hp hg)
/-- What reads beside block g goes on to. -/
theorem Only.rub_cell (h : Only g a b) {p : Addr} {u : Value} (hp : p.block < a.heap.size) (hc : (rub g a).cell? p = some u) : (rub g b).cell? p = some u := by
  have hg := rub_none hc
  rw [Go.Proofs.YtbdjkihgcmebgaaGreatDoor.rub_cell hg, h.cell hp hg]
  exact rub_sub hc
theorem RdI.only {v : Value} {x : Itm} (hr : RdI (rub g a) a.heap.size v x) (h : Only g a b) : RdI (rub g b) b.heap.size v x := hr.sub h.size fun _ _ hp hc => h.rub_cell hp hc
theorem RdIs.only {bl o : Nat} {l : List Itm} (hr : RdIs (rub g a) a.heap.size bl o l) (hb : bl < a.heap.size) (h : Only g a b) : RdIs (rub g b) b.heap.size bl o l := hr.sub h.size (fun _ _ hp hc => h.rub_cell hp hc) hb
theorem Rd.only {A : Option Addr} {n : Nat} {l : List UInt8} (hr : Rd (rub g a) a.heap.size A n l) (h : Only g a b) : Rd (rub g b) b.heap.size A n l := hr.sub h.size fun _ _ hp hc => h.rub_cell hp hc
theorem RdI.unrub {v : Value} {x : Itm} {B : Nat} (hr : RdI (rub g a) B v x) : RdI a B v x := hr.sub (Nat.le_refl _) fun _ _ _ hc => rub_sub hc
theorem Rd.unrub {A : Option Addr} {n B : Nat} {l : List UInt8} (hr : Rd (rub g a) B A n l) : Rd a B A n l := hr.sub (Nat.le_refl _) fun _ _ _ hc => rub_sub hc
/-- What lay below g reads beside it. -/
theorem Rd.rub {A : Option Addr} {n B : Nat} {l : List UInt8} (hr : Rd a B A n l) (hB : B ≤ g) : Rd (Go.Proofs.YtbdjkihgcmebgaaGreatDoor.rub g a) B A n l := hr.sub (Nat.le_refl _) fun p _ hp hc => by
  rw [Go.Proofs.YtbdjkihgcmebgaaGreatDoor.rub_cell (by omega)]; exact hc
end
end Go.Proofs.YtbdjkihgcmebgaaGreatDoor
/- Worlds with some blocks rubbed out, and lists of items in a row of cells. No program's number stands here but items' (CborI). -/
namespace Go.Proofs.YtbdjkihgcmebgaaGreatDoor
open Go.RowKit

/-- The world with the blocks of S rubbed out. -/
def mask (S : Nat → Bool) (w : World) : World := { w with heap := w.heap.mapIdx fun i o => if S i then .cells #[] 0 else o }
theorem mask_size {S : Nat → Bool} {w : World} : (mask S w).heap.size = w.heap.size := by simp [mask]
theorem mask_heap {S : Nat → Bool} {w : World} {k : Nat} (h : S k = false) : (mask S w).heap[k]? = w.heap[k]? := by
  unfold mask
  simp only [Array.getElem?_mapIdx, h]
  cases w.heap[k]? <;> simp
theorem mask_cell {S : Nat → Bool} {w : World} {p : Addr} (h : S p.block = false) : (mask S w).cell? p = w.cell? p := World.cell?_of_block (w := w) (mask_heap h)
theorem mask_out {S : Nat → Bool} {w : World} {p : Addr} {u : Value} (h : (mask S w).cell? p = some u) : S p.block = false := by
  rcases hs : S p.block with _ | _
  · rfl
  · exfalso
    have hlt := World.block_lt_of_cell? (mask S w) p h
    rw [mask_size] at hlt
    have hb : (mask S w).heap[p.block]? = some (.cells #[] 0) := by
      unfold mask
      simp only [Array.getElem?_mapIdx]
      simp [hlt, hs]
    unfold World.cell? at h
    rw [hb] at h
    simp at h
theorem mask_sub {S : Nat → Bool} {w : World} {p : Addr} {u : Value} (h : (mask S w).cell? p = some u) : w.cell? p = some u := by rw [← mask_cell (mask_out h)]; exact h
/-- What reads with the blocks of S rubbed out goes on to, in a world where all others stand, with those of S' rubbed out, if these are not among them. -/
theorem mask_go {S S' : Nat → Bool} {w w' : World} {p : Addr} {u : Value} (h : (mask S w).cell? p = some u) (hk : ∀ k, k < w.heap.size → S k = false → w'.heap[k]? = w.heap[k]?) (hs : ∀ k, k < w.heap.size → S k = false → S' k = false) : (mask S' w').cell? p = some u := by
  have ho := mask_out h
  have hc := mask_sub h
  have hlt := World.block_lt_of_cell? w p hc
  rw [mask_cell (hs _ hlt ho), World.cell?_of_block (w := w) (hk _ hlt ho)]
  exact hc
theorem RdI.mask_go {S S' : Nat → Bool} {w w' : World} {B B' : Nat} {v : Value} {x : Itm} (h : RdI (mask S w) B v x) (hB : B ≤ B') (hk : ∀ k, k < w.heap.size → S k = false → w'.heap[k]? = w.heap[k]?) (hs : ∀ k, k < w.heap.size → S k = false → S' k = false) : RdI (mask S' w') B' v x :=
  h.sub hB fun _ _ _ hc => Go.Proofs.YtbdjkihgcmebgaaGreatDoor.mask_go hc hk hs
theorem Rd.mask_go {S S' : Nat → Bool} {w w' : World} {B B' n : Nat} {A : Option Addr} {l : List UInt8} (h : Rd (mask S w) B A n l) (hB : B ≤ B') (hk : ∀ k, k < w.heap.size → S k = false → w'.heap[k]? = w.heap[k]?) (hs : ∀ k, k < w.heap.size → S k = false → S' k = false) : Rd (mask S' w') B' A n l :=
  h.sub hB fun _ _ _ hc => Go.Proofs.YtbdjkihgcmebgaaGreatDoor.mask_go hc hk hs
theorem RdI.unmask {S : Nat → Bool} {w : World} {B : Nat} {v : Value} {x : Itm} (h : RdI (mask S w) B v x) : RdI w B v x := h.sub (Nat.le_refl _) fun _ _ _ hc => mask_sub hc

/-- Below lo. -/
def lows (lo : Nat) (k : Nat) : Bool := decide (k < lo)
/-- Below lo, or v's own block. -/
def lowsOr (lo : Nat) (v : Value) (k : Nat) : Bool := decide (k < lo) || decide (v.ownBlock = some k)
theorem lows_f {lo k : Nat} : lows lo k = false ↔ lo ≤ k := by unfold lows; simp
theorem lowsOr_f {lo k : Nat} {v : Value} : lowsOr lo v k = false ↔ lo ≤ k ∧ v.ownBlock ≠ some k := by unfold lowsOr; simp

/-- Cells, four an item. -/
def ItC (w : World) (B : Nat) : List Value → List Itm → Prop
  | [], [] => True
  | c0 :: c1 :: c2 :: c3 :: cs, x :: xs => RdI w B (.agg #[c0, c1, c2, c3]) x ∧ ItC w B cs xs
  | _, _ => False
theorem ItC.sub {w w' : World} {B B' : Nat} (hB : B ≤ B') (hk : ∀ (p : Addr) (u : Value), p.block < B → w.cell? p = some u → w'.cell? p = some u) : ∀ {cs : List Value} {xs : List Itm}, ItC w B cs xs → ItC w' B' cs xs
  | [], [], _ => trivial
  | c0 :: c1 :: c2 :: c3 :: cs, x :: xs, h => ⟨h.1.sub hB hk, ItC.sub hB hk h.2⟩
  | [], _ :: _, h => h.elim
  | [_], _, h => by simp [ItC] at h
  | [_, _], _, h => by simp [ItC] at h
  | [_, _, _], _, h => by simp [ItC] at h
  | _ :: _ :: _ :: _ :: _, [], h => h.elim
theorem ItC.mask_go {S S' : Nat → Bool} {w w' : World} {B B' : Nat} {cs : List Value} {xs : List Itm} (h : ItC (mask S w) B cs xs) (hB : B ≤ B') (hk : ∀ k, k < w.heap.size → S k = false → w'.heap[k]? = w.heap[k]?) (hs : ∀ k, k < w.heap.size → S k = false → S' k = false) : ItC (mask S' w') B' cs xs :=
  h.sub hB fun _ _ _ hc => Go.Proofs.YtbdjkihgcmebgaaGreatDoor.mask_go hc hk hs
theorem ItC.snoc {w : World} {B : Nat} {c0 c1 c2 c3 : Value} {x : Itm} (hx : RdI w B (.agg #[c0, c1, c2, c3]) x) : ∀ {cs : List Value} {xs : List Itm}, ItC w B cs xs → ItC w B (cs ++ [c0, c1, c2, c3]) (xs ++ [x])
  | [], [], _ => ⟨hx, trivial⟩
  | c0 :: c1 :: c2 :: c3 :: cs, x :: xs, h => ⟨h.1, ItC.snoc hx h.2⟩
  | [], _ :: _, h => h.elim
  | [_], _, h => by simp [ItC] at h
  | [_, _], _, h => by simp [ItC] at h
  | [_, _, _], _, h => by simp [ItC] at h
  | _ :: _ :: _ :: _ :: _, [], h => h.elim
theorem ItC.len {w : World} {B : Nat} : ∀ {cs : List Value} {xs : List Itm}, ItC w B cs xs → cs.length = xs.length * 4
  | [], [], _ => rfl
  | c0 :: c1 :: c2 :: c3 :: cs, x :: xs, h => by have := ItC.len h.2; simp; omega
  | [], _ :: _, h => h.elim
  | [_], _, h => by simp [ItC] at h
  | [_, _], _, h => by simp [ItC] at h
  | [_, _, _], _, h => by simp [ItC] at h
  | _ :: _ :: _ :: _ :: _, [], h => h.elim
/-- Where they lie. -/
theorem ItC.lie {w : World} {B b : Nat} : ∀ {cs : List Value} {xs : List Itm} {o : Nat}, ItC w B cs xs → (∀ j u, cs[j]? = some u → w.cell? ⟨b, o + j, none⟩ = some u) → RdIs w B b o xs
  | [], [], _, _, _ => by rw [RdIs]; trivial
  | c0 :: c1 :: c2 :: c3 :: cs, x :: xs, o, h, hc => by
    rw [RdIs]
    refine ⟨⟨c0, c1, c2, c3, hc 0 c0 rfl, hc 1 c1 rfl, hc 2 c2 rfl, hc 3 c3 rfl, h.1⟩, ItC.lie h.2 fun j u hj => ?_⟩
    rw [show o + 4 + j = o + (j + 4) by omega]
    exact hc (j + 4) u (by simpa using hj)
  | [], _ :: _, _, h, _ => h.elim
  | [_], _, _, h, _ => by simp [ItC] at h
  | [_, _], _, _, h, _ => by simp [ItC] at h
  | [_, _, _], _, _, h, _ => by simp [ItC] at h
  | _ :: _ :: _ :: _ :: _, [], _, h, _ => h.elim
end Go.Proofs.YtbdjkihgcmebgaaGreatDoor
/- The plain mathematics of layer 3: an item gone through by a stack of lists. No program's number stands here. -/
namespace Go.Proofs.YtbdjkihgcmebgaaGreatDoor

def rall : List (List Itm) → Bool | [] => true | l :: r => rights l && rall r
def sump : List (List Itm) → Nat | [] => 0 | l :: r => pars l + sump r
/-- How deep what lies in a stack's lists is; i: the first list's level. -/
def lev : Nat → List (List Itm) → Nat | _, [] => 0 | i, l :: r => max (i + deps l) (lev (i + 1) r)
theorem rall_snoc : ∀ (a : List (List Itm)) (t : List Itm), rall (a ++ [t]) = (rall a && rights t)
  | [], t => by simp [rall]
  | l :: r, t => by rw [List.cons_append, rall, rall, rall_snoc r t, Bool.and_assoc]
theorem sump_snoc : ∀ (a : List (List Itm)) (t : List Itm), sump (a ++ [t]) = sump a + pars t
  | [], t => by simp [sump]
  | l :: r, t => by rw [List.cons_append, sump, sump, sump_snoc r t]; omega
theorem lev_snoc : ∀ (a : List (List Itm)) (t : List Itm) (i : Nat), lev i (a ++ [t]) = max (lev i a) (i + a.length + deps t)
  | [], t, i => by simp [lev]
  | l :: r, t, i => by rw [List.cons_append, lev, lev, lev_snoc r t, List.length_cons]; omega

/-- What is left of the item x, where p items were taken and the greatest level was D. -/
structure ChkSt (x : Itm) (st : List (List Itm)) (p D : Nat) : Prop where
  rt : right x = rall st
  pr : par x = p + sump st
  dp : dep x = max D (lev 0 st)
  ln : st.length ≤ D + 1
  lp : st.length ≤ p + 1
theorem ChkSt.start (x : Itm) : ChkSt x [[x]] 0 0 := by
  refine ⟨?_, ?_, ?_, ?_, ?_⟩
  · simp [rall, rights]
  · simp [sump, pars]
  · simp [lev, deps]
  · simp
  · simp
theorem ChkSt.pop {x : Itm} {a : List (List Itm)} {p D : Nat} (h : ChkSt x (a ++ [[]]) p D) : ChkSt x a p D := by
  have h1 := h.rt
  have h2 := h.pr
  have h3 := h.dp
  have h4 := h.ln
  have h5 := h.lp
  rw [rall_snoc, rights, Bool.and_true] at h1
  rw [sump_snoc, pars] at h2
  rw [lev_snoc, deps] at h3
  rw [List.length_append, List.length_singleton] at h4 h5
  exact ⟨h1, by omega, by omega, by omega, by omega⟩
theorem ChkSt.bad {x : Itm} {a : List (List Itm)} {p D : Nat} {k : Int} {n : Nat} {d : List UInt8} {l r : List Itm} (h : ChkSt x (a ++ [.mk k n d l :: r]) p D) (ho : own k n d l = false) : right x = false := by
  rw [h.rt, rall_snoc, rights, right, ho]
  simp
theorem own_flat {k : Int} {n : Nat} {d : List UInt8} {l : List Itm} (h : own k n d l = true) (hk : ¬ (k = 4 ∨ k = 5)) : l = [] := by
  unfold own at h
  rw [if_neg hk] at h
  split at h
  · simp at h; exact h.2
  split at h
  · simp at h; exact h.2
  split at h
  · simp at h; exact h.2.1
  · cases h
theorem ChkSt.flat {x : Itm} {a : List (List Itm)} {p D : Nat} {k : Int} {n : Nat} {d : List UInt8} {l r : List Itm} (h : ChkSt x (a ++ [.mk k n d l :: r]) p D) (ho : own k n d l = true) (hk : ¬ (k = 4 ∨ k = 5)) : ChkSt x (a ++ [r]) (p + 1) D := by
  have hl := own_flat ho hk
  subst hl
  have h1 := h.rt
  have h2 := h.pr
  have h3 := h.dp
  have h4 := h.ln
  have h5 := h.lp
  rw [rall_snoc, rights, right, ho, rights, Bool.and_self, Bool.true_and] at h1
  rw [sump_snoc, pars, par, pars] at h2
  rw [lev_snoc, deps, dep, if_neg hk, deps] at h3
  rw [List.length_append, List.length_singleton] at h4 h5
  refine ⟨?_, ?_, ?_, ?_, ?_⟩
  · rw [h1, rall_snoc]
  · rw [sump_snoc]; omega
  · rw [lev_snoc]; omega
  · rw [List.length_append, List.length_singleton]; omega
  · rw [List.length_append, List.length_singleton]; omega
theorem ChkSt.arr {x : Itm} {a : List (List Itm)} {p D : Nat} {k : Int} {n : Nat} {d : List UInt8} {l r : List Itm} (h : ChkSt x (a ++ [.mk k n d l :: r]) p D) (ho : own k n d l = true) (hk : k = 4 ∨ k = 5) : ChkSt x (a ++ [r] ++ [l]) (p + 1) (max D (a.length + 1)) := by
  have h1 := h.rt
  have h2 := h.pr
  have h3 := h.dp
  have h4 := h.ln
  have h5 := h.lp
  rw [rall_snoc, rights, right, ho, Bool.true_and] at h1
  rw [sump_snoc, pars, par] at h2
  rw [lev_snoc, deps, dep, if_pos hk] at h3
  rw [List.length_append, List.length_singleton] at h4 h5
  refine ⟨?_, ?_, ?_, ?_, ?_⟩
  · rw [h1, rall_snoc, rall_snoc]
    cases rall a <;> cases rights r <;> cases rights l <;> rfl
  · rw [sump_snoc, sump_snoc]; omega
  · rw [lev_snoc, lev_snoc, List.length_append, List.length_singleton]; omega
  · rw [List.length_append, List.length_append, List.length_singleton, List.length_singleton]; omega
  · rw [List.length_append, List.length_append, List.length_singleton, List.length_singleton]; omega
theorem ChkSt.left {x : Itm} {a : List (List Itm)} {p D : Nat} {y : Itm} {r : List Itm} (h : ChkSt x (a ++ [y :: r]) p D) : p < par x ∧ D ≤ dep x ∧ a.length ≤ p := by
  have h2 := h.pr
  have h3 := h.dp
  have h5 := h.lp
  rw [sump_snoc, pars] at h2
  rw [List.length_append, List.length_singleton] at h5
  cases y with
  | mk k n d l =>
    rw [par] at h2
    omega
theorem ChkSt.done {x : Itm} {p D : Nat} (h : ChkSt x [] p D) : right x = true ∧ par x = p ∧ dep x = D := by
  have h1 := h.rt
  have h2 := h.pr
  have h3 := h.dp
  rw [rall] at h1
  rw [sump] at h2
  rw [lev] at h3
  exact ⟨h1, by omega, by omega⟩
end Go.Proofs.YtbdjkihgcmebgaaGreatDoor
