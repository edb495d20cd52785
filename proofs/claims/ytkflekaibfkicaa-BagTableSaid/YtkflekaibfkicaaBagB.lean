/- Worlds in which rows of cells stay, whatever channels and maps do; what a queue's channel holds. No program's number stands here. -/
import Derived.RowKit
import Derived.Below
import Derived.Laws.AppendOwn
import Derived.Maps.RangeWalk
import Derived.Conc.LoneSelect
import Derived.Conc.LoneSelectN
namespace Go.Proofs.Ytkflekaibfkicaa
open Go.RowKit Go.Conc

/-- Is it a map (t), or a channel (else)? -/
def Knd : Bool → Obj → Prop
  | true, o => ∃ es c, o = Obj.map es c
  | false, o => ∃ cap b cl s r tm, o = Obj.chan cap b cl s r tm
/-- Nothing below B has changed; of what lies from B on, all rows of cells but block g's stand as they were, and so do all maps (t), or all channels (else). -/
structure Kp (t : Bool) (B g : Nat) (w w' : World) : Prop where
  below : Below B w w'
  block : ∀ k cs t f, k ≠ g → w.heap[k]? = some (.cells cs t f) → w'.heap[k]? = some (.cells cs t f)
  knd : ∀ (k : Nat) (o : Obj), w.heap[k]? = some o → Knd t o → w'.heap[k]? = some o
section
variable {t : Bool} {B g c : Nat} {w w' a b d : World}
theorem Kp.refl (B g : Nat) (w : World) : Kp t B g w w := ⟨Below.refl _ _, fun _ _ _ _ _ h => h, fun _ _ h _ => h⟩
theorem Kp.trans (h : Kp t B g a b) (k : Kp t B g b d) : Kp t B g a d := ⟨h.below.trans k.below, fun i cs t f hg hc => k.block i cs t f hg (h.block i cs t f hg hc), fun i o hc ho => k.knd i o (h.knd i o hc ho) ho⟩
theorem Kp.size (h : Kp t B g w w') : w.heap.size ≤ w'.heap.size := h.below.size
theorem Kp.of_below (hB : B ≤ w.heap.size) (h : Below w.heap.size w w') : Kp t B g w w' :=
  ⟨h.mono hB, fun k cs t f _ hc => by rw [h.block k (Array.getElem?_eq_some_iff.1 hc).1]; exact hc, fun k o hc _ => by rw [h.block k (Array.getElem?_eq_some_iff.1 hc).1]; exact hc⟩
theorem Kp.alloc (hB : B ≤ w.heap.size) (o : Obj) : Kp t B g w (w.alloc o) := Kp.of_below hB ((Below.refl _ _).alloc (Nat.le_refl _) _)
theorem Kp.drew : Kp t B g w w.drew := ⟨⟨rfl, rfl, rfl, Nat.le_refl _, fun _ _ => rfl⟩, fun _ _ _ _ _ h => h, fun _ _ h _ => h⟩
theorem Kp.mono {B' : Nat} (h : Kp t B g w w') (hB : B' ≤ B) : Kp t B' g w w' := ⟨h.below.mono hB, h.block, h.knd⟩
theorem heap_setChan_ne (w : World) {c k : Nat} (cap : Nat) (buf : Array Value) (cl : Bool) (s r : Nat) (tm : Bool) (h : c ≠ k) : (w.setChan c cap buf cl s r tm).heap[k]? = w.heap[k]? := by
  simp only [World.setChan]; rw [Array.getElem?_setIfInBounds_ne h]
theorem Kp.setChan (hB : B ≤ c) {cap s r : Nat} {buf : Array Value} {cl tm : Bool} (hc : w.heap[c]? = some (.chan cap buf cl s r tm)) (cap' : Nat) (buf' : Array Value) (cl' : Bool) (s' r' : Nat) (tm' : Bool) : Kp true B g w (w.setChan c cap' buf' cl' s' r' tm') :=
  ⟨below_setChan (Below.refl _ _) hB _ _ _ _ _ _, fun k cs t f _ hk => by
    rw [heap_setChan_ne w _ _ _ _ _ _ (fun e => by subst e; rw [hc] at hk; cases hk)]; exact hk, fun k o hk ho => by
    obtain ⟨es, c, rfl⟩ := ho
    rw [heap_setChan_ne w _ _ _ _ _ _ (fun e => by subst e; rw [hc] at hk; cases hk)]; exact hk⟩
theorem cell_cells {p : Addr} {v : Value} (hc : w.cell? p = some v) : ∃ cs t f, w.heap[p.block]? = some (.cells cs t f) := by
  unfold World.cell? at hc
  split at hc
  · rename_i cs t f hb
    exact ⟨cs, t, f, hb⟩
  · cases hc
theorem Kp.setCell {v : Value} (hB : B ≤ g) (j : Nat) (u : Value) (hc : w.cell? ⟨g, j, none⟩ = some v) : Kp t B g w (w.setCell ⟨g, j, none⟩ u) :=
  ⟨(Below.refl _ _).setCell hB _, fun k cs t f hk hc => by rw [Below.heap_setCell _ _ _ _ hk]; exact hc, fun k o hk ho => by
    obtain ⟨cs, t', f, hb⟩ := cell_cells hc
    rw [Below.heap_setCell _ _ _ _ (fun e => by
      rw [e, hb] at hk
      injection hk with hk
      subst hk
      cases t
      · obtain ⟨_, _, _, _, _, _, h⟩ := ho; cases h
      · obtain ⟨_, _, h⟩ := ho; cases h)]
    exact hk⟩
theorem Kp.turned {m : Nat} (hB : B ≤ m) (h : w.mapTurned w' m) : Kp false B g w w' := by
  have hg := h.grown
  obtain ⟨es, clock, es', clock', hb, rfl⟩ := h
  refine ⟨⟨hg.os, hg.tape, hg.output, hg.size, fun k hk => ?_⟩, fun k cs t f _ hc => ?_, fun k o hc ho => ?_⟩
  · rcases Nat.lt_or_ge k w.heap.size with h1 | h1
    · exact hg.block k h1 (fun e => by injection e with e; omega)
    · rw [Array.getElem?_eq_none h1, Array.getElem?_eq_none (by have := hg.size; simp [ChangeMaps.setBlock]; omega)]
  · rw [hg.block k (Array.getElem?_eq_some_iff.1 hc).1 (fun e => by injection e with e; subst e; rw [hb] at hc; cases hc)]
    exact hc
  · obtain ⟨cap, b, cl, s, r, tm, rfl⟩ := ho
    rw [hg.block k (Array.getElem?_eq_some_iff.1 hc).1 (fun e => by injection e with e; subst e; rw [hb] at hc; cases hc)]
    exact hc
theorem Kp.cell (h : Kp t B g w w') {p : Addr} (hp : p.block ≠ g) {v : Value} (hc : w.cell? p = some v) : w'.cell? p = some v := by
  unfold World.cell? at hc ⊢
  split at hc
  · rename_i cs t f hb
    rw [h.block _ _ _ _ hp hb]
    exact hc
  · cases hc
theorem Kp.frozen (h : Kp t B g w w') {p : Addr} (hp : p.block ≠ g) {v : Value} (hc : w.cell? p = some v) : w'.frozen? p = w.frozen? p := by
  unfold World.cell? at hc
  unfold World.frozen?
  split at hc
  · rename_i cs t f hb
    rw [h.block _ _ _ _ hp hb, hb]
  · cases hc
end

/-- A pointer to a row of cells x, in neither block g nor r. -/
def El (w : World) (g r : Nat) (v : Value) (x : List Value) : Prop := ∃ b, v = .pointer (some ⟨b, 0, none⟩) ∧ (b ≠ g ∧ b ≠ r) ∧ ∀ j u, x[j]? = some u → w.cell? ⟨b, j, none⟩ = some u
def Els (w : World) (g r : Nat) : List Value → List (List Value) → Prop
  | [], [] => True
  | v :: vs, x :: xs => El w g r v x ∧ Els w g r vs xs
  | _, _ => False
section
variable {t : Bool} {B g r : Nat} {w w' : World} {v : Value} {x : List Value}
theorem El.kp (h : El w g r v x) (hk : Kp t B g w w') : El w' g r v x := by
  obtain ⟨b, rfl, hne, hc⟩ := h
  exact ⟨b, rfl, hne, fun j u hj => hk.cell (p := ⟨b, j, none⟩) hne.1 (hc j u hj)⟩
theorem Els.kp (hk : Kp t B g w w') : ∀ {vs : List Value} {xs : List (List Value)}, Els w g r vs xs → Els w' g r vs xs
  | [], [], _ => trivial
  | _ :: _, _ :: _, h => ⟨h.1.kp hk, Els.kp hk h.2⟩
  | [], _ :: _, h => h.elim
  | _ :: _, [], h => h.elim
theorem Els.kpr {t : Bool} {B : Nat} (hk : Kp t B r w w') : ∀ {vs : List Value} {xs : List (List Value)}, Els w g r vs xs → Els w' g r vs xs
  | [], [], _ => trivial
  | _ :: _, _ :: _, h => by
    obtain ⟨⟨b, rfl, hne, hc⟩, h2⟩ := h
    exact ⟨⟨b, rfl, hne, fun j u hj => hk.cell (p := ⟨b, j, none⟩) hne.2 (hc j u hj)⟩, Els.kpr hk h2⟩
  | [], _ :: _, h => h.elim
  | _ :: _, [], h => h.elim
/-- Of things that have a first cell: a block that came later is none of theirs. -/
theorem Els.fresh {r' : Nat} (hb : Below w.heap.size w w') (hr : w.heap.size ≤ r') : ∀ {vs : List Value} {xs : List (List Value)}, Els w g r vs xs → (∀ x ∈ xs, x ≠ []) → Els w' g r' vs xs
  | [], [], _, _ => trivial
  | _ :: _, x :: _, h, hx => by
    obtain ⟨⟨b, rfl, hne, hc⟩, h2⟩ := h
    have hlt : b < w.heap.size := by
      rcases x with _ | ⟨u, x⟩
      · exact absurd rfl (hx [] (by simp))
      · exact World.block_lt_of_cell? w ⟨b, 0, none⟩ (hc 0 u rfl)
    exact ⟨⟨b, rfl, ⟨hne.1, by omega⟩, fun j u hj => (World.cell?_of_block (w := w) (a := ⟨b, j, none⟩) (hb.block b hlt)).trans (hc j u hj)⟩, Els.fresh hb hr h2 fun y hy => hx y (by simp [hy])⟩
  | [], _ :: _, h, _ => h.elim
  | _ :: _, [], h, _ => h.elim
theorem Els.len : ∀ {vs : List Value} {xs : List (List Value)}, Els w g r vs xs → vs.length = xs.length
  | [], [], _ => rfl
  | _ :: vs, _ :: xs, h => by rw [List.length_cons, List.length_cons, Els.len h.2]
  | [], _ :: _, h => h.elim
  | _ :: _, [], h => h.elim
theorem Els.snoc : ∀ {vs : List Value} {xs : List (List Value)}, Els w g r vs xs → El w g r v x → Els w g r (vs ++ [v]) (xs ++ [x])
  | [], [], _, h => ⟨h, trivial⟩
  | _ :: _, _ :: _, h, hx => ⟨h.1, Els.snoc h.2 hx⟩
  | [], _ :: _, h, _ => h.elim
  | _ :: _, [], h, _ => h.elim
theorem Els.get : ∀ {vs : List Value} {xs : List (List Value)}, Els w g r vs xs → ∀ {i : Nat} {v : Value} {x : List Value}, vs[i]? = some v → xs[i]? = some x → El w g r v x
  | [], _, _, i, v, x, h, _ => by simp at h
  | _ :: _, [], h, _, _, _, _, _ => h.elim
  | v0 :: vs, x0 :: xs, h, 0, v, x, h1, h2 => by simp at h1 h2; subst h1 h2; exact h.1
  | v0 :: vs, x0 :: xs, h, i + 1, v, x, h1, h2 => Els.get h.2 (by simpa using h1) (by simpa using h2)
end

/-- The channel v holds the things l: it is nil, and l empty, or a block from B on. -/
def Chn (B : Nat) (w : World) (g q : Nat) (v : Value) (l : List (List Value)) : Prop :=
  (v = .chan none ∧ l = []) ∨ ∃ c cap vs, v = .chan (some c) ∧ B ≤ c ∧ (∃ s r, w.heap[c]? = some (.chan cap vs.toArray false s r false)) ∧ vs.length ≤ cap ∧ cap ≤ 4000 ∧ Els w g q vs l
/-- Block g is a queue that holds the things l. -/
structure QSt (B : Nat) (w : World) (g q : Nat) (l : List (List Value)) : Prop where
  le : B ≤ g
  fr : w.frozen? ⟨g, 0, none⟩ = false
  st : ∃ v, w.cell? ⟨g, 0, none⟩ = some v ∧ Chn B w g q v l
theorem QSt.lt {B g q : Nat} {w : World} {l : List (List Value)} (h : QSt B w g q l) : g < w.heap.size := by
  obtain ⟨v, hc, _⟩ := h.st
  exact World.block_lt_of_cell? w ⟨g, 0, none⟩ hc
/-- A channel stays while new memory is made and other rows are written. -/
theorem Chn.keep {B g q : Nat} {w w' : World} {v : Value} {l : List (List Value)} (h : Chn B w g q v l) {t : Bool} {B' : Nat} (hk : Kp t B' g w w') (hc : ∀ (c cap : Nat) (buf : Array Value) (s r : Nat), w.heap[c]? = some (Obj.chan cap buf false s r false) → w'.heap[c]? = some (Obj.chan cap buf false s r false)) : Chn B w' g q v l := by
  rcases h with ⟨h1, h2⟩ | ⟨c, cap, vs, h1, h2, ⟨s, r, h3⟩, h4, h5, h6⟩
  · exact .inl ⟨h1, h2⟩
  · exact .inr ⟨c, cap, vs, h1, h2, ⟨s, r, hc _ _ _ _ _ h3⟩, h4, h5, h6.kp hk⟩
theorem QSt.below {B g q : Nat} {w w' : World} {l : List (List Value)} (h : QSt B w g q l) (hb : Below w.heap.size w w') : QSt B w' g q l := by
  have hg := h.lt
  obtain ⟨v, hc, hs⟩ := h.st
  have e := hb.block g hg
  exact ⟨h.le, by rw [World.frozen?_of_block (w := w) e]; exact h.fr, v, by rw [World.cell?_of_block (w := w) e]; exact hc, Chn.keep hs (t := true) (B' := 0) (Kp.of_below (Nat.zero_le _) hb) fun c cap buf s r h1 => by
    rw [hb.block c (Array.getElem?_eq_some_iff.1 h1).1]; exact h1⟩
theorem QSt.drew {B g q : Nat} {w : World} {l : List (List Value)} (h : QSt B w g q l) : QSt B w.drew g q l := h.below (w' := w.drew) ⟨rfl, rfl, rfl, Nat.le_refl _, fun _ _ => rfl⟩
end Go.Proofs.Ytkflekaibfkicaa
