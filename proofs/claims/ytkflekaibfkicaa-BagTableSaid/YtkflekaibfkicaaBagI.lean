/- What every text of layer 12 begins with. -/
import Derived.Test.YtkflekaibfkicaaRows
import Derived.Test.YtkflekaibfkicaaBagB
import Derived.WalkKit
import Derived.Below
import Derived.Deep.OwnRows
import Derived.Deep.Draws
import Derived.Laws.AppendOwn
import Derived.Laws.NewBlocks
import Derived.Lib.Hide

import Derived.WalkLawsBesides
import Derived.BigGuardPart
import Derived.BigQuiet
import Derived.Deep.QuietTactic
import Derived.Deep.DeepFit
import Derived.Deep.DeepCutAuto
import Derived.Outline
import Derived.Lib.Walk
import Derived.BigCall
import Derived.BigGuard
import Derived.OwnWalk
import Derived.RegionTactic
import Derived.Maps.AppendAt
import Derived.Laws.OwnMore
namespace Go.Proofs.Ytkflekaibfkicaa
open Go.RowKit Go.Conc

/-- What lies at c is the channel with room for cap things that holds vs. -/
def ChAt (w : World) (c cap : Nat) (vs : List Value) : Prop := ∃ s r, w.heap[c]? = some (.chan cap vs.toArray false s r false)
theorem ChAt.lt {w : World} {c cap : Nat} {vs : List Value} (h : ChAt w c cap vs) : c < w.heap.size := by
  obtain ⟨s, r, h⟩ := h
  exact (Array.getElem?_eq_some_iff.1 h).1
theorem ChAt.below {w w' : World} {c cap : Nat} {vs : List Value} (h : ChAt w c cap vs) (hb : Below w.heap.size w w') : ChAt w' c cap vs := by
  have hl := h.lt
  obtain ⟨s, r, h⟩ := h
  exact ⟨s, r, (hb.block c hl).trans h⟩
/-- A world in which channel c holds vs' now; all else stands. -/
structure Set1 (w w' : World) (c cap : Nat) (vs' : List Value) : Prop where
  at_ : ChAt w' c cap vs'
  kp : ∀ B g, B ≤ c → Kp true B g w w'
  ne : ∀ k, k ≠ c → w'.heap[k]? = w.heap[k]?
  size : w'.heap.size = w.heap.size
theorem Set1.mk_ {w : World} {c cap cap0 s r : Nat} {b0 : Array Value} (h : w.heap[c]? = some (.chan cap0 b0 false s r false)) (vs' : List Value) (s' r' : Nat) : Set1 w (w.setChan c cap vs'.toArray false s' r' false) c cap vs' :=
  ⟨⟨s', r', heap_setChan _ _ _ _ _ _ _ _ (Array.getElem?_eq_some_iff.1 h).1⟩, fun _ _ hB => Kp.setChan hB h _ _ _ _ _ _, fun _ hk => heap_setChan_ne w _ _ _ _ _ _ (fun e => hk e.symm), size_setChan _ _ _ _ _ _ _ _⟩
/-- How many things channel c holds. -/
def left1 (w : World) (c : Nat) : Nat := match w.heap[c]? with | some (.chan _ b _ _ _ _) => b.size | _ => 0
theorem left1_at {w : World} {c cap : Nat} {vs : List Value} (h : ChAt w c cap vs) : left1 w c = vs.length := by
  obtain ⟨s, r, h⟩ := h
  unfold left1
  rw [h]
  simp
def okN : Value → Nat | .bool true => 1 | _ => 0
end Go.Proofs.Ytkflekaibfkicaa
