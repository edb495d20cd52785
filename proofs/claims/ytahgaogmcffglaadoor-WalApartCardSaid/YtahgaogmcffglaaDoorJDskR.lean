/- The statement's own disk: how it lies in memory; its small calls. -/
import Derived.Test.YtahgaogmcffglaaDoorJDskF
import Derived.Test.YtahgaogmcffglaaDoorJDskS
namespace Go.Proofs.YtahgaogmcffglaaDoor
open Go.RowKit

theorem row_setC {w : World} {g : Nat} {cs : Array Value} {t : TypeId} (h : w.heap[g]? = some (.cells cs t (0, 0))) (j : Nat) (u : Value) : (w.setCell ⟨g, j, none⟩ u).heap[g]? = some (.cells (cs.setIfInBounds j u) t (0, 0)) := by
  simp [World.setCell, Array.getElem?_modify, h]
/-- A write that waits, in two cells: where, and bytes of its own. -/
def WtC (w : World) (F : Nat → Prop) (B : Nat) (x : Nat × List UInt8) (c0 c1 : Value) : Prop := c0 = .int .i64 (x.1 : Int) ∧ Ob w B 5 c1 x.2 ∧ x.2.length = 64 ∧ (∀ b, c1.ownBlock = some b → F b)
/-- Cells of writes that wait. -/
def WtsC (w : World) (F : Nat → Prop) (B : Nat) : List (Nat × List UInt8) → List Value → Prop
  | [], [] => True
  | x :: xs, c0 :: c1 :: cs => WtC w F B x c0 c1 ∧ WtsC w F B xs cs
  | _, _ => False
section
variable {w w' : World} {F F' : Nat → Prop} {B g : Nat} {D : Dk}
theorem Ob.same {v : Value} {l : List UInt8} (h : Ob w B 5 v l) (hF : ∀ b, v.ownBlock = some b → w'.heap[b]? = w.heap[b]?) : Ob w' B 5 v l := by
  refine ⟨h.1, ?_⟩
  rcases h.2 with hn | ⟨b, cap, cur, rfl, hb, hg, rest⟩
  · exact .inl hn
  · exact .inr ⟨b, cap, cur, rfl, hb, (hF b rfl).trans hg, rest⟩
theorem WtsC.same {G : Nat → Prop} : ∀ {xs : List (Nat × List UInt8)} {cs : List Value}, WtsC w F B xs cs → (∀ k, F k → w'.heap[k]? = w.heap[k]?) → (∀ k, F k → G k) → WtsC w' G B xs cs
  | [], [], _, _, _ => trivial
  | _ :: _, _ :: _ :: _, h, hk, hG => ⟨⟨h.1.1, h.1.2.1.same fun b hb => hk b (h.1.2.2.2 b hb), h.1.2.2.1, fun b hb => hG b (h.1.2.2.2 b hb)⟩, WtsC.same h.2 hk hG⟩
  | [], _ :: _, h, _, _ => h.elim
  | _ :: _, [], h, _, _ => h.elim
  | _ :: _, [_], h, _, _ => h.elim
end
theorem len_of_own {w : World} {B n : Nat} {e : TypeId} {v : Value} {cs : List Value} (h : w.ownsRow B e 2 v n cs) : ∃ A c, v = .slice A n c ∧ n ≤ c := by
  rcases h.2 with ⟨rfl, rfl⟩ | ⟨b, cap, cur, rfl, -, -, hn, -⟩
  · exact ⟨none, 0, rfl, Nat.le_refl _⟩
  · exact ⟨_, cap, rfl, hn⟩

/-- Does the power go at this call? -/
def Dk.goes (D : Dk) : Bool := D.armed && (D.left == 0)
def Dk.went (D : Dk) : Dk := if D.armed = true then (if D.left = 0 then { D with dead := true, armed := false } else { D with left := wrap64 (D.left - 1) }) else D
theorem ob_whole13 {w : World} {base g n : Nat} {t : TypeId} {l : List UInt8} (h : Ob w base t (.slice (some ⟨g, 0, none⟩) n n) l) (hn : l.length = n) : w.heap[g]? = some (.cells (l.map fun x => Value.int .u8 (x.toNat : Int)).toArray t (0, 0)) := by
  rcases h.2 with ⟨e, _⟩ | ⟨g', cap, cur, e, hb, hg, hnc, hm, hs, ht⟩
  · cases e
  · simp only [Value.slice.injEq, Option.some.injEq, Addr.mk.injEq] at e
    obtain ⟨⟨rfl, _, _⟩, e2, rfl⟩ := e
    rw [hg]
    have : cur = (l.map bv).toArray := by
      rw [← ht, List.take_of_length_le (by simp [hs, hn])]
    rw [this]
    rfl
/-- make of bytes. -/
theorem ob_made {w : World} {base g M : Nat} {t : TypeId} (h : w.ownsRow base t 1 (.slice (some ⟨g, 0, none⟩) M M) M (madeCells (Value.int IntKind.u8 0).cells (M * 1)).toList) : Ob w base t (.slice (some ⟨g, 0, none⟩) M M) (List.replicate M 0) := by
  have e : (madeCells (Value.int IntKind.u8 0).cells (M * 1)).toList = (List.replicate M (0 : UInt8)).map bv := by
    apply List.ext_getElem?
    intro j
    have hz1 : (Value.int IntKind.u8 0).cells = #[.int .u8 0] := rfl
    rw [hz1]
    by_cases hj : j < M
    · simp [hj, madeCells, Nat.mod_one, bv]
    · simp [hj, madeCells]
  unfold Ob
  rw [List.length_replicate, ← e]
  exact h
theorem flat_rep (m : Nat) : (List.replicate m (List.replicate 64 (0 : UInt8))).flatten = List.replicate (m * 64) 0 := by
  rw [List.flatten_replicate_replicate]
end Go.Proofs.YtahgaogmcffglaaDoor
