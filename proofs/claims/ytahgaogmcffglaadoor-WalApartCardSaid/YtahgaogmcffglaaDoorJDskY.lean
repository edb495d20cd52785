/- The statement's own disk: Flush. -/
import Derived.Test.YtahgaogmcffglaaDoorJDskX
import Derived.Deep.RegionHeld3
namespace Go.Proofs.YtahgaogmcffglaaDoor
open Go.RowKit

theorem WtsC.get {w : World} {F : Nat → Prop} {B : Nat} : ∀ {xs : List (Nat × List UInt8)} {cs : List Value}, WtsC w F B xs cs → ∀ {i : Nat} (hi : i < xs.length), ∃ c1, cs[i * 2]? = some (.int .i64 (xs[i].1 : Int)) ∧ cs[i * 2 + 1]? = some c1 ∧ WtC w F B xs[i] (.int .i64 (xs[i].1 : Int)) c1
  | [], _, _, _, hi => absurd hi (Nat.not_lt_zero _)
  | _ :: _, c0 :: c1 :: _, h, 0, _ => by
    obtain ⟨e, h2⟩ := h.1
    subst e
    exact ⟨c1, rfl, rfl, rfl, h2⟩
  | x :: xs, c0 :: c1 :: cs, h, i + 1, hi => by
    obtain ⟨c, h1, h2, h3⟩ := WtsC.get h.2 (i := i) (by simpa using hi)
    exact ⟨c, by rw [show (i + 1) * 2 = i * 2 + 1 + 1 by omega]; exact h1, by rw [show (i + 1) * 2 + 1 = i * 2 + 1 + 1 + 1 by omega]; exact h2, h3⟩
  | _ :: _, [], h, _, _ => h.elim
  | _ :: _, [_], h, _, _ => h.elim
theorem Fr.mono {F F' : Nat → Prop} {w w' : World} (h : Fr F w w') (hF : ∀ k, F k → F' k) : Fr F' w w' := ⟨h.os, h.tape, h.output, h.size, fun k hk hn => h.block k hk fun e => hn (hF k e)⟩
theorem part_all {old new : List UInt8} (h1 : old.length = 64) (h2 : new.length = 64) : part old new 0 64 = new := by
  unfold part
  rw [List.take_zero, List.drop_zero, List.take_of_length_le (by omega), List.drop_eq_nil_of_le (by omega)]
  simp
theorem Dk.went_eq (D : Dk) : D.went = ⟨D.secs, D.waits, D.went.dead, D.went.armed, D.went.left⟩ := by unfold Dk.went; split <;> (try split) <;> rfl
def Dk.flush (D : Dk) : Dk × Int := if D.dead = true then (D, 131) else if D.goes = true then (D.went, 131) else ({ D.went with secs := layW D.secs D.waits, waits := [] }, 0)

end Go.Proofs.YtahgaogmcffglaaDoor
