/- What layer 4's questions about bytes and texts return: isLetter, or's function, only (at both), isName; strings.Cut at one byte. -/
import Derived.Test.YtlncacfflalacaaDoorEidP
import Derived.Test.YtlncacfflalacaaDoorEidS
import Derived.Test.YtlncacfflalacaaDoorEidA
import Derived.Test.YtlncacfflalacaaDoorOwn
import Derived.Shelf.RegionOpenPlain
import Derived.Deep.DeepFit
namespace Go.Proofs.YtlncacfflalacaaDoor
open Go.RowKit

theorem letter_num (x : UInt8) : letterB x = ((decide (97 ≤ x.toNat) && decide (x.toNat ≤ 122)) || ((decide (48 ≤ x.toNat) && decide (x.toNat ≤ 57)) || (decide (x.toNat = 46) || (decide (x.toNat = 45) || decide (x.toNat = 95))))) := by
  have e : ∀ k : UInt8, (x == k) = decide (x.toNat = k.toNat) := fun k => by
    by_cases h : x = k
    · subst h; simp
    · rw [beq_eq_false_iff_ne.2 h, decide_eq_false]
      intro h2
      exact h (UInt8.toNat_inj.1 h2)
  unfold letterB
  rw [e 46, e 45, e 95]
  rfl

set_option maxRecDepth 100000 in
set_option maxHeartbeats 1000000 in
theorem isletter_n (X : Nat) (w : World) :
    Calls Tryd.prog 51 #[.int .u8 (X : Int)] w fun e w' => e = .returned (.bool ((decide (97 ≤ X) && decide (X ≤ 122)) || ((decide (48 ≤ X) && decide (X ≤ 57)) || (decide (X = 46) || (decide (X = 45) || decide (X = 95)))))) ∧ w = w' := by
  obtain ⟨R, hR⟩ : ∃ R, R = ((decide (97 ≤ X) && decide (X ≤ 122)) || ((decide (48 ≤ X) && decide (X ≤ 57)) || (decide (X = 46) || (decide (X = 45) || decide (X = 95))))) := ⟨_, rfl⟩
  rw [← hR]
  have HR := Lib.hid hR
  clear hR
  go_enter Tryd.func51, Tryd.ntmps51
  go_wp2
  all_goals go_ret
  all_goals
    refine ⟨congrArg (fun b => Ending.returned (Value.bool b)) ((?_ : _ = _).trans HR.out.symm), rfl⟩
    rw [Bool.eq_iff_iff]
    simp
    try omega
theorem isletter_any (x : UInt8) (w : World) :
    Calls Tryd.prog 51 #[.int .u8 (x.toNat : Int)] w fun e w' => e = .returned (.bool (letterB x)) ∧ w = w' := by
  rw [letter_num]
  exact isletter_n x.toNat w

/-- The function that or answers, of isLetter and a slash. -/
def lsFn (b1 b2 : Nat) : Value := .func (.func 60) #[] #[.pointer (some ⟨b1, 0, none⟩), .pointer (some ⟨b2, 0, none⟩)]
structure LsAt2 (b1 b2 : Nat) (w : World) : Prop where
  f : w.cell? ⟨b1, 0, none⟩ = some (.func (.func 51) #[] #[])
  s : w.cell? ⟨b2, 0, none⟩ = some (.string ⟨#[47]⟩)
end Go.Proofs.YtlncacfflalacaaDoor
