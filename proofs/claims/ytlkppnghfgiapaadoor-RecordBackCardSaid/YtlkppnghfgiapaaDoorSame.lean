/- Same of the reference: whether two slices of bytes read alike. -/
import Derived.Test.YtlkppnghfgiapaaDoorBase
namespace Go.Proofs.YtlkppnghfgiapaaDoor
open Go.RowKit

theorem same_any (A A' : Option Addr) (n c n' c' B B' : Nat) (l l' : List UInt8) (w : World) (h : Rd w B A n l) (h' : Rd w B' A' n' l') :
    Calls Tryd.prog 10 #[.slice A n c, .slice A' n' c'] w fun e w' => e = .returned (.bool (l == l')) ∧ w = w' := by
  have g := run_str (P := Tryd.prog) (c := c) h 23 5 9 Tryd.underlying23 Tryd.underlying5 Tryd.underlying9
  have g' := run_str (P := Tryd.prog) (c := c') h' 23 5 9 Tryd.underlying23 Tryd.underlying5 Tryd.underlying9
  clear h h'
  go_enter Tryd.func10, Tryd.ntmps10
  go_wp2
  go_ret
  exact ⟨rfl, rfl⟩

theorem same_true (A A' : Option Addr) (n c n' c' B B' : Nat) (l : List UInt8) (w : World) (h : Rd w B A n l) (h' : Rd w B' A' n' l) :
    Calls Tryd.prog 10 #[.slice A n c, .slice A' n' c'] w fun e w' => e = .returned (.bool true) ∧ w = w' :=
  (same_any A A' n c n' c' B B' l l w h h').mono fun _ _ ⟨he, hw⟩ => ⟨by rw [he, show (l == l) = true by simp], hw⟩
end Go.Proofs.YtlkppnghfgiapaaDoor
