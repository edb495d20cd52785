/- Same of the reference: whether two slices of bytes read alike. -/
import Derived.Test.YtchcimckffonjaaBase
namespace Go.Proofs.Ytchcimckffonjaa
open Go.RowKit

theorem same_any (A A' : Option Addr) (n c n' c' B B' : Nat) (l l' : List UInt8) (w : World) (h : Rd w B A n l) (h' : Rd w B' A' n' l') :
    Calls Try.prog 14 #[.slice A n c, .slice A' n' c'] w fun e w' => e = .returned (.bool (l == l')) ∧ w = w' := by
  have g := run_str (P := Try.prog) (c := c) h 33 5 9 Try.underlying33 Try.underlying5 Try.underlying9
  have g' := run_str (P := Try.prog) (c := c') h' 33 5 9 Try.underlying33 Try.underlying5 Try.underlying9
  clear h h'
  go_enter Try.func14, Try.ntmps14
  go_wp2
  go_ret
  exact ⟨rfl, rfl⟩

theorem same_true (A A' : Option Addr) (n c n' c' B B' : Nat) (l : List UInt8) (w : World) (h : Rd w B A n l) (h' : Rd w B' A' n' l) :
    Calls Try.prog 14 #[.slice A n c, .slice A' n' c'] w fun e w' => e = .returned (.bool true) ∧ w = w' :=
  (same_any A A' n c n' c' B B' l l w h h').mono fun _ _ ⟨he, hw⟩ => ⟨by rw [he, show (l == l) = true by simp], hw⟩
end Go.Proofs.Ytchcimckffonjaa
