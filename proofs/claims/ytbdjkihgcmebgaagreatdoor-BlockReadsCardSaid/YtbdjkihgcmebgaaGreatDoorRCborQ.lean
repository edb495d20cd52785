/- The plain mathematics of layer 3: parts of lists of items. No program's number stands here. -/
import Derived.Test.YtbdjkihgcmebgaaGreatDoorRCborM
namespace Go.Proofs.YtbdjkihgcmebgaaGreatDoor

theorem deps_app : ∀ (a b : List Itm), deps (a ++ b) = max (deps a) (deps b)
  | [], b => by rw [deps]; simp
  | x :: r, b => by rw [List.cons_append, deps, deps, deps_app r b]; omega
theorem deps_take (l : List Itm) (j : Nat) (h : j < l.length) : deps (l.take (j + 1)) = max (deps (l.take j)) (dep (l[j]'h)) := by
  rw [List.take_succ_eq_append_getElem h, deps_app, deps, deps]
  omega
mutual
theorem dep_le : ∀ x : Itm, dep x ≤ par x
  | .mk k _ _ l => by have := deps_le l; rw [dep, par]; split <;> omega
theorem deps_le : ∀ l : List Itm, deps l ≤ pars l
  | [] => by rw [deps]; omega
  | x :: r => by have := dep_le x; have := deps_le r; rw [deps, pars]; omega
end
theorem pars_app : ∀ (a b : List Itm), pars (a ++ b) = pars a + pars b
  | [], b => by rw [pars]; simp
  | x :: r, b => by rw [List.cons_append, pars, pars, pars_app r b]; omega
theorem pars_take (l : List Itm) (j : Nat) (h : j < l.length) : pars (l.take (j + 1)) = pars (l.take j) + par (l[j]'h) := by
  rw [List.take_succ_eq_append_getElem h, pars_app, pars, pars]
  omega
theorem pars_le (l : List Itm) (j : Nat) : pars (l.take j) ≤ pars l := by
  conv => rhs; rw [← List.take_append_drop j l, pars_app]
  omega
theorem plain_take' (d : List UInt8) (k : Nat) (h : plain d = true) : plain (d.take k) = true := by
  unfold plain at *
  rw [List.all_eq_true] at *
  exact fun c hc => h c (List.mem_of_mem_take hc)
/-- A part of a text. -/
theorem plain_snoc (l : List UInt8) (x : UInt8) : plain (l ++ [x]) = (plain l && (decide (32 ≤ x.toNat) && decide (x.toNat ≤ 126))) := by
  unfold plain
  rw [List.all_append]
  simp
theorem plain_take_f (l : List UInt8) (k : Nat) (h : plain (l.take k) = false) : plain l = false := by
  rcases hb : plain l with _ | _
  · rfl
  · rw [plain_take' l k hb] at h; cases h
end Go.Proofs.YtbdjkihgcmebgaaGreatDoor
