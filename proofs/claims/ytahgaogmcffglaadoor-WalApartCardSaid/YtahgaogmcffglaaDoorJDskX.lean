/- The statement's own disk: a write done. -/
import Derived.Test.YtahgaogmcffglaaDoorJDskW
namespace Go.Proofs.YtahgaogmcffglaaDoor
open Go.RowKit

theorem flat_len : ∀ {S : List (List UInt8)}, (∀ s ∈ S, s.length = 64) → S.flatten.length = S.length * 64
  | [], _ => rfl
  | s :: S, h => by
    rw [List.flatten_cons, List.length_append, flat_len (fun x hx => h x (by simp [hx])), h s (by simp), List.length_cons]
    omega
theorem flat_set : ∀ {S : List (List UInt8)} {i j : Nat} (_ : ∀ s ∈ S, s.length = 64) (hi : i < S.length) (_ : j < 64) (x : UInt8), (S.set i (S[i].set j x)).flatten = S.flatten.set (i * 64 + j) x
  | [], _, _, _, hi, _, _ => absurd hi (Nat.not_lt_zero _)
  | s :: S, 0, j, h, _, hj, x => by
    have hs := h s (by simp)
    show (s.set j x :: S).flatten = _
    rw [List.flatten_cons, List.flatten_cons, Nat.zero_mul, Nat.zero_add, List.set_append_left _ _ (by omega)]
  | s :: S, i + 1, j, h, hi, hj, x => by
    have hs := h s (by simp)
    show (s :: S.set i ((S[i]'(by simpa using hi)).set j x)).flatten = _
    rw [List.flatten_cons, List.flatten_cons, List.set_append_right _ _ (by omega), flat_set (fun y hy => h y (by simp [hy])) (by simpa using hi) hj x]
    congr 2
    omega
/-- The bytes from one place to another of new, else old. -/
def part (old new : List UInt8) (from_ to_ : Nat) : List UInt8 := old.take from_ ++ (new.drop from_).take (to_ - from_) ++ old.drop to_
theorem part_nil (old new : List UInt8) (i : Nat) : part old new i i = old := by simp [part]
theorem part_step {old new : List UInt8} {f i : Nat} (h1 : old.length = 64) (h2 : new.length = 64) (hf : f ≤ i) (hi : i < 64) : (part old new f i).set i (new[i]'(by omega)) = part old new f (i + 1) := by
  unfold part
  have e1 : (old.take f ++ (new.drop f).take (i - f)).length = i := by simp; omega
  rw [List.set_append_right _ _ (by omega), e1, Nat.sub_self, List.drop_eq_getElem_cons (l := old) (i := i) (by omega), List.set_cons_zero]
  have e2 : i + 1 - f = i - f + 1 := by omega
  rw [e2, List.take_add_one, List.getElem?_drop, show f + (i - f) = i by omega, List.getElem?_eq_getElem (by omega)]
  simp

end Go.Proofs.YtahgaogmcffglaaDoor
