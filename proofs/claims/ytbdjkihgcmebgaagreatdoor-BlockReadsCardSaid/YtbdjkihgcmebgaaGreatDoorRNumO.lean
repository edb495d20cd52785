/- The order of decimal digits: longer numerals are the greater ones, and of one length the later ones. -/
import Derived.Test.YtbdjkihgcmebgaaGreatDoorRNumW
namespace Go.Proofs.YtbdjkihgcmebgaaGreatDoor
open Go.RowKit
open Go.Lib (decDigits nDigits nDigits_small nDigits_big nDigits_pos decDigits_length)

theorem dd_lt (x y : Nat) (hx : x < 10) (hy : y < 10) : decide (UInt8.ofNat (48 + x) < UInt8.ofNat (48 + y)) = decide (x < y) := by
  have : ∀ x y : Fin 10, decide (UInt8.ofNat (48 + x.val) < UInt8.ofNat (48 + y.val)) = decide (x.val < y.val) := by decide +kernel
  exact this ⟨x, hx⟩ ⟨y, hy⟩
theorem dd_eq (x y : Nat) (hx : x < 10) (hy : y < 10) (h : UInt8.ofNat (48 + x) = UInt8.ofNat (48 + y)) : x = y := by
  have : ∀ x y : Fin 10, UInt8.ofNat (48 + x.val) = UInt8.ofNat (48 + y.val) → x = y := by decide +kernel
  exact congrArg Fin.val (this ⟨x, hx⟩ ⟨y, hy⟩ h)

theorem bl_snoc : ∀ (A B : List UInt8) (a b : UInt8), A.length = B.length → Op.bytesLess (A ++ [a]) (B ++ [b]) = (Op.bytesLess A B || ((A == B) && decide (a < b)))
  | [], [], a, b, _ => by simp [Op.bytesLess]
  | [], _ :: _, _, _, h => by simp at h
  | _ :: _, [], _, _, h => by simp at h
  | x :: A, y :: B, a, b, h => by
    have ih := bl_snoc A B a b (by simpa using h)
    simp only [List.cons_append, Op.bytesLess, ih, List.cons_beq_cons]
    cases decide (x < y) <;> cases (x == y) <;> cases (Op.bytesLess A B) <;> cases (A == B) <;> simp

theorem dec_small {x : Nat} (h : x < 10) : decDigits x = [UInt8.ofNat (48 + x)] := by rw [decDigits, dif_pos h]
theorem dec_big {x : Nat} (h : ¬ x < 10) : decDigits x = decDigits (x / 10) ++ [UInt8.ofNat (48 + x % 10)] := by rw [decDigits, dif_neg h]

theorem nd_mono : ∀ (y x : Nat), nDigits x < nDigits y → x < y := by
  intro y
  induction y using Nat.strongRecOn with
  | _ y ih =>
    intro x h
    have hp := nDigits_pos x
    by_cases hy : y < 10
    · rw [nDigits_small hy] at h; omega
    · by_cases hx : x < 10
      · omega
      · rw [nDigits_big hy, nDigits_big hx] at h
        have := ih (y / 10) (by omega) (x / 10) (by omega)
        omega

theorem dec_inj : ∀ (x y : Nat), decDigits x = decDigits y → x = y := by
  intro x
  induction x using Nat.strongRecOn with
  | _ x ih =>
    intro y h
    have hl : nDigits x = nDigits y := by rw [← decDigits_length, ← decDigits_length, h]
    have p1 := nDigits_pos (x / 10)
    have p2 := nDigits_pos (y / 10)
    by_cases hx : x < 10
    · by_cases hy : y < 10
      · rw [dec_small hx, dec_small hy] at h
        exact dd_eq x y hx hy (by simpa using h)
      · rw [nDigits_small hx, nDigits_big hy] at hl; omega
    · by_cases hy : y < 10
      · rw [nDigits_big hx, nDigits_small hy] at hl; omega
      · rw [dec_big hx, dec_big hy] at h
        have hs := List.append_inj' h rfl
        have e1 := ih (x / 10) (by omega) (y / 10) hs.1
        have e2 := dd_eq (x % 10) (y % 10) (by omega) (by omega) (by simpa using hs.2)
        omega

theorem dec_less : ∀ (x y : Nat), nDigits x = nDigits y → Op.bytesLess (decDigits x) (decDigits y) = decide (x < y) := by
  intro x
  induction x using Nat.strongRecOn with
  | _ x ih =>
    intro y hl
    have p1 := nDigits_pos (x / 10)
    have p2 := nDigits_pos (y / 10)
    by_cases hx : x < 10
    · by_cases hy : y < 10
      · rw [dec_small hx, dec_small hy]
        simp only [Op.bytesLess, Bool.and_false, Bool.or_false]
        exact dd_lt x y hx hy
      · rw [nDigits_small hx, nDigits_big hy] at hl; omega
    · by_cases hy : y < 10
      · rw [nDigits_big hx, nDigits_small hy] at hl; omega
      · rw [nDigits_big hx, nDigits_big hy] at hl
        have hl' : nDigits (x / 10) = nDigits (y / 10) := by omega
        have hb : (decDigits (x / 10) == decDigits (y / 10)) = decide (x / 10 = y / 10) := by
          rw [Bool.eq_iff_iff, beq_iff_eq, decide_eq_true_iff]
          exact ⟨fun h => dec_inj _ _ h, fun h => by rw [h]⟩
        rw [dec_big hx, dec_big hy, bl_snoc _ _ _ _ (by rw [decDigits_length, decDigits_length, hl']), ih (x / 10) (by omega) (y / 10) hl', hb, dd_lt _ _ (by omega) (by omega)]
        rw [Bool.eq_iff_iff]
        simp only [Bool.or_eq_true, Bool.and_eq_true, decide_eq_true_iff]
        omega

theorem nd_le : ∀ (k x : Nat), x < 10 ^ (k + 1) → nDigits x ≤ k + 1
  | 0, x, h => by rw [nDigits_small (by simpa using h)]; exact Nat.le_refl _
  | k + 1, x, h => by
    by_cases hx : x < 10
    · rw [nDigits_small hx]; omega
    · rw [nDigits_big hx]
      rw [Nat.pow_succ] at h
      have := nd_le k (x / 10) (by omega)
      omega
theorem nd_20 (x : Nat) (h : x < 18446744073709551616) : nDigits x ≤ 20 := nd_le 19 x (Nat.lt_trans h (by decide))
end Go.Proofs.YtbdjkihgcmebgaaGreatDoor
