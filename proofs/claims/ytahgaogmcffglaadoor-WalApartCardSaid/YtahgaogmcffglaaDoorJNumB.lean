/- Bytes as numbers, the highest first: the plain mathematics of Put and Get. No program's number stands here. -/
import Derived.Test.YtahgaogmcffglaaDoorJNumW
import Derived.Laws.BitsAllLaws
import Derived.Lib.EndianBits
namespace Go.Proofs.YtahgaogmcffglaaDoor
open Go.RowKit

/-- A size as Put takes it. -/
def psz (size : Int) : Nat := (min (max size 0) 8).toNat
theorem psz_le (size : Int) : psz size ≤ 8 := by unfold psz; omega
theorem psz_eq (size : Int) : min (max size 0) 8 = (psz size : Int) := by unfold psz; omega

/-- Put's row behind k rounds: the k lowest bytes stand at its end. -/
def putRow (x n k : Nat) : Nat → Value := fun j => if n ≤ j + k then .int .u8 ((UInt8.ofNat (x / 256 ^ (n - 1 - j))).toNat : Int) else .int .u8 0

theorem byte_at_pow (x : Int) (h0 : 0 ≤ x) (k : Nat) : Value.int .u8 (x / 2 ^ (8 * k) % 256) = .int .u8 ((UInt8.ofNat (x.toNat / 256 ^ k)).toNat : Int) := by
  obtain ⟨a, rfl⟩ := Int.eq_ofNat_of_zero_le h0
  rw [UInt8.toNat_ofNat', Int.toNat_natCast]
  have e : (2 : Int) ^ (8 * k) = ((256 ^ k : Nat) : Int) := by
    rw [Int.pow_mul]
    simp
  rw [e]
  congr 1
theorem putRow_step (x : Int) (h0 : 0 ≤ x) (n k j : Nat) (hlt : k < n) (_hj : j < n) :
    (if j = n - 1 - k then Value.int .u8 (x / 2 ^ (8 * k) % 256) else putRow x.toNat n k j) = putRow x.toNat n (k + 1) j := by
  unfold putRow
  by_cases e : j = n - 1 - k
  · subst e
    rw [if_pos rfl, if_pos (by omega), byte_at_pow x h0, show n - 1 - (n - 1 - k) = k by omega]
  · rw [if_neg e]
    by_cases h : n ≤ j + k
    · rw [if_pos h, if_pos (by omega)]
    · rw [if_neg h, if_neg (by omega)]
theorem putRow_end (x n j : Nat) (hj : j < n) : putRow x n n j = .int .u8 (((be x n).getD j 0).toNat : Int) := by
  unfold putRow
  rw [if_pos (by omega)]
  simp [be, List.getD, hj]

theorem or_swap (a b : Int) : bits BinOp.or IntKind.u64 a b = bits BinOp.or IntKind.u64 b a := by
  unfold bits
  simp [BitVec.or_comm]
theorem shl_or (a : Nat) (x : Int) (h0 : 0 ≤ x) (h1 : x < 256) : bits BinOp.or IntKind.u64 (IntKind.u64.wrap ((a : Int) * 256)) x = ((a : Int) * 256 + x) % 18446744073709551616 := by
  rw [or_swap, IntKind.wrap_u64, u64_or8 _ _ h0 h1 (by omega) (by omega) (by omega)]
  omega
theorem beNat_snoc (l : List UInt8) (x : UInt8) : beNat (l ++ [x]) = (beNat l * 256 + x.toNat) % 18446744073709551616 := by
  unfold beNat
  rw [List.foldl_append]
  rfl

theorem be_succ (x n : Nat) : be x (n + 1) = be (x / 256) n ++ [UInt8.ofNat x] := by
  unfold be
  rw [List.range_succ, List.map_append]
  congr 1
  · refine List.map_congr_left fun j hj => ?_
    have hj' : j < n := List.mem_range.1 hj
    rw [show n + 1 - 1 - j = (n - 1 - j) + 1 by omega, Nat.pow_succ, Nat.mul_comm, ← Nat.div_div_eq_div_mul]
  · simp
theorem beNat_be : ∀ (n x : Nat), n ≤ 8 → beNat (be x n) = x % 256 ^ n
  | 0, x, _ => by simp [be, beNat, Nat.mod_one]
  | n + 1, x, h => by
    have hp : 256 ^ (n + 1) ≤ 256 ^ 8 := Nat.pow_le_pow_right (by decide) h
    rw [be_succ, beNat_snoc, beNat_be n (x / 256) (by omega), UInt8.toNat_ofNat']
    have e : x % 256 ^ (n + 1) = x / 256 % 256 ^ n * 256 + x % 256 := by
      rw [Nat.pow_succ, Nat.mul_comm, Nat.mod_mul]
      omega
    have hlt : x % 256 ^ (n + 1) < 256 ^ (n + 1) := Nat.mod_lt _ (Nat.pow_pos (by decide))
    rw [show (2 : Nat) ^ 8 = 256 from rfl, ← e]
    exact Nat.mod_eq_of_lt (Nat.lt_of_lt_of_le hlt hp)

theorem be_lt : ∀ (n x y : Nat), x % 256 ^ n = y % 256 ^ n → be x n = be y n
  | 0, _, _, _ => rfl
  | n + 1, x, y, h => by
    rw [Nat.pow_succ, Nat.mul_comm, Nat.mod_mul, Nat.mod_mul] at h
    have h1 : x % 256 = y % 256 := by omega
    have h2 : x / 256 % 256 ^ n = y / 256 % 256 ^ n := by omega
    rw [be_succ, be_succ, be_lt n _ _ h2]
    congr 2
    apply UInt8.toNat_inj.1
    rw [UInt8.toNat_ofNat', UInt8.toNat_ofNat']
    exact h1
theorem beNat_lt (l : List UInt8) : beNat l < 18446744073709551616 := by
  rcases List.eq_nil_or_concat l with rfl | ⟨r, x, rfl⟩
  · decide
  · rw [List.concat_eq_append, beNat_snoc]; exact Nat.mod_lt _ (by decide)
/-- Eight bytes at most are those of their number. -/
theorem beNat_bd : ∀ (n : Nat) (l : List UInt8), l.length = n → n ≤ 8 → beNat l < 256 ^ n
  | 0, l, h, _ => by obtain rfl := List.eq_nil_of_length_eq_zero h; decide
  | n + 1, l, h, h8 => by
    rcases List.eq_nil_or_concat l with rfl | ⟨r, x, rfl⟩
    · simp at h
    · have hr : r.length = n := by simpa using h
      have ih := beNat_bd n r hr (by omega)
      have hx := x.toNat_lt
      have hp : 256 ^ (n + 1) ≤ 256 ^ 8 := Nat.pow_le_pow_right (by decide) h8
      have e : 256 ^ (n + 1) = 256 ^ n * 256 := Nat.pow_succ ..
      rw [List.concat_eq_append, beNat_snoc, Nat.mod_eq_of_lt (by omega)]
      omega
theorem be_beNat : ∀ (n : Nat) (l : List UInt8), l.length = n → n ≤ 8 → be (beNat l) n = l
  | 0, l, h, _ => by obtain rfl := List.eq_nil_of_length_eq_zero h; rfl
  | n + 1, l, h, h8 => by
    rcases List.eq_nil_or_concat l with rfl | ⟨r, x, rfl⟩
    · simp at h
    · have hr : r.length = n := by simpa using h
      have ih := beNat_bd n r hr (by omega)
      have hx := x.toNat_lt
      have hp : 256 ^ (n + 1) ≤ 256 ^ 8 := Nat.pow_le_pow_right (by decide) h8
      have e : 256 ^ (n + 1) = 256 ^ n * 256 := Nat.pow_succ ..
      rw [List.concat_eq_append, beNat_snoc, Nat.mod_eq_of_lt (by omega), be_succ, show (beNat r * 256 + x.toNat) / 256 = beNat r by omega, be_beNat n r hr (by omega)]
      congr 2
      apply UInt8.toNat_inj.1
      rw [UInt8.toNat_ofNat']
      omega
end Go.Proofs.YtahgaogmcffglaaDoor
