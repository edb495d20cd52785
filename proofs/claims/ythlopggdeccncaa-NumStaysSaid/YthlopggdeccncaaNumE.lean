/- What Put returns: the lowest bytes of a number, the highest first, in new memory; and Get: the number of the last eight bytes. -/
import Derived.Test.YthlopggdeccncaaNumC
import Derived.Deep.DeepCutAuto
import Derived.Lib.EndianBits
namespace Go.Proofs.Ythlopggdeccncaa
open Go.RowKit

/-- A size as Put takes it. -/
def psz (size : Int) : Nat := (min (max size 0) 8).toNat
theorem psz_le (size : Int) : psz size ≤ 8 := by unfold psz; omega
theorem psz_eq (size : Int) : min (max size 0) 8 = (psz size : Int) := by unfold psz; omega

/-- Put's row behind k rounds: the k lowest bytes stand at its end. -/
def putRow (x n k : Nat) : Nat → Value := fun j => if n ≤ j + k then .int .u8 ((UInt8.ofNat (x / 256 ^ (n - 1 - j))).toNat : Int) else .int .u8 0

theorem byte_at_pow (x : Int) (h0 : 0 ≤ x) (k : Nat) : Value.int .u8 (x / 2 ^ (8 * k) % 256) = .int .u8 ((UInt8.ofNat (x.toNat / 256 ^ k)).toNat : Int) := by
  obtain ⟨a, rfl⟩ := Int.eq_ofNat_of_zero_le h0
  rw [UInt8.toNat_ofNat', Int.toNat_natCast]
  have e : (2 : Int) ^ (8 * k) = ((256 ^ k : Nat) : Int) := by
    rw [Int.pow_mul]
    simp
  rw [e]
  congr 1
theorem putRow_step (x : Int) (h0 : 0 ≤ x) (n k j : Nat) (hlt : k < n) (_hj : j < n) :
    (if j = n - 1 - k then Value.int .u8 (x / 2 ^ (8 * k) % 256) else putRow x.toNat n k j) = putRow x.toNat n (k + 1) j := by
  unfold putRow
  by_cases e : j = n - 1 - k
  · subst e
    rw [if_pos rfl, if_pos (by omega), byte_at_pow x h0, show n - 1 - (n - 1 - k) = k by omega]
  · rw [if_neg e]
    by_cases h : n ≤ j + k
    · rw [if_pos h, if_pos (by omega)]
    · rw [if_neg h, if_neg (by omega)]
theorem putRow_end (x n j : Nat) (hj : j < n) : putRow x n n j = .int .u8 (((be x n).getD j 0).toNat : Int) := by
  unfold putRow
  rw [if_pos (by omega)]
  simp [be, List.getD, hj]

set_option maxRecDepth 100000 in
set_option maxHeartbeats 1000000 in
theorem put_any (x size : Int) (w : World) (hx0 : 0 ≤ x) (_hx1 : x < 18446744073709551616) :
    Calls Try.prog 15 #[.int .u64 x, .int .i64 size] w fun e w' =>
      e = .returned (.slice (some ⟨w.heap.size, 0, none⟩) (psz size) (psz size)) ∧ Rb w' w.heap.size 5 (psz size) (be x.toNat (psz size)) ∧ Below w.heap.size w w' := by
  have hsz := psz_eq size
  have hle := psz_le size
  generalize psz size = n at *
  have hmk := fun (w : World) => run_make_row' (P := Try.prog) 22 5 (.int .u8 0) 1 rfl info_u8 rfl .i64 .i64 n (by omega) (by omega) w
  go_enter Try.func15, Try.ntmps15
  go_wp2
  go_loopw [13] (fun i wr => ∃ k : Nat, k ≤ n ∧ i = .int .i64 k ∧ Hid (wr.rowIs w.heap.size 5 n (putRow x.toNat n k)) ∧ Hid (Below w.heap.size w wr))
    (fun i _ => n - (intOf i).toNat)
  case atStart => exact ⟨0, Nat.zero_le _, rfl, (World.rowIs_made _ _ _ _).congr (fun j hj => by simp [putRow]; omega), (Below.refl _ _).alloc (Nat.le_refl _) _⟩
  case round =>
    obtain ⟨k, hk, rfl, hrow, hbel⟩ := hrel
    by_cases hlt : k < n
    · have hf1 : wr.frozen? ⟨w.heap.size, n - 1 - k, none⟩ = false := World.rowIs.frozen hrow.out _
      have hc1 : wr.cell? ⟨w.heap.size, n - 1 - k, none⟩ = some _ := World.rowIs.cell hrow.out (by omega)
      go_wp2_with fail
      go_roundw
      case rel =>
        refine ⟨k + 1, by omega, by go_num, (World.rowIs.set hrow.out _ _).congr fun j hj => ?_, hbel.out.setCell (by simp) _⟩
        exact putRow_step x hx0 n k j hlt hj
      case measure => simp [intOf]; omega
    · obtain rfl : k = n := by omega
      have hr : Rb wr w.heap.size 5 k (be x.toNat k) := hrow.out.congr fun j hj => putRow_end x.toNat k j hj
      have HR := Lib.hid hr
      clear hr
      go_wp2
      go_ret
      exact ⟨rfl, HR.out, hbel.out⟩

theorem or_swap (a b : Int) : bits BinOp.or IntKind.u64 a b = bits BinOp.or IntKind.u64 b a := by
  unfold bits
  simp [BitVec.or_comm]
theorem shl_or (a : Nat) (x : Int) (h0 : 0 ≤ x) (h1 : x < 256) : bits BinOp.or IntKind.u64 (IntKind.u64.wrap ((a : Int) * 256)) x = ((a : Int) * 256 + x) % 18446744073709551616 := by
  rw [or_swap, IntKind.wrap_u64, u64_or8 _ _ h0 h1 (by omega) (by omega) (by omega)]
  omega
theorem beNat_snoc (l : List UInt8) (x : UInt8) : beNat (l ++ [x]) = (beNat l * 256 + x.toNat) % 18446744073709551616 := by
  unfold beNat
  rw [List.foldl_append]
  rfl

set_option maxRecDepth 100000 in
set_option maxHeartbeats 1000000 in
theorem get_any (A : Option Addr) (n c : Nat) (l : List UInt8) (w : World) (B : Nat) (h : Rd w B A n l) (hn : n ≤ 9223372036854775807) (hc : n ≤ c) (hc2 : c ≤ 9223372036854775807) :
    Calls Try.prog 17 #[.slice A n c] w fun e w' => e = .returned (.int .u64 (beNat (l.drop (n - 8)) : Int)) ∧ w = w' := by
  obtain ⟨A', c', hsl, hr⟩ := cut_l (P := Try.prog) 22 5 rfl size_u8 c h (max ((n : Int) - 8) 0) (n - 8) (by omega) (by omega) hc
  have hl8 : n - (n - 8) ≤ 8 := by omega
  generalize hm : n - (n - 8) = m at *
  generalize l.drop (n - 8) = L at *
  have HR := Lib.hid hr.2.2
  clear h hc hr
  go_enter Try.func17, Try.ntmps17
  go_wp2
  go_loop [4, 14] (fun v i => ∃ k : Nat, k ≤ m ∧ i = .int .i64 k ∧ v = .int .u64 (beNat (L.take k) : Int)) (fun _ i => m - (intOf i).toNat)
  case atStart => exact ⟨0, Nat.zero_le _, rfl, by simp [beNat]⟩
  case round =>
    obtain ⟨k, hk, rfl, rfl⟩ := hrel
    by_cases hlt : k < m
    · obtain ⟨b, o, rfl, hb, hcell⟩ := HR.out.2 (by omega)
      obtain ⟨x, hx⟩ : ∃ x, x = L.getD k 0 := ⟨_, rfl⟩
      have hcx : w.cell? ⟨b, o + k, none⟩ = some (.int .u8 (x.toNat : Int)) := by rw [hx]; exact hcell k hlt
      have HC := Lib.hid hcell
      have Hx := Lib.hid hx
      clear hx hcell
      have hx1 : (x.toNat : Int) < 256 := by have := x.toNat_lt; omega
      have hx0 : (0 : Int) ≤ (x.toNat : Int) := by omega
      go_wp2_with fail
      go_round
      case rel =>
        have hl := HR.out.1
        refine ⟨k + 1, by omega, by go_num, ?_⟩
        rw [take_more L k (by omega), ← Hx.out, beNat_snoc, shl_or _ _ hx0 hx1]
        go_num
      case measure => simp [intOf]; omega
    · obtain rfl : k = m := by omega
      have hl := HR.out.1
      have e : L.take k = L := List.take_of_length_le (by omega)
      have HE := Lib.hid e
      clear e hl
      go_wp2
      go_ret
      exact ⟨by rw [HE.out]; rfl, rfl⟩
end Go.Proofs.Ythlopggdeccncaa
