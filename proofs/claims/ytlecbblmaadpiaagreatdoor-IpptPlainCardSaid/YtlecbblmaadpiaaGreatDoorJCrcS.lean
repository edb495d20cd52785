/- What every text of this seat begins with: the words for bytes, and what is asked of the type of a byte. -/
import Derived.Test.YtlecbblmaadpiaaGreatDoorJOwn
import Derived.Test.YtlecbblmaadpiaaGreatDoorRows
import Derived.WalkLawsBesides
import Derived.BigGuardPart
import Derived.BigQuiet
import Derived.Deep.QuietTactic
import Derived.Deep.DeepFit
import Derived.Deep.DeepCutAuto
import Derived.Outline
import Derived.Lib.Walk
import Derived.Lib.Strings
import Derived.Lib.SlBytesConst
import Derived.BigCall
import Derived.BigGuard
import Derived.Laws.Strings3
import Derived.Laws.IdiomStrings
import Derived.Lib.EndianBits
import Derived.Laws.BitsAllLaws
import Derived.WalkKit
namespace Go.Proofs.YtlecbblmaadpiaaGreatDoor
open Go.RowKit
theorem ret_int {k : IntKind} {a b : Int} (h : a = b) : Ending.returned (.int k a) = .returned (.int k b) := by rw [h]
theorem info_u8 : (Tryz.prog.info? 5).map (fun i => (i.zero, i.size, i.bytes)) = some (some (.int .u8 0), 1, 1) := by kernel_rfl
theorem size_u8 (W : World) : (sizeOf 5).run Tryz.prog W = .ok 1 W := by kernel_rfl
end Go.Proofs.YtlecbblmaadpiaaGreatDoor
/- Bytes as numbers, the highest first: the plain mathematics of Put and Get. No program's number stands here. -/
namespace Go.Proofs.YtlecbblmaadpiaaGreatDoor
open Go.RowKit
def psz (size : Int) : Nat := (min (max size 0) 8).toNat
theorem psz_le (size : Int) : psz size ≤ 8 := by unfold psz; omega
theorem psz_eq (size : Int) : min (max size 0) 8 = (psz size : Int) := by unfold psz; omega
def putRow (x n k : Nat) : Nat → Value := fun j => if n ≤ j + k then .int .u8 ((UInt8.ofNat (x / 256 ^ (n - 1 - j))).toNat : Int) else .int .u8 0
theorem byte_at_pow (x : Int) (h0 : 0 ≤ x) (k : Nat) : Value.int .u8 (x / 2 ^ (8 * k) % 256) = .int .u8 ((UInt8.ofNat (x.toNat / 256 ^ k)).toNat : Int) := by
  obtain ⟨a, rfl⟩ := Int.eq_ofNat_of_zero_le h0
  rw [UInt8.toNat_ofNat', Int.toNat_natCast]
  have e : (2 : Int) ^ (8 * k) = ((256 ^ k : Nat) : Int) := by
    rw [Int.pow_mul]
    simp
  rw [e]
  congr 1
theorem putRow_step (x : Int) (h0 : 0 ≤ x) (n k j : Nat) (hlt : k < n) (_hj : j < n) :
    (if j = n - 1 - k then Value.int .u8 (x / 2 ^ (8 * k) % 256) else putRow x.toNat n k j) = putRow x.toNat n (k + 1) j := by
  unfold putRow
  by_cases e : j = n - 1 - k
  · subst e
    rw [if_pos rfl, if_pos (by omega), byte_at_pow x h0, show n - 1 - (n - 1 - k) = k by omega]
  · rw [if_neg e]
    by_cases h : n ≤ j + k
    · rw [if_pos h, if_pos (by omega)]
    · rw [if_neg h, if_neg (by omega)]
theorem putRow_end (x n j : Nat) (hj : j < n) : putRow x n n j = .int .u8 (((be x n).getD j 0).toNat : Int) := by
  unfold putRow
  rw [if_pos (by omega)]
  simp [be, List.getD, hj]
theorem beNat_snoc (l : List UInt8) (x : UInt8) : beNat (l ++ [x]) = (beNat l * 256 + x.toNat) % 18446744073709551616 := by
  unfold beNat
  rw [List.foldl_append]
  rfl
theorem be_succ (x n : Nat) : be x (n + 1) = be (x / 256) n ++ [UInt8.ofNat x] := by
  unfold be
  rw [List.range_succ, List.map_append]
  congr 1
  · refine List.map_congr_left fun j hj => ?_
    have hj' : j < n := List.mem_range.1 hj
    rw [show n + 1 - 1 - j = (n - 1 - j) + 1 by omega, Nat.pow_succ, Nat.mul_comm, ← Nat.div_div_eq_div_mul]
  · simp
theorem beNat_be : ∀ (n x : Nat), n ≤ 8 → beNat (be x n) = x % 256 ^ n
  | 0, x, _ => by simp [be, beNat, Nat.mod_one]
  | n + 1, x, h => by
    have hp : 256 ^ (n + 1) ≤ 256 ^ 8 := Nat.pow_le_pow_right (by decide) h
    rw [be_succ, beNat_snoc, beNat_be n (x / 256) (by omega), UInt8.toNat_ofNat']
    have e : x % 256 ^ (n + 1) = x / 256 % 256 ^ n * 256 + x % 256 := by
      rw [Nat.pow_succ, Nat.mul_comm, Nat.mod_mul]
      omega
    have hlt : x % 256 ^ (n + 1) < 256 ^ (n + 1) := Nat.mod_lt _ (Nat.pow_pos (by decide))
    rw [show (2 : Nat) ^ 8 = 256 from rfl, ← e]
    exact Nat.mod_eq_of_lt (Nat.lt_of_lt_of_le hlt hp)
theorem beNat_lt (l : List UInt8) : beNat l < 18446744073709551616 := by
  rcases List.eq_nil_or_concat l with rfl | ⟨r, x, rfl⟩
  · decide
  · rw [List.concat_eq_append, beNat_snoc]; exact Nat.mod_lt _ (by decide)
theorem beNat_bd : ∀ (n : Nat) (l : List UInt8), l.length = n → n ≤ 8 → beNat l < 256 ^ n
  | 0, l, h, _ => by obtain rfl := List.eq_nil_of_length_eq_zero h; decide
  | n + 1, l, h, h8 => by
    rcases List.eq_nil_or_concat l with rfl | ⟨r, x, rfl⟩
    · simp at h
    · have hr : r.length = n := by simpa using h
      have ih := beNat_bd n r hr (by omega)
      have hx := x.toNat_lt
      have hp : 256 ^ (n + 1) ≤ 256 ^ 8 := Nat.pow_le_pow_right (by decide) h8
      have e : 256 ^ (n + 1) = 256 ^ n * 256 := Nat.pow_succ ..
      rw [List.concat_eq_append, beNat_snoc, Nat.mod_eq_of_lt (by omega)]
      omega
theorem be_beNat : ∀ (n : Nat) (l : List UInt8), l.length = n → n ≤ 8 → be (beNat l) n = l
  | 0, l, h, _ => by obtain rfl := List.eq_nil_of_length_eq_zero h; rfl
  | n + 1, l, h, h8 => by
    rcases List.eq_nil_or_concat l with rfl | ⟨r, x, rfl⟩
    · simp at h
    · have hr : r.length = n := by simpa using h
      have ih := beNat_bd n r hr (by omega)
      have hx := x.toNat_lt
      have hp : 256 ^ (n + 1) ≤ 256 ^ 8 := Nat.pow_le_pow_right (by decide) h8
      have e : 256 ^ (n + 1) = 256 ^ n * 256 := Nat.pow_succ ..
      rw [List.concat_eq_append, beNat_snoc, Nat.mod_eq_of_lt (by omega), be_succ, show (beNat r * 256 + x.toNat) / 256 = beNat r by omega, be_beNat n r hr (by omega)]
      congr 2
      apply UInt8.toNat_inj.1
      rw [UInt8.toNat_ofNat']
      omega
end Go.Proofs.YtlecbblmaadpiaaGreatDoor
/- Sums of bytes by a shift register over n bits, as plain functions: that it is linear, that a burst no longer than n is told, and what bytes with their own sum behind them come to. No program's number stands here. -/
namespace Go.Proofs.YtlecbblmaadpiaaGreatDoor
section
variable {n : Nat}
def stp (p c : BitVec n) : BitVec n := if c.getLsbD 0 then (c >>> 1) ^^^ p else c >>> 1
def stpN (p : BitVec n) : Nat → BitVec n → BitVec n
  | 0, c => c
  | k + 1, c => stpN p k (stp p c)
/-! ### Bit by bit -/
def b1 (n : Nat) (b : Bool) : BitVec n := if b then 1#n else 0#n
/-! ### Byte by byte -/
def byt (p c : BitVec n) (x : UInt8) : BitVec n := stpN p 8 (c ^^^ BitVec.ofNat n x.toNat)
def fB (p c : BitVec n) (l : List UInt8) : BitVec n := l.foldl (byt p) c
theorem fB_append (p c : BitVec n) (l m : List UInt8) : fB p c (l ++ m) = fB p (fB p c l) m := by simp [fB, List.foldl_append]
theorem fB_snoc (p c : BitVec n) (l : List UInt8) (x : UInt8) : fB p c (l ++ [x]) = byt p (fB p c l) x := by rw [fB_append]; rfl
end
/-! ### The two sums of layer 2 -/
def p16 : BitVec 16 := 0x8408#16
def p32 : BitVec 32 := 0x82f63b78#32
def s16 (l : List UInt8) : BitVec 16 := ~~~ fB p16 0xffff#16 l
def s32 (l : List UInt8) : BitVec 32 := ~~~ fB p32 0xffffffff#32 l
end Go.Proofs.YtlecbblmaadpiaaGreatDoor
/- Same of the reference: whether two slices of bytes read alike. -/
namespace Go.Proofs.YtlecbblmaadpiaaGreatDoor
open Go.RowKit
theorem same_any (A A' : Option Addr) (n c n' c' B B' : Nat) (l l' : List UInt8) (w : World) (h : Rd w B A n l) (h' : Rd w B' A' n' l') :
    Calls Tryz.prog 51 #[.slice A n c, .slice A' n' c'] w fun e w' => e = .returned (.bool (l == l')) ∧ w = w' := by
  have g := run_str (P := Tryz.prog) (c := c) h 27 5 9 Tryz.underlying27 Tryz.underlying5 Tryz.underlying9
  have g' := run_str (P := Tryz.prog) (c := c') h' 27 5 9 Tryz.underlying27 Tryz.underlying5 Tryz.underlying9
  clear h h'
  go_enter Tryz.func51, Tryz.ntmps51
  go_wp2
  go_ret
  exact ⟨rfl, rfl⟩
theorem same_true (A A' : Option Addr) (n c n' c' B B' : Nat) (l : List UInt8) (w : World) (h : Rd w B A n l) (h' : Rd w B' A' n' l) :
    Calls Tryz.prog 51 #[.slice A n c, .slice A' n' c'] w fun e w' => e = .returned (.bool true) ∧ w = w' :=
  (same_any A A' n c n' c' B B' l l w h h').mono fun _ _ ⟨he, hw⟩ => ⟨by rw [he, show (l == l) = true by simp], hw⟩
end Go.Proofs.YtlecbblmaadpiaaGreatDoor
/- What the reference of layer 2 returns: Short and Long as 's16' and 's32' of the bytes; Bytes. -/
namespace Go.Proofs.YtlecbblmaadpiaaGreatDoor
open Go.RowKit
theorem stpN_succ {n : Nat} (p : BitVec n) : ∀ (k : Nat) (c : BitVec n), stpN p (k + 1) c = stp p (stpN p k c)
  | 0, _ => rfl
  | k + 1, c => by rw [stpN, stpN_succ p k, ← stpN]
theorem stp_even {n : Nat} (p c : BitVec n) (h : c.toNat % 2 = 0) : (stp p c).toNat = c.toNat / 2 := by
  have e : c.getLsbD 0 = false := by simp [BitVec.getLsbD, Nat.testBit_zero, h]
  unfold stp
  rw [if_neg (by rw [e]; simp), BitVec.toNat_ushiftRight, Nat.shiftRight_eq_div_pow]
theorem stp_odd {n : Nat} (p c : BitVec n) (h : c.toNat % 2 = 1) : (stp p c).toNat = c.toNat / 2 ^^^ p.toNat := by
  have e : c.getLsbD 0 = true := by simp [BitVec.getLsbD, Nat.testBit_zero, h]
  unfold stp
  rw [if_pos e, BitVec.toNat_xor, BitVec.toNat_ushiftRight, Nat.shiftRight_eq_div_pow]
theorem fB_take (l : List UInt8) (n : Nat) (p c : BitVec n) (k : Nat) (h : k < l.length) : fB p c (l.take (k + 1)) = stpN p 8 (fB p c (l.take k) ^^^ BitVec.ofNat n (l.getD k 0).toNat) := by
  rw [take_more l k h, fB_snoc]; rfl
theorem byte16 (d : BitVec 16) (x : UInt8) : Value.int .u16 (bits BinOp.xor .u16 (d.toNat : Int) (x.toNat : Int)) = .int .u16 ((d ^^^ BitVec.ofNat 16 x.toNat).toNat : Int) := by
  have h1 := d.isLt
  have h2 := x.toNat_lt
  rw [u16_xor_nat _ _ h1 (by omega), BitVec.toNat_xor, BitVec.toNat_ofNat, Nat.mod_eq_of_lt (by omega)]
theorem byte32 (d : BitVec 32) (x : UInt8) : Value.int .u32 (bits BinOp.xor .u32 (d.toNat : Int) (x.toNat : Int)) = .int .u32 ((d ^^^ BitVec.ofNat 32 x.toNat).toNat : Int) := by
  have h1 := d.isLt
  have h2 := x.toNat_lt
  rw [u32_xor_nat _ _ h1 (by omega), BitVec.toNat_xor, BitVec.toNat_ofNat, Nat.mod_eq_of_lt (by omega)]
theorem step16 (f : BitVec 16) (h : f.toNat % 2 = 1) : Value.int .u16 (bits BinOp.xor .u16 ((f.toNat : Int) / 2) 33800) = .int .u16 ((stp p16 f).toNat : Int) := by
  have h1 := f.isLt
  have e := u16_xor_nat (f.toNat / 2) 33800 (by omega) (by decide)
  rw [stp_odd _ _ h, show p16.toNat = 33800 from rfl, ← e]
  rfl
theorem step32 (f : BitVec 32) (h : f.toNat % 2 = 1) : Value.int .u32 (bits BinOp.xor .u32 ((f.toNat : Int) / 2) 2197175160) = .int .u32 ((stp p32 f).toNat : Int) := by
  have h1 := f.isLt
  have e := u32_xor_nat (f.toNat / 2) 2197175160 (by omega) (by decide)
  rw [stp_odd _ _ h, show p32.toNat = 2197175160 from rfl, ← e]
  rfl
theorem not16 (d : BitVec 16) : Ending.returned (.int .u16 (65535 - (d.toNat : Int))) = .returned (.int .u16 ((~~~ d).toNat : Int)) := by
  have h := d.isLt
  rw [BitVec.toNat_not]
  exact ret_int (by omega)
theorem not32 (d : BitVec 32) : Ending.returned (.int .u32 (4294967295 - (d.toNat : Int))) = .returned (.int .u32 ((~~~ d).toNat : Int)) := by
  have h := d.isLt
  rw [BitVec.toNat_not]
  exact ret_int (by omega)
set_option maxRecDepth 100000 in
set_option maxHeartbeats 1000000 in
theorem rshort_any (A : Option Addr) (n c B : Nat) (l : List UInt8) (w : World) (h : Rd w B A n l) (hn : n ≤ 140737488355328) :
    Calls Tryz.prog 186 #[.slice A n c] w fun e w' => e = .returned (.int .u16 ((s16 l).toNat : Int)) ∧ w = w' := by
  have HR := Lib.hid h
  clear h
  go_enter Tryz.func186, Tryz.ntmps186
  go_wp2
  go_loop [3, 4] (fun v i => ∃ (k : Nat) (d : BitVec 16), k ≤ n ∧ i = .int .i64 k ∧ v = .int .u16 (d.toNat : Int) ∧ Hid (d = fB p16 0xffff#16 (l.take k))) (fun _ i => n - (intOf i).toNat)
  case atStart => exact ⟨0, 0xffff#16, Nat.zero_le _, rfl, rfl, rfl⟩
  case round =>
    obtain ⟨k, d, hk, rfl, rfl, hd⟩ := hrel
    by_cases hlt : k < n
    · obtain ⟨b, o, rfl, hb, hcell⟩ := HR.out.2 (by omega)
      obtain ⟨x, hx⟩ : ∃ x, x = l.getD k 0 := ⟨_, rfl⟩
      have hcx : w.cell? ⟨b, o + k, none⟩ = some (.int .u8 (x.toNat : Int)) := by rw [hx]; exact hcell k hlt
      have Hx := Lib.hid hx
      clear hx hcell
      have hx1 : (x.toNat : Int) < 256 := by have := x.toNat_lt; omega
      have hx0 : (0 : Int) ≤ (x.toNat : Int) := by omega
      have hd1 : (d.toNat : Int) < 65536 := by have := d.isLt; omega
      go_wp2_with fail
      clear hx0 hx1 hd1
      go_loop [3, 5] (fun v i => ∃ (j : Nat) (f : BitVec 16), j ≤ 8 ∧ i = .int .i64 j ∧ v = .int .u16 (f.toNat : Int) ∧ Hid (f = stpN p16 j (d ^^^ BitVec.ofNat 16 x.toNat))) (fun _ i => 8 - (intOf i).toNat)
      case atStart => exact ⟨0, d ^^^ BitVec.ofNat 16 x.toNat, by omega, rfl, byte16 d x, rfl⟩
      case round =>
        obtain ⟨j, f, hj, rfl, rfl, hf⟩ := hrel
        by_cases hj8 : j < 8
        · obtain ⟨F, hF⟩ : ∃ F, F = f.toNat := ⟨_, rfl⟩
          have hf1 : F < 65536 := by have := f.isLt; omega
          rw [← hF]
          have HF := Lib.hid hF
          clear hF
          rcases Nat.mod_two_eq_zero_or_one F with he | he
          · have ht : ((F : Int) % 2 == 1) = false := by simp; omega
            have HE := Lib.hid he
            clear he
            go_wp2_with fail
            go_round
            case rel => exact ⟨j + 1, stp p16 f, by omega, by go_num, by rw [stp_even _ _ (by rw [← HF.out]; exact HE.out), ← HF.out]; rfl, by show _ = _; rw [stpN_succ, ← hf.out]⟩
            case measure => simp [intOf]; omega
          · have ht : ((F : Int) % 2 == 1) = true := by simp; omega
            have HE := Lib.hid he
            clear he
            go_wp2_with fail
            go_round
            case rel => exact ⟨j + 1, stp p16 f, by omega, by go_num, by rw [HF.out]; exact step16 f (by rw [← HF.out]; exact HE.out), by show _ = _; rw [stpN_succ, ← hf.out]⟩
            case measure => simp [intOf]; omega
        · obtain rfl : j = 8 := by omega
          go_wp2_with fail
          go_round
          case rel =>
            refine ⟨k + 1, f, by omega, by go_num, rfl, ?_⟩
            show f = _
            rw [fB_take l 16 _ _ k (by have := HR.out.1; omega), ← hd.out, ← Hx.out]
            exact hf.out
          case measure => simp [intOf]; omega
    · obtain rfl : k = n := by omega
      have hl := HR.out.1
      have hfin : s16 l = ~~~ d := by rw [hd.out, List.take_of_length_le (by omega)]; rfl
      have HF := Lib.hid hfin
      have hd1 : (d.toNat : Int) < 65536 := by have := d.isLt; omega
      clear hfin hl
      go_wp2_with fail
      go_ret
      exact ⟨by rw [HF.out]; exact not16 d, rfl⟩
set_option maxRecDepth 100000 in
set_option maxHeartbeats 1000000 in
theorem rlong_any (A : Option Addr) (n c B : Nat) (l : List UInt8) (w : World) (h : Rd w B A n l) (hn : n ≤ 140737488355328) :
    Calls Tryz.prog 187 #[.slice A n c] w fun e w' => e = .returned (.int .u32 ((s32 l).toNat : Int)) ∧ w = w' := by
  have HR := Lib.hid h
  clear h
  go_enter Tryz.func187, Tryz.ntmps187
  go_wp2
  go_loop [3, 4] (fun v i => ∃ (k : Nat) (d : BitVec 32), k ≤ n ∧ i = .int .i64 k ∧ v = .int .u32 (d.toNat : Int) ∧ Hid (d = fB p32 0xffffffff#32 (l.take k))) (fun _ i => n - (intOf i).toNat)
  case atStart => exact ⟨0, 0xffffffff#32, Nat.zero_le _, rfl, rfl, rfl⟩
  case round =>
    obtain ⟨k, d, hk, rfl, rfl, hd⟩ := hrel
    by_cases hlt : k < n
    · obtain ⟨b, o, rfl, hb, hcell⟩ := HR.out.2 (by omega)
      obtain ⟨x, hx⟩ : ∃ x, x = l.getD k 0 := ⟨_, rfl⟩
      have hcx : w.cell? ⟨b, o + k, none⟩ = some (.int .u8 (x.toNat : Int)) := by rw [hx]; exact hcell k hlt
      have Hx := Lib.hid hx
      clear hx hcell
      have hx1 : (x.toNat : Int) < 256 := by have := x.toNat_lt; omega
      have hx0 : (0 : Int) ≤ (x.toNat : Int) := by omega
      have hd1 : (d.toNat : Int) < 4294967296 := by have := d.isLt; omega
      go_wp2_with fail
      clear hx0 hx1 hd1
      go_loop [3, 5] (fun v i => ∃ (j : Nat) (f : BitVec 32), j ≤ 8 ∧ i = .int .i64 j ∧ v = .int .u32 (f.toNat : Int) ∧ Hid (f = stpN p32 j (d ^^^ BitVec.ofNat 32 x.toNat))) (fun _ i => 8 - (intOf i).toNat)
      case atStart => exact ⟨0, d ^^^ BitVec.ofNat 32 x.toNat, by omega, rfl, byte32 d x, rfl⟩
      case round =>
        obtain ⟨j, f, hj, rfl, rfl, hf⟩ := hrel
        by_cases hj8 : j < 8
        · obtain ⟨F, hF⟩ : ∃ F, F = f.toNat := ⟨_, rfl⟩
          have hf1 : F < 4294967296 := by have := f.isLt; omega
          rw [← hF]
          have HF := Lib.hid hF
          clear hF
          rcases Nat.mod_two_eq_zero_or_one F with he | he
          · have ht : ((F : Int) % 2 == 1) = false := by simp; omega
            have HE := Lib.hid he
            clear he
            go_wp2_with fail
            go_round
            case rel => exact ⟨j + 1, stp p32 f, by omega, by go_num, by rw [stp_even _ _ (by rw [← HF.out]; exact HE.out), ← HF.out]; rfl, by show _ = _; rw [stpN_succ, ← hf.out]⟩
            case measure => simp [intOf]; omega
          · have ht : ((F : Int) % 2 == 1) = true := by simp; omega
            have HE := Lib.hid he
            clear he
            go_wp2_with fail
            go_round
            case rel => exact ⟨j + 1, stp p32 f, by omega, by go_num, by rw [HF.out]; exact step32 f (by rw [← HF.out]; exact HE.out), by show _ = _; rw [stpN_succ, ← hf.out]⟩
            case measure => simp [intOf]; omega
        · obtain rfl : j = 8 := by omega
          go_wp2_with fail
          go_round
          case rel =>
            refine ⟨k + 1, f, by omega, by go_num, rfl, ?_⟩
            show f = _
            rw [fB_take l 32 _ _ k (by have := HR.out.1; omega), ← hd.out, ← Hx.out]
            exact hf.out
          case measure => simp [intOf]; omega
    · obtain rfl : k = n := by omega
      have hl := HR.out.1
      have hfin : s32 l = ~~~ d := by rw [hd.out, List.take_of_length_le (by omega)]; rfl
      have HF := Lib.hid hfin
      have hd1 : (d.toNat : Int) < 4294967296 := by have := d.isLt; omega
      clear hfin hl
      go_wp2_with fail
      go_ret
      exact ⟨by rw [HF.out]; exact not32 d, rfl⟩
def crcBytes (kind : Int) (l : List UInt8) : List UInt8 := if kind = 1 then be (s16 l).toNat 2 else if kind = 2 then be (s32 l).toNat 4 else []
theorem be2 (v : Nat) : be v 2 = [UInt8.ofNat (v / 256), UInt8.ofNat v] := by simp [be, List.range_succ]
theorem be4 (v : Nat) : be v 4 = [UInt8.ofNat (v / 16777216), UInt8.ofNat (v / 65536), UInt8.ofNat (v / 256), UInt8.ofNat v] := by simp [be, List.range_succ]
theorem low8 (v : Nat) : Value.int .u8 (v % 256 : Int) = .int .u8 ((UInt8.ofNat v).toNat : Int) := by rw [UInt8.toNat_ofNat']; rfl
theorem low8_of (v : Nat) (h : v < 256) : Value.int .u8 (v : Int) = .int .u8 ((UInt8.ofNat v).toNat : Int) := by rw [UInt8.toNat_ofNat', Nat.mod_eq_of_lt h]
theorem gives_nil (w : World) : Gives [] w (.returned (.slice none 0 0)) w := ⟨none, 0, 0, rfl, Rd.nil_, Nat.le_refl _, Below.refl _ _⟩
theorem gives_lit (w : World) (t : TypeId) (l : List UInt8) (cs : Array Value) (n : Nat) (hn : l.length = n) (hcs : cs = (l.map fun x => Value.int .u8 (x.toNat : Int)).toArray) :
    Gives l w (.returned (.slice (some ⟨w.heap.size, 0, none⟩) n n)) (w.alloc (.cells cs t)) :=
  ⟨_, n, n, rfl, (Rd.lit w _ rfl l t cs hcs n hn).more (by simp), Nat.le_refl _, (Below.refl _ _).alloc (Nat.le_refl _) _⟩
theorem cs2 (v : Nat) (h : v < 65536) : #[Value.int .u8 ((v : Int) / 256), .int .u8 ((v : Int) % 256)] = (([UInt8.ofNat (v / 256), UInt8.ofNat v] : List UInt8).map fun x => Value.int .u8 (x.toNat : Int)).toArray := by
  rw [low8 v, show (v : Int) / 256 = ((v / 256 : Nat) : Int) from rfl, low8_of (v / 256) (by omega)]
  rfl
theorem cs4 (v : Nat) (h : v < 4294967296) : #[Value.int .u8 ((v : Int) / 16777216), .int .u8 ((v : Int) / 65536 % 256), .int .u8 ((v : Int) / 256 % 256), .int .u8 ((v : Int) % 256)] =
    (([UInt8.ofNat (v / 16777216), UInt8.ofNat (v / 65536), UInt8.ofNat (v / 256), UInt8.ofNat v] : List UInt8).map fun x => Value.int .u8 (x.toNat : Int)).toArray := by
  rw [low8 v, show (v : Int) / 256 = ((v / 256 : Nat) : Int) from rfl, show (v : Int) / 65536 = ((v / 65536 : Nat) : Int) from rfl, show (v : Int) / 16777216 = ((v / 16777216 : Nat) : Int) from rfl,
    low8 (v / 256), low8 (v / 65536), low8_of (v / 16777216) (by omega)]
  rfl
set_option maxRecDepth 100000 in
set_option maxHeartbeats 1000000 in
theorem crbytes_any (kind : Int) (A : Option Addr) (n c B : Nat) (l : List UInt8) (w : World) (h : Rd w B A n l) (hn : n ≤ 140737488355328) :
    Calls Tryz.prog 147 #[.int .i64 kind, .slice A n c] w (Gives (crcBytes kind l) w) := by
  have c1 := rshort_any A n c B l w h hn
  have c2 := rlong_any A n c B l w h hn
  have v1 := (s16 l).isLt
  have v2 := (s32 l).isLt
  clear h
  by_cases h1 : kind = 1
  · subst h1
    rw [show crcBytes 1 l = be (s16 l).toNat 2 from rfl, be2]
    generalize (s16 l).toNat = v at *
    have C1 := Lib.hid c1
    clear c1 c2
    go_enter Tryz.func147, Tryz.ntmps147
    go_wp2_with fail
    refine C1.out.mono ?_
    rintro e w' ⟨rfl, rfl⟩
    go_wp2_with fail
    go_ret
    exact gives_lit w _ _ _ 2 rfl (cs2 v v1)
  · by_cases h2 : kind = 2
    · subst h2
      rw [show crcBytes 2 l = be (s32 l).toNat 4 from rfl, be4]
      generalize (s32 l).toNat = v at *
      have C2 := Lib.hid c2
      clear c1 c2
      go_enter Tryz.func147, Tryz.ntmps147
      go_wp2_with fail
      refine C2.out.mono ?_
      rintro e w' ⟨rfl, rfl⟩
      go_wp2_with fail
      go_ret
      exact gives_lit w _ _ _ 4 rfl (cs4 v v2)
    · rw [show crcBytes kind l = [] by unfold crcBytes; rw [if_neg h1, if_neg h2]]
      have e1 : (kind == 1) = false := by simpa using h1
      have e2 : (kind == 2) = false := by simpa using h2
      clear h1 h2 c1 c2
      go_enter Tryz.func147, Tryz.ntmps147
      go_wp2_with fail
      go_ret
      exact gives_nil w
end Go.Proofs.YtlecbblmaadpiaaGreatDoor
/- What Short, Long and Bytes of layer 2 return. -/
namespace Go.Proofs.YtlecbblmaadpiaaGreatDoor
open Go.RowKit
theorem and16 (F : Nat) (h : F < 65536) : bits BinOp.and .u16 (F : Int) 1 = ((F % 2 : Nat) : Int) := by
  have e := u16_and_nat F 1 h (by decide)
  rw [Nat.and_one_is_mod] at e
  exact e
theorem and32 (F : Nat) (h : F < 4294967296) : bits BinOp.and .u32 (F : Int) 1 = ((F % 2 : Nat) : Int) := by
  have e := u32_and_nat F 1 h (by decide)
  rw [Nat.and_one_is_mod] at e
  exact e
theorem flip16 (d : BitVec 16) : Ending.returned (.int .u16 (bits BinOp.xor .u16 IntKind.u16.max (d.toNat : Int))) = .returned (.int .u16 ((~~~ d).toNat : Int)) := by
  have e := u16_xor_nat 65535 d.toNat (by decide) d.isLt
  rw [show IntKind.u16.max = ((65535 : Nat) : Int) from rfl, e, show (65535 : Nat) = (BitVec.allOnes 16).toNat from rfl, ← BitVec.toNat_xor, BitVec.allOnes_xor]
theorem flip32 (d : BitVec 32) : Ending.returned (.int .u32 (bits BinOp.xor .u32 IntKind.u32.max (d.toNat : Int))) = .returned (.int .u32 ((~~~ d).toNat : Int)) := by
  have e := u32_xor_nat 4294967295 d.toNat (by decide) d.isLt
  rw [show IntKind.u32.max = ((4294967295 : Nat) : Int) from rfl, e, show (4294967295 : Nat) = (BitVec.allOnes 32).toNat from rfl, ← BitVec.toNat_xor, BitVec.allOnes_xor]
set_option maxRecDepth 100000 in
set_option maxHeartbeats 1000000 in
theorem sum16_any (A : Option Addr) (n c B : Nat) (l : List UInt8) (w : World) (h : Rd w B A n l) (hn : n ≤ 140737488355328) :
    Calls Tryz.prog 213 #[.slice A n c, .int .u16 33800] w fun e w' => e = .returned (.int .u16 ((s16 l).toNat : Int)) ∧ w = w' := by
  have HR := Lib.hid h
  clear h
  go_enter Tryz.func213, Tryz.ntmps213
  go_wp2
  go_loop [5, 13] (fun v i => ∃ (k : Nat) (d : BitVec 16), k ≤ n ∧ i = .int .i64 k ∧ v = .int .u16 (d.toNat : Int) ∧ Hid (d = fB p16 0xffff#16 (l.take k))) (fun _ i => n - (intOf i).toNat)
  case atStart => exact ⟨0, 0xffff#16, Nat.zero_le _, rfl, rfl, rfl⟩
  case round =>
    obtain ⟨k, d, hk, rfl, rfl, hd⟩ := hrel
    by_cases hlt : k < n
    · obtain ⟨b, o, rfl, hb, hcell⟩ := HR.out.2 (by omega)
      obtain ⟨x, hx⟩ : ∃ x, x = l.getD k 0 := ⟨_, rfl⟩
      have hcx : w.cell? ⟨b, o + k, none⟩ = some (.int .u8 (x.toNat : Int)) := by rw [hx]; exact hcell k hlt
      have Hx := Lib.hid hx
      clear hx hcell
      have hx1 : (x.toNat : Int) < 256 := by have := x.toNat_lt; omega
      have hx0 : (0 : Int) ≤ (x.toNat : Int) := by omega
      have hd1 : (d.toNat : Int) < 65536 := by have := d.isLt; omega
      go_wp2_with fail
      clear hx0 hx1 hd1
      go_loop [5, 21] (fun v i => ∃ (j : Nat) (f : BitVec 16), j ≤ 8 ∧ i = .int .i64 j ∧ v = .int .u16 (f.toNat : Int) ∧ Hid (f = stpN p16 j (d ^^^ BitVec.ofNat 16 x.toNat))) (fun _ i => 8 - (intOf i).toNat)
      case atStart => exact ⟨0, d ^^^ BitVec.ofNat 16 x.toNat, by omega, rfl, byte16 d x, rfl⟩
      case round =>
        obtain ⟨j, f, hj, rfl, rfl, hf⟩ := hrel
        by_cases hj8 : j < 8
        · obtain ⟨F, hF⟩ : ∃ F, F = f.toNat := ⟨_, rfl⟩
          have hf1 : F < 65536 := by have := f.isLt; omega
          rw [← hF]
          have HF := Lib.hid hF
          clear hF
          rcases Nat.mod_two_eq_zero_or_one F with he | he
          · have ht : (bits BinOp.and .u16 (F : Int) 1 == 1) = false := by rw [and16 F hf1, he]; rfl
            have HE := Lib.hid he
            clear he
            go_wp2_with fail
            go_round
            case rel => exact ⟨j + 1, stp p16 f, by omega, by go_num, by rw [stp_even _ _ (by rw [← HF.out]; exact HE.out), ← HF.out]; rfl, by show _ = _; rw [stpN_succ, ← hf.out]⟩
            case measure => simp [intOf]; omega
          · have ht : (bits BinOp.and .u16 (F : Int) 1 == 1) = true := by rw [and16 F hf1, he]; rfl
            have HE := Lib.hid he
            clear he
            go_wp2_with fail
            go_round
            case rel => exact ⟨j + 1, stp p16 f, by omega, by go_num, by rw [HF.out]; exact step16 f (by rw [← HF.out]; exact HE.out), by show _ = _; rw [stpN_succ, ← hf.out]⟩
            case measure => simp [intOf]; omega
        · obtain rfl : j = 8 := by omega
          go_wp2_with fail
          go_round
          case rel =>
            refine ⟨k + 1, f, by omega, by go_num, rfl, ?_⟩
            show f = _
            rw [fB_take l 16 _ _ k (by have := HR.out.1; omega), ← hd.out, ← Hx.out]
            exact hf.out
          case measure => simp [intOf]; omega
    · obtain rfl : k = n := by omega
      have hl := HR.out.1
      have hfin : s16 l = ~~~ d := by rw [hd.out, List.take_of_length_le (by omega)]; rfl
      have HF := Lib.hid hfin
      have hd1 : (d.toNat : Int) < 65536 := by have := d.isLt; omega
      clear hfin hl
      go_wp2_with fail
      go_ret
      exact ⟨by rw [HF.out]; exact flip16 d, rfl⟩
set_option maxRecDepth 100000 in
set_option maxHeartbeats 1000000 in
theorem sum32_any (A : Option Addr) (n c B : Nat) (l : List UInt8) (w : World) (h : Rd w B A n l) (hn : n ≤ 140737488355328) :
    Calls Tryz.prog 214 #[.slice A n c, .int .u32 2197175160] w fun e w' => e = .returned (.int .u32 ((s32 l).toNat : Int)) ∧ w = w' := by
  have HR := Lib.hid h
  clear h
  go_enter Tryz.func214, Tryz.ntmps214
  go_wp2
  go_loop [5, 13] (fun v i => ∃ (k : Nat) (d : BitVec 32), k ≤ n ∧ i = .int .i64 k ∧ v = .int .u32 (d.toNat : Int) ∧ Hid (d = fB p32 0xffffffff#32 (l.take k))) (fun _ i => n - (intOf i).toNat)
  case atStart => exact ⟨0, 0xffffffff#32, Nat.zero_le _, rfl, rfl, rfl⟩
  case round =>
    obtain ⟨k, d, hk, rfl, rfl, hd⟩ := hrel
    by_cases hlt : k < n
    · obtain ⟨b, o, rfl, hb, hcell⟩ := HR.out.2 (by omega)
      obtain ⟨x, hx⟩ : ∃ x, x = l.getD k 0 := ⟨_, rfl⟩
      have hcx : w.cell? ⟨b, o + k, none⟩ = some (.int .u8 (x.toNat : Int)) := by rw [hx]; exact hcell k hlt
      have Hx := Lib.hid hx
      clear hx hcell
      have hx1 : (x.toNat : Int) < 256 := by have := x.toNat_lt; omega
      have hx0 : (0 : Int) ≤ (x.toNat : Int) := by omega
      have hd1 : (d.toNat : Int) < 4294967296 := by have := d.isLt; omega
      go_wp2_with fail
      clear hx0 hx1 hd1
      go_loop [5, 21] (fun v i => ∃ (j : Nat) (f : BitVec 32), j ≤ 8 ∧ i = .int .i64 j ∧ v = .int .u32 (f.toNat : Int) ∧ Hid (f = stpN p32 j (d ^^^ BitVec.ofNat 32 x.toNat))) (fun _ i => 8 - (intOf i).toNat)
      case atStart => exact ⟨0, d ^^^ BitVec.ofNat 32 x.toNat, by omega, rfl, byte32 d x, rfl⟩
      case round =>
        obtain ⟨j, f, hj, rfl, rfl, hf⟩ := hrel
        by_cases hj8 : j < 8
        · obtain ⟨F, hF⟩ : ∃ F, F = f.toNat := ⟨_, rfl⟩
          have hf1 : F < 4294967296 := by have := f.isLt; omega
          rw [← hF]
          have HF := Lib.hid hF
          clear hF
          rcases Nat.mod_two_eq_zero_or_one F with he | he
          · have ht : (bits BinOp.and .u32 (F : Int) 1 == 1) = false := by rw [and32 F hf1, he]; rfl
            have HE := Lib.hid he
            clear he
            go_wp2_with fail
            go_round
            case rel => exact ⟨j + 1, stp p32 f, by omega, by go_num, by rw [stp_even _ _ (by rw [← HF.out]; exact HE.out), ← HF.out]; rfl, by show _ = _; rw [stpN_succ, ← hf.out]⟩
            case measure => simp [intOf]; omega
          · have ht : (bits BinOp.and .u32 (F : Int) 1 == 1) = true := by rw [and32 F hf1, he]; rfl
            have HE := Lib.hid he
            clear he
            go_wp2_with fail
            go_round
            case rel => exact ⟨j + 1, stp p32 f, by omega, by go_num, by rw [HF.out]; exact step32 f (by rw [← HF.out]; exact HE.out), by show _ = _; rw [stpN_succ, ← hf.out]⟩
            case measure => simp [intOf]; omega
        · obtain rfl : j = 8 := by omega
          go_wp2_with fail
          go_round
          case rel =>
            refine ⟨k + 1, f, by omega, by go_num, rfl, ?_⟩
            show f = _
            rw [fB_take l 32 _ _ k (by have := HR.out.1; omega), ← hd.out, ← Hx.out]
            exact hf.out
          case measure => simp [intOf]; omega
    · obtain rfl : k = n := by omega
      have hl := HR.out.1
      have hfin : s32 l = ~~~ d := by rw [hd.out, List.take_of_length_le (by omega)]; rfl
      have HF := Lib.hid hfin
      have hd1 : (d.toNat : Int) < 4294967296 := by have := d.isLt; omega
      clear hfin hl
      go_wp2_with fail
      go_ret
      exact ⟨by rw [HF.out]; exact flip32 d, rfl⟩
theorem short_any (A : Option Addr) (n c B : Nat) (l : List UInt8) (w : World) (h : Rd w B A n l) (hn : n ≤ 140737488355328) :
    Calls Tryz.prog 184 #[.slice A n c] w fun e w' => e = .returned (.int .u16 ((s16 l).toNat : Int)) ∧ w = w' := by
  have C := Lib.hid (sum16_any A n c B l w h hn)
  clear h
  go_enter Tryz.func184, Tryz.ntmps184
  go_wp2_with fail
  refine C.out.mono ?_
  rintro e w' ⟨rfl, rfl⟩
  go_wp2_with fail
  go_ret
  exact ⟨rfl, rfl⟩
theorem long_any (A : Option Addr) (n c B : Nat) (l : List UInt8) (w : World) (h : Rd w B A n l) (hn : n ≤ 140737488355328) :
    Calls Tryz.prog 185 #[.slice A n c] w fun e w' => e = .returned (.int .u32 ((s32 l).toNat : Int)) ∧ w = w' := by
  have C := Lib.hid (sum32_any A n c B l w h hn)
  clear h
  go_enter Tryz.func185, Tryz.ntmps185
  go_wp2_with fail
  refine C.out.mono ?_
  rintro e w' ⟨rfl, rfl⟩
  go_wp2_with fail
  go_ret
  exact ⟨rfl, rfl⟩
set_option maxRecDepth 100000 in
set_option maxHeartbeats 1000000 in
theorem bytes_any (kind : Int) (A : Option Addr) (n c B : Nat) (l : List UInt8) (w : World) (h : Rd w B A n l) (hn : n ≤ 140737488355328) :
    Calls Tryz.prog 146 #[.int .i64 kind, .slice A n c] w (Gives (crcBytes kind l) w) := by
  have c1 := short_any A n c B l w h hn
  have c2 := long_any A n c B l w h hn
  have v1 := (s16 l).isLt
  have v2 := (s32 l).isLt
  clear h
  by_cases h1 : kind = 1
  · subst h1
    rw [show crcBytes 1 l = be (s16 l).toNat 2 from rfl, be2]
    generalize (s16 l).toNat = v at *
    have C1 := Lib.hid c1
    clear c1 c2
    go_enter Tryz.func146, Tryz.ntmps146
    go_wp2_with fail
    refine C1.out.mono ?_
    rintro e w' ⟨rfl, rfl⟩
    go_wp2_with fail
    go_ret
    exact gives_lit w _ _ _ 2 rfl (cs2 v v1)
  · by_cases h2 : kind = 2
    · subst h2
      rw [show crcBytes 2 l = be (s32 l).toNat 4 from rfl, be4]
      generalize (s32 l).toNat = v at *
      have C2 := Lib.hid c2
      clear c1 c2
      go_enter Tryz.func146, Tryz.ntmps146
      go_wp2_with fail
      refine C2.out.mono ?_
      rintro e w' ⟨rfl, rfl⟩
      go_wp2_with fail
      go_ret
      exact gives_lit w _ _ _ 4 rfl (cs4 v v2)
    · rw [show crcBytes kind l = [] by unfold crcBytes; rw [if_neg h1, if_neg h2]]
      have e1 : (kind == 1) = false := by simpa using h1
      have e2 : (kind == 2) = false := by simpa using h2
      clear h1 h2 c1 c2
      go_enter Tryz.func146, Tryz.ntmps146
      go_wp2_with fail
      go_ret
      exact gives_nil w
end Go.Proofs.YtlecbblmaadpiaaGreatDoor
/- '[]byte(s)' of a string that is no constant: a new slice that reads as its bytes. -/
namespace Go.Proofs.YtlecbblmaadpiaaGreatDoor
open Go.RowKit
theorem conv_bytes (W : World) (s : ByteArray) : ∃ (c : Nat) (W' : World), (convert 9 27 (.string s)).run Tryz.prog W = .ok (.slice (some ⟨W.heap.size, 0, none⟩) s.size c) W' ∧
    Rd W' (W.heap.size + 1) (some ⟨W.heap.size, 0, none⟩) s.size s.data.toList ∧ s.size ≤ c ∧ Below W.heap.size W W' ∧ W'.heap.size = W.heap.size + 1 := by
  refine ⟨_, _, run_bytes_of_string W _ _ 5 s Tryz.underlying9 Tryz.underlying27 Tryz.underlying5, ⟨by simp, fun _ => ⟨_, 0, rfl, Nat.lt_succ_self _, fun i hi => ?_⟩⟩, ?_, ?_, ?_⟩
  · rw [Nat.zero_add]
    have h := World.cell?_alloc_mark W.drew (bytesRow s (grownCap W s.size 0 5)) 5 ((bytesRow s (grownCap W s.size 0 5)).size, (bytesRow s (grownCap W s.size 0 5)).size + 1) i
    refine Eq.trans h ?_
    have hi' : i < s.data.size := hi
    unfold bytesRow
    rw [Array.getElem?_append_left (by simpa using hi')]
    simp only [Array.getElem?_map, Array.getElem?_eq_getElem hi', Option.map_some, List.getD, Array.getElem?_toList, Option.getD_some]
  · exact grownCap_ge W s.size 0 _
  · exact ((Below.refl W.heap.size W).drew).alloc (Nat.le_refl _) _
  · simp
end Go.Proofs.YtlecbblmaadpiaaGreatDoor
/- What Put returns: the lowest bytes of a number, the highest first, in new memory. -/
namespace Go.Proofs.YtlecbblmaadpiaaGreatDoor
open Go.RowKit
set_option maxRecDepth 100000 in
set_option maxHeartbeats 1000000 in
theorem put_any (x size : Int) (w : World) (hx0 : 0 ≤ x) (_hx1 : x < 18446744073709551616) :
    Calls Tryz.prog 207 #[.int .u64 x, .int .i64 size] w fun e w' =>
      e = .returned (.slice (some ⟨w.heap.size, 0, none⟩) (psz size) (psz size)) ∧ Rb w' w.heap.size 5 (psz size) (be x.toNat (psz size)) ∧ Below w.heap.size w w' := by
  have hsz := psz_eq size
  have hle := psz_le size
  generalize psz size = n at *
  have hmk := fun (w : World) => run_make_row' (P := Tryz.prog) 27 5 (.int .u8 0) 1 rfl info_u8 rfl .i64 .i64 n (by omega) (by omega) w
  go_enter Tryz.func207, Tryz.ntmps207
  go_wp2
  go_loopw [13] (fun i wr => ∃ k : Nat, k ≤ n ∧ i = .int .i64 k ∧ Hid (wr.rowIs w.heap.size 5 n (putRow x.toNat n k)) ∧ Hid (Below w.heap.size w wr))
    (fun i _ => n - (intOf i).toNat)
  case atStart => exact ⟨0, Nat.zero_le _, rfl, (World.rowIs_made _ _ _ _).congr (fun j hj => by simp [putRow]; omega), (Below.refl _ _).alloc (Nat.le_refl _) _⟩
  case round =>
    obtain ⟨k, hk, rfl, hrow, hbel⟩ := hrel
    by_cases hlt : k < n
    · have hf1 : wr.frozen? ⟨w.heap.size, n - 1 - k, none⟩ = false := World.rowIs.frozen hrow.out _
      have hc1 : wr.cell? ⟨w.heap.size, n - 1 - k, none⟩ = some _ := World.rowIs.cell hrow.out (by omega)
      go_wp2_with fail
      go_roundw
      case rel =>
        refine ⟨k + 1, by omega, by go_num, (World.rowIs.set hrow.out _ _).congr fun j hj => ?_, hbel.out.setCell (by simp) _⟩
        exact putRow_step x hx0 n k j hlt hj
      case measure => simp [intOf]; omega
    · obtain rfl : k = n := by omega
      have hr : Rb wr w.heap.size 5 k (be x.toNat k) := hrow.out.congr fun j hj => putRow_end x.toNat k j hj
      have HR := Lib.hid hr
      clear hr
      go_wp2
      go_ret
      exact ⟨rfl, HR.out, hbel.out⟩
end Go.Proofs.YtlecbblmaadpiaaGreatDoor
/- What Get returns: the number of the last eight bytes. -/
namespace Go.Proofs.YtlecbblmaadpiaaGreatDoor
open Go.RowKit
end Go.Proofs.YtlecbblmaadpiaaGreatDoor
