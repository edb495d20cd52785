/- Same of the reference: whether two slices of bytes read alike. -/
import Derived.Test.YtahgaogmcffglaaDoorJBase
import Derived.Test.YtahgaogmcffglaaDoorJCrcW
namespace Go.Proofs.YtahgaogmcffglaaDoor
open Go.RowKit

theorem same_any (A A' : Option Addr) (n c n' c' B B' : Nat) (l l' : List UInt8) (w : World) (h : Rd w B A n l) (h' : Rd w B' A' n' l') :
    Calls Tryd.prog 15 #[.slice A n c, .slice A' n' c'] w fun e w' => e = .returned (.bool (l == l')) ∧ w = w' := by
  have g := run_str (P := Tryd.prog) (c := c) h 33 5 9 Tryd.underlying33 Tryd.underlying5 Tryd.underlying9
  have g' := run_str (P := Tryd.prog) (c := c') h' 33 5 9 Tryd.underlying33 Tryd.underlying5 Tryd.underlying9
  clear h h'
  go_enter Tryd.func15, Tryd.ntmps15
  go_wp2
  go_ret
  exact ⟨rfl, rfl⟩

theorem same_true (A A' : Option Addr) (n c n' c' B B' : Nat) (l : List UInt8) (w : World) (h : Rd w B A n l) (h' : Rd w B' A' n' l) :
    Calls Tryd.prog 15 #[.slice A n c, .slice A' n' c'] w fun e w' => e = .returned (.bool true) ∧ w = w' :=
  (same_any A A' n c n' c' B B' l l w h h').mono fun _ _ ⟨he, hw⟩ => ⟨by rw [he, show (l == l) = true by simp], hw⟩
end Go.Proofs.YtahgaogmcffglaaDoor
/- What the reference of layer 2 returns: Short and Long as 's16' and 's32' of the bytes; Bytes. -/
namespace Go.Proofs.YtahgaogmcffglaaDoor
open Go.RowKit

theorem stpN_succ {n : Nat} (p : BitVec n) : ∀ (k : Nat) (c : BitVec n), stpN p (k + 1) c = stp p (stpN p k c)
  | 0, _ => rfl
  | k + 1, c => by rw [stpN, stpN_succ p k, ← stpN]

/-- A step, as numbers: no one goes out. -/
theorem stp_even {n : Nat} (p c : BitVec n) (h : c.toNat % 2 = 0) : (stp p c).toNat = c.toNat / 2 := by
  have e : c.getLsbD 0 = false := by simp [BitVec.getLsbD, Nat.testBit_zero, h]
  unfold stp
  rw [if_neg (by rw [e]; simp), BitVec.toNat_ushiftRight, Nat.shiftRight_eq_div_pow]
theorem stp_odd {n : Nat} (p c : BitVec n) (h : c.toNat % 2 = 1) : (stp p c).toNat = c.toNat / 2 ^^^ p.toNat := by
  have e : c.getLsbD 0 = true := by simp [BitVec.getLsbD, Nat.testBit_zero, h]
  unfold stp
  rw [if_pos e, BitVec.toNat_xor, BitVec.toNat_ushiftRight, Nat.shiftRight_eq_div_pow]
theorem fB_take (l : List UInt8) (n : Nat) (p c : BitVec n) (k : Nat) (h : k < l.length) : fB p c (l.take (k + 1)) = stpN p 8 (fB p c (l.take k) ^^^ BitVec.ofNat n (l.getD k 0).toNat) := by
  rw [take_more l k h, fB_snoc]; rfl

theorem byte16 (d : BitVec 16) (x : UInt8) : Value.int .u16 (bits BinOp.xor .u16 (d.toNat : Int) (x.toNat : Int)) = .int .u16 ((d ^^^ BitVec.ofNat 16 x.toNat).toNat : Int) := by
  have h1 := d.isLt
  have h2 := x.toNat_lt
  rw [u16_xor_nat _ _ h1 (by omega), BitVec.toNat_xor, BitVec.toNat_ofNat, Nat.mod_eq_of_lt (by omega)]
theorem byte32 (d : BitVec 32) (x : UInt8) : Value.int .u32 (bits BinOp.xor .u32 (d.toNat : Int) (x.toNat : Int)) = .int .u32 ((d ^^^ BitVec.ofNat 32 x.toNat).toNat : Int) := by
  have h1 := d.isLt
  have h2 := x.toNat_lt
  rw [u32_xor_nat _ _ h1 (by omega), BitVec.toNat_xor, BitVec.toNat_ofNat, Nat.mod_eq_of_lt (by omega)]
theorem step16 (f : BitVec 16) (h : f.toNat % 2 = 1) : Value.int .u16 (bits BinOp.xor .u16 ((f.toNat : Int) / 2) 33800) = .int .u16 ((stp p16 f).toNat : Int) := by
  have h1 := f.isLt
  have e := u16_xor_nat (f.toNat / 2) 33800 (by omega) (by decide)
  rw [stp_odd _ _ h, show p16.toNat = 33800 from rfl, ← e]
  rfl
theorem step32 (f : BitVec 32) (h : f.toNat % 2 = 1) : Value.int .u32 (bits BinOp.xor .u32 ((f.toNat : Int) / 2) 2197175160) = .int .u32 ((stp p32 f).toNat : Int) := by
  have h1 := f.isLt
  have e := u32_xor_nat (f.toNat / 2) 2197175160 (by omega) (by decide)
  rw [stp_odd _ _ h, show p32.toNat = 2197175160 from rfl, ← e]
  rfl
theorem not16 (d : BitVec 16) : Ending.returned (.int .u16 (65535 - (d.toNat : Int))) = .returned (.int .u16 ((~~~ d).toNat : Int)) := by
  have h := d.isLt
  rw [BitVec.toNat_not]
  exact ret_int (by omega)
theorem not32 (d : BitVec 32) : Ending.returned (.int .u32 (4294967295 - (d.toNat : Int))) = .returned (.int .u32 ((~~~ d).toNat : Int)) := by
  have h := d.isLt
  rw [BitVec.toNat_not]
  exact ret_int (by omega)

/-- A sum's bytes. -/
def crcBytes (kind : Int) (l : List UInt8) : List UInt8 := if kind = 1 then be (s16 l).toNat 2 else if kind = 2 then be (s32 l).toNat 4 else []

theorem be2 (v : Nat) : be v 2 = [UInt8.ofNat (v / 256), UInt8.ofNat v] := by simp [be, List.range_succ]
theorem be4 (v : Nat) : be v 4 = [UInt8.ofNat (v / 16777216), UInt8.ofNat (v / 65536), UInt8.ofNat (v / 256), UInt8.ofNat v] := by simp [be, List.range_succ]
/-- A byte of a number as the walk has it. -/
theorem low8 (v : Nat) : Value.int .u8 (v % 256 : Int) = .int .u8 ((UInt8.ofNat v).toNat : Int) := by rw [UInt8.toNat_ofNat']; rfl
theorem low8_of (v : Nat) (h : v < 256) : Value.int .u8 (v : Int) = .int .u8 ((UInt8.ofNat v).toNat : Int) := by rw [UInt8.toNat_ofNat', Nat.mod_eq_of_lt h]

theorem gives_nil (w : World) : Gives [] w (.returned (.slice none 0 0)) w := ⟨none, 0, 0, rfl, Rd.nil_, Nat.le_refl _, Below.refl _ _⟩
theorem gives_lit (w : World) (t : TypeId) (l : List UInt8) (cs : Array Value) (n : Nat) (hn : l.length = n) (hcs : cs = (l.map fun x => Value.int .u8 (x.toNat : Int)).toArray) :
    Gives l w (.returned (.slice (some ⟨w.heap.size, 0, none⟩) n n)) (w.alloc (.cells cs t)) :=
  ⟨_, n, n, rfl, (Rd.lit w _ rfl l t cs hcs n hn).more (by simp), Nat.le_refl _, (Below.refl _ _).alloc (Nat.le_refl _) _⟩

theorem cs2 (v : Nat) (h : v < 65536) : #[Value.int .u8 ((v : Int) / 256), .int .u8 ((v : Int) % 256)] = (([UInt8.ofNat (v / 256), UInt8.ofNat v] : List UInt8).map fun x => Value.int .u8 (x.toNat : Int)).toArray := by
  rw [low8 v, show (v : Int) / 256 = ((v / 256 : Nat) : Int) from rfl, low8_of (v / 256) (by omega)]
  rfl
theorem cs4 (v : Nat) (h : v < 4294967296) : #[Value.int .u8 ((v : Int) / 16777216), .int .u8 ((v : Int) / 65536 % 256), .int .u8 ((v : Int) / 256 % 256), .int .u8 ((v : Int) % 256)] =
    (([UInt8.ofNat (v / 16777216), UInt8.ofNat (v / 65536), UInt8.ofNat (v / 256), UInt8.ofNat v] : List UInt8).map fun x => Value.int .u8 (x.toNat : Int)).toArray := by
  rw [low8 v, show (v : Int) / 256 = ((v / 256 : Nat) : Int) from rfl, show (v : Int) / 65536 = ((v / 65536 : Nat) : Int) from rfl, show (v : Int) / 16777216 = ((v / 16777216 : Nat) : Int) from rfl,
    low8 (v / 256), low8 (v / 65536), low8_of (v / 16777216) (by omega)]
  rfl

end Go.Proofs.YtahgaogmcffglaaDoor
