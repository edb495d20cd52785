/- What the reference of layer 2 returns: Short and Long as 's16' and 's32' of the bytes; Bytes. -/
import Derived.Test.YtlkppnghfgiapaaDoorSame
import Derived.Test.YtlkppnghfgiapaaDoorCrcW
namespace Go.Proofs.YtlkppnghfgiapaaDoor
open Go.RowKit

theorem stpN_succ {n : Nat} (p : BitVec n) : ∀ (k : Nat) (c : BitVec n), stpN p (k + 1) c = stp p (stpN p k c)
  | 0, _ => rfl
  | k + 1, c => by rw [stpN, stpN_succ p k, ← stpN]

/-- A step, as numbers: no one goes out. -/
theorem stp_even {n : Nat} (p c : BitVec n) (h : c.toNat % 2 = 0) : (stp p c).toNat = c.toNat / 2 := by
  have e : c.getLsbD 0 = false := by simp [BitVec.getLsbD, Nat.testBit_zero, h]
  unfold stp
  rw [if_neg (by rw [e]; simp), BitVec.toNat_ushiftRight, Nat.shiftRight_eq_div_pow]
theorem stp_odd {n : Nat} (p c : BitVec n) (h : c.toNat % 2 = 1) : (stp p c).toNat = c.toNat / 2 ^^^ p.toNat := by
  have e : c.getLsbD 0 = true := by simp [BitVec.getLsbD, Nat.testBit_zero, h]
  unfold stp
  rw [if_pos e, BitVec.toNat_xor, BitVec.toNat_ushiftRight, Nat.shiftRight_eq_div_pow]
theorem fB_take (l : List UInt8) (n : Nat) (p c : BitVec n) (k : Nat) (h : k < l.length) : fB p c (l.take (k + 1)) = stpN p 8 (fB p c (l.take k) ^^^ BitVec.ofNat n (l.getD k 0).toNat) := by
  rw [take_more l k h, fB_snoc]; rfl

theorem byte16 (d : BitVec 16) (x : UInt8) : Value.int .u16 (bits BinOp.xor .u16 (d.toNat : Int) (x.toNat : Int)) = .int .u16 ((d ^^^ BitVec.ofNat 16 x.toNat).toNat : Int) := by
  have h1 := d.isLt
  have h2 := x.toNat_lt
  rw [u16_xor_nat _ _ h1 (by omega), BitVec.toNat_xor, BitVec.toNat_ofNat, Nat.mod_eq_of_lt (by omega)]
theorem byte32 (d : BitVec 32) (x : UInt8) : Value.int .u32 (bits BinOp.xor .u32 (d.toNat : Int) (x.toNat : Int)) = .int .u32 ((d ^^^ BitVec.ofNat 32 x.toNat).toNat : Int) := by
  have h1 := d.isLt
  have h2 := x.toNat_lt
  rw [u32_xor_nat _ _ h1 (by omega), BitVec.toNat_xor, BitVec.toNat_ofNat, Nat.mod_eq_of_lt (by omega)]
theorem step16 (f : BitVec 16) (h : f.toNat % 2 = 1) : Value.int .u16 (bits BinOp.xor .u16 ((f.toNat : Int) / 2) 33800) = .int .u16 ((stp p16 f).toNat : Int) := by
  have h1 := f.isLt
  have e := u16_xor_nat (f.toNat / 2) 33800 (by omega) (by decide)
  rw [stp_odd _ _ h, show p16.toNat = 33800 from rfl, ← e]
  rfl
theorem step32 (f : BitVec 32) (h : f.toNat % 2 = 1) : Value.int .u32 (bits BinOp.xor .u32 ((f.toNat : Int) / 2) 2197175160) = .int .u32 ((stp p32 f).toNat : Int) := by
  have h1 := f.isLt
  have e := u32_xor_nat (f.toNat / 2) 2197175160 (by omega) (by decide)
  rw [stp_odd _ _ h, show p32.toNat = 2197175160 from rfl, ← e]
  rfl
theorem not16 (d : BitVec 16) : Ending.returned (.int .u16 (65535 - (d.toNat : Int))) = .returned (.int .u16 ((~~~ d).toNat : Int)) := by
  have h := d.isLt
  rw [BitVec.toNat_not]
  exact ret_int (by omega)
theorem not32 (d : BitVec 32) : Ending.returned (.int .u32 (4294967295 - (d.toNat : Int))) = .returned (.int .u32 ((~~~ d).toNat : Int)) := by
  have h := d.isLt
  rw [BitVec.toNat_not]
  exact ret_int (by omega)

set_option maxRecDepth 100000 in
set_option maxHeartbeats 1000000 in
theorem rshort_any (A : Option Addr) (n c B : Nat) (l : List UInt8) (w : World) (h : Rd w B A n l) (hn : n ≤ 140737488355328) :
    Calls Tryd.prog 30 #[.slice A n c] w fun e w' => e = .returned (.int .u16 ((s16 l).toNat : Int)) ∧ w = w' := by
  have HR := Lib.hid h
  clear h
  go_enter Tryd.func30, Tryd.ntmps30
  go_wp2
  go_loop [3, 4] (fun v i => ∃ (k : Nat) (d : BitVec 16), k ≤ n ∧ i = .int .i64 k ∧ v = .int .u16 (d.toNat : Int) ∧ Hid (d = fB p16 0xffff#16 (l.take k))) (fun _ i => n - (intOf i).toNat)
  case atStart => exact ⟨0, 0xffff#16, Nat.zero_le _, rfl, rfl, rfl⟩
  case round =>
    obtain ⟨k, d, hk, rfl, rfl, hd⟩ := hrel
    by_cases hlt : k < n
    · obtain ⟨b, o, rfl, hb, hcell⟩ := HR.out.2 (by omega)
      obtain ⟨x, hx⟩ : ∃ x, x = l.getD k 0 := ⟨_, rfl⟩
      have hcx : w.cell? ⟨b, o + k, none⟩ = some (.int .u8 (x.toNat : Int)) := by rw [hx]; exact hcell k hlt
      have Hx := Lib.hid hx
      clear hx hcell
      have hx1 : (x.toNat : Int) < 256 := by have := x.toNat_lt; omega
      have hx0 : (0 : Int) ≤ (x.toNat : Int) := by omega
      have hd1 : (d.toNat : Int) < 65536 := by have := d.isLt; omega
      go_wp2_with fail
      clear hx0 hx1 hd1
      go_loop [3, 5] (fun v i => ∃ (j : Nat) (f : BitVec 16), j ≤ 8 ∧ i = .int .i64 j ∧ v = .int .u16 (f.toNat : Int) ∧ Hid (f = stpN p16 j (d ^^^ BitVec.ofNat 16 x.toNat))) (fun _ i => 8 - (intOf i).toNat)
      case atStart => exact ⟨0, d ^^^ BitVec.ofNat 16 x.toNat, by omega, rfl, byte16 d x, rfl⟩
      case round =>
        obtain ⟨j, f, hj, rfl, rfl, hf⟩ := hrel
        by_cases hj8 : j < 8
        · obtain ⟨F, hF⟩ : ∃ F, F = f.toNat := ⟨_, rfl⟩
          have hf1 : F < 65536 := by have := f.isLt; omega
          rw [← hF]
          have HF := Lib.hid hF
          clear hF
          rcases Nat.mod_two_eq_zero_or_one F with he | he
          · have ht : ((F : Int) % 2 == 1) = false := by simp; omega
            have HE := Lib.hid he
            clear he
            go_wp2_with fail
            go_round
            case rel => exact ⟨j + 1, stp p16 f, by omega, by go_num, by rw [stp_even _ _ (by rw [← HF.out]; exact HE.out), ← HF.out]; rfl, by show _ = _; rw [stpN_succ, ← hf.out]⟩
            case measure => simp [intOf]; omega
          · have ht : ((F : Int) % 2 == 1) = true := by simp; omega
            have HE := Lib.hid he
            clear he
            go_wp2_with fail
            go_round
            case rel => exact ⟨j + 1, stp p16 f, by omega, by go_num, by rw [HF.out]; exact step16 f (by rw [← HF.out]; exact HE.out), by show _ = _; rw [stpN_succ, ← hf.out]⟩
            case measure => simp [intOf]; omega
        · obtain rfl : j = 8 := by omega
          go_wp2_with fail
          go_round
          case rel =>
            refine ⟨k + 1, f, by omega, by go_num, rfl, ?_⟩
            show f = _
            rw [fB_take l 16 _ _ k (by have := HR.out.1; omega), ← hd.out, ← Hx.out]
            exact hf.out
          case measure => simp [intOf]; omega
    · obtain rfl : k = n := by omega
      have hl := HR.out.1
      have hfin : s16 l = ~~~ d := by rw [hd.out, List.take_of_length_le (by omega)]; rfl
      have HF := Lib.hid hfin
      have hd1 : (d.toNat : Int) < 65536 := by have := d.isLt; omega
      clear hfin hl
      go_wp2_with fail
      go_ret
      exact ⟨by rw [HF.out]; exact not16 d, rfl⟩
set_option maxRecDepth 100000 in
set_option maxHeartbeats 1000000 in
theorem rlong_any (A : Option Addr) (n c B : Nat) (l : List UInt8) (w : World) (h : Rd w B A n l) (hn : n ≤ 140737488355328) :
    Calls Tryd.prog 31 #[.slice A n c] w fun e w' => e = .returned (.int .u32 ((s32 l).toNat : Int)) ∧ w = w' := by
  have HR := Lib.hid h
  clear h
  go_enter Tryd.func31, Tryd.ntmps31
  go_wp2
  go_loop [3, 4] (fun v i => ∃ (k : Nat) (d : BitVec 32), k ≤ n ∧ i = .int .i64 k ∧ v = .int .u32 (d.toNat : Int) ∧ Hid (d = fB p32 0xffffffff#32 (l.take k))) (fun _ i => n - (intOf i).toNat)
  case atStart => exact ⟨0, 0xffffffff#32, Nat.zero_le _, rfl, rfl, rfl⟩
  case round =>
    obtain ⟨k, d, hk, rfl, rfl, hd⟩ := hrel
    by_cases hlt : k < n
    · obtain ⟨b, o, rfl, hb, hcell⟩ := HR.out.2 (by omega)
      obtain ⟨x, hx⟩ : ∃ x, x = l.getD k 0 := ⟨_, rfl⟩
      have hcx : w.cell? ⟨b, o + k, none⟩ = some (.int .u8 (x.toNat : Int)) := by rw [hx]; exact hcell k hlt
      have Hx := Lib.hid hx
      clear hx hcell
      have hx1 : (x.toNat : Int) < 256 := by have := x.toNat_lt; omega
      have hx0 : (0 : Int) ≤ (x.toNat : Int) := by omega
      have hd1 : (d.toNat : Int) < 4294967296 := by have := d.isLt; omega
      go_wp2_with fail
      clear hx0 hx1 hd1
      go_loop [3, 5] (fun v i => ∃ (j : Nat) (f : BitVec 32), j ≤ 8 ∧ i = .int .i64 j ∧ v = .int .u32 (f.toNat : Int) ∧ Hid (f = stpN p32 j (d ^^^ BitVec.ofNat 32 x.toNat))) (fun _ i => 8 - (intOf i).toNat)
      case atStart => exact ⟨0, d ^^^ BitVec.ofNat 32 x.toNat, by omega, rfl, byte32 d x, rfl⟩
      case round =>
        obtain ⟨j, f, hj, rfl, rfl, hf⟩ := hrel
        by_cases hj8 : j < 8
        · obtain ⟨F, hF⟩ : ∃ F, F = f.toNat := ⟨_, rfl⟩
          have hf1 : F < 4294967296 := by have := f.isLt; omega
          rw [← hF]
          have HF := Lib.hid hF
          clear hF
          rcases Nat.mod_two_eq_zero_or_one F with he | he
          · have ht : ((F : Int) % 2 == 1) = false := by simp; omega
            have HE := Lib.hid he
            clear he
            go_wp2_with fail
            go_round
            case rel => exact ⟨j + 1, stp p32 f, by omega, by go_num, by rw [stp_even _ _ (by rw [← HF.out]; exact HE.out), ← HF.out]; rfl, by show _ = _; rw [stpN_succ, ← hf.out]⟩
            case measure => simp [intOf]; omega
          · have ht : ((F : Int) % 2 == 1) = true := by simp; omega
            have HE := Lib.hid he
            clear he
            go_wp2_with fail
            go_round
            case rel => exact ⟨j + 1, stp p32 f, by omega, by go_num, by rw [HF.out]; exact step32 f (by rw [← HF.out]; exact HE.out), by show _ = _; rw [stpN_succ, ← hf.out]⟩
            case measure => simp [intOf]; omega
        · obtain rfl : j = 8 := by omega
          go_wp2_with fail
          go_round
          case rel =>
            refine ⟨k + 1, f, by omega, by go_num, rfl, ?_⟩
            show f = _
            rw [fB_take l 32 _ _ k (by have := HR.out.1; omega), ← hd.out, ← Hx.out]
            exact hf.out
          case measure => simp [intOf]; omega
    · obtain rfl : k = n := by omega
      have hl := HR.out.1
      have hfin : s32 l = ~~~ d := by rw [hd.out, List.take_of_length_le (by omega)]; rfl
      have HF := Lib.hid hfin
      have hd1 : (d.toNat : Int) < 4294967296 := by have := d.isLt; omega
      clear hfin hl
      go_wp2_with fail
      go_ret
      exact ⟨by rw [HF.out]; exact not32 d, rfl⟩

/-- A sum's bytes. -/
def crcBytes (kind : Int) (l : List UInt8) : List UInt8 := if kind = 1 then be (s16 l).toNat 2 else if kind = 2 then be (s32 l).toNat 4 else []

theorem be2 (v : Nat) : be v 2 = [UInt8.ofNat (v / 256), UInt8.ofNat v] := by simp [be, List.range_succ]
theorem be4 (v : Nat) : be v 4 = [UInt8.ofNat (v / 16777216), UInt8.ofNat (v / 65536), UInt8.ofNat (v / 256), UInt8.ofNat v] := by simp [be, List.range_succ]
/-- A byte of a number as the walk has it. -/
theorem low8 (v : Nat) : Value.int .u8 (v % 256 : Int) = .int .u8 ((UInt8.ofNat v).toNat : Int) := by rw [UInt8.toNat_ofNat']; rfl
theorem low8_of (v : Nat) (h : v < 256) : Value.int .u8 (v : Int) = .int .u8 ((UInt8.ofNat v).toNat : Int) := by rw [UInt8.toNat_ofNat', Nat.mod_eq_of_lt h]

theorem gives_nil (w : World) : Gives [] w (.returned (.slice none 0 0)) w := ⟨none, 0, 0, rfl, Rd.nil_, Nat.le_refl _, Below.refl _ _⟩
theorem gives_lit (w : World) (t : TypeId) (l : List UInt8) (cs : Array Value) (n : Nat) (hn : l.length = n) (hcs : cs = (l.map fun x => Value.int .u8 (x.toNat : Int)).toArray) :
    Gives l w (.returned (.slice (some ⟨w.heap.size, 0, none⟩) n n)) (w.alloc (.cells cs t)) :=
  ⟨_, n, n, rfl, (Rd.lit w _ rfl l t cs hcs n hn).more (by simp), Nat.le_refl _, (Below.refl _ _).alloc (Nat.le_refl _) _⟩

theorem cs2 (v : Nat) (h : v < 65536) : #[Value.int .u8 ((v : Int) / 256), .int .u8 ((v : Int) % 256)] = (([UInt8.ofNat (v / 256), UInt8.ofNat v] : List UInt8).map fun x => Value.int .u8 (x.toNat : Int)).toArray := by
  rw [low8 v, show (v : Int) / 256 = ((v / 256 : Nat) : Int) from rfl, low8_of (v / 256) (by omega)]
  rfl
theorem cs4 (v : Nat) (h : v < 4294967296) : #[Value.int .u8 ((v : Int) / 16777216), .int .u8 ((v : Int) / 65536 % 256), .int .u8 ((v : Int) / 256 % 256), .int .u8 ((v : Int) % 256)] =
    (([UInt8.ofNat (v / 16777216), UInt8.ofNat (v / 65536), UInt8.ofNat (v / 256), UInt8.ofNat v] : List UInt8).map fun x => Value.int .u8 (x.toNat : Int)).toArray := by
  rw [low8 v, show (v : Int) / 256 = ((v / 256 : Nat) : Int) from rfl, show (v : Int) / 65536 = ((v / 65536 : Nat) : Int) from rfl, show (v : Int) / 16777216 = ((v / 16777216 : Nat) : Int) from rfl,
    low8 (v / 256), low8 (v / 65536), low8_of (v / 16777216) (by omega)]
  rfl

set_option maxRecDepth 100000 in
set_option maxHeartbeats 1000000 in
theorem crbytes_any (kind : Int) (A : Option Addr) (n c B : Nat) (l : List UInt8) (w : World) (h : Rd w B A n l) (hn : n ≤ 140737488355328) :
    Calls Tryd.prog 25 #[.int .i64 kind, .slice A n c] w (Gives (crcBytes kind l) w) := by
  have c1 := rshort_any A n c B l w h hn
  have c2 := rlong_any A n c B l w h hn
  have v1 := (s16 l).isLt
  have v2 := (s32 l).isLt
  clear h
  by_cases h1 : kind = 1
  · subst h1
    rw [show crcBytes 1 l = be (s16 l).toNat 2 from rfl, be2]
    generalize (s16 l).toNat = v at *
    have C1 := Lib.hid c1
    clear c1 c2
    go_enter Tryd.func25, Tryd.ntmps25
    go_wp2_with fail
    refine C1.out.mono ?_
    rintro e w' ⟨rfl, rfl⟩
    go_wp2_with fail
    go_ret
    exact gives_lit w _ _ _ 2 rfl (cs2 v v1)
  · by_cases h2 : kind = 2
    · subst h2
      rw [show crcBytes 2 l = be (s32 l).toNat 4 from rfl, be4]
      generalize (s32 l).toNat = v at *
      have C2 := Lib.hid c2
      clear c1 c2
      go_enter Tryd.func25, Tryd.ntmps25
      go_wp2_with fail
      refine C2.out.mono ?_
      rintro e w' ⟨rfl, rfl⟩
      go_wp2_with fail
      go_ret
      exact gives_lit w _ _ _ 4 rfl (cs4 v v2)
    · rw [show crcBytes kind l = [] by unfold crcBytes; rw [if_neg h1, if_neg h2]]
      have e1 : (kind == 1) = false := by simpa using h1
      have e2 : (kind == 2) = false := by simpa using h2
      clear h1 h2 c1 c2
      go_enter Tryd.func25, Tryd.ntmps25
      go_wp2_with fail
      go_ret
      exact gives_nil w
end Go.Proofs.YtlkppnghfgiapaaDoor
