/- What Short, Long and Bytes of layer 2 return. -/
import Derived.Test.YtlkppnghfgiapaaDoorCrcR
namespace Go.Proofs.YtlkppnghfgiapaaDoor
open Go.RowKit

theorem and16 (F : Nat) (h : F < 65536) : bits BinOp.and .u16 (F : Int) 1 = ((F % 2 : Nat) : Int) := by
  have e := u16_and_nat F 1 h (by decide)
  rw [Nat.and_one_is_mod] at e
  exact e
theorem and32 (F : Nat) (h : F < 4294967296) : bits BinOp.and .u32 (F : Int) 1 = ((F % 2 : Nat) : Int) := by
  have e := u32_and_nat F 1 h (by decide)
  rw [Nat.and_one_is_mod] at e
  exact e
theorem flip16 (d : BitVec 16) : Ending.returned (.int .u16 (bits BinOp.xor .u16 IntKind.u16.max (d.toNat : Int))) = .returned (.int .u16 ((~~~ d).toNat : Int)) := by
  have e := u16_xor_nat 65535 d.toNat (by decide) d.isLt
  rw [show IntKind.u16.max = ((65535 : Nat) : Int) from rfl, e, show (65535 : Nat) = (BitVec.allOnes 16).toNat from rfl, ← BitVec.toNat_xor, BitVec.allOnes_xor]
theorem flip32 (d : BitVec 32) : Ending.returned (.int .u32 (bits BinOp.xor .u32 IntKind.u32.max (d.toNat : Int))) = .returned (.int .u32 ((~~~ d).toNat : Int)) := by
  have e := u32_xor_nat 4294967295 d.toNat (by decide) d.isLt
  rw [show IntKind.u32.max = ((4294967295 : Nat) : Int) from rfl, e, show (4294967295 : Nat) = (BitVec.allOnes 32).toNat from rfl, ← BitVec.toNat_xor, BitVec.allOnes_xor]

set_option maxRecDepth 100000 in
set_option maxHeartbeats 1000000 in
theorem sum16_any (A : Option Addr) (n c B : Nat) (l : List UInt8) (w : World) (h : Rd w B A n l) (hn : n ≤ 140737488355328) :
    Calls Tryd.prog 39 #[.slice A n c, .int .u16 33800] w fun e w' => e = .returned (.int .u16 ((s16 l).toNat : Int)) ∧ w = w' := by
  have HR := Lib.hid h
  clear h
  go_enter Tryd.func39, Tryd.ntmps39
  go_wp2
  go_loop [5, 13] (fun v i => ∃ (k : Nat) (d : BitVec 16), k ≤ n ∧ i = .int .i64 k ∧ v = .int .u16 (d.toNat : Int) ∧ Hid (d = fB p16 0xffff#16 (l.take k))) (fun _ i => n - (intOf i).toNat)
  case atStart => exact ⟨0, 0xffff#16, Nat.zero_le _, rfl, rfl, rfl⟩
  case round =>
    obtain ⟨k, d, hk, rfl, rfl, hd⟩ := hrel
    by_cases hlt : k < n
    · obtain ⟨b, o, rfl, hb, hcell⟩ := HR.out.2 (by omega)
      obtain ⟨x, hx⟩ : ∃ x, x = l.getD k 0 := ⟨_, rfl⟩
      have hcx : w.cell? ⟨b, o + k, none⟩ = some (.int .u8 (x.toNat : Int)) := by rw [hx]; exact hcell k hlt
      have Hx := Lib.hid hx
      clear hx hcell
      have hx1 : (x.toNat : Int) < 256 := by have := x.toNat_lt; omega
      have hx0 : (0 : Int) ≤ (x.toNat : Int) := by omega
      have hd1 : (d.toNat : Int) < 65536 := by have := d.isLt; omega
      go_wp2_with fail
      clear hx0 hx1 hd1
      go_loop [5, 21] (fun v i => ∃ (j : Nat) (f : BitVec 16), j ≤ 8 ∧ i = .int .i64 j ∧ v = .int .u16 (f.toNat : Int) ∧ Hid (f = stpN p16 j (d ^^^ BitVec.ofNat 16 x.toNat))) (fun _ i => 8 - (intOf i).toNat)
      case atStart => exact ⟨0, d ^^^ BitVec.ofNat 16 x.toNat, by omega, rfl, byte16 d x, rfl⟩
      case round =>
        obtain ⟨j, f, hj, rfl, rfl, hf⟩ := hrel
        by_cases hj8 : j < 8
        · obtain ⟨F, hF⟩ : ∃ F, F = f.toNat := ⟨_, rfl⟩
          have hf1 : F < 65536 := by have := f.isLt; omega
          rw [← hF]
          have HF := Lib.hid hF
          clear hF
          rcases Nat.mod_two_eq_zero_or_one F with he | he
          · have ht : (bits BinOp.and .u16 (F : Int) 1 == 1) = false := by rw [and16 F hf1, he]; rfl
            have HE := Lib.hid he
            clear he
            go_wp2_with fail
            go_round
            case rel => exact ⟨j + 1, stp p16 f, by omega, by go_num, by rw [stp_even _ _ (by rw [← HF.out]; exact HE.out), ← HF.out]; rfl, by show _ = _; rw [stpN_succ, ← hf.out]⟩
            case measure => simp [intOf]; omega
          · have ht : (bits BinOp.and .u16 (F : Int) 1 == 1) = true := by rw [and16 F hf1, he]; rfl
            have HE := Lib.hid he
            clear he
            go_wp2_with fail
            go_round
            case rel => exact ⟨j + 1, stp p16 f, by omega, by go_num, by rw [HF.out]; exact step16 f (by rw [← HF.out]; exact HE.out), by show _ = _; rw [stpN_succ, ← hf.out]⟩
            case measure => simp [intOf]; omega
        · obtain rfl : j = 8 := by omega
          go_wp2_with fail
          go_round
          case rel =>
            refine ⟨k + 1, f, by omega, by go_num, rfl, ?_⟩
            show f = _
            rw [fB_take l 16 _ _ k (by have := HR.out.1; omega), ← hd.out, ← Hx.out]
            exact hf.out
          case measure => simp [intOf]; omega
    · obtain rfl : k = n := by omega
      have hl := HR.out.1
      have hfin : s16 l = ~~~ d := by rw [hd.out, List.take_of_length_le (by omega)]; rfl
      have HF := Lib.hid hfin
      have hd1 : (d.toNat : Int) < 65536 := by have := d.isLt; omega
      clear hfin hl
      go_wp2_with fail
      go_ret
      exact ⟨by rw [HF.out]; exact flip16 d, rfl⟩
set_option maxRecDepth 100000 in
set_option maxHeartbeats 1000000 in
theorem sum32_any (A : Option Addr) (n c B : Nat) (l : List UInt8) (w : World) (h : Rd w B A n l) (hn : n ≤ 140737488355328) :
    Calls Tryd.prog 40 #[.slice A n c, .int .u32 2197175160] w fun e w' => e = .returned (.int .u32 ((s32 l).toNat : Int)) ∧ w = w' := by
  have HR := Lib.hid h
  clear h
  go_enter Tryd.func40, Tryd.ntmps40
  go_wp2
  go_loop [5, 13] (fun v i => ∃ (k : Nat) (d : BitVec 32), k ≤ n ∧ i = .int .i64 k ∧ v = .int .u32 (d.toNat : Int) ∧ Hid (d = fB p32 0xffffffff#32 (l.take k))) (fun _ i => n - (intOf i).toNat)
  case atStart => exact ⟨0, 0xffffffff#32, Nat.zero_le _, rfl, rfl, rfl⟩
  case round =>
    obtain ⟨k, d, hk, rfl, rfl, hd⟩ := hrel
    by_cases hlt : k < n
    · obtain ⟨b, o, rfl, hb, hcell⟩ := HR.out.2 (by omega)
      obtain ⟨x, hx⟩ : ∃ x, x = l.getD k 0 := ⟨_, rfl⟩
      have hcx : w.cell? ⟨b, o + k, none⟩ = some (.int .u8 (x.toNat : Int)) := by rw [hx]; exact hcell k hlt
      have Hx := Lib.hid hx
      clear hx hcell
      have hx1 : (x.toNat : Int) < 256 := by have := x.toNat_lt; omega
      have hx0 : (0 : Int) ≤ (x.toNat : Int) := by omega
      have hd1 : (d.toNat : Int) < 4294967296 := by have := d.isLt; omega
      go_wp2_with fail
      clear hx0 hx1 hd1
      go_loop [5, 21] (fun v i => ∃ (j : Nat) (f : BitVec 32), j ≤ 8 ∧ i = .int .i64 j ∧ v = .int .u32 (f.toNat : Int) ∧ Hid (f = stpN p32 j (d ^^^ BitVec.ofNat 32 x.toNat))) (fun _ i => 8 - (intOf i).toNat)
      case atStart => exact ⟨0, d ^^^ BitVec.ofNat 32 x.toNat, by omega, rfl, byte32 d x, rfl⟩
      case round =>
        obtain ⟨j, f, hj, rfl, rfl, hf⟩ := hrel
        by_cases hj8 : j < 8
        · obtain ⟨F, hF⟩ : ∃ F, F = f.toNat := ⟨_, rfl⟩
          have hf1 : F < 4294967296 := by have := f.isLt; omega
          rw [← hF]
          have HF := Lib.hid hF
          clear hF
          rcases Nat.mod_two_eq_zero_or_one F with he | he
          · have ht : (bits BinOp.and .u32 (F : Int) 1 == 1) = false := by rw [and32 F hf1, he]; rfl
            have HE := Lib.hid he
            clear he
            go_wp2_with fail
            go_round
            case rel => exact ⟨j + 1, stp p32 f, by omega, by go_num, by rw [stp_even _ _ (by rw [← HF.out]; exact HE.out), ← HF.out]; rfl, by show _ = _; rw [stpN_succ, ← hf.out]⟩
            case measure => simp [intOf]; omega
          · have ht : (bits BinOp.and .u32 (F : Int) 1 == 1) = true := by rw [and32 F hf1, he]; rfl
            have HE := Lib.hid he
            clear he
            go_wp2_with fail
            go_round
            case rel => exact ⟨j + 1, stp p32 f, by omega, by go_num, by rw [HF.out]; exact step32 f (by rw [← HF.out]; exact HE.out), by show _ = _; rw [stpN_succ, ← hf.out]⟩
            case measure => simp [intOf]; omega
        · obtain rfl : j = 8 := by omega
          go_wp2_with fail
          go_round
          case rel =>
            refine ⟨k + 1, f, by omega, by go_num, rfl, ?_⟩
            show f = _
            rw [fB_take l 32 _ _ k (by have := HR.out.1; omega), ← hd.out, ← Hx.out]
            exact hf.out
          case measure => simp [intOf]; omega
    · obtain rfl : k = n := by omega
      have hl := HR.out.1
      have hfin : s32 l = ~~~ d := by rw [hd.out, List.take_of_length_le (by omega)]; rfl
      have HF := Lib.hid hfin
      have hd1 : (d.toNat : Int) < 4294967296 := by have := d.isLt; omega
      clear hfin hl
      go_wp2_with fail
      go_ret
      exact ⟨by rw [HF.out]; exact flip32 d, rfl⟩

theorem short_any (A : Option Addr) (n c B : Nat) (l : List UInt8) (w : World) (h : Rd w B A n l) (hn : n ≤ 140737488355328) :
    Calls Tryd.prog 37 #[.slice A n c] w fun e w' => e = .returned (.int .u16 ((s16 l).toNat : Int)) ∧ w = w' := by
  have C := Lib.hid (sum16_any A n c B l w h hn)
  clear h
  go_enter Tryd.func37, Tryd.ntmps37
  go_wp2_with fail
  refine C.out.mono ?_
  rintro e w' ⟨rfl, rfl⟩
  go_wp2_with fail
  go_ret
  exact ⟨rfl, rfl⟩

theorem long_any (A : Option Addr) (n c B : Nat) (l : List UInt8) (w : World) (h : Rd w B A n l) (hn : n ≤ 140737488355328) :
    Calls Tryd.prog 38 #[.slice A n c] w fun e w' => e = .returned (.int .u32 ((s32 l).toNat : Int)) ∧ w = w' := by
  have C := Lib.hid (sum32_any A n c B l w h hn)
  clear h
  go_enter Tryd.func38, Tryd.ntmps38
  go_wp2_with fail
  refine C.out.mono ?_
  rintro e w' ⟨rfl, rfl⟩
  go_wp2_with fail
  go_ret
  exact ⟨rfl, rfl⟩
set_option maxRecDepth 100000 in
set_option maxHeartbeats 1000000 in
theorem bytes_any (kind : Int) (A : Option Addr) (n c B : Nat) (l : List UInt8) (w : World) (h : Rd w B A n l) (hn : n ≤ 140737488355328) :
    Calls Tryd.prog 29 #[.int .i64 kind, .slice A n c] w (Gives (crcBytes kind l) w) := by
  have c1 := short_any A n c B l w h hn
  have c2 := long_any A n c B l w h hn
  have v1 := (s16 l).isLt
  have v2 := (s32 l).isLt
  clear h
  by_cases h1 : kind = 1
  · subst h1
    rw [show crcBytes 1 l = be (s16 l).toNat 2 from rfl, be2]
    generalize (s16 l).toNat = v at *
    have C1 := Lib.hid c1
    clear c1 c2
    go_enter Tryd.func29, Tryd.ntmps29
    go_wp2_with fail
    refine C1.out.mono ?_
    rintro e w' ⟨rfl, rfl⟩
    go_wp2_with fail
    go_ret
    exact gives_lit w _ _ _ 2 rfl (cs2 v v1)
  · by_cases h2 : kind = 2
    · subst h2
      rw [show crcBytes 2 l = be (s32 l).toNat 4 from rfl, be4]
      generalize (s32 l).toNat = v at *
      have C2 := Lib.hid c2
      clear c1 c2
      go_enter Tryd.func29, Tryd.ntmps29
      go_wp2_with fail
      refine C2.out.mono ?_
      rintro e w' ⟨rfl, rfl⟩
      go_wp2_with fail
      go_ret
      exact gives_lit w _ _ _ 4 rfl (cs4 v v2)
    · rw [show crcBytes kind l = [] by unfold crcBytes; rw [if_neg h1, if_neg h2]]
      have e1 : (kind == 1) = false := by simpa using h1
      have e2 : (kind == 2) = false := by simpa using h2
      clear h1 h2 c1 c2
      go_enter Tryd.func29, Tryd.ntmps29
      go_wp2_with fail
      go_ret
      exact gives_nil w
end Go.Proofs.YtlkppnghfgiapaaDoor
