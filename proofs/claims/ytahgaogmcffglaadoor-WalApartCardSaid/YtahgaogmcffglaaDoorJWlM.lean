/- make of bytes. No program. -/
import Derived.Test.YtahgaogmcffglaaDoorJBase
import Derived.Test.YtahgaogmcffglaaDoorJCrcR
import Derived.Test.YtahgaogmcffglaaDoorJNumB
import Derived.Test.YtahgaogmcffglaaDoorJOwn
import Derived.Test.YtahgaogmcffglaaDoorJRecO
import Derived.Laws.MakeOwn
namespace Go.Proofs.YtahgaogmcffglaaDoor
open Go.RowKit

/-- make of bytes with room behind them. -/
theorem wpList_makeB13 {P : Program} {ops : Array Oper} {rest : List Oper} {o : Oper} {a : Act} {w : World} {Q : Exit → Act → World → Prop} (hg : o.guard = none) (l c : Operand) (t : TypeId) (hop : o.op = Op.makeSlice t l c)
    (e : TypeId) (ht : P.underlying t = some (.slice e)) (hinfo : (P.info? e).map (fun i => (i.zero, i.size, i.bytes)) = some (some (.int .u8 0), 1, 1)) (M C : Nat) (x y : Int) (hl : a.eval l = .int .i64 x) (hc : a.eval c = .int .i64 y) (hx : x = (M : Int)) (hy : y = (C : Int)) (hMC : M ≤ C) (hC : C ≤ 140737488355328)
    (h : ∀ w' : World, Ob w' w.heap.size e (.slice (some ⟨w.heap.size, 0, none⟩) M C) (List.replicate M 0) → Below w.heap.size w w' → wpList P ops Q rest (a.put o.dst (.slice (some ⟨w.heap.size, 0, none⟩) M C)) w') : wpList P ops Q (o :: rest) a w := by
  subst hx hy
  obtain ⟨i, hi, hzz⟩ := Option.map_eq_some_iff.1 hinfo
  simp only [Prod.mk.injEq] at hzz
  obtain ⟨hz, hs, hb⟩ := hzz
  have hr := run_make (P := P) w t e i (.int .u8 0) ht hi hz .i64 .i64 (M : Int) (C : Int) (by omega) (by omega) (by rw [hb]; omega) (by omega)
  simp only [Int.toNat_natCast, hs, Nat.mul_one] at hr
  refine wpList_plain hg fun K hK => ?_
  unfold Oper.wp
  simp [execOp, hop, hl, hc, hr, Result.andThen]
  refine hK _ _ (h _ ⟨?_, .inr ⟨w.heap.size, C, _, by simp, Nat.le_refl _, heap_alloc_new w _, by simpa using hMC, by unfold maxLen; omega, by rw [size_madeCells, Nat.mul_one], ?_⟩⟩ ((Below.refl _ _).alloc (Nat.le_refl _) _))
  · simp
  · apply List.ext_getElem?
    intro j
    have hz1 : (Value.int IntKind.u8 0).cells = #[.int .u8 0] := rfl
    rw [hz1]
    by_cases hj : j < M
    · have hj2 : j < C := by omega
      simp [hj, madeCells, hj2, Nat.mod_one, bv]
    · simp [hj]
      omega
end Go.Proofs.YtahgaogmcffglaaDoor
/- What bytes.Equal returns. -/
namespace Go.Proofs.YtahgaogmcffglaaDoor
open Go.RowKit

set_option maxRecDepth 100000 in
set_option maxHeartbeats 1000000 in
theorem bequal_any (A A' : Option Addr) (n c n' c' B : Nat) (l l' : List UInt8) (w : World) (h : Rd w B A n l) (h' : Rd w B A' n' l') :
    Calls Tryd.prog 74 #[.slice A n c, .slice A' n' c'] w fun e w' => e = .returned (.bool (l == l')) ∧ w = w' := by
  have r1 := run_str (P := Tryd.prog) (c := c) h 33 5 9 Tryd.underlying33 Tryd.underlying5 Tryd.underlying9
  have r2 := run_str (P := Tryd.prog) (c := c') h' 33 5 9 Tryd.underlying33 Tryd.underlying5 Tryd.underlying9
  have e1 : (⟨l.toArray⟩ : ByteArray).toList = l := by rw [Lib.toList_data]
  have e2 : (⟨l'.toArray⟩ : ByteArray).toList = l' := by rw [Lib.toList_data]
  have HE := Lib.hid (And.intro e1 e2)
  generalize (⟨l.toArray⟩ : ByteArray) = s at *
  generalize (⟨l'.toArray⟩ : ByteArray) = s' at *
  clear h h' e1 e2
  go_enter Tryd.func74, Tryd.ntmps74
  go_wp2_with fail
  go_ret
  refine ⟨?_, rfl⟩
  have h : (s.toList == s'.toList) = (l == l') := by rw [HE.out.1, HE.out.2]
  rw [← h]
  rfl

end Go.Proofs.YtahgaogmcffglaaDoor
/- What Get returns: the number of the last eight bytes. -/
namespace Go.Proofs.YtahgaogmcffglaaDoor
open Go.RowKit

set_option maxRecDepth 100000 in
set_option maxHeartbeats 1000000 in
theorem get_any (A : Option Addr) (n c : Nat) (l : List UInt8) (w : World) (B : Nat) (h : Rd w B A n l) (hn : n ≤ 9223372036854775807) (hc : n ≤ c) (hc2 : c ≤ 9223372036854775807) :
    Calls Tryd.prog 73 #[.slice A n c] w fun e w' => e = .returned (.int .u64 (beNat (l.drop (n - 8)) : Int)) ∧ w = w' := by
  obtain ⟨A', c', hsl, hr⟩ := cut_l (P := Tryd.prog) 33 5 rfl size_u8 c h (max ((n : Int) - 8) 0) (n - 8) (by omega) (by omega) hc
  have hl8 : n - (n - 8) ≤ 8 := by omega
  generalize hm : n - (n - 8) = m at *
  generalize l.drop (n - 8) = L at *
  have HR := Lib.hid hr.2.2
  clear h hc hr
  go_enter Tryd.func73, Tryd.ntmps73
  go_wp2
  go_loop [4, 14] (fun v i => ∃ k : Nat, k ≤ m ∧ i = .int .i64 k ∧ v = .int .u64 (beNat (L.take k) : Int)) (fun _ i => m - (intOf i).toNat)
  case atStart => exact ⟨0, Nat.zero_le _, rfl, by simp [beNat]⟩
  case round =>
    obtain ⟨k, hk, rfl, rfl⟩ := hrel
    by_cases hlt : k < m
    · obtain ⟨b, o, rfl, hb, hcell⟩ := HR.out.2 (by omega)
      obtain ⟨x, hx⟩ : ∃ x, x = L.getD k 0 := ⟨_, rfl⟩
      have hcx : w.cell? ⟨b, o + k, none⟩ = some (.int .u8 (x.toNat : Int)) := by rw [hx]; exact hcell k hlt
      have HC := Lib.hid hcell
      have Hx := Lib.hid hx
      clear hx hcell
      have hx1 : (x.toNat : Int) < 256 := by have := x.toNat_lt; omega
      have hx0 : (0 : Int) ≤ (x.toNat : Int) := by omega
      go_wp2_with fail
      go_round
      case rel =>
        have hl := HR.out.1
        refine ⟨k + 1, by omega, by go_num, ?_⟩
        rw [take_more L k (by omega), ← Hx.out, beNat_snoc, shl_or _ _ hx0 hx1]
        go_num
      case measure => simp [intOf]; omega
    · obtain rfl : k = m := by omega
      have hl := HR.out.1
      have e : L.take k = L := List.take_of_length_le (by omega)
      have HE := Lib.hid e
      clear e hl
      go_wp2
      go_ret
      exact ⟨by rw [HE.out]; rfl, rfl⟩
end Go.Proofs.YtahgaogmcffglaaDoor
/- What Short, Long and Bytes of layer 2 return. -/
namespace Go.Proofs.YtahgaogmcffglaaDoor
open Go.RowKit

theorem and16 (F : Nat) (h : F < 65536) : bits BinOp.and .u16 (F : Int) 1 = ((F % 2 : Nat) : Int) := by
  have e := u16_and_nat F 1 h (by decide)
  rw [Nat.and_one_is_mod] at e
  exact e
theorem and32 (F : Nat) (h : F < 4294967296) : bits BinOp.and .u32 (F : Int) 1 = ((F % 2 : Nat) : Int) := by
  have e := u32_and_nat F 1 h (by decide)
  rw [Nat.and_one_is_mod] at e
  exact e
theorem flip16 (d : BitVec 16) : Ending.returned (.int .u16 (bits BinOp.xor .u16 IntKind.u16.max (d.toNat : Int))) = .returned (.int .u16 ((~~~ d).toNat : Int)) := by
  have e := u16_xor_nat 65535 d.toNat (by decide) d.isLt
  rw [show IntKind.u16.max = ((65535 : Nat) : Int) from rfl, e, show (65535 : Nat) = (BitVec.allOnes 16).toNat from rfl, ← BitVec.toNat_xor, BitVec.allOnes_xor]
theorem flip32 (d : BitVec 32) : Ending.returned (.int .u32 (bits BinOp.xor .u32 IntKind.u32.max (d.toNat : Int))) = .returned (.int .u32 ((~~~ d).toNat : Int)) := by
  have e := u32_xor_nat 4294967295 d.toNat (by decide) d.isLt
  rw [show IntKind.u32.max = ((4294967295 : Nat) : Int) from rfl, e, show (4294967295 : Nat) = (BitVec.allOnes 32).toNat from rfl, ← BitVec.toNat_xor, BitVec.allOnes_xor]

set_option maxRecDepth 100000 in
set_option maxHeartbeats 1000000 in
theorem sum16_any (A : Option Addr) (n c B : Nat) (l : List UInt8) (w : World) (h : Rd w B A n l) (hn : n ≤ 140737488355328) :
    Calls Tryd.prog 80 #[.slice A n c, .int .u16 33800] w fun e w' => e = .returned (.int .u16 ((s16 l).toNat : Int)) ∧ w = w' := by
  have HR := Lib.hid h
  clear h
  go_enter Tryd.func80, Tryd.ntmps80
  go_wp2
  go_loop [5, 13] (fun v i => ∃ (k : Nat) (d : BitVec 16), k ≤ n ∧ i = .int .i64 k ∧ v = .int .u16 (d.toNat : Int) ∧ Hid (d = fB p16 0xffff#16 (l.take k))) (fun _ i => n - (intOf i).toNat)
  case atStart => exact ⟨0, 0xffff#16, Nat.zero_le _, rfl, rfl, rfl⟩
  case round =>
    obtain ⟨k, d, hk, rfl, rfl, hd⟩ := hrel
    by_cases hlt : k < n
    · obtain ⟨b, o, rfl, hb, hcell⟩ := HR.out.2 (by omega)
      obtain ⟨x, hx⟩ : ∃ x, x = l.getD k 0 := ⟨_, rfl⟩
      have hcx : w.cell? ⟨b, o + k, none⟩ = some (.int .u8 (x.toNat : Int)) := by rw [hx]; exact hcell k hlt
      have Hx := Lib.hid hx
      clear hx hcell
      have hx1 : (x.toNat : Int) < 256 := by have := x.toNat_lt; omega
      have hx0 : (0 : Int) ≤ (x.toNat : Int) := by omega
      have hd1 : (d.toNat : Int) < 65536 := by have := d.isLt; omega
      go_wp2_with fail
      clear hx0 hx1 hd1
      go_loop [5, 21] (fun v i => ∃ (j : Nat) (f : BitVec 16), j ≤ 8 ∧ i = .int .i64 j ∧ v = .int .u16 (f.toNat : Int) ∧ Hid (f = stpN p16 j (d ^^^ BitVec.ofNat 16 x.toNat))) (fun _ i => 8 - (intOf i).toNat)
      case atStart => exact ⟨0, d ^^^ BitVec.ofNat 16 x.toNat, by omega, rfl, byte16 d x, rfl⟩
      case round =>
        obtain ⟨j, f, hj, rfl, rfl, hf⟩ := hrel
        by_cases hj8 : j < 8
        · obtain ⟨F, hF⟩ : ∃ F, F = f.toNat := ⟨_, rfl⟩
          have hf1 : F < 65536 := by have := f.isLt; omega
          rw [← hF]
          have HF := Lib.hid hF
          clear hF
          rcases Nat.mod_two_eq_zero_or_one F with he | he
          · have ht : (bits BinOp.and .u16 (F : Int) 1 == 1) = false := by rw [and16 F hf1, he]; rfl
            have HE := Lib.hid he
            clear he
            go_wp2_with fail
            go_round
            case rel => exact ⟨j + 1, stp p16 f, by omega, by go_num, by rw [stp_even _ _ (by rw [← HF.out]; exact HE.out), ← HF.out]; rfl, by show _ = _; rw [stpN_succ, ← hf.out]⟩
            case measure => simp [intOf]; omega
          · have ht : (bits BinOp.and .u16 (F : Int) 1 == 1) = true := by rw [and16 F hf1, he]; rfl
            have HE := Lib.hid he
            clear he
            go_wp2_with fail
            go_round
            case rel => exact ⟨j + 1, stp p16 f, by omega, by go_num, by rw [HF.out]; exact step16 f (by rw [← HF.out]; exact HE.out), by show _ = _; rw [stpN_succ, ← hf.out]⟩
            case measure => simp [intOf]; omega
        · obtain rfl : j = 8 := by omega
          go_wp2_with fail
          go_round
          case rel =>
            refine ⟨k + 1, f, by omega, by go_num, rfl, ?_⟩
            show f = _
            rw [fB_take l 16 _ _ k (by have := HR.out.1; omega), ← hd.out, ← Hx.out]
            exact hf.out
          case measure => simp [intOf]; omega
    · obtain rfl : k = n := by omega
      have hl := HR.out.1
      have hfin : s16 l = ~~~ d := by rw [hd.out, List.take_of_length_le (by omega)]; rfl
      have HF := Lib.hid hfin
      have hd1 : (d.toNat : Int) < 65536 := by have := d.isLt; omega
      clear hfin hl
      go_wp2_with fail
      go_ret
      exact ⟨by rw [HF.out]; exact flip16 d, rfl⟩
set_option maxRecDepth 100000 in
set_option maxHeartbeats 1000000 in
theorem sum32_any (A : Option Addr) (n c B : Nat) (l : List UInt8) (w : World) (h : Rd w B A n l) (hn : n ≤ 140737488355328) :
    Calls Tryd.prog 81 #[.slice A n c, .int .u32 2197175160] w fun e w' => e = .returned (.int .u32 ((s32 l).toNat : Int)) ∧ w = w' := by
  have HR := Lib.hid h
  clear h
  go_enter Tryd.func81, Tryd.ntmps81
  go_wp2
  go_loop [5, 13] (fun v i => ∃ (k : Nat) (d : BitVec 32), k ≤ n ∧ i = .int .i64 k ∧ v = .int .u32 (d.toNat : Int) ∧ Hid (d = fB p32 0xffffffff#32 (l.take k))) (fun _ i => n - (intOf i).toNat)
  case atStart => exact ⟨0, 0xffffffff#32, Nat.zero_le _, rfl, rfl, rfl⟩
  case round =>
    obtain ⟨k, d, hk, rfl, rfl, hd⟩ := hrel
    by_cases hlt : k < n
    · obtain ⟨b, o, rfl, hb, hcell⟩ := HR.out.2 (by omega)
      obtain ⟨x, hx⟩ : ∃ x, x = l.getD k 0 := ⟨_, rfl⟩
      have hcx : w.cell? ⟨b, o + k, none⟩ = some (.int .u8 (x.toNat : Int)) := by rw [hx]; exact hcell k hlt
      have Hx := Lib.hid hx
      clear hx hcell
      have hx1 : (x.toNat : Int) < 256 := by have := x.toNat_lt; omega
      have hx0 : (0 : Int) ≤ (x.toNat : Int) := by omega
      have hd1 : (d.toNat : Int) < 4294967296 := by have := d.isLt; omega
      go_wp2_with fail
      clear hx0 hx1 hd1
      go_loop [5, 21] (fun v i => ∃ (j : Nat) (f : BitVec 32), j ≤ 8 ∧ i = .int .i64 j ∧ v = .int .u32 (f.toNat : Int) ∧ Hid (f = stpN p32 j (d ^^^ BitVec.ofNat 32 x.toNat))) (fun _ i => 8 - (intOf i).toNat)
      case atStart => exact ⟨0, d ^^^ BitVec.ofNat 32 x.toNat, by omega, rfl, byte32 d x, rfl⟩
      case round =>
        obtain ⟨j, f, hj, rfl, rfl, hf⟩ := hrel
        by_cases hj8 : j < 8
        · obtain ⟨F, hF⟩ : ∃ F, F = f.toNat := ⟨_, rfl⟩
          have hf1 : F < 4294967296 := by have := f.isLt; omega
          rw [← hF]
          have HF := Lib.hid hF
          clear hF
          rcases Nat.mod_two_eq_zero_or_one F with he | he
          · have ht : (bits BinOp.and .u32 (F : Int) 1 == 1) = false := by rw [and32 F hf1, he]; rfl
            have HE := Lib.hid he
            clear he
            go_wp2_with fail
            go_round
            case rel => exact ⟨j + 1, stp p32 f, by omega, by go_num, by rw [stp_even _ _ (by rw [← HF.out]; exact HE.out), ← HF.out]; rfl, by show _ = _; rw [stpN_succ, ← hf.out]⟩
            case measure => simp [intOf]; omega
          · have ht : (bits BinOp.and .u32 (F : Int) 1 == 1) = true := by rw [and32 F hf1, he]; rfl
            have HE := Lib.hid he
            clear he
            go_wp2_with fail
            go_round
            case rel => exact ⟨j + 1, stp p32 f, by omega, by go_num, by rw [HF.out]; exact step32 f (by rw [← HF.out]; exact HE.out), by show _ = _; rw [stpN_succ, ← hf.out]⟩
            case measure => simp [intOf]; omega
        · obtain rfl : j = 8 := by omega
          go_wp2_with fail
          go_round
          case rel =>
            refine ⟨k + 1, f, by omega, by go_num, rfl, ?_⟩
            show f = _
            rw [fB_take l 32 _ _ k (by have := HR.out.1; omega), ← hd.out, ← Hx.out]
            exact hf.out
          case measure => simp [intOf]; omega
    · obtain rfl : k = n := by omega
      have hl := HR.out.1
      have hfin : s32 l = ~~~ d := by rw [hd.out, List.take_of_length_le (by omega)]; rfl
      have HF := Lib.hid hfin
      have hd1 : (d.toNat : Int) < 4294967296 := by have := d.isLt; omega
      clear hfin hl
      go_wp2_with fail
      go_ret
      exact ⟨by rw [HF.out]; exact flip32 d, rfl⟩

theorem short_any (A : Option Addr) (n c B : Nat) (l : List UInt8) (w : World) (h : Rd w B A n l) (hn : n ≤ 140737488355328) :
    Calls Tryd.prog 78 #[.slice A n c] w fun e w' => e = .returned (.int .u16 ((s16 l).toNat : Int)) ∧ w = w' := by
  have C := Lib.hid (sum16_any A n c B l w h hn)
  clear h
  go_enter Tryd.func78, Tryd.ntmps78
  go_wp2_with fail
  refine C.out.mono ?_
  rintro e w' ⟨rfl, rfl⟩
  go_wp2_with fail
  go_ret
  exact ⟨rfl, rfl⟩

theorem long_any (A : Option Addr) (n c B : Nat) (l : List UInt8) (w : World) (h : Rd w B A n l) (hn : n ≤ 140737488355328) :
    Calls Tryd.prog 79 #[.slice A n c] w fun e w' => e = .returned (.int .u32 ((s32 l).toNat : Int)) ∧ w = w' := by
  have C := Lib.hid (sum32_any A n c B l w h hn)
  clear h
  go_enter Tryd.func79, Tryd.ntmps79
  go_wp2_with fail
  refine C.out.mono ?_
  rintro e w' ⟨rfl, rfl⟩
  go_wp2_with fail
  go_ret
  exact ⟨rfl, rfl⟩
set_option maxRecDepth 100000 in
set_option maxHeartbeats 1000000 in
theorem bytes_any (kind : Int) (A : Option Addr) (n c B : Nat) (l : List UInt8) (w : World) (h : Rd w B A n l) (hn : n ≤ 140737488355328) :
    Calls Tryd.prog 72 #[.int .i64 kind, .slice A n c] w (Gives (crcBytes kind l) w) := by
  have c1 := short_any A n c B l w h hn
  have c2 := long_any A n c B l w h hn
  have v1 := (s16 l).isLt
  have v2 := (s32 l).isLt
  clear h
  by_cases h1 : kind = 1
  · subst h1
    rw [show crcBytes 1 l = be (s16 l).toNat 2 from rfl, be2]
    generalize (s16 l).toNat = v at *
    have C1 := Lib.hid c1
    clear c1 c2
    go_enter Tryd.func72, Tryd.ntmps72
    go_wp2_with fail
    refine C1.out.mono ?_
    rintro e w' ⟨rfl, rfl⟩
    go_wp2_with fail
    go_ret
    exact gives_lit w _ _ _ 2 rfl (cs2 v v1)
  · by_cases h2 : kind = 2
    · subst h2
      rw [show crcBytes 2 l = be (s32 l).toNat 4 from rfl, be4]
      generalize (s32 l).toNat = v at *
      have C2 := Lib.hid c2
      clear c1 c2
      go_enter Tryd.func72, Tryd.ntmps72
      go_wp2_with fail
      refine C2.out.mono ?_
      rintro e w' ⟨rfl, rfl⟩
      go_wp2_with fail
      go_ret
      exact gives_lit w _ _ _ 4 rfl (cs4 v v2)
    · rw [show crcBytes kind l = [] by unfold crcBytes; rw [if_neg h1, if_neg h2]]
      have e1 : (kind == 1) = false := by simpa using h1
      have e2 : (kind == 2) = false := by simpa using h2
      clear h1 h2 c1 c2
      go_enter Tryd.func72, Tryd.ntmps72
      go_wp2_with fail
      go_ret
      exact gives_nil w
end Go.Proofs.YtahgaogmcffglaaDoor
/- What Put returns: the lowest bytes of a number, the highest first, in new memory. -/
namespace Go.Proofs.YtahgaogmcffglaaDoor
open Go.RowKit

set_option maxRecDepth 100000 in
set_option maxHeartbeats 1000000 in
theorem put_any (x size : Int) (w : World) (hx0 : 0 ≤ x) (_hx1 : x < 18446744073709551616) :
    Calls Tryd.prog 67 #[.int .u64 x, .int .i64 size] w fun e w' =>
      e = .returned (.slice (some ⟨w.heap.size, 0, none⟩) (psz size) (psz size)) ∧ Rb w' w.heap.size 5 (psz size) (be x.toNat (psz size)) ∧ Below w.heap.size w w' := by
  have hsz := psz_eq size
  have hle := psz_le size
  generalize psz size = n at *
  have hmk := fun (w : World) => run_make_row' (P := Tryd.prog) 33 5 (.int .u8 0) 1 rfl info_u8 rfl .i64 .i64 n (by omega) (by omega) w
  go_enter Tryd.func67, Tryd.ntmps67
  go_wp2
  go_loopw [13] (fun i wr => ∃ k : Nat, k ≤ n ∧ i = .int .i64 k ∧ Hid (wr.rowIs w.heap.size 5 n (putRow x.toNat n k)) ∧ Hid (Below w.heap.size w wr))
    (fun i _ => n - (intOf i).toNat)
  case atStart => exact ⟨0, Nat.zero_le _, rfl, (World.rowIs_made _ _ _ _).congr (fun j hj => by simp [putRow]; omega), (Below.refl _ _).alloc (Nat.le_refl _) _⟩
  case round =>
    obtain ⟨k, hk, rfl, hrow, hbel⟩ := hrel
    by_cases hlt : k < n
    · have hf1 : wr.frozen? ⟨w.heap.size, n - 1 - k, none⟩ = false := World.rowIs.frozen hrow.out _
      have hc1 : wr.cell? ⟨w.heap.size, n - 1 - k, none⟩ = some _ := World.rowIs.cell hrow.out (by omega)
      go_wp2_with fail
      go_roundw
      case rel =>
        refine ⟨k + 1, by omega, by go_num, (World.rowIs.set hrow.out _ _).congr fun j hj => ?_, hbel.out.setCell (by simp) _⟩
        exact putRow_step x hx0 n k j hlt hj
      case measure => simp [intOf]; omega
    · obtain rfl : k = n := by omega
      have hr : Rb wr w.heap.size 5 k (be x.toNat k) := hrow.out.congr fun j hj => putRow_end x.toNat k j hj
      have HR := Lib.hid hr
      clear hr
      go_wp2
      go_ret
      exact ⟨rfl, HR.out, hbel.out⟩

end Go.Proofs.YtahgaogmcffglaaDoor
/- Logs, plain: what records have together. No program's number stands here. -/
namespace Go.Proofs.YtahgaogmcffglaaDoor
open Go.RowKit

/-- How many bytes the frames of records have together. -/
def sumL (l : List Rcd) : Nat := (l.map fun r => r.dat.length + 7).sum
/-- The same; -1, if one may not be. -/
def szL (l : List Rcd) : Int := if l.all rokR = true then (sumL l : Int) else -1
theorem sumL_snoc (l : List Rcd) (r : Rcd) : sumL (l ++ [r]) = sumL l + (r.dat.length + 7) := by simp [sumL]
theorem sumL_take {l : List Rcd} {i : Nat} {r : Rcd} (h : l[i]? = some r) : sumL (l.take (i + 1)) = sumL (l.take i) + (r.dat.length + 7) := by
  rw [List.take_add_one, h, Option.toList_some, sumL_snoc]
theorem sumL_frames (salt : Nat) : ∀ l : List Rcd, (framesR salt l).length = sumL l
  | [] => rfl
  | r :: l => by
    rw [framesR, List.length_append, frameR_len, sumL_frames salt l]
    simp [sumL]
theorem all_take {l : List Rcd} {i : Nat} {r : Rcd} (h : l[i]? = some r) : (l.take (i + 1)).all rokR = ((l.take i).all rokR && rokR r) := by
  rw [List.take_add_one, h, Option.toList_some, List.all_append]
  simp
theorem szL_no {l : List Rcd} {r : Rcd} (h : r ∈ l) (hr : rokR r = false) : szL l = -1 := by
  unfold szL
  rw [if_neg]
  intro ha
  rw [List.all_eq_true] at ha
  rw [ha r h] at hr
  cases hr
theorem szL_ok {l : List Rcd} (h : ∀ r ∈ l, rokR r = true) : szL l = (sumL l : Int) := by
  unfold szL
  rw [if_pos (List.all_eq_true.2 h)]
theorem sumL_bd : ∀ l : List Rcd, (∀ r ∈ l, rokR r = true) → sumL l ≤ 8199 * l.length
  | [], _ => Nat.le_refl _
  | r :: l, h => by
    have h1 := (rokR_iff.1 (h r (by simp))).2.2
    have h2 := sumL_bd l fun x hx => h x (by simp [hx])
    have e : sumL (r :: l) = (r.dat.length + 7) + sumL l := by simp [sumL]
    rw [e, List.length_cons]
    omega
end Go.Proofs.YtahgaogmcffglaaDoor
