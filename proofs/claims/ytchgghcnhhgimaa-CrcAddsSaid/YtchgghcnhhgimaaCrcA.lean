/- The walk of the statement CrcAdds. -/
import Derived.Test.YtchgghcnhhgimaaCrcH
import Derived.RegionTactic
import Derived.BigRegion
import Derived.ChangeAlike
import Derived.StillTailTactics
namespace Go.Proofs.Ytchgghcnhhgimaa
open Go.RowKit

theorem xor3_u8 (x y z : UInt8) : Value.int .u8 (bits BinOp.xor IntKind.u8 (bits BinOp.xor IntKind.u8 (x.toNat : Int) (y.toNat : Int)) (z.toNat : Int)) = .int .u8 ((x ^^^ y ^^^ z).toNat : Int) := by
  rw [u8_xor_nat _ _ x.toNat_lt y.toNat_lt, u8_xor_nat _ _ (Nat.xor_lt_two_pow (n := 8) x.toNat_lt y.toNat_lt) z.toNat_lt, UInt8.toNat_xor, UInt8.toNat_xor]

def xor3 (a b c : List UInt8) (n : Nat) : List UInt8 := (List.range n).map fun i => a.getD i 0 ^^^ b.getD i 0 ^^^ c.getD i 0

theorem xor3_zip (a b c : List UInt8) (k : Nat) (ha : k ≤ a.length) (hb : k ≤ b.length) (hc : k ≤ c.length) :
    xor3 a b c k = List.zipWith (· ^^^ ·) (List.zipWith (· ^^^ ·) (a.take k) (b.take k)) (c.take k) := by
  apply List.ext_getElem
  · simp [xor3]; omega
  · intro i h1 h2
    have hi : i < k := by simpa [xor3] using h1
    have ia : i < a.length := by omega
    have ib : i < b.length := by omega
    have ic : i < c.length := by omega
    simp [xor3, List.getD, ia, ib, ic]
theorem not3 {n : Nat} (x y z : BitVec n) : ~~~ (x ^^^ y ^^^ z) = ~~~ x ^^^ ~~~ y ^^^ ~~~ z := by
  apply BitVec.eq_of_getLsbD_eq
  intro i hi
  simp [hi]
theorem fB_xor3 {n : Nat} (p o : BitVec n) (a b c : List UInt8) (k : Nat) (ha : k ≤ a.length) (hb : k ≤ b.length) (hc : k ≤ c.length) :
    fB p o (xor3 a b c k) = fB p o (a.take k) ^^^ fB p o (b.take k) ^^^ fB p o (c.take k) := by
  have e : o = o ^^^ o ^^^ o := by rw [BitVec.xor_self, BitVec.zero_xor]
  conv => lhs; rw [e]
  rw [xor3_zip a b c k ha hb hc, fB_xor p _ _ (o ^^^ o) o (by simp; omega), fB_xor p _ _ o o (by simp; omega)]
theorem s32_adds (a b c : List UInt8) (k : Nat) (ha : k ≤ a.length) (hb : k ≤ b.length) (hc : k ≤ c.length) :
    bits BinOp.xor IntKind.u32 (bits BinOp.xor IntKind.u32 ((s32 (a.take k)).toNat : Int) ((s32 (b.take k)).toNat : Int)) ((s32 (c.take k)).toNat : Int) = ((s32 (xor3 a b c k)).toNat : Int) := by
  have e : s32 (xor3 a b c k) = s32 (a.take k) ^^^ s32 (b.take k) ^^^ s32 (c.take k) := by unfold s32; rw [fB_xor3 p32 _ a b c k ha hb hc, not3]
  rw [e, u32_xor_nat _ _ (s32 _).isLt (s32 _).isLt, u32_xor_nat _ _ (Nat.xor_lt_two_pow (n := 32) (s32 _).isLt (s32 _).isLt) (s32 _).isLt, BitVec.toNat_xor, BitVec.toNat_xor]
theorem s16_adds (a b c : List UInt8) (k : Nat) (ha : k ≤ a.length) (hb : k ≤ b.length) (hc : k ≤ c.length) :
    bits BinOp.xor IntKind.u16 (bits BinOp.xor IntKind.u16 ((s16 (a.take k)).toNat : Int) ((s16 (b.take k)).toNat : Int)) ((s16 (c.take k)).toNat : Int) = ((s16 (xor3 a b c k)).toNat : Int) := by
  have e : s16 (xor3 a b c k) = s16 (a.take k) ^^^ s16 (b.take k) ^^^ s16 (c.take k) := by unfold s16; rw [fB_xor3 p16 _ a b c k ha hb hc, not3]
  rw [e, u16_xor_nat _ _ (s16 _).isLt (s16 _).isLt, u16_xor_nat _ _ (Nat.xor_lt_two_pow (n := 16) (s16 _).isLt (s16 _).isLt) (s16 _).isLt, BitVec.toNat_xor, BitVec.toNat_xor]
theorem sym_ {P : Program} {f : FuncId} {args : Array Value} {w : World} {v : Value} (h : Calls P f args w fun e w' => e = .returned v ∧ w = w') : Calls P f args w fun e w' => e = .returned v ∧ w' = w :=
  h.mono fun _ _ ⟨a, b⟩ => ⟨a, b.symm⟩

set_option maxRecDepth 100000 in
set_option maxHeartbeats 2000000 in
theorem crcAdds_walk (A0 : Option Addr) (n0 c0 : Nat) (l0 : List UInt8) (A1 : Option Addr) (n1 c1 : Nat) (l1 : List UInt8) (A2 : Option Addr) (n2 c2 : Nat) (l2 : List UInt8) (w : World)
    (h0 : Rd w w.heap.size A0 n0 l0 ∧ n0 ≤ c0 ∧ c0 ≤ 140737488351232) (h1 : Rd w w.heap.size A1 n1 l1 ∧ n1 ≤ c1 ∧ c1 ≤ 140737488351232) (h2 : Rd w w.heap.size A2 n2 l2 ∧ n2 ≤ c2 ∧ c2 ≤ 140737488351232) :
    Calls Try.prog 5 #[.slice A0 n0 c0, .slice A1 n1 c1, .slice A2 n2 c2] w fun e w' => e = .returned (.bool true) ∧ Below w.heap.size w w' := by
  obtain ⟨r0, k0, m0⟩ := h0
  obtain ⟨r1, k1, m1⟩ := h1
  obtain ⟨r2, k2, m2⟩ := h2
  obtain ⟨m, hm⟩ : ∃ m, m = min n0 (min n1 n2) := ⟨_, rfl⟩
  have hm0 : m ≤ n0 := by omega
  have hm1 : m ≤ n1 := by omega
  have hm2 : m ≤ n2 := by omega
  have hmk := fun (w : World) => run_make_row' (P := Try.prog) 22 5 (.int .u8 0) 1 rfl info_u8 rfl .i64 .i64 m (by omega) (by omega) w
  have HM := Lib.hid hm
  have R0 := Lib.hid r0
  have R1 := Lib.hid r1
  have R2 := Lib.hid r2
  clear hm r0 r1 r2
  go_enter Try.func5, Try.ntmps5
  go_upto_region 1 with (fail)
  go_cut [7] (fun v wx => v = .int .i64 (m : Int) ∧ wx = w)
  case first =>
    go_wp2_with fail
    all_goals
      go_meet
      case rel => exact ⟨by rw [HM.out]; go_num, rfl⟩
  case rest =>
    obtain ⟨rfl, rfl⟩ := hcut
    go_wp2_with fail
    go_loopw [9] (fun i wr => ∃ k : Nat, k ≤ m ∧ i = .int .i64 k ∧ Hid (Rb wr wc.heap.size 5 m (xor3 l0 l1 l2 k)) ∧ Hid (Below wc.heap.size wc wr)) (fun i _ => m - (intOf i).toNat)
    case atStart => exact ⟨0, Nat.zero_le _, rfl, Rb.made _ _ _, (Below.refl _ _).alloc (Nat.le_refl _) _⟩
    case round =>
      obtain ⟨k, hk, rfl, hrow, hbel⟩ := hrel
      by_cases hlt : k < m
      · obtain ⟨b0, o0, rfl, hb0, hcell0⟩ := R0.out.2 (by omega)
        obtain ⟨b1, o1, rfl, hb1, hcell1⟩ := R1.out.2 (by omega)
        obtain ⟨b2, o2, rfl, hb2, hcell2⟩ := R2.out.2 (by omega)
        obtain ⟨x, hx⟩ : ∃ x, x = l0.getD k 0 := ⟨_, rfl⟩
        obtain ⟨y, hy⟩ : ∃ y, y = l1.getD k 0 := ⟨_, rfl⟩
        obtain ⟨z, hz⟩ : ∃ z, z = l2.getD k 0 := ⟨_, rfl⟩
        have hcx : wr.cell? ⟨b0, o0 + k, none⟩ = some (.int .u8 (x.toNat : Int)) := by rw [hx]; exact (hbel.out.cell (p := ⟨b0, o0 + k, none⟩) hb0).trans (hcell0 k (by omega))
        have hcy : wr.cell? ⟨b1, o1 + k, none⟩ = some (.int .u8 (y.toNat : Int)) := by rw [hy]; exact (hbel.out.cell (p := ⟨b1, o1 + k, none⟩) hb1).trans (hcell1 k (by omega))
        have hcz : wr.cell? ⟨b2, o2 + k, none⟩ = some (.int .u8 (z.toNat : Int)) := by rw [hz]; exact (hbel.out.cell (p := ⟨b2, o2 + k, none⟩) hb2).trans (hcell2 k (by omega))
        have hf1 : wr.frozen? ⟨wc.heap.size, k, none⟩ = false := World.rowIs.frozen hrow.out _
        have hc1 : wr.cell? ⟨wc.heap.size, k, none⟩ = some _ := World.rowIs.cell hrow.out hlt
        have Hx := Lib.hid hx
        have Hy := Lib.hid hy
        have Hz := Lib.hid hz
        have i0 : (k : Int) < (n0 : Int) := by omega
        have i1 : (k : Int) < (n1 : Int) := by omega
        have i2 : (k : Int) < (n2 : Int) := by omega
        have i3 : (k : Int) < (m : Int) := by omega
        clear hx hy hz hcell0 hcell1 hcell2
        go_wp2_with fail
        go_region
        go_wp2_with fail
        go_roundw
        case rel =>
          refine ⟨k + 1, by omega, by go_num, ?_, (hbel.out.setCell (by simp) _).drew⟩
          have hl : (xor3 l0 l1 l2 k).length = k := by simp [xor3]
          have hs : xor3 l0 l1 l2 (k + 1) = xor3 l0 l1 l2 k ++ [x ^^^ y ^^^ z] := by rw [Hx.out, Hy.out, Hz.out]; simp [xor3, List.range_succ]
          rw [hs]
          exact (Rb.push hrow.out (x ^^^ y ^^^ z) hl (xor3_u8 x y z)).drew
        case measure => simp [intOf]; omega
      · obtain rfl : k = m := by omega
        have e32 := s32_adds l0 l1 l2 k (by rw [R0.out.1]; exact hm0) (by rw [R1.out.1]; exact hm1) (by rw [R2.out.1]; exact hm2)
        have e16 := s16_adds l0 l1 l2 k (by rw [R0.out.1]; exact hm0) (by rw [R1.out.1]; exact hm1) (by rw [R2.out.1]; exact hm2)
        obtain ⟨B0, d0, hs0, _, _, q0⟩ := cut_h (P := Try.prog) 22 5 rfl size_u8 c0 (R0.out.below hbel.out) (k : Int) k rfl hm0 k0
        obtain ⟨B1, d1, hs1, _, _, q1⟩ := cut_h (P := Try.prog) 22 5 rfl size_u8 c1 (R1.out.below hbel.out) (k : Int) k rfl hm1 k1
        obtain ⟨B2, d2, hs2, _, _, q2⟩ := cut_h (P := Try.prog) 22 5 rfl size_u8 c2 (R2.out.below hbel.out) (k : Int) k rfl hm2 k2
        have q3 : Rd wr wr.heap.size (some ⟨wc.heap.size, 0, none⟩) k (xor3 l0 l1 l2 k) := Rb.rd hrow.out (by simp [xor3]) (Rb.lt hrow.out)
        have j0 := sym_ (long_any B0 k d0 _ _ wr.drew q0.drew (by omega))
        have j1 := sym_ (long_any B1 k d1 _ _ wr.drew q1.drew (by omega))
        have j2 := sym_ (long_any B2 k d2 _ _ wr.drew q2.drew (by omega))
        have j3 := sym_ (long_any _ k k _ _ wr.drew q3.drew (by omega))
        have i0 := sym_ (short_any B0 k d0 _ _ wr.drew q0.drew (by omega))
        have i1 := sym_ (short_any B1 k d1 _ _ wr.drew q1.drew (by omega))
        have i2 := sym_ (short_any B2 k d2 _ _ wr.drew q2.drew (by omega))
        have i3 := sym_ (short_any _ k k _ _ wr.drew q3.drew (by omega))
        generalize (s32 (l0.take k)).toNat = x0 at *
        generalize (s32 (l1.take k)).toNat = x1 at *
        generalize (s32 (l2.take k)).toNat = x2 at *
        generalize (s32 (xor3 l0 l1 l2 k)).toNat = x3 at *
        generalize (s16 (l0.take k)).toNat = y0 at *
        generalize (s16 (l1.take k)).toNat = y1 at *
        generalize (s16 (l2.take k)).toNat = y2 at *
        generalize (s16 (xor3 l0 l1 l2 k)).toNat = y3 at *
        have J0 := Lib.hid j0
        have J1 := Lib.hid j1
        have J2 := Lib.hid j2
        have J3 := Lib.hid j3
        have I0 := Lib.hid i0
        have I1 := Lib.hid i1
        have I2 := Lib.hid i2
        have I3 := Lib.hid i3
        clear j0 j1 j2 j3 i0 i1 i2 i3 q0 q1 q2 q3 hrow hmk
        go_wp2_with fail
        refine wp_region_still_tail 37 (by kernel_rfl) (by kernel_rfl) ?_
        simp only [List.take_succ_cons, List.take_zero, List.drop_succ_cons, List.drop_zero]
        repeat still_step
        still_call J3.out
        repeat still_step
        still_call J0.out
        repeat still_step
        still_call J1.out
        repeat still_step
        still_call J2.out
        repeat still_step
        still_call I3.out
        repeat still_step
        still_call I0.out
        repeat still_step
        still_call I1.out
        repeat still_step
        still_call I2.out
        repeat still_step
        refine wpStill_nil ?_
        have hbd : Below wc.heap.size wc wr.drew := hbel.out.drew
        have HBD := Lib.hid hbd
        clear hbd J0 J1 J2 J3 I0 I1 I2 I3
        change wpList _ _ _ _ _ wr.drew
        generalize wr.drew = w2 at *
        go_wp2_with fail
        refine (heads02_any _).mono ?_
        rintro e w5 ⟨rfl, hb5⟩
        have B5 := Lib.hid hb5
        clear hb5
        go_wp2_with fail
        go_ret
        exact ⟨rfl, HBD.out.trans (B5.out.mono HBD.out.size)⟩
end Go.Proofs.Ytchgghcnhhgimaa
