/- What the small functions of layer 7 and of its reference return: turning, shifting, constants. -/
import Derived.Test.YtllodapnbdbpeaaBase
import Derived.Test.YtllodapnbdbpeaaShaW
import Derived.Deep.WholeRow
import Derived.Laws.ResultCell
namespace Go.Proofs.Ytllodapnbdbpeaa
open Go.RowKit

theorem rr_l (x : BitVec 32) (n : Nat) : (x <<< (32 - n)).toNat = x.toNat * 2 ^ (32 - n) % 4294967296 := by
  rw [BitVec.toNat_shiftLeft, Nat.shiftLeft_eq]
theorem rr_r (x : BitVec 32) (n : Nat) : (x >>> n).toNat = x.toNat / 2 ^ n := by
  rw [BitVec.toNat_ushiftRight, Nat.shiftRight_eq_div_pow]
/-- As the walk has it. -/
theorem rr_walk (x : BitVec 32) (n : Nat) :
    bits BinOp.or .u32 ((x.toNat : Int) / 2 ^ n) ((x.toNat : Int) * 2 ^ (32 - n) % 4294967296) = ((rr x n).toNat : Int) := by
  have e1 : (x.toNat : Int) / 2 ^ n = ((x >>> n).toNat : Int) := by rw [rr_r]; simp
  have e2 : (x.toNat : Int) * 2 ^ (32 - n) % 4294967296 = ((x <<< (32 - n)).toNat : Int) := by rw [rr_l x n]; simp
  rw [e1, e2, orw]; rfl
theorem rr_walk' (x : BitVec 32) (m : Nat) (h : m ≤ 32) :
    bits BinOp.or .u32 ((x.toNat : Int) * 2 ^ m % 4294967296) ((x.toNat : Int) / 2 ^ (32 - m)) = ((rr x (32 - m)).toNat : Int) := by
  have e1 : (x.toNat : Int) / 2 ^ (32 - m) = ((x >>> (32 - m)).toNat : Int) := by rw [rr_r]; simp
  have e2 : (x.toNat : Int) * 2 ^ m % 4294967296 = ((x <<< (32 - (32 - m))).toNat : Int) := by rw [rr_l x (32 - m), show 32 - (32 - m) = m by omega]; simp
  rw [e1, e2, orw, BitVec.or_comm]; rfl
theorem and31 (n m : Nat) (h0 : 0 < n) (h : n < 32) (hm : m = 32 - n) : bits BinOp.and .u64 (IntKind.u64.wrap (-(n : Int))) 31 = (m : Int) := by
  have e : IntKind.u64.wrap (-(n : Int)) = ((18446744073709551616 - n : Nat) : Int) := by rw [IntKind.wrap_u64]; omega
  have e2 := u64_and_nat (18446744073709551616 - n) 31 (by omega) (by decide)
  rw [e]
  refine Eq.trans e2 ?_
  have e3 : (18446744073709551616 - n) &&& 31 = (18446744073709551616 - n) % 2 ^ 5 := Nat.and_two_pow_sub_one_eq_mod _ 5
  rw [e3]
  omega

theorem turn_any (x : BitVec 32) (n : Nat) (h0 : 0 < n) (h : n < 32) (w : World) :
    Calls Try.prog 30 #[.int .u32 (x.toNat : Int), .int .u32 (n : Int)] w fun e w' => e = .returned (.int .u32 ((rr x n).toNat : Int)) ∧ w = w' := by
  have hx := x.isLt
  have hr := Lib.hid (rr_walk x n)
  go_enter Try.func30, Try.ntmps30
  go_wp2
  go_ret
  exact ⟨ret_int hr.out, rfl⟩

theorem rot_any (x : BitVec 32) (n : Nat) (h0 : 0 < n) (h : n < 32) (w : World) :
    Calls Try.prog 44 #[.int .u32 (x.toNat : Int), .int .i64 (-(n : Int))] w fun e w' => e = .returned (.int .u32 ((rr x n).toNat : Int)) ∧ w = w' := by
  obtain ⟨m, hm⟩ : ∃ m, m = 32 - n := ⟨_, rfl⟩
  have ha := and31 n m h0 h hm
  have hx := x.isLt
  have h1 : m < 32 := by omega
  have h2 : 0 < m := by omega
  have hr0 := rr_walk' x m (by omega)
  rw [show 32 - m = n by omega] at hr0
  have hr := Lib.hid hr0
  have hm2 : 32 - m = n := by omega
  have HM := Lib.hid hm2
  clear hm hr0 hm2
  go_enter Try.func44, Try.ntmps44
  go_wp2
  go_ret
  rw [HM.out]
  exact ⟨ret_int hr.out, rfl⟩

theorem right_any (x : BitVec 32) (n : Nat) (h0 : 0 < n) (h : n < 32) (w : World) :
    Calls Try.prog 43 #[.int .u32 (x.toNat : Int), .int .i64 (n : Int)] w fun e w' => e = .returned (.int .u32 ((rr x n).toNat : Int)) ∧ w = w' := by
  have C := Lib.hid (rot_any x n h0 h)
  go_enter Try.func43, Try.ntmps43
  go_wp2_with fail
  refine (C.out w).mono ?_
  rintro e w' ⟨rfl, rfl⟩
  go_wp2_with fail
  go_ret
  exact ⟨rfl, rfl⟩

theorem turned_any (x : BitVec 32) (a b c : Nat) (ha : 0 < a ∧ a < 32) (hb : 0 < b ∧ b < 32) (hc : 0 < c ∧ c < 32) (w : World) :
    Calls Try.prog 40 #[.int .u32 (x.toNat : Int), .int .i64 (a : Int), .int .i64 (b : Int), .int .i64 (c : Int)] w fun e w' => e = .returned (.int .u32 ((tS x a b c).toNat : Int)) ∧ w = w' := by
  have A := Lib.hid (right_any x a ha.1 ha.2)
  have B := Lib.hid (right_any x b hb.1 hb.2)
  have C := Lib.hid (right_any x c hc.1 hc.2)
  clear ha hb hc
  go_enter Try.func40, Try.ntmps40
  go_wp2_with fail
  refine (A.out w).mono ?_
  rintro e w' ⟨rfl, rfl⟩
  go_wp2_with fail
  refine (B.out w).mono ?_
  rintro e w' ⟨rfl, rfl⟩
  go_wp2_with fail
  refine (C.out w).mono ?_
  rintro e w' ⟨rfl, rfl⟩
  go_wp2_with fail
  go_ret
  exact ⟨ret_int (by rw [xor32, xor32]; rfl), rfl⟩

theorem shifted_any (x : BitVec 32) (a b c : Nat) (ha : 0 < a ∧ a < 32) (hb : 0 < b ∧ b < 32) (hc : 0 < c ∧ c < 32) (w : World) :
    Calls Try.prog 42 #[.int .u32 (x.toNat : Int), .int .i64 (a : Int), .int .i64 (b : Int), .int .i64 (c : Int)] w fun e w' => e = .returned (.int .u32 ((tT x a b c).toNat : Int)) ∧ ∃ m, w' = w.drewN m := by
  have A := Lib.hid fun k => Calls.quiet_of_same (n := k) ((right_any x a ha.1 ha.2 (w.drewN k)).mono (fun _ _ h => ⟨h.1, h.2.symm⟩))
  have B := Lib.hid fun k => Calls.quiet_of_same (n := k) ((right_any x b hb.1 hb.2 (w.drewN k)).mono (fun _ _ h => ⟨h.1, h.2.symm⟩))
  have hxl := x.isLt
  have h0 := hc.1
  have h1 := hc.2
  have hs := Lib.hid (show (x.toNat : Int) / 2 ^ c = ((x >>> c).toNat : Int) by rw [rr_r]; simp)
  clear ha hb hc
  go_enter Try.func42, Try.ntmps42
  go_wp2_with fail
  go_quiet (first | (go_at_call 43; with_reducible exact A.out _) | (go_at_call 43; with_reducible exact B.out _) | fail)
  go_wp2_with fail
  go_ret
  exact ⟨ret_int (by rw [hs.out, xor32, xor32]; rfl), _, rfl⟩
end Go.Proofs.Ytllodapnbdbpeaa
