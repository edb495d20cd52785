/- The walk of the statement CrcTells. -/
import Derived.Test.YtchgghcnhhgimaaCrcT
namespace Go.Proofs.Ytchgghcnhhgimaa
open Go.RowKit

theorem wf_u32 {n : Int} (h : (Lit.int .u32 n).wf = true) : 0 ≤ n ∧ n < 4294967296 := by
  simp [Lit.wf, IntKind.min, IntKind.max, IntKind.signed, IntKind.bits] at h
  omega
theorem and_low16 (b : Nat) (hb : b < 4294967296) : bits BinOp.and IntKind.u32 (b : Int) 65535 = ((b % 65536 : Nat) : Int) := by
  have h := u32_and_nat b 65535 hb (by decide)
  rw [show ((65535 : Nat) : Int) = 65535 from rfl] at h
  rw [h, show (65535 : Nat) = 2 ^ 16 - 1 from rfl, Nat.and_two_pow_sub_one_eq_mod]

set_option maxRecDepth 100000 in
set_option maxHeartbeats 2000000 in
/-- No bit is turned. -/
theorem crcTells_out (A : Option Addr) (n c : Nat) (F b : Int) (w : World) (hn : n ≤ 140737488351232) (hF : F ≤ 9223372036854775807) (hout : F < 0 ∨ (0 ≤ F ∧ 8 * (n : Int) ≤ F) ∨ (0 ≤ F ∧ F < 8 * (n : Int) ∧ b = 0)) :
    Calls Try.prog 4 #[.slice A n c, .int .i64 F, .int .u32 b] w fun e w' => e = .returned (.bool true) ∧ Below w.heap.size w w' := by
  rcases hout with h | ⟨h1, h2⟩ | ⟨h1, h2, h3⟩
  · go_enter Try.func4, Try.ntmps4
    go_wp2_with fail
    refine (heads02_any _).mono ?_
    rintro e w5 ⟨rfl, hb5⟩
    have B5 := Lib.hid hb5
    clear hb5
    go_wp2_with fail
    go_ret
    exact ⟨rfl, B5.out⟩
  · go_enter Try.func4, Try.ntmps4
    go_wp2_with fail
    refine (heads02_any _).mono ?_
    rintro e w5 ⟨rfl, hb5⟩
    have B5 := Lib.hid hb5
    clear hb5
    go_wp2_with fail
    go_ret
    exact ⟨rfl, B5.out⟩
  · have ht : (b == 0) = true := by rw [beq_iff_eq]; exact h3
    have hge : ¬ (8 * (n : Int) ≤ F) := by omega
    clear h3
    go_enter Try.func4, Try.ntmps4
    go_wp2_with fail
    refine (heads02_any _).mono ?_
    rintro e w5 ⟨rfl, hb5⟩
    have B5 := Lib.hid hb5
    clear hb5
    go_wp2_with fail
    go_ret
    exact ⟨rfl, B5.out⟩

set_option maxRecDepth 100000 in
set_option maxHeartbeats 4000000 in
/-- Some are. -/
theorem crcTells_in (A : Option Addr) (n c F b : Nat) (l : List UInt8) (w : World) (hr : Rd w w.heap.size A n l) (hn : n ≤ 140737488351232) (hF : F < 8 * n) (hb : b < 4294967296) (hb0 : b ≠ 0) :
    Calls Try.prog 4 #[.slice A n c, .int .i64 (F : Int), .int .u32 (b : Int)] w fun e w' => e = .returned (.bool true) ∧ Below w.heap.size w w' := by
  have ht0 : ((b : Int) == 0) = false := by rw [beq_eq_false_iff_ne]; omega
  have hlow := and_low16 b hb
  have hF1 : (F : Int) < 8 * (n : Int) := by omega
  have hF0 : (0 : Int) ≤ (F : Int) := by omega
  have hge : ¬ (8 * (n : Int) ≤ (F : Int)) := by omega
  have hlen := hr.1
  have k1 := fun (w : World) (h : Rd w w.heap.size A n l) => turned_any A n c F b l w h hn hF hb
  have k2 := fun (w : World) (h : Rd w w.heap.size A n l) => turned_any A n c F (b % 65536) l w h hn hF (by omega)
  have t1 := s32_tells F b l (by omega)
  have t2 := s16_tells F (b % 65536) l (by omega)
  have l1 := turnB_length F b l 32
  have l2 := turnB_length F (b % 65536) l 32
  generalize turnB F b l 32 = L1 at *
  generalize turnB F (b % 65536) l 32 = L2 at *
  generalize b % 65536 = b2 at *
  have z1 : (l == L1) = false → (((s32 l).toNat : Int) != ((s32 L1).toNat : Int)) = true := by
    intro h
    rw [bne_iff_ne]
    intro e
    have : s32 l = s32 L1 := BitVec.eq_of_toNat_eq (by omega)
    rw [beq_eq_false_iff_ne] at h
    exact h (t1 this)
  have z2 : (l == L2) = false → (((s16 l).toNat : Int) != ((s16 L2).toNat : Int)) = true := by
    intro h
    rw [bne_iff_ne]
    intro e
    have : s16 l = s16 L2 := BitVec.eq_of_toNat_eq (by omega)
    rw [beq_eq_false_iff_ne] at h
    exact h (t2 this)
  have hn1 : L1.length ≤ 140737488355328 := by omega
  have hn2 : L2.length ≤ 140737488355328 := by omega
  have HR := Lib.hid hr
  have K1 := Lib.hid k1
  have K2 := Lib.hid k2
  have N1 := Lib.hid hn1
  have N2 := Lib.hid hn2
  have HLEN := Lib.hid hlen
  clear hr k1 k2 t1 t2 l1 l2 hn1 hn2 hlen hb0
  rcases Bool.eq_false_or_eq_true (l == L1) with e1 | e1
  · rcases Bool.eq_false_or_eq_true (l == L2) with e2 | e2
    · clear z1 z2
      go_enter Try.func4, Try.ntmps4
      go_wp2_with fail
      refine (K1.out _ HR.out).mono ?_
      rintro e w1 ⟨A1, n1, c1, rfl, hr1, hc1, hb1⟩
      have B1 := Lib.hid hb1
      have R1 := Lib.hid hr1
      have Q1 : Hid (Rd w1 w1.heap.size A n l) := (HR.out.below hb1).more hb1.size
      clear hb1 hr1 hc1
      go_wp2_with fail
      refine (K2.out _ Q1.out).mono ?_
      rintro e w2 ⟨A2, n2, c2, rfl, hr2, hc2, hb2⟩
      have B2 := Lib.hid hb2
      have R2 := Lib.hid hr2
      have Q2 : Hid (Rd w2 w2.heap.size A n l) := (Q1.out.below hb2).more hb2.size
      have R12 : Hid (Rd w2 w1.heap.size A1 n1 L1) := R1.out.below hb2
      clear hb2 hr2 hc2
      go_wp2_with fail
      refine (same_any A A1 n c n1 c1 _ _ l L1 w2 Q2.out R12.out).mono ?_
      rintro e w3 ⟨rfl, rfl⟩
      go_wp2_with fail
      refine (same_any A A2 n c n2 c2 _ _ l L2 w2 Q2.out R2.out).mono ?_
      rintro e w3 ⟨rfl, rfl⟩
      go_wp2_with fail
      refine (heads02_any _).mono ?_
      rintro e w5 ⟨rfl, hb5⟩
      have B5 := Lib.hid hb5
      clear hb5
      go_wp2_with fail
      go_ret
      exact ⟨rfl, (B1.out.trans (B2.out.mono B1.out.size)).trans (B5.out.mono (Nat.le_trans B1.out.size B2.out.size))⟩
    · have y2 := z2 e2
      clear z1 z2
      go_enter Try.func4, Try.ntmps4
      go_wp2_with fail
      refine (K1.out _ HR.out).mono ?_
      rintro e w1 ⟨A1, n1, c1, rfl, hr1, hc1, hb1⟩
      have B1 := Lib.hid hb1
      have R1 := Lib.hid hr1
      have Q1 : Hid (Rd w1 w1.heap.size A n l) := (HR.out.below hb1).more hb1.size
      clear hb1 hr1 hc1
      go_wp2_with fail
      refine (K2.out _ Q1.out).mono ?_
      rintro e w2 ⟨A2, n2, c2, rfl, hr2, hc2, hb2⟩
      have B2 := Lib.hid hb2
      have R2 := Lib.hid hr2
      have Q2 : Hid (Rd w2 w2.heap.size A n l) := (Q1.out.below hb2).more hb2.size
      have R12 : Hid (Rd w2 w1.heap.size A1 n1 L1) := R1.out.below hb2
      clear hb2 hr2 hc2
      go_wp2_with fail
      refine (same_any A A1 n c n1 c1 _ _ l L1 w2 Q2.out R12.out).mono ?_
      rintro e w3 ⟨rfl, rfl⟩
      go_wp2_with fail
      refine (same_any A A2 n c n2 c2 _ _ l L2 w2 Q2.out R2.out).mono ?_
      rintro e w3 ⟨rfl, rfl⟩
      go_wp2_with fail
      refine (short_any A n c _ l w2 Q2.out (by omega)).mono ?_
      rintro e w3 ⟨rfl, rfl⟩
      go_wp2_with fail
      refine (short_any A2 n2 c2 _ L2 w2 R2.out (by rw [← R2.out.1]; exact N2.out)).mono ?_
      rintro e w3 ⟨rfl, rfl⟩
      go_wp2_with fail
      refine (heads02_any _).mono ?_
      rintro e w5 ⟨rfl, hb5⟩
      have B5 := Lib.hid hb5
      clear hb5
      go_wp2_with fail
      go_ret
      exact ⟨rfl, (B1.out.trans (B2.out.mono B1.out.size)).trans (B5.out.mono (Nat.le_trans B1.out.size B2.out.size))⟩
  · have y1 := z1 e1
    rcases Bool.eq_false_or_eq_true (l == L2) with e2 | e2
    · clear z1 z2
      go_enter Try.func4, Try.ntmps4
      go_wp2_with fail
      refine (K1.out _ HR.out).mono ?_
      rintro e w1 ⟨A1, n1, c1, rfl, hr1, hc1, hb1⟩
      have B1 := Lib.hid hb1
      have R1 := Lib.hid hr1
      have Q1 : Hid (Rd w1 w1.heap.size A n l) := (HR.out.below hb1).more hb1.size
      clear hb1 hr1 hc1
      go_wp2_with fail
      refine (K2.out _ Q1.out).mono ?_
      rintro e w2 ⟨A2, n2, c2, rfl, hr2, hc2, hb2⟩
      have B2 := Lib.hid hb2
      have R2 := Lib.hid hr2
      have Q2 : Hid (Rd w2 w2.heap.size A n l) := (Q1.out.below hb2).more hb2.size
      have R12 : Hid (Rd w2 w1.heap.size A1 n1 L1) := R1.out.below hb2
      clear hb2 hr2 hc2
      go_wp2_with fail
      refine (same_any A A1 n c n1 c1 _ _ l L1 w2 Q2.out R12.out).mono ?_
      rintro e w3 ⟨rfl, rfl⟩
      go_wp2_with fail
      refine (long_any A n c _ l w2 Q2.out (by omega)).mono ?_
      rintro e w3 ⟨rfl, rfl⟩
      go_wp2_with fail
      refine (long_any A1 n1 c1 _ L1 w2 R12.out (by rw [← R12.out.1]; exact N1.out)).mono ?_
      rintro e w3 ⟨rfl, rfl⟩
      go_wp2_with fail
      refine (same_any A A2 n c n2 c2 _ _ l L2 w2 Q2.out R2.out).mono ?_
      rintro e w3 ⟨rfl, rfl⟩
      go_wp2_with fail
      refine (heads02_any _).mono ?_
      rintro e w5 ⟨rfl, hb5⟩
      have B5 := Lib.hid hb5
      clear hb5
      go_wp2_with fail
      go_ret
      exact ⟨rfl, (B1.out.trans (B2.out.mono B1.out.size)).trans (B5.out.mono (Nat.le_trans B1.out.size B2.out.size))⟩
    · have y2 := z2 e2
      clear z1 z2
      go_enter Try.func4, Try.ntmps4
      go_wp2_with fail
      refine (K1.out _ HR.out).mono ?_
      rintro e w1 ⟨A1, n1, c1, rfl, hr1, hc1, hb1⟩
      have B1 := Lib.hid hb1
      have R1 := Lib.hid hr1
      have Q1 : Hid (Rd w1 w1.heap.size A n l) := (HR.out.below hb1).more hb1.size
      clear hb1 hr1 hc1
      go_wp2_with fail
      refine (K2.out _ Q1.out).mono ?_
      rintro e w2 ⟨A2, n2, c2, rfl, hr2, hc2, hb2⟩
      have B2 := Lib.hid hb2
      have R2 := Lib.hid hr2
      have Q2 : Hid (Rd w2 w2.heap.size A n l) := (Q1.out.below hb2).more hb2.size
      have R12 : Hid (Rd w2 w1.heap.size A1 n1 L1) := R1.out.below hb2
      clear hb2 hr2 hc2
      go_wp2_with fail
      refine (same_any A A1 n c n1 c1 _ _ l L1 w2 Q2.out R12.out).mono ?_
      rintro e w3 ⟨rfl, rfl⟩
      go_wp2_with fail
      refine (long_any A n c _ l w2 Q2.out (by omega)).mono ?_
      rintro e w3 ⟨rfl, rfl⟩
      go_wp2_with fail
      refine (long_any A1 n1 c1 _ L1 w2 R12.out (by rw [← R12.out.1]; exact N1.out)).mono ?_
      rintro e w3 ⟨rfl, rfl⟩
      go_wp2_with fail
      refine (same_any A A2 n c n2 c2 _ _ l L2 w2 Q2.out R2.out).mono ?_
      rintro e w3 ⟨rfl, rfl⟩
      go_wp2_with fail
      refine (short_any A n c _ l w2 Q2.out (by omega)).mono ?_
      rintro e w3 ⟨rfl, rfl⟩
      go_wp2_with fail
      refine (short_any A2 n2 c2 _ L2 w2 R2.out (by rw [← R2.out.1]; exact N2.out)).mono ?_
      rintro e w3 ⟨rfl, rfl⟩
      go_wp2_with fail
      refine (heads02_any _).mono ?_
      rintro e w5 ⟨rfl, hb5⟩
      have B5 := Lib.hid hb5
      clear hb5
      go_wp2_with fail
      go_ret
      exact ⟨rfl, (B1.out.trans (B2.out.mono B1.out.size)).trans (B5.out.mono (Nat.le_trans B1.out.size B2.out.size))⟩

theorem crcTells_walk (A : Option Addr) (n c : Nat) (l : List UInt8) (F b : Int) (w : World) (hr : Rd w w.heap.size A n l ∧ n ≤ c ∧ c ≤ 140737488351232) (hF : (Lit.int .i64 F).wf = true) (hb : (Lit.int .u32 b).wf = true) :
    Calls Try.prog 4 #[.slice A n c, .int .i64 F, .int .u32 b] w fun e w' => e = .returned (.bool true) ∧ Below w.heap.size w w' := by
  obtain ⟨hr, hnc, hcc⟩ := hr
  obtain ⟨b0, b1⟩ := wf_u32 hb
  have hF2 : F ≤ 9223372036854775807 := by
    simp [Lit.wf, IntKind.min, IntKind.max, IntKind.signed, IntKind.bits] at hF
    omega
  by_cases h1 : F < 0
  · exact crcTells_out A n c F b w (by omega) hF2 (.inl h1)
  · by_cases h2 : 8 * (n : Int) ≤ F
    · exact crcTells_out A n c F b w (by omega) hF2 (.inr (.inl ⟨by omega, h2⟩))
    · by_cases h3 : b = 0
      · exact crcTells_out A n c F b w (by omega) hF2 (.inr (.inr ⟨by omega, by omega, h3⟩))
      · obtain ⟨f, rfl⟩ := Int.eq_ofNat_of_zero_le (by omega : 0 ≤ F)
        obtain ⟨v, rfl⟩ := Int.eq_ofNat_of_zero_le b0
        exact crcTells_in A n c f v l w hr (by omega) (by omega) (by omega) (by omega)
end Go.Proofs.Ytchgghcnhhgimaa
