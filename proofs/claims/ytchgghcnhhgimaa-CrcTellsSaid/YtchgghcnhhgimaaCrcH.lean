/- What must come at any rate ('heads' of layer 2's statements): true. And the walk of CrcSums. -/
import Derived.Test.YtchgghcnhhgimaaCrcS
namespace Go.Proofs.Ytchgghcnhhgimaa
open Go.RowKit

def txt9 : List UInt8 := [49, 50, 51, 52, 53, 54, 55, 56, 57]

set_option maxRecDepth 100000 in
set_option maxHeartbeats 1000000 in
theorem heads02_any (w : World) : Calls Try.prog 14 #[] w fun e w' => e = .returned (.bool true) ∧ Below w.heap.size w w' := by
  have s1 := fun (A : Option Addr) (B : Nat) (w : World) (h : Rd w B A 9 txt9) => short_any A 9 9 B txt9 w h (by decide)
  rw [show ((s16 txt9).toNat : Int) = 36974 from by decide +kernel] at s1
  have s2 := fun (A : Option Addr) (B : Nat) (w : World) (h : Rd w B A 9 txt9) => long_any A 9 9 B txt9 w h (by decide)
  rw [show ((s32 txt9).toNat : Int) = 3808858755 from by decide +kernel] at s2
  have s3 := fun (kind : Int) (A : Option Addr) (B : Nat) (w : World) (h : Rd w B A 9 txt9) => bytes_any kind A 9 9 B txt9 w h (by decide)
  have S1 := Lib.hid s1
  have S2 := Lib.hid s2
  have S3 := Lib.hid s3
  clear s1 s2 s3
  have kc := run_const
  go_enter Try.func14, Try.ntmps14
  go_wp2_with fail
  have hR := Rd.litm w _ rfl txt9 5 #[.int .u8 49, .int .u8 50, .int .u8 51, .int .u8 52, .int .u8 53, .int .u8 54, .int .u8 55, .int .u8 56, .int .u8 57] (9, 10) rfl 9 rfl
  have HR := Lib.hid hR
  clear hR
  refine (S1.out _ _ _ HR.out).mono ?_
  rintro e w1 ⟨rfl, rfl⟩
  go_wp2_with fail
  refine (S2.out _ _ _ HR.out).mono ?_
  rintro e w1 ⟨rfl, rfl⟩
  go_wp2_with fail
  refine (S3.out 1 _ _ _ HR.out).mono ?_
  rintro e w1 ⟨A1, n1, c1, rfl, hr1, hc1, hb1⟩
  obtain rfl : n1 = 2 := by rw [← hr1.1]; rfl
  have B1 := Lib.hid hb1
  have HR1 : Hid (Rd w1 (w.heap.size + 1) (some ⟨w.heap.size, 0, none⟩) 9 txt9) := HR.out.below (hb1.mono (by simp))
  clear hr1 hb1
  go_wp2_with fail
  refine (S3.out 3 _ _ _ HR1.out).mono ?_
  rintro e w2 ⟨A2, n2, c2, rfl, hr2, hc2, hb2⟩
  obtain rfl : n2 = 0 := by rw [← hr2.1]; rfl
  have B2 := Lib.hid hb2
  clear hr2 hb2
  go_wp2_with fail
  go_ret
  have h1 := B1.out
  have h2 := B2.out
  have z := h1.size
  simp at z
  exact ⟨rfl, (((Below.refl _ w).alloc (Nat.le_refl _) _).trans (h1.mono (by simp))).trans (h2.mono (by omega))⟩

set_option maxRecDepth 100000 in
set_option maxHeartbeats 1000000 in
theorem crcSums_walk (A : Option Addr) (n c : Nat) (l : List UInt8) (kind : Int) (w : World) (hb : Rd w w.heap.size A n l ∧ n ≤ c ∧ c ≤ 140737488351232) (_hk : (Lit.int .i64 kind).wf = true) :
    Calls Try.prog 3 #[.slice A n c, .int .i64 kind] w fun e w' => e = .returned (.bool true) ∧ Below w.heap.size w w' := by
  obtain ⟨hr, hnc, hcc⟩ := hb
  have HR := Lib.hid hr
  have hn : n ≤ 140737488355328 := by omega
  clear hr
  go_enter Try.func3, Try.ntmps3
  go_wp2_with fail
  refine (short_any A n c _ l _ HR.out hn).mono ?_
  rintro e w1 ⟨rfl, rfl⟩
  go_wp2_with fail
  refine (rshort_any A n c _ l _ HR.out hn).mono ?_
  rintro e w1 ⟨rfl, rfl⟩
  go_wp2_with fail
  refine (long_any A n c _ l _ HR.out hn).mono ?_
  rintro e w1 ⟨rfl, rfl⟩
  go_wp2_with fail
  refine (rlong_any A n c _ l _ HR.out hn).mono ?_
  rintro e w1 ⟨rfl, rfl⟩
  go_wp2_with fail
  refine (bytes_any kind A n c _ l _ HR.out hn).mono ?_
  rintro e w1 ⟨A1, n1, c1, rfl, hr1, hc1, hb1⟩
  have B1 := Lib.hid hb1
  have R1 := Lib.hid hr1
  clear hr1 hb1
  go_wp2_with fail
  refine (rbytes_any kind A n c _ l _ (HR.out.below B1.out) hn).mono ?_
  rintro e w2 ⟨A2, n2, c2, rfl, hr2, hc2, hb2⟩
  have B2 := Lib.hid hb2
  have R2 := Lib.hid hr2
  clear hr2 hb2
  go_wp2_with fail
  refine (same_true A1 A2 n1 c1 n2 c2 _ _ (crcBytes kind l) _ (R1.out.below B2.out) R2.out).mono ?_
  rintro e w3 ⟨rfl, rfl⟩
  go_wp2_with fail
  refine (heads02_any _).mono ?_
  rintro e w3 ⟨rfl, hb3⟩
  have B3 := Lib.hid hb3
  clear hb3
  go_wp2_with fail
  go_ret
  have z1 := B1.out.size
  have z2 := B2.out.size
  exact ⟨rfl, (B1.out.trans (B2.out.mono z1)).trans (B3.out.mono (by omega))⟩
end Go.Proofs.Ytchgghcnhhgimaa
