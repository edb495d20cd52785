/- What must come at any rate ('heads' of layer 8's statements): true. -/
import Derived.Test.YtllodapnbdbpeaaHmD
namespace Go.Proofs.Ytllodapnbdbpeaa
open Go.RowKit

theorem run_const2 (w : World) (o : Obj) (C : Array Value) (n c : Nat) : (convert 22 22 (.slice (some ⟨w.heap.size + 1, 0, none⟩) n c)).run Try.prog ((w.alloc o).alloc (.cells C 5)) = .ok (.slice (some ⟨w.heap.size + 1, 0, none⟩) n c) ((w.alloc o).alloc (.cells C 5 (C.size, C.size + 1))) := by
  have h := run_const (w.alloc o) C n c
  simpa using h
theorem run_const3 (w : World) (o o' : Obj) (C : Array Value) (n c : Nat) : (convert 22 22 (.slice (some ⟨w.heap.size + 1 + 1, 0, none⟩) n c)).run Try.prog (((w.alloc o).alloc o').alloc (.cells C 5)) = .ok (.slice (some ⟨w.heap.size + 1 + 1, 0, none⟩) n c) (((w.alloc o).alloc o').alloc (.cells C 5 (C.size, C.size + 1))) := by
  have h := run_const ((w.alloc o).alloc o') C n c
  simpa using h

def keyT : List UInt8 := [107, 101, 121]
def fox1 : List UInt8 := [84, 104, 101, 32, 113, 117, 105, 99, 107, 32, 98, 114, 111, 119, 110, 32, 102, 111, 120, 32]
def fox2 : List UInt8 := [106, 117, 109, 112, 115, 32, 111, 118, 101, 114, 32, 116, 104, 101, 32, 108, 97, 122, 121, 32, 100, 111, 103]
theorem fox_tag : hexL (tagL keyT (fox1 ++ fox2)) = [102, 55, 98, 99, 56, 51, 102, 52, 51, 48, 53, 51, 56, 52, 50, 52, 98, 49, 51, 50, 57, 56, 101, 54, 97, 97, 54, 102, 98, 49, 52, 51, 101, 102, 52, 100, 53, 57, 97, 49, 52, 57, 52, 54, 49, 55, 53, 57, 57, 55, 52, 55, 57, 100, 98, 99, 50, 100, 49, 97, 51, 99, 100, 56] := by
  rw [show tagL keyT (fox1 ++ fox2) = _ from tagL_fox]; decide +kernel
set_option maxRecDepth 100000 in
theorem none_tag : (([] : List UInt8) == tagL [] []) = false := by
  have h := tagL_length [] []
  cases hq : tagL [] [] with
  | nil => rw [hq] at h; cases h
  | cons a t => rfl

/-- The three texts, laid. -/
def lay3 (w : World) : World := ((w.alloc (.cells #[.int .u8 107, .int .u8 101, .int .u8 121] 5 (3, 4))).alloc (.cells #[.int .u8 84, .int .u8 104, .int .u8 101, .int .u8 32, .int .u8 113, .int .u8 117, .int .u8 105, .int .u8 99, .int .u8 107, .int .u8 32, .int .u8 98, .int .u8 114, .int .u8 111, .int .u8 119, .int .u8 110, .int .u8 32, .int .u8 102, .int .u8 111, .int .u8 120, .int .u8 32] 5 (20, 21))).alloc (.cells #[.int .u8 106, .int .u8 117, .int .u8 109, .int .u8 112, .int .u8 115, .int .u8 32, .int .u8 111, .int .u8 118, .int .u8 101, .int .u8 114, .int .u8 32, .int .u8 116, .int .u8 104, .int .u8 101, .int .u8 32, .int .u8 108, .int .u8 97, .int .u8 122, .int .u8 121, .int .u8 32, .int .u8 100, .int .u8 111, .int .u8 103] 5 (23, 24))
theorem lay3_rd (w : World) : (lay3 w).heap.size = w.heap.size + 3 ∧ Rd (lay3 w) (w.heap.size + 3) (some ⟨w.heap.size, 0, none⟩) 3 keyT ∧ Rd (lay3 w) (w.heap.size + 3) (some ⟨w.heap.size + 1, 0, none⟩) 20 fox1 ∧ Rd (lay3 w) (w.heap.size + 3) (some ⟨w.heap.size + 1 + 1, 0, none⟩) 23 fox2 ∧ Below w.heap.size w (lay3 w) := by
  refine ⟨by simp [lay3], ?_, ?_, ?_, ?_⟩
  · exact (((Rd.litm w _ rfl keyT 5 #[.int .u8 107, .int .u8 101, .int .u8 121] (3, 4) rfl 3 rfl).alloc (by simp) _).alloc (by simp) _).more (by omega)
  · exact ((Rd.litm (w.alloc _) (w.heap.size + 1) (by simp) fox1 5 #[.int .u8 84, .int .u8 104, .int .u8 101, .int .u8 32, .int .u8 113, .int .u8 117, .int .u8 105, .int .u8 99, .int .u8 107, .int .u8 32, .int .u8 98, .int .u8 114, .int .u8 111, .int .u8 119, .int .u8 110, .int .u8 32, .int .u8 102, .int .u8 111, .int .u8 120, .int .u8 32] (20, 21) rfl 20 rfl).alloc (by simp) _).more (by omega)
  · exact Rd.litm ((w.alloc _).alloc _) (w.heap.size + 1 + 1) (by simp) fox2 5 #[.int .u8 106, .int .u8 117, .int .u8 109, .int .u8 112, .int .u8 115, .int .u8 32, .int .u8 111, .int .u8 118, .int .u8 101, .int .u8 114, .int .u8 32, .int .u8 116, .int .u8 104, .int .u8 101, .int .u8 32, .int .u8 108, .int .u8 97, .int .u8 122, .int .u8 121, .int .u8 32, .int .u8 100, .int .u8 111, .int .u8 103] (23, 24) rfl 23 rfl
  · exact ((((Below.refl _ w).alloc (Nat.le_refl _) _).alloc (by simp) _).alloc (by simp; omega) _)
/-- The two texts, laid. -/
def lay2 (w : World) : World := (w.alloc (.cells #[.int .u8 107, .int .u8 101, .int .u8 121] 5 (3, 4))).alloc (.cells #[.int .u8 84, .int .u8 104, .int .u8 101, .int .u8 32, .int .u8 113, .int .u8 117, .int .u8 105, .int .u8 99, .int .u8 107, .int .u8 32, .int .u8 98, .int .u8 114, .int .u8 111, .int .u8 119, .int .u8 110, .int .u8 32, .int .u8 102, .int .u8 111, .int .u8 120, .int .u8 32, .int .u8 106, .int .u8 117, .int .u8 109, .int .u8 112, .int .u8 115, .int .u8 32, .int .u8 111, .int .u8 118, .int .u8 101, .int .u8 114, .int .u8 32, .int .u8 116, .int .u8 104, .int .u8 101, .int .u8 32, .int .u8 108, .int .u8 97, .int .u8 122, .int .u8 121, .int .u8 32, .int .u8 100, .int .u8 111, .int .u8 103] 5 (43, 44))
theorem lay2_rd (w : World) : (lay2 w).heap.size = w.heap.size + 2 ∧ Rd (lay2 w) (w.heap.size + 2) (some ⟨w.heap.size, 0, none⟩) 3 keyT ∧ Rd (lay2 w) (w.heap.size + 2) (some ⟨w.heap.size + 1, 0, none⟩) 43 (fox1 ++ fox2) ∧ Below w.heap.size w (lay2 w) := by
  refine ⟨by simp [lay2], ?_, ?_, ?_⟩
  · exact ((Rd.litm w _ rfl keyT 5 #[.int .u8 107, .int .u8 101, .int .u8 121] (3, 4) rfl 3 rfl).alloc (by simp) _).more (by omega)
  · exact Rd.litm (w.alloc _) (w.heap.size + 1) (by simp) (fox1 ++ fox2) 5 #[.int .u8 84, .int .u8 104, .int .u8 101, .int .u8 32, .int .u8 113, .int .u8 117, .int .u8 105, .int .u8 99, .int .u8 107, .int .u8 32, .int .u8 98, .int .u8 114, .int .u8 111, .int .u8 119, .int .u8 110, .int .u8 32, .int .u8 102, .int .u8 111, .int .u8 120, .int .u8 32, .int .u8 106, .int .u8 117, .int .u8 109, .int .u8 112, .int .u8 115, .int .u8 32, .int .u8 111, .int .u8 118, .int .u8 101, .int .u8 114, .int .u8 32, .int .u8 116, .int .u8 104, .int .u8 101, .int .u8 32, .int .u8 108, .int .u8 97, .int .u8 122, .int .u8 121, .int .u8 32, .int .u8 100, .int .u8 111, .int .u8 103] (43, 44) rfl 43 rfl
  · exact ((Below.refl _ w).alloc (Nat.le_refl _) _).alloc (by simp) _

set_option maxRecDepth 100000 in
set_option maxHeartbeats 2000000 in
theorem heads08_any (w : World) : Calls Try.prog 8 #[] w fun e w' => e = .returned (.bool true) ∧ Below w.heap.size w w' := by
  obtain ⟨T, hT⟩ : ∃ T, T = tagL keyT (fox1 ++ fox2) := ⟨_, rfl⟩
  have hTl : T.length = 32 := by rw [hT]; exact tagL_length _ _
  obtain ⟨D, hD⟩ : ∃ D, D = (⟨(hexL T).toArray⟩ : ByteArray) := ⟨_, rfl⟩
  have hq : D.toList = [102, 55, 98, 99, 56, 51, 102, 52, 51, 48, 53, 51, 56, 52, 50, 52, 98, 49, 51, 50, 57, 56, 101, 54, 97, 97, 54, 102, 98, 49, 52, 51, 101, 102, 52, 100, 53, 57, 97, 49, 52, 57, 52, 54, 49, 55, 53, 57, 57, 55, 52, 55, 57, 100, 98, 99, 50, 100, 49, 97, 51, 99, 100, 56] := by
    rw [hD, hT, fox_tag]; decide +kernel
  obtain ⟨z3, r31, r32, r33, b3⟩ := lay3_rd w
  have Z3 := Lib.hid z3
  have R31 := Lib.hid r31
  have R32 := Lib.hid r32
  have R33 := Lib.hid r33
  have B3 := Lib.hid b3
  have HT := Lib.hid hT
  have HTL := Lib.hid hTl
  have HD := Lib.hid hD
  have kc := run_const
  have kc2 := run_const2
  have kc3 := run_const3
  clear z3 r31 r32 r33 b3 hT hTl hD
  go_enter Try.func8, Try.ntmps8
  go_wp2_with fail
  have hs := tag2_any (some ⟨w.heap.size, 0, none⟩) (some ⟨w.heap.size + 1, 0, none⟩) (some ⟨w.heap.size + 1 + 1, 0, none⟩) 3 3 20 20 23 23 keyT fox1 fox2 (lay3 w) (R31.out.more (by rw [Z3.out]; exact Nat.le_refl _)) (by decide) (by decide) (by decide) ⟨R32.out.more (by rw [Z3.out]; exact Nat.le_refl _), by decide, by decide⟩ ⟨R33.out.more (by rw [Z3.out]; exact Nat.le_refl _), by decide, by decide⟩ (by decide)
  rw [Z3.out, ← HT.out] at hs
  refine hs.mono ?_
  rintro e w1 ⟨v1, rfl, ho1, hb1⟩
  obtain ⟨D1, d1, rfl, -, -, hr1⟩ := Ob.rd_n ho1 HTL.out
  have R1 := Lib.hid hr1
  have B1 : Hid (Below w.heap.size w w1) := (B3.out.alloc B3.out.size _).trans (hb1.mono (Nat.le_trans B3.out.size (le_alloc _ _)))
  clear hs ho1 hb1 hr1
  go_wp2_with fail
  refine (rhex_any D1 32 d1 _ T w1 R1.out (Nat.le_refl _) (by decide)).mono ?_
  rintro e w2 ⟨rfl, hb2⟩
  rw [← HD.out]
  have R2 := Lib.hid (R1.out.below hb2)
  have B12 := Lib.hid hb2
  have B2 := Lib.hid (B1.out.trans (hb2.mono B1.out.size))
  have CK := Lib.hid (ckey_any none 0 0 0 [] w2 Rd.nil_ (Nat.zero_le _) (by decide) (by decide) (by decide))
  clear hb2
  go_wp2_with fail
  refine CK.out.mono ?_
  rintro e w3 ⟨v3, rfl, ho3, hb3⟩
  obtain ⟨D3, d3, rfl, -, -, -⟩ := Ob.rd_n ho3 (keyL_length [])
  have R3 := Lib.hid ((R2.out.below (hb3.mono B12.out.size)).more (Nat.le_trans B12.out.size hb3.size))
  have B3x := Lib.hid (B2.out.trans (hb3.mono B2.out.size))
  obtain ⟨z2, r21, r22, b2⟩ := lay2_rd w3
  have Z2 := Lib.hid z2
  have R21 := Lib.hid r21
  have R22 := Lib.hid r22
  have BL2 := Lib.hid b2
  clear ho3 hb3 z2 r21 r22 b2
  go_wp2_with fail
  have hv := ver1_any (some ⟨w3.heap.size, 0, none⟩) (some ⟨w3.heap.size + 1, 0, none⟩) D1 3 3 43 43 32 d1 keyT (fox1 ++ fox2) T (lay2 w3) (R21.out.more (by rw [Z2.out]; exact Nat.le_refl _)) (by decide) (by decide) (by decide) ((R3.out.below BL2.out).more BL2.out.size) (R22.out.more (by rw [Z2.out]; exact Nat.le_refl _)) (by decide) (by decide) (by decide)
  rw [Z2.out, ← HT.out, show (T == T) = true by simp] at hv
  refine hv.mono ?_
  rintro e w4 ⟨rfl, hb4⟩
  have B4 : Hid (Below w.heap.size w w4) := B3x.out.trans ((BL2.out.trans (hb4.mono (by omega))).mono B3x.out.size)
  have CN := cverify_any none 0 0 [] none 0 0 [] none 0 0 [] w4 Rd.nil_ (by decide) (by decide) (by decide) Rd.nil_ ⟨rfl, fun h => absurd h (by decide), fun p hp => by cases hp⟩ (by decide) (by decide)
  rw [show catP [] = [] from rfl, none_tag] at CN
  have CN2 := Lib.hid CN
  clear hv hb4 CN
  go_wp2_with fail
  refine CN2.out.mono ?_
  rintro e w5 ⟨rfl, hb5⟩
  have B5 := Lib.hid (B4.out.trans (hb5.mono B4.out.size))
  clear hb5
  go_wp2_with fail
  go_ret
  exact ⟨rfl, B5.out⟩
end Go.Proofs.Ytllodapnbdbpeaa
