/- Layer 14's heads. (Made by gen/RecP.py.) -/
import Derived.Test.YtlkppnghfgiapaaDoorRecU
import Derived.Test.YtlkppnghfgiapaaDoorRecN
namespace Go.Proofs.YtlkppnghfgiapaaDoor
open Go.RowKit

set_option maxRecDepth 100000 in
set_option maxHeartbeats 16000000 in
theorem heads14_any (X : Snt14) (w : World) (hA : Lds14 X w) : Calls Tryd.prog 7 #[] w fun e w' => e = .returned (.bool true) ∧ Below w.heap.size w w' := by
  have LA : Hid (∀ W, Below w.heap.size w W → Lds14 X W) := fun W hW => hA.below hW (Nat.le_refl _)
  obtain ⟨w1, hw1⟩ : ∃ w1, w1 = w.alloc (.cells #[.int .u8 5] 5) := ⟨_, rfl⟩
  have R1 : Hid (Rd w1 (w.heap.size + 1) (some ⟨w.heap.size, 0, none⟩) 1 [5]) := by show Rd _ _ _ _ _; rw [hw1]; exact Rd.lit w w.heap.size rfl [5] 5 _ rfl 1 rfl
  have B1 : Hid (Below w.heap.size w w1) := by show Below _ _ _; rw [hw1]; exact (Below.refl _ _).alloc (Nat.le_refl _) _
  have L1 : Hid (w.heap.size + 1 ≤ w1.heap.size) := by show _ ≤ _; rw [hw1]; simp
  have C1 := Lib.hid (cframe_any X 9 1 (some ⟨w.heap.size, 0, none⟩) 1 1 _ [5] w1 (LA.out _ B1.out) (by decide) R1.out L1.out)
  have W1 := Lib.hid hw1
  unfold FrmR recV at C1
  rw [show rokR ⟨1, [5]⟩ = true by decide, if_pos rfl, if_pos rfl] at C1
  clear hw1 hA
  go_enter Tryd.func7, Tryd.ntmps7
  go_upto_region 2 with (first
    | (go_at_call 8; rw [← W1.out]; refine C1.out.mono ?_; rintro e w2 ⟨hb2, v2, z2, rfl, rfl, ho2⟩)
    | fail)
  obtain ⟨A2, c2, rfl, hc2, hcm2, hr2⟩ := ho2.rd
  rw [heads14_len] at hr2 hc2
  rw [heads14_len]
  have B2 : Hid (Below w.heap.size w w2) := B1.out.trans (hb2.mono B1.out.size)
  have R2 := Lib.hid hr2
  have HC2 := Lib.hid hc2
  have HM2 := Lib.hid hcm2
  have O3 := Lib.hid (Ob.lit (base := w2.heap.size) (t := 5) w2 [] #[] rfl (Nat.le_refl _) 0 rfl (by decide))
  have b3 : Below w2.heap.size w2 (w2.alloc (.cells #[] 5)) := (Below.refl _ _).alloc (Nat.le_refl _) _
  have B3 := Lib.hid b3
  clear ho2 hr2 hc2 hb2 b3 C1 hcm2
  go_upto_region 3 with (first
    | (at_builtin; refine wpList_app rfl (.tmp 16) (.tmp 17) 23 rfl w2.heap.size 5 Tryd.underlying23 info_u8 (.slice (some ⟨w2.heap.size, 0, none⟩) 0 0) ([]) rfl (O3.out) _ A2 8 c2 (frameR 9 ⟨1, [5]⟩) rfl (R2.out.below B3.out) (by simp) (B3.out.size) ?_; intro v4 w4 ho4 hg4 hh4; clear hh4; rw [List.nil_append] at ho4; have B4 := Lib.hid (grown_trans hg4 O3.out B3.out); have O4 : Hid (Ob (w4.alloc (.cells #[.int .u8 0, .int .u8 0, .int .u8 0] 5)) w2.heap.size 5 v4 (frameR 9 ⟨1, [5]⟩)) := ho4.alloc _; have R4 : Hid (Rd (w4.alloc (.cells #[.int .u8 0, .int .u8 0, .int .u8 0] 5)) (w4.heap.size + 1) (some ⟨w4.heap.size, 0, none⟩) 3 [0, 0, 0]) := Rd.lit w4 w4.heap.size rfl [0, 0, 0] 5 _ rfl 3 rfl; have B5 : Hid (Below w2.heap.size w2 (w4.alloc (.cells #[.int .u8 0, .int .u8 0, .int .u8 0] 5))) := B4.out.alloc B4.out.size _; clear ho4 hg4)
    | (at_builtin; refine wpList_app rfl (.tmp 18) (.tmp 19) 23 rfl w2.heap.size 5 Tryd.underlying23 info_u8 v4 (frameR 9 ⟨1, [5]⟩) rfl (O4.out) _ (some ⟨w4.heap.size, 0, none⟩) 3 3 [0, 0, 0] rfl (R4.out) (by rw [heads14_len]; decide) (B5.out.size) ?_; intro v6 w6 ho6 hg6 hh6; clear hh6; have B6 := Lib.hid (grown_trans hg6 O4.out B5.out); obtain ⟨A6, c6, hv6, hc6, hm6, hr6⟩ := ho6.rd; have e6 : (frameR 9 ⟨1, [5]⟩ ++ [0, 0, 0]).length = 11 := (List.length_append).trans (congrArg (· + 3) heads14_len); rw [e6] at hv6 hc6 hr6; subst hv6; have R6 := Lib.hid hr6; have HC6 := Lib.hid hc6; have HM6 := Lib.hid hm6; have BW6 : Hid (Below w.heap.size w w6) := B2.out.trans (B6.out.mono B2.out.size); clear ho6 hg6 hr6 hc6 e6 hm6)
    | (go_at_call 15; refine (cscan_any X 9 A6 11 c6 _ _ w6 (LA.out _ BW6.out) (by decide) R6.out (Nat.le_refl _) (by decide) HC6.out HM6.out).mono ?_; rintro e w7 ⟨hb7, v7, q7, rfl, hs7, hq7⟩; have B7 : Hid (Below w2.heap.size w2 w7) := B6.out.trans (hb7.mono B6.out.size); have S7 := Lib.hid hs7; rw [heads14_scan] at hq7; have Q7 := Lib.hid hq7; rw [heads14_scan]; clear hb7 hs7 hq7)
    | fail)
  have BW7 : Hid (Below w.heap.size w w7) := B2.out.trans (B7.out.mono B2.out.size)
  have CS8 := Lib.hid (cscan_any X 8 A2 8 c2 _ _ w7 (LA.out _ BW7.out) (by decide) (R2.out.below B7.out) B7.out.size (by decide) HC2.out HM2.out)
  unfold ScnR at CS8
  rw [heads14_other] at CS8
  clear O3 B3 B4 O4 R4 B5 B6 R6 HC6 HM6 BW6
  go_upto_region 4 with (first
    | (go_at_call 15; refine CS8.out.mono ?_; rintro e w8 ⟨hb8, v8, q8, rfl, hs8, hq8⟩; have B8 : Hid (Below w7.heap.size w7 w8) := hb8; have S8 := Lib.hid hs8; have Q8 := Lib.hid hq8; clear hb8 hs8 hq8)
    | fail)
  have BW8 : Hid (Below w.heap.size w w8) := BW7.out.trans (B8.out.mono BW7.out.size)
  have CF := Lib.hid (cframe_any X 9 0 none 0 0 0 [] w8 (LA.out _ BW8.out) (by decide) Rd.nil_ (Nat.zero_le _))
  unfold FrmR recV at CF
  rw [show rokR ⟨0, []⟩ = false by decide, if_neg (by decide)] at CF
  go_upto_region 5 with (first
    | (go_at_call 8; refine CF.out.mono ?_; rintro e w9 ⟨hb9, v9, z9, rfl, rfl, ho9⟩; have B9 : Hid (Below w8.heap.size w8 w9) := hb9; clear hb9 ho9)
    | fail)
  have BW9 : Hid (Below w.heap.size w w9) := BW8.out.trans (B9.out.mono BW8.out.size)
  have hq8 : q8 = [] := by simpa using Q8.out
  have hl7 : q7.length = 1 := by have := congrArg List.length Q7.out; simpa using this
  obtain ⟨A8, c8, rfl, -, -⟩ := S8.out.rw
  obtain ⟨A7, c7, rfl, -, hw7⟩ := S7.out.rw
  rw [hl7, Q7.out] at hw7
  rw [hl7]
  subst hq8
  obtain ⟨b7, o7, rfl, hb7, hx7⟩ := hw7.2 (by decide)
  obtain ⟨Ad, nd, cd, k0, k1, -, -, k2⟩ := hx7.get (i := 0) (by decide)
  have hnd : nd = 1 := k2.1.symm
  subst hnd
  have hb7' : b7 < w7.heap.size := hb7
  obtain ⟨w10, hw10⟩ : ∃ w10, w10 = w9.alloc (.cells #[.int .u8 0, .int .u8 1, .int .u8 1, .int .u8 5] 5) := ⟨_, rfl⟩
  have b10 : Below w9.heap.size w9 w10 := by rw [hw10]; exact (Below.refl _ _).alloc (Nat.le_refl _) _
  have B10 : Hid (Below w7.heap.size w7 w10) := B8.out.trans ((B9.out.trans (b10.mono B9.out.size)).mono B8.out.size)
  have j0 : w10.cell? ⟨b7, o7, none⟩ = some (.int .i64 1) := (B10.out.cell (p := ⟨b7, o7, none⟩) hb7').trans (by simpa using k0)
  have j1 : w10.cell? ⟨b7, o7 + 1, none⟩ = some (.slice Ad 1 cd) := (B10.out.cell (p := ⟨b7, o7 + 1, none⟩) hb7').trans (by simpa using k1)
  have R10 : Hid (Rd w10 (w9.heap.size + 1) (some ⟨w9.heap.size, 0, none⟩) 4 [0, 1, 1, 5]) := by show Rd _ _ _ _ _; rw [hw10]; exact Rd.lit w9 w9.heap.size rfl [0, 1, 1, 5] 5 _ rfl 4 rfl
  obtain ⟨A4, c4, cut4, -, -, hr4⟩ := cut_h (P := Tryd.prog) 23 5 Tryd.underlying23 size_u8 c2 R2.out 4 4 rfl (by decide) HC2.out
  rw [heads14_four] at hr4
  have BW10 : Hid (Below w.heap.size w w10) := BW9.out.trans (b10.mono BW9.out.size)
  have CM := Lib.hid (same_any A4 (some ⟨w9.heap.size, 0, none⟩) 4 c4 4 4 _ _ [0, 1, 1, 5] [0, 1, 1, 5] w10 (hr4.below (B7.out.trans (B10.out.mono B7.out.size))) R10.out)
  rw [beq_self_eq_true] at CM
  have CZ := Lib.hid (csize_any X 1 Ad 1 cd [5] w10 (LA.out _ BW10.out) rfl)
  unfold recV at CZ
  rw [show rokR ⟨1, [5]⟩ = true by decide, if_pos rfl] at CZ
  have W10 := Lib.hid hw10
  clear hr4 k0 k1 k2 hx7 hb7 hb7' hw7 hl7 b10
  simp only [hw10] at j0 j1
  clear hw10
  go_wp2_with (first
    | (go_at_call 10; rw [← W10.out]; refine CM.out.mono ?_; rintro e wz ⟨rfl, rfl⟩; rw [← W10.out] at j0 j1)
    | (go_at_call 11; refine CZ.out.mono ?_; rintro e w11 ⟨rfl, hb11⟩; have B11 : Hid (Below w.heap.size w w11) := BW10.out.trans (hb11.mono BW10.out.size); clear hb11)
    | fail)
  go_ret
  exact ⟨rfl, B11.out⟩
end Go.Proofs.YtlkppnghfgiapaaDoor
