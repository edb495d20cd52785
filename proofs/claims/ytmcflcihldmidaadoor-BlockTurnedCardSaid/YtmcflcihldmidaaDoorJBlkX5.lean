/- The walk of the statement BlockTurned: sums of four bytes. (Made by gen/BlkX3.py.) -/
import Derived.Test.YtmcflcihldmidaaDoorJBlkX2
namespace Go.Proofs.YtmcflcihldmidaaDoor
open Go.RowKit

set_option maxRecDepth 100000 in
set_option maxHeartbeats 8000000 in
theorem blockTurned_2 (t n f : Nat) (d : List UInt8) (A : Option Addr) (nd cd k : Nat) (w : World) (hb : BlkIn w ⟨t, n, f, 2, d⟩ A nd cd) (hok : blkOk ⟨t, n, f, 2, d⟩ = true) (hL : LaidE w) :
    Calls Tryd.prog 5 #[.agg #[.int .u64 (t : Int), .int .u64 (n : Int), .int .u64 (f : Int), .int .i64 2, .slice A nd cd], .int .i64 (k : Int)] w fun e w' => e = .returned (.bool true) ∧ Below w.heap.size w w' := by
  obtain ⟨hbd, -, hnd, hr⟩ := hb
  have hok' := blkOk_iff.1 hok
  have hn4 : nd ≤ 4096 := by rw [← hr.1]; exact hok'.2.2.2.2
  have htz : 0 ≠ t := by have := hok'.1.1; simp only at this; omega
  have HL := Lib.hid (fun W (hb : Below w.heap.size w W) => hL.below hb hL.lt)
  have HH := Lib.hid (fun W (hb : Below w.heap.size w W) => heads05_any W (hL.below hb hL.lt))
  have B0 := Lib.hid ((Below.refl w.heap.size w).alloc (Nat.le_refl _) (.cells #[.int .u64 (t : Int), .int .u64 (n : Int), .int .u64 (f : Int), .int .i64 2, .slice A nd cd] 25))
  have hs0 : (w.alloc (.cells #[.int .u64 (t : Int), .int .u64 (n : Int), .int .u64 (f : Int), .int .i64 2, .slice A nd cd] 25)).heap.size = w.heap.size + 1 := by simp
  have HS0 := Lib.hid hs0
  have G0 := Lib.hid (fun (W : World) (hb : Below (w.heap.size + 1) (w.alloc (.cells #[.int .u64 (t : Int), .int .u64 (n : Int), .int .u64 (f : Int), .int .i64 2, .slice A nd cd] 25)) W) => box5 (g := w.heap.size) rfl hb)
  have C1 := Lib.hid (fun W => few_any t n f 2 A nd cd true W (by simp; omega))
  have C2 := Lib.hid (bencode_any ⟨t, n, f, 2, d⟩ A nd cd w.heap.size (w.alloc (.cells #[.int .u64 (t : Int), .int .u64 (n : Int), .int .u64 (f : Int), .int .i64 2, .slice A nd cd] 25)) hbd (by simp) (hr.below B0.out) (HL.out _ B0.out))
  rw [if_pos hok, if_pos hok] at C2
  have HT := Lib.hid (fun at_ v => turned_told ⟨t, n, f, 2, d⟩ at_ v hok hbd (by simp))
  have hlb : (blkW ⟨t, n, f, 2, d⟩).length = (bodyB ⟨t, n, f, 2, d⟩).length + 4 := by unfold blkW; rw [List.length_append, sumB_len]; rfl
  have hbl := body_len ⟨t, n, f, 2, d⟩
  have hbl2 : nd + 1 ≤ (bodyB ⟨t, n, f, 2, d⟩).length := by
    have h := hr.1
    simp only at h
    unfold bodyB partsB
    simp only [wrs, wri_u, wri_b, List.length_append, hd_len]
    rw [h]
    omega
  have hd2 : d.length = nd := hr.1
  rw [show (⟨t, n, f, 2, d⟩ : Blk).dat.length = nd from hd2] at hbl
  rw [show sumN (⟨t, n, f, 2, d⟩ : Blk).crc = 4 from rfl, show (⟨t, n, f, 2, d⟩ : Blk).dat.length = nd from hd2] at HT
  generalize hWB : blkW ⟨t, n, f, 2, d⟩ = WB at *
  generalize (bodyB ⟨t, n, f, 2, d⟩).length = M at *
  rw [hlb] at HT
  have HWL := Lib.hid hlb
  have HR := Lib.hid hr
  clear hL hbd hnd hr hok hok' hWB hs0 hlb hd2
  unfold blkV at *
  by_cases h8 : k < 8 * (M + 4)
  case neg =>
    have h8i : 8 * ((M : Int) + 4) ≤ (k : Int) := by omega
    go_enter Tryd.func5, Tryd.ntmps5
    go_wp2_with fail
    refine C2.out.mono ?_
    rintro e w1 ⟨v1, rfl, ho1, hb1⟩
    rw [HS0.out] at hb1 ho1
    obtain ⟨g, cap, cur, rfl, hg1, hg2, -, -⟩ := ho1.cur (by rw [HWL.out]; omega)
    rw [HWL.out] at ho1 hg2 ⊢
    obtain ⟨x0, x1, x2, x3, x4⟩ := G0.out _ hb1
    have B1 := Lib.hid (B0.out.trans (hb1.mono (Nat.le_succ _)))
    have X1 := Lib.hid hb1
    have HZ1 : Hid (w.heap.size + 1 ≤ w1.heap.size) := by show _ ≤ _; have := hb1.size; rw [HS0.out] at this; exact this
    have O1 := Lib.hid ho1
    have HG1 := Lib.hid hg1
    clear hb1 ho1 hg1
    go_wp2_with fail
    refine (HH.out _ B1.out).mono ?_
    rintro e w2 ⟨rfl, hb2⟩
    have B2 := Lib.hid (B1.out.trans (hb2.mono B1.out.size))
    clear hb2
    go_wp2_with fail
    go_ret
    exact ⟨rfl, B2.out⟩
  have h8i : (k : Int) < 8 * ((M : Int) + 4) := by omega
  have h8n : ¬ 8 * ((M : Int) + 4) ≤ (k : Int) := by omega
  have h8d : decide (8 * ((M : Int) + 4) ≤ (k : Int)) = false := decide_eq_false h8n
  have H8 := Lib.hid h8
  clear h8
  have hkL : k / 8 < M + 4 := by omega
  by_cases hin : (k : Int) / 8 < (M : Int) - 1 - (nd : Int)
  · have HIN := Lib.hid hin
    clear hin
    go_enter Tryd.func5, Tryd.ntmps5
    go_wp2_with fail
    refine C2.out.mono ?_
    rintro e w1 ⟨v1, rfl, ho1, hb1⟩
    rw [HS0.out] at hb1 ho1
    obtain ⟨g, cap, cur, rfl, hg1, hg2, -, -⟩ := ho1.cur (by rw [HWL.out]; omega)
    rw [HWL.out] at ho1 hg2 ⊢
    obtain ⟨x0, x1, x2, x3, x4⟩ := G0.out _ hb1
    have B1 := Lib.hid (B0.out.trans (hb1.mono (Nat.le_succ _)))
    have X1 := Lib.hid hb1
    have HZ1 : Hid (w.heap.size + 1 ≤ w1.heap.size) := by show _ ≤ _; have := hb1.size; rw [HS0.out] at this; exact this
    have O1 := Lib.hid ho1
    have HG1 := Lib.hid hg1
    clear hb1 ho1 hg1
    go_wp2_with fail
    refine (C1.out _).mono ?_
    rintro e w2 ⟨rfl, hb2⟩
    have hx2 := X1.out.trans (hb2.mono HZ1.out)
    obtain ⟨x0, x1, x2, x3, x4⟩ := G0.out _ hx2
    have O2 := Lib.hid (O1.out.below hb2)
    have B2 := Lib.hid (B1.out.trans (hb2.mono B1.out.size))
    have X2 := Lib.hid hx2
    have HZ2 : Hid (w.heap.size + 1 ≤ w2.heap.size) := Nat.le_trans HZ1.out hb2.size
    clear hb2 hx2
    have hin := HIN.out
    clear h8i h8n h8d
    go_wp2_with fail
    refine (HH.out _ B2.out).mono ?_
    rintro e w3 ⟨rfl, hb3⟩
    have B3 := Lib.hid (B2.out.trans (hb3.mono B2.out.size))
    clear hb3
    go_wp2_with fail
    go_ret
    exact ⟨rfl, B3.out⟩
  by_cases hin1 : (k : Int) / 8 = (M : Int) - 1
  · have HIN1 := Lib.hid hin1
    have hin3 : (M : Int) - 1 - (nd : Int) ≤ (k : Int) / 8 := by omega
    have HIN3 := Lib.hid hin3
    have HBM := Lib.hid (And.intro hbl hbl2)
    clear hin1 hin3 hin
    go_enter Tryd.func5, Tryd.ntmps5
    go_wp2_with fail
    refine C2.out.mono ?_
    rintro e w1 ⟨v1, rfl, ho1, hb1⟩
    rw [HS0.out] at hb1 ho1
    obtain ⟨g, cap, cur, rfl, hg1, hg2, -, -⟩ := ho1.cur (by rw [HWL.out]; omega)
    rw [HWL.out] at ho1 hg2 ⊢
    obtain ⟨x0, x1, x2, x3, x4⟩ := G0.out _ hb1
    have B1 := Lib.hid (B0.out.trans (hb1.mono (Nat.le_succ _)))
    have X1 := Lib.hid hb1
    have HZ1 : Hid (w.heap.size + 1 ≤ w1.heap.size) := by show _ ≤ _; have := hb1.size; rw [HS0.out] at this; exact this
    have O1 := Lib.hid ho1
    have HG1 := Lib.hid hg1
    clear hb1 ho1 hg1
    go_wp2_with fail
    refine (C1.out _).mono ?_
    rintro e w2 ⟨rfl, hb2⟩
    have hx2 := X1.out.trans (hb2.mono HZ1.out)
    obtain ⟨x0, x1, x2, x3, x4⟩ := G0.out _ hx2
    have O2 := Lib.hid (O1.out.below hb2)
    have B2 := Lib.hid (B1.out.trans (hb2.mono B1.out.size))
    have X2 := Lib.hid hx2
    have HZ2 : Hid (w.heap.size + 1 ≤ w2.heap.size) := Nat.le_trans HZ1.out hb2.size
    clear hb2 hx2
    have hin2 : ((k : Int) / 8 == (M : Int) - 1) = true := by rw [HIN1.out]; simp
    have hin3 := HIN3.out
    have hin4 : ¬ (k : Int) / 8 < (M : Int) - 1 - (nd : Int) := by omega
    clear h8i h8n h8d
    go_wp2_with fail
    refine (HH.out _ B2.out).mono ?_
    rintro e w3 ⟨rfl, hb3⟩
    have B3 := Lib.hid (B2.out.trans (hb3.mono B2.out.size))
    clear hb3
    go_wp2_with fail
    go_ret
    exact ⟨rfl, B3.out⟩
  · have HIN1 := Lib.hid hin1
    have HIN := Lib.hid hin
    clear hin1 hin
    go_enter Tryd.func5, Tryd.ntmps5
    go_wp2_with fail
    refine C2.out.mono ?_
    rintro e w1 ⟨v1, rfl, ho1, hb1⟩
    rw [HS0.out] at hb1 ho1
    obtain ⟨g, cap, cur, rfl, hg1, hg2, -, -⟩ := ho1.cur (by rw [HWL.out]; omega)
    rw [HWL.out] at ho1 hg2 ⊢
    obtain ⟨x0, x1, x2, x3, x4⟩ := G0.out _ hb1
    have B1 := Lib.hid (B0.out.trans (hb1.mono (Nat.le_succ _)))
    have X1 := Lib.hid hb1
    have HZ1 : Hid (w.heap.size + 1 ≤ w1.heap.size) := by show _ ≤ _; have := hb1.size; rw [HS0.out] at this; exact this
    have O1 := Lib.hid ho1
    have HG1 := Lib.hid hg1
    clear hb1 ho1 hg1
    go_wp2_with fail
    refine (C1.out _).mono ?_
    rintro e w2 ⟨rfl, hb2⟩
    have hx2 := X1.out.trans (hb2.mono HZ1.out)
    obtain ⟨x0, x1, x2, x3, x4⟩ := G0.out _ hx2
    have O2 := Lib.hid (O1.out.below hb2)
    have B2 := Lib.hid (B1.out.trans (hb2.mono B1.out.size))
    have X2 := Lib.hid hx2
    have HZ2 : Hid (w.heap.size + 1 ≤ w2.heap.size) := Nat.le_trans HZ1.out hb2.size
    clear hb2 hx2
    have hin1 := HIN1.out
    have hin := HIN.out
    have hin2 : ((k : Int) / 8 == (M : Int) - 1) = false := by rw [beq_eq_false_iff_ne]; exact hin1
    have hin3 : (M : Int) - 1 - (nd : Int) ≤ (k : Int) / 8 := by omega
    obtain ⟨x, hx⟩ : ∃ x, x = WB.getD (k / 8) 0 := ⟨_, rfl⟩
    have hc1 : w2.cell? ⟨g, k / 8, none⟩ = some (.int .u8 (x.toNat : Int)) := by rw [hx]; exact Ob.cell O2.out HWL.out hkL
    have hf1 : w2.frozen? ⟨g, k / 8, none⟩ = false := Ob.frozen O2.out HWL.out _
    have HX := Lib.hid hx
    have HDEC : Hid (decB (WB.set (k / 8) (x ^^^ UInt8.ofNat (2 ^ (k % 8)))) = (.zero, 0, 51)) := HT.out (k / 8) _ hkL (by rw [hx]; exact bit_ne _ _ (Nat.mod_lt _ (by decide))) (by omega) (by omega)
    have O3 := Lib.hid (Ob.stored O2.out HWL.out (k / 8) (x ^^^ UInt8.ofNat (2 ^ (k % 8))) (xor8B x (k % 8)))
    have HGB : Hid (w.heap.size + 1 ≤ g) := HG1.out
    clear hx
    go_wp2_with fail
    generalize hU : Value.int .u8 (bits BinOp.xor IntKind.u8 (x.toNat : Int) (2 ^ (k % 8) % 256)) = U at *
    have hx3 : Below (w.heap.size + 1) (w.alloc (.cells #[.int .u64 (t : Int), .int .u64 (n : Int), .int .u64 (f : Int), .int .i64 2, .slice A nd cd] 25)) (w2.setCell ⟨g, k / 8, none⟩ U) := X2.out.setCell (p := ⟨g, k / 8, none⟩) HGB.out U
    have X3 := Lib.hid hx3
    have B3 := Lib.hid (B2.out.setCell (p := ⟨g, k / 8, none⟩) (Nat.le_trans (Nat.le_succ _) HGB.out) U)
    have HZ3 : Hid (w.heap.size + 1 ≤ (w2.setCell ⟨g, k / 8, none⟩ U).heap.size) := by show _ ≤ _; have := HZ2.out; simp [World.setCell]; omega
    clear hx3 hc1 hf1
    generalize w2.setCell ⟨g, k / 8, none⟩ U = W3 at *
    obtain ⟨-, hr3, hc3, -⟩ := O3.out.rd_
    refine (bdecode_any (some ⟨g, 0, none⟩) _ cap W3.heap.size _ W3 (Nat.le_refl _) hr3 (by omega) hc3 (HL.out _ B3.out)).mono ?_
    rintro e w4 ⟨hb4, b4, A4, nd4, cd4, N4, z4, rfl, hd4, -, -, hr4⟩
    rw [HDEC.out] at hd4
    injection hd4 with h41 hd4
    injection hd4 with h42 h43
    subst h41 h42 h43
    have hz4 : w.heap.size + 1 ≤ w4.heap.size := Nat.le_trans HZ3.out hb4.size
    have hx5 := (X3.out.trans (hb4.mono HZ3.out)).alloc hz4 (.cells #[.int .u64 0, .int .u64 0, .int .u64 0, .int .i64 0, .slice A4 nd4 cd4] 25)
    obtain ⟨x0, x1, x2, x3, x4⟩ := G0.out _ hx5
    obtain ⟨g0, g1, g2, g3, g4⟩ := box5 rfl (Below.refl (w4.heap.size + 1) (w4.alloc (.cells #[.int .u64 0, .int .u64 0, .int .u64 0, .int .i64 0, .slice A4 nd4 cd4] 25)))
    have B5 := Lib.hid ((B3.out.trans (hb4.mono B3.out.size)).alloc (Nat.le_trans (Nat.le_succ _) hz4) (.cells #[.int .u64 0, .int .u64 0, .int .u64 0, .int .i64 0, .slice A4 nd4 cd4] 25))
    have CS := Lib.hid (fun W => rsameB_ne 0 0 0 t n f 0 2 A4 A nd4 cd4 nd cd W htz)
    clear hb4 hr4 hx5 hz4 hr3 hc3
    unfold blkV Blk.zero at *
    go_wp2_with fail
    refine (CS.out _).mono ?_
    rintro e w6 ⟨rfl, hb6⟩
    have B6 := Lib.hid (B5.out.trans (hb6.mono B5.out.size))
    clear hb6
    go_wp2_with fail
    refine (HH.out _ B6.out).mono ?_
    rintro e w7 ⟨rfl, hb7⟩
    have B7 := Lib.hid (B6.out.trans (hb7.mono B6.out.size))
    clear hb7
    go_wp2_with fail
    go_ret
    exact ⟨rfl, B7.out⟩
end Go.Proofs.YtmcflcihldmidaaDoor
