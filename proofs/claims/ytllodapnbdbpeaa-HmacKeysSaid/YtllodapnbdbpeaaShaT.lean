/- What words of layer 7's reference returns. -/
import Derived.Test.YtllodapnbdbpeaaShaS
import Derived.Deep.RegionLawGrows
namespace Go.Proofs.Ytllodapnbdbpeaa
open Go.RowKit

theorem shr3 (x : BitVec 32) : (x.toNat : Int) / (8 : Int) = ((x >>> 3).toNat : Int) := by rw [rr_r]; omega
theorem shr10 (x : BitVec 32) : (x.toNat : Int) / (1024 : Int) = ((x >>> 10).toNat : Int) := by rw [rr_r]; omega
theorem wL_succ (b : List UInt8) (k : Nat) (x : BitVec 32) (h : wnx b (wL b k) k = x) : wL b (k + 1) = wL b k ++ [x] := by rw [wL, h]

set_option maxRecDepth 100000 in
set_option maxHeartbeats 2000000 in
theorem rwords_any (A : Option Addr) (c B : Nat) (b : List UInt8) (w : World) (hr : Rd w B A 64 b) (hB : B ≤ w.heap.size) (hc : 64 ≤ c) (_hc2 : c ≤ 9223372036854775807) :
    Calls Try.prog 28 #[.slice A 64 c] w (GivesOw 40 (wL b 64) w) := by
  have HR := Lib.hid hr
  have HB := Lib.hid hB
  clear hr hB
  go_enter Try.func28, Try.ntmps28
  go_wp2_with fail
  go_loopw [3, 4] (fun v i wr => ∃ k : Nat, k ≤ 16 ∧ i = .int .i64 k ∧ Hid (Ow wr w.heap.size 40 v (wL b k)) ∧ Hid (Below w.heap.size w wr)) (fun _ i _ => 16 - (intOf i).toNat)
  case atStart => exact ⟨0, Nat.zero_le _, rfl, Ow.nil_ _ _ _, Below.refl _ _⟩
  case round =>
    obtain ⟨k, hk, rfl, hob, hbel⟩ := hrel
    by_cases hlt : k < 16
    · obtain ⟨A', c', hsl, hc', hc'', hr'⟩ := cut_lh (P := Try.prog) 22 5 rfl size_u8 c (HR.out.below (hbel.out.mono HB.out)) (4 * (k : Int)) (4 * (k : Int) + 4) (4 * k) (4 * k + 4) (by omega) (by omega) (by omega) (by omega) hc
      rw [show 4 * k + 4 - 4 * k = 4 by omega] at hr' hsl hc'
      have C := Lib.hid (rget_any A' 4 c' _ wr B hr' (by decide))
      obtain ⟨N, hN⟩ : ∃ N, N = beNat ((b.drop (4 * k)).take 4) := ⟨_, rfl⟩
      have cc := C.out
      rw [← hN] at cc
      have C2 := Lib.hid cc
      have hw : wL b (k + 1) = wL b k ++ [BitVec.ofNat 32 N] := by rw [hN]; exact wL_succ b k _ (wnx_lo b _ k hlt)
      have hlow := low32 N
      obtain ⟨x, hx⟩ : ∃ x, x = BitVec.ofNat 32 N := ⟨_, rfl⟩
      rw [← hx] at hw hlow
      injection hlow with _ hlow
      have hbn : (wL b k).length + 1 ≤ 35184372088832 := by rw [wL_length]; omega
      have HW := Lib.hid hw
      have HLO := Lib.hid hlow
      have HBN := Lib.hid hbn
      clear hr' C cc hN hw hlow hx hbn
      go_wp2_with fail
      refine C2.out.mono ?_
      rintro e w1 ⟨rfl, rfl⟩
      go_wp2_with (first
        | (at_builtin; refine wpList_appwB rfl (.tmp 14) (.tmp 24) 35 rfl w.heap.size 40 Try.underlying35 info_u32a _ (wL b k) rfl (hob.out.alloc _) _ _ 1 1 [x] rfl (Rw.lit wr _ rfl [x] _ _ (by rw [List.map_cons, List.map_nil, ← HLO.out]) 1 rfl) HBN.out (Nat.le_trans hbel.out.size (le_alloc _ _)) ?_; intro v1 w1 ho1 hb1; have O1 := Lib.hid ho1; have B1 := Lib.hid ((hbel.out.alloc hbel.out.size _).trans hb1); clear ho1 hb1)
        | fail)
      go_roundw
      case rel => exact ⟨k + 1, by omega, by go_num, by show Ow _ _ _ _ _; rw [HW.out]; exact O1.out, B1.out⟩
      case measure => simp [intOf]; omega
    · obtain rfl : k = 16 := by omega
      obtain ⟨wq, hwq⟩ : ∃ W, W = wr := ⟨_, rfl⟩
      subst hwq
      rw [show ((16 : Nat) : Int) = 16 from rfl]
      go_wp2_with fail
      go_loopw [3, 5] (fun v i wr => ∃ k : Nat, 16 ≤ k ∧ k ≤ 64 ∧ i = .int .i64 k ∧ Hid (Ow wr w.heap.size 40 v (wL b k)) ∧ Hid (Below w.heap.size w wr)) (fun _ i _ => 64 - (intOf i).toNat)
      case atStart => exact ⟨16, Nat.le_refl _, by omega, rfl, hob.out, hbel.out⟩
      case round =>
        obtain ⟨k, hk16, hk, rfl, hob2, hbel2⟩ := hrel
        by_cases hlt : k < 64
        · obtain ⟨g, cap, rfl, hg1, hg2, hcap⟩ := hob2.out.form (by rw [wL_length]; omega)
          have hll := wL_length b k
          have ho2 := hob2.out
          rw [hll] at ho2 hcap ⊢
          obtain ⟨p0, hp0⟩ : ∃ p, p = k - 16 := ⟨_, rfl⟩
          obtain ⟨p1, hp1⟩ : ∃ p, p = k - 15 := ⟨_, rfl⟩
          obtain ⟨p2, hp2⟩ : ∃ p, p = k - 7 := ⟨_, rfl⟩
          obtain ⟨p3, hp3⟩ : ∃ p, p = k - 2 := ⟨_, rfl⟩
          have hw := wnx_hi b (wL b k) k (by omega)
          rw [← hp0, ← hp1, ← hp2, ← hp3] at hw
          obtain ⟨x0, hx0⟩ : ∃ x, x = (wL b k).getD p0 0 := ⟨_, rfl⟩
          obtain ⟨x1, hx1⟩ : ∃ x, x = (wL b k).getD p1 0 := ⟨_, rfl⟩
          obtain ⟨x2, hx2⟩ : ∃ x, x = (wL b k).getD p2 0 := ⟨_, rfl⟩
          obtain ⟨x3, hx3⟩ : ∃ x, x = (wL b k).getD p3 0 := ⟨_, rfl⟩
          have c0 : wr.cell? ⟨g, p0, none⟩ = some (.int .u32 (x0.toNat : Int)) := by rw [hx0]; exact ho2.cell hll (by omega)
          have c1 : wr.cell? ⟨g, p1, none⟩ = some (.int .u32 (x1.toNat : Int)) := by rw [hx1]; exact ho2.cell hll (by omega)
          have c2 : wr.cell? ⟨g, p2, none⟩ = some (.int .u32 (x2.toNat : Int)) := by rw [hx2]; exact ho2.cell hll (by omega)
          have c3 : wr.cell? ⟨g, p3, none⟩ = some (.int .u32 (x3.toNat : Int)) := by rw [hx3]; exact ho2.cell hll (by omega)
          rw [← hx0, ← hx1, ← hx2, ← hx3] at hw
          have a0 : IntKind.i64.wrap ((k : Int) - 16) = (p0 : Int) := by rw [IntWalk.i64_in _ (by omega)]; omega
          have a1 : IntKind.i64.wrap ((k : Int) - 15) = (p1 : Int) := by rw [IntWalk.i64_in _ (by omega)]; omega
          have a2 : IntKind.i64.wrap ((k : Int) - 7) = (p2 : Int) := by rw [IntWalk.i64_in _ (by omega)]; omega
          have a3 : IntKind.i64.wrap ((k : Int) - 2) = (p3 : Int) := by rw [IntWalk.i64_in _ (by omega)]; omega
          have l0 : (p0 : Int) < (k : Int) := by omega
          have l1 : (p1 : Int) < (k : Int) := by omega
          have l2 : (p2 : Int) < (k : Int) := by omega
          have l3 : (p3 : Int) < (k : Int) := by omega
          have m0 : (0 : Int) ≤ (p0 : Int) := by omega
          have m1 : (0 : Int) ≤ (p1 : Int) := by omega
          have m2 : (0 : Int) ≤ (p2 : Int) := by omega
          have m3 : (0 : Int) ≤ (p3 : Int) := by omega
          have HW := Lib.hid (wL_succ b k _ hw)
          have HO2 := Lib.hid ho2
          have HLL := Lib.hid hll
          have T1 := Lib.hid (fun W => show Calls Try.prog 30 #[.int .u32 (x1.toNat : Int), .int .u32 7] W _ from turn_any x1 7 (by decide) (by decide) W)
          have T2 := Lib.hid (fun W => show Calls Try.prog 30 #[.int .u32 (x1.toNat : Int), .int .u32 18] W _ from turn_any x1 18 (by decide) (by decide) W)
          have T3 := Lib.hid (fun W => show Calls Try.prog 30 #[.int .u32 (x3.toNat : Int), .int .u32 17] W _ from turn_any x3 17 (by decide) (by decide) W)
          have T4 := Lib.hid (fun W => show Calls Try.prog 30 #[.int .u32 (x3.toNat : Int), .int .u32 19] W _ from turn_any x3 19 (by decide) (by decide) W)
          clear hx0 hx1 hx2 hx3 hw hp0 hp1 hp2 hp3 ho2 hll
          go_wp2_with fail
          go_region
          go_wp2_with fail
          refine (T1.out _).mono ?_
          rintro e w1 ⟨rfl, rfl⟩
          go_wp2_with fail
          refine (T2.out _).mono ?_
          rintro e w1 ⟨rfl, rfl⟩
          go_wp2_with fail
          refine (T3.out _).mono ?_
          rintro e w1 ⟨rfl, rfl⟩
          go_wp2_with fail
          refine (T4.out _).mono ?_
          rintro e w1 ⟨rfl, rfl⟩
          go_wp2_with fail
          have E8 : bits BinOp.xor .u32 (bits BinOp.xor .u32 ((rr x1 7).toNat : Int) ((rr x1 18).toNat : Int)) ((x1.toNat : Int) / 8) = ((tT x1 7 18 3).toNat : Int) := by
            rw [xor32, shr3, xor32]; rfl
          have E9 : bits BinOp.xor .u32 (bits BinOp.xor .u32 ((rr x3 17).toNat : Int) ((rr x3 19).toNat : Int)) ((x3.toNat : Int) / 1024) = ((tT x3 17 19 10).toNat : Int) := by
            rw [xor32, shr10, xor32]; rfl
          rw [E8, E9]
          clear E8 E9
          obtain ⟨y8, hy8⟩ : ∃ y, y = tT x1 7 18 3 := ⟨_, rfl⟩
          obtain ⟨y9, hy9⟩ : ∃ y, y = tT x3 17 19 10 := ⟨_, rfl⟩
          have hw3 := HW.out
          rw [← hy8, ← hy9] at hw3 ⊢
          have HW3 := Lib.hid hw3
          have d0 : wr.drew.cell? ⟨g, p0, none⟩ = some (.int .u32 (x0.toNat : Int)) := c0
          have d2 : wr.drew.cell? ⟨g, p2, none⟩ = some (.int .u32 (x2.toNat : Int)) := c2
          have HOz := Lib.hid HO2.out.drew
          have HBz := Lib.hid hbel2.out.drew
          have HLz := Lib.hid (show (wL b k).length + 1 ≤ 35184372088832 by rw [HLL.out]; omega)
          have hxv : Value.int .u32 ((((x0.toNat : Int) + (y8.toNat : Int) + (x2.toNat : Int) + (y9.toNat : Int))) % 4294967296) = .int .u32 ((x0 + y8 + x2 + y9).toNat : Int) := by
            congr 1
            simp only [BitVec.toNat_add]
            omega
          have HXV := Lib.hid hxv
          clear c0 c1 c2 c3 hy8 hy9 hw3 T1 T2 T3 T4 HW HO2 hxv
          generalize wr.drew = wz at *
          go_region_law (first
            | (refine step_appwG rfl (.tmp 56) (.tmp 72) 35 rfl w.heap.size 40 Try.underlying35 info_u32a _ (wL b k) rfl ((HOz.out.alloc _).drew) _ _ 1 1 [x0 + y8 + x2 + y9] rfl ((Rw.lit wz _ rfl [x0 + y8 + x2 + y9] _ _ (by first | rfl | (rw [IntKind.wrap_u32]; rfl) | (rw [IntKind.wrap_u32, IntKind.wrap_u32, IntKind.wrap_u32]; rfl)) 1 rfl).drew) HLz.out (Nat.le_trans HBz.out.size (by show _ ≤ (wz.alloc _).heap.size; simp)) ?_; intro v1 w1 ho1 hg1; have O1 := Lib.hid ho1; have B1 := Lib.hid (show Below w.heap.size w w1 from (HBz.out.alloc HBz.out.size _).trans ⟨hg1.os, hg1.tape, hg1.output, hg1.size, fun q hq => hg1.block q (Nat.lt_of_lt_of_le hq (Nat.le_trans HBz.out.size (by show _ ≤ (wz.alloc _).heap.size; simp))) (fun e => by have := (World.ownsRow.lt HOz.out q e.symm).1; omega)⟩); clear ho1 hg1)
            | fail)
          all_goals
            go_wp2_with fail
            go_roundw
            case rel => exact ⟨k + 1, by omega, by omega, by go_num, by show Ow _ _ _ _ _; rw [HW3.out]; exact O1.out, B1.out⟩
            case measure => simp [intOf]; omega
        · obtain rfl : k = 64 := by omega
          go_wp2_with fail
          go_ret
          exact ⟨_, rfl, hob2.out, hbel2.out⟩
end Go.Proofs.Ytllodapnbdbpeaa
