/- The walk of the statement ShaParts. -/
import Derived.Test.YtdhemebaddnmeaaShaL
import Derived.Test.YtdhemebaddnmeaaSame
namespace Go.Proofs.Ytdhemebaddnmeaa
open Go.RowKit

set_option maxRecDepth 100000 in
set_option maxHeartbeats 2000000 in
theorem shaParts_walk (A : Option Addr) (n c : Nat) (l : List UInt8) (x y : Int) (w : World) (hb : Rd w w.heap.size A n l ∧ n ≤ c ∧ c ≤ 140737488351232) (_hx : (Lit.int .i64 x).wf = true) (_hy : (Lit.int .i64 y).wf = true) :
    Calls Try.prog 6 #[.slice A n c, .int .i64 x, .int .i64 y] w fun e w' => e = .returned (.bool true) ∧ Below w.heap.size w w' := by
  obtain ⟨hr, hnc, hcc⟩ := hb
  have hlen := hr.1

  have H7 := Lib.hid heads07_any
  by_cases h0 : 2000 < n ∨ x < 0 ∨ y < x ∨ (n : Int) < y
  · by_cases a0 : 2000 < n
    · have e0 : (2000 : Int) < (n : Int) := by omega
      clear h0 hr hlen
      go_enter Try.func6, Try.ntmps6
      go_wp2_with fail
      refine (H7.out _).mono ?_
      rintro e w1 ⟨rfl, hb1⟩
      have B1 := Lib.hid hb1
      clear hb1
      go_wp2_with fail
      go_ret
      exact ⟨rfl, B1.out⟩
    have e0 : ¬ (2000 : Int) < (n : Int) := by omega
    by_cases a1 : x < 0
    · clear h0 hr hlen
      go_enter Try.func6, Try.ntmps6
      go_wp2_with fail
      refine (H7.out _).mono ?_
      rintro e w1 ⟨rfl, hb1⟩
      have B1 := Lib.hid hb1
      clear hb1
      go_wp2_with fail
      go_ret
      exact ⟨rfl, B1.out⟩
    by_cases a2 : y < x
    · clear h0 hr hlen
      go_enter Try.func6, Try.ntmps6
      go_wp2_with fail
      refine (H7.out _).mono ?_
      rintro e w1 ⟨rfl, hb1⟩
      have B1 := Lib.hid hb1
      clear hb1
      go_wp2_with fail
      go_ret
      exact ⟨rfl, B1.out⟩
    have a3 : (n : Int) < y := by omega
    clear h0 hr hlen
    go_enter Try.func6, Try.ntmps6
    go_wp2_with fail
    refine (H7.out _).mono ?_
    rintro e w1 ⟨rfl, hb1⟩
    have B1 := Lib.hid hb1
    clear hb1
    go_wp2_with fail
    go_ret
    exact ⟨rfl, B1.out⟩
  · obtain ⟨X, rfl⟩ := Int.eq_ofNat_of_zero_le (by omega : 0 ≤ x)
    obtain ⟨Y, rfl⟩ := Int.eq_ofNat_of_zero_le (by omega : 0 ≤ y)
    have hn : n ≤ 2000 := by omega
    have hXY : X ≤ Y := by omega
    have hYn : Y ≤ n := by omega
    have e0 : ¬ (2000 : Int) < (n : Int) := by omega
    have e1 : ¬ (Y : Int) < (X : Int) := by omega
    have e2 : ¬ (n : Int) < (Y : Int) := by omega
    have e3 : ¬ (X : Int) < 0 := by omega
    obtain ⟨A1, c1, s1, k1, k1', r1⟩ := cut_h (P := Try.prog) 22 5 rfl size_u8 c hr (X : Int) X rfl (by omega) hnc
    obtain ⟨A2, c2, s2, k2, k2', r2⟩ := cut_lh2 (P := Try.prog) 22 5 rfl size_u8 c hr (X : Int) (Y : Int) X Y rfl rfl hXY hYn hnc
    obtain ⟨A3, c3, s3, k3, k3', r3⟩ := cut_l (P := Try.prog) 22 5 rfl size_u8 c hr (Y : Int) Y rfl hYn hnc
    have hcat : l.take X ++ (l.drop X).take (Y - X) ++ l.drop Y = l := by
      rw [show l.take X ++ (l.drop X).take (Y - X) = l.take Y by
        conv => lhs; rw [show l.take X = (l.take Y).take X by rw [List.take_take]; congr 1; omega, show (l.drop X).take (Y - X) = (l.take Y).drop X by rw [List.drop_take]]
        exact List.take_append_drop _ _]
      exact List.take_append_drop _ _
    have HR := Lib.hid hr
    have R1 := Lib.hid r1
    have R2 := Lib.hid r2
    have R3 := Lib.hid r3
    have HC := Lib.hid hcat
    have HLN := Lib.hid hlen
    clear h0 hr r1 r2 r3 hcat hlen
    go_enter Try.func6, Try.ntmps6
    go_wp2_with fail
    refine (sum1_any A n c l w HR.out hnc (by omega) (by rw [HLN.out]; omega)).mono ?_
    rintro e w1 ⟨v1, rfl, ho1, hb1⟩
    obtain ⟨D, d, rfl, hd, hdm, hrd⟩ := Ob.rd_n ho1 (shaL_length l)
    have B1 := Lib.hid (((Below.refl _ w).alloc (Nat.le_refl _) _).trans (hb1.mono (by simp)))
    have RD := Lib.hid hrd
    clear ho1 hb1 hrd
    go_wp2_with fail
    have hsz : w.heap.size ≤ w1.heap.size := B1.out.size
    have cs3 := sum3_any A1 A2 A3 X c1 (Y - X) c2 (n - Y) c3 _ _ _ w1.drew ⟨((R1.out.below B1.out).more hsz).drew, k1, by omega⟩ ⟨((R2.out.below B1.out).more hsz).drew, k2, by omega⟩ ⟨((R3.out.below B1.out).more hsz).drew, k3, by omega⟩ (by rw [HC.out, HLN.out]; omega)
    rw [HC.out] at cs3
    have CS3 := Lib.hid (show Calls Try.prog 12 #[.slice (some ⟨w1.heap.size, 0, none⟩) 3 3] (w1.alloc (.cells #[.slice A1 X c1, .slice A2 (Y - X) c2, .slice A3 (n - Y) c3] 22)).drew (GivesO 5 (shaL l) (w1.alloc (.cells #[.slice A1 X c1, .slice A2 (Y - X) c2, .slice A3 (n - Y) c3] 22)).drew) from cs3)
    have HSZ := Lib.hid hsz
    have hzl : l.length ≤ 549755813888 := by rw [HLN.out]; omega
    have HZL := Lib.hid hzl
    clear hsz cs3 hzl
    go_region_held3 (fun _ => True)
      (first | exact trivial | fail)
      (first
      | (go_at_call 12; have _g := B2; refine (sum2_any A none n c 0 0 l [] w2 ((HR.out.below B2.out).more B2.out.size) hnc (by omega) Rd.nil_ (by decide) (by decide) (by rw [List.append_nil]; exact HZL.out)).mono ?_; rintro e w3 ⟨v3, rfl, ho3, hb3⟩; obtain ⟨D3, d3, rfl, hd3, hm3, hr3⟩ := Ob.rd_n ho3 (shaL_length _); have R33 := Lib.hid (show Rd w3 w3.heap.size D3 32 (shaL l) by rw [List.append_nil] at hr3; exact hr3); have B3 : Hid (Below w2.heap.size w2 w3) := ((Below.refl _ w2).alloc (Nat.le_refl _) _).trans (hb3.mono (by simp)); clear ho3 hb3 hr3)
      | (go_at_call 12; refine CS3.out.mono ?_; rintro e w2 ⟨v2, rfl, ho2, hb2⟩; obtain ⟨D2, d2, rfl, hd2, hm2, hr2⟩ := Ob.rd_n ho2 (shaL_length _); have R22 := Lib.hid hr2; have B12 : Hid (Below w1.heap.size w1 w2) := (((Below.refl _ w1).alloc (Nat.le_refl _) _).drew).trans (hb2.mono (by show _ ≤ (w1.alloc _).heap.size; simp)); have B2 := Lib.hid (B1.out.trans (B12.out.mono HSZ.out)); clear ho2 hb2 hr2)
      | (go_at_call 14; have _g := B3; refine (same_true D3 D 32 d3 32 d _ _ (shaL l) w3 R33.out ((RD.out.below B12.out).below (B3.out.mono B12.out.size))).mono ?_; rintro e w3' ⟨rfl, rfl⟩)
      | (go_at_call 14; refine (same_true D2 D 32 d2 32 d _ _ (shaL l) w2 R22.out (RD.out.below B12.out)).mono ?_; rintro e w2' ⟨rfl, rfl⟩)
      | (go_at_call 8; refine (H7.out _).mono ?_; rintro e w4 ⟨rfl, hb4⟩; have B4 := Lib.hid hb4; clear hb4)
      | fail)
    go_wp2_with fail
    go_ret
    exact ⟨rfl, (B2.out.trans (B3.out.mono B2.out.size)).trans (B4.out.mono (Nat.le_trans B2.out.size B3.out.size))⟩
end Go.Proofs.Ytdhemebaddnmeaa
