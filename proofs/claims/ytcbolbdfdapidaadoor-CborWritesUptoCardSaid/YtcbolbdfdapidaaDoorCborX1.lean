/- The walk of the statement CborHeads. -/
import Derived.Test.YtcbolbdfdapidaaDoorCborH
namespace Go.Proofs.YtcbolbdfdapidaaDoor
open Go.RowKit

theorem wf_u64_ {n : Int} (h : (Lit.int .u64 n).wf = true) : 0 ≤ n ∧ n < 18446744073709551616 := by
  simp [Lit.wf, IntKind.min, IntKind.max, IntKind.signed, IntKind.bits] at h
  omega

set_option maxRecDepth 100000 in
set_option maxHeartbeats 2000000 in
theorem cborHeads_bad (mj x y : Int) (w : World) (hL : LaidE w) (_hx0 : 0 ≤ x) (_hx1 : x < 18446744073709551616) (_hy0 : 0 ≤ y) (_hy1 : y < 18446744073709551616) (h : mj < 0 ∨ 7 < mj ∨ y ≤ x) :
    Calls Tryd.prog 7 #[.int .i64 mj, .int .u64 x, .int .u64 y] w fun e w' => e = .returned (.bool true) ∧ Below w.heap.size w w' := by
  have HH := Lib.hid (heads03_any w hL)
  clear hL
  by_cases h0 : mj < 0
  · clear h
    go_enter Tryd.func7, Tryd.ntmps7
    go_wp2_with fail
    refine HH.out.mono ?_
    rintro e w1 ⟨rfl, hb1⟩
    have B1 := Lib.hid hb1
    clear hb1
    go_wp2_with fail
    go_ret
    exact ⟨rfl, B1.out⟩
  by_cases h7 : 7 < mj
  · clear h
    go_enter Tryd.func7, Tryd.ntmps7
    go_wp2_with fail
    refine HH.out.mono ?_
    rintro e w1 ⟨rfl, hb1⟩
    have B1 := Lib.hid hb1
    clear hb1
    go_wp2_with fail
    go_ret
    exact ⟨rfl, B1.out⟩
  · have hyx : y ≤ x := by omega
    clear h
    go_enter Tryd.func7, Tryd.ntmps7
    go_wp2_with fail
    refine HH.out.mono ?_
    rintro e w1 ⟨rfl, hb1⟩
    have B1 := Lib.hid hb1
    clear hb1
    go_wp2_with fail
    go_ret
    exact ⟨rfl, B1.out⟩

set_option maxRecDepth 100000 in
set_option maxHeartbeats 2000000 in
theorem cborHeads_walk (mj x y : Int) (w : World) (hmj : (Lit.int .i64 mj).wf = true) (hx : (Lit.int .u64 x).wf = true) (hy : (Lit.int .u64 y).wf = true) (hL : LaidE w) :
    Calls Tryd.prog 7 #[.int .i64 mj, .int .u64 x, .int .u64 y] w fun e w' => e = .returned (.bool true) ∧ Below w.heap.size w w' := by
  obtain ⟨x0, x1⟩ := wf_u64_ hx
  obtain ⟨y0, y1⟩ := wf_u64_ hy
  by_cases hbad : mj < 0 ∨ 7 < mj ∨ y ≤ x
  · exact cborHeads_bad mj x y w hL x0 x1 y0 y1 hbad
  have m0 : 0 ≤ mj := by omega
  have m7 : mj ≤ 7 := by omega
  have hxy : x < y := by omega
  have c1 := fun W => chead_any mj x.toNat W hmj (by omega)
  have c2 := fun W => chead_any mj y.toNat W hmj (by omega)
  rw [show ((x.toNat : Nat) : Int) = x by omega] at c1
  rw [show ((y.toNat : Nat) : Int) = y by omega] at c2
  have e1 : ∀ n, headB mj n = hd mj.toNat n := fun n => by rw [headB, if_neg (by omega)]
  rw [e1] at c1 c2
  have hle := hd_less mj.toNat x.toNat y.toNat (by omega) (by omega) (by omega)
  have hl1 := hd_len mj.toNat x.toNat
  have hl2 := hd_len mj.toNat y.toNat
  have hs2 := hsz_le y.toNat
  generalize hd mj.toNat x.toNat = H1 at *
  generalize hd mj.toNat y.toNat = H2 at *
  have g1 : 1 ≤ H1.length := by omega
  have g2 : H2.length ≤ 9 := by omega
  clear hl1 hl2 hs2 e1 hbad hmj hx hy
  have C1 := Lib.hid c1
  have C2 := Lib.hid c2
  have HLL := Lib.hid hL
  clear c1 c2 hL
  have HX : Hid ((H1.length < H2.length) ∨ (H1.length = H2.length ∧ Op.bytesLess H1 H2 = true)) := hle
  clear hle
  go_enter Tryd.func7, Tryd.ntmps7
  go_wp2_with fail
  refine (C1.out _).mono ?_
  rintro e w1 ⟨A1, n1, k1, rfl, hr1, hc1, hb1⟩
  have B1 := Lib.hid hb1
  obtain rfl : H1.length = n1 := hr1.1
  have R1 := Lib.hid hr1
  clear hb1 hr1
  go_wp2_with fail
  refine (C2.out _).mono ?_
  rintro e w2 ⟨A2, n2, k2, rfl, hr2, hc2, hb2⟩
  obtain rfl : H2.length = n2 := hr2.1
  have B2 := Lib.hid (B1.out.trans (hb2.mono B1.out.size))
  have s1 := run_str (P := Tryd.prog) (c := k1) (R1.out.below hb2) 24 5 9 Tryd.underlying24 Tryd.underlying5 Tryd.underlying9
  have s2 := run_str (P := Tryd.prog) (c := k2) hr2 24 5 9 Tryd.underlying24 Tryd.underlying5 Tryd.underlying9
  have CH := Lib.hid (heads03_any w2 (HLL.out.below B2.out HLL.out.lt))
  clear hb2 hr2
  have d1 : decide ((1 : Int) ≤ (H1.length : Int)) = true := decide_eq_true (by omega)
  have d2 : decide ((H2.length : Int) ≤ 9) = true := decide_eq_true (by omega)
  rcases HX.out with hlt | ⟨heq, hbl⟩
  · have q1 : decide (H1.length < H2.length) = true := decide_eq_true hlt
    go_wp2_with fail
    refine CH.out.mono ?_
    rintro e w3 ⟨rfl, hb3⟩
    have B3 := Lib.hid (B2.out.trans (hb3.mono B2.out.size))
    clear hb3
    go_wp2_with fail
    go_ret
    exact ⟨rfl, B3.out⟩
  · have q1 : decide (H1.length < H2.length) = false := decide_eq_false (by omega)
    have q2 : ((H1.length : Int) == (H2.length : Int)) = true := by rw [beq_iff_eq]; omega
    have HQ := Lib.hid heq
    clear heq
    go_wp2_with fail
    refine CH.out.mono ?_
    rintro e w3 ⟨rfl, hb3⟩
    have B3 := Lib.hid (B2.out.trans (hb3.mono B2.out.size))
    clear hb3
    go_wp2_with fail
    go_ret
    exact ⟨rfl, B3.out⟩
end Go.Proofs.YtcbolbdfdapidaaDoor
