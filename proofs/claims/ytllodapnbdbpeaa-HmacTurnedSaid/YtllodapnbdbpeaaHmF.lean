/- The walks of the statements HmacTags and HmacVerifies. -/
import Derived.Test.YtllodapnbdbpeaaHmE
namespace Go.Proofs.Ytllodapnbdbpeaa
open Go.RowKit

set_option maxRecDepth 100000 in
set_option maxHeartbeats 2000000 in
theorem hmacTags_walk (A : Option Addr) (n c : Nat) (k : List UInt8) (A' : Option Addr) (n' c' : Nat) (t : List UInt8) (w : World) (hb : Rd w w.heap.size A n k ∧ n ≤ c ∧ c ≤ 140737488351232) (hb' : Rd w w.heap.size A' n' t ∧ n' ≤ c' ∧ c' ≤ 140737488351232) :
    Calls Try.prog 4 #[.slice A n c, .slice A' n' c'] w fun e w' => e = .returned (.bool true) ∧ Below w.heap.size w w' := by
  obtain ⟨hr, hnc, hcc⟩ := hb
  obtain ⟨hr', hnc', hcc'⟩ := hb'
  have H8 := Lib.hid heads08_any
  have c0 := small_any A A' n c n' c' w (by omega) (by omega)
  by_cases hs : n ≤ 2000 ∧ n' ≤ 2000
  · rw [decide_eq_true hs.1, decide_eq_true hs.2, Bool.true_and] at c0
    have hn := hs.1
    have hn' := hs.2
    have C0 := Lib.hid c0
    have HR := Lib.hid hr
    have HR' := Lib.hid hr'
    clear c0 hr hr' hs
    go_enter Try.func4, Try.ntmps4
    go_wp2_with fail
    refine C0.out.mono ?_
    rintro e w0 ⟨rfl, rfl⟩
    go_wp2_with fail
    refine (ckey_any A n c _ k w HR.out (Nat.le_refl _) hnc (by omega) (by omega)).mono ?_
    rintro e w1 ⟨v1, rfl, ho1, hb1⟩
    obtain ⟨D1, d1, rfl, -, -, hr1⟩ := Ob.rd_n ho1 (keyL_length k)
    have R1 := Lib.hid hr1
    have B1 := Lib.hid hb1
    clear ho1 hb1 hr1
    go_wp2_with fail
    refine (rkey_any A n c _ k w1 (HR.out.below B1.out) B1.out.size (by omega)).mono ?_
    rintro e w2 ⟨v2, rfl, ho2, hb2⟩
    obtain ⟨D2, d2, rfl, -, -, hr2⟩ := Ob.rd_n ho2 (keyL_length k)
    have R2 := Lib.hid hr2
    have R12 := Lib.hid (R1.out.below hb2)
    have B2 := Lib.hid (B1.out.trans (hb2.mono B1.out.size))
    clear ho2 hb2 hr2
    go_wp2_with fail
    refine (same_true D1 D2 64 d1 64 d2 _ _ (keyL k) w2 R12.out R2.out).mono ?_
    rintro e w2' ⟨rfl, rfl⟩
    go_wp2_with fail
    refine (tag1_any A A' n c n' c' k t w2 ((HR.out.below B2.out).more B2.out.size) hnc (by omega) (by omega) ((HR'.out.below B2.out).more B2.out.size) hnc' (by omega) (by omega)).mono ?_
    rintro e w3 ⟨v3, rfl, ho3, hb3⟩
    obtain ⟨D3, d3, rfl, -, -, hr3⟩ := Ob.rd_n ho3 (tagL_length k t)
    have R3 := Lib.hid hr3
    have B3 := Lib.hid ((B2.out.alloc B2.out.size _).trans (hb3.mono (Nat.le_trans B2.out.size (le_alloc _ _))))
    clear ho3 hb3 hr3
    go_wp2_with fail
    refine (rtag_any A A' n c n' c' _ _ k t w3 (HR.out.below B3.out) B3.out.size (HR'.out.below B3.out) B3.out.size (by omega) (by omega)).mono ?_
    rintro e w4 ⟨v4, rfl, ho4, hb4⟩
    obtain ⟨D4, d4, rfl, -, -, hr4⟩ := Ob.rd_n ho4 (tagL_length k t)
    have R4 := Lib.hid hr4
    have R34 := Lib.hid (R3.out.below hb4)
    have B4 := Lib.hid (B3.out.trans (hb4.mono B3.out.size))
    clear ho4 hb4 hr4
    go_wp2_with fail
    refine (same_true D3 D4 32 d3 32 d4 _ _ (tagL k t) w4 R34.out R4.out).mono ?_
    rintro e w4' ⟨rfl, rfl⟩
    go_wp2_with fail
    refine (cchain_any A A' n c n' c' k t w4 ((HR.out.below B4.out).more B4.out.size) hnc (by omega) ((HR'.out.below B4.out).more B4.out.size) hnc' (by omega) (by omega) (by omega)).mono ?_
    rintro e w5 ⟨v5, rfl, ho5, hb5⟩
    obtain ⟨D5, d5, rfl, -, -, hr5⟩ := Ob.rd_n ho5 (shaL_size _)
    have R5 := Lib.hid hr5
    have B5 := Lib.hid (B4.out.trans (hb5.mono B4.out.size))
    clear ho5 hb5 hr5
    go_wp2_with fail
    refine (rchain_any A A' n c n' c' _ _ k t w5 (HR.out.below B5.out) B5.out.size (HR'.out.below B5.out) B5.out.size (by omega) (by omega)).mono ?_
    rintro e w6 ⟨v6, rfl, ho6, hb6⟩
    obtain ⟨D6, d6, rfl, -, -, hr6⟩ := Ob.rd_n ho6 (shaL_size _)
    have R6 := Lib.hid hr6
    have R56 := Lib.hid (R5.out.below hb6)
    have B6 := Lib.hid (B5.out.trans (hb6.mono B5.out.size))
    clear ho6 hb6 hr6
    go_wp2_with fail
    refine (same_true D5 D6 32 d5 32 d6 _ _ (shaL (k ++ t)) w6 R56.out R6.out).mono ?_
    rintro e w6' ⟨rfl, rfl⟩
    go_wp2_with fail
    refine (H8.out _).mono ?_
    rintro e w7 ⟨rfl, hb7⟩
    have B7 := Lib.hid (B6.out.trans (hb7.mono B6.out.size))
    clear hb7
    go_wp2_with fail
    go_ret
    exact ⟨rfl, B7.out⟩
  · have e : (decide (n ≤ 2000) && decide (n' ≤ 2000)) = false := by
      rw [← Bool.decide_and]; exact decide_eq_false hs
    rw [e] at c0
    have C0 := Lib.hid c0
    clear c0 hr hr' hs e
    go_enter Try.func4, Try.ntmps4
    go_wp2_with fail
    refine C0.out.mono ?_
    rintro e w0 ⟨rfl, rfl⟩
    go_wp2_with fail
    refine (H8.out _).mono ?_
    rintro e w7 ⟨rfl, hb7⟩
    have B7 := Lib.hid hb7
    clear hb7
    go_wp2_with fail
    go_ret
    exact ⟨rfl, B7.out⟩

set_option maxRecDepth 100000 in
set_option maxHeartbeats 2000000 in
theorem hmacVerifies_walk (A : Option Addr) (n c : Nat) (k : List UInt8) (A' : Option Addr) (n' c' : Nat) (t : List UInt8) (At : Option Addr) (nt ct : Nat) (tg : List UInt8) (w : World) (hb : Rd w w.heap.size A n k ∧ n ≤ c ∧ c ≤ 140737488351232) (hb' : Rd w w.heap.size A' n' t ∧ n' ≤ c' ∧ c' ≤ 140737488351232) (hbt : Rd w w.heap.size At nt tg ∧ nt ≤ ct ∧ ct ≤ 140737488351232) :
    Calls Try.prog 5 #[.slice A n c, .slice A' n' c', .slice At nt ct] w fun e w' => e = .returned (.bool true) ∧ Below w.heap.size w w' := by
  obtain ⟨hr, hnc, hcc⟩ := hb
  obtain ⟨hr', hnc', hcc'⟩ := hb'
  obtain ⟨hrt, hnct, hcct⟩ := hbt
  have H8 := Lib.hid heads08_any
  have c0 := small_any A A' n c n' c' w (by omega) (by omega)
  by_cases hs : n ≤ 2000 ∧ n' ≤ 2000
  · rw [decide_eq_true hs.1, decide_eq_true hs.2, Bool.true_and] at c0
    have hn := hs.1
    have hn' := hs.2
    obtain ⟨b, hb⟩ : ∃ b, b = (tg == tagL k t) := ⟨_, rfl⟩
    have hbb : (b == b) = true := by cases b <;> rfl
    have C0 := Lib.hid c0
    have HR := Lib.hid hr
    have HR' := Lib.hid hr'
    have HRT := Lib.hid hrt
    have HB := Lib.hid hb
    clear c0 hr hr' hrt hs hb
    go_enter Try.func5, Try.ntmps5
    go_wp2_with fail
    refine C0.out.mono ?_
    rintro e w0 ⟨rfl, rfl⟩
    go_wp2_with fail
    refine (tag1_any A A' n c n' c' k t w HR.out hnc (by omega) (by omega) HR'.out hnc' (by omega) (by omega)).mono ?_
    rintro e w1 ⟨v1, rfl, ho1, hb1⟩
    obtain ⟨D1, d1, rfl, -, -, hr1⟩ := Ob.rd_n ho1 (tagL_length k t)
    have R1 := Lib.hid hr1
    have B1 := Lib.hid (((Below.refl _ w).alloc (Nat.le_refl _) _).trans (hb1.mono (le_alloc _ _)))
    clear ho1 hb1 hr1
    go_wp2_with fail
    refine (ver1_any A A' At n c n' c' nt ct k t tg w1 ((HR.out.below B1.out).more B1.out.size) hnc (by omega) (by omega) ((HRT.out.below B1.out).more B1.out.size) ((HR'.out.below B1.out).more B1.out.size) hnc' (by omega) (by omega)).mono ?_
    rintro e w2 ⟨rfl, hb2⟩
    rw [← HB.out]
    have B12 := Lib.hid hb2
    have B2 := Lib.hid (B1.out.trans (hb2.mono B1.out.size))
    clear hb2
    go_wp2_with fail
    refine (rtag_any A A' n c n' c' _ _ k t w2 (HR.out.below B2.out) B2.out.size (HR'.out.below B2.out) B2.out.size (by omega) (by omega)).mono ?_
    rintro e w3 ⟨v3, rfl, ho3, hb3⟩
    obtain ⟨D3, d3, rfl, -, -, hr3⟩ := Ob.rd_n ho3 (tagL_length k t)
    have R3 := Lib.hid hr3
    have B13 := Lib.hid (B12.out.trans (hb3.mono B12.out.size))
    have B3 := Lib.hid (B2.out.trans (hb3.mono B2.out.size))
    clear ho3 hb3 hr3
    go_wp2_with fail
    refine (same_any At D3 nt ct 32 d3 _ _ tg (tagL k t) w3 (HRT.out.below B3.out) R3.out).mono ?_
    rintro e w3' ⟨rfl, rfl⟩
    rw [← HB.out]
    go_wp2_with fail
    refine (ver1_any A A' D1 n c n' c' 32 d1 k t (tagL k t) w3 ((HR.out.below B3.out).more B3.out.size) hnc (by omega) (by omega) ((R1.out.below B13.out).more B13.out.size) ((HR'.out.below B3.out).more B3.out.size) hnc' (by omega) (by omega)).mono ?_
    rintro e w4 ⟨rfl, hb4⟩
    rw [show (tagL k t == tagL k t) = true by simp]
    have B4 := Lib.hid (B3.out.trans (hb4.mono B3.out.size))
    clear hb4
    go_wp2_with fail
    refine (H8.out _).mono ?_
    rintro e w7 ⟨rfl, hb7⟩
    have B7 := Lib.hid (B4.out.trans (hb7.mono B4.out.size))
    clear hb7
    go_wp2_with fail
    go_ret
    exact ⟨rfl, B7.out⟩
  · have e : (decide (n ≤ 2000) && decide (n' ≤ 2000)) = false := by
      rw [← Bool.decide_and]; exact decide_eq_false hs
    rw [e] at c0
    have C0 := Lib.hid c0
    clear c0 hr hr' hrt hs e
    go_enter Try.func5, Try.ntmps5
    go_wp2_with fail
    refine C0.out.mono ?_
    rintro e w0 ⟨rfl, rfl⟩
    go_wp2_with fail
    refine (H8.out _).mono ?_
    rintro e w7 ⟨rfl, hb7⟩
    have B7 := Lib.hid hb7
    clear hb7
    go_wp2_with fail
    go_ret
    exact ⟨rfl, B7.out⟩
end Go.Proofs.Ytllodapnbdbpeaa
