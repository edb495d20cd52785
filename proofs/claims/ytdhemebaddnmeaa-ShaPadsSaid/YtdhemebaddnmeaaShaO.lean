/- The walk of the statement ShaPads. -/
import Derived.Test.YtdhemebaddnmeaaShaL
namespace Go.Proofs.Ytdhemebaddnmeaa
open Go.RowKit

set_option maxRecDepth 100000 in
set_option maxHeartbeats 2000000 in
theorem shaPads_walk (n : Int) (w : World) (hn : (Lit.int .i64 n).wf = true) :
    Calls Try.prog 7 #[.int .i64 n] w fun e w' => e = .returned (.bool true) ∧ Below w.heap.size w w' := by
  have hb : -9223372036854775808 ≤ n ∧ n < 9223372036854775808 := by
    simp [Lit.wf, IntKind.min, IntKind.max, IntKind.signed, IntKind.bits] at hn
    omega
  clear hn
  by_cases h0 : n < 0
  · have C1 := Lib.hid (cpad_neg n h0)
    have h2 : ¬ 0 < n := by omega
    go_enter Try.func7, Try.ntmps7
    go_wp2_with fail
    refine (C1.out _).mono ?_
    rintro e w1 ⟨rfl, rfl⟩
    go_wp2_with fail
    refine (heads07_any _).mono ?_
    rintro e w1 ⟨rfl, hb1⟩
    have B1 := Lib.hid hb1
    clear hb1
    go_wp2_with fail
    go_ret
    exact ⟨rfl, B1.out⟩
  · by_cases h1 : 1099511627776 < n
    · have h2 : 0 < n := by omega
      go_enter Try.func7, Try.ntmps7
      go_wp2_with fail
      refine (heads07_any _).mono ?_
      rintro e w1 ⟨rfl, hb1⟩
      have B1 := Lib.hid hb1
      clear hb1
      go_wp2_with fail
      go_ret
      exact ⟨rfl, B1.out⟩
    · obtain ⟨N, rfl⟩ := Int.eq_ofNat_of_zero_le (by omega : 0 ≤ n)
      have hN : N ≤ 1099511627776 := by omega
      have C1 := Lib.hid (cpad_any N (by omega) w)
      obtain ⟨L, hL⟩ : ∃ L, L = (padL N).length := ⟨_, rfl⟩
      have hL2 : L = 72 - (N % 64 + 8) % 64 := by rw [hL, padL_length]
      have g1 : ((N : Int) + (L : Int)) % 64 = 0 := by omega
      have g2 : (9 : Int) ≤ (L : Int) := by omega
      have g3 : (L : Int) ≤ 72 := by omega
      have HL := Lib.hid hL
      have HL2 := Lib.hid hL2
      have HN := Lib.hid hN
      clear hL hL2 hb
      go_enter Try.func7, Try.ntmps7
      go_wp2_with fail
      refine C1.out.mono ?_
      rintro e w1 ⟨v1, rfl, ho1, hb1⟩
      obtain ⟨q, cap, rfl, -, -, -⟩ := ho1.form (by rw [← HL.out, HL2.out]; omega)
      obtain ⟨_, hr1, hlc, hcm⟩ := ho1.rd_
      rw [← HL.out] at hr1 hlc ⊢
      have ho2 := ho1
      rw [← HL.out] at ho2
      have hc0 := ho2.cell HL.out.symm (j := 0) (by omega)
      rw [show (padL N).getD 0 0 = 128 from rfl] at hc0
      obtain ⟨A', c', hs1, hc1, hc2, hr2⟩ := cut_l (P := Try.prog) 22 5 rfl size_u8 cap hr1 ((L : Int) - 8) (L - 8) (by omega) (by omega) hlc
      have e8 : L - (L - 8) = 8 := by omega
      rw [e8] at hs1 hc1 hr2
      have hd : (padL N).drop (L - 8) = be (8 * N) 8 := by
        have e : padL N = (128 :: List.replicate (63 - (N % 64 + 8) % 64) (0 : UInt8)) ++ be (8 * N) 8 := rfl
        rw [e, List.drop_left' (by rw [List.length_cons, List.length_replicate, HL2.out]; omega)]
      rw [hd] at hr2
      have C2 := Lib.hid (rget_any A' 8 c' _ w1 _ hr2 (by decide))
      have c2 := C2.out
      rw [beNat_be 8 _ (Nat.le_refl _), Nat.mod_eq_of_lt (by have := HN.out; omega)] at c2
      have C3 := Lib.hid c2
      have B1 := Lib.hid hb1
      have w8 : IntKind.u64.wrap (8 * (N : Int)) = ((8 * N : Nat) : Int) := by rw [IntKind.wrap_u64]; have := HN.out; omega
      clear ho1 ho2 hr1 hr2 hd hb1 c2 C2 e8
      go_wp2_with fail
      refine C3.out.mono ?_
      rintro e w2 ⟨rfl, rfl⟩
      go_wp2_with fail
      refine (heads07_any _).mono ?_
      rintro e w2 ⟨rfl, hb2⟩
      have B2 := Lib.hid (B1.out.trans (hb2.mono B1.out.size))
      clear hb2
      go_wp2_with fail
      go_ret
      exact ⟨rfl, B2.out⟩
end Go.Proofs.Ytdhemebaddnmeaa
