/- The walk of the statement NumOrder. -/
import Derived.Test.YthlopggdeccncaaNumH
import Derived.Test.YthlopggdeccncaaNumO
namespace Go.Proofs.Ythlopggdeccncaa
open Go.RowKit
open Go.Lib (decDigits nDigits decDigits_length)

theorem wf_u64 {n : Int} (h : (Lit.int .u64 n).wf = true) : 0 ≤ n ∧ n < 18446744073709551616 := by
  simp [Lit.wf, IntKind.min, IntKind.max, IntKind.signed, IntKind.bits] at h
  omega

theorem dec_str (x : Int) (h0 : 0 ≤ x) (h1 : x < 18446744073709551616) : ∃ s : ByteArray, s.toList = decDigits x.toNat ∧ s.size = nDigits x.toNat ∧
    ∀ w : World, Calls Try.prog 18 #[.int .u64 x] w fun e w' => e = .returned (.string s) ∧ Below w.heap.size w w' :=
  ⟨⟨(decDigits x.toNat).toArray⟩, by rw [Lib.toList_data], by rw [← decDigits_length]; simp [ByteArray.size], fun w => dec_any x w h0 h1⟩

set_option maxRecDepth 100000 in
set_option maxHeartbeats 2000000 in
theorem numOrder_walk (x y : Int) (w : World) (hx : (Lit.int .u64 x).wf = true) (hy : (Lit.int .u64 y).wf = true) :
    Calls Try.prog 7 #[.int .u64 x, .int .u64 y] w fun e w' => e = .returned (.bool true) ∧ Below w.heap.size w w' := by
  obtain ⟨x0, x1⟩ := wf_u64 hx
  obtain ⟨y0, y1⟩ := wf_u64 hy
  obtain ⟨s, hs, hsl, c1⟩ := dec_str x x0 x1
  obtain ⟨t, ht, htl, c2⟩ := dec_str y y0 y1
  have s20 : (s.size : Int) ≤ 20 := by have := nd_20 x.toNat (by omega); omega
  have hst : s.toList = t.toList ↔ x.toNat = y.toNat := by rw [hs, ht]; exact ⟨dec_inj _ _, fun h => by rw [h]⟩
  have hless : nDigits x.toNat = nDigits y.toNat → Op.bytesLess s.toList t.toList = decide (x.toNat < y.toNat) := fun h => by rw [hs, ht]; exact dec_less _ _ h
  have hm1 := nd_mono y.toNat x.toNat
  have hm2 := nd_mono x.toNat y.toNat
  have C1 := Lib.hid c1
  have C2 := Lib.hid c2
  clear c1 c2 hx hy hs ht
  have key : ((s.size < t.size ∧ x < y ∧ (s.toList == t.toList) = false ∧ (x == y) = false) ∨
      (t.size ≤ s.size ∧ ((s.size : Int) == (t.size : Int)) = true ∧ Op.bytesLess s.toList t.toList = true ∧ x < y ∧ (s.toList == t.toList) = false ∧ (x == y) = false)) ∨
      (t.size ≤ s.size ∧ ((s.size : Int) == (t.size : Int)) = true ∧ Op.bytesLess s.toList t.toList = false ∧ decide (x < y) = false ∧ (s.toList == t.toList) = (x == y)) ∨
      (t.size ≤ s.size ∧ ((s.size : Int) == (t.size : Int)) = false ∧ decide (x < y) = false ∧ (s.toList == t.toList) = (x == y)) := by
    have hb : (s.toList == t.toList) = (x == y) := by
      rw [Bool.eq_iff_iff, beq_iff_eq, beq_iff_eq, hst]
      omega
    by_cases hl : s.size < t.size
    · have h : x < y := by have := hm1 (by omega); omega
      exact .inl (.inl ⟨hl, h, by rw [hb]; simp; omega, by simp; omega⟩)
    · by_cases he : s.size = t.size
      · have hbl := hless (by omega)
        have hq : ((s.size : Int) == (t.size : Int)) = true := by rw [beq_iff_eq]; omega
        by_cases h : x < y
        · exact .inl (.inr ⟨by omega, hq, by rw [hbl]; simp; omega, h, by rw [hb]; simp; omega, by simp; omega⟩)
        · exact .inr (.inl ⟨by omega, hq, by rw [hbl]; simp; omega, by simp; omega, hb⟩)
      · have h : y < x := by have := hm2 (by omega); omega
        exact .inr (.inr ⟨by omega, by rw [beq_eq_false_iff_ne]; omega, by simp; omega, hb⟩)
  clear hst hless hm1 hm2 hsl htl
  rcases key with (⟨k1, k2, k3, k6⟩ | ⟨k1, k2, k3, k4, k5, k6⟩) | ⟨k1, k2, k3, k4, k5⟩ | ⟨k1, k2, k3, k4⟩
  all_goals
    go_enter Try.func7, Try.ntmps7
    go_wp2_with fail
    refine (C1.out _).mono ?_
    rintro e w1 ⟨rfl, hb1⟩
    have B1 := Lib.hid hb1
    clear hb1
    go_wp2_with fail
    refine (C2.out _).mono ?_
    rintro e w2 ⟨rfl, hb2⟩
    have B2 := Lib.hid hb2
    clear hb2
    go_wp2_with fail
    refine (heads_any _).mono ?_
    rintro e w3 ⟨rfl, hb3⟩
    have B3 := Lib.hid hb3
    clear hb3
    go_wp2_with fail
    go_ret
    exact ⟨rfl, (B1.out.trans (B2.out.mono B1.out.size)).trans (B3.out.mono (Nat.le_trans B1.out.size B2.out.size))⟩
end Go.Proofs.Ythlopggdeccncaa
