/- The walk of the statement HmacTurned. -/
import Derived.Test.YtllodapnbdbpeaaHmF
namespace Go.Proofs.Ytllodapnbdbpeaa
open Go.RowKit

theorem xor_ne (x y : UInt8) (h : y ≠ 0) : x ^^^ y ≠ x := fun e => h (by
  have h1 : x ^^^ (x ^^^ y) = x ^^^ x := by rw [e]
  rwa [← UInt8.xor_assoc, UInt8.xor_self, UInt8.zero_xor] at h1)
theorem set_ne (l : List UInt8) (i : Nat) (x : UInt8) (hi : i < l.length) (h : x ≠ l.getD i 0) : (l.set i x == l) = false := by
  rw [beq_eq_false_iff_ne]
  intro e
  apply h
  have h1 : (l.set i x)[i]? = l[i]? := by rw [e]
  rw [List.getElem?_set_self hi] at h1
  simp [List.getD, ← h1]
theorem len_ne (l m : List UInt8) (h : l.length ≠ m.length) : (l == m) = false := by
  rw [beq_eq_false_iff_ne]
  intro e
  exact h (by rw [e])

set_option maxRecDepth 100000 in
set_option maxHeartbeats 2000000 in
theorem hmacTurned_walk (A : Option Addr) (n c : Nat) (k : List UInt8) (A' : Option Addr) (n' c' : Nat) (t : List UInt8) (bit : Int) (w : World) (hb : Rd w w.heap.size A n k ∧ n ≤ c ∧ c ≤ 140737488351232) (hb' : Rd w w.heap.size A' n' t ∧ n' ≤ c' ∧ c' ≤ 140737488351232) (hbit : (Lit.int .i64 bit).wf = true) :
    Calls Try.prog 6 #[.slice A n c, .slice A' n' c', .int .i64 bit] w fun e w' => e = .returned (.bool true) ∧ Below w.heap.size w w' := by
  obtain ⟨hr, hnc, hcc⟩ := hb
  obtain ⟨hr', hnc', hcc'⟩ := hb'
  have hbd : -9223372036854775808 ≤ bit ∧ bit < 9223372036854775808 := by
    simp [Lit.wf, IntKind.min, IntKind.max, IntKind.signed, IntKind.bits] at hbit
    omega
  clear hbit
  have H8 := Lib.hid heads08_any
  have c0 := small_any A A' n c n' c' w (by omega) (by omega)
  by_cases hs : n ≤ 2000 ∧ n' ≤ 2000
  · rw [decide_eq_true hs.1, decide_eq_true hs.2, Bool.true_and] at c0
    have hn := hs.1
    have hn' := hs.2
    obtain ⟨T, hT⟩ : ∃ T, T = tagL k t := ⟨_, rfl⟩
    have hTl : T.length = 32 := by rw [hT]; exact tagL_length _ _
    obtain ⟨N, hN⟩ : ∃ N : Nat, (IntKind.u64.wrap bit).tmod 256 = (N : Int) := ⟨(IntKind.u64.wrap bit % 256).toNat, by rw [Int.tmod_eq_emod_of_nonneg (by rw [IntKind.wrap_u64]; omega), IntKind.wrap_u64]; omega⟩
    have hN2 : N < 256 := by rw [Int.tmod_eq_emod_of_nonneg (by rw [IntKind.wrap_u64]; omega), IntKind.wrap_u64] at hN; omega
    have hN3 : (0 : Int) ≤ (N : Int) := by omega
    have hN4 : (N : Int) < 256 := by omega
    have C0 := Lib.hid c0
    have HR := Lib.hid hr
    have HR' := Lib.hid hr'
    have HT := Lib.hid hT
    have HTL := Lib.hid hTl
    clear c0 hr hr' hs hT hTl
    go_enter Try.func6, Try.ntmps6
    go_wp2_with fail
    refine C0.out.mono ?_
    rintro e w0 ⟨rfl, rfl⟩
    go_wp2_with fail
    refine (tag1_any A A' n c n' c' k t w HR.out hnc (by omega) (by omega) HR'.out hnc' (by omega) (by omega)).mono ?_
    rintro e w1 ⟨v1, rfl, ho1, hb1⟩
    rw [← HT.out] at ho1
    obtain ⟨D1, d1, rfl, hd1, -, hr1⟩ := Ob.rd_n ho1 HTL.out
    have R1 := Lib.hid hr1
    have O1 := Lib.hid (ho1.low (le_alloc w _))
    have B1 := Lib.hid (((Below.refl _ w).alloc (Nat.le_refl _) _).trans (hb1.mono (le_alloc _ _)))
    clear ho1 hb1 hr1
    have ho0 : Ob (w1.alloc (.cells #[] 5)) w1.heap.size 5 (.slice (some ⟨w1.heap.size, 0, none⟩) 0 0) [] := Ob.lit w1 [] #[] rfl (Nat.le_refl _) 0 rfl (by decide)
    have HO0 := Lib.hid ho0
    have HB0 := Lib.hid ((Below.refl w1.heap.size w1).alloc (Nat.le_refl _) (.cells #[] 5))
    have LT : Hid ((([] : List UInt8) ++ T).length = 32) := by show _ = _; rw [List.nil_append]; exact HTL.out
    obtain ⟨i, hi⟩ : ∃ i, i = N / 8 := ⟨_, rfl⟩
    obtain ⟨j, hj⟩ : ∃ j, j = N % 8 := ⟨_, rfl⟩
    have f1 : (N : Int) / 8 = (i : Int) := by omega
    have f2 : (N : Int) % 8 = (j : Int) := by omega
    have hi32 : i < 32 := by omega
    have hj8 : j < 8 := by omega
    obtain ⟨xb, hxb⟩ : ∃ x, x = (([] : List UInt8) ++ T).getD i 0 := ⟨_, rfl⟩
    obtain ⟨y, hy⟩ : ∃ y, y = UInt8.ofNat (2 ^ j) := ⟨_, rfl⟩
    have hpow : (2 : Int) ^ j % 256 = (y.toNat : Int) ∧ y ≠ 0 := by
      have hjj : j = 0 ∨ j = 1 ∨ j = 2 ∨ j = 3 ∨ j = 4 ∨ j = 5 ∨ j = 6 ∨ j = 7 := by omega
      rw [hy]
      rcases hjj with rfl | rfl | rfl | rfl | rfl | rfl | rfl | rfl <;> exact ⟨by decide, by decide⟩
    have HXB := Lib.hid hxb
    have HPOW := Lib.hid hpow
    obtain ⟨A31, c31, s31, k31, -, r31⟩ := cut_h (P := Try.prog) 22 5 rfl size_u8 d1 R1.out 31 31 rfl (by decide) hd1
    have R31 := Lib.hid r31
    clear ho0 hi hj hxb hy hpow r31
    go_wp2_with (first
      | (at_builtin; refine wpList_appB rfl (.tmp 22) (.tmp 23) 22 rfl w1.heap.size 5 Try.underlying22 info_u8 _ [] rfl HO0.out _ D1 32 d1 T rfl (R1.out.alloc (Nat.le_refl _) _) (by decide) (le_alloc _ _) ?_; intro v2 w2 ho2 hb2; obtain ⟨g, cap, rfl, hg1, hg2, hcap⟩ := ho2.form (by rw [LT.out]; decide); rw [LT.out] at ho2 hcap ⊢; have O2 := Lib.hid ho2; have B2 := Lib.hid (HB0.out.trans hb2); have cx := ho2.cell LT.out hi32; rw [← HXB.out] at cx; have fx := ho2.frozen LT.out i; clear ho2 hb2)
      | fail)
    clear cx fx
    have O3 : Hid (Ob (w2.setCell ⟨g, i, none⟩ (.int .u8 (bits BinOp.xor IntKind.u8 (xb.toNat : Int) (2 ^ j % 256)))) w1.heap.size 5 (.slice (some ⟨g, 0, none⟩) 32 cap) ((([] : List UInt8) ++ T).set i (xb ^^^ y))) :=
      O2.out.stored LT.out i (xb ^^^ y) (by rw [HPOW.out.1, xor8])
    have B3 : Hid (Below w1.heap.size w1 (w2.setCell ⟨g, i, none⟩ (.int .u8 (bits BinOp.xor IntKind.u8 (xb.toNat : Int) (2 ^ j % 256))))) := B2.out.setCell (p := ⟨g, i, none⟩) hg1 _
    have z3 : (w2.setCell ⟨g, i, none⟩ (.int .u8 (bits BinOp.xor IntKind.u8 (xb.toNat : Int) (2 ^ j % 256)))).heap.size = w2.heap.size := by simp
    have hne : (((([] : List UInt8) ++ T).set i (xb ^^^ y)) == tagL k t) = false := by
      rw [← HT.out, List.nil_append]
      refine set_ne T i _ (by rw [HTL.out]; exact hi32) ?_
      have h := HXB.out
      rw [List.nil_append] at h
      rw [← h]
      exact xor_ne xb y HPOW.out.2
    rw [← z3]
    clear z3
    generalize w2.setCell ⟨g, i, none⟩ (.int .u8 (bits BinOp.xor IntKind.u8 (xb.toNat : Int) (2 ^ j % 256))) = w3 at *
    have bw3 : Below w.heap.size w w3 := B1.out.trans (B3.out.mono B1.out.size)
    have hv := ver1_any A A' (some ⟨g, 0, none⟩) n c n' c' 32 cap k t _ w3 ((HR.out.below bw3).more bw3.size) hnc (by omega) (by omega) (O3.out.rd_.2.1 |> fun h => by rw [← O3.out.rd_.1] at *; exact h) ((HR'.out.below bw3).more bw3.size) hnc' (by omega) (by omega)
    rw [hne] at hv
    refine hv.mono ?_
    rintro e w4 ⟨rfl, hb4⟩
    have B4 := Lib.hid (B3.out.trans (hb4.mono B3.out.size))
    have BW4 := Lib.hid (B1.out.trans (B4.out.mono B1.out.size))
    clear hv hb4 hne bw3
    go_wp2_with fail
    have hne2 : (T.take 31 == tagL k t) = false := by
      refine len_ne _ _ ?_
      rw [tagL_length, List.length_take, HTL.out]; decide
    have hv2 := ver1_any A A' A31 n c n' c' 31 c31 k t _ w4 ((HR.out.below BW4.out).more BW4.out.size) hnc (by omega) (by omega) ((R31.out.below B4.out).more B4.out.size) ((HR'.out.below BW4.out).more BW4.out.size) hnc' (by omega) (by omega)
    rw [hne2] at hv2
    refine hv2.mono ?_
    rintro e w5 ⟨rfl, hb5⟩
    have B5 := Lib.hid (B4.out.trans (hb5.mono B4.out.size))
    have BW5 := Lib.hid (B1.out.trans (B5.out.mono B1.out.size))
    have O5 := Lib.hid (O1.out.below B5.out)
    have LT0 : Hid ((T ++ [0]).length = 33) := by show _ = _; rw [List.length_append, HTL.out]; rfl
    have LB : Hid (T.length + 1 ≤ 140737488355328) := by show _ ≤ _; rw [HTL.out]; decide
    clear hv2 hb5 hne2
    go_wp2_with (first
      | (at_builtin; refine wpList_appBG rfl (.tmp 60) (.tmp 61) 22 rfl w.heap.size 5 Try.underlying22 info_u8 _ T rfl (O5.out.alloc _) _ _ 1 1 [0] rfl (Rd.lit w5 _ rfl [0] _ _ rfl 1 rfl) LB.out (Nat.le_trans BW5.out.size (le_alloc _ _)) ?_; intro v6 w6 ho6 hb6; obtain ⟨D6, d6, rfl, -, -, hr6⟩ := Ob.rd_n ho6 LT0.out; have R6 := Lib.hid hr6; have BW6 := Lib.hid ((BW5.out.alloc BW5.out.size _).trans hb6); clear ho6 hb6 hr6)
      | fail)
    have hne3 : (T ++ [0] == tagL k t) = false := by
      refine len_ne _ _ ?_
      rw [tagL_length, LT0.out]; decide
    have hv3 := ver1_any A A' D6 n c n' c' 33 d6 k t _ w6 ((HR.out.below BW6.out).more BW6.out.size) hnc (by omega) (by omega) R6.out ((HR'.out.below BW6.out).more BW6.out.size) hnc' (by omega) (by omega)
    rw [hne3] at hv3
    refine hv3.mono ?_
    rintro e w7 ⟨rfl, hb7⟩
    have BW7 := Lib.hid (BW6.out.trans (hb7.mono BW6.out.size))
    clear hv3 hb7 hne3
    go_wp2_with fail
    refine (H8.out _).mono ?_
    rintro e w8 ⟨rfl, hb8⟩
    have BW8 := Lib.hid (BW7.out.trans (hb8.mono BW7.out.size))
    clear hb8
    go_wp2_with fail
    go_ret
    exact ⟨rfl, BW8.out⟩
  · have e : (decide (n ≤ 2000) && decide (n' ≤ 2000)) = false := by
      rw [← Bool.decide_and]; exact decide_eq_false hs
    rw [e] at c0
    have C0 := Lib.hid c0
    clear c0 hr hr' hs e
    go_enter Try.func6, Try.ntmps6
    go_wp2_with fail
    refine C0.out.mono ?_
    rintro e w0 ⟨rfl, rfl⟩
    go_wp2_with fail
    refine (H8.out _).mono ?_
    rintro e w7 ⟨rfl, hb7⟩
    have B7 := Lib.hid hb7
    clear hb7
    go_wp2_with fail
    go_ret
    exact ⟨rfl, B7.out⟩
end Go.Proofs.Ytllodapnbdbpeaa
