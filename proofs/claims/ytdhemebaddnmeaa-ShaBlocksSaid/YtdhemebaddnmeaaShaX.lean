/- The walks of the statements ShaSums and ShaBlocks. -/
import Derived.Test.YtdhemebaddnmeaaShaV
import Derived.Test.YtdhemebaddnmeaaSame
namespace Go.Proofs.Ytdhemebaddnmeaa
open Go.RowKit

set_option maxRecDepth 100000 in
set_option maxHeartbeats 2000000 in
theorem shaSums_walk (A : Option Addr) (n c : Nat) (l : List UInt8) (A' : Option Addr) (n' c' : Nat) (l' : List UInt8) (w : World) (hb : Rd w w.heap.size A n l ∧ n ≤ c ∧ c ≤ 140737488351232) (hb' : Rd w w.heap.size A' n' l' ∧ n' ≤ c' ∧ c' ≤ 140737488351232) :
    Calls Try.prog 4 #[.slice A n c, .slice A' n' c'] w fun e w' => e = .returned (.bool true) ∧ Below w.heap.size w w' := by
  obtain ⟨hr, hnc, hcc⟩ := hb
  obtain ⟨hr', hnc', hcc'⟩ := hb'
  have hlen := hr.1
  have hlen' := hr'.1
  have H7 := Lib.hid heads07_any
  by_cases h0 : 2000 < n
  · have e0 : (2000 : Int) < (n : Int) := by omega
    clear h0 hr hr' hlen hlen'
    go_enter Try.func4, Try.ntmps4
    go_wp2_with fail
    refine (H7.out _).mono ?_
    rintro e w1 ⟨rfl, hb1⟩
    have B1 := Lib.hid hb1
    clear hb1
    go_wp2_with fail
    go_ret
    exact ⟨rfl, B1.out⟩
  by_cases h1 : 2000 < n'
  · have e0 : ¬ (2000 : Int) < (n : Int) := by omega
    have e1 : (2000 : Int) < (n' : Int) := by omega
    clear h0 h1 hr hr' hlen hlen'
    go_enter Try.func4, Try.ntmps4
    go_wp2_with fail
    refine (H7.out _).mono ?_
    rintro e w1 ⟨rfl, hb1⟩
    have B1 := Lib.hid hb1
    clear hb1
    go_wp2_with fail
    go_ret
    exact ⟨rfl, B1.out⟩
  · have e0 : ¬ (2000 : Int) < (n : Int) := by omega
    have e1 : ¬ (2000 : Int) < (n' : Int) := by omega
    have hn : n ≤ 2000 := by omega
    have hn' : n' ≤ 2000 := by omega
    have HR := Lib.hid hr
    have HR' := Lib.hid hr'
    have HLN := Lib.hid hlen
    have HLN' := Lib.hid hlen'
    clear h0 h1 hr hr' hlen hlen'
    go_enter Try.func4, Try.ntmps4
    go_wp2_with fail
    refine (sum2_any A A' n c n' c' l l' w HR.out hnc (by omega) HR'.out hnc' (by omega) (by rw [List.length_append, HLN.out, HLN'.out]; omega)).mono ?_
    rintro e w1 ⟨v1, rfl, ho1, hb1⟩
    obtain ⟨D, d, rfl, hd, hdm, hrd⟩ := Ob.rd_n ho1 (shaL_length _)
    have B1 := Lib.hid (((Below.refl _ w).alloc (Nat.le_refl _) _).trans (hb1.mono (by simp)))
    have RD := Lib.hid hrd
    clear ho1 hb1 hrd
    have ho0 : Ob (w1.alloc (.cells #[] 5)) w1.heap.size 5 (.slice (some ⟨w1.heap.size, 0, none⟩) 0 0) [] := Ob.lit w1 [] #[] rfl (Nat.le_refl _) 0 rfl (by decide)
    have HO0 := Lib.hid ho0
    have HB0 := Lib.hid ((Below.refl w1.heap.size w1).alloc (Nat.le_refl _) (.cells #[] 5))
    have R0 := Lib.hid ((HR.out.below B1.out).more B1.out.size)
    have R0' := Lib.hid ((HR'.out.below B1.out).more B1.out.size)
    have Z1 : Hid (([] : List UInt8).length + n ≤ 140737488355328) := by show _ ≤ _; rw [List.length_nil]; omega
    have Z2 : Hid ((([] : List UInt8) ++ l).length + n' ≤ 140737488355328) := by show _ ≤ _; rw [List.nil_append, HLN.out]; omega
    have Z3 : Hid ((([] : List UInt8) ++ l ++ l').length = n + n') := by show _ = _; rw [List.nil_append, List.length_append, HLN.out, HLN'.out]
    clear ho0
    go_wp2_with (first
      | (at_builtin; refine wpList_appB rfl (.tmp 18) (.tmp 19) 22 rfl w1.heap.size 5 Try.underlying22 info_u8 _ [] rfl HO0.out w1.heap.size A n c l rfl (R0.out.alloc (Nat.le_refl _) _) Z1.out (le_alloc _ _) ?_; intro v2 w2 ho2 hb2; have O2 := Lib.hid ho2; have B2 := Lib.hid (HB0.out.trans hb2); clear ho2 hb2)
      | (at_builtin; refine wpList_appB rfl (.tmp 20) (.tmp 21) 22 rfl w1.heap.size 5 Try.underlying22 info_u8 _ ([] ++ l) rfl O2.out w1.heap.size A' n' c' l' rfl (R0'.out.below B2.out) Z2.out B2.out.size ?_; intro v3 w3 ho3 hb3; obtain ⟨A3, c3, rfl, hc3, hm3, hr3⟩ := Ob.rd_n ho3 Z3.out; have R3 := Lib.hid hr3; have B3 := Lib.hid (B2.out.trans hb3); clear ho3 hb3 hr3)
      | fail)
    refine (rsum_any A3 (n + n') c3 _ w3 R3.out hc3 (by omega)).mono ?_
    rintro e w4 ⟨v4, rfl, ho4, hb4⟩
    obtain ⟨E, f, rfl, -, -, hr4⟩ := Ob.rd_n ho4 (shaL_length _)
    rw [List.nil_append] at hr4
    have R4 := Lib.hid hr4
    have B4 := Lib.hid (B3.out.trans (hb4.mono B3.out.size))
    clear ho4 hb4 hr4
    go_wp2_with fail
    refine (same_true D E 32 d 32 f _ _ (shaL (l ++ l')) w4 (RD.out.below B4.out) R4.out).mono ?_
    rintro e w5 ⟨rfl, rfl⟩
    go_wp2_with fail
    refine (H7.out _).mono ?_
    rintro e w5 ⟨rfl, hb5⟩
    have B5 := Lib.hid ((B1.out.trans (B4.out.mono B1.out.size)).trans (hb5.mono (Nat.le_trans B1.out.size B4.out.size)))
    clear hb5
    go_wp2_with fail
    go_ret
    exact ⟨rfl, B5.out⟩

/-- Of others nothing. -/
theorem rblock_no (A1 A : Option Addr) (m n1 n c : Nat) (w : World) (h : ¬ (m = 8 ∧ n = 64)) :
    Calls Try.prog 17 #[.slice A1 m n1, .slice A n c] w fun e w' => e = .returned (.slice none 0 0) ∧ w = w' := by
  by_cases h8 : m = 8
  · have e1 : ((m : Int) != 8) = false := by simp; omega
    have e2 : ((n : Int) != 64) = true := by simp; omega
    clear h h8
    go_enter Try.func17, Try.ntmps17
    go_wp2
    go_ret
    exact ⟨rfl, rfl⟩
  · have e1 : ((m : Int) != 8) = true := by simp; omega
    clear h h8
    go_enter Try.func17, Try.ntmps17
    go_wp2
    go_ret
    exact ⟨rfl, rfl⟩

/-- Eight words are a state. -/
theorem st_of (l : List (BitVec 32)) (h : l.length = 8) : ∃ s : St, s.list = l := by
  match l, h with
  | [a, b, c, d, e, f, g, x], _ => exact ⟨⟨a, b, c, d, e, f, g, x⟩, rfl⟩

/-- What both Blocks answer: slices of the same words. -/
def BothB (w : World) (f : Nat) (A1 A : Option Addr) (m n1 n c : Nat) (L : List (BitVec 32)) : Prop :=
  Calls Try.prog f #[.slice A1 m n1, .slice A n c] w fun e w' => ∃ (B : Option Addr) (q : Nat), e = .returned (.slice B L.length q) ∧ Rw w' w'.heap.size B L.length L ∧ Below w.heap.size w w'
theorem both_blocks (A1 A : Option Addr) (m n1 n c : Nat) (lw : List (BitVec 32)) (l : List UInt8) (w0 : World) (hw : Rw w0 w0.heap.size A1 m lw) (hl : Rd w0 w0.heap.size A n l) (hnc : n ≤ c) (hc : c ≤ 140737488351232) (hm : m ≤ 35184372087808) :
    ∃ L : List (BitVec 32), L.length ≤ 8 ∧ (∀ w, Below w0.heap.size w0 w → BothB w 9 A1 A m n1 n c L) ∧ (∀ w, Below w0.heap.size w0 w → BothB w 17 A1 A m n1 n c L) := by
  by_cases h : m = 8 ∧ n = 64
  · obtain ⟨rfl, rfl⟩ := h
    obtain ⟨s, rfl⟩ := st_of lw hw.1
    refine ⟨(nxt s l).list, Nat.le_refl 8, fun w hb => ?_, fun w hb => ?_⟩
    · refine (cblock_any s A1 A n1 c _ _ l w (hw.below hb) (hl.below hb) hb.size hb.size hnc (by omega)).mono ?_
      rintro e w' ⟨g, rfl, hg, hg2, hbl⟩
      exact ⟨some ⟨g, 0, none⟩, 8, rfl, ⟨rfl, fun _ => ⟨g, 0, rfl, World.rowIs.lt hg, fun i hi => by rw [Nat.zero_add]; exact World.rowIs.cell hg hi⟩⟩, hbl⟩
    · refine (rblock_any s A1 A n1 c _ _ l w (hw.below hb) (hl.below hb) hb.size hb.size hnc (by omega)).mono ?_
      rintro e w' ⟨v, rfl, ho, hbl⟩
      obtain ⟨B, q, rfl, -, -, hr⟩ := Ow.rd_n ho (n := 8) rfl
      exact ⟨B, q, rfl, hr, hbl⟩
  · refine ⟨[], by decide, fun w _ => ?_, fun w _ => ?_⟩
    · refine (cblock_no A1 A m n1 n c w h (by omega) (by omega)).mono ?_
      rintro e w' ⟨rfl, rfl⟩
      exact ⟨none, 0, rfl, Rw.nil_, Below.refl _ _⟩
    · refine (rblock_no A1 A m n1 n c w h).mono ?_
      rintro e w' ⟨rfl, rfl⟩
      exact ⟨none, 0, rfl, Rw.nil_, Below.refl _ _⟩

/-- What both Pads answer: slices of the same bytes. -/
def BothP (w : World) (f : Nat) (n : Int) (L : List UInt8) : Prop :=
  Calls Try.prog f #[.int .i64 n] w fun e w' => ∃ (B : Option Addr) (q : Nat), e = .returned (.slice B L.length q) ∧ Rd w' w'.heap.size B L.length L ∧ Below w.heap.size w w'
theorem both_pads (n : Int) (hn : n ≤ 1099511627776) : ∃ L : List UInt8, (∀ w, BothP w 11 n L) ∧ (∀ w, BothP w 18 n L) := by
  by_cases h : n < 0
  · refine ⟨[], fun w => ?_, fun w => ?_⟩
    · refine (cpad_neg n h w).mono ?_
      rintro e w' ⟨rfl, rfl⟩
      exact ⟨none, 0, rfl, Rd.nil_, Below.refl _ _⟩
    · refine (rpad_neg n h w).mono ?_
      rintro e w' ⟨rfl, rfl⟩
      exact ⟨none, 0, rfl, Rd.nil_, Below.refl _ _⟩
  · obtain ⟨N, rfl⟩ := Int.eq_ofNat_of_zero_le (by omega : 0 ≤ n)
    refine ⟨padL N, fun w => ?_, fun w => ?_⟩
    · refine (cpad_any N (by omega) w).mono ?_
      rintro e w' ⟨v, rfl, ho, hb⟩
      obtain ⟨B, q, rfl, -, -, hr⟩ := ho.rd
      exact ⟨B, q, rfl, hr, hb⟩
    · refine (rpad_any N (by omega) w).mono ?_
      rintro e w' ⟨v, rfl, ho, hb⟩
      obtain ⟨B, q, rfl, -, -, hr⟩ := ho.rd
      exact ⟨B, q, rfl, hr, hb⟩

set_option maxRecDepth 100000 in
set_option maxHeartbeats 2000000 in
theorem shaBlocks_walk (A1 : Option Addr) (m n1 : Nat) (lw : List (BitVec 32)) (A : Option Addr) (n c : Nat) (l : List UInt8) (z : Int) (w : World) (hb1 : Rw w w.heap.size A1 m lw ∧ m ≤ n1 ∧ n1 ≤ 35184372087808) (hb : Rd w w.heap.size A n l ∧ n ≤ c ∧ c ≤ 140737488351232) (_hz : (Lit.int .i64 z).wf = true) :
    Calls Try.prog 5 #[.slice A1 m n1, .slice A n c, .int .i64 z] w fun e w' => e = .returned (.bool true) ∧ Below w.heap.size w w' := by
  obtain ⟨hr1, hm1, hm2⟩ := hb1
  obtain ⟨hr, hnc, hcc⟩ := hb
  have H7 := Lib.hid heads07_any
  by_cases h0 : 1099511627776 < z
  · clear hr hr1
    go_enter Try.func5, Try.ntmps5
    go_wp2_with fail
    refine (H7.out _).mono ?_
    rintro e w1 ⟨rfl, hb1⟩
    have B1 := Lib.hid hb1
    clear hb1
    go_wp2_with fail
    go_ret
    exact ⟨rfl, B1.out⟩
  · obtain ⟨L, hL8, hC, hR⟩ := both_blocks A1 A m n1 n c lw l w hr1 hr hnc hcc (by omega)
    obtain ⟨P, hCP, hRP⟩ := both_pads z (by omega)
    have CB := Lib.hid hC
    have RB := Lib.hid hR
    have CP := Lib.hid hCP
    have RP := Lib.hid hRP
    obtain ⟨q, hq⟩ : ∃ q, q = L.length := ⟨_, rfl⟩
    obtain ⟨p, hp⟩ : ∃ p, p = P.length := ⟨_, rfl⟩
    have HQ := Lib.hid hq
    have HP := Lib.hid hp
    have hq8 : q ≤ 8 := by omega
    clear hr hr1 hC hR hCP hRP hL8 hq hp
    go_enter Try.func5, Try.ntmps5
    go_wp2_with fail
    refine (CB.out w (Below.refl _ _)).mono ?_
    rintro e w1 ⟨D1, d1, rfl, hd1, hb1⟩
    rw [← HQ.out] at hd1 ⊢
    have R1 := Lib.hid hd1
    have B1 := Lib.hid hb1
    clear hd1 hb1
    go_wp2_with fail
    refine (RB.out w1 B1.out).mono ?_
    rintro e w2 ⟨D2, d2, rfl, hd2, hb2⟩
    rw [← HQ.out] at hd2 ⊢
    have R2 := Lib.hid hd2
    have R12 := Lib.hid (R1.out.below hb2)
    have B2 := Lib.hid (B1.out.trans (hb2.mono B1.out.size))
    clear hd2 hb2
    go_wp2_with fail
    refine (words_true D1 D2 q d1 d2 _ _ L w2 R12.out R2.out (by omega)).mono ?_
    rintro e w3 ⟨rfl, k3, hw3⟩
    have B3 : Hid (Below w.heap.size w w3) := by show Below _ _ _; rw [hw3]; exact B2.out.trans (below_dN _ _ _)
    clear hw3
    go_wp2_with fail
    refine (CP.out w3).mono ?_
    rintro e w4 ⟨D4, d4, rfl, hd4, hb4⟩
    rw [← HP.out] at hd4 ⊢
    have R4 := Lib.hid hd4
    have B4 := Lib.hid (B3.out.trans (hb4.mono B3.out.size))
    clear hd4 hb4
    go_wp2_with fail
    refine (RP.out w4).mono ?_
    rintro e w5 ⟨D5, d5, rfl, hd5, hb5⟩
    rw [← HP.out] at hd5 ⊢
    have R5 := Lib.hid hd5
    have R45 := Lib.hid (R4.out.below hb5)
    have B5 := Lib.hid (B4.out.trans (hb5.mono B4.out.size))
    clear hd5 hb5
    go_wp2_with fail
    refine (same_true D4 D5 p d4 p d5 _ _ P w5 R45.out R5.out).mono ?_
    rintro e w6 ⟨rfl, rfl⟩
    go_wp2_with fail
    refine (H7.out _).mono ?_
    rintro e w6 ⟨rfl, hb6⟩
    have B6 := Lib.hid (B5.out.trans (hb6.mono B5.out.size))
    clear hb6
    go_wp2_with fail
    go_ret
    exact ⟨rfl, B6.out⟩
end Go.Proofs.Ytdhemebaddnmeaa
