/- What 'turned' of layer 2's statements returns: the bytes with bits turned. -/
import Derived.Test.YtchgghcnhhgimaaCrcH
import Derived.Test.YtchgghcnhhgimaaOwn
namespace Go.Proofs.Ytchgghcnhhgimaa
open Go.RowKit

/-- One bit of the row is turned, if it is set and the text is long enough. -/
def turn1 (F bits i : Nat) (l : List UInt8) : List UInt8 := if bits.testBit i ∧ F + i < 8 * l.length then l.set ((F + i) / 8) (l.getD ((F + i) / 8) 0 ^^^ UInt8.ofNat (2 ^ ((F + i) % 8))) else l
/-- The first k of them. -/
def turnB (F bits : Nat) (l : List UInt8) : Nat → List UInt8
  | 0 => l
  | k + 1 => turn1 F bits k (turnB F bits l k)
theorem turn1_length (F bits i : Nat) (l : List UInt8) : (turn1 F bits i l).length = l.length := by unfold turn1; split <;> simp
theorem turnB_length (F bits : Nat) (l : List UInt8) : ∀ k, (turnB F bits l k).length = l.length
  | 0 => rfl
  | k + 1 => by rw [turnB, turn1_length, turnB_length F bits l k]
theorem turn1_bit (F bits i : Nat) (l : List UInt8) (j : Nat) (hj : j < 8 * l.length) :
    ((turn1 F bits i l).getD (j / 8) 0).toNat.testBit (j % 8) = ((l.getD (j / 8) 0).toNat.testBit (j % 8) ^^ (decide (j = F + i) && bits.testBit i)) := by
  unfold turn1
  by_cases h : bits.testBit i = true ∧ F + i < 8 * l.length
  · rw [if_pos h, h.1, Bool.and_true]
    by_cases he : j / 8 = (F + i) / 8
    · have hlt : (F + i) / 8 < l.length := by omega
      rw [he]
      simp only [List.getD, List.getElem?_set_self hlt, List.getElem?_eq_getElem hlt, Option.getD_some, UInt8.toNat_xor, Nat.testBit_xor]
      congr 1
      rw [UInt8.toNat_ofNat', Nat.testBit_mod_two_pow, Nat.testBit_two_pow]
      by_cases e : j = F + i
      · subst e; simp; omega
      · have : ¬ (F + i) % 8 = j % 8 := by omega
        simp [e, this]
    · have e : ¬ j = F + i := by omega
      have hn : (F + i) / 8 ≠ j / 8 := fun h => he h.symm
      simp [List.getD, hn, e]
  · rw [if_neg h]
    have : (decide (j = F + i) && bits.testBit i) = false := by
      rw [Bool.and_eq_false_iff]
      by_cases e : j = F + i
      · right
        have : F + i < 8 * l.length := by omega
        cases hb : bits.testBit i
        · rfl
        · exact absurd ⟨hb, this⟩ h
      · left; simp [e]
    rw [this]; simp
theorem turnB_bit (F bits : Nat) (l : List UInt8) (j : Nat) (hj : j < 8 * l.length) : ∀ k,
    ((turnB F bits l k).getD (j / 8) 0).toNat.testBit (j % 8) = ((l.getD (j / 8) 0).toNat.testBit (j % 8) ^^ (decide (F ≤ j ∧ j < F + k) && bits.testBit (j - F)))
  | 0 => by
    have : ¬ (F ≤ j ∧ j < F + 0) := by omega
    rw [turnB, decide_eq_false this]
    simp
  | k + 1 => by
    rw [turnB, turn1_bit F bits k _ j (by rw [turnB_length]; exact hj), turnB_bit F bits l j hj k]
    by_cases e : j = F + k
    · subst e
      have h1 : ¬ (F ≤ F + k ∧ F + k < F + k) := by omega
      have h2 : F ≤ F + k ∧ F + k < F + (k + 1) := by omega
      rw [decide_eq_false h1, decide_eq_true h2]
      simp
    · by_cases h : F ≤ j ∧ j < F + k
      · have h2 : F ≤ j ∧ j < F + (k + 1) := by omega
        simp [h, h2, e]
      · have h2 : ¬ (F ≤ j ∧ j < F + (k + 1)) := by omega
        simp only [e, h, h2]; simp

/-- Where it differs, a bit of the row stands. -/
theorem turnB_where (F bits n : Nat) (l : List UInt8) (hn : bits < 2 ^ n) (j : Nat) (hj : j < 8 * l.length)
    (h : (l.getD (j / 8) 0).toNat.testBit (j % 8) ≠ ((turnB F bits l 32).getD (j / 8) 0).toNat.testBit (j % 8)) : F ≤ j ∧ j < F + n := by
  rw [turnB_bit F bits l j hj 32] at h
  by_cases hw : F ≤ j ∧ j < F + 32
  · refine ⟨hw.1, ?_⟩
    rcases Nat.lt_or_ge j (F + n) with hlt | hge
    · exact hlt
    · have : bits.testBit (j - F) = false := Nat.testBit_lt_two_pow (Nat.lt_of_lt_of_le hn (Nat.pow_le_pow_right (by decide) (by omega)))
      rw [this] at h
      simp at h
  · simp [hw] at h

/-- THE SUM TELLS: the same sums, the same bytes. -/
theorem s32_tells (F bits : Nat) (l : List UInt8) (hb : bits < 2 ^ 32) (h : s32 l = s32 (turnB F bits l 32)) : l = turnB F bits l 32 := by
  have h' : fB p32 0xffffffff#32 l = fB p32 0xffffffff#32 (turnB F bits l 32) := by
    have := congrArg (~~~ ·) h
    simpa [s32] using this
  exact fB_tells p32 (by decide) rfl _ l _ (turnB_length F bits l 32).symm F (fun j hj hne => turnB_where F bits 32 l hb j hj hne) h'
theorem s16_tells (F bits : Nat) (l : List UInt8) (hb : bits < 2 ^ 16) (h : s16 l = s16 (turnB F bits l 32)) : l = turnB F bits l 32 := by
  have h' : fB p16 0xffff#16 l = fB p16 0xffff#16 (turnB F bits l 32) := by
    have := congrArg (~~~ ·) h
    simpa [s16] using this
  exact fB_tells p16 (by decide) rfl _ l _ (turnB_length F bits l 32).symm F (fun j hj hne => turnB_where F bits 16 l hb j hj hne) h'

theorem xor8 (x : UInt8) (r : Nat) : Value.int .u8 (bits BinOp.xor IntKind.u8 (x.toNat : Int) (2 ^ r % 256)) = .int .u8 ((x ^^^ UInt8.ofNat (2 ^ r)).toNat : Int) := by
  have e : ((2 : Int) ^ r % 256) = ((2 ^ r % 256 : Nat) : Int) := by rw [Int.natCast_emod]; simp
  rw [e, u8_xor_nat _ _ x.toNat_lt (Nat.mod_lt _ (by decide)), UInt8.toNat_xor, UInt8.toNat_ofNat']
theorem and1_u32 (b k : Nat) (hb : b < 4294967296) : (bits BinOp.and IntKind.u32 ((b : Int) / 2 ^ k) 1 == 1) = b.testBit k := by
  have hk : (b : Int) / 2 ^ k = ((b / 2 ^ k : Nat) : Int) := by rw [Int.natCast_ediv]; simp
  have hlt : b / 2 ^ k < 4294967296 := Nat.lt_of_le_of_lt (Nat.div_le_self _ _) hb
  have h := u32_and_nat (b / 2 ^ k) 1 hlt (by decide)
  rw [hk]
  rw [show ((1 : Nat) : Int) = 1 from rfl] at h
  rw [h, Nat.testBit_eq_decide_div_mod_eq, Nat.and_one_is_mod]
  rw [Bool.eq_iff_iff, beq_iff_eq, decide_eq_true_iff]
  omega

set_option maxRecDepth 100000 in
set_option maxHeartbeats 2000000 in
theorem turned_any (A : Option Addr) (n c F b : Nat) (l : List UInt8) (w : World) (hr : Rd w w.heap.size A n l) (hn : n ≤ 140737488351232) (hF : F < 8 * n) (hb : b < 4294967296) :
    Calls Try.prog 15 #[.slice A n c, .int .i64 (F : Int), .int .u32 (b : Int)] w (Gives (turnB F b l 32) w) := by
  have hlen := hr.1
  have ho0 : Ob (w.alloc (.cells #[] 5)) w.heap.size 5 (.slice (some ⟨w.heap.size, 0, none⟩) 0 0) [] := Ob.lit w [] #[] rfl (Nat.le_refl _) 0 rfl (by decide)
  have hb0 : ([] : List UInt8).length + n ≤ 140737488355328 := by simp; omega
  have HR := Lib.hid hr
  have HL := Lib.hid hlen
  have HO0 := Lib.hid ho0
  have HB0 := Lib.hid hb0
  clear hr hlen ho0 hb0
  go_enter Try.func15, Try.ntmps15
  go_wp2_with (at_builtin; refine wpList_appB rfl (.tmp 10) (.tmp 11) 22 rfl w.heap.size 5 rfl info_u8 _ [] rfl HO0.out w.heap.size A n c l rfl (HR.out.alloc (Nat.le_refl _) _) HB0.out (le_alloc _ _) ?_; intro v1 w1 ho1 hb1; have O1 := Lib.hid ho1; have B1 : Hid (Below w.heap.size w w1) := ((Below.refl _ w).alloc (Nat.le_refl _) _).trans hb1; clear ho1 hb1)
  have hlen : ([] ++ l).length = n := by rw [List.nil_append]; exact HL.out
  obtain ⟨g, cap, hv, hbg, hgs, _⟩ := O1.out.form (by omega)
  rw [hlen] at hv
  have O2 : Hid (Ob w1 w.heap.size 5 (.slice (some ⟨g, 0, none⟩) n cap) l) := by
    have h := O1.out
    rw [hv, List.nil_append] at h
    exact h
  rw [hv]
  clear hv hlen O1
  go_loopw [8] (fun i wr => ∃ k : Nat, k ≤ 32 ∧ i = .int .i64 k ∧ Hid (Ob wr w.heap.size 5 (.slice (some ⟨g, 0, none⟩) n cap) (turnB F b l k)) ∧ Hid (Below w.heap.size w wr))
    (fun i _ => 32 - (intOf i).toNat)
  case atStart => exact ⟨0, by omega, rfl, O2.out, B1.out⟩
  case round =>
    obtain ⟨k, hk, rfl, hown, hbel⟩ := hrel
    by_cases hlt : k < 32
    · have hki : (k : Int) < 32 := by omega
      have hml : (turnB F b l k).length = n := by rw [turnB_length]; exact HL.out
      have hbit := and1_u32 b k hb
      by_cases hfit : F + k < 8 * n
      · have hfi : (F : Int) + (k : Int) < 8 * (n : Int) := by omega
        rcases Bool.eq_false_or_eq_true (b.testBit k) with hb1 | hb1
        · have ht : (bits BinOp.and IntKind.u32 ((b : Int) / 2 ^ k) 1 == 1) = true := by rw [hbit, hb1]
          obtain ⟨x, hx⟩ : ∃ x, x = (turnB F b l k).getD ((F + k) / 8) 0 := ⟨_, rfl⟩
          have hc1 : wr.cell? ⟨g, (F + k) / 8, none⟩ = some (.int .u8 (x.toNat : Int)) := by rw [hx]; exact Ob.cell hown.out hml (by omega)
          have hf1 : wr.frozen? ⟨g, (F + k) / 8, none⟩ = false := Ob.frozen hown.out hml _
          have Hx := Lib.hid hx
          have HML := Lib.hid hml
          have HB1 := Lib.hid hb1
          clear hx hml hb1 hbit
          go_wp2_with fail
          go_roundw
          case rel =>
            refine ⟨k + 1, by omega, by go_num, ?_, hbel.out.setCell hbg _⟩
            show Ob _ _ _ _ (turn1 F b k (turnB F b l k))
            unfold turn1
            rw [if_pos ⟨HB1.out, by rw [HML.out]; exact hfit⟩, ← Hx.out]
            exact Ob.stored hown.out HML.out _ _ (xor8 x _)
          case measure => simp [intOf]; omega
        · have ht : (bits BinOp.and IntKind.u32 ((b : Int) / 2 ^ k) 1 == 1) = false := by rw [hbit, hb1]
          have HB1 := Lib.hid hb1
          clear hb1 hbit hml
          go_wp2_with fail
          go_roundw
          case rel => exact ⟨k + 1, by omega, by go_num, by show Ob _ _ _ _ (turn1 F b k (turnB F b l k)); unfold turn1; rw [HB1.out, if_neg (by simp)]; exact hown.out, hbel.out⟩
          case measure => simp [intOf]; omega
      · have hfi : 8 * (n : Int) ≤ (F : Int) + (k : Int) := by omega
        have hno : turn1 F b k (turnB F b l k) = turnB F b l k := by unfold turn1; rw [if_neg (by rw [hml]; omega)]
        have HN := Lib.hid hno
        clear hno hbit hml
        go_wp2_with fail
        all_goals
          go_roundw
          case rel => exact ⟨k + 1, by omega, by go_num, by show Ob _ _ _ _ (turn1 F b k (turnB F b l k)); rw [HN.out]; exact hown.out, hbel.out⟩
          case measure => simp [intOf]; omega
    · obtain rfl : k = 32 := by omega
      go_wp2_with fail
      go_ret
      obtain ⟨_, h2, h3, _⟩ := hown.out.rd_
      exact ⟨_, n, cap, rfl, h2, h3, hbel.out⟩
end Go.Proofs.Ytchgghcnhhgimaa
