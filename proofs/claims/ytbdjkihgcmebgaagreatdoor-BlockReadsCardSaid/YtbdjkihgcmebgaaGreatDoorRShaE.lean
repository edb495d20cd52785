/- Sums of bytes by a shift register over n bits, as plain functions: that it is linear, that a burst no longer than n is told, and what bytes with their own sum behind them come to. No program's number stands here. -/
import Derived.Test.YtbdjkihgcmebgaaGreatDoorRAsV
import Derived.Test.YtbdjkihgcmebgaaGreatDoorRBase
import Derived.Test.YtbdjkihgcmebgaaGreatDoorRCborO
import Derived.Test.YtbdjkihgcmebgaaGreatDoorRCborP
import Derived.Test.YtbdjkihgcmebgaaGreatDoorRCborQ
import Derived.Test.YtbdjkihgcmebgaaGreatDoorRNumB
import Derived.Test.YtbdjkihgcmebgaaGreatDoorRNumG
import Derived.Test.YtbdjkihgcmebgaaGreatDoorRNumW
import Derived.Test.YtbdjkihgcmebgaaGreatDoorROwn
import Derived.Test.YtbdjkihgcmebgaaGreatDoorRSame
import Derived.WalkKit
import Derived.LaidEql
import Derived.Stop.Asserts
import Derived.RowKitTokens
import Derived.Deep.AppendLies
import Derived.Deep.RegionHeld3
import Derived.Below
import Derived.Deep.WholeRow
import Derived.Laws.ResultCell
import Derived.Laws.Tables
import Derived.Great.BuildSlice
import Derived.Laws.CopyOwn
import Derived.IntWalk
import Derived.Deep.Draws
import Derived.RegionTactic
import Derived.Deep.RegionLawGrows
namespace Go.Proofs.YtbdjkihgcmebgaaGreatDoor

section
variable {n : Nat}

/-- One step: shifted to the right, and put together with p if a one went out. -/
def stp (p c : BitVec n) : BitVec n := if c.getLsbD 0 then (c >>> 1) ^^^ p else c >>> 1
/-- k steps. -/
def stpN (p : BitVec n) : Nat → BitVec n → BitVec n
  | 0, c => c
  | k + 1, c => stpN p k (stp p c)

theorem stp_xor (p a b : BitVec n) : stp p (a ^^^ b) = stp p a ^^^ stp p b := by
  unfold stp
  rw [BitVec.getLsbD_xor, BitVec.ushiftRight_xor_distrib]
  cases a.getLsbD 0 <;> cases b.getLsbD 0 <;> simp
  · rw [BitVec.xor_assoc]
  · rw [BitVec.xor_assoc, BitVec.xor_assoc, BitVec.xor_comm p]
  · rw [show a >>> 1 ^^^ p ^^^ (b >>> 1 ^^^ p) = a >>> 1 ^^^ b >>> 1 ^^^ (p ^^^ p) by ac_rfl, BitVec.xor_self, BitVec.xor_zero]
theorem stp_zero (p : BitVec n) : stp p 0#n = 0#n := by simp [stp]
theorem stpN_xor (p : BitVec n) : ∀ (k : Nat) (a b : BitVec n), stpN p k (a ^^^ b) = stpN p k a ^^^ stpN p k b
  | 0, _, _ => rfl
  | k + 1, a, b => by rw [stpN, stp_xor, stpN_xor p k]; rfl
theorem stpN_zero (p : BitVec n) : ∀ k, stpN p k 0#n = 0#n
  | 0 => rfl
  | k + 1 => by rw [stpN, stp_zero, stpN_zero p k]

/-- Nothing but nought comes to nought, if p's highest bit is one. -/
theorem stp_eq_zero (p c : BitVec n) (hp : p.msb = true) (h : stp p c = 0#n) : c = 0#n := by
  unfold stp at h
  by_cases hc : c.getLsbD 0
  · rw [if_pos hc] at h
    have e : c >>> 1 = p := by
      have := congrArg (· ^^^ p) h
      simpa [BitVec.xor_assoc] using this
    rw [← e] at hp
    have hn : 0 < n := by
      rcases Nat.eq_zero_or_pos n with h0 | h0
      · subst h0; simp [BitVec.msb_eq_getLsbD_last] at hp
      · exact h0
    simp [BitVec.msb_eq_getLsbD_last, BitVec.getLsbD_ushiftRight] at hp
    have := BitVec.getLsbD_of_ge c (1 + (n - 1)) (by omega)
    rw [this] at hp
    cases hp
  · rw [if_neg hc] at h
    apply BitVec.eq_of_getLsbD_eq
    intro i hi
    rcases i with _ | i
    · simpa using hc
    · have := congrArg (fun v : BitVec n => v.getLsbD i) h
      simp [BitVec.getLsbD_ushiftRight] at this
      rw [Nat.add_comm]
      simpa using this
theorem stpN_eq_zero (p : BitVec n) (hp : p.msb = true) : ∀ (k : Nat) (c : BitVec n), stpN p k c = 0#n → c = 0#n
  | 0, _, h => h
  | k + 1, c, h => stp_eq_zero p c hp (stpN_eq_zero p hp k _ h)

/-! ### Bit by bit -/

/-- A bit as a number. -/
def b1 (n : Nat) (b : Bool) : BitVec n := if b then 1#n else 0#n
/-- A row of bits, the lowest first, goes through. -/
def fb (p : BitVec n) (c : BitVec n) (l : List Bool) : BitVec n := l.foldl (fun c b => stp p (c ^^^ b1 n b)) c
/-- A row of bits as a number, the lowest first. -/
def vl (n : Nat) : List Bool → BitVec n
  | [] => 0#n
  | b :: t => b1 n b ^^^ (vl n t <<< 1)

theorem vl_bit : ∀ (l : List Bool) (i : Nat), i < n → (vl n l).getLsbD i = l.getD i false
  | [], i, _ => by simp [vl, List.getD]
  | b :: t, 0, h => by
    have h1 : (b1 n b).getLsbD 0 = b := by cases b <;> simp [b1, h]
    simp [vl, BitVec.getLsbD_xor, h1, BitVec.getLsbD_shiftLeft, List.getD]
  | b :: t, i + 1, h => by
    have h1 : (b1 n b).getLsbD (i + 1) = false := by cases b <;> simp [b1]
    have h2 := vl_bit t i (by omega)
    rw [vl, BitVec.getLsbD_xor, h1, BitVec.getLsbD_shiftLeft, Nat.add_sub_cancel, h2]
    simp [h, List.getD]

theorem stp_shl (p v : BitVec n) (hn : 0 < n) (hv : v.getLsbD (n - 1) = false) : stp p (v <<< 1) = v := by
  unfold stp
  rw [if_neg (by simp [BitVec.getLsbD_shiftLeft])]
  apply BitVec.eq_of_getLsbD_eq
  intro i hi
  rw [BitVec.getLsbD_ushiftRight, BitVec.getLsbD_shiftLeft]
  by_cases h : 1 + i < n
  · simp [h]
  · have e : i = n - 1 := by omega
    subst e
    rw [hv]
    simp [h]

/-- No more bits than the register has: they might have been put in all at once. -/
theorem fb_vl (p : BitVec n) : ∀ (l : List Bool) (c : BitVec n), l.length ≤ n → fb p c l = stpN p l.length (c ^^^ vl n l)
  | [], c, _ => by simp [fb, vl, stpN]
  | b :: t, c, h => by
    have ht : t.length + 1 ≤ n := by simpa using h
    have e : fb p c (b :: t) = fb p (stp p (c ^^^ b1 n b)) t := rfl
    have hv : (vl n t).getLsbD (n - 1) = false := by
      rw [vl_bit t (n - 1) (by omega)]
      simp only [List.getD]
      rw [List.getElem?_eq_none (by omega)]
      rfl
    rw [e, fb_vl p t _ (by omega), List.length_cons, stpN, vl, ← BitVec.xor_assoc, stp_xor p (c ^^^ b1 n b), stp_shl p (vl n t) (by omega) hv]

theorem vl_zero (l : List Bool) (hl : l.length ≤ n) (h : vl n l = 0#n) : ∀ b ∈ l, b = false := by
  intro b hb
  obtain ⟨i, hi, e⟩ := List.getElem_of_mem hb
  have := vl_bit (n := n) l i (by omega)
  rw [h] at this
  simp [List.getD, hi] at this
  rw [← e]; exact this

theorem fb_append (p c : BitVec n) (l m : List Bool) : fb p c (l ++ m) = fb p (fb p c l) m := by simp [fb, List.foldl_append]
theorem fb_false (p : BitVec n) : ∀ (l : List Bool) (c : BitVec n), (∀ b ∈ l, b = false) → fb p c l = stpN p l.length c
  | [], _, _ => rfl
  | b :: t, c, h => by
    have hb : b = false := h b (by simp)
    subst hb
    have e : fb p c (false :: t) = fb p (stp p (c ^^^ b1 n false)) t := rfl
    rw [e, fb_false p t _ (fun b hb => h b (by simp [hb]))]
    simp [b1, stpN]

theorem fb_xor (p : BitVec n) : ∀ (l m : List Bool) (a b : BitVec n), l.length = m.length → fb p (a ^^^ b) (List.zipWith (· ^^ ·) l m) = fb p a l ^^^ fb p b m
  | [], [], _, _, _ => rfl
  | [], _ :: _, _, _, h => by simp at h
  | _ :: _, [], _, _, h => by simp at h
  | x :: l, y :: m, a, b, h => by
    have hb : b1 n (x ^^ y) = b1 n x ^^^ b1 n y := by cases x <;> cases y <;> simp [b1]
    have e1 : fb p (a ^^^ b) (List.zipWith (· ^^ ·) (x :: l) (y :: m)) = fb p (stp p ((a ^^^ b) ^^^ b1 n (x ^^ y))) (List.zipWith (· ^^ ·) l m) := rfl
    have e2 : fb p a (x :: l) = fb p (stp p (a ^^^ b1 n x)) l := rfl
    have e3 : fb p b (y :: m) = fb p (stp p (b ^^^ b1 n y)) m := rfl
    rw [e1, e2, e3, hb, show a ^^^ b ^^^ (b1 n x ^^^ b1 n y) = (a ^^^ b1 n x) ^^^ (b ^^^ b1 n y) by ac_rfl, stp_xor, fb_xor p l m _ _ (by simpa using h)]

/-- A burst no longer than the register is told: noughts, then no more than n bits, then noughts, come to nought only if all are nought. -/
theorem fb_burst (p : BitVec n) (hp : p.msb = true) (a w z : List Bool) (ha : ∀ b ∈ a, b = false) (hz : ∀ b ∈ z, b = false) (hw : w.length ≤ n) (h : fb p 0#n (a ++ w ++ z) = 0#n) : ∀ b ∈ w, b = false := by
  rw [fb_append, fb_append, fb_false p a _ ha, stpN_zero, fb_false p z _ hz] at h
  have h1 := stpN_eq_zero p hp _ _ h
  rw [fb_vl p w _ hw, BitVec.zero_xor] at h1
  exact vl_zero w hw (stpN_eq_zero p hp _ _ h1)

theorem xor_false_eq {a b : Bool} (h : (a ^^ b) = false) : a = b := by cases a <;> cases b <;> simp_all
/-- Two rows that differ in a window of n bits alone come to the same only if they are the same. -/
theorem fb_tells (p : BitVec n) (hp : p.msb = true) (c : BitVec n) (l m : List Bool) (hl : l.length = m.length) (from_ : Nat) (hw : ∀ i, i < l.length → l.getD i false ≠ m.getD i false → from_ ≤ i ∧ i < from_ + n)
    (h : fb p c l = fb p c m) : l = m := by
  have hx := fb_xor p l m c c hl
  rw [BitVec.xor_self, h, BitVec.xor_self] at hx
  generalize he : List.zipWith (· ^^ ·) l m = e at hx
  have hel : e.length = l.length := by rw [← he]; simp [hl]
  have hei : ∀ i, i < l.length → e.getD i false = (l.getD i false ^^ m.getD i false) := by
    intro i hi
    have hi' : i < m.length := by omega
    rw [← he, List.getD_eq_getElem?_getD, List.getD_eq_getElem?_getD, List.getD_eq_getElem?_getD, List.getElem?_zipWith, List.getElem?_eq_getElem hi, List.getElem?_eq_getElem hi']
    rfl
  have hsplit : e = e.take from_ ++ (e.drop from_).take n ++ (e.drop from_).drop n := by
    rw [List.append_assoc, List.take_append_drop, List.take_append_drop]
  have hout : ∀ i, i < l.length → ¬ (from_ ≤ i ∧ i < from_ + n) → e.getD i false = false := by
    intro i hi hni
    rw [hei i hi]
    have : l.getD i false = m.getD i false := by
      rcases Classical.em (l.getD i false = m.getD i false) with h | h
      · exact h
      · exact absurd (hw i hi h) hni
    rw [this]; simp
  have ha : ∀ b ∈ e.take from_, b = false := by
    intro b hb
    obtain ⟨i, hi, eb⟩ := List.getElem_of_mem hb
    have hi2 : i < from_ ∧ i < e.length := by simp at hi; omega
    have := hout i (by omega) (by omega)
    simp [List.getD, hi2.2] at this
    rw [← eb]; simpa using this
  have hz : ∀ b ∈ (e.drop from_).drop n, b = false := by
    intro b hb
    obtain ⟨i, hi, eb⟩ := List.getElem_of_mem hb
    have hi2 : from_ + n + i < e.length := by simp at hi; omega
    have := hout (from_ + n + i) (by omega) (by omega)
    simp [List.getD, hi2] at this
    rw [← eb]
    simp
    exact this
  rw [hsplit] at hx
  have hww := fb_burst p hp _ _ _ ha hz (by simp; omega) hx
  have hall : ∀ b ∈ e, b = false := by
    intro b hb
    rw [hsplit, List.mem_append, List.mem_append] at hb
    rcases hb with (hb | hb) | hb
    · exact ha b hb
    · exact hww b hb
    · exact hz b hb
  apply List.ext_getElem hl
  intro i h1 h2
  have h3 := hei i h1
  have h4 : e.getD i false = false := by
    have hi : i < e.length := by omega
    simp [List.getD, hi]
    exact hall _ (List.getElem_mem hi)
  rw [h4, List.getD_eq_getElem?_getD, List.getD_eq_getElem?_getD, List.getElem?_eq_getElem h1, List.getElem?_eq_getElem h2, Option.getD_some, Option.getD_some] at h3
  exact xor_false_eq h3.symm

/-! ### Byte by byte -/

/-- A byte's bits, the lowest first. -/
def bits8 (x : UInt8) : List Bool := (List.range 8).map fun i => x.toNat.testBit i
/-- A byte is put to the lowest eight bits, then eight steps. -/
def byt (p c : BitVec n) (x : UInt8) : BitVec n := stpN p 8 (c ^^^ BitVec.ofNat n x.toNat)
/-- All bytes. -/
def fB (p c : BitVec n) (l : List UInt8) : BitVec n := l.foldl (byt p) c
def bitsOf (l : List UInt8) : List Bool := l.flatMap bits8

theorem bits8_length (x : UInt8) : (bits8 x).length = 8 := by simp [bits8]
theorem bits8_at (x : UInt8) (i : Nat) (h : i < 8) : (bits8 x)[i]? = some (x.toNat.testBit i) := by simp [bits8, h]
theorem vl_bits8 (x : UInt8) : vl n (bits8 x) = BitVec.ofNat n x.toNat := by
  apply BitVec.eq_of_getLsbD_eq
  intro i hi
  rw [vl_bit _ _ hi, BitVec.getLsbD_ofNat, List.getD_eq_getElem?_getD]
  by_cases h8 : i < 8
  · rw [bits8_at x i h8]; simp [hi]
  · rw [List.getElem?_eq_none (by rw [bits8_length]; omega)]
    have hlt : x.toNat < 2 ^ i := Nat.lt_of_lt_of_le x.toNat_lt (Nat.pow_le_pow_right (by decide) (by omega))
    simp [Nat.testBit_lt_two_pow hlt]
theorem byt_fb (p c : BitVec n) (x : UInt8) (h : 8 ≤ n) : byt p c x = fb p c (bits8 x) := by
  rw [fb_vl p _ _ (by rw [bits8_length]; exact h), bits8_length, vl_bits8 x]; rfl
theorem fB_fb (p : BitVec n) (h : 8 ≤ n) : ∀ (l : List UInt8) (c : BitVec n), fB p c l = fb p c (bitsOf l)
  | [], _ => rfl
  | x :: l, c => by
    have e : fB p c (x :: l) = fB p (byt p c x) l := rfl
    rw [e, fB_fb p h l, byt_fb p c x h, show bitsOf (x :: l) = bits8 x ++ bitsOf l from rfl, fb_append]
theorem bitsOf_length (l : List UInt8) : (bitsOf l).length = 8 * l.length := by
  induction l with
  | nil => rfl
  | cons x l ih => rw [bitsOf, List.flatMap_cons, List.length_append, bits8_length, ← bitsOf, ih, List.length_cons]; omega
theorem bitsOf_at : ∀ (l : List UInt8) (i : Nat), (bitsOf l).getD i false = (l.getD (i / 8) 0).toNat.testBit (i % 8)
  | [], i => by simp [bitsOf]
  | x :: l, i => by
    rw [bitsOf, List.flatMap_cons, List.getD_eq_getElem?_getD]
    by_cases h : i < 8
    · rw [List.getElem?_append_left (by rw [bits8_length]; exact h), bits8_at x i h, Nat.div_eq_of_lt h, Nat.mod_eq_of_lt h]; rfl
    · rw [List.getElem?_append_right (by rw [bits8_length]; omega), bits8_length]
      have ih := bitsOf_at l (i - 8)
      rw [List.getD_eq_getElem?_getD] at ih
      rw [show l.flatMap bits8 = bitsOf l from rfl, ih, show (i - 8) % 8 = i % 8 by omega, show i / 8 = (i - 8) / 8 + 1 by omega]
      simp [List.getD]
theorem byte_ext {x y : UInt8} (h : ∀ i, i < 8 → x.toNat.testBit i = y.toNat.testBit i) : x = y := by
  apply UInt8.toNat_inj.1
  apply Nat.eq_of_testBit_eq
  intro i
  by_cases h8 : i < 8
  · exact h i h8
  · have hx : x.toNat < 2 ^ i := Nat.lt_of_lt_of_le x.toNat_lt (Nat.pow_le_pow_right (by decide) (by omega))
    have hy : y.toNat < 2 ^ i := Nat.lt_of_lt_of_le y.toNat_lt (Nat.pow_le_pow_right (by decide) (by omega))
    rw [Nat.testBit_lt_two_pow hx, Nat.testBit_lt_two_pow hy]
theorem bitsOf_inj {l m : List UInt8} (hl : l.length = m.length) (h : bitsOf l = bitsOf m) : l = m := by
  apply List.ext_getElem hl
  intro i h1 h2
  apply byte_ext
  intro j hj
  have e1 := bitsOf_at l (8 * i + j)
  have e2 := bitsOf_at m (8 * i + j)
  rw [h, e2] at e1
  rw [show (8 * i + j) / 8 = i by omega, show (8 * i + j) % 8 = j by omega] at e1
  rw [List.getD_eq_getElem?_getD, List.getD_eq_getElem?_getD, List.getElem?_eq_getElem h1, List.getElem?_eq_getElem h2] at e1
  exact e1.symm

/-- BURSTS ARE TOLD: of two rows of bytes, as long, that differ in a window of n bits alone, the sums are the same only if they are the same. -/
theorem fB_tells (p : BitVec n) (hn : 8 ≤ n) (hp : p.msb = true) (c : BitVec n) (l m : List UInt8) (hl : l.length = m.length) (from_ : Nat)
    (hw : ∀ i, i < 8 * l.length → (l.getD (i / 8) 0).toNat.testBit (i % 8) ≠ (m.getD (i / 8) 0).toNat.testBit (i % 8) → from_ ≤ i ∧ i < from_ + n)
    (h : fB p c l = fB p c m) : l = m := by
  rw [fB_fb p hn, fB_fb p hn] at h
  refine bitsOf_inj hl (fb_tells p hp c _ _ (by rw [bitsOf_length, bitsOf_length, hl]) from_ (fun i hi hne => ?_) h)
  rw [bitsOf_length] at hi
  rw [bitsOf_at, bitsOf_at] at hne
  exact hw i hi hne

theorem byt_xor (p a b : BitVec n) (x y : UInt8) : byt p (a ^^^ b) (x ^^^ y) = byt p a x ^^^ byt p b y := by
  unfold byt
  have e : BitVec.ofNat n (x ^^^ y).toNat = BitVec.ofNat n x.toNat ^^^ BitVec.ofNat n y.toNat := by
    apply BitVec.eq_of_getLsbD_eq
    intro i hi
    simp [hi]
  rw [e, show a ^^^ b ^^^ (BitVec.ofNat n x.toNat ^^^ BitVec.ofNat n y.toNat) = (a ^^^ BitVec.ofNat n x.toNat) ^^^ (b ^^^ BitVec.ofNat n y.toNat) by ac_rfl, stpN_xor]
/-- SUMS ARE LINEAR. -/
theorem fB_xor (p : BitVec n) : ∀ (l m : List UInt8) (a b : BitVec n), l.length = m.length → fB p (a ^^^ b) (List.zipWith (· ^^^ ·) l m) = fB p a l ^^^ fB p b m
  | [], [], _, _, _ => rfl
  | [], _ :: _, _, _, h => by simp at h
  | _ :: _, [], _, _, h => by simp at h
  | x :: l, y :: m, a, b, h => by
    have e1 : fB p (a ^^^ b) (List.zipWith (· ^^^ ·) (x :: l) (y :: m)) = fB p (byt p (a ^^^ b) (x ^^^ y)) (List.zipWith (· ^^^ ·) l m) := rfl
    rw [e1, byt_xor, fB_xor p l m _ _ (by simpa using h)]
    rfl
theorem fB_append (p c : BitVec n) (l m : List UInt8) : fB p c (l ++ m) = fB p (fB p c l) m := by simp [fB, List.foldl_append]
theorem fB_snoc (p c : BitVec n) (l : List UInt8) (x : UInt8) : fB p c (l ++ [x]) = byt p (fB p c l) x := by rw [fB_append]; rfl

/-- Bytes whose bits are those of v go in at once. -/
theorem fB_once (p c v : BitVec n) (m : List UInt8) (hn : 8 ≤ n) (hm : 8 * m.length = n) (hv : ∀ i, i < n → v.getLsbD i = (m.getD (i / 8) 0).toNat.testBit (i % 8)) : fB p c m = stpN p n (c ^^^ v) := by
  rw [fB_fb p hn, fb_vl p _ _ (by rw [bitsOf_length]; omega), bitsOf_length, hm]
  congr 2
  apply BitVec.eq_of_getLsbD_eq
  intro i hi
  rw [vl_bit _ _ hi, bitsOf_at, hv i hi]
end

/-! ### The two sums of layer 2 -/
def p16 : BitVec 16 := 0x8408#16
def p32 : BitVec 32 := 0x82f63b78#32
def s16 (l : List UInt8) : BitVec 16 := ~~~ fB p16 0xffff#16 l
def s32 (l : List UInt8) : BitVec 32 := ~~~ fB p32 0xffffffff#32 l

theorem le16 (v : BitVec 16) (i : Nat) (hi : i < 16) : v.getLsbD i = (([UInt8.ofNat v.toNat, UInt8.ofNat (v.toNat / 256)] : List UInt8).getD (i / 8) 0).toNat.testBit (i % 8) := by
  have e : v.getLsbD i = v.toNat.testBit i := rfl
  rw [e]
  by_cases h : i < 8
  · rw [Nat.div_eq_of_lt h, Nat.mod_eq_of_lt h]
    show _ = (UInt8.ofNat v.toNat).toNat.testBit i
    rw [UInt8.toNat_ofNat', Nat.testBit_mod_two_pow]
    simp [h]
  · rw [show i / 8 = 1 by omega]
    show _ = (UInt8.ofNat (v.toNat / 256)).toNat.testBit (i % 8)
    rw [UInt8.toNat_ofNat', Nat.testBit_mod_two_pow, show (256 : Nat) = 2 ^ 8 from rfl, Nat.testBit_div_two_pow, show i % 8 + 8 = i by omega]
    simp
    omega
theorem le32 (v : BitVec 32) (i : Nat) (hi : i < 32) : v.getLsbD i = (([UInt8.ofNat v.toNat, UInt8.ofNat (v.toNat / 256), UInt8.ofNat (v.toNat / 65536), UInt8.ofNat (v.toNat / 16777216)] : List UInt8).getD (i / 8) 0).toNat.testBit (i % 8) := by
  have e : v.getLsbD i = v.toNat.testBit i := rfl
  rw [e]
  have hm : i % 8 < 8 := Nat.mod_lt _ (by decide)
  rcases (by omega : i / 8 = 0 ∨ i / 8 = 1 ∨ i / 8 = 2 ∨ i / 8 = 3) with h | h | h | h <;> rw [h]
  · show _ = (UInt8.ofNat v.toNat).toNat.testBit (i % 8)
    rw [UInt8.toNat_ofNat', Nat.testBit_mod_two_pow, show i % 8 = i by omega]
    simp; omega
  · show _ = (UInt8.ofNat (v.toNat / 256)).toNat.testBit (i % 8)
    rw [UInt8.toNat_ofNat', Nat.testBit_mod_two_pow, show (256 : Nat) = 2 ^ 8 from rfl, Nat.testBit_div_two_pow, show i % 8 + 8 = i by omega]
    simp; omega
  · show _ = (UInt8.ofNat (v.toNat / 65536)).toNat.testBit (i % 8)
    rw [UInt8.toNat_ofNat', Nat.testBit_mod_two_pow, show (65536 : Nat) = 2 ^ 16 from rfl, Nat.testBit_div_two_pow, show i % 8 + 16 = i by omega]
    simp; omega
  · show _ = (UInt8.ofNat (v.toNat / 16777216)).toNat.testBit (i % 8)
    rw [UInt8.toNat_ofNat', Nat.testBit_mod_two_pow, show (16777216 : Nat) = 2 ^ 24 from rfl, Nat.testBit_div_two_pow, show i % 8 + 24 = i by omega]
    simp; omega

theorem xor_not {n : Nat} (v : BitVec n) : v ^^^ ~~~ v = BitVec.allOnes n := by
  apply BitVec.eq_of_getLsbD_eq
  intro i hi
  simp [hi]
/-- Bytes with their own sum behind them, the lowest byte first, have one and the same sum. -/
theorem s16_goes (l : List UInt8) : s16 (l ++ [UInt8.ofNat (s16 l).toNat, UInt8.ofNat ((s16 l).toNat / 256)]) = 0x0f47#16 := by
  generalize hs : s16 l = v
  show ~~~ fB p16 0xffff#16 (l ++ _) = _
  rw [fB_append, fB_once p16 _ v _ (by decide) rfl (le16 v), ← hs]
  unfold s16
  rw [xor_not]
  decide +kernel
theorem s32_goes (l : List UInt8) : s32 (l ++ [UInt8.ofNat (s32 l).toNat, UInt8.ofNat ((s32 l).toNat / 256), UInt8.ofNat ((s32 l).toNat / 65536), UInt8.ofNat ((s32 l).toNat / 16777216)]) = 0x48674bc7#32 := by
  generalize hs : s32 l = v
  show ~~~ fB p32 0xffffffff#32 (l ++ _) = _
  rw [fB_append, fB_once p32 _ v _ (by decide) rfl (le32 v), ← hs]
  unfold s32
  rw [xor_not]
  decide +kernel
end Go.Proofs.YtbdjkihgcmebgaaGreatDoor
/- What the reference of layer 2 returns: Short and Long as 's16' and 's32' of the bytes; Bytes. -/
namespace Go.Proofs.YtbdjkihgcmebgaaGreatDoor
open Go.RowKit

theorem stpN_succ {n : Nat} (p : BitVec n) : ∀ (k : Nat) (c : BitVec n), stpN p (k + 1) c = stp p (stpN p k c)
  | 0, _ => rfl
  | k + 1, c => by rw [stpN, stpN_succ p k, ← stpN]

/-- A step, as numbers: no one goes out. -/
theorem stp_even {n : Nat} (p c : BitVec n) (h : c.toNat % 2 = 0) : (stp p c).toNat = c.toNat / 2 := by
  have e : c.getLsbD 0 = false := by simp [BitVec.getLsbD, Nat.testBit_zero, h]
  unfold stp
  rw [if_neg (by rw [e]; simp), BitVec.toNat_ushiftRight, Nat.shiftRight_eq_div_pow]
theorem stp_odd {n : Nat} (p c : BitVec n) (h : c.toNat % 2 = 1) : (stp p c).toNat = c.toNat / 2 ^^^ p.toNat := by
  have e : c.getLsbD 0 = true := by simp [BitVec.getLsbD, Nat.testBit_zero, h]
  unfold stp
  rw [if_pos e, BitVec.toNat_xor, BitVec.toNat_ushiftRight, Nat.shiftRight_eq_div_pow]
theorem fB_take (l : List UInt8) (n : Nat) (p c : BitVec n) (k : Nat) (h : k < l.length) : fB p c (l.take (k + 1)) = stpN p 8 (fB p c (l.take k) ^^^ BitVec.ofNat n (l.getD k 0).toNat) := by
  rw [take_more l k h, fB_snoc]; rfl

theorem byte16 (d : BitVec 16) (x : UInt8) : Value.int .u16 (bits BinOp.xor .u16 (d.toNat : Int) (x.toNat : Int)) = .int .u16 ((d ^^^ BitVec.ofNat 16 x.toNat).toNat : Int) := by
  have h1 := d.isLt
  have h2 := x.toNat_lt
  rw [u16_xor_nat _ _ h1 (by omega), BitVec.toNat_xor, BitVec.toNat_ofNat, Nat.mod_eq_of_lt (by omega)]
theorem byte32 (d : BitVec 32) (x : UInt8) : Value.int .u32 (bits BinOp.xor .u32 (d.toNat : Int) (x.toNat : Int)) = .int .u32 ((d ^^^ BitVec.ofNat 32 x.toNat).toNat : Int) := by
  have h1 := d.isLt
  have h2 := x.toNat_lt
  rw [u32_xor_nat _ _ h1 (by omega), BitVec.toNat_xor, BitVec.toNat_ofNat, Nat.mod_eq_of_lt (by omega)]
theorem step16 (f : BitVec 16) (h : f.toNat % 2 = 1) : Value.int .u16 (bits BinOp.xor .u16 ((f.toNat : Int) / 2) 33800) = .int .u16 ((stp p16 f).toNat : Int) := by
  have h1 := f.isLt
  have e := u16_xor_nat (f.toNat / 2) 33800 (by omega) (by decide)
  rw [stp_odd _ _ h, show p16.toNat = 33800 from rfl, ← e]
  rfl
theorem step32 (f : BitVec 32) (h : f.toNat % 2 = 1) : Value.int .u32 (bits BinOp.xor .u32 ((f.toNat : Int) / 2) 2197175160) = .int .u32 ((stp p32 f).toNat : Int) := by
  have h1 := f.isLt
  have e := u32_xor_nat (f.toNat / 2) 2197175160 (by omega) (by decide)
  rw [stp_odd _ _ h, show p32.toNat = 2197175160 from rfl, ← e]
  rfl
theorem not16 (d : BitVec 16) : Ending.returned (.int .u16 (65535 - (d.toNat : Int))) = .returned (.int .u16 ((~~~ d).toNat : Int)) := by
  have h := d.isLt
  rw [BitVec.toNat_not]
  exact ret_int (by omega)
theorem not32 (d : BitVec 32) : Ending.returned (.int .u32 (4294967295 - (d.toNat : Int))) = .returned (.int .u32 ((~~~ d).toNat : Int)) := by
  have h := d.isLt
  rw [BitVec.toNat_not]
  exact ret_int (by omega)

set_option maxRecDepth 100000 in
set_option maxHeartbeats 1000000 in
theorem rshort_any (A : Option Addr) (n c B : Nat) (l : List UInt8) (w : World) (h : Rd w B A n l) (hn : n ≤ 140737488355328) :
    Calls Tryz.prog 70 #[.slice A n c] w fun e w' => e = .returned (.int .u16 ((s16 l).toNat : Int)) ∧ w = w' := by
  have HR := Lib.hid h
  clear h
  go_enter Tryz.func70, Tryz.ntmps70
  go_wp2
  go_loop [3, 4] (fun v i => ∃ (k : Nat) (d : BitVec 16), k ≤ n ∧ i = .int .i64 k ∧ v = .int .u16 (d.toNat : Int) ∧ Hid (d = fB p16 0xffff#16 (l.take k))) (fun _ i => n - (intOf i).toNat)
  case atStart => exact ⟨0, 0xffff#16, Nat.zero_le _, rfl, rfl, rfl⟩
  case round =>
    obtain ⟨k, d, hk, rfl, rfl, hd⟩ := hrel
    by_cases hlt : k < n
    · obtain ⟨b, o, rfl, hb, hcell⟩ := HR.out.2 (by omega)
      obtain ⟨x, hx⟩ : ∃ x, x = l.getD k 0 := ⟨_, rfl⟩
      have hcx : w.cell? ⟨b, o + k, none⟩ = some (.int .u8 (x.toNat : Int)) := by rw [hx]; exact hcell k hlt
      have Hx := Lib.hid hx
      clear hx hcell
      have hx1 : (x.toNat : Int) < 256 := by have := x.toNat_lt; omega
      have hx0 : (0 : Int) ≤ (x.toNat : Int) := by omega
      have hd1 : (d.toNat : Int) < 65536 := by have := d.isLt; omega
      go_wp2_with fail
      clear hx0 hx1 hd1
      go_loop [3, 5] (fun v i => ∃ (j : Nat) (f : BitVec 16), j ≤ 8 ∧ i = .int .i64 j ∧ v = .int .u16 (f.toNat : Int) ∧ Hid (f = stpN p16 j (d ^^^ BitVec.ofNat 16 x.toNat))) (fun _ i => 8 - (intOf i).toNat)
      case atStart => exact ⟨0, d ^^^ BitVec.ofNat 16 x.toNat, by omega, rfl, byte16 d x, rfl⟩
      case round =>
        obtain ⟨j, f, hj, rfl, rfl, hf⟩ := hrel
        by_cases hj8 : j < 8
        · obtain ⟨F, hF⟩ : ∃ F, F = f.toNat := ⟨_, rfl⟩
          have hf1 : F < 65536 := by have := f.isLt; omega
          rw [← hF]
          have HF := Lib.hid hF
          clear hF
          rcases Nat.mod_two_eq_zero_or_one F with he | he
          · have ht : ((F : Int) % 2 == 1) = false := by simp; omega
            have HE := Lib.hid he
            clear he
            go_wp2_with fail
            go_round
            case rel => exact ⟨j + 1, stp p16 f, by omega, by go_num, by rw [stp_even _ _ (by rw [← HF.out]; exact HE.out), ← HF.out]; rfl, by show _ = _; rw [stpN_succ, ← hf.out]⟩
            case measure => simp [intOf]; omega
          · have ht : ((F : Int) % 2 == 1) = true := by simp; omega
            have HE := Lib.hid he
            clear he
            go_wp2_with fail
            go_round
            case rel => exact ⟨j + 1, stp p16 f, by omega, by go_num, by rw [HF.out]; exact step16 f (by rw [← HF.out]; exact HE.out), by show _ = _; rw [stpN_succ, ← hf.out]⟩
            case measure => simp [intOf]; omega
        · obtain rfl : j = 8 := by omega
          go_wp2_with fail
          go_round
          case rel =>
            refine ⟨k + 1, f, by omega, by go_num, rfl, ?_⟩
            show f = _
            rw [fB_take l 16 _ _ k (by have := HR.out.1; omega), ← hd.out, ← Hx.out]
            exact hf.out
          case measure => simp [intOf]; omega
    · obtain rfl : k = n := by omega
      have hl := HR.out.1
      have hfin : s16 l = ~~~ d := by rw [hd.out, List.take_of_length_le (by omega)]; rfl
      have HF := Lib.hid hfin
      have hd1 : (d.toNat : Int) < 65536 := by have := d.isLt; omega
      clear hfin hl
      go_wp2_with fail
      go_ret
      exact ⟨by rw [HF.out]; exact not16 d, rfl⟩
set_option maxRecDepth 100000 in
set_option maxHeartbeats 1000000 in
theorem rlong_any (A : Option Addr) (n c B : Nat) (l : List UInt8) (w : World) (h : Rd w B A n l) (hn : n ≤ 140737488355328) :
    Calls Tryz.prog 71 #[.slice A n c] w fun e w' => e = .returned (.int .u32 ((s32 l).toNat : Int)) ∧ w = w' := by
  have HR := Lib.hid h
  clear h
  go_enter Tryz.func71, Tryz.ntmps71
  go_wp2
  go_loop [3, 4] (fun v i => ∃ (k : Nat) (d : BitVec 32), k ≤ n ∧ i = .int .i64 k ∧ v = .int .u32 (d.toNat : Int) ∧ Hid (d = fB p32 0xffffffff#32 (l.take k))) (fun _ i => n - (intOf i).toNat)
  case atStart => exact ⟨0, 0xffffffff#32, Nat.zero_le _, rfl, rfl, rfl⟩
  case round =>
    obtain ⟨k, d, hk, rfl, rfl, hd⟩ := hrel
    by_cases hlt : k < n
    · obtain ⟨b, o, rfl, hb, hcell⟩ := HR.out.2 (by omega)
      obtain ⟨x, hx⟩ : ∃ x, x = l.getD k 0 := ⟨_, rfl⟩
      have hcx : w.cell? ⟨b, o + k, none⟩ = some (.int .u8 (x.toNat : Int)) := by rw [hx]; exact hcell k hlt
      have Hx := Lib.hid hx
      clear hx hcell
      have hx1 : (x.toNat : Int) < 256 := by have := x.toNat_lt; omega
      have hx0 : (0 : Int) ≤ (x.toNat : Int) := by omega
      have hd1 : (d.toNat : Int) < 4294967296 := by have := d.isLt; omega
      go_wp2_with fail
      clear hx0 hx1 hd1
      go_loop [3, 5] (fun v i => ∃ (j : Nat) (f : BitVec 32), j ≤ 8 ∧ i = .int .i64 j ∧ v = .int .u32 (f.toNat : Int) ∧ Hid (f = stpN p32 j (d ^^^ BitVec.ofNat 32 x.toNat))) (fun _ i => 8 - (intOf i).toNat)
      case atStart => exact ⟨0, d ^^^ BitVec.ofNat 32 x.toNat, by omega, rfl, byte32 d x, rfl⟩
      case round =>
        obtain ⟨j, f, hj, rfl, rfl, hf⟩ := hrel
        by_cases hj8 : j < 8
        · obtain ⟨F, hF⟩ : ∃ F, F = f.toNat := ⟨_, rfl⟩
          have hf1 : F < 4294967296 := by have := f.isLt; omega
          rw [← hF]
          have HF := Lib.hid hF
          clear hF
          rcases Nat.mod_two_eq_zero_or_one F with he | he
          · have ht : ((F : Int) % 2 == 1) = false := by simp; omega
            have HE := Lib.hid he
            clear he
            go_wp2_with fail
            go_round
            case rel => exact ⟨j + 1, stp p32 f, by omega, by go_num, by rw [stp_even _ _ (by rw [← HF.out]; exact HE.out), ← HF.out]; rfl, by show _ = _; rw [stpN_succ, ← hf.out]⟩
            case measure => simp [intOf]; omega
          · have ht : ((F : Int) % 2 == 1) = true := by simp; omega
            have HE := Lib.hid he
            clear he
            go_wp2_with fail
            go_round
            case rel => exact ⟨j + 1, stp p32 f, by omega, by go_num, by rw [HF.out]; exact step32 f (by rw [← HF.out]; exact HE.out), by show _ = _; rw [stpN_succ, ← hf.out]⟩
            case measure => simp [intOf]; omega
        · obtain rfl : j = 8 := by omega
          go_wp2_with fail
          go_round
          case rel =>
            refine ⟨k + 1, f, by omega, by go_num, rfl, ?_⟩
            show f = _
            rw [fB_take l 32 _ _ k (by have := HR.out.1; omega), ← hd.out, ← Hx.out]
            exact hf.out
          case measure => simp [intOf]; omega
    · obtain rfl : k = n := by omega
      have hl := HR.out.1
      have hfin : s32 l = ~~~ d := by rw [hd.out, List.take_of_length_le (by omega)]; rfl
      have HF := Lib.hid hfin
      have hd1 : (d.toNat : Int) < 4294967296 := by have := d.isLt; omega
      clear hfin hl
      go_wp2_with fail
      go_ret
      exact ⟨by rw [HF.out]; exact not32 d, rfl⟩

/-- A sum's bytes. -/
def crcBytes (kind : Int) (l : List UInt8) : List UInt8 := if kind = 1 then be (s16 l).toNat 2 else if kind = 2 then be (s32 l).toNat 4 else []

theorem be2 (v : Nat) : be v 2 = [UInt8.ofNat (v / 256), UInt8.ofNat v] := by simp [be, List.range_succ]
theorem be4 (v : Nat) : be v 4 = [UInt8.ofNat (v / 16777216), UInt8.ofNat (v / 65536), UInt8.ofNat (v / 256), UInt8.ofNat v] := by simp [be, List.range_succ]
/-- A byte of a number as the walk has it. -/
theorem low8 (v : Nat) : Value.int .u8 (v % 256 : Int) = .int .u8 ((UInt8.ofNat v).toNat : Int) := by rw [UInt8.toNat_ofNat']; rfl
theorem low8_of (v : Nat) (h : v < 256) : Value.int .u8 (v : Int) = .int .u8 ((UInt8.ofNat v).toNat : Int) := by rw [UInt8.toNat_ofNat', Nat.mod_eq_of_lt h]

theorem gives_nil (w : World) : Gives [] w (.returned (.slice none 0 0)) w := ⟨none, 0, 0, rfl, Rd.nil_, Nat.le_refl _, Below.refl _ _⟩
theorem gives_lit (w : World) (t : TypeId) (l : List UInt8) (cs : Array Value) (n : Nat) (hn : l.length = n) (hcs : cs = (l.map fun x => Value.int .u8 (x.toNat : Int)).toArray) :
    Gives l w (.returned (.slice (some ⟨w.heap.size, 0, none⟩) n n)) (w.alloc (.cells cs t)) :=
  ⟨_, n, n, rfl, (Rd.lit w _ rfl l t cs hcs n hn).more (by simp), Nat.le_refl _, (Below.refl _ _).alloc (Nat.le_refl _) _⟩

theorem cs2 (v : Nat) (h : v < 65536) : #[Value.int .u8 ((v : Int) / 256), .int .u8 ((v : Int) % 256)] = (([UInt8.ofNat (v / 256), UInt8.ofNat v] : List UInt8).map fun x => Value.int .u8 (x.toNat : Int)).toArray := by
  rw [low8 v, show (v : Int) / 256 = ((v / 256 : Nat) : Int) from rfl, low8_of (v / 256) (by omega)]
  rfl
theorem cs4 (v : Nat) (h : v < 4294967296) : #[Value.int .u8 ((v : Int) / 16777216), .int .u8 ((v : Int) / 65536 % 256), .int .u8 ((v : Int) / 256 % 256), .int .u8 ((v : Int) % 256)] =
    (([UInt8.ofNat (v / 16777216), UInt8.ofNat (v / 65536), UInt8.ofNat (v / 256), UInt8.ofNat v] : List UInt8).map fun x => Value.int .u8 (x.toNat : Int)).toArray := by
  rw [low8 v, show (v : Int) / 256 = ((v / 256 : Nat) : Int) from rfl, show (v : Int) / 65536 = ((v / 65536 : Nat) : Int) from rfl, show (v : Int) / 16777216 = ((v / 16777216 : Nat) : Int) from rfl,
    low8 (v / 256), low8 (v / 65536), low8_of (v / 16777216) (by omega)]
  rfl

set_option maxRecDepth 100000 in
set_option maxHeartbeats 1000000 in
theorem crbytes_any (kind : Int) (A : Option Addr) (n c B : Nat) (l : List UInt8) (w : World) (h : Rd w B A n l) (hn : n ≤ 140737488355328) :
    Calls Tryz.prog 48 #[.int .i64 kind, .slice A n c] w (Gives (crcBytes kind l) w) := by
  have c1 := rshort_any A n c B l w h hn
  have c2 := rlong_any A n c B l w h hn
  have v1 := (s16 l).isLt
  have v2 := (s32 l).isLt
  clear h
  by_cases h1 : kind = 1
  · subst h1
    rw [show crcBytes 1 l = be (s16 l).toNat 2 from rfl, be2]
    generalize (s16 l).toNat = v at *
    have C1 := Lib.hid c1
    clear c1 c2
    go_enter Tryz.func48, Tryz.ntmps48
    go_wp2_with fail
    refine C1.out.mono ?_
    rintro e w' ⟨rfl, rfl⟩
    go_wp2_with fail
    go_ret
    exact gives_lit w _ _ _ 2 rfl (cs2 v v1)
  · by_cases h2 : kind = 2
    · subst h2
      rw [show crcBytes 2 l = be (s32 l).toNat 4 from rfl, be4]
      generalize (s32 l).toNat = v at *
      have C2 := Lib.hid c2
      clear c1 c2
      go_enter Tryz.func48, Tryz.ntmps48
      go_wp2_with fail
      refine C2.out.mono ?_
      rintro e w' ⟨rfl, rfl⟩
      go_wp2_with fail
      go_ret
      exact gives_lit w _ _ _ 4 rfl (cs4 v v2)
    · rw [show crcBytes kind l = [] by unfold crcBytes; rw [if_neg h1, if_neg h2]]
      have e1 : (kind == 1) = false := by simpa using h1
      have e2 : (kind == 2) = false := by simpa using h2
      clear h1 h2 c1 c2
      go_enter Tryz.func48, Tryz.ntmps48
      go_wp2_with fail
      go_ret
      exact gives_nil w
end Go.Proofs.YtbdjkihgcmebgaaGreatDoor
/- The plain mathematics of layer 5: blocks, the bytes that they are, how bytes are read as one. No program's number stands here but the sums' (CrcR). -/
namespace Go.Proofs.YtbdjkihgcmebgaaGreatDoor

/-- A block: type, number, flags, kind of sum, data. -/
structure Blk where
  typ : Nat
  num : Nat
  flg : Nat
  crc : Int
  dat : List UInt8
def Blk.zero : Blk := ⟨0, 0, 0, 0, []⟩
/-- May it be? -/
def blkOk (b : Blk) : Bool := decide (1 ≤ b.typ ∧ b.typ ≤ 255) && (decide (b.num ≠ 0) && ((decide (b.typ ≠ 1) || decide (b.num = 1)) && (decide (0 ≤ b.crc ∧ b.crc ≤ 2) && decide (b.dat.length ≤ 4096))))
theorem blkOk_iff {b : Blk} : blkOk b = true ↔ (1 ≤ b.typ ∧ b.typ ≤ 255) ∧ b.num ≠ 0 ∧ (b.typ ≠ 1 ∨ b.num = 1) ∧ (0 ≤ b.crc ∧ b.crc ≤ 2) ∧ b.dat.length ≤ 4096 := by
  unfold blkOk; simp [Bool.and_eq_true, Bool.or_eq_true]
/-- Its numbers are below 2^64. -/
def Bd (b : Blk) : Prop := b.typ < 18446744073709551616 ∧ b.num < 18446744073709551616 ∧ b.flg < 18446744073709551616
/-- How many bytes a sum has. -/
def sumN (k : Int) : Nat := if k = 1 then 2 else if k = 2 then 4 else 0
theorem sumN_le (k : Int) : sumN k ≤ 4 := by unfold sumN; repeat' (split <;> try omega)
theorem crcBytes_len (k : Int) (l : List UInt8) : (crcBytes k l).length = sumN k := by
  unfold crcBytes sumN
  split
  · rw [be_length]
  · split
    · rw [be_length]
    · rfl
def partsB (b : Blk) : List Itm := [.mk 0 b.typ [] [], .mk 0 b.num [] [], .mk 0 b.flg [] [], .mk 0 b.crc.toNat [] [], .mk 2 0 b.dat []]
/-- Its item, with a sum's bytes. -/
def itmB (b : Blk) (s : List UInt8) : Itm := .mk 4 0 [] (partsB b ++ if b.crc = 0 then [] else [.mk 2 0 s []])
/-- All its bytes but the sum's. -/
def bodyB (b : Blk) : List UInt8 := hd 4 (if b.crc = 0 then 5 else 6) ++ (wrs (partsB b) ++ if b.crc = 0 then [] else hd 2 (sumN b.crc))
def nulls (b : Blk) : List UInt8 := List.replicate (sumN b.crc) 0
theorem nulls_len (b : Blk) : (nulls b).length = sumN b.crc := by simp [nulls]
def sumB (b : Blk) : List UInt8 := crcBytes b.crc (bodyB b ++ nulls b)
/-- Its bytes. -/
def blkW (b : Blk) : List UInt8 := bodyB b ++ sumB b
theorem sumB_len (b : Blk) : (sumB b).length = sumN b.crc := crcBytes_len _ _
theorem wrs_ap : ∀ a b : List Itm, wrs (a ++ b) = wrs a ++ wrs b
  | [], b => rfl
  | x :: r, b => by rw [List.cons_append, wrs, wrs, wrs_ap r b, List.append_assoc]
theorem wri_u (n : Nat) : wri (.mk 0 n [] []) = hd 0 n := by rw [wri, if_pos rfl]
theorem wri_b (d : List UInt8) : wri (.mk 2 0 d []) = hd 2 d.length ++ d := by rw [wri, if_neg (by decide), if_pos (by decide)]; rfl
theorem wri_itm (b : Blk) (s : List UInt8) (hs : s.length = sumN b.crc) (_hc : 0 ≤ b.crc ∧ b.crc ≤ 2) : wri (itmB b s) = bodyB b ++ s := by
  unfold itmB
  rw [wri, if_neg (by decide), if_neg (by decide), if_pos rfl]
  unfold bodyB
  by_cases h0 : b.crc = 0
  · have : s = [] := List.eq_nil_of_length_eq_zero (by rw [hs, h0]; rfl)
    subst this
    simp only [if_pos h0, List.append_nil]
    rw [show (partsB b).length = 5 from rfl]
  · simp only [if_neg h0]
    rw [wrs_ap, show (partsB b ++ [Itm.mk 2 0 s []]).length = 6 from rfl, wrs, wri_b, wrs, hs]
    simp [List.append_assoc]
theorem partsB_right (b : Blk) : rights (partsB b) = true := by unfold partsB; simp [rights, right, own]
theorem itm_fits (b : Blk) (s : List UInt8) : Fits (itmB b s) := by
  unfold itmB partsB
  by_cases h0 : b.crc = 0
  · simp only [if_pos h0]
    exact ⟨by simp [right, rights, own], by simp [dep, deps], by simp [par, pars]⟩
  · simp only [if_neg h0]
    exact ⟨by simp [right, rights, own], by simp [dep, deps], by simp [par, pars]⟩
theorem itm_siz (b : Blk) (s : List UInt8) (hb : Bd b) (hc : b.crc ≤ 2) (hd : b.dat.length < 18446744073709551616) (hs : s.length < 18446744073709551616) : Siz (itmB b s) := by
  unfold itmB partsB
  have h3 : b.crc.toNat < 18446744073709551616 := by omega
  obtain ⟨h1, h2, h4⟩ := hb
  by_cases h0 : b.crc = 0
  · simp only [if_pos h0]
    refine ⟨by decide, by simp, by simp, ⟨h1, by simp, by simp, trivial⟩, ⟨h2, by simp, by simp, trivial⟩, ⟨h4, by simp, by simp, trivial⟩, ⟨h3, by simp, by simp, trivial⟩, ⟨by decide, hd, by simp, trivial⟩, trivial⟩
  · simp only [if_neg h0]
    refine ⟨by decide, by simp, by simp, ⟨h1, by simp, by simp, trivial⟩, ⟨h2, by simp, by simp, trivial⟩, ⟨h4, by simp, by simp, trivial⟩, ⟨h3, by simp, by simp, trivial⟩, ⟨by decide, hd, by simp, trivial⟩, ⟨by decide, hs, by simp, trivial⟩, trivial⟩
theorem body_len (b : Blk) : (bodyB b).length ≤ b.dat.length + 70 := by
  unfold bodyB partsB
  simp only [wrs, wri_u, wri_b, List.length_append, hd_len, List.append_nil]
  have h1 := hsz_le (if b.crc = 0 then 5 else 6)
  have h2 := hsz_le b.typ
  have h3 := hsz_le b.num
  have h4 := hsz_le b.flg
  have h5 := hsz_le b.crc.toNat
  have h6 := hsz_le b.dat.length
  have h7 := hsz_le (sumN b.crc)
  generalize (if b.crc = 0 then 5 else 6 : Nat) = q at *
  by_cases h0 : b.crc = 0
  · rw [if_pos h0, List.length_nil]; omega
  · rw [if_neg h0, hd_len]; omega
theorem body_pos (b : Blk) : 1 ≤ (bodyB b).length := by unfold bodyB; simp only [List.length_append, hd_len]; omega

/-- The one block whose item this could be. -/
def takenB : Itm → Blk
  | .mk _ _ _ (y0 :: y1 :: y2 :: y3 :: y4 :: _) => ⟨y0.num, y1.num, y2.num, RowKit.wrap64 (y3.num : Int), y4.data⟩
  | _ => .zero
/-- How bytes and a block's bytes, s of them a sum's, differ: the fault's number. -/
def cmpB (u w : List UInt8) (s : Nat) : Int := if u.length ≠ w.length ∨ u.take (w.length - s) ≠ w.take (w.length - s) then 50 else if u.drop (w.length - s) ≠ w.drop (w.length - s) then 51 else 0
/-- What Decode answers. -/
def decB (l : List UInt8) : Blk × Int × Int :=
  if (decode l).2.2 ≠ 0 then (.zero, 0, (decode l).2.2)
  else if blkOk (takenB (decode l).1) = false then (.zero, 0, 50)
  else if cmpB (l.take (decode l).2.1.toNat) (blkW (takenB (decode l).1)) (sumN (takenB (decode l).1).crc) ≠ 0 then (.zero, 0, cmpB (l.take (decode l).2.1.toNat) (blkW (takenB (decode l).1)) (sumN (takenB (decode l).1).crc))
  else (takenB (decode l).1, (decode l).2.1, 0)

theorem wrap_small (c : Int) (h0 : 0 ≤ c) (h2 : c ≤ 2) : RowKit.wrap64 ((c.toNat : Nat) : Int) = c := by
  unfold RowKit.wrap64
  omega
theorem taken_itm (b : Blk) (s : List UInt8) (hc : 0 ≤ b.crc ∧ b.crc ≤ 2) : takenB (itmB b s) = b := by
  have h := wrap_small b.crc hc.1 hc.2
  obtain ⟨t, n, f, c, d⟩ := b
  unfold itmB partsB
  simp only [List.cons_append, takenB, Itm.num, Itm.data]
  rw [h]

/-- What is read where a block's bytes but the sum's stand, with a sum of that length. -/
theorem decB_sum (b : Blk) (s m : List UInt8) (hok : blkOk b = true) (hb : Bd b) (hs : s.length = sumN b.crc) :
    decB (bodyB b ++ s ++ m) = if s = sumB b then (b, ((blkW b).length : Int), 0) else (.zero, 0, 51) := by
  obtain ⟨h1, h2, h3, h4, h5⟩ := blkOk_iff.1 hok
  have hw := wri_itm b s hs h4
  have hs4 := sumN_le b.crc
  have hd := decode_wr (itm_fits b s) (itm_siz b s hb h4.2 (by omega) (by omega)) m
  rw [hw] at hd
  have hlen : ((bodyB b ++ s).length) = (blkW b).length := by unfold blkW; rw [List.length_append, List.length_append, hs, sumB_len]
  unfold decB
  rw [hd]
  simp only [taken_itm b s h4]
  rw [if_neg (by simp), if_neg (by rw [hok]; decide), Int.toNat_natCast, List.take_left]
  have hk : (blkW b).length - sumN b.crc = (bodyB b).length := by unfold blkW; rw [List.length_append, sumB_len]; omega
  have hcmp : cmpB (bodyB b ++ s) (blkW b) (sumN b.crc) = if s = sumB b then 0 else 51 := by
    unfold cmpB
    rw [hk]
    unfold blkW
    rw [List.take_left, List.take_left, List.drop_left, List.drop_left, if_neg (by simp [hs, sumB_len])]
    by_cases he : s = sumB b
    · rw [if_neg (by simp [he]), if_pos he]
    · rw [if_pos he, if_neg he]
  rw [hcmp, hlen]
  by_cases he : s = sumB b
  · rw [if_pos he, if_neg (by simp), if_pos he]
  · rw [if_neg he, if_pos (by simp), if_neg he]
theorem decB_blk (b : Blk) (m : List UInt8) (hok : blkOk b = true) (hb : Bd b) : decB (blkW b ++ m) = (b, ((blkW b).length : Int), 0) := by
  have := decB_sum b (sumB b) m hok hb (sumB_len b)
  rw [if_pos rfl] at this
  exact this

theorem be_inj {x y n : Nat} (hn : n ≤ 8) (hx : x < 256 ^ n) (hy : y < 256 ^ n) (h : be x n = be y n) : x = y := by
  have := congrArg beNat h
  rwa [beNat_be _ _ hn, beNat_be _ _ hn, Nat.mod_eq_of_lt hx, Nat.mod_eq_of_lt hy] at this
/-- A sum tells a byte that is another one. -/
theorem crc_tells (k : Int) (hk : k = 1 ∨ k = 2) (l : List UInt8) (i : Nat) (v : UInt8) (h : crcBytes k l = crcBytes k (l.set i v)) : l = l.set i v := by
  have hw : ∀ j, j < 8 * l.length → (l.getD (j / 8) 0).toNat.testBit (j % 8) ≠ ((l.set i v).getD (j / 8) 0).toNat.testBit (j % 8) → 8 * i ≤ j ∧ j < 8 * i + 8 := by
    intro j hj hne
    by_cases he : j / 8 = i
    · omega
    · exfalso
      apply hne
      have : (l.set i v).getD (j / 8) 0 = l.getD (j / 8) 0 := by simp [List.getD, Ne.symm he]
      rw [this]
  rcases hk with rfl | rfl
  · have h' : s16 l = s16 (l.set i v) := BitVec.eq_of_toNat_eq (be_inj (n := 2) (by decide) (by have := (s16 l).isLt; simpa using this) (by have := (s16 (l.set i v)).isLt; simpa using this) h)
    have h2 : fB p16 0xffff#16 l = fB p16 0xffff#16 (l.set i v) := by
      have := congrArg (~~~ ·) h'
      simpa [s16] using this
    exact fB_tells p16 (by decide) rfl _ l _ (by simp) (8 * i) (fun j hj hne => ⟨(hw j hj hne).1, by have := (hw j hj hne).2; omega⟩) h2
  · have h' : s32 l = s32 (l.set i v) := BitVec.eq_of_toNat_eq (be_inj (n := 4) (by decide) (by have := (s32 l).isLt; simpa using this) (by have := (s32 (l.set i v)).isLt; simpa using this) h)
    have h2 : fB p32 0xffffffff#32 l = fB p32 0xffffffff#32 (l.set i v) := by
      have := congrArg (~~~ ·) h'
      simpa [s32] using this
    exact fB_tells p32 (by decide) rfl _ l _ (by simp) (8 * i) (fun j hj hne => ⟨(hw j hj hne).1, by have := (hw j hj hne).2; omega⟩) h2
end Go.Proofs.YtbdjkihgcmebgaaGreatDoor
/- errors.As at a target whose element is a struct of one number, an error by value: nil gives false; the very type is a hit. After the guide's worked text on errors.As. -/
namespace Go.Proofs.YtbdjkihgcmebgaaGreatDoor
open Go.RowKit Go.Extern.Stop Go.Stop Go.Extern

theorem bas_valueOfP (t : Addr) (w : World) : (ReflectliteValue.unpack (.iface 70 (.pointer (some t)))).run Tryz.prog w
    = .ok (.agg #[.pointer (some ⟨1, 70, none⟩), .pointer (some ⟨w.heap.size, 0, none⟩), .int .u64 150]) (w.alloc (.cells #[.pointer (some t)] 70)) := by kernel_rfl
theorem bas_typeP (a : Addr) (w : World) : (ReflectliteValue.methodAny (ReflectliteValue.valueError "reflectlite.Value.Type" 0) (fun t _ _ _ => ReflectliteType.toType t) #[.agg #[.pointer (some ⟨1, 70, none⟩), .pointer (some a), .int .u64 150]]).run Tryz.prog w
    = .ok (.iface 121 (.agg #[.pointer (some ⟨1, 70, none⟩)])) w := by kernel_rfl
theorem bas_methodKind (n : Nat) (h : Value) (w : World) : (Go.method (n + 8) 121 (.agg #[h]) "Kind").run Tryz.prog w = .ok (106, h) w := by kernel_rfl
theorem bas_kindP (w : World) : ((ReflectliteType.abiMethod fun t => (fun a : Nat => Value.int IntKind.u8 (a : Int)) <$> Rtype.kind t) #[.pointer (some ⟨1, 70, none⟩)]).run Tryz.prog w = .ok (.int .u8 22) w := by kernel_rfl
theorem bas_kindT (w : World) : ((ReflectliteType.abiMethod fun t => (fun a : Nat => Value.int IntKind.u8 (a : Int)) <$> Rtype.kind t) #[.pointer (some ⟨1, 63, none⟩)]).run Tryz.prog w = .ok (.int .u8 25) w := by kernel_rfl
theorem bas_partsP (a : Addr) (w : World) : (ReflectliteValue.parts (.agg #[.pointer (some ⟨1, 70, none⟩), .pointer (some a), .int .u64 150])).run Tryz.prog w = .ok (some (70, a, 150)) w := by kernel_rfl
theorem bas_isNilP (a p : Addr) (W : World) (ha : W.cell? a = some (.pointer (some p))) :
    (ReflectliteValue.method (ReflectliteValue.valueError "reflectlite.Value.IsNil" 0) ReflectliteValue.isNil #[.agg #[.pointer (some ⟨1, 70, none⟩), .pointer (some a), .int .u64 150]]).run Tryz.prog W = .ok (.bool false) W := by
  rw [rlm]
  simp only [Sem.run_bind, bas_partsP, Result.andThen]
  simp [ReflectliteValue.isNil, loadVar, isAgg, underlying, Tryz.underlying70, ha, Result.andThen]
theorem bas_methodElem (n : Nat) (h : Value) (w : World) : (Go.method (n + 8) 121 (.agg #[h]) "Elem").run Tryz.prog w = .ok (117, .agg #[h]) w := by kernel_rfl
theorem bas_methodImplements (n : Nat) (h : Value) (w : World) : (Go.method (n + 8) 121 (.agg #[h]) "Implements").run Tryz.prog w = .ok (118, .agg #[h]) w := by kernel_rfl
theorem bas_methodAssignableTo (n : Nat) (h : Value) (w : World) : (Go.method (n + 8) 121 (.agg #[h]) "AssignableTo").run Tryz.prog w = .ok (115, .agg #[h]) w := by kernel_rfl
theorem bas_elemP (w : World) : (ReflectliteType.method ReflectliteType.elem #[.agg #[.pointer (some ⟨1, 70, none⟩)]]).run Tryz.prog w = .ok (.iface 121 (.agg #[.pointer (some ⟨1, 63, none⟩)])) w := by kernel_rfl
theorem bas_implementsT (w : World) : (ReflectliteType.relation "Implements" ReflectliteType.implements_ #[.agg #[.pointer (some ⟨1, 63, none⟩)], .iface 121 (.agg #[.pointer (some ⟨1, 35, none⟩)])]).run Tryz.prog w = .ok (.bool true) w := by kernel_rfl
theorem bas_typeOfT (v : Value) (w : World) : (ReflectliteType.typeOf #[.iface 63 v]).run Tryz.prog w = .ok (.iface 121 (.agg #[.pointer (some ⟨1, 63, none⟩)])) w := by kernel_rfl
theorem bas_assignableT (w : World) : (ReflectliteType.relation "AssignableTo" ReflectliteType.assignableTo #[.agg #[.pointer (some ⟨1, 63, none⟩)], .iface 121 (.agg #[.pointer (some ⟨1, 63, none⟩)])]).run Tryz.prog w = .ok (.bool true) w := by kernel_rfl
theorem bas_valueOfT (z : Int) (s : ByteArray) (w : World) : (ReflectliteValue.unpack (.iface 63 (.agg #[.int .i64 z, .string s]))).run Tryz.prog w
    = .ok (.agg #[.pointer (some ⟨1, 63, none⟩), .pointer (some ⟨w.heap.size, 0, none⟩), .int .u64 153]) (w.alloc (.cells #[.int .i64 z, .string s] 63)) := by kernel_rfl
theorem bas_elemOfP (w : World) : (Rtype.elem? 70).run Tryz.prog w = .ok (some 63) w := by kernel_rfl
theorem bas_mkT (p : Addr) (w : World) : (ReflectliteValue.mk 63 p ReflectliteValue.flagAddr).run Tryz.prog w = .ok (.agg #[.pointer (some ⟨1, 63, none⟩), .pointer (some p), .int .u64 409]) w := by kernel_rfl
theorem bas_elemVP (a p : Addr) (W : World) (ha : W.cell? a = some (.pointer (some p))) :
    (ReflectliteValue.method (ReflectliteValue.valueError "reflectlite.Value.Elem" 0) ReflectliteValue.elem #[.agg #[.pointer (some ⟨1, 70, none⟩), .pointer (some a), .int .u64 150]]).run Tryz.prog W
      = .ok (.agg #[.pointer (some ⟨1, 63, none⟩), .pointer (some p), .int .u64 409]) W := by
  rw [rlm]
  simp only [Sem.run_bind, bas_partsP, Result.andThen]
  simp [ReflectliteValue.elem, loadVar, isAgg, underlying, Tryz.underlying70, ha, Result.andThen, bas_elemOfP, bas_mkT]
theorem bas_partsTa (a : Addr) (w : World) : (ReflectliteValue.parts (.agg #[.pointer (some ⟨1, 63, none⟩), .pointer (some a), .int .u64 409])).run Tryz.prog w = .ok (some (63, a, 409)) w := by kernel_rfl
theorem bas_partsT (a : Addr) (w : World) : (ReflectliteValue.parts (.agg #[.pointer (some ⟨1, 63, none⟩), .pointer (some a), .int .u64 153])).run Tryz.prog w = .ok (some (63, a, 153)) w := by kernel_rfl
theorem bas_directT (w : World) : (Rtype.directlyAssignable 63 63).run Tryz.prog w = .ok true w := by kernel_rfl
theorem bas_sizeT (w : World) : (sizeOf 63).run Tryz.prog w = .ok 2 w := by kernel_rfl
/-- (Value).Set: the fault at 'ta' gets what the Value's own variable 'b' holds. -/
theorem bas_setT (ta b : Addr) (z : Int) (s : ByteArray) (old old1 : Value) (W : World) (hsb : b.spot = none) (hst : ta.spot = none) (hb : W.cell? b = some (.int .i64 z)) (hb1 : W.cell? (b.add 1) = some (.string s))
    (ht : W.cell? ta = some old) (hf : W.frozen? ta = false) (ht1 : W.cell? (ta.add 1) = some old1) (hf1 : W.frozen? (ta.add 1) = false) :
    (ReflectliteValue.set #[.agg #[.pointer (some ⟨1, 63, none⟩), .pointer (some ta), .int .u64 409], .agg #[.pointer (some ⟨1, 63, none⟩), .pointer (some b), .int .u64 153]]).run Tryz.prog W
      = .ok (.tuple #[]) ((W.setCell ta (.int .i64 z)).setCell (ta.add 1) (.string s)) := by
  obtain ⟨bb, bo, bs⟩ := b
  obtain ⟨tb, toff, ts⟩ := ta
  simp only at hsb hst
  subst hsb hst
  rw [rls]
  simp only [Sem.run_bind, bas_partsTa, bas_partsT, Result.andThen]
  simp [ReflectliteValue.flagAddr, loadVar, isAgg, underlying, Tryz.underlying63, Result.andThen, bas_directT, storeVar, Value.cells, storeCells, Addr.add]
  have hl := run_loadCells_list (P := Tryz.prog) W ⟨bb, bo, none⟩ [.int .i64 z, .string s] (fun j v hj => by
    match j with
    | 0 => cases hj; simpa [Addr.add] using hb
    | 1 => cases hj; exact hb1
    | j + 2 => simp at hj)
  simp only [List.length_cons, List.length_nil, Nat.zero_add] at hl
  simp only [Addr.add] at ht1 hf1
  have g1 : (W.setCell ⟨tb, toff, none⟩ (.int .i64 z)).cell? ⟨tb, toff + 1, none⟩ = some old1 := by
    rw [World.cell?_setCell_other _ _ _ _ (by simp)]
    simpa using ht1
  have g2 : (W.setCell ⟨tb, toff, none⟩ (.int .i64 z)).frozen? ⟨tb, toff + 1, none⟩ = false := by
    rw [World.frozen?_setCell]
    simpa using hf1
  rw [hl]
  simp [storeCells, Addr.add]
  rw [run_store Tryz.prog W ⟨tb, toff, none⟩ _ _ (by rfl)]
  simp [ht, hf]
  rw [run_store Tryz.prog _ ⟨tb, toff + 1, none⟩ _ _ (by rfl)]
  simp [g1, g2]
end Go.Proofs.YtbdjkihgcmebgaaGreatDoor
/- errors.As at a target whose element is a struct of one number, an error of that very type by value: a hit: '*target' is set. -/
namespace Go.Proofs.YtbdjkihgcmebgaaGreatDoor
open Go.RowKit Go.Extern.Stop Go.Stop Go.Extern

set_option maxRecDepth 100000 in
set_option maxHeartbeats 4000000 in
theorem bas_as_hit (z : Int) (s : ByteArray) (tb : Nat) (a : Addr) (old old1 : Value) (w : World) (_hsa : a.spot = none) (ha : w.cell? a = some (.pointer (some ⟨tb, 0, none⟩))) (ht0 : w.cell? ⟨tb, 0, none⟩ = some old) (hf0 : w.frozen? ⟨tb, 0, none⟩ = false) (ht1 : w.cell? ⟨tb, 1, none⟩ = some old1) (hf1 : w.frozen? ⟨tb, 1, none⟩ = false) :
    Calls Tryz.prog 42 #[.iface 63 (.agg #[.int .i64 z, .string s]), .iface 70 (.pointer (some ⟨tb, 0, none⟩)), .agg #[.pointer (some ⟨1, 70, none⟩), .pointer (some a), .int .u64 150], .iface 121 (.agg #[.pointer (some ⟨1, 63, none⟩)])] w
      fun ev w' => ev = .returned (.bool true) ∧ Below tb w w' ∧ w'.cell? ⟨tb, 0, none⟩ = some (.int .i64 z) := by
  have h47 := @run_callFunc_extern Tryz.prog 39 _ (fun args => ReflectliteValue.unpack (args.getD 0 (.tuple #[]))) Tryz.func39 (by kernel_rfl) (by kernel_rfl) (by kernel_rfl) (by kernel_rfl)
  have h52 := @run_callFunc_extern Tryz.prog 60 _ ReflectliteType.typeOf Tryz.func60 (by kernel_rfl) (by kernel_rfl) (by kernel_rfl) (by kernel_rfl)
  have h77 := @run_callFunc_extern Tryz.prog 115 _ (ReflectliteType.relation "AssignableTo" ReflectliteType.assignableTo) Tryz.func115 (by kernel_rfl) (by kernel_rfl) (by kernel_rfl) (by kernel_rfl)
  have h53 := @run_callFunc_extern Tryz.prog 61 _ (ReflectliteValue.method (ReflectliteValue.valueError "reflectlite.Value.Elem" 0) ReflectliteValue.elem) Tryz.func61 (by kernel_rfl) (by kernel_rfl) (by kernel_rfl) (by kernel_rfl)
  have h54 := @run_callFunc_extern Tryz.prog 62 _ ReflectliteValue.set Tryz.func62 (by kernel_rfl) (by kernel_rfl) (by kernel_rfl) (by kernel_rfl)
  have tO := bas_typeOfT
  have mA := bas_methodAssignableTo
  have aT := bas_assignableT
  have vT := bas_valueOfT
  have hal : a.block < w.heap.size := World.block_lt_of_cell? w _ ha
  have htl : tb < w.heap.size := World.block_lt_of_cell? w _ ht0
  have el := bas_elemVP a ⟨tb, 0, none⟩ (w.alloc (.cells #[.pointer (some ⟨1, 70, none⟩), .pointer (some a), .int .u64 150] 91)) ((World.cell?_alloc_lt _ _ a hal).trans ha)
  have st := bas_setT ⟨tb, 0, none⟩ ⟨w.heap.size + 1, 0, none⟩ z s old old1 ((w.alloc (.cells #[.pointer (some ⟨1, 70, none⟩), .pointer (some a), .int .u64 150] 91)).alloc (.cells #[.int .i64 z, .string s] 63)) rfl rfl
    (by rw [World.cell?_alloc_at _ _ _ _ (by simp)]; rfl)
    (by show World.cell? _ ⟨w.heap.size + 1, 1, none⟩ = _; rw [World.cell?_alloc_at _ _ _ _ (by simp)]; rfl)
    (by rw [World.cell?_alloc_lt _ _ ⟨tb, 0, none⟩ (by simp; omega), World.cell?_alloc_lt _ _ ⟨tb, 0, none⟩ htl]; exact ht0)
    (by rw [World.frozen?_alloc_old _ _ ⟨tb, 0, none⟩ (by simp; omega), World.frozen?_alloc_old _ _ ⟨tb, 0, none⟩ (Nat.ne_of_lt htl)]; exact hf0)
    (by show World.cell? _ ⟨tb, 1, none⟩ = _; rw [World.cell?_alloc_lt _ _ ⟨tb, 1, none⟩ (by simp; omega), World.cell?_alloc_lt _ _ ⟨tb, 1, none⟩ htl]; exact ht1)
    (by show World.frozen? _ ⟨tb, 1, none⟩ = _; rw [World.frozen?_alloc_old _ _ ⟨tb, 1, none⟩ (by simp; omega), World.frozen?_alloc_old _ _ ⟨tb, 1, none⟩ (Nat.ne_of_lt htl)]; exact hf1)
  simp only [show (⟨tb, 0, none⟩ : Addr).add 1 = ⟨tb, 1, none⟩ from rfl] at st
  go_enter Tryz.func42, Tryz.ntmps42
  go_wp2
  refine wp_loop_rounds 1 ?_
  rw [rounds_succ]
  go_wp2
  go_ret
  refine ⟨rfl, ((((Below.refl tb w).setCell (p := ⟨tb, 0, none⟩) (Nat.le_refl _) _).setCell (p := ⟨tb, 1, none⟩) (Nat.le_refl _) _).alloc (by simp [World.setCell]; omega) _).alloc (by simp [World.setCell]; omega) _, ?_⟩
  rw [World.cell?_alloc_lt _ _ ⟨tb, 0, none⟩ (by simp [World.setCell]; omega), World.cell?_alloc_lt _ _ ⟨tb, 0, none⟩ (by simp [World.setCell]; omega), World.cell?_setCell_other _ _ _ _ (by simp)]
  exact World.cell?_setCell_same _ _ _ ht0

set_option maxRecDepth 100000 in
set_option maxHeartbeats 4000000 in
theorem bas_hit (z : Int) (s : ByteArray) (tb : Nat) (old old1 : Value) (w : World) (hg : LaidE w) (ht0 : w.cell? ⟨tb, 0, none⟩ = some old) (hf0 : w.frozen? ⟨tb, 0, none⟩ = false) (ht1 : w.cell? ⟨tb, 1, none⟩ = some old1) (hf1 : w.frozen? ⟨tb, 1, none⟩ = false) :
    Calls Tryz.prog 28 #[.iface 63 (.agg #[.int .i64 z, .string s]), .iface 70 (.pointer (some ⟨tb, 0, none⟩))] w
      fun ev w' => ev = .returned (.bool true) ∧ Below tb w w' ∧ w'.cell? ⟨tb, 0, none⟩ = some (.int .i64 z) := by
  have h47 := @run_callFunc_extern Tryz.prog 39 _ (fun args => ReflectliteValue.unpack (args.getD 0 (.tuple #[]))) Tryz.func39 (by kernel_rfl) (by kernel_rfl) (by kernel_rfl) (by kernel_rfl)
  have h48 := @run_callFunc_extern Tryz.prog 40 _ (ReflectliteValue.methodAny (ReflectliteValue.valueError "reflectlite.Value.Type" 0) (fun t _ _ _ => ReflectliteType.toType t)) Tryz.func40 (by kernel_rfl) (by kernel_rfl) (by kernel_rfl) (by kernel_rfl)
  have h49 := @run_callFunc_extern Tryz.prog 41 _ (ReflectliteValue.method (ReflectliteValue.valueError "reflectlite.Value.IsNil" 0) ReflectliteValue.isNil) Tryz.func41 (by kernel_rfl) (by kernel_rfl) (by kernel_rfl) (by kernel_rfl)
  have h69 := @run_callFunc_extern Tryz.prog 106 _ (ReflectliteType.abiMethod fun t => do pure (.int .u8 (← Rtype.kind t))) Tryz.func106 (by kernel_rfl) (by kernel_rfl) (by kernel_rfl) (by kernel_rfl)
  have h79 := @run_callFunc_extern Tryz.prog 117 _ (ReflectliteType.method ReflectliteType.elem) Tryz.func117 (by kernel_rfl) (by kernel_rfl) (by kernel_rfl) (by kernel_rfl)
  have h80 := @run_callFunc_extern Tryz.prog 118 _ (ReflectliteType.relation "Implements" ReflectliteType.implements_) Tryz.func118 (by kernel_rfl) (by kernel_rfl) (by kernel_rfl) (by kernel_rfl)
  have f6 := bas_valueOfP
  have f7 := bas_typeP
  have mK := bas_methodKind
  have mE := bas_methodElem
  have mI := bas_methodImplements
  have kP := bas_kindP
  have kT := bas_kindT
  have eP := bas_elemP
  have iT := bas_implementsT
  have htl : tb < w.heap.size := World.block_lt_of_cell? w _ ht0
  have hlt := hg.lt
  have n8 := bas_isNilP ⟨w.heap.size, 0, none⟩ ⟨tb, 0, none⟩ ((w.alloc (.cells #[.pointer (some ⟨tb, 0, none⟩)] 70)).alloc (.cells #[.pointer (some ⟨1, 70, none⟩), .pointer (some ⟨w.heap.size, 0, none⟩), .int .u64 150] 91)) (by simp)
  have hg2 : ((w.alloc (.cells #[.pointer (some ⟨tb, 0, none⟩)] 70)).alloc (.cells #[.pointer (some ⟨1, 70, none⟩), .pointer (some ⟨w.heap.size, 0, none⟩), .int .u64 150] 91)).cell? ⟨0, 0, none⟩ = some (.iface 121 (.agg #[.pointer (some ⟨1, 35, none⟩)])) := by
    rw [World.cell?_alloc_lt _ _ ⟨0, 0, none⟩ (Nat.lt_of_lt_of_le hlt (by simp)), World.cell?_alloc_lt _ _ ⟨0, 0, none⟩ hlt]; exact hg
  have C := Lib.hid (bas_as_hit z s tb ⟨w.heap.size, 0, none⟩ old old1 ((w.alloc (.cells #[.pointer (some ⟨tb, 0, none⟩)] 70)).alloc (.cells #[.pointer (some ⟨1, 70, none⟩), .pointer (some ⟨w.heap.size, 0, none⟩), .int .u64 150] 91)) rfl (by simp)
    (by rw [World.cell?_alloc_lt _ _ ⟨tb, 0, none⟩ (by simp; omega), World.cell?_alloc_lt _ _ ⟨tb, 0, none⟩ htl]; exact ht0)
    (by rw [World.frozen?_alloc_old _ _ ⟨tb, 0, none⟩ (by simp; omega), World.frozen?_alloc_old _ _ ⟨tb, 0, none⟩ (Nat.ne_of_lt htl)]; exact hf0)
    (by rw [World.cell?_alloc_lt _ _ ⟨tb, 1, none⟩ (by simp; omega), World.cell?_alloc_lt _ _ ⟨tb, 1, none⟩ htl]; exact ht1)
    (by rw [World.frozen?_alloc_old _ _ ⟨tb, 1, none⟩ (by simp; omega), World.frozen?_alloc_old _ _ ⟨tb, 1, none⟩ (Nat.ne_of_lt htl)]; exact hf1))
  have HT := Lib.hid htl
  clear hg hlt htl ht0 hf0 ht1 hf1
  go_enter Tryz.func28, Tryz.ntmps28
  go_wp2_with fail
  refine C.out.mono ?_
  rintro e w1 ⟨rfl, hb1, hc1⟩
  have HB := Lib.hid hb1
  have HC := Lib.hid hc1
  clear hb1 hc1
  go_wp2_with fail
  go_ret
  exact ⟨rfl, (((Below.refl tb w).alloc (Nat.le_of_lt HT.out) _).alloc (Nat.le_trans (Nat.le_of_lt HT.out) (by simp)) _).trans HB.out, HC.out⟩
end Go.Proofs.YtbdjkihgcmebgaaGreatDoor
/- What Short, Long and Bytes of layer 2 return. -/
namespace Go.Proofs.YtbdjkihgcmebgaaGreatDoor
open Go.RowKit

theorem and16 (F : Nat) (h : F < 65536) : bits BinOp.and .u16 (F : Int) 1 = ((F % 2 : Nat) : Int) := by
  have e := u16_and_nat F 1 h (by decide)
  rw [Nat.and_one_is_mod] at e
  exact e
theorem and32 (F : Nat) (h : F < 4294967296) : bits BinOp.and .u32 (F : Int) 1 = ((F % 2 : Nat) : Int) := by
  have e := u32_and_nat F 1 h (by decide)
  rw [Nat.and_one_is_mod] at e
  exact e
theorem flip16 (d : BitVec 16) : Ending.returned (.int .u16 (bits BinOp.xor .u16 IntKind.u16.max (d.toNat : Int))) = .returned (.int .u16 ((~~~ d).toNat : Int)) := by
  have e := u16_xor_nat 65535 d.toNat (by decide) d.isLt
  rw [show IntKind.u16.max = ((65535 : Nat) : Int) from rfl, e, show (65535 : Nat) = (BitVec.allOnes 16).toNat from rfl, ← BitVec.toNat_xor, BitVec.allOnes_xor]
theorem flip32 (d : BitVec 32) : Ending.returned (.int .u32 (bits BinOp.xor .u32 IntKind.u32.max (d.toNat : Int))) = .returned (.int .u32 ((~~~ d).toNat : Int)) := by
  have e := u32_xor_nat 4294967295 d.toNat (by decide) d.isLt
  rw [show IntKind.u32.max = ((4294967295 : Nat) : Int) from rfl, e, show (4294967295 : Nat) = (BitVec.allOnes 32).toNat from rfl, ← BitVec.toNat_xor, BitVec.allOnes_xor]

set_option maxRecDepth 100000 in
set_option maxHeartbeats 1000000 in
theorem sum16_any (A : Option Addr) (n c B : Nat) (l : List UInt8) (w : World) (h : Rd w B A n l) (hn : n ≤ 140737488355328) :
    Calls Tryz.prog 85 #[.slice A n c, .int .u16 33800] w fun e w' => e = .returned (.int .u16 ((s16 l).toNat : Int)) ∧ w = w' := by
  have HR := Lib.hid h
  clear h
  go_enter Tryz.func85, Tryz.ntmps85
  go_wp2
  go_loop [5, 13] (fun v i => ∃ (k : Nat) (d : BitVec 16), k ≤ n ∧ i = .int .i64 k ∧ v = .int .u16 (d.toNat : Int) ∧ Hid (d = fB p16 0xffff#16 (l.take k))) (fun _ i => n - (intOf i).toNat)
  case atStart => exact ⟨0, 0xffff#16, Nat.zero_le _, rfl, rfl, rfl⟩
  case round =>
    obtain ⟨k, d, hk, rfl, rfl, hd⟩ := hrel
    by_cases hlt : k < n
    · obtain ⟨b, o, rfl, hb, hcell⟩ := HR.out.2 (by omega)
      obtain ⟨x, hx⟩ : ∃ x, x = l.getD k 0 := ⟨_, rfl⟩
      have hcx : w.cell? ⟨b, o + k, none⟩ = some (.int .u8 (x.toNat : Int)) := by rw [hx]; exact hcell k hlt
      have Hx := Lib.hid hx
      clear hx hcell
      have hx1 : (x.toNat : Int) < 256 := by have := x.toNat_lt; omega
      have hx0 : (0 : Int) ≤ (x.toNat : Int) := by omega
      have hd1 : (d.toNat : Int) < 65536 := by have := d.isLt; omega
      go_wp2_with fail
      clear hx0 hx1 hd1
      go_loop [5, 21] (fun v i => ∃ (j : Nat) (f : BitVec 16), j ≤ 8 ∧ i = .int .i64 j ∧ v = .int .u16 (f.toNat : Int) ∧ Hid (f = stpN p16 j (d ^^^ BitVec.ofNat 16 x.toNat))) (fun _ i => 8 - (intOf i).toNat)
      case atStart => exact ⟨0, d ^^^ BitVec.ofNat 16 x.toNat, by omega, rfl, byte16 d x, rfl⟩
      case round =>
        obtain ⟨j, f, hj, rfl, rfl, hf⟩ := hrel
        by_cases hj8 : j < 8
        · obtain ⟨F, hF⟩ : ∃ F, F = f.toNat := ⟨_, rfl⟩
          have hf1 : F < 65536 := by have := f.isLt; omega
          rw [← hF]
          have HF := Lib.hid hF
          clear hF
          rcases Nat.mod_two_eq_zero_or_one F with he | he
          · have ht : (bits BinOp.and .u16 (F : Int) 1 == 1) = false := by rw [and16 F hf1, he]; rfl
            have HE := Lib.hid he
            clear he
            go_wp2_with fail
            go_round
            case rel => exact ⟨j + 1, stp p16 f, by omega, by go_num, by rw [stp_even _ _ (by rw [← HF.out]; exact HE.out), ← HF.out]; rfl, by show _ = _; rw [stpN_succ, ← hf.out]⟩
            case measure => simp [intOf]; omega
          · have ht : (bits BinOp.and .u16 (F : Int) 1 == 1) = true := by rw [and16 F hf1, he]; rfl
            have HE := Lib.hid he
            clear he
            go_wp2_with fail
            go_round
            case rel => exact ⟨j + 1, stp p16 f, by omega, by go_num, by rw [HF.out]; exact step16 f (by rw [← HF.out]; exact HE.out), by show _ = _; rw [stpN_succ, ← hf.out]⟩
            case measure => simp [intOf]; omega
        · obtain rfl : j = 8 := by omega
          go_wp2_with fail
          go_round
          case rel =>
            refine ⟨k + 1, f, by omega, by go_num, rfl, ?_⟩
            show f = _
            rw [fB_take l 16 _ _ k (by have := HR.out.1; omega), ← hd.out, ← Hx.out]
            exact hf.out
          case measure => simp [intOf]; omega
    · obtain rfl : k = n := by omega
      have hl := HR.out.1
      have hfin : s16 l = ~~~ d := by rw [hd.out, List.take_of_length_le (by omega)]; rfl
      have HF := Lib.hid hfin
      have hd1 : (d.toNat : Int) < 65536 := by have := d.isLt; omega
      clear hfin hl
      go_wp2_with fail
      go_ret
      exact ⟨by rw [HF.out]; exact flip16 d, rfl⟩
set_option maxRecDepth 100000 in
set_option maxHeartbeats 1000000 in
theorem sum32_any (A : Option Addr) (n c B : Nat) (l : List UInt8) (w : World) (h : Rd w B A n l) (hn : n ≤ 140737488355328) :
    Calls Tryz.prog 86 #[.slice A n c, .int .u32 2197175160] w fun e w' => e = .returned (.int .u32 ((s32 l).toNat : Int)) ∧ w = w' := by
  have HR := Lib.hid h
  clear h
  go_enter Tryz.func86, Tryz.ntmps86
  go_wp2
  go_loop [5, 13] (fun v i => ∃ (k : Nat) (d : BitVec 32), k ≤ n ∧ i = .int .i64 k ∧ v = .int .u32 (d.toNat : Int) ∧ Hid (d = fB p32 0xffffffff#32 (l.take k))) (fun _ i => n - (intOf i).toNat)
  case atStart => exact ⟨0, 0xffffffff#32, Nat.zero_le _, rfl, rfl, rfl⟩
  case round =>
    obtain ⟨k, d, hk, rfl, rfl, hd⟩ := hrel
    by_cases hlt : k < n
    · obtain ⟨b, o, rfl, hb, hcell⟩ := HR.out.2 (by omega)
      obtain ⟨x, hx⟩ : ∃ x, x = l.getD k 0 := ⟨_, rfl⟩
      have hcx : w.cell? ⟨b, o + k, none⟩ = some (.int .u8 (x.toNat : Int)) := by rw [hx]; exact hcell k hlt
      have Hx := Lib.hid hx
      clear hx hcell
      have hx1 : (x.toNat : Int) < 256 := by have := x.toNat_lt; omega
      have hx0 : (0 : Int) ≤ (x.toNat : Int) := by omega
      have hd1 : (d.toNat : Int) < 4294967296 := by have := d.isLt; omega
      go_wp2_with fail
      clear hx0 hx1 hd1
      go_loop [5, 21] (fun v i => ∃ (j : Nat) (f : BitVec 32), j ≤ 8 ∧ i = .int .i64 j ∧ v = .int .u32 (f.toNat : Int) ∧ Hid (f = stpN p32 j (d ^^^ BitVec.ofNat 32 x.toNat))) (fun _ i => 8 - (intOf i).toNat)
      case atStart => exact ⟨0, d ^^^ BitVec.ofNat 32 x.toNat, by omega, rfl, byte32 d x, rfl⟩
      case round =>
        obtain ⟨j, f, hj, rfl, rfl, hf⟩ := hrel
        by_cases hj8 : j < 8
        · obtain ⟨F, hF⟩ : ∃ F, F = f.toNat := ⟨_, rfl⟩
          have hf1 : F < 4294967296 := by have := f.isLt; omega
          rw [← hF]
          have HF := Lib.hid hF
          clear hF
          rcases Nat.mod_two_eq_zero_or_one F with he | he
          · have ht : (bits BinOp.and .u32 (F : Int) 1 == 1) = false := by rw [and32 F hf1, he]; rfl
            have HE := Lib.hid he
            clear he
            go_wp2_with fail
            go_round
            case rel => exact ⟨j + 1, stp p32 f, by omega, by go_num, by rw [stp_even _ _ (by rw [← HF.out]; exact HE.out), ← HF.out]; rfl, by show _ = _; rw [stpN_succ, ← hf.out]⟩
            case measure => simp [intOf]; omega
          · have ht : (bits BinOp.and .u32 (F : Int) 1 == 1) = true := by rw [and32 F hf1, he]; rfl
            have HE := Lib.hid he
            clear he
            go_wp2_with fail
            go_round
            case rel => exact ⟨j + 1, stp p32 f, by omega, by go_num, by rw [HF.out]; exact step32 f (by rw [← HF.out]; exact HE.out), by show _ = _; rw [stpN_succ, ← hf.out]⟩
            case measure => simp [intOf]; omega
        · obtain rfl : j = 8 := by omega
          go_wp2_with fail
          go_round
          case rel =>
            refine ⟨k + 1, f, by omega, by go_num, rfl, ?_⟩
            show f = _
            rw [fB_take l 32 _ _ k (by have := HR.out.1; omega), ← hd.out, ← Hx.out]
            exact hf.out
          case measure => simp [intOf]; omega
    · obtain rfl : k = n := by omega
      have hl := HR.out.1
      have hfin : s32 l = ~~~ d := by rw [hd.out, List.take_of_length_le (by omega)]; rfl
      have HF := Lib.hid hfin
      have hd1 : (d.toNat : Int) < 4294967296 := by have := d.isLt; omega
      clear hfin hl
      go_wp2_with fail
      go_ret
      exact ⟨by rw [HF.out]; exact flip32 d, rfl⟩

theorem short_any (A : Option Addr) (n c B : Nat) (l : List UInt8) (w : World) (h : Rd w B A n l) (hn : n ≤ 140737488355328) :
    Calls Tryz.prog 58 #[.slice A n c] w fun e w' => e = .returned (.int .u16 ((s16 l).toNat : Int)) ∧ w = w' := by
  have C := Lib.hid (sum16_any A n c B l w h hn)
  clear h
  go_enter Tryz.func58, Tryz.ntmps58
  go_wp2_with fail
  refine C.out.mono ?_
  rintro e w' ⟨rfl, rfl⟩
  go_wp2_with fail
  go_ret
  exact ⟨rfl, rfl⟩

theorem long_any (A : Option Addr) (n c B : Nat) (l : List UInt8) (w : World) (h : Rd w B A n l) (hn : n ≤ 140737488355328) :
    Calls Tryz.prog 59 #[.slice A n c] w fun e w' => e = .returned (.int .u32 ((s32 l).toNat : Int)) ∧ w = w' := by
  have C := Lib.hid (sum32_any A n c B l w h hn)
  clear h
  go_enter Tryz.func59, Tryz.ntmps59
  go_wp2_with fail
  refine C.out.mono ?_
  rintro e w' ⟨rfl, rfl⟩
  go_wp2_with fail
  go_ret
  exact ⟨rfl, rfl⟩
set_option maxRecDepth 100000 in
set_option maxHeartbeats 1000000 in
theorem bytes_any (kind : Int) (A : Option Addr) (n c B : Nat) (l : List UInt8) (w : World) (h : Rd w B A n l) (hn : n ≤ 140737488355328) :
    Calls Tryz.prog 38 #[.int .i64 kind, .slice A n c] w (Gives (crcBytes kind l) w) := by
  have c1 := short_any A n c B l w h hn
  have c2 := long_any A n c B l w h hn
  have v1 := (s16 l).isLt
  have v2 := (s32 l).isLt
  clear h
  by_cases h1 : kind = 1
  · subst h1
    rw [show crcBytes 1 l = be (s16 l).toNat 2 from rfl, be2]
    generalize (s16 l).toNat = v at *
    have C1 := Lib.hid c1
    clear c1 c2
    go_enter Tryz.func38, Tryz.ntmps38
    go_wp2_with fail
    refine C1.out.mono ?_
    rintro e w' ⟨rfl, rfl⟩
    go_wp2_with fail
    go_ret
    exact gives_lit w _ _ _ 2 rfl (cs2 v v1)
  · by_cases h2 : kind = 2
    · subst h2
      rw [show crcBytes 2 l = be (s32 l).toNat 4 from rfl, be4]
      generalize (s32 l).toNat = v at *
      have C2 := Lib.hid c2
      clear c1 c2
      go_enter Tryz.func38, Tryz.ntmps38
      go_wp2_with fail
      refine C2.out.mono ?_
      rintro e w' ⟨rfl, rfl⟩
      go_wp2_with fail
      go_ret
      exact gives_lit w _ _ _ 4 rfl (cs4 v v2)
    · rw [show crcBytes kind l = [] by unfold crcBytes; rw [if_neg h1, if_neg h2]]
      have e1 : (kind == 1) = false := by simpa using h1
      have e2 : (kind == 2) = false := by simpa using h2
      clear h1 h2 c1 c2
      go_enter Tryz.func38, Tryz.ntmps38
      go_wp2_with fail
      go_ret
      exact gives_nil w
end Go.Proofs.YtbdjkihgcmebgaaGreatDoor
/- append of a slice, perhaps of no element, onto one that the call owns; rows beside. No program's functions. -/
namespace Go.Proofs.YtbdjkihgcmebgaaGreatDoor
open Go.RowKit

theorem run_append_z {P : Program} (w : World) (t ty : TypeId) (base : Nat) (e : TypeId) (i : TypeInfo) (z : Value) (size bytes : Nat) (ht : P.underlying t = some (.slice e)) (hi : P.info? e = some i) (hz : i.zero = some z)
    (hsize : i.size = size) (hby : i.bytes = bytes) (hzs : z.cells.size = size) (hsz : 0 < size)
    (g0 cap0 n : Nat) (xs : List Value) (hown : w.ownsRow base e size (.slice (some ⟨g0, 0, none⟩) n cap0) n xs)
    (ad : Addr) (m c : Nat) (news : List Value) (hl : news.length = m * size) (hnews : ∀ j u, news[j]? = some u → w.cell? (ad.add j) = some u) (h1 : ∀ u ∈ news, u.oneCell' = true)
    (h63 : n + m ≤ maxLen) (hbytes : (n + m) * bytes ≤ 140737488355328) (hbase : base ≤ w.heap.size) :
    ∃ g cap w', (Builtin.append_ #[t, t] ty #[.slice (some ⟨g0, 0, none⟩) n cap0, .slice (some ad) m c]).run P w = .ok (.slice (some ⟨g, 0, none⟩) (n + m) cap) w' ∧
      w'.ownsRow base e size (.slice (some ⟨g, 0, none⟩) (n + m) cap) (n + m) (xs ++ news) ∧ w.grownBy w' (some g0) ∧ (g = g0 ∨ g = w.heap.size) ∧ g < w'.heap.size := by
  obtain ⟨v', w', hr, h2, h3, h4, h5⟩ := run_append_own_at (P := P) w base t ty e i z size bytes ht hi hz hsize hby hzs hsz _ n xs hown ad m c news hl hnews h1 h63 hbytes hbase
  rcases h2.2 with ⟨rfl, _⟩ | ⟨g, cap, cur, rfl, hb, hg, _⟩
  · have := (h4.1 rfl).1
    cases this
  refine ⟨g, cap, w', hr, h2, h3, ?_, ?_⟩
  · rcases h5 with h5 | h5
    · left; simpa [Value.ownBlock] using h5
    · right; simpa [Value.ownBlock] using h5
  · rcases Nat.lt_or_ge g w'.heap.size with hlt | hge
    · exact hlt
    · rw [Array.getElem?_eq_none hge] at hg; cases hg

theorem step_append_z {P : Program} {w : World} {ops : Array Oper} {o : Oper} {a : Act} {K : Act → World → Prop} {Q : Exit → Act → World → Prop} {E : Prop} (hgd : o.guard = none) (s x : Operand) (t : TypeId)
    (ho : o.op = .call { callee := .builtin .append, args := #[s, x], argTypes := #[t, t] })
    (base : Nat) (e : TypeId) (i : TypeInfo) (z : Value) (size bytes : Nat) (ht : P.underlying t = some (.slice e)) (hi : P.info? e = some i) (hz : i.zero = some z)
    (hsize : i.size = size) (hby : i.bytes = bytes) (hzs : z.cells.size = size) (hsz : 0 < size)
    (g0 cap0 n : Nat) (xs : List Value) (hs : a.eval s = .slice (some ⟨g0, 0, none⟩) n cap0) (hown : w.ownsRow base e size (.slice (some ⟨g0, 0, none⟩) n cap0) n xs)
    (ad : Addr) (m c : Nat) (news : List Value) (hx : a.eval x = .slice (some ad) m c) (hl : news.length = m * size) (hnews : ∀ j u, news[j]? = some u → w.cell? (ad.add j) = some u) (h1 : ∀ u ∈ news, u.oneCell' = true)
    (h63 : n + m ≤ maxLen) (hbytes : (n + m) * bytes ≤ 140737488355328) (hbase : base ≤ w.heap.size)
    (h : ∀ g cap w', w'.ownsRow base e size (.slice (some ⟨g, 0, none⟩) (n + m) cap) (n + m) (xs ++ news) → w.grownBy w' (some g0) → (g = g0 ∨ g = w.heap.size) → g < w'.heap.size → K (a.put o.dst (.slice (some ⟨g, 0, none⟩) (n + m) cap)) w') :
    if Region.wanted o (yielded ops a.tmps) = true then Oper.wp P o a w K Q else E := by
  have hw : Region.wanted o (yielded ops a.tmps) = true := by simp [Region.wanted, hgd]
  rw [if_pos hw]
  obtain ⟨g, cap, w', hr, h2, h3, h4, h5⟩ := run_append_z (P := P) w t o.type base e i z size bytes ht hi hz hsize hby hzs hsz g0 cap0 n xs hown ad m c news hl hnews h1 h63 hbytes hbase
  unfold Oper.wp execOp
  simp only [ho, resolve, invoke, builtin, Sem.run_bind, Sem.run_pure, Result.andThen_ok, List.map_toArray, List.map_cons, List.map_nil, hs, hx, hr]
  exact h g cap w' h2 h3 h4 h5

theorem wpList_append_z {P : Program} {w : World} {ops : Array Oper} {rest : List Oper} {o : Oper} {a : Act} {Q : Exit → Act → World → Prop} (hgd : o.guard = none) (s x : Operand) (t : TypeId)
    (ho : o.op = .call { callee := .builtin .append, args := #[s, x], argTypes := #[t, t] })
    (base : Nat) (e : TypeId) (i : TypeInfo) (z : Value) (size bytes : Nat) (ht : P.underlying t = some (.slice e)) (hi : P.info? e = some i) (hz : i.zero = some z)
    (hsize : i.size = size) (hby : i.bytes = bytes) (hzs : z.cells.size = size) (hsz : 0 < size)
    (g0 cap0 n : Nat) (xs : List Value) (hs : a.eval s = .slice (some ⟨g0, 0, none⟩) n cap0) (hown : w.ownsRow base e size (.slice (some ⟨g0, 0, none⟩) n cap0) n xs)
    (ad : Addr) (m c : Nat) (news : List Value) (hx : a.eval x = .slice (some ad) m c) (hl : news.length = m * size) (hnews : ∀ j u, news[j]? = some u → w.cell? (ad.add j) = some u) (h1 : ∀ u ∈ news, u.oneCell' = true)
    (h63 : n + m ≤ maxLen) (hbytes : (n + m) * bytes ≤ 140737488355328) (hbase : base ≤ w.heap.size)
    (h : ∀ g cap w', w'.ownsRow base e size (.slice (some ⟨g, 0, none⟩) (n + m) cap) (n + m) (xs ++ news) → w.grownBy w' (some g0) → (g = g0 ∨ g = w.heap.size) → g < w'.heap.size → wpList P ops Q rest (a.put o.dst (.slice (some ⟨g, 0, none⟩) (n + m) cap)) w') :
    wpList P ops Q (o :: rest) a w := by
  refine wpList_plain hgd fun _ hK => ?_
  obtain ⟨g, cap, w', hr, h2, h3, h4, h5⟩ := run_append_z (P := P) w t o.type base e i z size bytes ht hi hz hsize hby hzs hsz g0 cap0 n xs hown ad m c news hl hnews h1 h63 hbytes hbase
  unfold Oper.wp execOp
  simp only [ho, resolve, invoke, builtin, Sem.run_bind, Sem.run_pure, Result.andThen_ok, List.map_toArray, List.map_cons, List.map_nil, hs, hx, hr]
  exact hK _ _ (h g cap w' h2 h3 h4 h5)
/-- A row that lies at the head of block g. -/
def RowAt (w : World) (g : Nat) (cs : List Value) : Prop := g < w.heap.size ∧ ∀ j u, cs[j]? = some u → w.cell? ((⟨g, 0, none⟩ : Addr).add j) = some u
theorem addr0 (g j : Nat) : (⟨g, 0, none⟩ : Addr).add j = ⟨g, j, none⟩ := by unfold Addr.add; split <;> simp_all
theorem addr_add (b o j : Nat) : (⟨b, o, none⟩ : Addr).add j = ⟨b, o + j, none⟩ := by unfold Addr.add; split <;> simp_all
theorem RowAt.made (w : World) (cs : Array Value) (t : TypeId) : RowAt (w.alloc (.cells cs t)) w.heap.size cs.toList :=
  ⟨by simp, fun j u hj => by
    rw [addr0, World.cell?_alloc_at _ _ _ _ rfl]
    simpa using hj⟩
theorem RowAt.below {w w' : World} {g : Nat} {cs : List Value} (h : RowAt w g cs) (hb : Below w.heap.size w w') : RowAt w' g cs :=
  ⟨Nat.lt_of_lt_of_le h.1 hb.size, fun j u hj => by rw [addr0, hb.cell (p := ⟨g, j, none⟩) h.1, ← addr0]; exact h.2 j u hj⟩
theorem RowAt.alloc {w : World} {g : Nat} {cs : List Value} (h : RowAt w g cs) (o : Obj) : RowAt (w.alloc o) g cs := h.below ((Below.refl _ _).alloc (Nat.le_refl _) o)
theorem RowAt.grown {w w' : World} {g g0 : Nat} {cs : List Value} (h : RowAt w g cs) (hg : w.grownBy w' (some g0)) (hne : g ≠ g0) : RowAt w' g cs :=
  ⟨Nat.lt_of_lt_of_le h.1 hg.size, fun j u hj => by rw [addr0, hg.cell_far ⟨g, j, none⟩ h.1 (fun e => hne (Option.some.inj e)), ← addr0]; exact h.2 j u hj⟩
theorem ne_grown {w : World} {gx g g' : Nat} (hne : gx ≠ g) (hlt : gx < w.heap.size) (hat : g' = g ∨ g' = w.heap.size) : gx ≠ g' := by omega
theorem owns_lt {w : World} {base g n cap size : Nat} {e : TypeId} {xs : List Value} (h : w.ownsRow base e size (.slice (some ⟨g, 0, none⟩) n cap) n xs) : g < w.heap.size := (World.ownsRow.lt h g rfl).2
theorem owns_base {w : World} {base g n cap size : Nat} {e : TypeId} {xs : List Value} (h : w.ownsRow base e size (.slice (some ⟨g, 0, none⟩) n cap) n xs) : base ≤ g := (World.ownsRow.lt h g rfl).1
theorem owns_cap {w : World} {base g n cap size : Nat} {e : TypeId} {xs : List Value} (h : w.ownsRow base e size (.slice (some ⟨g, 0, none⟩) n cap) n xs) : n ≤ cap := by
  rcases h.2 with ⟨hv, _⟩ | ⟨g', cap', cur, hv, _, _, hnc, _⟩
  · cases hv
  · injection hv with _ _ h3
    omega
/-- What is not the row is as it was, below the base too. -/
theorem grownOwn {w a w' : World} {base g : Nat} (h : Below base w a) (hb : base ≤ a.heap.size) (hg : a.grownBy w' (some g)) (hbg : base ≤ g) : Below base w w' :=
  h.grown hg hb (fun k e => by cases e; exact hbg)
/-- One of the operations that only read, ahead of others. -/
theorem takeR {P : Program} {md : Region.Mode} {l : List Oper} {Q : Exit → Act → World → Prop} {S : World → Prop} {i : Nat} {oi : Oper} {v : Value} {fuel : Nat} {listed : Array Bool} {a : Act} {w : World} (hi : l[i]? = some oi)
    (hs : Region.noSelect l.toArray = true) (hf : Region.free md l.toArray listed i = true) (hr : (Region.ready md l.toArray listed).contains i = true)
    (hQ : ∀ c a w, Q (.panic c) (a.put oi.dst v) w → Q (.panic c) a w) (hw : Region.wanted oi (yielded l.toArray a.tmps) = true) (hy : ∀ w, S w → (execOp a.eval oi).run P w = .ok (.value v) w) (hS : S w)
    (h : wpAnyH P md l.toArray Q S fuel (listed.setIfInBounds i true) (a.put oi.dst v) w) : wpAnyH P md l.toArray Q S (fuel + 1) listed a w :=
  wpAnyH_take (oi := oi) (v := v) (by simpa using hi) hs hf hr hQ (Or.inl ⟨hw, hy⟩) hS h
end Go.Proofs.YtbdjkihgcmebgaaGreatDoor
/- The plain functions of layer 7: words of 32 bits, a block's step, what stands behind a text, digests. No program's number stands here. -/
namespace Go.Proofs.YtbdjkihgcmebgaaGreatDoor
open Go.RowKit

/-- Turned to the right. -/
def rr (x : BitVec 32) (n : Nat) : BitVec 32 := (x >>> n) ||| (x <<< (32 - n))
def tS (x : BitVec 32) (a b c : Nat) : BitVec 32 := rr x a ^^^ rr x b ^^^ rr x c
def tT (x : BitVec 32) (a b c : Nat) : BitVec 32 := rr x a ^^^ rr x b ^^^ (x >>> c)

/-- A state. -/
structure St where
  a : BitVec 32
  b : BitVec 32
  c : BitVec 32
  d : BitVec 32
  e : BitVec 32
  f : BitVec 32
  g : BitVec 32
  h : BitVec 32

def St.list (s : St) : List (BitVec 32) := [s.a, s.b, s.c, s.d, s.e, s.f, s.g, s.h]
def St.t1 (s : St) (k w : BitVec 32) : BitVec 32 := s.h + tS s.e 6 11 25 + ((s.e &&& s.f) ^^^ (~~~ s.e &&& s.g)) + k + w
def St.t2 (s : St) : BitVec 32 := tS s.a 2 13 22 + ((s.a &&& s.b) ^^^ (s.a &&& s.c) ^^^ (s.b &&& s.c))
def St.rnd (s : St) (k w : BitVec 32) : St := ⟨s.t1 k w + s.t2, s.a, s.b, s.c, s.d + s.t1 k w, s.e, s.f, s.g⟩
def St.add (s t : St) : St := ⟨s.a + t.a, s.b + t.b, s.c + t.c, s.d + t.d, s.e + t.e, s.f + t.f, s.g + t.g, s.h + t.h⟩

def kL : List (BitVec 32) := [0x428a2f98#32, 0x71374491#32, 0xb5c0fbcf#32, 0xe9b5dba5#32, 0x3956c25b#32, 0x59f111f1#32, 0x923f82a4#32, 0xab1c5ed5#32,
  0xd807aa98#32, 0x12835b01#32, 0x243185be#32, 0x550c7dc3#32, 0x72be5d74#32, 0x80deb1fe#32, 0x9bdc06a7#32, 0xc19bf174#32,
  0xe49b69c1#32, 0xefbe4786#32, 0x0fc19dc6#32, 0x240ca1cc#32, 0x2de92c6f#32, 0x4a7484aa#32, 0x5cb0a9dc#32, 0x76f988da#32,
  0x983e5152#32, 0xa831c66d#32, 0xb00327c8#32, 0xbf597fc7#32, 0xc6e00bf3#32, 0xd5a79147#32, 0x06ca6351#32, 0x14292967#32,
  0x27b70a85#32, 0x2e1b2138#32, 0x4d2c6dfc#32, 0x53380d13#32, 0x650a7354#32, 0x766a0abb#32, 0x81c2c92e#32, 0x92722c85#32,
  0xa2bfe8a1#32, 0xa81a664b#32, 0xc24b8b70#32, 0xc76c51a3#32, 0xd192e819#32, 0xd6990624#32, 0xf40e3585#32, 0x106aa070#32,
  0x19a4c116#32, 0x1e376c08#32, 0x2748774c#32, 0x34b0bcb5#32, 0x391c0cb3#32, 0x4ed8aa4a#32, 0x5b9cca4f#32, 0x682e6ff3#32,
  0x748f82ee#32, 0x78a5636f#32, 0x84c87814#32, 0x8cc70208#32, 0x90befffa#32, 0xa4506ceb#32, 0xbef9a3f7#32, 0xc67178f2#32]

def st0 : St := ⟨0x6a09e667#32, 0xbb67ae85#32, 0x3c6ef372#32, 0xa54ff53a#32, 0x510e527f#32, 0x9b05688c#32, 0x1f83d9ab#32, 0x5be0cd19#32⟩

/-- The next word, of those that there are. -/
def wnx (b : List UInt8) (l : List (BitVec 32)) (k : Nat) : BitVec 32 :=
  if k < 16 then BitVec.ofNat 32 (beNat ((b.drop (4 * k)).take 4))
  else l.getD (k - 16) 0 + tT (l.getD (k - 15) 0) 7 18 3 + l.getD (k - 7) 0 + tT (l.getD (k - 2) 0) 17 19 10
def wL (b : List UInt8) : Nat → List (BitVec 32)
  | 0 => []
  | k + 1 => wL b k ++ [wnx b (wL b k) k]
theorem wL_length (b : List UInt8) : ∀ k, (wL b k).length = k
  | 0 => rfl
  | k + 1 => by rw [wL, List.length_append, wL_length b k]; rfl

def rN (s : St) (ws : List (BitVec 32)) : Nat → St
  | 0 => s
  | k + 1 => (rN s ws k).rnd (kL.getD k 0) (ws.getD k 0)

def nxt (s : St) (b : List UInt8) : St := s.add (rN s (wL b 64) 64)

/-- What stands behind a text of n bytes. -/
def padL (n : Nat) : List UInt8 := 128 :: (List.replicate (63 - (n % 64 + 8) % 64) 0 ++ be (8 * n) 8)

/-- The state behind the first k blocks. -/
def blks (s : St) (l : List UInt8) : Nat → St
  | 0 => s
  | k + 1 => nxt (blks s l k) ((l.drop (64 * k)).take 64)
def outL (l : List (BitVec 32)) : List UInt8 := l.flatMap fun x => be x.toNat 4
def shaL (l : List UInt8) : List UInt8 := outL (blks st0 (l ++ padL l.length) ((l ++ padL l.length).length / 64)).list

theorem blks_app (s : St) (l x : List UInt8) : ∀ k, 64 * k ≤ l.length → blks s (l ++ x) k = blks s l k
  | 0, _ => rfl
  | k + 1, h => by
    rw [blks, blks, blks_app s l x k (by omega), List.drop_append_of_le_length (by omega), List.take_append_of_le_length (by simp; omega)]

theorem padL_length (n : Nat) : (padL n).length = 72 - (n % 64 + 8) % 64 := by
  simp [padL, be_length]; omega

set_option maxRecDepth 100000 in
theorem shaL_abc : shaL [97, 98, 99] = [0xba, 0x78, 0x16, 0xbf, 0x8f, 0x01, 0xcf, 0xea, 0x41, 0x41, 0x40, 0xde, 0x5d, 0xae, 0x22, 0x23, 0xb0, 0x03, 0x61, 0xa3, 0x96, 0x17, 0x7a, 0x9c, 0xb4, 0x10, 0xff, 0x61, 0xf2, 0x00, 0x15, 0xad] := by
  decide +kernel
end Go.Proofs.YtbdjkihgcmebgaaGreatDoor
/- Words of 32 bits in memory: a slice that reads as a list of words ('Rw'), a slice of the call's own ('Ow'), the built-in append onto it. No program's number stands here. (The second part is layer 1's text on bytes, turned.) -/
namespace Go.Proofs.YtbdjkihgcmebgaaGreatDoor
open Go.RowKit

/-- The value of a cell that holds a word. -/
def wv (x : BitVec 32) : Value := .int .u32 (x.toNat : Int)

/-- A slice with the address A and the length n reads as the words l; it lies below block B. -/
def Rw (w : World) (B : Nat) (A : Option Addr) (n : Nat) (l : List (BitVec 32)) : Prop :=
  l.length = n ∧ (0 < n → ∃ b o, A = some ⟨b, o, none⟩ ∧ b < B ∧ ∀ i, i < n → w.cell? ⟨b, o + i, none⟩ = some (.int .u32 ((l.getD i 0).toNat : Int)))

section
variable {w w' : World} {B B' n b : Nat} {A : Option Addr} {l : List (BitVec 32)} {t : TypeId}
theorem Rw.len (h : Rw w B A n l) : l.length = n := h.1
theorem Rw.keep (h : Rw w B A n l) (hk : ∀ p : Addr, p.block < B → w'.cell? p = w.cell? p) : Rw w' B A n l :=
  ⟨h.1, fun hn => by
    obtain ⟨b, o, e, hb, hc⟩ := h.2 hn
    exact ⟨b, o, e, hb, fun i hi => (hk ⟨b, o + i, none⟩ hb).trans (hc i hi)⟩⟩
theorem Rw.more (h : Rw w B A n l) (hB : B ≤ B') : Rw w B' A n l :=
  ⟨h.1, fun hn => by
    obtain ⟨b, o, e, hb, hc⟩ := h.2 hn
    exact ⟨b, o, e, by omega, hc⟩⟩
theorem Rw.below (h : Rw w B A n l) (hb : Below B w w') : Rw w' B A n l := h.keep fun _ hp => hb.cell hp
theorem Rw.drew (h : Rw w B A n l) : Rw w.drew B A n l := h
theorem Rw.alloc (h : Rw w B A n l) (hB : B ≤ w.heap.size) (o : Obj) : Rw (w.alloc o) B A n l := h.keep fun p hp => World.cell?_alloc_lt w o p (by omega)
theorem Rw.nil_ : Rw w B A 0 [] := ⟨rfl, fun h => absurd h (by omega)⟩
end

/-- A literal slice of words, new, in block g. -/
theorem Rw.litm (w : World) (g : Nat) (hg : w.heap.size = g) (l : List (BitVec 32)) (t : TypeId) (cs : Array Value) (fr : Nat × Nat) (hcs : cs = (l.map fun x => Value.int .u32 (x.toNat : Int)).toArray) (n : Nat) (hn : l.length = n) : Rw (w.alloc (.cells cs t fr)) (g + 1) (some ⟨g, 0, none⟩) n l := by
  subst hcs hg
  refine ⟨hn, fun _ => ⟨_, 0, rfl, by omega, fun i hi => ?_⟩⟩
  have hi' : i < l.length := by omega
  rw [Nat.zero_add, World.cell?_alloc_mark]
  simp [List.getD, hi']
theorem Rw.lit (w : World) (g : Nat) (hg : w.heap.size = g) (l : List (BitVec 32)) (t : TypeId) (cs : Array Value) (hcs : cs = (l.map fun x => Value.int .u32 (x.toNat : Int)).toArray) (n : Nat) (hn : l.length = n) : Rw (w.alloc (.cells cs t)) (g + 1) (some ⟨g, 0, none⟩) n l :=
  Rw.litm w g hg l t cs _ hcs n hn

theorem wf_u32 {n : Int} (h : (Lit.int .u32 n).wf = true) : 0 ≤ n ∧ n < 4294967296 := by
  simp [Lit.wf, IntKind.min, IntKind.max, IntKind.signed, IntKind.bits] at h
  omega

/-- A slice of words that came in. -/
theorem Rw.of_ints {w : World} {x : Addr} {n c : Nat} {zs : List Int} (hn : n ≤ c) (hz : zs.length = c) (hcell : ∀ i, i < zs.length → w.cell? (x.add i) = some (.int .u32 (zs.getD i 0))) (hw : ∀ z ∈ zs, (Lit.int .u32 z).wf = true) :
    Rw w w.heap.size (some x) n ((zs.take n).map fun z => BitVec.ofNat 32 z.toNat) := by
  refine ⟨by simp; omega, fun h0 => ?_⟩
  obtain ⟨b, off, spot⟩ := x
  have hc := hcell 0 (by omega)
  have hspot : spot = none := by simpa [Addr.add] using World.cell?_spot hc
  subst hspot
  refine ⟨b, off, rfl, ?_, fun i hi => ?_⟩
  · have h := World.block_lt_of_cell? w _ hc
    simpa [Addr.add] using h
  · have hi' : i < zs.length := by omega
    have h := hcell i hi'
    have e : (⟨b, off, none⟩ : Addr).add i = ⟨b, off + i, none⟩ := by unfold Addr.add; split <;> simp_all
    rw [e] at h
    rw [h]
    have hb := wf_u32 (hw _ (List.getElem_mem hi'))
    have e2 : ((BitVec.ofNat 32 (zs[i]).toNat).toNat : Int) = zs[i] := by
      rw [BitVec.toNat_ofNat]; omega
    simp [List.getD, hi, hi'] at e2 ⊢
    omega

/-- A call gives back a slice that reads as the words l, and leaves what was there. -/
def GivesWs (l : List (BitVec 32)) (w : World) (e : Ending) (w' : World) : Prop :=
  ∃ (A : Option Addr) (n c : Nat), e = .returned (.slice A n c) ∧ Rw w' w'.heap.size A n l ∧ n ≤ c ∧ Below w.heap.size w w'
theorem givesw_nil (w : World) : GivesWs [] w (.returned (.slice none 0 0)) w := ⟨none, 0, 0, rfl, Rw.nil_, Nat.le_refl _, Below.refl _ _⟩
theorem givesw_lit (w : World) (t : TypeId) (l : List (BitVec 32)) (cs : Array Value) (n : Nat) (hn : l.length = n) (hcs : cs = (l.map fun x => Value.int .u32 (x.toNat : Int)).toArray) :
    GivesWs l w (.returned (.slice (some ⟨w.heap.size, 0, none⟩) n n)) (w.alloc (.cells cs t)) :=
  ⟨_, n, n, rfl, (Rw.lit w _ rfl l t cs hcs n hn).more (by simp), Nat.le_refl _, (Below.refl _ _).alloc (Nat.le_refl _) _⟩

/-! ### Words of a call's own -/

theorem wv_one (l : List (BitVec 32)) : ∀ u ∈ l.map wv, u.oneCell' = true := by
  intro u hu
  obtain ⟨x, _, rfl⟩ := List.mem_map.1 hu
  rfl

/-- A slice value of the call's own that holds l: nil and l empty, or at the head of a row of its own in a block from base on. -/
def Ow (w : World) (base : Nat) (t : TypeId) (v : Value) (l : List (BitVec 32)) : Prop := w.ownsRow base t 1 v l.length (l.map wv)

section
variable {w w' : World} {base : Nat} {t : TypeId} {v : Value} {l : List (BitVec 32)}
theorem Ow.nil_ (w : World) (base : Nat) (t : TypeId) : Ow w base t (.slice none 0 0) [] := World.ownsRow_nil w base t 1
theorem Ow.lit (w : World) (l : List (BitVec 32)) (cs : Array Value) (hcs : cs = (l.map wv).toArray) (hb : base ≤ w.heap.size) (n : Nat) (hn : l.length = n) (hm : n ≤ maxLen) : Ow (w.alloc (.cells cs t)) base t (.slice (some ⟨w.heap.size, 0, none⟩) n n) l := by
  subst hcs hn
  have h := World.ownsRow_lit (e := t) (size := 1) w (l.map wv).toArray l.length hb hm (by simp)
  exact h
theorem Ow.alloc (h : Ow w base t v l) (o : Obj) : Ow (w.alloc o) base t v l := World.ownsRow.alloc h o
theorem Ow.drew (h : Ow w base t v l) : Ow w.drew base t v l := h
theorem Ow.kept {row : Option Nat} (h : Ow w base t v l) (hg : w.grownBy w' row) (hne : v.ownBlock = none ∨ v.ownBlock ≠ row) : Ow w' base t v l := World.ownsRow.kept h hg hne
theorem Ow.below (h : Ow w base t v l) (hb : Below w.heap.size w w') : Ow w' base t v l :=
  World.ownsRow.kept h (row := none) ⟨hb.os, hb.tape, hb.output, hb.size, fun k hk _ => hb.block k hk⟩ (by cases v.ownBlock <;> simp)
/-- What it reads as. -/
theorem Ow.rd (h : Ow w base t v l) : ∃ (A : Option Addr) (c : Nat), v = .slice A l.length c ∧ l.length ≤ c ∧ c ≤ maxLen ∧ Rw w w.heap.size A l.length l := by
  rcases h.2 with ⟨hv, h0⟩ | ⟨g, cap, cur, hv, _, hg, hn, hm, _⟩
  · have e : l = [] := List.eq_nil_of_length_eq_zero h0
    subst e
    exact ⟨none, 0, hv, Nat.le_refl _, by decide, Rw.nil_⟩
  · refine ⟨some ⟨g, 0, none⟩, cap, hv, hn, hm, rfl, fun h0 => ⟨g, 0, rfl, ?_, fun i hi => ?_⟩⟩
    · have hb : v.ownBlock = some g := by rw [hv]; rfl
      exact (World.ownsRow.lt h g hb).2
    · have hc := World.ownsRow.cells h (g := g) (by rw [hv]; rfl) i (wv l[i]) (by simp [hi])
      simp only [List.getD, List.getElem?_eq_getElem hi]
      unfold Addr.add at hc
      by_cases h0 : i = 0
      · subst h0; simpa [wv] using hc
      · rw [if_neg h0] at hc; simpa [wv] using hc
end

section
variable {w w' : World} {base : Nat} {t : TypeId} {v : Value} {l : List (BitVec 32)}
/-- Where it is not empty. -/
theorem Ow.form (h : Ow w base t v l) (h0 : 0 < l.length) : ∃ g cap, v = .slice (some ⟨g, 0, none⟩) l.length cap ∧ base ≤ g ∧ g < w.heap.size ∧ l.length ≤ cap := by
  rcases h.2 with ⟨_, hn⟩ | ⟨g, cap, cur, hv, hbg, _, hn, _⟩
  · omega
  · exact ⟨g, cap, hv, hbg, (World.ownsRow.lt h g (by rw [hv]; rfl)).2, hn⟩
theorem Ow.rd_ {A : Option Addr} {n cap : Nat} (h : Ow w base t (.slice A n cap) l) : l.length = n ∧ Rw w w.heap.size A n l ∧ n ≤ cap ∧ cap ≤ maxLen := by
  obtain ⟨A2, c2, hv, hc, hm, hr⟩ := h.rd
  injection hv with h1 h2 h3
  subst h1 h2 h3
  exact ⟨rfl, hr, hc, hm⟩
variable {g cap n : Nat}
theorem Ow.cell (h : Ow w base t (.slice (some ⟨g, 0, none⟩) n cap) l) (hn : l.length = n) {j : Nat} (hj : j < n) : w.cell? ⟨g, j, none⟩ = some (.int .u32 ((l.getD j 0).toNat : Int)) := by
  subst hn
  have := World.ownsRow.cellAt h j (by omega)
  rw [this]
  simp [List.getD, hj, wv]
theorem Ow.frozen (h : Ow w base t (.slice (some ⟨g, 0, none⟩) n cap) l) (hn : l.length = n) (j : Nat) : w.frozen? ⟨g, j, none⟩ = false := by
  subst hn
  exact World.ownsRow.frozenAt h j
theorem Ow.stored (h : Ow w base t (.slice (some ⟨g, 0, none⟩) n cap) l) (hn : l.length = n) (j : Nat) (x : BitVec 32) {u : Value} (hu : u = .int .u32 (x.toNat : Int)) : Ow (w.setCell ⟨g, j, none⟩ u) base t (.slice (some ⟨g, 0, none⟩) n cap) (l.set j x) := by
  subst hn hu
  have := World.ownsRow.stored h j (wv x)
  unfold Ow
  rw [List.length_set, List.map_set]
  exact this.1
end

section
variable {P : Program} (w : World)

theorem run_appw_none (base : Nat) (t ty e : TypeId) (i : TypeInfo) (ht : P.underlying t = some (.slice e)) (hi : P.info? e = some i) (v : Value) (l : List (BitVec 32)) (hown : Ow w base e v l) (c : Nat) :
    (Builtin.append_ #[t, t] ty #[v, .slice none 0 c]).run P w = .ok v w := by
  rcases hown.2 with ⟨rfl, hn⟩ | ⟨g, cap, cur, rfl, _, _, hnc, _⟩
  · simp [Builtin.append_, run_underlying ht, sizeOf, typeInfo, hi, Builtin.lenOf, Builtin.firstCells]
  · simp [Builtin.append_, run_underlying ht, sizeOf, typeInfo, hi, Builtin.lenOf, Builtin.firstCells, hnc, storeCells]

/-- append onto an own slice: some value, some world, in which it holds both. -/
theorem run_appw (base : Nat) (t ty e : TypeId) (ht : P.underlying t = some (.slice e)) (hinfo : (P.info? e).map (fun i => (i.zero, i.size, i.bytes)) = some (some (.int .u32 0), 1, 4))
    (v : Value) (l : List (BitVec 32)) (hown : Ow w base e v l) (B : Nat) (A : Option Addr) (m c : Nat) (news : List (BitVec 32)) (hr : Rw w B A m news) (hbound : l.length + m ≤ 35184372088832) (hbase : base ≤ w.heap.size) :
    ∃ v' w', (Builtin.append_ #[t, t] ty #[v, .slice A m c]).run P w = .ok v' w' ∧ Ow w' base e v' (l ++ news) ∧ w.grownBy w' v.ownBlock ∧ (v'.ownBlock = v.ownBlock ∨ v'.ownBlock = some w.heap.size) := by
  obtain ⟨i, hi, hzz⟩ := Option.map_eq_some_iff.1 hinfo
  simp only [Prod.mk.injEq] at hzz
  obtain ⟨hz, hs, hb⟩ := hzz
  have hlen := hr.1
  rcases A with _ | ad
  · have h0 : m = 0 := by
      rcases Nat.eq_zero_or_pos m with h | h
      · exact h
      · obtain ⟨_, _, h', _⟩ := hr.2 h
        cases h'
    subst h0
    have hn : news = [] := List.eq_nil_of_length_eq_zero hlen
    subst hn
    exact ⟨v, w, run_appw_none w base t ty e i ht hi v l hown c, by simpa using hown, World.grownBy.refl w _, .inl rfl⟩
  · have hcells : ∀ j u, (news.map wv)[j]? = some u → w.cell? (ad.add j) = some u := by
      intro j u hu
      rcases Nat.eq_zero_or_pos m with h0 | h0
      · have hn : news = [] := List.eq_nil_of_length_eq_zero (by omega)
        subst hn
        simp at hu
      · obtain ⟨b, o, e1, _, hc⟩ := hr.2 h0
        injection e1 with e1
        subst e1
        have hj : j < news.length := by
          rcases Nat.lt_or_ge j news.length with h | h
          · exact h
          · rw [List.getElem?_eq_none (by simpa using h)] at hu; cases hu
        have h := hc j (by omega)
        have ea : (⟨b, o, none⟩ : Addr).add j = ⟨b, o + j, none⟩ := by unfold Addr.add; split <;> simp_all
        rw [ea, h, ← hu]
        simp [List.getD, hj, wv]
    obtain ⟨v', w', hrun, h2, h3, _, h5⟩ := run_append_own_at (P := P) w base t ty e i (.int .u32 0) 1 4 ht hi hz hs hb rfl (by decide) v l.length (l.map wv) hown ad m c (news.map wv) (by simp [hlen]) hcells (wv_one news)
      (by unfold maxLen; omega) (by omega) hbase
    refine ⟨v', w', hrun, ?_, h3, h5⟩
    unfold Ow
    rw [List.length_append, hlen, List.map_append]
    exact h2

/-- As a law for 'go_wp2_with (at_builtin; refine wpList_appw ..)'. -/
theorem wpList_appw {w : World} {ops : Array Oper} {rest : List Oper} {o : Oper} {a : Act} {Q : Exit → Act → World → Prop} (hgd : o.guard = none) (s x : Operand) (t : TypeId)
    (ho : o.op = .call { callee := .builtin .append, args := #[s, x], argTypes := #[t, t] })
    (base : Nat) (e : TypeId) (ht : P.underlying t = some (.slice e)) (hinfo : (P.info? e).map (fun i => (i.zero, i.size, i.bytes)) = some (some (.int .u32 0), 1, 4))
    (v : Value) (l : List (BitVec 32)) (hs : a.eval s = v) (hown : Ow w base e v l) (B : Nat) (A : Option Addr) (m c : Nat) (news : List (BitVec 32)) (hx : a.eval x = .slice A m c) (hr : Rw w B A m news)
    (hbound : l.length + m ≤ 35184372088832) (hbase : base ≤ w.heap.size)
    (h : ∀ v' w', Ow w' base e v' (l ++ news) → w.grownBy w' v.ownBlock → (v'.ownBlock = v.ownBlock ∨ v'.ownBlock = some w.heap.size) → wpList P ops Q rest (a.put o.dst v') w') : wpList P ops Q (o :: rest) a w := by
  refine wpList_plain hgd fun K hK => ?_
  obtain ⟨v', w', hrun, h2, h3, h4⟩ := run_appw (P := P) w base t o.type e ht hinfo v l hown B A m c news hr hbound hbase
  unfold Oper.wp execOp
  simp only [ho, resolve, invoke, builtin, Sem.run_bind, Sem.run_pure, Result.andThen_ok, List.map_toArray, List.map_cons, List.map_nil, hs, hx, hrun]
  exact hK _ _ (h v' w' h2 h3 h4)


/-- The same, with what is left as it was told by 'Below': nothing ahead of block base has changed. -/
theorem wpList_appwB {w : World} {ops : Array Oper} {rest : List Oper} {o : Oper} {a : Act} {Q : Exit → Act → World → Prop} (hgd : o.guard = none) (s x : Operand) (t : TypeId)
    (ho : o.op = .call { callee := .builtin .append, args := #[s, x], argTypes := #[t, t] })
    (base : Nat) (e : TypeId) (ht : P.underlying t = some (.slice e)) (hinfo : (P.info? e).map (fun i => (i.zero, i.size, i.bytes)) = some (some (.int .u32 0), 1, 4))
    (v : Value) (l : List (BitVec 32)) (hs : a.eval s = v) (hown : Ow w base e v l) (B : Nat) (A : Option Addr) (m c : Nat) (news : List (BitVec 32)) (hx : a.eval x = .slice A m c) (hr : Rw w B A m news)
    (hbound : l.length + m ≤ 35184372088832) (hbase : base ≤ w.heap.size)
    (h : ∀ v' w', Ow w' base e v' (l ++ news) → Below base w w' → wpList P ops Q rest (a.put o.dst v') w') : wpList P ops Q (o :: rest) a w :=
  wpList_appw hgd s x t ho base e ht hinfo v l hs hown B A m c news hx hr hbound hbase fun v' w' h1 h2 _ =>
    h v' w' h1 ⟨h2.os, h2.tape, h2.output, h2.size, fun k hk => h2.block k (by omega) (fun e => by have := (World.ownsRow.lt hown k e.symm).1; omega)⟩
end

/-! ### The operations on words, as numbers -/
theorem xor32 (a b : BitVec 32) : bits BinOp.xor .u32 (a.toNat : Int) (b.toNat : Int) = ((a ^^^ b).toNat : Int) := by
  rw [u32_xor_nat _ _ a.isLt b.isLt, BitVec.toNat_xor]
theorem andw (a b : BitVec 32) : bits BinOp.and .u32 (a.toNat : Int) (b.toNat : Int) = ((a &&& b).toNat : Int) := by
  rw [u32_and_nat _ _ a.isLt b.isLt, BitVec.toNat_and]
theorem orw (a b : BitVec 32) : bits BinOp.or .u32 (a.toNat : Int) (b.toNat : Int) = ((a ||| b).toNat : Int) := by
  rw [u32_or_nat _ _ a.isLt b.isLt, BitVec.toNat_or]
theorem addw (a b : BitVec 32) : ((a.toNat : Int) + (b.toNat : Int)) % 4294967296 = ((a + b).toNat : Int) := by
  rw [BitVec.toNat_add]; omega
theorem notw (a : BitVec 32) : 4294967295 - (a.toNat : Int) = ((~~~ a).toNat : Int) := by
  have h := a.isLt
  rw [BitVec.toNat_not]; omega
end Go.Proofs.YtbdjkihgcmebgaaGreatDoor
/- What the small functions of layer 7 and of its reference return: turning, shifting, constants. -/
namespace Go.Proofs.YtbdjkihgcmebgaaGreatDoor
open Go.RowKit

theorem rr_l (x : BitVec 32) (n : Nat) : (x <<< (32 - n)).toNat = x.toNat * 2 ^ (32 - n) % 4294967296 := by
  rw [BitVec.toNat_shiftLeft, Nat.shiftLeft_eq]
theorem rr_r (x : BitVec 32) (n : Nat) : (x >>> n).toNat = x.toNat / 2 ^ n := by
  rw [BitVec.toNat_ushiftRight, Nat.shiftRight_eq_div_pow]
/-- As the walk has it. -/
theorem rr_walk (x : BitVec 32) (n : Nat) :
    bits BinOp.or .u32 ((x.toNat : Int) / 2 ^ n) ((x.toNat : Int) * 2 ^ (32 - n) % 4294967296) = ((rr x n).toNat : Int) := by
  have e1 : (x.toNat : Int) / 2 ^ n = ((x >>> n).toNat : Int) := by rw [rr_r]; simp
  have e2 : (x.toNat : Int) * 2 ^ (32 - n) % 4294967296 = ((x <<< (32 - n)).toNat : Int) := by rw [rr_l x n]; simp
  rw [e1, e2, orw]; rfl
theorem rr_walk' (x : BitVec 32) (m : Nat) (h : m ≤ 32) :
    bits BinOp.or .u32 ((x.toNat : Int) * 2 ^ m % 4294967296) ((x.toNat : Int) / 2 ^ (32 - m)) = ((rr x (32 - m)).toNat : Int) := by
  have e1 : (x.toNat : Int) / 2 ^ (32 - m) = ((x >>> (32 - m)).toNat : Int) := by rw [rr_r]; simp
  have e2 : (x.toNat : Int) * 2 ^ m % 4294967296 = ((x <<< (32 - (32 - m))).toNat : Int) := by rw [rr_l x (32 - m), show 32 - (32 - m) = m by omega]; simp
  rw [e1, e2, orw, BitVec.or_comm]; rfl
theorem sand31 (n m : Nat) (h0 : 0 < n) (h : n < 32) (hm : m = 32 - n) : bits BinOp.and .u64 (IntKind.u64.wrap (-(n : Int))) 31 = (m : Int) := by
  have e : IntKind.u64.wrap (-(n : Int)) = ((18446744073709551616 - n : Nat) : Int) := by rw [IntKind.wrap_u64]; omega
  have e2 := u64_and_nat (18446744073709551616 - n) 31 (by omega) (by decide)
  rw [e]
  refine Eq.trans e2 ?_
  have e3 : (18446744073709551616 - n) &&& 31 = (18446744073709551616 - n) % 2 ^ 5 := Nat.and_two_pow_sub_one_eq_mod _ 5
  rw [e3]
  omega

end Go.Proofs.YtbdjkihgcmebgaaGreatDoor
/- What the constants' functions of layer 7 and of its reference return. -/
namespace Go.Proofs.YtbdjkihgcmebgaaGreatDoor
open Go.RowKit

/-- Words as cells. -/
def wc (l : List (BitVec 32)) : List Value := l.map fun x => Value.int .u32 (x.toNat : Int)
theorem wc_length (l : List (BitVec 32)) : (wc l).length = l.length := by simp [wc]
theorem wc_one (l : List (BitVec 32)) : (wc l).toArray.all (·.oneCell') = true := by
  rw [Array.all_eq_true_iff_forall_mem]
  intro v hv
  obtain ⟨x, _, rfl⟩ := List.mem_map.1 (by simpa [wc] using hv)
  rfl
theorem wc_get (l : List (BitVec 32)) (i : Nat) (h : i < l.length) : (wc l).toArray[i]? = some (.int .u32 ((l.getD i 0).toNat : Int)) := by
  simp [wc, List.getD, h]

theorem kL_length : kL.length = 64 := rfl
theorem info_u32 : (Tryz.prog.info? 118).map (·.size) = some 1 := by kernel_rfl
theorem wc_ints (l : List (BitVec 32)) : ((l.map fun x => (x.toNat : Int)).map (Value.int .u32)).toArray = (wc l).toArray := by simp [wc]

/-- A new variable of many cells, as an operation: its cells are what they are called. -/
theorem wpList_allocZ {P : Program} {ops : Array Oper} {rest : List Oper} {o : Oper} {a : Act} {w : World} {Q : Exit → Act → World → Prop} (hg : o.guard = none) (t : TypeId) (ho : o.op = .alloc t) (C : Array Value) (hz : ∀ w : World, (zeroValue t).run P w = .ok (.agg C) w)
    (h : wpList P ops Q rest (a.put o.dst (.pointer (some ⟨w.heap.size, 0, none⟩))) (w.alloc (.cells C t))) : wpList P ops Q (o :: rest) a w := by
  refine wpList_plain hg fun K hK => ?_
  unfold Oper.wp execOp
  simp only [ho, Instr.alloc, Sem.run_bind, hz, Result.andThen_ok, newVar, Sem.run_pure]
  exact hK _ _ h

def kZ : List Int := [1116352408, 1899447441, 3049323471, 3921009573, 961987163, 1508970993, 2453635748, 2870763221, 3624381080, 310598401, 607225278, 1426881987, 1925078388, 2162078206, 2614888103, 3248222580, 3835390401, 4022224774, 264347078, 604807628, 770255983, 1249150122, 1555081692, 1996064986, 2554220882, 2821834349, 2952996808, 3210313671, 3336571891, 3584528711, 113926993, 338241895, 666307205, 773529912, 1294757372, 1396182291, 1695183700, 1986661051, 2177026350, 2456956037, 2730485921, 2820302411, 3259730800, 3345764771, 3516065817, 3600352804, 4094571909, 275423344, 430227734, 506948616, 659060556, 883997877, 958139571, 1322822218, 1537002063, 1747873779, 1955562222, 2024104815, 2227730452, 2361852424, 2428436474, 2756734187, 3204031479, 3329325298]
theorem kZ_eq : (kL.map fun x => (x.toNat : Int)) = kZ := rfl
end Go.Proofs.YtbdjkihgcmebgaaGreatDoor
/- What words of layer 7 returns: the 64 words of a block. -/
namespace Go.Proofs.YtbdjkihgcmebgaaGreatDoor
open Go.RowKit

/-- A cut 'b[i:j]'. -/
theorem Rd.mid {w : World} {B n i j : Nat} {A : Option Addr} {l : List UInt8} (h : Rd w B A n l) (hij : i ≤ j) (hj : j ≤ n) : Rd w B (A.map (·.add i)) (j - i) ((l.drop i).take (j - i)) :=
  (h.cut (k := i)).take (by omega)
theorem cut_lh {P : Program} {w : World} {B n : Nat} {A : Option Addr} {l : List UInt8} (t e : TypeId) (ht : P.underlying t = some (.slice e)) (hz : ∀ W : World, (sizeOf e).run P W = .ok 1 W) (c : Nat) (h : Rd w B A n l) (x y : Int) (i j : Nat) (hx : x = (i : Int)) (hy : y = (j : Int)) (hij : i < j) (hj : j ≤ n) (hc : n ≤ c) :
    ∃ A' c', (∀ W : World, (Instr.slice t (.slice A n c) (some (.int .i64 x)) (some (.int .i64 y)) none).run P W = .ok (.slice A' (j - i) c') W) ∧ j - i ≤ c' ∧ c' ≤ c ∧ Rd w B A' (j - i) ((l.drop i).take (j - i)) := by
  subst hx hy
  refine ⟨A.map (·.add i), c - i, fun W => ?_, by omega, by omega, h.mid (by omega) hj⟩
  have h1 : ¬ c = i := by omega
  have h2 : j ≤ c := by omega
  have h3 : i ≤ j := by omega
  go_simp

theorem wL_getD (b : List UInt8) (k j : Nat) : (wL b (k + 1)).getD j 0 = if j = k then wnx b (wL b k) k else (wL b k).getD j 0 := by
  have hl := wL_length b k
  by_cases h : j = k
  · subst h
    rw [if_pos rfl, wL]
    simp [List.getD, hl]
  · rw [if_neg h, wL]
    rcases Nat.lt_or_ge j k with h1 | h1
    · simp [List.getD, List.getElem?_append_left (show j < (wL b k).length by omega)]
    · simp [List.getD, List.getElem?_eq_none (l := wL b k) (i := j) (by omega), List.getElem?_eq_none (l := wL b k ++ [wnx b (wL b k) k]) (i := j) (by simp [hl]; omega)]

/-- The row of words behind k rounds. -/
def WRow (w : World) (g : Nat) (t : TypeId) (b : List UInt8) (k : Nat) : Prop := w.rowIs g t 64 (fun j => .int .u32 (((wL b k).getD j 0).toNat : Int))
theorem WRow.push {w : World} {g : Nat} {t : TypeId} {b : List UInt8} {k : Nat} (h : WRow w g t b k) {v : Value} (hv : v = .int .u32 ((wnx b (wL b k) k).toNat : Int)) : WRow (w.setCell ⟨g, k, none⟩ v) g t b (k + 1) := by
  subst hv
  refine (World.rowIs.set h k _).congr fun j _ => ?_
  rw [wL_getD]
  split <;> rfl
theorem rowIs_zero (w : World) (t : TypeId) (n : Nat) (z : Value) : (w.alloc (.cells (Array.replicate n z) t)).rowIs w.heap.size t n (fun _ => z) := by
  have h := World.rowIs_alloc w (Array.replicate n z) t (fun _ => z) (fun i hi => by
    have hi' : i < n := by simpa using hi
    simp [hi'])
  rwa [Array.size_replicate] at h
/-- The row as an array of cells. -/
theorem rowIs_cells {w : World} {g n : Nat} {t : TypeId} {l : List (BitVec 32)} (hl : l.length = n) (h : w.rowIs g t n (fun j => .int .u32 ((l.getD j 0).toNat : Int))) : w.heap[g]? = some (.cells (wc l).toArray t (0, 0)) := by
  obtain ⟨c, hb, hs, hc⟩ := h
  have e : c = (wc l).toArray := by
    apply Array.ext_getElem?
    intro i
    rcases Nat.lt_or_ge i n with hi | hi
    · rw [hc i hi, wc_get l i (by omega)]
    · rw [Array.getElem?_eq_none (by omega), Array.getElem?_eq_none (by rw [List.size_toArray, wc_length]; omega)]
  rw [hb, e]

theorem low32 (N : Nat) : Value.int .u32 ((N : Int) % 4294967296) = .int .u32 ((BitVec.ofNat 32 N).toNat : Int) := by
  rw [BitVec.toNat_ofNat]; rfl
theorem wnx_lo (b : List UInt8) (l : List (BitVec 32)) (k : Nat) (h : k < 16) : wnx b l k = BitVec.ofNat 32 (beNat ((b.drop (4 * k)).take 4)) := by unfold wnx; rw [if_pos h]
theorem wnx_hi (b : List UInt8) (l : List (BitVec 32)) (k : Nat) (h : ¬ k < 16) : wnx b l k = l.getD (k - 16) 0 + tT (l.getD (k - 15) 0) 7 18 3 + l.getD (k - 7) 0 + tT (l.getD (k - 2) 0) 17 19 10 := by unfold wnx; rw [if_neg h]

theorem below_dN (B : Nat) (w : World) (k : Nat) : Below B w (w.drewN k) := ⟨rfl, rfl, rfl, Nat.le_refl _, fun _ _ => rfl⟩

end Go.Proofs.YtbdjkihgcmebgaaGreatDoor
/- What Put, Get and Hex of layer 1's reference return. -/
namespace Go.Proofs.YtbdjkihgcmebgaaGreatDoor
open Go.RowKit

set_option maxRecDepth 100000 in
set_option maxHeartbeats 1000000 in
theorem rget_any (A : Option Addr) (n c : Nat) (l : List UInt8) (w : World) (B : Nat) (h : Rd w B A n l) (hn : n ≤ 140737488355328) :
    Calls Tryz.prog 63 #[.slice A n c] w fun e w' => e = .returned (.int .u64 (beNat l : Int)) ∧ w = w' := by
  have HR := Lib.hid h
  clear h
  go_enter Tryz.func63, Tryz.ntmps63
  go_wp2
  go_loop [3, 4] (fun v i => ∃ (k d : Nat), k ≤ n ∧ i = .int .i64 k ∧ v = .int .u64 (d : Int) ∧ Hid (d = beNat (l.take k)) ∧ d < 18446744073709551616) (fun _ i => n - (intOf i).toNat)
  case atStart => exact ⟨0, 0, Nat.zero_le _, rfl, rfl, rfl, by decide⟩
  case round =>
    obtain ⟨k, d, hk, rfl, rfl, hd, hdl⟩ := hrel
    by_cases hlt : k < n
    · obtain ⟨b, o, rfl, hb, hcell⟩ := HR.out.2 (by omega)
      obtain ⟨x, hx⟩ : ∃ x, x = l.getD k 0 := ⟨_, rfl⟩
      have hcx : w.cell? ⟨b, o + k, none⟩ = some (.int .u8 (x.toNat : Int)) := by rw [hx]; exact hcell k hlt
      have Hx := Lib.hid hx
      clear hx hcell
      have hx1 : (x.toNat : Int) < 256 := by have := x.toNat_lt; omega
      have hx0 : (0 : Int) ≤ (x.toNat : Int) := by omega
      go_wp2_with fail
      go_round
      case rel =>
        have hl := HR.out.1
        refine ⟨k + 1, (d * 256 + x.toNat) % 18446744073709551616, by omega, by go_num, ?_, ?_, Nat.mod_lt _ (by decide)⟩
        · rw [IntKind.wrap_u64, IntKind.wrap_u64]; congr 1; omega
        · show _ = _
          rw [take_more l k (by omega), ← Hx.out, beNat_snoc, ← hd.out]
      case measure => simp [intOf]; omega
    · obtain rfl : k = n := by omega
      have hl := HR.out.1
      have e : l.take k = l := List.take_of_length_le (by omega)
      have HE := Lib.hid e
      clear e hl
      go_wp2
      go_ret
      exact ⟨by rw [hd.out, HE.out]; rfl, rfl⟩

/-- append at a step of a region that draws its order, and what else it leaves. -/
theorem step_appG {P : Program} {w : World} {ops : Array Oper} {o : Oper} {a : Act} {K : Act → World → Prop} {Q : Exit → Act → World → Prop} {E : Prop} (hgd : o.guard = none) (s x : Operand) (t : TypeId)
    (ho : o.op = .call { callee := .builtin .append, args := #[s, x], argTypes := #[t, t] })
    (base : Nat) (e : TypeId) (ht : P.underlying t = some (.slice e)) (hinfo : (P.info? e).map (fun i => (i.zero, i.size, i.bytes)) = some (some (.int .u8 0), 1, 1))
    (v : Value) (l : List UInt8) (hs : a.eval s = v) (hown : Ob w base e v l) (B : Nat) (A : Option Addr) (m c : Nat) (news : List UInt8) (hx : a.eval x = .slice A m c) (hr : Rd w B A m news)
    (hbound : l.length + m ≤ 140737488355328) (hbase : base ≤ w.heap.size)
    (h : ∀ v' w', Ob w' base e v' (l ++ news) → w.grownBy w' v.ownBlock → K (a.put o.dst v') w') : if Region.wanted o (yielded ops a.tmps) = true then Oper.wp P o a w K Q else E := by
  have hw : Region.wanted o (yielded ops a.tmps) = true := by simp [Region.wanted, hgd]
  rw [if_pos hw]
  obtain ⟨v', w', hrun, h2, h3, h4⟩ := run_app (P := P) w base t o.type e ht hinfo v l hown B A m c news hr hbound hbase
  unfold Oper.wp execOp
  simp only [ho, resolve, invoke, builtin, Sem.run_bind, Sem.run_pure, Result.andThen_ok, List.map_toArray, List.map_cons, List.map_nil, hs, hx, hrun]
  exact h v' w' h2 h3
theorem Rd.grown {w w' : World} {B n : Nat} {A : Option Addr} {l : List UInt8} {row : Option Nat} (h : Rd w B A n l) (hg : w.grownBy w' row) (hB : B ≤ w.heap.size) (hne : ∀ b o, A = some ⟨b, o, none⟩ → row ≠ some b) : Rd w' B A n l :=
  ⟨h.1, fun hn => by
    obtain ⟨b, o, e, hb, hc⟩ := h.2 hn
    refine ⟨b, o, e, hb, fun i hi => ?_⟩
    rw [← hc i hi]
    simp only [World.cell?]
    rw [hg.block b (by omega) (fun h => hne b o e h.symm)]⟩

theorem grown_trans {w0 W w' : World} {t : TypeId} {v : Value} {l : List UInt8} (hg : W.grownBy w' v.ownBlock) (hown : Ob W w0.heap.size t v l) (hb : Below w0.heap.size w0 W) : Below w0.heap.size w0 w' :=
  hb.trans ⟨hg.os, hg.tape, hg.output, hg.size, fun k hk => hg.block k (Nat.lt_of_lt_of_le hk hb.size) (fun e => by have := (World.ownsRow.lt hown k e.symm).1; omega)⟩

/-- The digits of bytes. -/
def dgt (x : Nat) : UInt8 := if x < 10 then UInt8.ofNat (48 + x) else UInt8.ofNat (87 + x)
def hexL (l : List UInt8) : List UInt8 := l.flatMap fun x => [dgt (x.toNat / 16), dgt (x.toNat % 16)]
theorem hexL_snoc (l : List UInt8) (x : UInt8) : hexL (l ++ [x]) = hexL l ++ [dgt (x.toNat / 16)] ++ [dgt (x.toNat % 16)] := by
  simp [hexL]
def digs : ByteArray := ⟨#[48, 49, 50, 51, 52, 53, 54, 55, 56, 57, 97, 98, 99, 100, 101, 102]⟩


end Go.Proofs.YtbdjkihgcmebgaaGreatDoor
