/- Sums of bytes by a shift register over n bits, as plain functions: that it is linear, that a burst no longer than n is told, and what bytes with their own sum behind them come to. No program's number stands here. -/
import Derived.WalkKit
namespace Go.Proofs.YtahgaogmcffglaaDoor

section
variable {n : Nat}

/-- One step: shifted to the right, and put together with p if a one went out. -/
def stp (p c : BitVec n) : BitVec n := if c.getLsbD 0 then (c >>> 1) ^^^ p else c >>> 1
/-- k steps. -/
def stpN (p : BitVec n) : Nat → BitVec n → BitVec n
  | 0, c => c
  | k + 1, c => stpN p k (stp p c)

theorem stp_xor (p a b : BitVec n) : stp p (a ^^^ b) = stp p a ^^^ stp p b := by
  unfold stp
  rw [BitVec.getLsbD_xor, BitVec.ushiftRight_xor_distrib]
  cases a.getLsbD 0 <;> cases b.getLsbD 0 <;> simp
  · rw [BitVec.xor_assoc]
  · rw [BitVec.xor_assoc, BitVec.xor_assoc, BitVec.xor_comm p]
  · rw [show a >>> 1 ^^^ p ^^^ (b >>> 1 ^^^ p) = a >>> 1 ^^^ b >>> 1 ^^^ (p ^^^ p) by ac_rfl, BitVec.xor_self, BitVec.xor_zero]
theorem stp_zero (p : BitVec n) : stp p 0#n = 0#n := by simp [stp]
theorem stpN_xor (p : BitVec n) : ∀ (k : Nat) (a b : BitVec n), stpN p k (a ^^^ b) = stpN p k a ^^^ stpN p k b
  | 0, _, _ => rfl
  | k + 1, a, b => by rw [stpN, stp_xor, stpN_xor p k]; rfl
theorem stpN_zero (p : BitVec n) : ∀ k, stpN p k 0#n = 0#n
  | 0 => rfl
  | k + 1 => by rw [stpN, stp_zero, stpN_zero p k]

/-- Nothing but nought comes to nought, if p's highest bit is one. -/
theorem stp_eq_zero (p c : BitVec n) (hp : p.msb = true) (h : stp p c = 0#n) : c = 0#n := by
  unfold stp at h
  by_cases hc : c.getLsbD 0
  · rw [if_pos hc] at h
    have e : c >>> 1 = p := by
      have := congrArg (· ^^^ p) h
      simpa [BitVec.xor_assoc] using this
    rw [← e] at hp
    have hn : 0 < n := by
      rcases Nat.eq_zero_or_pos n with h0 | h0
      · subst h0; simp [BitVec.msb_eq_getLsbD_last] at hp
      · exact h0
    simp [BitVec.msb_eq_getLsbD_last, BitVec.getLsbD_ushiftRight] at hp
    have := BitVec.getLsbD_of_ge c (1 + (n - 1)) (by omega)
    rw [this] at hp
    cases hp
  · rw [if_neg hc] at h
    apply BitVec.eq_of_getLsbD_eq
    intro i hi
    rcases i with _ | i
    · simpa using hc
    · have := congrArg (fun v : BitVec n => v.getLsbD i) h
      simp [BitVec.getLsbD_ushiftRight] at this
      rw [Nat.add_comm]
      simpa using this
theorem stpN_eq_zero (p : BitVec n) (hp : p.msb = true) : ∀ (k : Nat) (c : BitVec n), stpN p k c = 0#n → c = 0#n
  | 0, _, h => h
  | k + 1, c, h => stp_eq_zero p c hp (stpN_eq_zero p hp k _ h)

/-! ### Bit by bit -/

/-- A bit as a number. -/
def b1 (n : Nat) (b : Bool) : BitVec n := if b then 1#n else 0#n
/-- A row of bits, the lowest first, goes through. -/
def fb (p : BitVec n) (c : BitVec n) (l : List Bool) : BitVec n := l.foldl (fun c b => stp p (c ^^^ b1 n b)) c
/-- A row of bits as a number, the lowest first. -/
def vl (n : Nat) : List Bool → BitVec n
  | [] => 0#n
  | b :: t => b1 n b ^^^ (vl n t <<< 1)

theorem vl_bit : ∀ (l : List Bool) (i : Nat), i < n → (vl n l).getLsbD i = l.getD i false
  | [], i, _ => by simp [vl, List.getD]
  | b :: t, 0, h => by
    have h1 : (b1 n b).getLsbD 0 = b := by cases b <;> simp [b1, h]
    simp [vl, BitVec.getLsbD_xor, h1, BitVec.getLsbD_shiftLeft, List.getD]
  | b :: t, i + 1, h => by
    have h1 : (b1 n b).getLsbD (i + 1) = false := by cases b <;> simp [b1]
    have h2 := vl_bit t i (by omega)
    rw [vl, BitVec.getLsbD_xor, h1, BitVec.getLsbD_shiftLeft, Nat.add_sub_cancel, h2]
    simp [h, List.getD]

theorem stp_shl (p v : BitVec n) (hn : 0 < n) (hv : v.getLsbD (n - 1) = false) : stp p (v <<< 1) = v := by
  unfold stp
  rw [if_neg (by simp [BitVec.getLsbD_shiftLeft])]
  apply BitVec.eq_of_getLsbD_eq
  intro i hi
  rw [BitVec.getLsbD_ushiftRight, BitVec.getLsbD_shiftLeft]
  by_cases h : 1 + i < n
  · simp [h]
  · have e : i = n - 1 := by omega
    subst e
    rw [hv]
    simp [h]

/-- No more bits than the register has: they might have been put in all at once. -/
theorem fb_vl (p : BitVec n) : ∀ (l : List Bool) (c : BitVec n), l.length ≤ n → fb p c l = stpN p l.length (c ^^^ vl n l)
  | [], c, _ => by simp [fb, vl, stpN]
  | b :: t, c, h => by
    have ht : t.length + 1 ≤ n := by simpa using h
    have e : fb p c (b :: t) = fb p (stp p (c ^^^ b1 n b)) t := rfl
    have hv : (vl n t).getLsbD (n - 1) = false := by
      rw [vl_bit t (n - 1) (by omega)]
      simp only [List.getD]
      rw [List.getElem?_eq_none (by omega)]
      rfl
    rw [e, fb_vl p t _ (by omega), List.length_cons, stpN, vl, ← BitVec.xor_assoc, stp_xor p (c ^^^ b1 n b), stp_shl p (vl n t) (by omega) hv]

theorem vl_zero (l : List Bool) (hl : l.length ≤ n) (h : vl n l = 0#n) : ∀ b ∈ l, b = false := by
  intro b hb
  obtain ⟨i, hi, e⟩ := List.getElem_of_mem hb
  have := vl_bit (n := n) l i (by omega)
  rw [h] at this
  simp [List.getD, hi] at this
  rw [← e]; exact this

theorem fb_append (p c : BitVec n) (l m : List Bool) : fb p c (l ++ m) = fb p (fb p c l) m := by simp [fb, List.foldl_append]
theorem fb_false (p : BitVec n) : ∀ (l : List Bool) (c : BitVec n), (∀ b ∈ l, b = false) → fb p c l = stpN p l.length c
  | [], _, _ => rfl
  | b :: t, c, h => by
    have hb : b = false := h b (by simp)
    subst hb
    have e : fb p c (false :: t) = fb p (stp p (c ^^^ b1 n false)) t := rfl
    rw [e, fb_false p t _ (fun b hb => h b (by simp [hb]))]
    simp [b1, stpN]

theorem fb_xor (p : BitVec n) : ∀ (l m : List Bool) (a b : BitVec n), l.length = m.length → fb p (a ^^^ b) (List.zipWith (· ^^ ·) l m) = fb p a l ^^^ fb p b m
  | [], [], _, _, _ => rfl
  | [], _ :: _, _, _, h => by simp at h
  | _ :: _, [], _, _, h => by simp at h
  | x :: l, y :: m, a, b, h => by
    have hb : b1 n (x ^^ y) = b1 n x ^^^ b1 n y := by cases x <;> cases y <;> simp [b1]
    have e1 : fb p (a ^^^ b) (List.zipWith (· ^^ ·) (x :: l) (y :: m)) = fb p (stp p ((a ^^^ b) ^^^ b1 n (x ^^ y))) (List.zipWith (· ^^ ·) l m) := rfl
    have e2 : fb p a (x :: l) = fb p (stp p (a ^^^ b1 n x)) l := rfl
    have e3 : fb p b (y :: m) = fb p (stp p (b ^^^ b1 n y)) m := rfl
    rw [e1, e2, e3, hb, show a ^^^ b ^^^ (b1 n x ^^^ b1 n y) = (a ^^^ b1 n x) ^^^ (b ^^^ b1 n y) by ac_rfl, stp_xor, fb_xor p l m _ _ (by simpa using h)]

/-- A burst no longer than the register is told: noughts, then no more than n bits, then noughts, come to nought only if all are nought. -/
theorem fb_burst (p : BitVec n) (hp : p.msb = true) (a w z : List Bool) (ha : ∀ b ∈ a, b = false) (hz : ∀ b ∈ z, b = false) (hw : w.length ≤ n) (h : fb p 0#n (a ++ w ++ z) = 0#n) : ∀ b ∈ w, b = false := by
  rw [fb_append, fb_append, fb_false p a _ ha, stpN_zero, fb_false p z _ hz] at h
  have h1 := stpN_eq_zero p hp _ _ h
  rw [fb_vl p w _ hw, BitVec.zero_xor] at h1
  exact vl_zero w hw (stpN_eq_zero p hp _ _ h1)

theorem xor_false_eq {a b : Bool} (h : (a ^^ b) = false) : a = b := by cases a <;> cases b <;> simp_all
/-- Two rows that differ in a window of n bits alone come to the same only if they are the same. -/
theorem fb_tells (p : BitVec n) (hp : p.msb = true) (c : BitVec n) (l m : List Bool) (hl : l.length = m.length) (from_ : Nat) (hw : ∀ i, i < l.length → l.getD i false ≠ m.getD i false → from_ ≤ i ∧ i < from_ + n)
    (h : fb p c l = fb p c m) : l = m := by
  have hx := fb_xor p l m c c hl
  rw [BitVec.xor_self, h, BitVec.xor_self] at hx
  generalize he : List.zipWith (· ^^ ·) l m = e at hx
  have hel : e.length = l.length := by rw [← he]; simp [hl]
  have hei : ∀ i, i < l.length → e.getD i false = (l.getD i false ^^ m.getD i false) := by
    intro i hi
    have hi' : i < m.length := by omega
    rw [← he, List.getD_eq_getElem?_getD, List.getD_eq_getElem?_getD, List.getD_eq_getElem?_getD, List.getElem?_zipWith, List.getElem?_eq_getElem hi, List.getElem?_eq_getElem hi']
    rfl
  have hsplit : e = e.take from_ ++ (e.drop from_).take n ++ (e.drop from_).drop n := by
    rw [List.append_assoc, List.take_append_drop, List.take_append_drop]
  have hout : ∀ i, i < l.length → ¬ (from_ ≤ i ∧ i < from_ + n) → e.getD i false = false := by
    intro i hi hni
    rw [hei i hi]
    have : l.getD i false = m.getD i false := by
      rcases Classical.em (l.getD i false = m.getD i false) with h | h
      · exact h
      · exact absurd (hw i hi h) hni
    rw [this]; simp
  have ha : ∀ b ∈ e.take from_, b = false := by
    intro b hb
    obtain ⟨i, hi, eb⟩ := List.getElem_of_mem hb
    have hi2 : i < from_ ∧ i < e.length := by simp at hi; omega
    have := hout i (by omega) (by omega)
    simp [List.getD, hi2.2] at this
    rw [← eb]; simpa using this
  have hz : ∀ b ∈ (e.drop from_).drop n, b = false := by
    intro b hb
    obtain ⟨i, hi, eb⟩ := List.getElem_of_mem hb
    have hi2 : from_ + n + i < e.length := by simp at hi; omega
    have := hout (from_ + n + i) (by omega) (by omega)
    simp [List.getD, hi2] at this
    rw [← eb]
    simp
    exact this
  rw [hsplit] at hx
  have hww := fb_burst p hp _ _ _ ha hz (by simp; omega) hx
  have hall : ∀ b ∈ e, b = false := by
    intro b hb
    rw [hsplit, List.mem_append, List.mem_append] at hb
    rcases hb with (hb | hb) | hb
    · exact ha b hb
    · exact hww b hb
    · exact hz b hb
  apply List.ext_getElem hl
  intro i h1 h2
  have h3 := hei i h1
  have h4 : e.getD i false = false := by
    have hi : i < e.length := by omega
    simp [List.getD, hi]
    exact hall _ (List.getElem_mem hi)
  rw [h4, List.getD_eq_getElem?_getD, List.getD_eq_getElem?_getD, List.getElem?_eq_getElem h1, List.getElem?_eq_getElem h2, Option.getD_some, Option.getD_some] at h3
  exact xor_false_eq h3.symm

/-! ### Byte by byte -/

/-- A byte's bits, the lowest first. -/
def bits8 (x : UInt8) : List Bool := (List.range 8).map fun i => x.toNat.testBit i
/-- A byte is put to the lowest eight bits, then eight steps. -/
def byt (p c : BitVec n) (x : UInt8) : BitVec n := stpN p 8 (c ^^^ BitVec.ofNat n x.toNat)
/-- All bytes. -/
def fB (p c : BitVec n) (l : List UInt8) : BitVec n := l.foldl (byt p) c
def bitsOf (l : List UInt8) : List Bool := l.flatMap bits8

theorem bits8_length (x : UInt8) : (bits8 x).length = 8 := by simp [bits8]
theorem bits8_at (x : UInt8) (i : Nat) (h : i < 8) : (bits8 x)[i]? = some (x.toNat.testBit i) := by simp [bits8, h]
theorem vl_bits8 (x : UInt8) : vl n (bits8 x) = BitVec.ofNat n x.toNat := by
  apply BitVec.eq_of_getLsbD_eq
  intro i hi
  rw [vl_bit _ _ hi, BitVec.getLsbD_ofNat, List.getD_eq_getElem?_getD]
  by_cases h8 : i < 8
  · rw [bits8_at x i h8]; simp [hi]
  · rw [List.getElem?_eq_none (by rw [bits8_length]; omega)]
    have hlt : x.toNat < 2 ^ i := Nat.lt_of_lt_of_le x.toNat_lt (Nat.pow_le_pow_right (by decide) (by omega))
    simp [Nat.testBit_lt_two_pow hlt]
theorem byt_fb (p c : BitVec n) (x : UInt8) (h : 8 ≤ n) : byt p c x = fb p c (bits8 x) := by
  rw [fb_vl p _ _ (by rw [bits8_length]; exact h), bits8_length, vl_bits8 x]; rfl
theorem fB_fb (p : BitVec n) (h : 8 ≤ n) : ∀ (l : List UInt8) (c : BitVec n), fB p c l = fb p c (bitsOf l)
  | [], _ => rfl
  | x :: l, c => by
    have e : fB p c (x :: l) = fB p (byt p c x) l := rfl
    rw [e, fB_fb p h l, byt_fb p c x h, show bitsOf (x :: l) = bits8 x ++ bitsOf l from rfl, fb_append]
theorem bitsOf_length (l : List UInt8) : (bitsOf l).length = 8 * l.length := by
  induction l with
  | nil => rfl
  | cons x l ih => rw [bitsOf, List.flatMap_cons, List.length_append, bits8_length, ← bitsOf, ih, List.length_cons]; omega
theorem bitsOf_at : ∀ (l : List UInt8) (i : Nat), (bitsOf l).getD i false = (l.getD (i / 8) 0).toNat.testBit (i % 8)
  | [], i => by simp [bitsOf]
  | x :: l, i => by
    rw [bitsOf, List.flatMap_cons, List.getD_eq_getElem?_getD]
    by_cases h : i < 8
    · rw [List.getElem?_append_left (by rw [bits8_length]; exact h), bits8_at x i h, Nat.div_eq_of_lt h, Nat.mod_eq_of_lt h]; rfl
    · rw [List.getElem?_append_right (by rw [bits8_length]; omega), bits8_length]
      have ih := bitsOf_at l (i - 8)
      rw [List.getD_eq_getElem?_getD] at ih
      rw [show l.flatMap bits8 = bitsOf l from rfl, ih, show (i - 8) % 8 = i % 8 by omega, show i / 8 = (i - 8) / 8 + 1 by omega]
      simp [List.getD]
theorem byte_ext {x y : UInt8} (h : ∀ i, i < 8 → x.toNat.testBit i = y.toNat.testBit i) : x = y := by
  apply UInt8.toNat_inj.1
  apply Nat.eq_of_testBit_eq
  intro i
  by_cases h8 : i < 8
  · exact h i h8
  · have hx : x.toNat < 2 ^ i := Nat.lt_of_lt_of_le x.toNat_lt (Nat.pow_le_pow_right (by decide) (by omega))
    have hy : y.toNat < 2 ^ i := Nat.lt_of_lt_of_le y.toNat_lt (Nat.pow_le_pow_right (by decide) (by omega))
    rw [Nat.testBit_lt_two_pow hx, Nat.testBit_lt_two_pow hy]
theorem bitsOf_inj {l m : List UInt8} (hl : l.length = m.length) (h : bitsOf l = bitsOf m) : l = m := by
  apply List.ext_getElem hl
  intro i h1 h2
  apply byte_ext
  intro j hj
  have e1 := bitsOf_at l (8 * i + j)
  have e2 := bitsOf_at m (8 * i + j)
  rw [h, e2] at e1
  rw [show (8 * i + j) / 8 = i by omega, show (8 * i + j) % 8 = j by omega] at e1
  rw [List.getD_eq_getElem?_getD, List.getD_eq_getElem?_getD, List.getElem?_eq_getElem h1, List.getElem?_eq_getElem h2] at e1
  exact e1.symm

/-- BURSTS ARE TOLD: of two rows of bytes, as long, that differ in a window of n bits alone, the sums are the same only if they are the same. -/
theorem fB_tells (p : BitVec n) (hn : 8 ≤ n) (hp : p.msb = true) (c : BitVec n) (l m : List UInt8) (hl : l.length = m.length) (from_ : Nat)
    (hw : ∀ i, i < 8 * l.length → (l.getD (i / 8) 0).toNat.testBit (i % 8) ≠ (m.getD (i / 8) 0).toNat.testBit (i % 8) → from_ ≤ i ∧ i < from_ + n)
    (h : fB p c l = fB p c m) : l = m := by
  rw [fB_fb p hn, fB_fb p hn] at h
  refine bitsOf_inj hl (fb_tells p hp c _ _ (by rw [bitsOf_length, bitsOf_length, hl]) from_ (fun i hi hne => ?_) h)
  rw [bitsOf_length] at hi
  rw [bitsOf_at, bitsOf_at] at hne
  exact hw i hi hne

theorem byt_xor (p a b : BitVec n) (x y : UInt8) : byt p (a ^^^ b) (x ^^^ y) = byt p a x ^^^ byt p b y := by
  unfold byt
  have e : BitVec.ofNat n (x ^^^ y).toNat = BitVec.ofNat n x.toNat ^^^ BitVec.ofNat n y.toNat := by
    apply BitVec.eq_of_getLsbD_eq
    intro i hi
    simp [hi]
  rw [e, show a ^^^ b ^^^ (BitVec.ofNat n x.toNat ^^^ BitVec.ofNat n y.toNat) = (a ^^^ BitVec.ofNat n x.toNat) ^^^ (b ^^^ BitVec.ofNat n y.toNat) by ac_rfl, stpN_xor]
/-- SUMS ARE LINEAR. -/
theorem fB_xor (p : BitVec n) : ∀ (l m : List UInt8) (a b : BitVec n), l.length = m.length → fB p (a ^^^ b) (List.zipWith (· ^^^ ·) l m) = fB p a l ^^^ fB p b m
  | [], [], _, _, _ => rfl
  | [], _ :: _, _, _, h => by simp at h
  | _ :: _, [], _, _, h => by simp at h
  | x :: l, y :: m, a, b, h => by
    have e1 : fB p (a ^^^ b) (List.zipWith (· ^^^ ·) (x :: l) (y :: m)) = fB p (byt p (a ^^^ b) (x ^^^ y)) (List.zipWith (· ^^^ ·) l m) := rfl
    rw [e1, byt_xor, fB_xor p l m _ _ (by simpa using h)]
    rfl
theorem fB_append (p c : BitVec n) (l m : List UInt8) : fB p c (l ++ m) = fB p (fB p c l) m := by simp [fB, List.foldl_append]
theorem fB_snoc (p c : BitVec n) (l : List UInt8) (x : UInt8) : fB p c (l ++ [x]) = byt p (fB p c l) x := by rw [fB_append]; rfl

/-- Bytes whose bits are those of v go in at once. -/
theorem fB_once (p c v : BitVec n) (m : List UInt8) (hn : 8 ≤ n) (hm : 8 * m.length = n) (hv : ∀ i, i < n → v.getLsbD i = (m.getD (i / 8) 0).toNat.testBit (i % 8)) : fB p c m = stpN p n (c ^^^ v) := by
  rw [fB_fb p hn, fb_vl p _ _ (by rw [bitsOf_length]; omega), bitsOf_length, hm]
  congr 2
  apply BitVec.eq_of_getLsbD_eq
  intro i hi
  rw [vl_bit _ _ hi, bitsOf_at, hv i hi]
end

/-! ### The two sums of layer 2 -/
def p16 : BitVec 16 := 0x8408#16
def p32 : BitVec 32 := 0x82f63b78#32
def s16 (l : List UInt8) : BitVec 16 := ~~~ fB p16 0xffff#16 l
def s32 (l : List UInt8) : BitVec 32 := ~~~ fB p32 0xffffffff#32 l

theorem le16 (v : BitVec 16) (i : Nat) (hi : i < 16) : v.getLsbD i = (([UInt8.ofNat v.toNat, UInt8.ofNat (v.toNat / 256)] : List UInt8).getD (i / 8) 0).toNat.testBit (i % 8) := by
  have e : v.getLsbD i = v.toNat.testBit i := rfl
  rw [e]
  by_cases h : i < 8
  · rw [Nat.div_eq_of_lt h, Nat.mod_eq_of_lt h]
    show _ = (UInt8.ofNat v.toNat).toNat.testBit i
    rw [UInt8.toNat_ofNat', Nat.testBit_mod_two_pow]
    simp [h]
  · rw [show i / 8 = 1 by omega]
    show _ = (UInt8.ofNat (v.toNat / 256)).toNat.testBit (i % 8)
    rw [UInt8.toNat_ofNat', Nat.testBit_mod_two_pow, show (256 : Nat) = 2 ^ 8 from rfl, Nat.testBit_div_two_pow, show i % 8 + 8 = i by omega]
    simp
    omega
theorem le32 (v : BitVec 32) (i : Nat) (hi : i < 32) : v.getLsbD i = (([UInt8.ofNat v.toNat, UInt8.ofNat (v.toNat / 256), UInt8.ofNat (v.toNat / 65536), UInt8.ofNat (v.toNat / 16777216)] : List UInt8).getD (i / 8) 0).toNat.testBit (i % 8) := by
  have e : v.getLsbD i = v.toNat.testBit i := rfl
  rw [e]
  have hm : i % 8 < 8 := Nat.mod_lt _ (by decide)
  rcases (by omega : i / 8 = 0 ∨ i / 8 = 1 ∨ i / 8 = 2 ∨ i / 8 = 3) with h | h | h | h <;> rw [h]
  · show _ = (UInt8.ofNat v.toNat).toNat.testBit (i % 8)
    rw [UInt8.toNat_ofNat', Nat.testBit_mod_two_pow, show i % 8 = i by omega]
    simp; omega
  · show _ = (UInt8.ofNat (v.toNat / 256)).toNat.testBit (i % 8)
    rw [UInt8.toNat_ofNat', Nat.testBit_mod_two_pow, show (256 : Nat) = 2 ^ 8 from rfl, Nat.testBit_div_two_pow, show i % 8 + 8 = i by omega]
    simp; omega
  · show _ = (UInt8.ofNat (v.toNat / 65536)).toNat.testBit (i % 8)
    rw [UInt8.toNat_ofNat', Nat.testBit_mod_two_pow, show (65536 : Nat) = 2 ^ 16 from rfl, Nat.testBit_div_two_pow, show i % 8 + 16 = i by omega]
    simp; omega
  · show _ = (UInt8.ofNat (v.toNat / 16777216)).toNat.testBit (i % 8)
    rw [UInt8.toNat_ofNat', Nat.testBit_mod_two_pow, show (16777216 : Nat) = 2 ^ 24 from rfl, Nat.testBit_div_two_pow, show i % 8 + 24 = i by omega]
    simp; omega

theorem xor_not {n : Nat} (v : BitVec n) : v ^^^ ~~~ v = BitVec.allOnes n := by
  apply BitVec.eq_of_getLsbD_eq
  intro i hi
  simp [hi]
/-- Bytes with their own sum behind them, the lowest byte first, have one and the same sum. -/
theorem s16_goes (l : List UInt8) : s16 (l ++ [UInt8.ofNat (s16 l).toNat, UInt8.ofNat ((s16 l).toNat / 256)]) = 0x0f47#16 := by
  generalize hs : s16 l = v
  show ~~~ fB p16 0xffff#16 (l ++ _) = _
  rw [fB_append, fB_once p16 _ v _ (by decide) rfl (le16 v), ← hs]
  unfold s16
  rw [xor_not]
  decide +kernel
theorem s32_goes (l : List UInt8) : s32 (l ++ [UInt8.ofNat (s32 l).toNat, UInt8.ofNat ((s32 l).toNat / 256), UInt8.ofNat ((s32 l).toNat / 65536), UInt8.ofNat ((s32 l).toNat / 16777216)]) = 0x48674bc7#32 := by
  generalize hs : s32 l = v
  show ~~~ fB p32 0xffffffff#32 (l ++ _) = _
  rw [fB_append, fB_once p32 _ v _ (by decide) rfl (le32 v), ← hs]
  unfold s32
  rw [xor_not]
  decide +kernel
end Go.Proofs.YtahgaogmcffglaaDoor
