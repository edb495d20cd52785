/- The plain mathematics of layer 3: what Encode and Decode answer, as a whole; greater numbers have greater heads. No program's number stands here. -/
import Derived.Test.YtbdjkihgcmebgaaGreatDoorRCborN
import Derived.Test.YtbdjkihgcmebgaaGreatDoorRNumO
namespace Go.Proofs.YtbdjkihgcmebgaaGreatDoor
open Go.RowKit

/-! ### The whole -/
theorem headD_err {l : List UInt8} {e : Int} (h : headD l = .error e) : e = 30 ∨ e = 31 := by
  cases l with
  | nil => rw [headD] at h; cases h; exact .inl rfl
  | cons c t =>
    rw [headD] at h
    split at h
    · cases h; exact .inr rfl
    split at h
    · cases h
    split at h
    · cases h; exact .inl rfl
    split at h
    · cases h; exact .inr rfl
    · cases h
def SubErr (sub : Nat → List UInt8 → Except Int (Itm × Nat × List UInt8)) : Prop := ∀ p l e, sub p l = .error e → e = 30 ∨ e = 31 ∨ e = 32
theorem many_err {sub : Nat → List UInt8 → Except Int (Itm × Nat × List UInt8)} (hs : SubErr sub) : ∀ (n p : Nat) (l : List UInt8) (e : Int), many sub n p l = .error e → e = 30 ∨ e = 31 ∨ e = 32
  | 0, p, l, e, h => by rw [many] at h; cases h
  | n + 1, p, l, e, h => by
    rw [many] at h
    split at h
    next h1 => cases h; exact hs _ _ _ h1
    next h1 =>
    split at h
    next h2 => cases h; exact many_err hs n _ _ _ h2
    · cases h
theorem endl_err {sub : Nat → List UInt8 → Except Int (Itm × Nat × List UInt8)} (hs : SubErr sub) : ∀ (f p : Nat) (l : List UInt8) (e : Int), endl sub f p l = .error e → e = 30 ∨ e = 31 ∨ e = 32
  | 0, p, l, e, h => by rw [endl] at h; cases h; exact .inl rfl
  | f + 1, p, [], e, h => by rw [endl] at h; cases h; exact .inl rfl
  | f + 1, p, c :: r, e, h => by
    rw [endl] at h
    split at h
    · cases h
    split at h
    next h1 => cases h; exact hs _ _ _ h1
    next h1 =>
    split at h
    next h2 => cases h; exact endl_err hs f _ _ _ h2
    · cases h
theorem textD_err {m n p : Nat} {r : List UInt8} {e : Int} (h : textD m n p r = .error e) : e = 30 ∨ e = 31 := by
  rw [textD] at h
  split at h
  · cases h; exact .inr rfl
  split at h
  · cases h; exact .inl rfl
  · cases h
theorem itemD_err {sub : Nat → List UInt8 → Except Int (Itm × Nat × List UInt8)} {deep : Bool} (hs : SubErr sub) : SubErr (itemD sub deep) := by
  intro p l e h
  cases l with
  | nil => rw [itemD] at h; cases h; exact .inl rfl
  | cons c t =>
    rw [itemD] at h
    split at h
    · cases h; exact .inr (.inr rfl)
    split at h
    · split at h
      next h1 => cases h; exact endl_err hs _ _ _ _ h1
      · cases h
    split at h
    next h1 =>
      cases h
      rcases headD_err h1 with h | h
      · exact .inl h
      · exact .inr (.inl h)
    split at h
    · cases h
    split at h
    · split at h
      next h1 => cases h; exact many_err hs _ _ _ _ h1
      · cases h
    · rcases textD_err h with h | h
      · exact .inl h
      · exact .inr (.inl h)
theorem dec_err : ∀ d : Nat, SubErr (dec d)
  | 0 => itemD_err (fun _ _ _ h => by cases h; exact .inr (.inr rfl))
  | d + 1 => itemD_err (dec_err d)

/-- May an item be written? -/
def Fits (x : Itm) : Prop := right x = true ∧ dep x ≤ 8 ∧ par x ≤ 4096
theorem enc_ok {x : Itm} (h : Fits x) : enc x = (wri x, 0) := by
  unfold enc
  rw [if_neg (by rw [h.1]; decide), if_neg (by have := h.2; omega)]
theorem enc_cases (x : Itm) : (Fits x ∧ enc x = (wri x, 0)) ∨ (¬ Fits x ∧ (enc x).1 = [] ∧ ((enc x).2 = 2 ∨ (enc x).2 = 32)) := by
  by_cases h : Fits x
  · exact .inl ⟨h, enc_ok h⟩
  · refine .inr ⟨h, ?_⟩
    unfold enc
    split
    · exact ⟨rfl, .inl rfl⟩
    next h1 =>
    split
    · exact ⟨rfl, .inr rfl⟩
    next h2 => exact absurd ⟨by simpa using h1, by omega, by omega⟩ h
/-- What is written is read as it was, whatever stands behind. -/
theorem decode_wr {x : Itm} (h : Fits x) (hs : Siz x) (m : List UInt8) : decode (wri x ++ m) = (x, ((wri x).length : Int), 0) := by
  unfold decode
  rw [dec_wr x 8 0 m h.1 hs h.2.1 (by have := h.2.2; omega)]
  simp
/-- What is read is written as it was. -/
theorem decode_cases (l : List UInt8) : (∃ e : Int, (e = 30 ∨ e = 31 ∨ e = 32) ∧ decode l = (.zero, 0, e)) ∨
    ∃ x r, l = wri x ++ r ∧ Fits x ∧ Siz x ∧ decode l = (x, ((wri x).length : Int), 0) := by
  unfold decode
  cases h : dec 8 0 l with
  | error e => exact .inl ⟨e, dec_err 8 _ _ _ h, rfl⟩
  | ok v =>
    obtain ⟨x, p, r⟩ := v
    obtain ⟨h1, h2, h3, h4, h5, h6⟩ := dec_ok 8 0 l x p r (by decide) h
    refine .inr ⟨x, r, h1, ⟨h2, h4, by omega⟩, h3, ?_⟩
    subst h1
    simp
/-- A beginning is short. -/
theorem decode_short {x : Itm} (h : Fits x) (hs : Siz x) (cut : Nat) (hc : cut < (wri x).length) : decode ((wri x).take cut) = (.zero, 0, 30) := by
  unfold decode
  rw [dec_short x 8 0 cut h.1 hs h.2.1 (by have := h.2.2; omega) hc]
theorem wr_pos (x : Itm) : 1 ≤ (wri x).length := by
  obtain ⟨c, r, h, _⟩ := wr_ne x
  rw [h]
  simp

/-! ### Greater numbers -/
theorem be_less : ∀ (k x y : Nat), x < y → y < 256 ^ k → Op.bytesLess (be x k) (be y k) = true
  | 0, x, y, h, hy => by simp at hy; omega
  | k + 1, x, y, h, hy => by
    rw [Nat.pow_succ] at hy
    rw [be_succ, be_succ, bl_snoc _ _ _ _ (by rw [be_length, be_length])]
    by_cases e : x / 256 = y / 256
    · have hlt : (UInt8.ofNat x < UInt8.ofNat y) := by
        rw [UInt8.lt_iff_toNat_lt, UInt8.toNat_ofNat', UInt8.toNat_ofNat']
        omega
      rw [e]
      simp [hlt]
    · rw [be_less k _ _ (by omega) (by omega)]
      rfl
theorem hsz_mono (a b : Nat) (h : a < b) : hsz a ≤ hsz b := by unfold hsz; repeat' (split <;> try omega)
theorem hd_less (m a b : Nat) (hm : m ≤ 7) (h : a < b) (hb : b < 18446744073709551616) :
    ((hd m a).length < (hd m b).length) ∨ ((hd m a).length = (hd m b).length ∧ Op.bytesLess (hd m a) (hd m b) = true) := by
  rw [hd_len, hd_len]
  rcases Nat.lt_or_ge (hsz a) (hsz b) with h1 | h1
  · exact .inl (by omega)
  · have e : hsz a = hsz b := Nat.le_antisymm (hsz_mono a b h) h1
    refine .inr ⟨by omega, ?_⟩
    unfold hd
    rcases Nat.lt_or_ge b 24 with h2 | h2
    · have eb : hlow b = b := by unfold hlow; rw [if_pos h2]
      have ea : hlow a = a := by unfold hlow; rw [if_pos (by omega)]
      have hlt : UInt8.ofNat (32 * m + a) < UInt8.ofNat (32 * m + b) := by
        rw [UInt8.lt_iff_toNat_lt, byte_nat _ (by omega), byte_nat _ (by omega)]
        omega
      rw [ea, eb, Op.bytesLess, decide_eq_true hlt]
      rfl
    · have hal : 24 ≤ a := by
        rcases Nat.lt_or_ge a 24 with h3 | h3
        · obtain ⟨g, _, _⟩ := hsz_low b h2
          unfold hsz at e
          rw [if_pos h3] at e
          have hp : 0 < 2 ^ (hlow b - 24) := Nat.pow_pos (by decide)
          unfold hsz at g
          omega
        · exact h3
      have el : hlow a = hlow b := by
        obtain ⟨g1, g2, _⟩ := hsz_low a hal
        obtain ⟨g3, g4, _⟩ := hsz_low b h2
        have := (Nat.pow_right_inj (a := 2) (by decide)).1 (g1.symm.trans (e.trans g3))
        omega
      rw [el, e, Op.bytesLess, be_less _ _ _ h (hsz_bd b hb h2)]
      simp
end Go.Proofs.YtbdjkihgcmebgaaGreatDoor
