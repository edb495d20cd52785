/- The plain mathematics of layer 3: items, the bytes that they are, and how bytes are read. No program's number stands here. -/
import Derived.Test.YtbdjkihgcmebgaaGreatDoorRNumB
namespace Go.Proofs.YtbdjkihgcmebgaaGreatDoor

/-- An item: kind, number, data, list. -/
inductive Itm where
  | mk (kind : Int) (n : Nat) (data : List UInt8) (list : List Itm)

namespace Itm
def kind : Itm → Int | mk k _ _ _ => k
def num : Itm → Nat | mk _ n _ _ => n
def data : Itm → List UInt8 | mk _ _ d _ => d
def list : Itm → List Itm | mk _ _ _ l => l
def zero : Itm := mk 0 0 [] []
end Itm

/-- How many bytes a number has behind its head; the head's low bits. -/
def hsz (n : Nat) : Nat := if n < 24 then 0 else if n < 256 then 1 else if n < 65536 then 2 else if n < 4294967296 then 4 else 8
def hlow (n : Nat) : Nat := if n < 24 then n else if n < 256 then 24 else if n < 65536 then 25 else if n < 4294967296 then 26 else 27
/-- A head. -/
def hd (m n : Nat) : List UInt8 := UInt8.ofNat (32 * m + hlow n) :: be n (hsz n)

/-- May a text's bytes be? -/
def plain (d : List UInt8) : Bool := d.all fun c => decide (32 ≤ c.toNat) && decide (c.toNat ≤ 126)
/-- Has an item the fields that its kind has, and no other? -/
def own (k : Int) (n : Nat) (d : List UInt8) (l : List Itm) : Bool :=
  if k = 0 then d.isEmpty && l.isEmpty else if k = 2 then n == 0 && l.isEmpty else if k = 3 then n == 0 && (l.isEmpty && plain d) else if k = 4 ∨ k = 5 then n == 0 && d.isEmpty else false

mutual
def right : Itm → Bool | .mk k n d l => own k n d l && rights l
def rights : List Itm → Bool | [] => true | x :: r => right x && rights r
end
mutual
/-- Arrays in arrays. -/
def dep : Itm → Nat | .mk k _ _ l => deps l + if k = 4 ∨ k = 5 then 1 else 0
def deps : List Itm → Nat | [] => 0 | x :: r => max (dep x) (deps r)
end
mutual
/-- Items within, it too. -/
def par : Itm → Nat | .mk _ _ _ l => 1 + pars l
def pars : List Itm → Nat | [] => 0 | x :: r => par x + pars r
end
mutual
/-- A right item's bytes. -/
def wri : Itm → List UInt8
  | .mk k n d l => if k = 0 then hd 0 n else if k = 2 ∨ k = 3 then hd k.toNat d.length ++ d else if k = 4 then hd 4 l.length ++ wrs l else 0x9f :: (wrs l ++ [0xff])
def wrs : List Itm → List UInt8 | [] => [] | x :: r => wri x ++ wrs r
end
mutual
/-- All that is told in numbers is below 2^64. -/
def Siz : Itm → Prop | .mk _ n d l => n < 18446744073709551616 ∧ d.length < 18446744073709551616 ∧ l.length < 18446744073709551616 ∧ Sizs l
def Sizs : List Itm → Prop | [] => True | x :: r => Siz x ∧ Sizs r
end

/-- What Encode answers. -/
def enc (x : Itm) : List UInt8 × Int := if right x = false then ([], 2) else if 8 < dep x ∨ 4096 < par x then ([], 32) else (wri x, 0)

/-! ### How bytes are read -/
/-- A head: major, number, rest; or a fault. -/
def headD : List UInt8 → Except Int (Nat × Nat × List UInt8)
  | [] => .error 30
  | c :: r =>
    if (c.toNat / 32 ≠ 0 ∧ c.toNat / 32 ≠ 2 ∧ c.toNat / 32 ≠ 3 ∧ c.toNat / 32 ≠ 4) ∨ 27 < c.toNat % 32 then .error 31
    else if c.toNat % 32 < 24 then .ok (c.toNat / 32, c.toNat % 32, r)
    else if r.length < 2 ^ (c.toNat % 32 - 24) then .error 30
    else if hsz (beNat (r.take (2 ^ (c.toNat % 32 - 24)))) ≠ 2 ^ (c.toNat % 32 - 24) then .error 31
    else .ok (c.toNat / 32, beNat (r.take (2 ^ (c.toNat % 32 - 24))), r.drop (2 ^ (c.toNat % 32 - 24)))
/-- Bytes, or a text. -/
def textD (m n p : Nat) (r : List UInt8) : Except Int (Itm × Nat × List UInt8) :=
  if m = 3 ∧ plain (r.take n) = false then .error 31 else if r.length < n then .error 30 else .ok (.mk m 0 (r.take n) [], p, r.drop n)
/-- So many items. -/
def many (sub : Nat → List UInt8 → Except Int (Itm × Nat × List UInt8)) : Nat → Nat → List UInt8 → Except Int (List Itm × Nat × List UInt8)
  | 0, p, l => .ok ([], p, l)
  | n + 1, p, l => match sub p l with
    | .error e => .error e
    | .ok (x, p1, l1) => match many sub n p1 l1 with
      | .error e => .error e
      | .ok (xs, p2, l2) => .ok (x :: xs, p2, l2)
/-- Items up to the end; the first number: fuel. -/
def endl (sub : Nat → List UInt8 → Except Int (Itm × Nat × List UInt8)) : Nat → Nat → List UInt8 → Except Int (List Itm × Nat × List UInt8)
  | 0, _, _ => .error 30
  | _ + 1, _, [] => .error 30
  | f + 1, p, c :: r => if c = 0xff then .ok ([], p, r) else match sub p (c :: r) with
    | .error e => .error e
    | .ok (x, p1, l1) => match endl sub f p1 l1 with
      | .error e => .error e
      | .ok (xs, p2, l2) => .ok (x :: xs, p2, l2)
/-- Is it an array's first byte? -/
def arrB (c : UInt8) : Bool := c == 0x9f || (c.toNat / 32 == 4 && decide (c.toNat % 32 ≤ 27))
/-- An item; 'deep': no array may be here. -/
def itemD (sub : Nat → List UInt8 → Except Int (Itm × Nat × List UInt8)) (deep : Bool) (p : Nat) : List UInt8 → Except Int (Itm × Nat × List UInt8)
  | [] => .error 30
  | c :: r =>
    if p = 4096 ∨ (arrB c = true ∧ deep = true) then .error 32
    else if c = 0x9f then match endl sub (r.length + 1) (p + 1) r with
      | .error e => .error e
      | .ok (xs, p2, l2) => .ok (.mk 5 0 [] xs, p2, l2)
    else match headD (c :: r) with
      | .error e => .error e
      | .ok (m, n, r') => if m = 0 then .ok (.mk 0 n [] [], p + 1, r') else if m = 4 then (match many sub n (p + 1) r' with
          | .error e => .error e
          | .ok (xs, p2, l2) => .ok (.mk 4 0 [] xs, p2, l2)) else textD m n (p + 1) r'
/-- So many levels of arrays may come. -/
def dec : Nat → Nat → List UInt8 → Except Int (Itm × Nat × List UInt8)
  | 0 => itemD (fun _ _ => .error 32) true
  | d + 1 => itemD (dec d) false
/-- What Decode answers. -/
def decode (l : List UInt8) : Itm × Int × Int := match dec 8 0 l with | .error e => (.zero, 0, e) | .ok (x, _, r) => (x, (l.length - r.length : Nat), 0)

/-! ### Heads -/
theorem hsz_low (n : Nat) : 24 ≤ n → hsz n = 2 ^ (hlow n - 24) ∧ 24 ≤ hlow n ∧ hlow n ≤ 27 := by
  intro h
  unfold hsz hlow
  repeat' (split <;> try omega)
  all_goals (refine ⟨by decide, by omega, by omega⟩)
theorem hsz_le (n : Nat) : hsz n ≤ 8 := by unfold hsz; repeat' (split <;> try omega)
theorem hlow_le (n : Nat) : hlow n ≤ 27 := by unfold hlow; repeat' (split <;> try omega)
theorem hsz_bd (n : Nat) (h : n < 18446744073709551616) : 24 ≤ n → n < 256 ^ hsz n := by
  intro h24
  unfold hsz
  repeat' split
  all_goals omega
theorem hd_ne (m n : Nat) : hd m n ≠ [] := by simp [hd]
theorem hd_len (m n : Nat) : (hd m n).length = hsz n + 1 := by simp [hd, be_length]
theorem byte_nat (v : Nat) (h : v < 256) : (UInt8.ofNat v).toNat = v := by rw [UInt8.toNat_ofNat']; exact Nat.mod_eq_of_lt h
/-- A head's first byte. -/
theorem hd_first (m n : Nat) (hm : m ≤ 4) : (UInt8.ofNat (32 * m + hlow n)).toNat / 32 = m ∧ (UInt8.ofNat (32 * m + hlow n)).toNat % 32 = hlow n := by
  have := hlow_le n
  rw [byte_nat _ (by omega)]
  omega
/-- A head is read. -/
theorem headD_hd (m n : Nat) (r : List UInt8) (hm : m = 0 ∨ m = 2 ∨ m = 3 ∨ m = 4) (hn : n < 18446744073709551616) : headD (hd m n ++ r) = .ok (m, n, r) := by
  have h27 := hlow_le n
  obtain ⟨h1, h2⟩ := hd_first m n (by omega)
  unfold hd
  rw [List.cons_append, headD, h1, h2, if_neg (by omega)]
  by_cases h24 : n < 24
  · have e : hlow n = n := by unfold hlow; rw [if_pos h24]
    have e0 : hsz n = 0 := by unfold hsz; rw [if_pos h24]
    rw [e, if_pos h24, e0]
    rfl
  · obtain ⟨e, e1, e2⟩ := hsz_low n (by omega)
    have hlen := be_length n (hsz n)
    have ht : (be n (hsz n) ++ r).take (hsz n) = be n (hsz n) := by rw [List.take_left' hlen]
    have hb : beNat (be n (hsz n)) = n := by rw [beNat_be _ _ (hsz_le n)]; exact Nat.mod_eq_of_lt (hsz_bd n hn (by omega))
    rw [if_neg (by omega), ← e, if_neg (by simp [hlen]), ht, hb, if_neg (by simp), List.drop_left' hlen]
/-- A head that is read is one. -/
theorem headD_ok {l r : List UInt8} {m n : Nat} (h : headD l = .ok (m, n, r)) : l = hd m n ++ r ∧ n < 18446744073709551616 ∧ (m = 0 ∨ m = 2 ∨ m = 3 ∨ m = 4) := by
  cases l with
  | nil => simp [headD] at h
  | cons c t =>
    have hc := c.toNat_lt
    rw [headD] at h
    split at h
    · cases h
    next h1 =>
    split at h
    next h2 =>
      cases h
      refine ⟨?_, by omega, by omega⟩
      unfold hd
      have e : hlow (c.toNat % 32) = c.toNat % 32 := by unfold hlow; rw [if_pos h2]
      have e0 : hsz (c.toNat % 32) = 0 := by unfold hsz; rw [if_pos h2]
      rw [e, e0, show 32 * (c.toNat / 32) + c.toNat % 32 = c.toNat by omega]
      simp [be]
    next h2 =>
    split at h
    · cases h
    next h3 =>
    split at h
    · cases h
    next h4 =>
    cases h
    have hk : 2 ^ (c.toNat % 32 - 24) ≤ 8 := by
      have : c.toNat % 32 - 24 ≤ 3 := by omega
      calc 2 ^ (c.toNat % 32 - 24) ≤ 2 ^ 3 := Nat.pow_le_pow_right (by decide) this
        _ = 8 := rfl
    have hlen : (t.take (2 ^ (c.toNat % 32 - 24))).length = 2 ^ (c.toNat % 32 - 24) := by rw [List.length_take]; omega
    have h4' : hsz (beNat (t.take (2 ^ (c.toNat % 32 - 24)))) = 2 ^ (c.toNat % 32 - 24) := by simpa using h4
    have hb := be_beNat _ _ hlen hk
    have hlt := beNat_lt (t.take (2 ^ (c.toNat % 32 - 24)))
    generalize hN : beNat (t.take (2 ^ (c.toNat % 32 - 24))) = N at *
    have hp : 0 < 2 ^ (c.toNat % 32 - 24) := Nat.pow_pos (by decide)
    have h24 : 24 ≤ N := by
      rcases Nat.lt_or_ge N 24 with hh | hh
      · unfold hsz at h4'; rw [if_pos hh] at h4'; omega
      · exact hh
    obtain ⟨e, e1, e2⟩ := hsz_low N h24
    have hlo : hlow N = c.toNat % 32 := by
      have h5 := e.symm.trans h4'
      have := (Nat.pow_right_inj (a := 2) (by decide)).1 h5
      omega
    refine ⟨?_, hlt, by omega⟩
    unfold hd
    rw [hlo, h4', hb, show 32 * (c.toNat / 32) + c.toNat % 32 = c.toNat by omega]
    simp
/-- A head's beginning. -/
theorem headD_short (m n : Nat) (hm : m = 0 ∨ m = 2 ∨ m = 3 ∨ m = 4) (cut : Nat) (h1 : cut < (hd m n).length) : headD ((hd m n).take cut) = .error 30 := by
  rw [hd_len] at h1
  cases cut with
  | zero => rfl
  | succ j =>
    have h27 := hlow_le n
    obtain ⟨f1, f2⟩ := hd_first m n (by omega)
    have h24 : 24 ≤ n := by
      rcases Nat.lt_or_ge n 24 with hh | hh
      · unfold hsz at h1; rw [if_pos hh] at h1; omega
      · exact hh
    obtain ⟨e, e1, e2⟩ := hsz_low n h24
    unfold hd
    rw [List.take_succ_cons, headD, f1, f2, if_neg (by omega), if_neg (by omega), ← e, if_pos (by rw [List.length_take, be_length]; omega)]
end Go.Proofs.YtbdjkihgcmebgaaGreatDoor
