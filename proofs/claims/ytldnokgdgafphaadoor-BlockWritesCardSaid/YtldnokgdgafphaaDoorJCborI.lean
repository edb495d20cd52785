/- The plain mathematics of layer 3: items, the bytes that they are, and how bytes are read. No program's number stands here. -/
import Derived.Test.YtldnokgdgafphaaDoorJNumG
namespace Go.Proofs.YtldnokgdgafphaaDoor

/-- An item: kind, number, data, list. -/
inductive Itm where
  | mk (kind : Int) (n : Nat) (data : List UInt8) (list : List Itm)

namespace Itm
def kind : Itm → Int | mk k _ _ _ => k
def num : Itm → Nat | mk _ n _ _ => n
def data : Itm → List UInt8 | mk _ _ d _ => d
def list : Itm → List Itm | mk _ _ _ l => l
def zero : Itm := mk 0 0 [] []
end Itm

/-- How many bytes a number has behind its head; the head's low bits. -/
def hsz (n : Nat) : Nat := if n < 24 then 0 else if n < 256 then 1 else if n < 65536 then 2 else if n < 4294967296 then 4 else 8
def hlow (n : Nat) : Nat := if n < 24 then n else if n < 256 then 24 else if n < 65536 then 25 else if n < 4294967296 then 26 else 27
/-- A head. -/
def hd (m n : Nat) : List UInt8 := UInt8.ofNat (32 * m + hlow n) :: be n (hsz n)

/-- May a text's bytes be? -/
def plain (d : List UInt8) : Bool := d.all fun c => decide (32 ≤ c.toNat) && decide (c.toNat ≤ 126)
/-- Has an item the fields that its kind has, and no other? -/
def own (k : Int) (n : Nat) (d : List UInt8) (l : List Itm) : Bool :=
  if k = 0 then d.isEmpty && l.isEmpty else if k = 2 then n == 0 && l.isEmpty else if k = 3 then n == 0 && (l.isEmpty && plain d) else if k = 4 ∨ k = 5 then n == 0 && d.isEmpty else false

mutual
def right : Itm → Bool | .mk k n d l => own k n d l && rights l
def rights : List Itm → Bool | [] => true | x :: r => right x && rights r
end
mutual
/-- Arrays in arrays. -/
def dep : Itm → Nat | .mk k _ _ l => deps l + if k = 4 ∨ k = 5 then 1 else 0
def deps : List Itm → Nat | [] => 0 | x :: r => max (dep x) (deps r)
end
mutual
/-- Items within, it too. -/
def par : Itm → Nat | .mk _ _ _ l => 1 + pars l
def pars : List Itm → Nat | [] => 0 | x :: r => par x + pars r
end
mutual
/-- A right item's bytes. -/
def wri : Itm → List UInt8
  | .mk k n d l => if k = 0 then hd 0 n else if k = 2 ∨ k = 3 then hd k.toNat d.length ++ d else if k = 4 then hd 4 l.length ++ wrs l else 0x9f :: (wrs l ++ [0xff])
def wrs : List Itm → List UInt8 | [] => [] | x :: r => wri x ++ wrs r
end
mutual
/-- All that is told in numbers is below 2^64. -/
def Siz : Itm → Prop | .mk _ n d l => n < 18446744073709551616 ∧ d.length < 18446744073709551616 ∧ l.length < 18446744073709551616 ∧ Sizs l
def Sizs : List Itm → Prop | [] => True | x :: r => Siz x ∧ Sizs r
end

/-- What Encode answers. -/
def enc (x : Itm) : List UInt8 × Int := if right x = false then ([], 2) else if 8 < dep x ∨ 4096 < par x then ([], 32) else (wri x, 0)

/-! ### How bytes are read -/
/-- A head: major, number, rest; or a fault. -/
def headD : List UInt8 → Except Int (Nat × Nat × List UInt8)
  | [] => .error 30
  | c :: r =>
    if (c.toNat / 32 ≠ 0 ∧ c.toNat / 32 ≠ 2 ∧ c.toNat / 32 ≠ 3 ∧ c.toNat / 32 ≠ 4) ∨ 27 < c.toNat % 32 then .error 31
    else if c.toNat % 32 < 24 then .ok (c.toNat / 32, c.toNat % 32, r)
    else if r.length < 2 ^ (c.toNat % 32 - 24) then .error 30
    else if hsz (beNat (r.take (2 ^ (c.toNat % 32 - 24)))) ≠ 2 ^ (c.toNat % 32 - 24) then .error 31
    else .ok (c.toNat / 32, beNat (r.take (2 ^ (c.toNat % 32 - 24))), r.drop (2 ^ (c.toNat % 32 - 24)))
/-- Bytes, or a text. -/
def textD (m n p : Nat) (r : List UInt8) : Except Int (Itm × Nat × List UInt8) :=
  if m = 3 ∧ plain (r.take n) = false then .error 31 else if r.length < n then .error 30 else .ok (.mk m 0 (r.take n) [], p, r.drop n)
/-- So many items. -/
def many (sub : Nat → List UInt8 → Except Int (Itm × Nat × List UInt8)) : Nat → Nat → List UInt8 → Except Int (List Itm × Nat × List UInt8)
  | 0, p, l => .ok ([], p, l)
  | n + 1, p, l => match sub p l with
    | .error e => .error e
    | .ok (x, p1, l1) => match many sub n p1 l1 with
      | .error e => .error e
      | .ok (xs, p2, l2) => .ok (x :: xs, p2, l2)
/-- Items up to the end; the first number: fuel. -/
def endl (sub : Nat → List UInt8 → Except Int (Itm × Nat × List UInt8)) : Nat → Nat → List UInt8 → Except Int (List Itm × Nat × List UInt8)
  | 0, _, _ => .error 30
  | _ + 1, _, [] => .error 30
  | f + 1, p, c :: r => if c = 0xff then .ok ([], p, r) else match sub p (c :: r) with
    | .error e => .error e
    | .ok (x, p1, l1) => match endl sub f p1 l1 with
      | .error e => .error e
      | .ok (xs, p2, l2) => .ok (x :: xs, p2, l2)
/-- Is it an array's first byte? -/
def arrB (c : UInt8) : Bool := c == 0x9f || (c.toNat / 32 == 4 && decide (c.toNat % 32 ≤ 27))
/-- An item; 'deep': no array may be here. -/
def itemD (sub : Nat → List UInt8 → Except Int (Itm × Nat × List UInt8)) (deep : Bool) (p : Nat) : List UInt8 → Except Int (Itm × Nat × List UInt8)
  | [] => .error 30
  | c :: r =>
    if p = 4096 ∨ (arrB c = true ∧ deep = true) then .error 32
    else if c = 0x9f then match endl sub (r.length + 1) (p + 1) r with
      | .error e => .error e
      | .ok (xs, p2, l2) => .ok (.mk 5 0 [] xs, p2, l2)
    else match headD (c :: r) with
      | .error e => .error e
      | .ok (m, n, r') => if m = 0 then .ok (.mk 0 n [] [], p + 1, r') else if m = 4 then (match many sub n (p + 1) r' with
          | .error e => .error e
          | .ok (xs, p2, l2) => .ok (.mk 4 0 [] xs, p2, l2)) else textD m n (p + 1) r'
/-- So many levels of arrays may come. -/
def dec : Nat → Nat → List UInt8 → Except Int (Itm × Nat × List UInt8)
  | 0 => itemD (fun _ _ => .error 32) true
  | d + 1 => itemD (dec d) false
/-- What Decode answers. -/
def decode (l : List UInt8) : Itm × Int × Int := match dec 8 0 l with | .error e => (.zero, 0, e) | .ok (x, _, r) => (x, (l.length - r.length : Nat), 0)

/-! ### Heads -/
theorem hsz_low (n : Nat) : 24 ≤ n → hsz n = 2 ^ (hlow n - 24) ∧ 24 ≤ hlow n ∧ hlow n ≤ 27 := by
  intro h
  unfold hsz hlow
  repeat' (split <;> try omega)
  all_goals (refine ⟨by decide, by omega, by omega⟩)
theorem hsz_le (n : Nat) : hsz n ≤ 8 := by unfold hsz; repeat' (split <;> try omega)
theorem hlow_le (n : Nat) : hlow n ≤ 27 := by unfold hlow; repeat' (split <;> try omega)
theorem hsz_bd (n : Nat) (h : n < 18446744073709551616) : 24 ≤ n → n < 256 ^ hsz n := by
  intro h24
  unfold hsz
  repeat' split
  all_goals omega
theorem hd_ne (m n : Nat) : hd m n ≠ [] := by simp [hd]
theorem hd_len (m n : Nat) : (hd m n).length = hsz n + 1 := by simp [hd, be_length]
theorem byte_nat (v : Nat) (h : v < 256) : (UInt8.ofNat v).toNat = v := by rw [UInt8.toNat_ofNat']; exact Nat.mod_eq_of_lt h
/-- A head's first byte. -/
theorem hd_first (m n : Nat) (hm : m ≤ 4) : (UInt8.ofNat (32 * m + hlow n)).toNat / 32 = m ∧ (UInt8.ofNat (32 * m + hlow n)).toNat % 32 = hlow n := by
  have := hlow_le n
  rw [byte_nat _ (by omega)]
  omega
/-- A head is read. -/
theorem headD_hd (m n : Nat) (r : List UInt8) (hm : m = 0 ∨ m = 2 ∨ m = 3 ∨ m = 4) (hn : n < 18446744073709551616) : headD (hd m n ++ r) = .ok (m, n, r) := by
  have h27 := hlow_le n
  obtain ⟨h1, h2⟩ := hd_first m n (by omega)
  unfold hd
  rw [List.cons_append, headD, h1, h2, if_neg (by omega)]
  by_cases h24 : n < 24
  · have e : hlow n = n := by unfold hlow; rw [if_pos h24]
    have e0 : hsz n = 0 := by unfold hsz; rw [if_pos h24]
    rw [e, if_pos h24, e0]
    rfl
  · obtain ⟨e, e1, e2⟩ := hsz_low n (by omega)
    have hlen := be_length n (hsz n)
    have ht : (be n (hsz n) ++ r).take (hsz n) = be n (hsz n) := by rw [List.take_left' hlen]
    have hb : beNat (be n (hsz n)) = n := by rw [beNat_be _ _ (hsz_le n)]; exact Nat.mod_eq_of_lt (hsz_bd n hn (by omega))
    rw [if_neg (by omega), ← e, if_neg (by simp [hlen]), ht, hb, if_neg (by simp), List.drop_left' hlen]
/-- A head that is read is one. -/
theorem headD_ok {l r : List UInt8} {m n : Nat} (h : headD l = .ok (m, n, r)) : l = hd m n ++ r ∧ n < 18446744073709551616 ∧ (m = 0 ∨ m = 2 ∨ m = 3 ∨ m = 4) := by
  cases l with
  | nil => simp [headD] at h
  | cons c t =>
    have hc := c.toNat_lt
    rw [headD] at h
    split at h
    · cases h
    next h1 =>
    split at h
    next h2 =>
      cases h
      refine ⟨?_, by omega, by omega⟩
      unfold hd
      have e : hlow (c.toNat % 32) = c.toNat % 32 := by unfold hlow; rw [if_pos h2]
      have e0 : hsz (c.toNat % 32) = 0 := by unfold hsz; rw [if_pos h2]
      rw [e, e0, show 32 * (c.toNat / 32) + c.toNat % 32 = c.toNat by omega]
      simp [be]
    next h2 =>
    split at h
    · cases h
    next h3 =>
    split at h
    · cases h
    next h4 =>
    cases h
    have hk : 2 ^ (c.toNat % 32 - 24) ≤ 8 := by
      have : c.toNat % 32 - 24 ≤ 3 := by omega
      calc 2 ^ (c.toNat % 32 - 24) ≤ 2 ^ 3 := Nat.pow_le_pow_right (by decide) this
        _ = 8 := rfl
    have hlen : (t.take (2 ^ (c.toNat % 32 - 24))).length = 2 ^ (c.toNat % 32 - 24) := by rw [List.length_take]; omega
    have h4' : hsz (beNat (t.take (2 ^ (c.toNat % 32 - 24)))) = 2 ^ (c.toNat % 32 - 24) := by simpa using h4
    have hb := be_beNat _ _ hlen hk
    have hlt := beNat_lt (t.take (2 ^ (c.toNat % 32 - 24)))
    generalize hN : beNat (t.take (2 ^ (c.toNat % 32 - 24))) = N at *
    have hp : 0 < 2 ^ (c.toNat % 32 - 24) := Nat.pow_pos (by decide)
    have h24 : 24 ≤ N := by
      rcases Nat.lt_or_ge N 24 with hh | hh
      · unfold hsz at h4'; rw [if_pos hh] at h4'; omega
      · exact hh
    obtain ⟨e, e1, e2⟩ := hsz_low N h24
    have hlo : hlow N = c.toNat % 32 := by
      have h5 := e.symm.trans h4'
      have := (Nat.pow_right_inj (a := 2) (by decide)).1 h5
      omega
    refine ⟨?_, hlt, by omega⟩
    unfold hd
    rw [hlo, h4', hb, show 32 * (c.toNat / 32) + c.toNat % 32 = c.toNat by omega]
    simp
/-- A head's beginning. -/
theorem headD_short (m n : Nat) (hm : m = 0 ∨ m = 2 ∨ m = 3 ∨ m = 4) (cut : Nat) (h1 : cut < (hd m n).length) : headD ((hd m n).take cut) = .error 30 := by
  rw [hd_len] at h1
  cases cut with
  | zero => rfl
  | succ j =>
    have h27 := hlow_le n
    obtain ⟨f1, f2⟩ := hd_first m n (by omega)
    have h24 : 24 ≤ n := by
      rcases Nat.lt_or_ge n 24 with hh | hh
      · unfold hsz at h1; rw [if_pos hh] at h1; omega
      · exact hh
    obtain ⟨e, e1, e2⟩ := hsz_low n h24
    unfold hd
    rw [List.take_succ_cons, headD, f1, f2, if_neg (by omega), if_neg (by omega), ← e, if_pos (by rw [List.length_take, be_length]; omega)]
end Go.Proofs.YtldnokgdgafphaaDoor
/- Items in memory: a value that reads as an item ('RdI'), the elements of a list that do ('RdIs'). -/
namespace Go.Proofs.YtldnokgdgafphaaDoor
open Go.RowKit

mutual
/-- The value v reads as the item x; what it leads to lies below block B. -/
def RdI (w : World) (B : Nat) (v : Value) : Itm → Prop
  | .mk k n d l => ∃ (A : Option Addr) (nd cd : Nat) (AL : Option Addr) (nl cl : Nat), v = .agg #[.int .i64 k, .int .u64 (n : Int), .slice A nd cd, .slice AL nl cl] ∧
      (Lit.int .i64 k).wf = true ∧ n < 18446744073709551616 ∧ (nd ≤ cd ∧ nd ≤ 140737488355328) ∧ Rd w B A nd d ∧ (nl ≤ cl ∧ nl ≤ 140737488355328) ∧ l.length = nl ∧ (0 < nl → ∃ b o, AL = some ⟨b, o, none⟩ ∧ b < B ∧ RdIs w B b o l)
/-- From the place o of block b on the items l lie, four cells each. -/
def RdIs (w : World) (B b o : Nat) : List Itm → Prop
  | [] => True
  | x :: r => (∃ c0 c1 c2 c3 : Value, w.cell? ⟨b, o, none⟩ = some c0 ∧ w.cell? ⟨b, o + 1, none⟩ = some c1 ∧ w.cell? ⟨b, o + 2, none⟩ = some c2 ∧ w.cell? ⟨b, o + 3, none⟩ = some c3 ∧ RdI w B (.agg #[c0, c1, c2, c3]) x) ∧ RdIs w B b (o + 4) r
end

mutual
theorem RdI.keep {w w' : World} {B : Nat} (hk : ∀ p : Addr, p.block < B → w'.cell? p = w.cell? p) : ∀ {x : Itm} {v : Value}, RdI w B v x → RdI w' B v x
  | .mk k n d l, v, h => by
    rw [RdI] at h ⊢
    obtain ⟨A, nd, cd, AL, nl, cl, e, h1, h2, h3, h4, h5, h6, h7⟩ := h
    refine ⟨A, nd, cd, AL, nl, cl, e, h1, h2, h3, h4.keep hk, h5, h6, fun h0 => ?_⟩
    obtain ⟨b, o, ea, hb, hs⟩ := h7 h0
    exact ⟨b, o, ea, hb, RdIs.keep hk hb hs⟩
theorem RdIs.keep {w w' : World} {B : Nat} (hk : ∀ p : Addr, p.block < B → w'.cell? p = w.cell? p) {b : Nat} (hb : b < B) : ∀ {l : List Itm} {o : Nat}, RdIs w B b o l → RdIs w' B b o l
  | [], o, _ => by rw [RdIs]; trivial
  | x :: r, o, h => by
    rw [RdIs] at h ⊢
    obtain ⟨⟨c0, c1, c2, c3, g0, g1, g2, g3, gx⟩, hr⟩ := h
    exact ⟨⟨c0, c1, c2, c3, (hk ⟨b, o, none⟩ hb).trans g0, (hk ⟨b, o + 1, none⟩ hb).trans g1, (hk ⟨b, o + 2, none⟩ hb).trans g2, (hk ⟨b, o + 3, none⟩ hb).trans g3, RdI.keep hk gx⟩, RdIs.keep hk hb hr⟩
end
mutual
theorem RdI.more {w : World} {B B' : Nat} (hB : B ≤ B') : ∀ {x : Itm} {v : Value}, RdI w B v x → RdI w B' v x
  | .mk k n d l, v, h => by
    rw [RdI] at h ⊢
    obtain ⟨A, nd, cd, AL, nl, cl, e, h1, h2, h3, h4, h5, h6, h7⟩ := h
    refine ⟨A, nd, cd, AL, nl, cl, e, h1, h2, h3, h4.more hB, h5, h6, fun h0 => ?_⟩
    obtain ⟨b, o, ea, hb, hs⟩ := h7 h0
    exact ⟨b, o, ea, by omega, RdIs.more hB hs⟩
theorem RdIs.more {w : World} {B B' : Nat} (hB : B ≤ B') {b : Nat} : ∀ {l : List Itm} {o : Nat}, RdIs w B b o l → RdIs w B' b o l
  | [], o, _ => by rw [RdIs]; trivial
  | x :: r, o, h => by
    rw [RdIs] at h ⊢
    obtain ⟨⟨c0, c1, c2, c3, g0, g1, g2, g3, gx⟩, hr⟩ := h
    exact ⟨⟨c0, c1, c2, c3, g0, g1, g2, g3, RdI.more hB gx⟩, RdIs.more hB hr⟩
end
section
variable {w w' : World} {B B' b : Nat} {v : Value} {x : Itm} {l : List Itm} {o : Nat}
theorem RdI.below (h : RdI w B v x) (hb : Below B w w') : RdI w' B v x := h.keep fun _ hp => hb.cell hp
theorem RdIs.below (h : RdIs w B b o l) (h0 : b < B) (hb : Below B w w') : RdIs w' B b o l := h.keep (fun _ hp => hb.cell hp) h0
theorem RdI.alloc (h : RdI w B v x) (hB : B ≤ w.heap.size) (ob : Obj) : RdI (w.alloc ob) B v x := h.keep fun p hp => World.cell?_alloc_lt w ob p (by omega)
/-- The items of a list: the i-th. -/
theorem RdIs.get : ∀ {l : List Itm} {o : Nat}, RdIs w B b o l → ∀ i (hi : i < l.length), ∃ c0 c1 c2 c3 : Value, w.cell? ⟨b, o + i * 4, none⟩ = some c0 ∧ w.cell? ⟨b, o + i * 4 + 1, none⟩ = some c1 ∧ w.cell? ⟨b, o + i * 4 + 2, none⟩ = some c2 ∧ w.cell? ⟨b, o + i * 4 + 3, none⟩ = some c3 ∧ RdI w B (.agg #[c0, c1, c2, c3]) (l[i]'hi)
  | [], o, _, i, hi => absurd hi (Nat.not_lt_zero _)
  | x :: r, o, h, 0, hi => by
    rw [RdIs] at h
    simpa using h.1
  | x :: r, o, h, i + 1, hi => by
    rw [RdIs] at h
    have := RdIs.get h.2 i (by simpa using hi)
    rw [show o + (i + 1) * 4 = o + 4 + i * 4 by omega]
    simpa using this
theorem RdIs.of_get : ∀ {l : List Itm} {o : Nat}, (∀ i (hi : i < l.length), ∃ c0 c1 c2 c3 : Value, w.cell? ⟨b, o + i * 4, none⟩ = some c0 ∧ w.cell? ⟨b, o + i * 4 + 1, none⟩ = some c1 ∧ w.cell? ⟨b, o + i * 4 + 2, none⟩ = some c2 ∧ w.cell? ⟨b, o + i * 4 + 3, none⟩ = some c3 ∧ RdI w B (.agg #[c0, c1, c2, c3]) (l[i]'hi)) → RdIs w B b o l
  | [], o, _ => by rw [RdIs]; trivial
  | x :: r, o, h => by
    rw [RdIs]
    have h0 := h 0 (by simp)
    rw [Nat.zero_mul, Nat.add_zero] at h0
    refine ⟨h0, RdIs.of_get fun i hi => ?_⟩
    have := h (i + 1) (by simpa using hi)
    rw [show o + (i + 1) * 4 = o + 4 + i * 4 by omega] at this
    simpa using this
end
/-- An item's list, as a walk wants it. -/
theorem RdI.open {w : World} {B : Nat} {v : Value} {k : Int} {n : Nat} {d : List UInt8} {l : List Itm} (h : RdI w B v (.mk k n d l)) :
    ∃ (A : Option Addr) (nd cd : Nat) (AL : Option Addr) (cl : Nat), v = .agg #[.int .i64 k, .int .u64 (n : Int), .slice A nd cd, .slice AL l.length cl] ∧
      (Lit.int .i64 k).wf = true ∧ n < 18446744073709551616 ∧ (nd ≤ cd ∧ nd ≤ 140737488355328) ∧ Rd w B A nd d ∧ (l.length ≤ cl ∧ l.length ≤ 140737488355328) ∧ (0 < l.length → ∃ b o, AL = some ⟨b, o, none⟩ ∧ b < B ∧ RdIs w B b o l) := by
  rw [RdI] at h
  obtain ⟨A, nd, cd, AL, nl, cl, e, h1, h2, h3, h4, h5, h6, h7⟩ := h
  subst h6
  exact ⟨A, nd, cd, AL, cl, e, h1, h2, h3, h4, h5, h7⟩
theorem RdI.form {w : World} {B : Nat} {v : Value} {x : Itm} (h : RdI w B v x) : ∃ (k : Int) (n : Nat) (A : Option Addr) (nd cd : Nat) (AL : Option Addr) (nl cl : Nat), v = .agg #[.int .i64 k, .int .u64 (n : Int), .slice A nd cd, .slice AL nl cl] := by
  obtain ⟨k, n, d, l⟩ := x
  obtain ⟨A, nd, cd, AL, cl, rfl, -, -, -, -, -, -⟩ := h.open
  exact ⟨_, _, _, _, _, _, _, _, rfl⟩
theorem par_get : ∀ {l : List Itm} {i : Nat} (hi : i < l.length), par (l[i]'hi) ≤ pars l
  | [], _, hi => absurd hi (Nat.not_lt_zero _)
  | x :: r, 0, _ => by rw [pars]; simp
  | x :: r, i + 1, hi => by
    have := par_get (l := r) (i := i) (by simpa using hi)
    rw [pars]
    simp
    omega
mutual
theorem RdI.siz {w : World} {B : Nat} : ∀ {x : Itm} {v : Value}, RdI w B v x → Siz x
  | .mk k n d l, v, h => by
    rw [RdI] at h
    obtain ⟨A, nd, cd, AL, nl, cl, e, h1, h2, h3, h4, h5, h6, h7⟩ := h
    have hd := h4.1
    refine ⟨h2, by omega, by omega, ?_⟩
    rcases Nat.eq_zero_or_pos nl with h0 | h0
    · have : l = [] := List.eq_nil_of_length_eq_zero (by omega)
      subst this; trivial
    · obtain ⟨b, o, ea, hb, hs⟩ := h7 h0
      exact RdIs.siz hs
theorem RdIs.siz {w : World} {B b : Nat} : ∀ {l : List Itm} {o : Nat}, RdIs w B b o l → Sizs l
  | [], _, _ => trivial
  | x :: r, o, h => by
    rw [RdIs] at h
    obtain ⟨⟨c0, c1, c2, c3, g0, g1, g2, g3, gx⟩, hr⟩ := h
    exact ⟨RdI.siz gx, RdIs.siz hr⟩
end
end Go.Proofs.YtldnokgdgafphaaDoor
