/- The order of decimal digits: longer numerals are the greater ones, and of one length the later ones. -/
import Derived.Test.YtmcflcihldmidaaDoorJCborM
import Derived.Test.YtmcflcihldmidaaDoorJCborN
import Derived.Test.YtmcflcihldmidaaDoorJNumW
namespace Go.Proofs.YtmcflcihldmidaaDoor
open Go.RowKit
open Go.Lib (decDigits nDigits nDigits_small nDigits_big nDigits_pos decDigits_length)

theorem dd_lt (x y : Nat) (hx : x < 10) (hy : y < 10) : decide (UInt8.ofNat (48 + x) < UInt8.ofNat (48 + y)) = decide (x < y) := by
  have : ∀ x y : Fin 10, decide (UInt8.ofNat (48 + x.val) < UInt8.ofNat (48 + y.val)) = decide (x.val < y.val) := by decide +kernel
  exact this ⟨x, hx⟩ ⟨y, hy⟩
theorem dd_eq (x y : Nat) (hx : x < 10) (hy : y < 10) (h : UInt8.ofNat (48 + x) = UInt8.ofNat (48 + y)) : x = y := by
  have : ∀ x y : Fin 10, UInt8.ofNat (48 + x.val) = UInt8.ofNat (48 + y.val) → x = y := by decide +kernel
  exact congrArg Fin.val (this ⟨x, hx⟩ ⟨y, hy⟩ h)

theorem bl_snoc : ∀ (A B : List UInt8) (a b : UInt8), A.length = B.length → Op.bytesLess (A ++ [a]) (B ++ [b]) = (Op.bytesLess A B || ((A == B) && decide (a < b)))
  | [], [], a, b, _ => by simp [Op.bytesLess]
  | [], _ :: _, _, _, h => by simp at h
  | _ :: _, [], _, _, h => by simp at h
  | x :: A, y :: B, a, b, h => by
    have ih := bl_snoc A B a b (by simpa using h)
    simp only [List.cons_append, Op.bytesLess, ih, List.cons_beq_cons]
    cases decide (x < y) <;> cases (x == y) <;> cases (Op.bytesLess A B) <;> cases (A == B) <;> simp

theorem dec_small {x : Nat} (h : x < 10) : decDigits x = [UInt8.ofNat (48 + x)] := by rw [decDigits, dif_pos h]
theorem dec_big {x : Nat} (h : ¬ x < 10) : decDigits x = decDigits (x / 10) ++ [UInt8.ofNat (48 + x % 10)] := by rw [decDigits, dif_neg h]

theorem nd_mono : ∀ (y x : Nat), nDigits x < nDigits y → x < y := by
  intro y
  induction y using Nat.strongRecOn with
  | _ y ih =>
    intro x h
    have hp := nDigits_pos x
    by_cases hy : y < 10
    · rw [nDigits_small hy] at h; omega
    · by_cases hx : x < 10
      · omega
      · rw [nDigits_big hy, nDigits_big hx] at h
        have := ih (y / 10) (by omega) (x / 10) (by omega)
        omega

theorem dec_inj : ∀ (x y : Nat), decDigits x = decDigits y → x = y := by
  intro x
  induction x using Nat.strongRecOn with
  | _ x ih =>
    intro y h
    have hl : nDigits x = nDigits y := by rw [← decDigits_length, ← decDigits_length, h]
    have p1 := nDigits_pos (x / 10)
    have p2 := nDigits_pos (y / 10)
    by_cases hx : x < 10
    · by_cases hy : y < 10
      · rw [dec_small hx, dec_small hy] at h
        exact dd_eq x y hx hy (by simpa using h)
      · rw [nDigits_small hx, nDigits_big hy] at hl; omega
    · by_cases hy : y < 10
      · rw [nDigits_big hx, nDigits_small hy] at hl; omega
      · rw [dec_big hx, dec_big hy] at h
        have hs := List.append_inj' h rfl
        have e1 := ih (x / 10) (by omega) (y / 10) hs.1
        have e2 := dd_eq (x % 10) (y % 10) (by omega) (by omega) (by simpa using hs.2)
        omega

theorem dec_less : ∀ (x y : Nat), nDigits x = nDigits y → Op.bytesLess (decDigits x) (decDigits y) = decide (x < y) := by
  intro x
  induction x using Nat.strongRecOn with
  | _ x ih =>
    intro y hl
    have p1 := nDigits_pos (x / 10)
    have p2 := nDigits_pos (y / 10)
    by_cases hx : x < 10
    · by_cases hy : y < 10
      · rw [dec_small hx, dec_small hy]
        simp only [Op.bytesLess, Bool.and_false, Bool.or_false]
        exact dd_lt x y hx hy
      · rw [nDigits_small hx, nDigits_big hy] at hl; omega
    · by_cases hy : y < 10
      · rw [nDigits_big hx, nDigits_small hy] at hl; omega
      · rw [nDigits_big hx, nDigits_big hy] at hl
        have hl' : nDigits (x / 10) = nDigits (y / 10) := by omega
        have hb : (decDigits (x / 10) == decDigits (y / 10)) = decide (x / 10 = y / 10) := by
          rw [Bool.eq_iff_iff, beq_iff_eq, decide_eq_true_iff]
          exact ⟨fun h => dec_inj _ _ h, fun h => by rw [h]⟩
        rw [dec_big hx, dec_big hy, bl_snoc _ _ _ _ (by rw [decDigits_length, decDigits_length, hl']), ih (x / 10) (by omega) (y / 10) hl', hb, dd_lt _ _ (by omega) (by omega)]
        rw [Bool.eq_iff_iff]
        simp only [Bool.or_eq_true, Bool.and_eq_true, decide_eq_true_iff]
        omega

theorem nd_le : ∀ (k x : Nat), x < 10 ^ (k + 1) → nDigits x ≤ k + 1
  | 0, x, h => by rw [nDigits_small (by simpa using h)]; exact Nat.le_refl _
  | k + 1, x, h => by
    by_cases hx : x < 10
    · rw [nDigits_small hx]; omega
    · rw [nDigits_big hx]
      rw [Nat.pow_succ] at h
      have := nd_le k (x / 10) (by omega)
      omega
theorem nd_20 (x : Nat) (h : x < 18446744073709551616) : nDigits x ≤ 20 := nd_le 19 x (Nat.lt_trans h (by decide))
end Go.Proofs.YtmcflcihldmidaaDoor
/- The plain mathematics of layer 3: what Encode and Decode answer, as a whole; greater numbers have greater heads. No program's number stands here. -/
namespace Go.Proofs.YtmcflcihldmidaaDoor
open Go.RowKit

/-! ### The whole -/
theorem headD_err {l : List UInt8} {e : Int} (h : headD l = .error e) : e = 30 ∨ e = 31 := by
  cases l with
  | nil => rw [headD] at h; cases h; exact .inl rfl
  | cons c t =>
    rw [headD] at h
    split at h
    · cases h; exact .inr rfl
    split at h
    · cases h
    split at h
    · cases h; exact .inl rfl
    split at h
    · cases h; exact .inr rfl
    · cases h
def SubErr (sub : Nat → List UInt8 → Except Int (Itm × Nat × List UInt8)) : Prop := ∀ p l e, sub p l = .error e → e = 30 ∨ e = 31 ∨ e = 32
theorem many_err {sub : Nat → List UInt8 → Except Int (Itm × Nat × List UInt8)} (hs : SubErr sub) : ∀ (n p : Nat) (l : List UInt8) (e : Int), many sub n p l = .error e → e = 30 ∨ e = 31 ∨ e = 32
  | 0, p, l, e, h => by rw [many] at h; cases h
  | n + 1, p, l, e, h => by
    rw [many] at h
    split at h
    next h1 => cases h; exact hs _ _ _ h1
    next h1 =>
    split at h
    next h2 => cases h; exact many_err hs n _ _ _ h2
    · cases h
theorem endl_err {sub : Nat → List UInt8 → Except Int (Itm × Nat × List UInt8)} (hs : SubErr sub) : ∀ (f p : Nat) (l : List UInt8) (e : Int), endl sub f p l = .error e → e = 30 ∨ e = 31 ∨ e = 32
  | 0, p, l, e, h => by rw [endl] at h; cases h; exact .inl rfl
  | f + 1, p, [], e, h => by rw [endl] at h; cases h; exact .inl rfl
  | f + 1, p, c :: r, e, h => by
    rw [endl] at h
    split at h
    · cases h
    split at h
    next h1 => cases h; exact hs _ _ _ h1
    next h1 =>
    split at h
    next h2 => cases h; exact endl_err hs f _ _ _ h2
    · cases h
theorem textD_err {m n p : Nat} {r : List UInt8} {e : Int} (h : textD m n p r = .error e) : e = 30 ∨ e = 31 := by
  rw [textD] at h
  split at h
  · cases h; exact .inr rfl
  split at h
  · cases h; exact .inl rfl
  · cases h
theorem itemD_err {sub : Nat → List UInt8 → Except Int (Itm × Nat × List UInt8)} {deep : Bool} (hs : SubErr sub) : SubErr (itemD sub deep) := by
  intro p l e h
  cases l with
  | nil => rw [itemD] at h; cases h; exact .inl rfl
  | cons c t =>
    rw [itemD] at h
    split at h
    · cases h; exact .inr (.inr rfl)
    split at h
    · split at h
      next h1 => cases h; exact endl_err hs _ _ _ _ h1
      · cases h
    split at h
    next h1 =>
      cases h
      rcases headD_err h1 with h | h
      · exact .inl h
      · exact .inr (.inl h)
    split at h
    · cases h
    split at h
    · split at h
      next h1 => cases h; exact many_err hs _ _ _ _ h1
      · cases h
    · rcases textD_err h with h | h
      · exact .inl h
      · exact .inr (.inl h)
theorem dec_err : ∀ d : Nat, SubErr (dec d)
  | 0 => itemD_err (fun _ _ _ h => by cases h; exact .inr (.inr rfl))
  | d + 1 => itemD_err (dec_err d)

/-- May an item be written? -/
def Fits (x : Itm) : Prop := right x = true ∧ dep x ≤ 8 ∧ par x ≤ 4096
theorem enc_ok {x : Itm} (h : Fits x) : enc x = (wri x, 0) := by
  unfold enc
  rw [if_neg (by rw [h.1]; decide), if_neg (by have := h.2; omega)]
theorem enc_cases (x : Itm) : (Fits x ∧ enc x = (wri x, 0)) ∨ (¬ Fits x ∧ (enc x).1 = [] ∧ ((enc x).2 = 2 ∨ (enc x).2 = 32)) := by
  by_cases h : Fits x
  · exact .inl ⟨h, enc_ok h⟩
  · refine .inr ⟨h, ?_⟩
    unfold enc
    split
    · exact ⟨rfl, .inl rfl⟩
    next h1 =>
    split
    · exact ⟨rfl, .inr rfl⟩
    next h2 => exact absurd ⟨by simpa using h1, by omega, by omega⟩ h
/-- What is written is read as it was, whatever stands behind. -/
theorem decode_wr {x : Itm} (h : Fits x) (hs : Siz x) (m : List UInt8) : decode (wri x ++ m) = (x, ((wri x).length : Int), 0) := by
  unfold decode
  rw [dec_wr x 8 0 m h.1 hs h.2.1 (by have := h.2.2; omega)]
  simp
/-- What is read is written as it was. -/
theorem decode_cases (l : List UInt8) : (∃ e : Int, (e = 30 ∨ e = 31 ∨ e = 32) ∧ decode l = (.zero, 0, e)) ∨
    ∃ x r, l = wri x ++ r ∧ Fits x ∧ Siz x ∧ decode l = (x, ((wri x).length : Int), 0) := by
  unfold decode
  cases h : dec 8 0 l with
  | error e => exact .inl ⟨e, dec_err 8 _ _ _ h, rfl⟩
  | ok v =>
    obtain ⟨x, p, r⟩ := v
    obtain ⟨h1, h2, h3, h4, h5, h6⟩ := dec_ok 8 0 l x p r (by decide) h
    refine .inr ⟨x, r, h1, ⟨h2, h4, by omega⟩, h3, ?_⟩
    subst h1
    simp
/-- A beginning is short. -/
theorem decode_short {x : Itm} (h : Fits x) (hs : Siz x) (cut : Nat) (hc : cut < (wri x).length) : decode ((wri x).take cut) = (.zero, 0, 30) := by
  unfold decode
  rw [dec_short x 8 0 cut h.1 hs h.2.1 (by have := h.2.2; omega) hc]
theorem wr_pos (x : Itm) : 1 ≤ (wri x).length := by
  obtain ⟨c, r, h, _⟩ := wr_ne x
  rw [h]
  simp

/-! ### Greater numbers -/
theorem be_less : ∀ (k x y : Nat), x < y → y < 256 ^ k → Op.bytesLess (be x k) (be y k) = true
  | 0, x, y, h, hy => by simp at hy; omega
  | k + 1, x, y, h, hy => by
    rw [Nat.pow_succ] at hy
    rw [be_succ, be_succ, bl_snoc _ _ _ _ (by rw [be_length, be_length])]
    by_cases e : x / 256 = y / 256
    · have hlt : (UInt8.ofNat x < UInt8.ofNat y) := by
        rw [UInt8.lt_iff_toNat_lt, UInt8.toNat_ofNat', UInt8.toNat_ofNat']
        omega
      rw [e]
      simp [hlt]
    · rw [be_less k _ _ (by omega) (by omega)]
      rfl
theorem hsz_mono (a b : Nat) (h : a < b) : hsz a ≤ hsz b := by unfold hsz; repeat' (split <;> try omega)
theorem hd_less (m a b : Nat) (hm : m ≤ 7) (h : a < b) (hb : b < 18446744073709551616) :
    ((hd m a).length < (hd m b).length) ∨ ((hd m a).length = (hd m b).length ∧ Op.bytesLess (hd m a) (hd m b) = true) := by
  rw [hd_len, hd_len]
  rcases Nat.lt_or_ge (hsz a) (hsz b) with h1 | h1
  · exact .inl (by omega)
  · have e : hsz a = hsz b := Nat.le_antisymm (hsz_mono a b h) h1
    refine .inr ⟨by omega, ?_⟩
    unfold hd
    rcases Nat.lt_or_ge b 24 with h2 | h2
    · have eb : hlow b = b := by unfold hlow; rw [if_pos h2]
      have ea : hlow a = a := by unfold hlow; rw [if_pos (by omega)]
      have hlt : UInt8.ofNat (32 * m + a) < UInt8.ofNat (32 * m + b) := by
        rw [UInt8.lt_iff_toNat_lt, byte_nat _ (by omega), byte_nat _ (by omega)]
        omega
      rw [ea, eb, Op.bytesLess, decide_eq_true hlt]
      rfl
    · have hal : 24 ≤ a := by
        rcases Nat.lt_or_ge a 24 with h3 | h3
        · obtain ⟨g, _, _⟩ := hsz_low b h2
          unfold hsz at e
          rw [if_pos h3] at e
          have hp : 0 < 2 ^ (hlow b - 24) := Nat.pow_pos (by decide)
          unfold hsz at g
          omega
        · exact h3
      have el : hlow a = hlow b := by
        obtain ⟨g1, g2, _⟩ := hsz_low a hal
        obtain ⟨g3, g4, _⟩ := hsz_low b h2
        have := (Nat.pow_right_inj (a := 2) (by decide)).1 (g1.symm.trans (e.trans g3))
        omega
      rw [el, e, Op.bytesLess, be_less _ _ _ h (hsz_bd b hb h2)]
      simp
end Go.Proofs.YtmcflcihldmidaaDoor
/- The plain mathematics of layer 4: endpoints, their texts and items; two endpoints are two texts, and two items. No program's number stands here. -/
namespace Go.Proofs.YtmcflcihldmidaaDoor
open Go.Lib (decDigits)

/-- An endpoint: scheme, name, node, service. -/
structure Epd where
  scheme : Int
  name : List UInt8
  node : Nat
  service : Nat

def letterB (c : UInt8) : Bool := (decide (97 ≤ c.toNat) && decide (c.toNat ≤ 122)) || ((decide (48 ≤ c.toNat) && decide (c.toNat ≤ 57)) || (c == 46 || (c == 45 || c == 95)))
/-- A letter, or a slash. -/
def lsB (c : UInt8) : Bool := c == 47 || letterB c
/-- How many bytes stand ahead of the first slash; the length, if there is none. -/
def toSlash (s : List UInt8) : Nat := (s.takeWhile fun c => c != 47).length
/-- A name that may be: two slashes, letters, a slash, letters and slashes. -/
def nameB (s : List UInt8) : Bool :=
  decide (s.length ≤ 64) && (match s with
    | a :: b :: r => (a == 47 && b == 47) && (r.all lsB && (decide (1 ≤ toSlash r) && decide (toSlash r < r.length)))
    | _ => false)
/-- Where a name's third slash stands. -/
def third (s : List UInt8) : Nat := 2 + toSlash (s.drop 2)
def noneB (e : Epd) : Bool := e.scheme == 1 && (e.name.isEmpty && (e.node == 0 && e.service == 0))
def checkB (e : Epd) : Bool :=
  if e.scheme = 1 then (e.node == 0 && e.service == 0) && (e.name.isEmpty || nameB e.name)
  else e.scheme == 2 && (e.name.isEmpty && (decide (0 < e.node) && (decide (e.node ≤ 4294967295) && decide (e.service ≤ 4294967295))))
def dtnL : List UInt8 := [100, 116, 110, 58]
def ipnL : List UInt8 := [105, 112, 110, 58]
def noneL : List UInt8 := [110, 111, 110, 101]
/-- The text of an endpoint that may be; of others the empty one. -/
def textE (e : Epd) : List UInt8 :=
  if checkB e = false then [] else if e.scheme = 2 then ipnL ++ (decDigits e.node ++ (46 :: decDigits e.service)) else if e.name = [] then dtnL ++ noneL else dtnL ++ e.name
/-- The text of its node. -/
def nodeE (e : Epd) : List UInt8 :=
  if checkB e = false ∨ noneB e = true then [] else if e.scheme = 2 then ipnL ++ (decDigits e.node ++ [46, 48]) else dtnL ++ e.name.take (third e.name + 1)
/-- The item of an endpoint that may be. -/
def itemE (e : Epd) : Itm :=
  .mk 4 0 [] [.mk 0 e.scheme.toNat [] [], if e.scheme = 2 then .mk 4 0 [] [.mk 0 e.node [] [], .mk 0 e.service [] []] else if e.name = [] then .mk 0 0 [] [] else .mk 3 0 e.name []]

theorem check_dtn {e : Epd} (h : checkB e = true) (h1 : e.scheme = 1) : e.node = 0 ∧ e.service = 0 ∧ (e.name = [] ∨ nameB e.name = true) := by
  unfold checkB at h
  rw [if_pos h1] at h
  simp only [Bool.and_eq_true, Bool.or_eq_true, beq_iff_eq, List.isEmpty_iff] at h
  exact ⟨h.1.1, h.1.2, h.2⟩
theorem check_ipn {e : Epd} (h : checkB e = true) (h1 : e.scheme ≠ 1) : e.scheme = 2 ∧ e.name = [] ∧ 0 < e.node ∧ e.node ≤ 4294967295 ∧ e.service ≤ 4294967295 := by
  unfold checkB at h
  rw [if_neg h1] at h
  simp only [Bool.and_eq_true, beq_iff_eq, List.isEmpty_iff, decide_eq_true_eq] at h
  exact ⟨h.1, h.2.1, h.2.2.1, h.2.2.2.1, h.2.2.2.2⟩
theorem name_head {s : List UInt8} (h : nameB s = true) : ∃ r, s = 47 :: 47 :: r ∧ r.all lsB = true ∧ 1 ≤ toSlash r ∧ toSlash r < r.length ∧ s.length ≤ 64 := by
  unfold nameB at h
  match s, h with
  | [], h => simp at h
  | [_], h => simp at h
  | a :: b :: r, h =>
    simp only [Bool.and_eq_true, beq_iff_eq, decide_eq_true_eq] at h
    obtain ⟨h1, ⟨rfl, rfl⟩, h2, h3, h4⟩ := h
    exact ⟨r, rfl, h2, h3, h4, h1⟩

/-- Digits are no dot. -/
theorem dec_no_dot : ∀ x : Nat, ∀ c ∈ decDigits x, c ≠ 46 := by
  intro x
  induction x using Nat.strongRecOn with
  | _ x ih =>
    intro c hc
    have hd : ∀ d : Fin 10, UInt8.ofNat (48 + d.val) ≠ 46 := by decide +kernel
    by_cases hx : x < 10
    · rw [dec_small hx] at hc
      simp only [List.mem_singleton] at hc
      subst hc
      exact hd ⟨x, hx⟩
    · rw [dec_big hx, List.mem_append] at hc
      rcases hc with hc | hc
      · exact ih (x / 10) (by omega) c hc
      · simp only [List.mem_singleton] at hc
        subst hc
        exact hd ⟨x % 10, by omega⟩
theorem dot_split : ∀ (a b r t : List UInt8), (∀ c ∈ a, c ≠ 46) → (∀ c ∈ b, c ≠ 46) → a ++ 46 :: r = b ++ 46 :: t → a = b ∧ r = t
  | [], [], r, t, _, _, h => by simpa using h
  | [], y :: b, r, t, _, hb, h => by
    simp only [List.nil_append, List.cons_append, List.cons.injEq] at h
    exact absurd h.1.symm (hb y (by simp))
  | x :: a, [], r, t, ha, _, h => by
    simp only [List.nil_append, List.cons_append, List.cons.injEq] at h
    exact absurd h.1 (ha x (by simp))
  | x :: a, y :: b, r, t, ha, hb, h => by
    simp only [List.cons_append, List.cons.injEq] at h
    obtain ⟨h1, h2⟩ := dot_split a b r t (fun c hc => ha c (by simp [hc])) (fun c hc => hb c (by simp [hc])) h.2
    exact ⟨by rw [h.1, h1], h2⟩
theorem epd_ext {a b : Epd} (h1 : a.scheme = b.scheme) (h2 : a.name = b.name) (h3 : a.node = b.node) (h4 : a.service = b.service) : a = b := by
  cases a; cases b; simp_all

theorem textE_ipn {e : Epd} (h : checkB e = true) (h2 : e.scheme = 2) : textE e = ipnL ++ (decDigits e.node ++ (46 :: decDigits e.service)) := by
  unfold textE
  rw [if_neg (by rw [h]; decide), if_pos h2]
theorem textE_none {e : Epd} (h : checkB e = true) (h1 : e.scheme = 1) (hn : e.name = []) : textE e = dtnL ++ noneL := by
  unfold textE
  rw [if_neg (by rw [h]; decide), if_neg (by omega), if_pos hn]
theorem textE_dtn {e : Epd} (h : checkB e = true) (h1 : e.scheme = 1) (hn : e.name ≠ []) : textE e = dtnL ++ e.name := by
  unfold textE
  rw [if_neg (by rw [h]; decide), if_neg (by omega), if_neg hn]
/-- Two endpoints are two texts. -/
theorem text_inj {a b : Epd} (ha : checkB a = true) (hb : checkB b = true) (h : textE a = textE b) : a = b := by
  have hdi : ∀ r t : List UInt8, dtnL ++ r ≠ ipnL ++ t := by
    intro r t h
    simp [dtnL, ipnL] at h
  by_cases a1 : a.scheme = 1
  · obtain ⟨an, ac, am⟩ := check_dtn ha a1
    by_cases b1 : b.scheme = 1
    · obtain ⟨bn, bs, bm⟩ := check_dtn hb b1
      have hno : ∀ s, nameB s = true → dtnL ++ s ≠ dtnL ++ noneL := by
        intro s hs e
        obtain ⟨r, rfl, _⟩ := name_head hs
        simp [dtnL, noneL] at e
      refine epd_ext (a1.trans b1.symm) ?_ (an.trans bn.symm) (ac.trans bs.symm)
      by_cases a0 : a.name = []
      · by_cases b0 : b.name = []
        · rw [a0, b0]
        · rw [textE_none ha a1 a0, textE_dtn hb b1 b0] at h
          exact absurd h.symm (hno _ (bm.resolve_left b0))
      · by_cases b0 : b.name = []
        · rw [textE_dtn ha a1 a0, textE_none hb b1 b0] at h
          exact absurd h (hno _ (am.resolve_left a0))
        · rw [textE_dtn ha a1 a0, textE_dtn hb b1 b0] at h
          exact List.append_cancel_left h
    · obtain ⟨b2, _⟩ := check_ipn hb b1
      rw [textE_ipn hb b2] at h
      by_cases a0 : a.name = []
      · rw [textE_none ha a1 a0] at h; exact absurd h (hdi _ _)
      · rw [textE_dtn ha a1 a0] at h; exact absurd h (hdi _ _)
  · obtain ⟨a2, an, _⟩ := check_ipn ha a1
    rw [textE_ipn ha a2] at h
    by_cases b1 : b.scheme = 1
    · by_cases b0 : b.name = []
      · rw [textE_none hb b1 b0] at h; exact absurd h.symm (hdi _ _)
      · rw [textE_dtn hb b1 b0] at h; exact absurd h.symm (hdi _ _)
    · obtain ⟨b2, bn, _⟩ := check_ipn hb b1
      rw [textE_ipn hb b2] at h
      obtain ⟨h1, h2⟩ := dot_split _ _ _ _ (dec_no_dot _) (dec_no_dot _) (List.append_cancel_left h)
      exact epd_ext (a2.trans b2.symm) (an.trans bn.symm) (dec_inj _ _ h1) (dec_inj _ _ h2)
/-- Two endpoints are two items. -/
theorem item_inj {a b : Epd} (ha : checkB a = true) (hb : checkB b = true) (h : itemE a = itemE b) : a = b := by
  unfold itemE at h
  simp only [Itm.mk.injEq, List.cons.injEq, and_true, true_and] at h
  obtain ⟨h1, h2⟩ := h
  by_cases a1 : a.scheme = 1
  · obtain ⟨an, ac, am⟩ := check_dtn ha a1
    by_cases b1 : b.scheme = 1
    · obtain ⟨bn, bs, bm⟩ := check_dtn hb b1
      have na : ¬ a.scheme = 2 := by omega
      have nb : ¬ b.scheme = 2 := by omega
      rw [if_neg na, if_neg nb] at h2
      refine epd_ext (a1.trans b1.symm) ?_ (an.trans bn.symm) (ac.trans bs.symm)
      by_cases a0 : a.name = []
      · by_cases b0 : b.name = []
        · rw [a0, b0]
        · rw [if_pos a0, if_neg b0] at h2; simp at h2
      · by_cases b0 : b.name = []
        · rw [if_neg a0, if_pos b0] at h2; simp at h2
        · rw [if_neg a0, if_neg b0] at h2; simpa using h2
    · obtain ⟨b2, _⟩ := check_ipn hb b1
      rw [a1, b2] at h1; simp at h1
  · obtain ⟨a2, an, _⟩ := check_ipn ha a1
    by_cases b1 : b.scheme = 1
    · rw [a2, b1] at h1; simp at h1
    · obtain ⟨b2, bn, _⟩ := check_ipn hb b1
      rw [if_pos a2, if_pos b2] at h2
      simp at h2
      exact epd_ext (a2.trans b2.symm) (an.trans bn.symm) h2.1 h2.2
end Go.Proofs.YtmcflcihldmidaaDoor
