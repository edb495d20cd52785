/- The plain mathematics of layer 4: endpoints, their texts and items; two endpoints are two texts, and two items. No program's number stands here. -/
import Derived.Test.YtldnokgdgafphaaDoorJCborI
import Derived.Test.YtldnokgdgafphaaDoorJCborO
namespace Go.Proofs.YtldnokgdgafphaaDoor
open Go.Lib (decDigits)

/-- An endpoint: scheme, name, node, service. -/
structure Epd where
  scheme : Int
  name : List UInt8
  node : Nat
  service : Nat

def letterB (c : UInt8) : Bool := (decide (97 ≤ c.toNat) && decide (c.toNat ≤ 122)) || ((decide (48 ≤ c.toNat) && decide (c.toNat ≤ 57)) || (c == 46 || (c == 45 || c == 95)))
/-- A letter, or a slash. -/
def lsB (c : UInt8) : Bool := c == 47 || letterB c
/-- How many bytes stand ahead of the first slash; the length, if there is none. -/
def toSlash (s : List UInt8) : Nat := (s.takeWhile fun c => c != 47).length
/-- A name that may be: two slashes, letters, a slash, letters and slashes. -/
def nameB (s : List UInt8) : Bool :=
  decide (s.length ≤ 64) && (match s with
    | a :: b :: r => (a == 47 && b == 47) && (r.all lsB && (decide (1 ≤ toSlash r) && decide (toSlash r < r.length)))
    | _ => false)
/-- Where a name's third slash stands. -/
def third (s : List UInt8) : Nat := 2 + toSlash (s.drop 2)
def noneB (e : Epd) : Bool := e.scheme == 1 && (e.name.isEmpty && (e.node == 0 && e.service == 0))
def checkB (e : Epd) : Bool :=
  if e.scheme = 1 then (e.node == 0 && e.service == 0) && (e.name.isEmpty || nameB e.name)
  else e.scheme == 2 && (e.name.isEmpty && (decide (0 < e.node) && (decide (e.node ≤ 4294967295) && decide (e.service ≤ 4294967295))))
def dtnL : List UInt8 := [100, 116, 110, 58]
def ipnL : List UInt8 := [105, 112, 110, 58]
def noneL : List UInt8 := [110, 111, 110, 101]
/-- The text of an endpoint that may be; of others the empty one. -/
def textE (e : Epd) : List UInt8 :=
  if checkB e = false then [] else if e.scheme = 2 then ipnL ++ (decDigits e.node ++ (46 :: decDigits e.service)) else if e.name = [] then dtnL ++ noneL else dtnL ++ e.name
/-- The text of its node. -/
def nodeE (e : Epd) : List UInt8 :=
  if checkB e = false ∨ noneB e = true then [] else if e.scheme = 2 then ipnL ++ (decDigits e.node ++ [46, 48]) else dtnL ++ e.name.take (third e.name + 1)
/-- The item of an endpoint that may be. -/
def itemE (e : Epd) : Itm :=
  .mk 4 0 [] [.mk 0 e.scheme.toNat [] [], if e.scheme = 2 then .mk 4 0 [] [.mk 0 e.node [] [], .mk 0 e.service [] []] else if e.name = [] then .mk 0 0 [] [] else .mk 3 0 e.name []]

theorem check_dtn {e : Epd} (h : checkB e = true) (h1 : e.scheme = 1) : e.node = 0 ∧ e.service = 0 ∧ (e.name = [] ∨ nameB e.name = true) := by
  unfold checkB at h
  rw [if_pos h1] at h
  simp only [Bool.and_eq_true, Bool.or_eq_true, beq_iff_eq, List.isEmpty_iff] at h
  exact ⟨h.1.1, h.1.2, h.2⟩
theorem check_ipn {e : Epd} (h : checkB e = true) (h1 : e.scheme ≠ 1) : e.scheme = 2 ∧ e.name = [] ∧ 0 < e.node ∧ e.node ≤ 4294967295 ∧ e.service ≤ 4294967295 := by
  unfold checkB at h
  rw [if_neg h1] at h
  simp only [Bool.and_eq_true, beq_iff_eq, List.isEmpty_iff, decide_eq_true_eq] at h
  exact ⟨h.1, h.2.1, h.2.2.1, h.2.2.2.1, h.2.2.2.2⟩
theorem name_head {s : List UInt8} (h : nameB s = true) : ∃ r, s = 47 :: 47 :: r ∧ r.all lsB = true ∧ 1 ≤ toSlash r ∧ toSlash r < r.length ∧ s.length ≤ 64 := by
  unfold nameB at h
  match s, h with
  | [], h => simp at h
  | [_], h => simp at h
  | a :: b :: r, h =>
    simp only [Bool.and_eq_true, beq_iff_eq, decide_eq_true_eq] at h
    obtain ⟨h1, ⟨rfl, rfl⟩, h2, h3, h4⟩ := h
    exact ⟨r, rfl, h2, h3, h4, h1⟩

/-- Digits are no dot. -/
theorem dec_no_dot : ∀ x : Nat, ∀ c ∈ decDigits x, c ≠ 46 := by
  intro x
  induction x using Nat.strongRecOn with
  | _ x ih =>
    intro c hc
    have hd : ∀ d : Fin 10, UInt8.ofNat (48 + d.val) ≠ 46 := by decide +kernel
    by_cases hx : x < 10
    · rw [dec_small hx] at hc
      simp only [List.mem_singleton] at hc
      subst hc
      exact hd ⟨x, hx⟩
    · rw [dec_big hx, List.mem_append] at hc
      rcases hc with hc | hc
      · exact ih (x / 10) (by omega) c hc
      · simp only [List.mem_singleton] at hc
        subst hc
        exact hd ⟨x % 10, by omega⟩
theorem dot_split : ∀ (a b r t : List UInt8), (∀ c ∈ a, c ≠ 46) → (∀ c ∈ b, c ≠ 46) → a ++ 46 :: r = b ++ 46 :: t → a = b ∧ r = t
  | [], [], r, t, _, _, h => by simpa using h
  | [], y :: b, r, t, _, hb, h => by
    simp only [List.nil_append, List.cons_append, List.cons.injEq] at h
    exact absurd h.1.symm (hb y (by simp))
  | x :: a, [], r, t, ha, _, h => by
    simp only [List.nil_append, List.cons_append, List.cons.injEq] at h
    exact absurd h.1 (ha x (by simp))
  | x :: a, y :: b, r, t, ha, hb, h => by
    simp only [List.cons_append, List.cons.injEq] at h
    obtain ⟨h1, h2⟩ := dot_split a b r t (fun c hc => ha c (by simp [hc])) (fun c hc => hb c (by simp [hc])) h.2
    exact ⟨by rw [h.1, h1], h2⟩
theorem epd_ext {a b : Epd} (h1 : a.scheme = b.scheme) (h2 : a.name = b.name) (h3 : a.node = b.node) (h4 : a.service = b.service) : a = b := by
  cases a; cases b; simp_all

theorem textE_ipn {e : Epd} (h : checkB e = true) (h2 : e.scheme = 2) : textE e = ipnL ++ (decDigits e.node ++ (46 :: decDigits e.service)) := by
  unfold textE
  rw [if_neg (by rw [h]; decide), if_pos h2]
theorem textE_none {e : Epd} (h : checkB e = true) (h1 : e.scheme = 1) (hn : e.name = []) : textE e = dtnL ++ noneL := by
  unfold textE
  rw [if_neg (by rw [h]; decide), if_neg (by omega), if_pos hn]
theorem textE_dtn {e : Epd} (h : checkB e = true) (h1 : e.scheme = 1) (hn : e.name ≠ []) : textE e = dtnL ++ e.name := by
  unfold textE
  rw [if_neg (by rw [h]; decide), if_neg (by omega), if_neg hn]
/-- Two endpoints are two texts. -/
theorem text_inj {a b : Epd} (ha : checkB a = true) (hb : checkB b = true) (h : textE a = textE b) : a = b := by
  have hdi : ∀ r t : List UInt8, dtnL ++ r ≠ ipnL ++ t := by
    intro r t h
    simp [dtnL, ipnL] at h
  by_cases a1 : a.scheme = 1
  · obtain ⟨an, ac, am⟩ := check_dtn ha a1
    by_cases b1 : b.scheme = 1
    · obtain ⟨bn, bs, bm⟩ := check_dtn hb b1
      have hno : ∀ s, nameB s = true → dtnL ++ s ≠ dtnL ++ noneL := by
        intro s hs e
        obtain ⟨r, rfl, _⟩ := name_head hs
        simp [dtnL, noneL] at e
      refine epd_ext (a1.trans b1.symm) ?_ (an.trans bn.symm) (ac.trans bs.symm)
      by_cases a0 : a.name = []
      · by_cases b0 : b.name = []
        · rw [a0, b0]
        · rw [textE_none ha a1 a0, textE_dtn hb b1 b0] at h
          exact absurd h.symm (hno _ (bm.resolve_left b0))
      · by_cases b0 : b.name = []
        · rw [textE_dtn ha a1 a0, textE_none hb b1 b0] at h
          exact absurd h (hno _ (am.resolve_left a0))
        · rw [textE_dtn ha a1 a0, textE_dtn hb b1 b0] at h
          exact List.append_cancel_left h
    · obtain ⟨b2, _⟩ := check_ipn hb b1
      rw [textE_ipn hb b2] at h
      by_cases a0 : a.name = []
      · rw [textE_none ha a1 a0] at h; exact absurd h (hdi _ _)
      · rw [textE_dtn ha a1 a0] at h; exact absurd h (hdi _ _)
  · obtain ⟨a2, an, _⟩ := check_ipn ha a1
    rw [textE_ipn ha a2] at h
    by_cases b1 : b.scheme = 1
    · by_cases b0 : b.name = []
      · rw [textE_none hb b1 b0] at h; exact absurd h.symm (hdi _ _)
      · rw [textE_dtn hb b1 b0] at h; exact absurd h.symm (hdi _ _)
    · obtain ⟨b2, bn, _⟩ := check_ipn hb b1
      rw [textE_ipn hb b2] at h
      obtain ⟨h1, h2⟩ := dot_split _ _ _ _ (dec_no_dot _) (dec_no_dot _) (List.append_cancel_left h)
      exact epd_ext (a2.trans b2.symm) (an.trans bn.symm) (dec_inj _ _ h1) (dec_inj _ _ h2)
/-- Two endpoints are two items. -/
theorem item_inj {a b : Epd} (ha : checkB a = true) (hb : checkB b = true) (h : itemE a = itemE b) : a = b := by
  unfold itemE at h
  simp only [Itm.mk.injEq, List.cons.injEq, and_true, true_and] at h
  obtain ⟨h1, h2⟩ := h
  by_cases a1 : a.scheme = 1
  · obtain ⟨an, ac, am⟩ := check_dtn ha a1
    by_cases b1 : b.scheme = 1
    · obtain ⟨bn, bs, bm⟩ := check_dtn hb b1
      have na : ¬ a.scheme = 2 := by omega
      have nb : ¬ b.scheme = 2 := by omega
      rw [if_neg na, if_neg nb] at h2
      refine epd_ext (a1.trans b1.symm) ?_ (an.trans bn.symm) (ac.trans bs.symm)
      by_cases a0 : a.name = []
      · by_cases b0 : b.name = []
        · rw [a0, b0]
        · rw [if_pos a0, if_neg b0] at h2; simp at h2
      · by_cases b0 : b.name = []
        · rw [if_neg a0, if_pos b0] at h2; simp at h2
        · rw [if_neg a0, if_neg b0] at h2; simpa using h2
    · obtain ⟨b2, _⟩ := check_ipn hb b1
      rw [a1, b2] at h1; simp at h1
  · obtain ⟨a2, an, _⟩ := check_ipn ha a1
    by_cases b1 : b.scheme = 1
    · rw [a2, b1] at h1; simp at h1
    · obtain ⟨b2, bn, _⟩ := check_ipn hb b1
      rw [if_pos a2, if_pos b2] at h2
      simp at h2
      exact epd_ext (a2.trans b2.symm) (an.trans bn.symm) h2.1 h2.2
end Go.Proofs.YtldnokgdgafphaaDoor
