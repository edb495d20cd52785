/- The plain mathematics of layer 4: endpoints, their texts and items; two endpoints are two texts, and two items. No program's number stands here. -/
import Derived.Test.YtbdjkihgcmebgaaGreatDoorRBase
import Derived.Test.YtbdjkihgcmebgaaGreatDoorRCborD
import Derived.Test.YtbdjkihgcmebgaaGreatDoorRCborE
import Derived.Test.YtbdjkihgcmebgaaGreatDoorRCborI
import Derived.Test.YtbdjkihgcmebgaaGreatDoorRCborM
import Derived.Test.YtbdjkihgcmebgaaGreatDoorRCborO
import Derived.Test.YtbdjkihgcmebgaaGreatDoorRCborQ
import Derived.Test.YtbdjkihgcmebgaaGreatDoorRCborU
import Derived.Test.YtbdjkihgcmebgaaGreatDoorRCborV
import Derived.Test.YtbdjkihgcmebgaaGreatDoorRKCheck
import Derived.Test.YtbdjkihgcmebgaaGreatDoorRKHead
import Derived.Test.YtbdjkihgcmebgaaGreatDoorRKMake
import Derived.Test.YtbdjkihgcmebgaaGreatDoorRNumG
import Derived.Test.YtbdjkihgcmebgaaGreatDoorRNumO
import Derived.Test.YtbdjkihgcmebgaaGreatDoorROwn
import Derived.Test.YtbdjkihgcmebgaaGreatDoorRows
namespace Go.Proofs.YtbdjkihgcmebgaaGreatDoor
open Go.Lib (decDigits)

/-- An endpoint: scheme, name, node, service. -/
structure Epd where
  scheme : Int
  name : List UInt8
  node : Nat
  service : Nat

def letterB (c : UInt8) : Bool := (decide (97 ≤ c.toNat) && decide (c.toNat ≤ 122)) || ((decide (48 ≤ c.toNat) && decide (c.toNat ≤ 57)) || (c == 46 || (c == 45 || c == 95)))
/-- A letter, or a slash. -/
def lsB (c : UInt8) : Bool := c == 47 || letterB c
/-- How many bytes stand ahead of the first slash; the length, if there is none. -/
def toSlash (s : List UInt8) : Nat := (s.takeWhile fun c => c != 47).length
/-- A name that may be: two slashes, letters, a slash, letters and slashes. -/
def nameB (s : List UInt8) : Bool :=
  decide (s.length ≤ 64) && (match s with
    | a :: b :: r => (a == 47 && b == 47) && (r.all lsB && (decide (1 ≤ toSlash r) && decide (toSlash r < r.length)))
    | _ => false)
/-- Where a name's third slash stands. -/
def third (s : List UInt8) : Nat := 2 + toSlash (s.drop 2)
def noneB (e : Epd) : Bool := e.scheme == 1 && (e.name.isEmpty && (e.node == 0 && e.service == 0))
def checkB (e : Epd) : Bool :=
  if e.scheme = 1 then (e.node == 0 && e.service == 0) && (e.name.isEmpty || nameB e.name)
  else e.scheme == 2 && (e.name.isEmpty && (decide (0 < e.node) && (decide (e.node ≤ 4294967295) && decide (e.service ≤ 4294967295))))
def dtnL : List UInt8 := [100, 116, 110, 58]
def ipnL : List UInt8 := [105, 112, 110, 58]
def noneL : List UInt8 := [110, 111, 110, 101]
/-- The text of an endpoint that may be; of others the empty one. -/
def textE (e : Epd) : List UInt8 :=
  if checkB e = false then [] else if e.scheme = 2 then ipnL ++ (decDigits e.node ++ (46 :: decDigits e.service)) else if e.name = [] then dtnL ++ noneL else dtnL ++ e.name
/-- The text of its node. -/
def nodeE (e : Epd) : List UInt8 :=
  if checkB e = false ∨ noneB e = true then [] else if e.scheme = 2 then ipnL ++ (decDigits e.node ++ [46, 48]) else dtnL ++ e.name.take (third e.name + 1)
/-- The item of an endpoint that may be. -/
def itemE (e : Epd) : Itm :=
  .mk 4 0 [] [.mk 0 e.scheme.toNat [] [], if e.scheme = 2 then .mk 4 0 [] [.mk 0 e.node [] [], .mk 0 e.service [] []] else if e.name = [] then .mk 0 0 [] [] else .mk 3 0 e.name []]

theorem check_dtn {e : Epd} (h : checkB e = true) (h1 : e.scheme = 1) : e.node = 0 ∧ e.service = 0 ∧ (e.name = [] ∨ nameB e.name = true) := by
  unfold checkB at h
  rw [if_pos h1] at h
  simp only [Bool.and_eq_true, Bool.or_eq_true, beq_iff_eq, List.isEmpty_iff] at h
  exact ⟨h.1.1, h.1.2, h.2⟩
theorem check_ipn {e : Epd} (h : checkB e = true) (h1 : e.scheme ≠ 1) : e.scheme = 2 ∧ e.name = [] ∧ 0 < e.node ∧ e.node ≤ 4294967295 ∧ e.service ≤ 4294967295 := by
  unfold checkB at h
  rw [if_neg h1] at h
  simp only [Bool.and_eq_true, beq_iff_eq, List.isEmpty_iff, decide_eq_true_eq] at h
  exact ⟨h.1, h.2.1, h.2.2.1, h.2.2.2.1, h.2.2.2.2⟩
theorem name_head {s : List UInt8} (h : nameB s = true) : ∃ r, s = 47 :: 47 :: r ∧ r.all lsB = true ∧ 1 ≤ toSlash r ∧ toSlash r < r.length ∧ s.length ≤ 64 := by
  unfold nameB at h
  match s, h with
  | [], h => simp at h
  | [_], h => simp at h
  | a :: b :: r, h =>
    simp only [Bool.and_eq_true, beq_iff_eq, decide_eq_true_eq] at h
    obtain ⟨h1, ⟨rfl, rfl⟩, h2, h3, h4⟩ := h
    exact ⟨r, rfl, h2, h3, h4, h1⟩

/-- Digits are no dot. -/
theorem dec_no_dot : ∀ x : Nat, ∀ c ∈ decDigits x, c ≠ 46 := by
  intro x
  induction x using Nat.strongRecOn with
  | _ x ih =>
    intro c hc
    have hd : ∀ d : Fin 10, UInt8.ofNat (48 + d.val) ≠ 46 := by decide +kernel
    by_cases hx : x < 10
    · rw [dec_small hx] at hc
      simp only [List.mem_singleton] at hc
      subst hc
      exact hd ⟨x, hx⟩
    · rw [dec_big hx, List.mem_append] at hc
      rcases hc with hc | hc
      · exact ih (x / 10) (by omega) c hc
      · simp only [List.mem_singleton] at hc
        subst hc
        exact hd ⟨x % 10, by omega⟩
theorem dot_split : ∀ (a b r t : List UInt8), (∀ c ∈ a, c ≠ 46) → (∀ c ∈ b, c ≠ 46) → a ++ 46 :: r = b ++ 46 :: t → a = b ∧ r = t
  | [], [], r, t, _, _, h => by simpa using h
  | [], y :: b, r, t, _, hb, h => by
    simp only [List.nil_append, List.cons_append, List.cons.injEq] at h
    exact absurd h.1.symm (hb y (by simp))
  | x :: a, [], r, t, ha, _, h => by
    simp only [List.nil_append, List.cons_append, List.cons.injEq] at h
    exact absurd h.1 (ha x (by simp))
  | x :: a, y :: b, r, t, ha, hb, h => by
    simp only [List.cons_append, List.cons.injEq] at h
    obtain ⟨h1, h2⟩ := dot_split a b r t (fun c hc => ha c (by simp [hc])) (fun c hc => hb c (by simp [hc])) h.2
    exact ⟨by rw [h.1, h1], h2⟩
theorem epd_ext {a b : Epd} (h1 : a.scheme = b.scheme) (h2 : a.name = b.name) (h3 : a.node = b.node) (h4 : a.service = b.service) : a = b := by
  cases a; cases b; simp_all

theorem textE_ipn {e : Epd} (h : checkB e = true) (h2 : e.scheme = 2) : textE e = ipnL ++ (decDigits e.node ++ (46 :: decDigits e.service)) := by
  unfold textE
  rw [if_neg (by rw [h]; decide), if_pos h2]
theorem textE_none {e : Epd} (h : checkB e = true) (h1 : e.scheme = 1) (hn : e.name = []) : textE e = dtnL ++ noneL := by
  unfold textE
  rw [if_neg (by rw [h]; decide), if_neg (by omega), if_pos hn]
theorem textE_dtn {e : Epd} (h : checkB e = true) (h1 : e.scheme = 1) (hn : e.name ≠ []) : textE e = dtnL ++ e.name := by
  unfold textE
  rw [if_neg (by rw [h]; decide), if_neg (by omega), if_neg hn]
/-- Two endpoints are two texts. -/
theorem text_inj {a b : Epd} (ha : checkB a = true) (hb : checkB b = true) (h : textE a = textE b) : a = b := by
  have hdi : ∀ r t : List UInt8, dtnL ++ r ≠ ipnL ++ t := by
    intro r t h
    simp [dtnL, ipnL] at h
  by_cases a1 : a.scheme = 1
  · obtain ⟨an, ac, am⟩ := check_dtn ha a1
    by_cases b1 : b.scheme = 1
    · obtain ⟨bn, bs, bm⟩ := check_dtn hb b1
      have hno : ∀ s, nameB s = true → dtnL ++ s ≠ dtnL ++ noneL := by
        intro s hs e
        obtain ⟨r, rfl, _⟩ := name_head hs
        simp [dtnL, noneL] at e
      refine epd_ext (a1.trans b1.symm) ?_ (an.trans bn.symm) (ac.trans bs.symm)
      by_cases a0 : a.name = []
      · by_cases b0 : b.name = []
        · rw [a0, b0]
        · rw [textE_none ha a1 a0, textE_dtn hb b1 b0] at h
          exact absurd h.symm (hno _ (bm.resolve_left b0))
      · by_cases b0 : b.name = []
        · rw [textE_dtn ha a1 a0, textE_none hb b1 b0] at h
          exact absurd h (hno _ (am.resolve_left a0))
        · rw [textE_dtn ha a1 a0, textE_dtn hb b1 b0] at h
          exact List.append_cancel_left h
    · obtain ⟨b2, _⟩ := check_ipn hb b1
      rw [textE_ipn hb b2] at h
      by_cases a0 : a.name = []
      · rw [textE_none ha a1 a0] at h; exact absurd h (hdi _ _)
      · rw [textE_dtn ha a1 a0] at h; exact absurd h (hdi _ _)
  · obtain ⟨a2, an, _⟩ := check_ipn ha a1
    rw [textE_ipn ha a2] at h
    by_cases b1 : b.scheme = 1
    · by_cases b0 : b.name = []
      · rw [textE_none hb b1 b0] at h; exact absurd h.symm (hdi _ _)
      · rw [textE_dtn hb b1 b0] at h; exact absurd h.symm (hdi _ _)
    · obtain ⟨b2, bn, _⟩ := check_ipn hb b1
      rw [textE_ipn hb b2] at h
      obtain ⟨h1, h2⟩ := dot_split _ _ _ _ (dec_no_dot _) (dec_no_dot _) (List.append_cancel_left h)
      exact epd_ext (a2.trans b2.symm) (an.trans bn.symm) (dec_inj _ _ h1) (dec_inj _ _ h2)
/-- Two endpoints are two items. -/
theorem item_inj {a b : Epd} (ha : checkB a = true) (hb : checkB b = true) (h : itemE a = itemE b) : a = b := by
  unfold itemE at h
  simp only [Itm.mk.injEq, List.cons.injEq, and_true, true_and] at h
  obtain ⟨h1, h2⟩ := h
  by_cases a1 : a.scheme = 1
  · obtain ⟨an, ac, am⟩ := check_dtn ha a1
    by_cases b1 : b.scheme = 1
    · obtain ⟨bn, bs, bm⟩ := check_dtn hb b1
      have na : ¬ a.scheme = 2 := by omega
      have nb : ¬ b.scheme = 2 := by omega
      rw [if_neg na, if_neg nb] at h2
      refine epd_ext (a1.trans b1.symm) ?_ (an.trans bn.symm) (ac.trans bs.symm)
      by_cases a0 : a.name = []
      · by_cases b0 : b.name = []
        · rw [a0, b0]
        · rw [if_pos a0, if_neg b0] at h2; simp at h2
      · by_cases b0 : b.name = []
        · rw [if_neg a0, if_pos b0] at h2; simp at h2
        · rw [if_neg a0, if_neg b0] at h2; simpa using h2
    · obtain ⟨b2, _⟩ := check_ipn hb b1
      rw [a1, b2] at h1; simp at h1
  · obtain ⟨a2, an, _⟩ := check_ipn ha a1
    by_cases b1 : b.scheme = 1
    · rw [a2, b1] at h1; simp at h1
    · obtain ⟨b2, bn, _⟩ := check_ipn hb b1
      rw [if_pos a2, if_pos b2] at h2
      simp at h2
      exact epd_ext (a2.trans b2.symm) (an.trans bn.symm) h2.1 h2.2
end Go.Proofs.YtbdjkihgcmebgaaGreatDoor
/- The plain mathematics of layer 4: names in pieces, nodes' texts. No program's number stands here. -/
namespace Go.Proofs.YtbdjkihgcmebgaaGreatDoor
open Go.Lib (decDigits)

theorem toSlash_app : ∀ (u t : List UInt8), (∀ c ∈ u, c ≠ 47) → toSlash (u ++ 47 :: t) = u.length
  | [], t, _ => by simp [toSlash]
  | x :: u, t, h => by
    have hx : (x != 47) = true := by rw [bne_iff_ne]; exact h x (by simp)
    have := toSlash_app u t (fun c hc => h c (by simp [hc]))
    unfold toSlash at this ⊢
    rw [List.cons_append, List.takeWhile_cons, if_pos hx, List.length_cons, this, List.length_cons]
theorem letter_no_slash {c : UInt8} (h : letterB c = true) : c ≠ 47 := by
  intro e
  subst e
  revert h
  decide
/-- A name in pieces. -/
def Pieces (s u t : List UInt8) : Prop := s = 47 :: 47 :: (u ++ 47 :: t) ∧ u ≠ [] ∧ (∀ c ∈ u, letterB c = true) ∧ t.all lsB = true ∧ s.length ≤ 64
theorem split_slash : ∀ r : List UInt8, toSlash r < r.length → ∃ u t, r = u ++ 47 :: t ∧ u.length = toSlash r ∧ ∀ c ∈ u, c ≠ 47
  | [], h => by simp at h
  | x :: r, h => by
    by_cases hx : x = 47
    · subst hx
      exact ⟨[], r, rfl, by simp [toSlash], fun c hc => (by cases hc)⟩
    · have hb : (x != 47) = true := by rw [bne_iff_ne]; exact hx
      have e : toSlash (x :: r) = toSlash r + 1 := by unfold toSlash; rw [List.takeWhile_cons, if_pos hb, List.length_cons]
      rw [e, List.length_cons] at h
      obtain ⟨u, t, h1, h2, h3⟩ := split_slash r (by omega)
      refine ⟨x :: u, t, by rw [h1]; rfl, by rw [List.length_cons, h2, e], fun c hc => ?_⟩
      simp only [List.mem_cons] at hc
      rcases hc with rfl | hc
      · exact hx
      · exact h3 c hc
theorem name_pieces {s : List UInt8} (h : nameB s = true) : ∃ u t, Pieces s u t := by
  obtain ⟨r, rfl, h2, h3, h4, h5⟩ := name_head h
  obtain ⟨u, t, rfl, hu, hn⟩ := split_slash r h4
  rw [List.all_append, List.all_cons, Bool.and_eq_true, Bool.and_eq_true] at h2
  refine ⟨u, t, rfl, ?_, fun c hc => ?_, h2.2.2, h5⟩
  · intro e
    have h0 : u.length = 0 := by rw [e]; rfl
    omega
  · have hl := List.all_eq_true.1 h2.1 c hc
    unfold lsB at hl
    rw [Bool.or_eq_true, beq_iff_eq] at hl
    exact hl.resolve_left (hn c hc)
theorem pieces_name {s u t : List UInt8} (h : Pieces s u t) : nameB s = true ∧ third s = 2 + u.length := by
  obtain ⟨rfl, h1, h2, h3, h4⟩ := h
  have hs : toSlash (u ++ 47 :: t) = u.length := toSlash_app u t (fun c hc => letter_no_slash (h2 c hc))
  have hp : 1 ≤ u.length := by
    cases u with
    | nil => exact absurd rfl h1
    | cons _ _ => simp
  refine ⟨?_, by unfold third; rw [List.drop_succ_cons, List.drop_succ_cons, List.drop_zero, hs]⟩
  unfold nameB
  simp only [Bool.and_eq_true, decide_eq_true_eq, hs, List.all_append, List.all_cons, h3]
  refine ⟨h4, ⟨by decide, by decide⟩, ⟨List.all_eq_true.2 fun c hc => ?_, by decide, by first | rfl | trivial⟩, hp, by simp⟩
  unfold lsB
  rw [h2 c hc, Bool.or_true]
theorem pieces_take {s u t : List UInt8} (h : Pieces s u t) : s.take (third s + 1) = 47 :: 47 :: (u ++ [47]) := by
  rw [(pieces_name h).2, h.1, show 2 + u.length + 1 = (u.length + 1) + 2 by omega, List.take_succ_cons, List.take_succ_cons]
  have : (u ++ 47 :: t).take (u.length + 1) = u ++ [47] := by
    rw [List.take_append, List.take_of_length_le (by omega), show u.length + 1 - u.length = 1 by omega]
    rfl
  rw [this]

theorem node_dtn {e : Epd} (h : checkB e = true) (h1 : e.scheme = 1) (hn : e.name ≠ []) : nodeE e = dtnL ++ e.name.take (third e.name + 1) := by
  unfold nodeE
  have hno : noneB e = false := by
    unfold noneB
    rw [show e.name.isEmpty = false by cases hh : e.name with | nil => exact absurd hh hn | cons _ _ => rfl]
    simp
  rw [if_neg (by rw [h, hno]; decide), if_neg (by omega)]
/-- An endpoint of Dtn that may be, but none: its name's pieces, its texts. -/
theorem dtn_all {e : Epd} (h : checkB e = true) (h1 : e.scheme = 1) (hn : e.name ≠ []) : ∃ u t, Pieces e.name u t ∧ textE e = dtnL ++ 47 :: 47 :: (u ++ 47 :: t) ∧ nodeE e = dtnL ++ 47 :: 47 :: (u ++ [47]) := by
  obtain ⟨u, t, hp⟩ := name_pieces ((check_dtn h h1).2.2.resolve_left hn)
  exact ⟨u, t, hp, by rw [textE_dtn h h1 hn, hp.1], by rw [node_dtn h h1 hn, pieces_take hp]⟩
theorem check_mk {s u t : List UInt8} (h : Pieces s u t) : checkB ⟨1, s, 0, 0⟩ = true := by
  unfold checkB
  rw [if_pos rfl, (pieces_name h).1]
  simp
theorem nodeE_ipn {e : Epd} (h : checkB e = true) (h2 : e.scheme = 2) : nodeE e = ipnL ++ (decDigits e.node ++ [46, 48]) := by
  unfold nodeE
  have hno : noneB e = false := by unfold noneB; rw [show (e.scheme == 1) = false by rw [h2]; decide]; rfl
  rw [if_neg (by rw [h, hno]; decide), if_pos h2]
/-- Nodes of Ipn are told by their number. -/
theorem node_ipn_iff {a b : Epd} (ha : checkB a = true) (hb : checkB b = true) (a2 : a.scheme = 2) (b2 : b.scheme = 2) : nodeE a = nodeE b ↔ a.node = b.node := by
  rw [nodeE_ipn ha a2, nodeE_ipn hb b2]
  constructor
  · intro h
    exact dec_inj _ _ (dot_split _ _ [48] [48] (dec_no_dot _) (dec_no_dot _) (List.append_cancel_left h)).1
  · intro h; rw [h]
/-- A node's text is an endpoint's, whose node it is. -/
theorem node_text {e : Epd} (h : checkB e = true) (hn : noneB e = false) : ∃ n : Epd, checkB n = true ∧ textE n = nodeE e ∧ nodeE n = nodeE e ∧ n.scheme = e.scheme ∧ (nodeE e).length ≤ (textE e).length + 2 := by
  by_cases h1 : e.scheme = 1
  · have hne : e.name ≠ [] := by
      intro h0
      obtain ⟨a, b, _⟩ := check_dtn h h1
      unfold noneB at hn
      rw [h1, h0, a, b] at hn
      simp at hn
    obtain ⟨u, t, hp, ht, hnd⟩ := dtn_all h h1 hne
    have hp2 : Pieces (47 :: 47 :: (u ++ [47])) u [] := ⟨rfl, hp.2.1, hp.2.2.1, rfl, by have := hp.2.2.2.2; rw [hp.1] at this; simp at this ⊢; omega⟩
    have hc := check_mk hp2
    have htx : textE ⟨1, 47 :: 47 :: (u ++ [47]), 0, 0⟩ = dtnL ++ 47 :: 47 :: (u ++ [47]) := textE_dtn hc rfl (by simp)
    refine ⟨⟨1, 47 :: 47 :: (u ++ [47]), 0, 0⟩, hc, by rw [htx, hnd], ?_, h1.symm, by rw [ht, hnd]; simp; omega⟩
    rw [hnd, node_dtn hc rfl (by simp), pieces_take hp2]
  · obtain ⟨h2, hnm, hn0, hn1, _⟩ := check_ipn h h1
    have hc : checkB ⟨2, [], e.node, 0⟩ = true := by unfold checkB; rw [if_neg (show ¬ (2 : Int) = 1 by decide)]; simp; omega
    refine ⟨⟨2, [], e.node, 0⟩, hc, ?_, ?_, h2.symm, ?_⟩
    · rw [textE_ipn hc rfl, nodeE_ipn h h2, show decDigits 0 = [48] by rw [dec_small (by decide)]; rfl]
    · rw [nodeE_ipn hc rfl, nodeE_ipn h h2]
    · rw [nodeE_ipn h h2, textE_ipn h h2]
      simp
      omega
theorem slash_split : ∀ (a b r t : List UInt8), (∀ c ∈ a, c ≠ 47) → (∀ c ∈ b, c ≠ 47) → a ++ 47 :: r = b ++ 47 :: t → a = b ∧ r = t
  | [], [], r, t, _, _, h => by simpa using h
  | [], y :: b, r, t, _, hb, h => by
    simp only [List.nil_append, List.cons_append, List.cons.injEq] at h
    exact absurd h.1.symm (hb y (by simp))
  | x :: a, [], r, t, ha, _, h => by
    simp only [List.nil_append, List.cons_append, List.cons.injEq] at h
    exact absurd h.1 (ha x (by simp))
  | x :: a, y :: b, r, t, ha, hb, h => by
    simp only [List.cons_append, List.cons.injEq] at h
    obtain ⟨h1, h2⟩ := slash_split a b r t (fun c hc => ha c (by simp [hc])) (fun c hc => hb c (by simp [hc])) h.2
    exact ⟨by rw [h.1, h1], h2⟩
/-- Behind a node's text: what may stand there. -/
theorem home_text {e : Epd} (h : checkB e = true) (h1 : e.scheme = 1) (hn : e.name ≠ []) (rest : List UInt8) (fine : Bool) (hf : fine = (decide ((nodeE e).length + rest.length ≤ 68) && rest.all lsB)) :
    (fine = true → ∃ f : Epd, checkB f = true ∧ textE f = nodeE e ++ rest ∧ nodeE f = nodeE e) ∧ (fine = false → ¬ ∃ f : Epd, checkB f = true ∧ textE f = nodeE e ++ rest) ∧ ∃ t, textE e = nodeE e ++ t := by
  obtain ⟨u, t, hp, ht, hnd⟩ := dtn_all h h1 hn
  refine ⟨?_, ?_, t, by rw [ht, hnd]; simp⟩
  · intro h3
    rw [hf, Bool.and_eq_true, decide_eq_true_eq, hnd] at h3
    have hp2 : Pieces (47 :: 47 :: (u ++ 47 :: rest)) u rest := ⟨rfl, hp.2.1, hp.2.2.1, h3.2, by have := h3.1; simp [dtnL] at this ⊢; omega⟩
    have hc := check_mk hp2
    refine ⟨⟨1, 47 :: 47 :: (u ++ 47 :: rest), 0, 0⟩, hc, ?_, ?_⟩
    · rw [textE_dtn hc rfl (by simp), hnd]; simp
    · rw [hnd, node_dtn hc rfl (by simp), pieces_take hp2]
  · rintro h3 ⟨f, hc, hft⟩
    rw [hnd] at hft
    by_cases f1 : f.scheme = 1
    · by_cases f0 : f.name = []
      · rw [textE_none hc f1 f0] at hft
        simp [dtnL, noneL] at hft
      · obtain ⟨u', t', hp', ht', _⟩ := dtn_all hc f1 f0
        rw [ht', List.append_assoc] at hft
        have h4 := List.append_cancel_left hft
        simp only [List.cons_append, List.append_assoc, List.cons.injEq, true_and, List.nil_append] at h4
        have h5 := slash_split u' u t' rest (fun c hc => letter_no_slash (hp'.2.2.1 c hc)) (fun c hc => letter_no_slash (hp.2.2.1 c hc)) h4
        obtain ⟨rfl, rfl⟩ := h5
        rw [hf] at h3
        have hl := hp'.2.2.2.2
        rw [hp'.1] at hl
        rw [hp'.2.2.2.1, Bool.and_true, decide_eq_false_iff_not, hnd] at h3
        simp [dtnL] at h3 hl
        omega
    · obtain ⟨f2, _⟩ := check_ipn hc f1
      rw [textE_ipn hc f2] at hft
      simp [dtnL, ipnL] at hft
end Go.Proofs.YtbdjkihgcmebgaaGreatDoor
/- Text of layer 3. -/
namespace Go.Proofs.YtbdjkihgcmebgaaGreatDoor
open Go.RowKit

end Go.Proofs.YtbdjkihgcmebgaaGreatDoor
/- In the place of EidA where the whole of layer 3 lies in the dump (imports alone). -/
/- What write and writeAll of layer 3 return, of every right item: its bytes behind those that were there. -/
namespace Go.Proofs.YtbdjkihgcmebgaaGreatDoor
open Go.RowKit

/-- Between two worlds nothing but v's own block was turned, and v' lies there, or is new. -/
structure Run (v : Value) (w : World) (v' : Value) (w' : World) : Prop where
  grown : w.grownBy w' v.ownBlock
  own : v'.ownBlock = v.ownBlock ∨ ∃ k, v'.ownBlock = some k ∧ w.heap.size ≤ k
section
variable {v v1 v2 : Value} {w w1 w2 : World} {base : Nat} {t : TypeId} {l : List UInt8}
theorem Run.refl (v : Value) (w : World) : Run v w v w := ⟨World.grownBy.refl w _, .inl rfl⟩
theorem Run.trans (h : Run v w v1 w1) (k : Run v1 w1 v2 w2) : Run v w v2 w2 := by
  refine ⟨⟨k.grown.os.trans h.grown.os, k.grown.tape.trans h.grown.tape, k.grown.output.trans h.grown.output, Nat.le_trans h.grown.size k.grown.size, fun i hi hne => ?_⟩, ?_⟩
  · refine (k.grown.block i (Nat.lt_of_lt_of_le hi h.grown.size) (fun e => ?_)).trans (h.grown.block i hi hne)
    rcases h.own with ho | ⟨q, ho, hq⟩
    · exact hne (e.trans ho)
    · rw [ho] at e; injection e with e; omega
  · rcases k.own with ko | ⟨q, ko, hq⟩
    · rcases h.own with ho | ⟨q, ho, hq⟩
      · exact .inl (ko.trans ho)
      · exact .inr ⟨q, ko.trans ho, hq⟩
    · exact .inr ⟨q, ko, Nat.le_trans h.grown.size hq⟩
theorem Run.quiet (h : Run v w v1 w1) (hb : Below w1.heap.size w1 w2) : Run v w v1 w2 :=
  h.trans ⟨⟨hb.os, hb.tape, hb.output, hb.size, fun k hk _ => hb.block k hk⟩, .inl rfl⟩
theorem Run.alloc (h : Run v w v1 w1) (o : Obj) : Run v w v1 (w1.alloc o) := h.quiet ((Below.refl _ _).alloc (Nat.le_refl _) o)
theorem Run.drew (h : Run v w v1 w1) : Run v w v1 w1.drew := h.quiet ((Below.refl _ _).drew)
theorem Run.below (h : Run v w v1 w1) (ho : Ob w base t v l) (hbase : base ≤ w.heap.size) : Below base w w1 :=
  ⟨h.grown.os, h.grown.tape, h.grown.output, h.grown.size, fun k hk => h.grown.block k (by omega) (fun e => by have := (World.ownsRow.lt ho k e.symm).1; omega)⟩
theorem Run.cell (h : Run v w v1 w1) {p : Addr} (hp : p.block < w.heap.size) (hne : v.ownBlock ≠ some p.block) : w1.cell? p = w.cell? p :=
  World.cell?_of_block (w := w) (h.grown.block p.block hp (fun e => hne e.symm))
theorem Run.ne (h : Run v w v1 w1) {k : Nat} (hk : k < w.heap.size) (hne : v.ownBlock ≠ some k) : v1.ownBlock ≠ some k := fun e => by
  rcases h.own with ho | ⟨q, ho, hq⟩
  · exact hne (ho.symm.trans e)
  · rw [ho] at e; injection e with e; omega
end

/-- A call gives back a slice of its caller's own that reads as l, and turns nothing else. -/
def GivesW (t : TypeId) (base : Nat) (vb : Value) (l : List UInt8) (w : World) (e : Ending) (w' : World) : Prop := ∃ v, e = .returned v ∧ Ob w' base t v l ∧ Run vb w v w'
/-- The call of write on each smaller item. -/
def CWriteIH (m : Nat) : Prop := ∀ (x : Itm) (v vb : Value) (lb : List UInt8) (w : World) (base : Nat), par x < m → right x = true → lb.length + (wri x).length ≤ 140737488355328 → base ≤ w.heap.size → RdI w base v x → Ob w base 5 vb lb →
    Calls Tryz.prog 50 #[vb, v] w (GivesW 5 base vb (lb ++ wri x) w)

section
variable {P : Program} {w : World}
/-- append onto an own slice, with what stays besides. -/
theorem wpList_appR {ops : Array Oper} {rest : List Oper} {o : Oper} {a : Act} {Q : Exit → Act → World → Prop} (hgd : o.guard = none) (s x : Operand) (t : TypeId)
    (ho : o.op = .call { callee := .builtin .append, args := #[s, x], argTypes := #[t, t] })
    (base : Nat) (e : TypeId) (ht : P.underlying t = some (.slice e)) (hinfo : (P.info? e).map (fun i => (i.zero, i.size, i.bytes)) = some (some (.int .u8 0), 1, 1))
    (v : Value) (l : List UInt8) (hs : a.eval s = v) (hown : Ob w base e v l) (B : Nat) (A : Option Addr) (m c : Nat) (news : List UInt8) (hx : a.eval x = .slice A m c) (hr : Rd w B A m news)
    (hbound : l.length + m ≤ 140737488355328) (hbase : base ≤ w.heap.size)
    (h : ∀ v' w', Ob w' base e v' (l ++ news) → Run v w v' w' → wpList P ops Q rest (a.put o.dst v') w') : wpList P ops Q (o :: rest) a w :=
  wpList_app hgd s x t ho base e ht hinfo v l hs hown B A m c news hx hr hbound hbase fun v' w' h1 h2 h3 =>
    h v' w' h1 ⟨h2, h3.imp id fun e => ⟨_, e, Nat.le_refl _⟩⟩
/-- The same at a step of a region that draws its order. -/
theorem step_appR {ops : Array Oper} {o : Oper} {a : Act} {K : Act → World → Prop} {Q : Exit → Act → World → Prop} {E : Prop} (hgd : o.guard = none) (s x : Operand) (t : TypeId)
    (ho : o.op = .call { callee := .builtin .append, args := #[s, x], argTypes := #[t, t] })
    (base : Nat) (e : TypeId) (ht : P.underlying t = some (.slice e)) (hinfo : (P.info? e).map (fun i => (i.zero, i.size, i.bytes)) = some (some (.int .u8 0), 1, 1))
    (v : Value) (l : List UInt8) (hs : a.eval s = v) (hown : Ob w base e v l) (B : Nat) (A : Option Addr) (m c : Nat) (news : List UInt8) (hx : a.eval x = .slice A m c) (hr : Rd w B A m news)
    (hbound : l.length + m ≤ 140737488355328) (hbase : base ≤ w.heap.size)
    (h : ∀ v' w', Ob w' base e v' (l ++ news) → Run v w v' w' → K (a.put o.dst v') w') : if Region.wanted o (yielded ops a.tmps) = true then Oper.wp P o a w K Q else E := by
  have hw : Region.wanted o (yielded ops a.tmps) = true := by simp [Region.wanted, hgd]
  rw [if_pos hw]
  obtain ⟨v', w', hrun, h2, h3, h4⟩ := run_app (P := P) w base t o.type e ht hinfo v l hown B A m c news hr hbound hbase
  unfold Oper.wp execOp
  simp only [ho, resolve, invoke, builtin, Sem.run_bind, Sem.run_pure, Result.andThen_ok, List.map_toArray, List.map_cons, List.map_nil, hs, hx, hrun]
  exact h v' w' h2 ⟨h3, h4.imp id fun e => ⟨_, e, Nat.le_refl _⟩⟩
end

set_option maxRecDepth 100000 in
set_option maxHeartbeats 4000000 in
theorem cwriteAll (m N cl base : Nat) (AL : Option Addr) (l : List Itm) (vb : Value) (lb : List UInt8) (w : World) (hm : pars l < m) (hbase : base ≤ w.heap.size) (hlen : lb.length + (wrs l).length ≤ 140737488355328) (hrt : rights l = true) (h5 : N ≤ cl ∧ N ≤ 140737488355328)
    (IH : Hid (CWriteIH m)) (H7 : Hid (0 < N → ∃ b o, AL = some ⟨b, o, none⟩ ∧ b < base ∧ RdIs w base b o l)) (HL : Hid (l.length = N)) (ho : Ob w base 5 vb lb) :
    Calls Tryz.prog 75 #[vb, .slice AL N cl] w (GivesW 5 base vb (lb ++ wrs l) w) := by
  have HO := Lib.hid ho
  have HRT := Lib.hid hrt
  have HLEN := Lib.hid hlen
  clear ho hrt hlen
  go_enter Tryz.func75, Tryz.ntmps75
  go_wp2_with fail
  go_loopw [0, 9] (fun bv i wr => ∃ j : Nat, j ≤ N ∧ i = .int .i64 j ∧ Hid (Ob wr base 5 bv (lb ++ wrs (l.take j))) ∧ Hid (Run vb w bv wr)) (fun _ i _ => N - (intOf i).toNat)
  case atStart => exact ⟨0, Nat.zero_le _, rfl, by show Ob _ _ _ _ _; rw [List.take_zero, wrs, List.append_nil]; exact HO.out, Run.refl _ _⟩
  case round =>
    obtain ⟨j, hj, rfl, hob, hrun⟩ := hrel
    have hbel := Lib.hid (hrun.out.below HO.out hbase)
    by_cases hlt : j < N
    · obtain ⟨b, o, rfl, hb, hs⟩ := H7.out (by omega)
      have hjl : j < l.length := by rw [HL.out]; exact hlt
      obtain ⟨c0, c1, c2, c3, g0, g1, g2, g3, gx⟩ := hs.get j hjl
      have e0 : wr.cell? ⟨b, o + j * 4, none⟩ = some c0 := (hbel.out.cell (p := ⟨b, o + j * 4, none⟩) hb).trans g0
      have e1 : wr.cell? ⟨b, o + j * 4 + 1, none⟩ = some c1 := (hbel.out.cell (p := ⟨b, o + j * 4 + 1, none⟩) hb).trans g1
      have e2 : wr.cell? ⟨b, o + j * 4 + 2, none⟩ = some c2 := (hbel.out.cell (p := ⟨b, o + j * 4 + 2, none⟩) hb).trans g2
      have e3 : wr.cell? ⟨b, o + j * 4 + 3, none⟩ = some c3 := (hbel.out.cell (p := ⟨b, o + j * 4 + 3, none⟩) hb).trans g3
      have hz : base ≤ wr.heap.size := Nat.le_trans hbase hbel.out.size
      have htk := wrs_take l j hjl
      have htl := wrs_take_len l (j + 1)
      have hpg : par (l[j]'hjl) ≤ pars l := par_get _
      rw [htk, List.length_append] at htl
      have hll := HLEN.out
      obtain ⟨k1, n1, A1, nd1, cd1, AL1, nl1, cl1, hf⟩ := gx.form
      injection hf with hf
      simp only [Array.mk.injEq, List.cons.injEq, and_true] at hf
      obtain ⟨rfl, rfl, rfl, rfl⟩ := hf
      have C1 := Lib.hid (IH.out (l[j]'hjl) _ _ (lb ++ wrs (l.take j)) (wr.alloc (.cells #[.int .i64 k1, .int .u64 (n1 : Int), .slice A1 nd1 cd1, .slice AL1 nl1 cl1] 42)) base (by omega) (right_get HRT.out hjl) (by rw [List.length_append]; omega) (Nat.le_trans hz (le_alloc _ _)) ((gx.below hbel.out).alloc hz _) (hob.out.alloc _))
      have HTK := Lib.hid htk
      generalize wri (l[j]'hjl) = WX at *
      clear g0 g1 g2 g3 gx hs htk htl hll hpg
      go_wp2_with fail
      refine C1.out.mono ?_
      rintro e w2 ⟨v2, rfl, ho2, hb2⟩
      have HO2 := Lib.hid ho2
      have HB2 := Lib.hid ((hrun.out.alloc _).trans hb2)
      clear ho2 hb2 e0 e1 e2 e3
      go_wp2_with fail
      go_roundw
      case rel => exact ⟨j + 1, by omega, by go_num, by show Ob _ _ _ _ _; rw [HTK.out, ← List.append_assoc]; exact HO2.out, HB2.out⟩
      case measure => simp [intOf]; omega
    · obtain rfl : j = N := by omega
      have hfin := hob.out
      rw [List.take_of_length_le (by rw [HL.out]; exact Nat.le_refl _)] at hfin
      have HF := Lib.hid hfin
      clear hfin
      go_wp2_with fail
      go_ret
      exact ⟨_, rfl, HF.out, hrun.out⟩

/-- Where a slice's own block lies. -/
theorem Ob.apart {w : World} {base : Nat} {t : TypeId} {v : Value} {l : List UInt8} (h : Ob w base t v l) : v.ownBlock ≠ some w.heap.size := fun e => by
  have := (World.ownsRow.lt h _ e).2
  omega
theorem headK (k : Int) (n : Nat) (h0 : 0 ≤ k) (h7 : k ≤ 7) : headB k n = hd k.toNat n := by rw [headB, if_neg (by omega)]

set_option maxRecDepth 100000 in
set_option maxHeartbeats 4000000 in
theorem cwrite_uint (n nd cd N cl base : Nat) (A AL : Option Addr) (vb : Value) (lb : List UInt8) (w : World) (hn : n < 18446744073709551616) (hbase : base ≤ w.heap.size) (hlen : lb.length + (hd 0 n).length ≤ 140737488355328) (ho : Ob w base 5 vb lb) :
    Calls Tryz.prog 50 #[vb, .agg #[.int .i64 0, .int .u64 (n : Int), .slice A nd cd, .slice AL N cl]] w (GivesW 5 base vb (lb ++ hd 0 n) w) := by
  have C1 := Lib.hid (fun W => khead_any 0 n W (by decide) hn)
  rw [headK 0 n (by decide) (by decide), show (0 : Int).toNat = 0 from rfl] at C1
  have HO := Lib.hid (ho.alloc (.cells #[.int .i64 0, .int .u64 (n : Int), .slice A nd cd, .slice AL N cl] 42))
  generalize hd 0 n = H at *
  have HLEN := Lib.hid hlen
  have HBS := Lib.hid hbase
  clear ho hlen hbase
  go_enter Tryz.func50, Tryz.ntmps50
  go_wp2_with fail
  refine (C1.out _).mono ?_
  rintro e w1 ⟨v, rfl, ho1, hb1⟩
  obtain ⟨A2, c2, rfl, hc2, hm2, hr2⟩ := ho1.rd
  have HR := Lib.hid hr2
  have HB := Lib.hid hb1
  have hz1 : w.heap.size + 1 ≤ w1.heap.size := by have := hb1.size; simpa using this
  have HZ := Lib.hid (Nat.le_trans HBS.out (Nat.le_of_succ_le hz1))
  clear ho1 hr2 hb1
  go_wp2_with (first
    | (at_builtin; refine wpList_appR rfl (.tmp 9) (.tmp 14) 22 rfl base 5 Tryz.underlying22 info_u8 vb lb rfl (HO.out.below HB.out) _ _ _ _ H rfl HR.out HLEN.out HZ.out ?_; intro v3 w3 ho3 hb3; have O3 := Lib.hid ho3; have B3 := Lib.hid hb3; clear ho3 hb3)
    | fail)
  go_ret
  exact ⟨_, rfl, O3.out, (((Run.refl vb w).alloc _).quiet HB.out).trans B3.out⟩

set_option maxRecDepth 100000 in
set_option maxHeartbeats 4000000 in
theorem cwrite_text2 (nd cd N cl base : Nat) (A AL : Option Addr) (d : List UInt8) (vb : Value) (lb : List UInt8) (w : World) (hnd : nd ≤ 140737488355328) (hrd : Rd w base A nd d) (hbase : base ≤ w.heap.size) (hlen : lb.length + (hd 2 d.length ++ d).length ≤ 140737488355328) (ho : Ob w base 5 vb lb) :
    Calls Tryz.prog 50 #[vb, .agg #[.int .i64 2, .int .u64 0, .slice A nd cd, .slice AL N cl]] w (GivesW 5 base vb (lb ++ (hd 2 d.length ++ d)) w) := by
  rw [hrd.1] at hlen ⊢
  have C1 := Lib.hid (fun W => khead_any 2 nd W (by decide) (by omega))
  rw [headK 2 nd (by decide) (by decide), show (2 : Int).toNat = 2 from rfl] at C1
  have HO := Lib.hid (ho.alloc (.cells #[.int .i64 2, .int .u64 0, .slice A nd cd, .slice AL N cl] 42))
  have HAP := Lib.hid ho.apart
  have HRD := Lib.hid (hrd.alloc hbase (.cells #[.int .i64 2, .int .u64 0, .slice A nd cd, .slice AL N cl] 42))
  have hdl := hrd.1
  rw [List.length_append, hdl] at hlen
  generalize hd 2 nd = H at *
  have HLEN := Lib.hid hlen
  have HBS := Lib.hid hbase
  clear ho hlen hbase hrd hdl
  go_enter Tryz.func50, Tryz.ntmps50
  go_wp2_with fail
  refine (C1.out _).mono ?_
  rintro e w1 ⟨v, rfl, ho1, hb1⟩
  obtain ⟨A2, c2, rfl, hc2, hm2, hr2⟩ := ho1.rd
  have HR := Lib.hid hr2
  have HB := Lib.hid hb1
  have hz1 : w.heap.size + 1 ≤ w1.heap.size := by have := hb1.size; simpa using this
  have HZ := Lib.hid (Nat.le_trans HBS.out (Nat.le_of_succ_le hz1))
  have HZ1 := Lib.hid hz1
  have q2 : w1.cell? ⟨w.heap.size, 2, none⟩ = some (.slice A nd cd) := (hb1.cell (p := ⟨w.heap.size, 2, none⟩) (by simp)).trans (by simp)
  clear ho1 hr2 hb1 hz1
  go_wp2_with (first
    | (at_builtin; refine wpList_appR rfl (.tmp 19) (.tmp 26) 22 rfl base 5 Tryz.underlying22 info_u8 vb lb rfl (HO.out.below HB.out) _ _ _ _ H rfl HR.out (by have := HLEN.out; omega) HZ.out ?_; intro v3 w3 ho3 hb3; have O3 := Lib.hid ho3; have B3 := Lib.hid hb3; have q3 := (hb3.cell (p := ⟨w.heap.size, 2, none⟩) HZ1.out HAP.out).trans q2; clear ho3 hb3 q2)
    | (at_builtin; refine wpList_appR rfl (.tmp 28) (.tmp 30) 22 rfl base 5 Tryz.underlying22 info_u8 v3 (lb ++ H) rfl O3.out base A nd cd d rfl ((HRD.out.below (HB.out.mono (Nat.le_trans HBS.out (le_alloc _ _)))).below (B3.out.below (HO.out.below HB.out) HZ.out)) (by have := HLEN.out; rw [List.length_append]; omega) (Nat.le_trans HZ.out B3.out.grown.size) ?_; intro v4 w4 ho4 hb4; have O4 := Lib.hid ho4; have B4 := Lib.hid hb4; clear ho4 hb4)
    | fail)
  go_ret
  exact ⟨_, rfl, by rw [← List.append_assoc]; exact O4.out, ((((Run.refl vb w).alloc _).quiet HB.out).trans B3.out).trans B4.out⟩

set_option maxRecDepth 100000 in
set_option maxHeartbeats 4000000 in
theorem cwrite_text3 (nd cd N cl base : Nat) (A AL : Option Addr) (d : List UInt8) (vb : Value) (lb : List UInt8) (w : World) (hnd : nd ≤ 140737488355328) (hrd : Rd w base A nd d) (hbase : base ≤ w.heap.size) (hlen : lb.length + (hd 3 d.length ++ d).length ≤ 140737488355328) (ho : Ob w base 5 vb lb) :
    Calls Tryz.prog 50 #[vb, .agg #[.int .i64 3, .int .u64 0, .slice A nd cd, .slice AL N cl]] w (GivesW 5 base vb (lb ++ (hd 3 d.length ++ d)) w) := by
  rw [hrd.1] at hlen ⊢
  have C1 := Lib.hid (fun W => khead_any 3 nd W (by decide) (by omega))
  rw [headK 3 nd (by decide) (by decide), show (3 : Int).toNat = 3 from rfl] at C1
  have HO := Lib.hid (ho.alloc (.cells #[.int .i64 3, .int .u64 0, .slice A nd cd, .slice AL N cl] 42))
  have HAP := Lib.hid ho.apart
  have HRD := Lib.hid (hrd.alloc hbase (.cells #[.int .i64 3, .int .u64 0, .slice A nd cd, .slice AL N cl] 42))
  have hdl := hrd.1
  rw [List.length_append, hdl] at hlen
  generalize hd 3 nd = H at *
  have HLEN := Lib.hid hlen
  have HBS := Lib.hid hbase
  clear ho hlen hbase hrd hdl
  go_enter Tryz.func50, Tryz.ntmps50
  go_wp2_with fail
  refine (C1.out _).mono ?_
  rintro e w1 ⟨v, rfl, ho1, hb1⟩
  obtain ⟨A2, c2, rfl, hc2, hm2, hr2⟩ := ho1.rd
  have HR := Lib.hid hr2
  have HB := Lib.hid hb1
  have hz1 : w.heap.size + 1 ≤ w1.heap.size := by have := hb1.size; simpa using this
  have HZ := Lib.hid (Nat.le_trans HBS.out (Nat.le_of_succ_le hz1))
  have HZ1 := Lib.hid hz1
  have q2 : w1.cell? ⟨w.heap.size, 2, none⟩ = some (.slice A nd cd) := (hb1.cell (p := ⟨w.heap.size, 2, none⟩) (by simp)).trans (by simp)
  clear ho1 hr2 hb1 hz1
  go_wp2_with (first
    | (at_builtin; refine wpList_appR rfl (.tmp 19) (.tmp 26) 22 rfl base 5 Tryz.underlying22 info_u8 vb lb rfl (HO.out.below HB.out) _ _ _ _ H rfl HR.out (by have := HLEN.out; omega) HZ.out ?_; intro v3 w3 ho3 hb3; have O3 := Lib.hid ho3; have B3 := Lib.hid hb3; have q3 := (hb3.cell (p := ⟨w.heap.size, 2, none⟩) HZ1.out HAP.out).trans q2; clear ho3 hb3 q2)
    | (at_builtin; refine wpList_appR rfl (.tmp 28) (.tmp 30) 22 rfl base 5 Tryz.underlying22 info_u8 v3 (lb ++ H) rfl O3.out base A nd cd d rfl ((HRD.out.below (HB.out.mono (Nat.le_trans HBS.out (le_alloc _ _)))).below (B3.out.below (HO.out.below HB.out) HZ.out)) (by have := HLEN.out; rw [List.length_append]; omega) (Nat.le_trans HZ.out B3.out.grown.size) ?_; intro v4 w4 ho4 hb4; have O4 := Lib.hid ho4; have B4 := Lib.hid hb4; clear ho4 hb4)
    | fail)
  go_ret
  exact ⟨_, rfl, by rw [← List.append_assoc]; exact O4.out, ((((Run.refl vb w).alloc _).quiet HB.out).trans B3.out).trans B4.out⟩

set_option maxRecDepth 100000 in
set_option maxHeartbeats 4000000 in
theorem cwrite_arr4 (m nd cd N cl base : Nat) (A AL : Option Addr) (l : List Itm) (vb : Value) (lb : List UInt8) (w : World) (hm : pars l < m) (hbase : base ≤ w.heap.size) (hlen : lb.length + (hd 4 N ++ wrs l).length ≤ 140737488355328) (hrt : rights l = true) (h5 : N ≤ cl ∧ N ≤ 140737488355328)
    (IH : Hid (CWriteIH m)) (H7 : 0 < N → ∃ b o, AL = some ⟨b, o, none⟩ ∧ b < base ∧ RdIs w base b o l) (HL : Hid (l.length = N)) (ho : Ob w base 5 vb lb) :
    Calls Tryz.prog 50 #[vb, .agg #[.int .i64 4, .int .u64 0, .slice A nd cd, .slice AL N cl]] w (GivesW 5 base vb (lb ++ (hd 4 N ++ wrs l)) w) := by
  have C1 := Lib.hid (fun W => khead_any 4 N W (by decide) (by omega))
  rw [headK 4 N (by decide) (by decide), show (4 : Int).toNat = 4 from rfl] at C1
  have HO := Lib.hid (ho.alloc (.cells #[.int .i64 4, .int .u64 0, .slice A nd cd, .slice AL N cl] 42))
  have HAP := Lib.hid ho.apart
  rw [List.length_append] at hlen
  generalize hd 4 N = H at *
  have HO0 := Lib.hid ho
  have C2 := Lib.hid (fun (W : World) v (hr : Run vb w v W) (ho : Ob W base 5 v (lb ++ H)) => have hb := hr.below HO0.out hbase; cwriteAll m N cl base AL l v (lb ++ H) W hm (Nat.le_trans hbase hb.size) (by rw [List.length_append]; omega) hrt h5 IH (fun h0 => by
    obtain ⟨b, o, ea, hb2, hs⟩ := H7 h0
    exact ⟨b, o, ea, hb2, hs.below hb2 hb⟩) HL ho)
  generalize wrs l = L at *
  have HLEN := Lib.hid hlen
  have HBS := Lib.hid hbase
  clear ho hlen hbase H7 hm hrt
  go_enter Tryz.func50, Tryz.ntmps50
  go_wp2_with fail
  refine (C1.out _).mono ?_
  rintro e w1 ⟨v, rfl, ho1, hb1⟩
  obtain ⟨A2, c2, rfl, hc2, hm2, hr2⟩ := ho1.rd
  have HR := Lib.hid hr2
  have HB := Lib.hid hb1
  have hz1 : w.heap.size + 1 ≤ w1.heap.size := by have := hb1.size; simpa using this
  have HZ := Lib.hid (Nat.le_trans HBS.out (Nat.le_of_succ_le hz1))
  have HZ1 := Lib.hid hz1
  have q2 : w1.cell? ⟨w.heap.size, 3, none⟩ = some (.slice AL N cl) := (hb1.cell (p := ⟨w.heap.size, 3, none⟩) (by simp)).trans (by simp)
  clear ho1 hr2 hb1 hz1
  go_wp2_with (first
    | (at_builtin; refine wpList_appR rfl (.tmp 43) (.tmp 50) 22 rfl base 5 Tryz.underlying22 info_u8 vb lb rfl (HO.out.below HB.out) _ _ _ _ H rfl HR.out (by have := HLEN.out; omega) HZ.out ?_; intro v3 w3 ho3 hb3; have O3 := Lib.hid ho3; have B3 := Lib.hid ((((Run.refl vb w).alloc _).quiet HB.out).trans hb3); have q3 := (hb3.cell (p := ⟨w.heap.size, 3, none⟩) HZ1.out HAP.out).trans q2; clear ho3 hb3 q2)
    | fail)
  refine (C2.out _ _ B3.out O3.out).mono ?_
  rintro e w4 ⟨v4, rfl, ho4, hb4⟩
  have O4 := Lib.hid ho4
  have B4 := Lib.hid (B3.out.trans hb4)
  clear ho4 hb4
  go_wp2_with fail
  go_ret
  exact ⟨_, rfl, by rw [← List.append_assoc]; exact O4.out, B4.out⟩

set_option maxRecDepth 100000 in
set_option maxHeartbeats 4000000 in
theorem cwrite_arr5 (m nd cd N cl base : Nat) (A AL : Option Addr) (l : List Itm) (vb : Value) (lb : List UInt8) (w : World) (hm : pars l < m) (hbase : base ≤ w.heap.size) (hlen : lb.length + (0x9f :: (wrs l ++ [0xff])).length ≤ 140737488355328) (hrt : rights l = true) (h5 : N ≤ cl ∧ N ≤ 140737488355328)
    (IH : Hid (CWriteIH m)) (H7 : 0 < N → ∃ b o, AL = some ⟨b, o, none⟩ ∧ b < base ∧ RdIs w base b o l) (HL : Hid (l.length = N)) (ho : Ob w base 5 vb lb) :
    Calls Tryz.prog 50 #[vb, .agg #[.int .i64 5, .int .u64 0, .slice A nd cd, .slice AL N cl]] w (GivesW 5 base vb (lb ++ (0x9f :: (wrs l ++ [0xff]))) w) := by
  obtain ⟨H, hH⟩ : ∃ H : List UInt8, H = [0x9f] := ⟨_, rfl⟩
  have eq : lb ++ (0x9f :: (wrs l ++ [0xff])) = (lb ++ H ++ wrs l) ++ [0xff] := by rw [hH]; simp
  have hH1 : H.length = 1 := by rw [hH]; rfl
  rw [eq]
  simp only [List.length_cons, List.length_append, List.length_nil] at hlen
  have HO := Lib.hid (ho.alloc (.cells #[.int .i64 5, .int .u64 0, .slice A nd cd, .slice AL N cl] 42))
  have HAP := Lib.hid ho.apart
  have HH := Lib.hid hH
  have HO0 := Lib.hid ho
  have C2 := Lib.hid (fun (W : World) v (hr : Run vb w v W) (ho : Ob W base 5 v (lb ++ H)) => have hb := hr.below HO0.out hbase; cwriteAll m N cl base AL l v (lb ++ H) W hm (Nat.le_trans hbase hb.size) (by rw [List.length_append]; omega) hrt h5 IH (fun h0 => by
    obtain ⟨b, o, ea, hb2, hs⟩ := H7 h0
    exact ⟨b, o, ea, hb2, hs.below hb2 hb⟩) HL ho)
  have HL1 := Lib.hid hH1
  generalize wrs l = L at *
  have HLEN := Lib.hid hlen
  have HBS := Lib.hid hbase
  clear ho hlen hbase H7 hm hrt hH hH1 eq
  go_enter Tryz.func50, Tryz.ntmps50
  go_wp2_with fail
  have f3 : (w.alloc (.cells #[.int .i64 5, .int .u64 0, .slice A nd cd, .slice AL N cl] 42)).cell? ⟨w.heap.size, 3, none⟩ = some (.slice AL N cl) := by simp
  have FZ : Hid ((w.alloc (.cells #[.int .i64 5, .int .u64 0, .slice A nd cd, .slice AL N cl] 42)).heap.size = w.heap.size + 1) := (by simp : _ = _)
  have FB := Lib.hid ((Run.refl vb w).alloc (.cells #[.int .i64 5, .int .u64 0, .slice A nd cd, .slice AL N cl] 42))
  generalize w.alloc (.cells #[.int .i64 5, .int .u64 0, .slice A nd cd, .slice AL N cl] 42) = W0 at *
  have hzl : w.heap.size < W0.heap.size := by rw [FZ.out]; exact Nat.lt_succ_self _
  have hzb : base ≤ W0.heap.size := Nat.le_trans HBS.out (Nat.le_of_lt hzl)
  have HZL := Lib.hid hzl
  have HZB := Lib.hid hzb
  have FA := Lib.hid (fun (o : Obj) => (World.cell?_alloc_lt W0.drew o ⟨w.heap.size, 3, none⟩ hzl).trans f3)
  clear hzl hzb
  go_region_held3 (fun W => W.cell? ⟨w.heap.size, 3, none⟩ = some (.slice AL N cl))
    (first
      | (exact f3)
      | (exact FA.out _)
      | (exact q4)
      | (exact q3)
      | fail)
    (first
      | (go_at_call 75; refine (C2.out _ _ B3.out O3.out).mono ?_; rintro e w4 ⟨v4, rfl, ho4, hb4⟩; have O4 := Lib.hid ho4; have B4 := Lib.hid (B3.out.trans hb4); have q4 := (hb4.cell (p := ⟨w.heap.size, 3, none⟩) N3.out.1 N3.out.2).trans q3; clear ho4 hb4)
      | (refine step_appR (by rfl) (.tmp 34) (.tmp 35) 22 (by rfl) base 5 Tryz.underlying22 info_u8 vb lb (by rfl) (HO.out.drew.alloc _) (W0.heap.size + 1) (some ⟨W0.heap.size, 0, none⟩) 1 1 H (by rfl) (Rd.lit W0.drew _ (by simp) H 5 #[.int .u8 159] (by rw [HH.out]; rfl) 1 HL1.out) (by have := HLEN.out; omega) (Nat.le_trans HZB.out (le_alloc W0.drew _)) ?_; intro v3 w3 ho3 hb3; have O3 := Lib.hid ho3; have B3 := Lib.hid ((FB.out.drew.alloc _).trans hb3); have q3 := (hb3.cell (p := ⟨w.heap.size, 3, none⟩) (Nat.lt_of_lt_of_le HZL.out (le_alloc W0.drew _)) HAP.out).trans (FA.out _); have N3 := Lib.hid (And.intro (Nat.lt_of_lt_of_le (Nat.lt_of_lt_of_le HZL.out (le_alloc W0.drew _)) hb3.grown.size) (hb3.ne (k := w.heap.size) (Nat.lt_of_lt_of_le HZL.out (le_alloc W0.drew _)) HAP.out)); clear ho3 hb3)
      | fail)
  have HZ4 := Lib.hid (Nat.le_trans HBS.out B4.out.grown.size)
  go_wp2_with (first
    | (at_builtin; refine wpList_appR rfl (.tmp 40) (.tmp 41) 22 rfl base 5 Tryz.underlying22 info_u8 v4 (lb ++ H ++ L) rfl (O4.out.alloc _) (w4.heap.size + 1) (some ⟨w4.heap.size, 0, none⟩) 1 1 [255] rfl (Rd.lit w4 _ rfl [255] 5 #[.int .u8 255] rfl 1 rfl) (by have := HLEN.out; have := HL1.out; simp only [List.length_append]; omega) (Nat.le_trans HZ4.out (le_alloc _ _)) ?_; intro v5 w5 ho5 hb5; have O5 := Lib.hid ho5; have B5 := Lib.hid ((B4.out.alloc _).trans hb5); clear ho5 hb5)
    | fail)
  go_ret
  exact ⟨_, rfl, O5.out, B5.out⟩

theorem own_k {k : Int} {n : Nat} {d : List UInt8} {l : List Itm} (h : own k n d l = true) : (k = 0 ∧ d = [] ∧ l = []) ∨ ((k = 2 ∨ k = 3) ∧ n = 0 ∧ l = []) ∨ ((k = 4 ∨ k = 5) ∧ n = 0 ∧ d = []) := by
  unfold own at h
  by_cases h0 : k = 0
  · rw [if_pos h0] at h; simp at h; exact .inl ⟨h0, h.1, h.2⟩
  rw [if_neg h0] at h
  by_cases h2 : k = 2
  · rw [if_pos h2] at h; simp at h; exact .inr (.inl ⟨.inl h2, h.1, h.2⟩)
  rw [if_neg h2] at h
  by_cases h3 : k = 3
  · rw [if_pos h3] at h; simp at h; exact .inr (.inl ⟨.inr h3, h.1, h.2.1⟩)
  rw [if_neg h3] at h
  by_cases h4 : k = 4 ∨ k = 5
  · rw [if_pos h4] at h; simp at h; exact .inr (.inr ⟨h4, h.1, h.2⟩)
  · rw [if_neg h4] at h; cases h

theorem cwrite_n : ∀ m : Nat, CWriteIH m
  | 0 => fun _ _ _ _ _ _ h => absurd h (Nat.not_lt_zero _)
  | m + 1 => by
    rintro ⟨k, n, d, l⟩ v vb lb w base hm hr hlen hbase h ho
    have IH := Lib.hid (cwrite_n m)
    obtain ⟨A, nd, cd, AL, cl, rfl, h1, h2, h3, h4, h5, h7⟩ := h.open
    rw [right, Bool.and_eq_true] at hr
    rw [par] at hm
    rcases own_k hr.1 with ⟨rfl, rfl, rfl⟩ | ⟨hk, rfl, rfl⟩ | ⟨hk, rfl, rfl⟩
    · rw [wri, if_pos rfl] at hlen ⊢
      exact cwrite_uint n nd cd _ cl base A AL vb lb w h2 hbase hlen ho
    · rcases hk with rfl | rfl
      · rw [wri, if_neg (by decide), if_pos (by decide)] at hlen ⊢
        exact cwrite_text2 nd cd _ cl base A AL d vb lb w h3.2 h4 hbase hlen ho
      · rw [wri, if_neg (by decide), if_pos (by decide)] at hlen ⊢
        exact cwrite_text3 nd cd _ cl base A AL d vb lb w h3.2 h4 hbase hlen ho
    · rcases hk with rfl | rfl
      · rw [wri, if_neg (by decide), if_neg (by decide), if_pos rfl] at hlen ⊢
        exact cwrite_arr4 m nd cd l.length cl base A AL l vb lb w (by omega) hbase hlen hr.2 h5 IH h7 rfl ho
      · rw [wri, if_neg (by decide), if_neg (by decide), if_neg (by decide)] at hlen ⊢
        exact cwrite_arr5 m nd cd l.length cl base A AL l vb lb w (by omega) hbase hlen hr.2 h5 IH h7 rfl ho
end Go.Proofs.YtbdjkihgcmebgaaGreatDoor
/- What Encode of layer 3 returns. -/
namespace Go.Proofs.YtbdjkihgcmebgaaGreatDoor
open Go.RowKit

/-- A call gives back a slice of bytes and a number. -/
def GivesB (l : List UInt8) (c : Int) (w : World) (e : Ending) (w' : World) : Prop := ∃ (A : Option Addr) (n cp : Nat), e = .returned (.tuple #[.slice A n cp, .int .i64 c]) ∧ Rd w' w'.heap.size A n l ∧ n ≤ cp ∧ Below w.heap.size w w'

set_option maxRecDepth 100000 in
set_option maxHeartbeats 2000000 in
theorem cencode_any (x : Itm) (v : Value) (w : World) (B : Nat) (hp : par x ≤ 1000000) (hlen : Fits x → (wri x).length ≤ 140737488355328) (hB : B ≤ w.heap.size) (h : RdI w B v x) (hL : LaidE w) :
    Calls Tryz.prog 31 #[v] w (GivesB (enc x).1 (enc x).2 w) := by
  obtain ⟨k, n, d, l⟩ := x
  have HX := Lib.hid h
  obtain ⟨A, nd, cd, AL, cl, rfl, h1, h2, h3, h4, h5, h7⟩ := h.open
  generalize hX : Itm.mk k n d l = x at *
  clear hX
  have C1 := Lib.hid (fun W (hb : Below w.heap.size w W) => check_any x _ W B hp (Nat.le_trans hB hb.size) (HX.out.below (hb.mono hB)))
  have C2 := Lib.hid (fun z W (hb : Below w.heap.size w W) => number_any z W (hL.below hb hL.lt))
  have C3 := Lib.hid (fun W (hb : Below w.heap.size w W) (hr : right x = true) (hl : (wri x).length ≤ 140737488355328) => cwrite_n (par x + 1) x _ (.slice none 0 0) [] W W.heap.size (Nat.lt_succ_self _) hr (by simpa using hl) (Nat.le_refl _) ((HX.out.below (hb.mono hB)).more (Nat.le_trans hB hb.size)) (Ob.nil_ _ _ _))
  have HLEN := Lib.hid hlen
  have B0 := Lib.hid ((Below.refl w.heap.size w).alloc (Nat.le_refl _) (.cells #[.int .i64 k, .int .u64 (n : Int), .slice A nd cd, .slice AL l.length cl] 42))
  generalize l.length = N at *
  clear h1 h4 h7 h hlen hL
  rcases hr : right x with _ | _
  · rw [show enc x = ([], 2) by unfold enc; rw [if_pos hr]]
    have hv : chkV x = .iface 107 (.agg #[.int .i64 2]) := by unfold chkV; rw [if_pos hr]
    rw [hv] at C1
    clear hr hv
    go_enter Tryz.func31, Tryz.ntmps31
    go_wp2_with fail
    refine (C1.out _ B0.out).mono ?_
    rintro e w1 ⟨rfl, hb1⟩
    have HB1 := Lib.hid (B0.out.trans (hb1.mono B0.out.size))
    clear hb1
    go_wp2_with fail
    refine (C2.out _ _ HB1.out).mono ?_
    rintro e w2 ⟨rfl, hb2⟩
    have HB2 := Lib.hid (HB1.out.trans (hb2.mono HB1.out.size))
    clear hb2
    go_wp2_with fail
    go_ret2
    exact ⟨none, 0, 0, rfl, Rd.nil_, Nat.le_refl _, HB2.out⟩
  · by_cases hd : 8 < dep x ∨ 4096 < par x
    · rw [show enc x = ([], 32) by unfold enc; rw [if_neg (by rw [hr]; decide), if_pos hd]]
      have hv : chkV x = .iface 107 (.agg #[.int .i64 32]) := by unfold chkV; rw [if_neg (by rw [hr]; decide), if_pos hd]
      rw [hv] at C1
      clear hr hv hd
      go_enter Tryz.func31, Tryz.ntmps31
      go_wp2_with fail
      refine (C1.out _ B0.out).mono ?_
      rintro e w1 ⟨rfl, hb1⟩
      have HB1 := Lib.hid (B0.out.trans (hb1.mono B0.out.size))
      clear hb1
      go_wp2_with fail
      refine (C2.out _ _ HB1.out).mono ?_
      rintro e w2 ⟨rfl, hb2⟩
      have HB2 := Lib.hid (HB1.out.trans (hb2.mono HB1.out.size))
      clear hb2
      go_wp2_with fail
      go_ret2
      exact ⟨none, 0, 0, rfl, Rd.nil_, Nat.le_refl _, HB2.out⟩
    · have hf : Fits x := ⟨hr, by omega, by omega⟩
      have hv : chkV x = .nilIface := by unfold chkV; rw [if_neg (by rw [hr]; decide), if_neg hd]
      rw [hv] at C1
      rw [enc_ok hf]
      have HL := Lib.hid (HLEN.out hf)
      have HR := Lib.hid hr
      clear hr hv hd hf
      generalize hWX : wri x = WX at *
      go_enter Tryz.func31, Tryz.ntmps31
      go_wp2_with fail
      refine (C1.out _ B0.out).mono ?_
      rintro e w1 ⟨rfl, hb1⟩
      have HB1 := Lib.hid (B0.out.trans (hb1.mono B0.out.size))
      obtain ⟨q0, q1, q2, q3⟩ := box_cells (to_box hb1)
      clear hb1
      go_wp2_with fail
      refine (C3.out _ HB1.out HR.out HL.out).mono ?_
      rintro e w2 ⟨v, rfl, ho, hr⟩
      rw [List.nil_append] at ho
      obtain ⟨A2, c2, rfl, hc2, hm2, hr2⟩ := ho.rd
      have HR2 := Lib.hid hr2
      have hl2 := ho.rd_.1
      have HB2 := Lib.hid (HB1.out.trans ((hr.below (Ob.nil_ _ w1.heap.size 5) (Nat.le_refl _)).mono HB1.out.size))
      clear ho hr2 hr q0 q1 q2 q3
      go_wp2_with fail
      go_ret2
      exact ⟨A2, _, c2, rfl, HR2.out, hc2, HB2.out⟩
end Go.Proofs.YtbdjkihgcmebgaaGreatDoor
