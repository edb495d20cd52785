/- The plain mathematics of layer 4: endpoints, their texts and items; two endpoints are two texts, and two items. No program's number stands here. -/
import Derived.Test.YtanbjifdcplmnaaGreatDoorTCborD
import Derived.Test.YtanbjifdcplmnaaGreatDoorTCborE
import Derived.Test.YtanbjifdcplmnaaGreatDoorTCborI
import Derived.Test.YtanbjifdcplmnaaGreatDoorTCborM
import Derived.Test.YtanbjifdcplmnaaGreatDoorTCborQ
import Derived.Test.YtanbjifdcplmnaaGreatDoorTKCheck
import Derived.Test.YtanbjifdcplmnaaGreatDoorTKMake
import Derived.Test.YtanbjifdcplmnaaGreatDoorTNumG
import Derived.Test.YtanbjifdcplmnaaGreatDoorTSame
import Derived.Test.YtanbjifdcplmnaaGreatDoorRows
import Derived.WalkKit
import Derived.Lib.Bytealg
import Derived.Lib.IndexLaws
import Derived.Lib.ParseIntB
import Derived.Lib.Strings
import Derived.Shelf.Small.Strs
import Derived.Shelf.Strings.Search1
import Derived.Shelf.Small.Wraps
import Derived.Ground.MpProg
import Derived.Shelf.Pu.Clone
namespace Go.Proofs.YtanbjifdcplmnaaGreatDoor
open Go.Lib (decDigits)

/-- An endpoint: scheme, name, node, service. -/
structure Epd where
  scheme : Int
  name : List UInt8
  node : Nat
  service : Nat

def letterB (c : UInt8) : Bool := (decide (97 ≤ c.toNat) && decide (c.toNat ≤ 122)) || ((decide (48 ≤ c.toNat) && decide (c.toNat ≤ 57)) || (c == 46 || (c == 45 || c == 95)))
/-- A letter, or a slash. -/
def lsB (c : UInt8) : Bool := c == 47 || letterB c
/-- How many bytes stand ahead of the first slash; the length, if there is none. -/
def toSlash (s : List UInt8) : Nat := (s.takeWhile fun c => c != 47).length
/-- A name that may be: two slashes, letters, a slash, letters and slashes. -/
def nameB (s : List UInt8) : Bool :=
  decide (s.length ≤ 64) && (match s with
    | a :: b :: r => (a == 47 && b == 47) && (r.all lsB && (decide (1 ≤ toSlash r) && decide (toSlash r < r.length)))
    | _ => false)
/-- Where a name's third slash stands. -/
def third (s : List UInt8) : Nat := 2 + toSlash (s.drop 2)
def noneB (e : Epd) : Bool := e.scheme == 1 && (e.name.isEmpty && (e.node == 0 && e.service == 0))
def checkB (e : Epd) : Bool :=
  if e.scheme = 1 then (e.node == 0 && e.service == 0) && (e.name.isEmpty || nameB e.name)
  else e.scheme == 2 && (e.name.isEmpty && (decide (0 < e.node) && (decide (e.node ≤ 4294967295) && decide (e.service ≤ 4294967295))))
def dtnL : List UInt8 := [100, 116, 110, 58]
def ipnL : List UInt8 := [105, 112, 110, 58]
def noneL : List UInt8 := [110, 111, 110, 101]
/-- The text of an endpoint that may be; of others the empty one. -/
def textE (e : Epd) : List UInt8 :=
  if checkB e = false then [] else if e.scheme = 2 then ipnL ++ (decDigits e.node ++ (46 :: decDigits e.service)) else if e.name = [] then dtnL ++ noneL else dtnL ++ e.name
/-- The text of its node. -/
def nodeE (e : Epd) : List UInt8 :=
  if checkB e = false ∨ noneB e = true then [] else if e.scheme = 2 then ipnL ++ (decDigits e.node ++ [46, 48]) else dtnL ++ e.name.take (third e.name + 1)
/-- The item of an endpoint that may be. -/
def itemE (e : Epd) : Itm :=
  .mk 4 0 [] [.mk 0 e.scheme.toNat [] [], if e.scheme = 2 then .mk 4 0 [] [.mk 0 e.node [] [], .mk 0 e.service [] []] else if e.name = [] then .mk 0 0 [] [] else .mk 3 0 e.name []]

theorem check_dtn {e : Epd} (h : checkB e = true) (h1 : e.scheme = 1) : e.node = 0 ∧ e.service = 0 ∧ (e.name = [] ∨ nameB e.name = true) := by
  unfold checkB at h
  rw [if_pos h1] at h
  simp only [Bool.and_eq_true, Bool.or_eq_true, beq_iff_eq, List.isEmpty_iff] at h
  exact ⟨h.1.1, h.1.2, h.2⟩
theorem check_ipn {e : Epd} (h : checkB e = true) (h1 : e.scheme ≠ 1) : e.scheme = 2 ∧ e.name = [] ∧ 0 < e.node ∧ e.node ≤ 4294967295 ∧ e.service ≤ 4294967295 := by
  unfold checkB at h
  rw [if_neg h1] at h
  simp only [Bool.and_eq_true, beq_iff_eq, List.isEmpty_iff, decide_eq_true_eq] at h
  exact ⟨h.1, h.2.1, h.2.2.1, h.2.2.2.1, h.2.2.2.2⟩
theorem name_head {s : List UInt8} (h : nameB s = true) : ∃ r, s = 47 :: 47 :: r ∧ r.all lsB = true ∧ 1 ≤ toSlash r ∧ toSlash r < r.length ∧ s.length ≤ 64 := by
  unfold nameB at h
  match s, h with
  | [], h => simp at h
  | [_], h => simp at h
  | a :: b :: r, h =>
    simp only [Bool.and_eq_true, beq_iff_eq, decide_eq_true_eq] at h
    obtain ⟨h1, ⟨rfl, rfl⟩, h2, h3, h4⟩ := h
    exact ⟨r, rfl, h2, h3, h4, h1⟩

/-- Digits are no dot. -/
theorem dec_no_dot : ∀ x : Nat, ∀ c ∈ decDigits x, c ≠ 46 := by
  intro x
  induction x using Nat.strongRecOn with
  | _ x ih =>
    intro c hc
    have hd : ∀ d : Fin 10, UInt8.ofNat (48 + d.val) ≠ 46 := by decide +kernel
    by_cases hx : x < 10
    · rw [dec_small hx] at hc
      simp only [List.mem_singleton] at hc
      subst hc
      exact hd ⟨x, hx⟩
    · rw [dec_big hx, List.mem_append] at hc
      rcases hc with hc | hc
      · exact ih (x / 10) (by omega) c hc
      · simp only [List.mem_singleton] at hc
        subst hc
        exact hd ⟨x % 10, by omega⟩
theorem dot_split : ∀ (a b r t : List UInt8), (∀ c ∈ a, c ≠ 46) → (∀ c ∈ b, c ≠ 46) → a ++ 46 :: r = b ++ 46 :: t → a = b ∧ r = t
  | [], [], r, t, _, _, h => by simpa using h
  | [], y :: b, r, t, _, hb, h => by
    simp only [List.nil_append, List.cons_append, List.cons.injEq] at h
    exact absurd h.1.symm (hb y (by simp))
  | x :: a, [], r, t, ha, _, h => by
    simp only [List.nil_append, List.cons_append, List.cons.injEq] at h
    exact absurd h.1 (ha x (by simp))
  | x :: a, y :: b, r, t, ha, hb, h => by
    simp only [List.cons_append, List.cons.injEq] at h
    obtain ⟨h1, h2⟩ := dot_split a b r t (fun c hc => ha c (by simp [hc])) (fun c hc => hb c (by simp [hc])) h.2
    exact ⟨by rw [h.1, h1], h2⟩
theorem epd_ext {a b : Epd} (h1 : a.scheme = b.scheme) (h2 : a.name = b.name) (h3 : a.node = b.node) (h4 : a.service = b.service) : a = b := by
  cases a; cases b; simp_all

theorem textE_ipn {e : Epd} (h : checkB e = true) (h2 : e.scheme = 2) : textE e = ipnL ++ (decDigits e.node ++ (46 :: decDigits e.service)) := by
  unfold textE
  rw [if_neg (by rw [h]; decide), if_pos h2]
theorem textE_none {e : Epd} (h : checkB e = true) (h1 : e.scheme = 1) (hn : e.name = []) : textE e = dtnL ++ noneL := by
  unfold textE
  rw [if_neg (by rw [h]; decide), if_neg (by omega), if_pos hn]
theorem textE_dtn {e : Epd} (h : checkB e = true) (h1 : e.scheme = 1) (hn : e.name ≠ []) : textE e = dtnL ++ e.name := by
  unfold textE
  rw [if_neg (by rw [h]; decide), if_neg (by omega), if_neg hn]
/-- Two endpoints are two texts. -/
theorem text_inj {a b : Epd} (ha : checkB a = true) (hb : checkB b = true) (h : textE a = textE b) : a = b := by
  have hdi : ∀ r t : List UInt8, dtnL ++ r ≠ ipnL ++ t := by
    intro r t h
    simp [dtnL, ipnL] at h
  by_cases a1 : a.scheme = 1
  · obtain ⟨an, ac, am⟩ := check_dtn ha a1
    by_cases b1 : b.scheme = 1
    · obtain ⟨bn, bs, bm⟩ := check_dtn hb b1
      have hno : ∀ s, nameB s = true → dtnL ++ s ≠ dtnL ++ noneL := by
        intro s hs e
        obtain ⟨r, rfl, _⟩ := name_head hs
        simp [dtnL, noneL] at e
      refine epd_ext (a1.trans b1.symm) ?_ (an.trans bn.symm) (ac.trans bs.symm)
      by_cases a0 : a.name = []
      · by_cases b0 : b.name = []
        · rw [a0, b0]
        · rw [textE_none ha a1 a0, textE_dtn hb b1 b0] at h
          exact absurd h.symm (hno _ (bm.resolve_left b0))
      · by_cases b0 : b.name = []
        · rw [textE_dtn ha a1 a0, textE_none hb b1 b0] at h
          exact absurd h (hno _ (am.resolve_left a0))
        · rw [textE_dtn ha a1 a0, textE_dtn hb b1 b0] at h
          exact List.append_cancel_left h
    · obtain ⟨b2, _⟩ := check_ipn hb b1
      rw [textE_ipn hb b2] at h
      by_cases a0 : a.name = []
      · rw [textE_none ha a1 a0] at h; exact absurd h (hdi _ _)
      · rw [textE_dtn ha a1 a0] at h; exact absurd h (hdi _ _)
  · obtain ⟨a2, an, _⟩ := check_ipn ha a1
    rw [textE_ipn ha a2] at h
    by_cases b1 : b.scheme = 1
    · by_cases b0 : b.name = []
      · rw [textE_none hb b1 b0] at h; exact absurd h.symm (hdi _ _)
      · rw [textE_dtn hb b1 b0] at h; exact absurd h.symm (hdi _ _)
    · obtain ⟨b2, bn, _⟩ := check_ipn hb b1
      rw [textE_ipn hb b2] at h
      obtain ⟨h1, h2⟩ := dot_split _ _ _ _ (dec_no_dot _) (dec_no_dot _) (List.append_cancel_left h)
      exact epd_ext (a2.trans b2.symm) (an.trans bn.symm) (dec_inj _ _ h1) (dec_inj _ _ h2)
/-- Two endpoints are two items. -/
theorem item_inj {a b : Epd} (ha : checkB a = true) (hb : checkB b = true) (h : itemE a = itemE b) : a = b := by
  unfold itemE at h
  simp only [Itm.mk.injEq, List.cons.injEq, and_true, true_and] at h
  obtain ⟨h1, h2⟩ := h
  by_cases a1 : a.scheme = 1
  · obtain ⟨an, ac, am⟩ := check_dtn ha a1
    by_cases b1 : b.scheme = 1
    · obtain ⟨bn, bs, bm⟩ := check_dtn hb b1
      have na : ¬ a.scheme = 2 := by omega
      have nb : ¬ b.scheme = 2 := by omega
      rw [if_neg na, if_neg nb] at h2
      refine epd_ext (a1.trans b1.symm) ?_ (an.trans bn.symm) (ac.trans bs.symm)
      by_cases a0 : a.name = []
      · by_cases b0 : b.name = []
        · rw [a0, b0]
        · rw [if_pos a0, if_neg b0] at h2; simp at h2
      · by_cases b0 : b.name = []
        · rw [if_neg a0, if_pos b0] at h2; simp at h2
        · rw [if_neg a0, if_neg b0] at h2; simpa using h2
    · obtain ⟨b2, _⟩ := check_ipn hb b1
      rw [a1, b2] at h1; simp at h1
  · obtain ⟨a2, an, _⟩ := check_ipn ha a1
    by_cases b1 : b.scheme = 1
    · rw [a2, b1] at h1; simp at h1
    · obtain ⟨b2, bn, _⟩ := check_ipn hb b1
      rw [if_pos a2, if_pos b2] at h2
      simp at h2
      exact epd_ext (a2.trans b2.symm) (an.trans bn.symm) h2.1 h2.2
end Go.Proofs.YtanbjifdcplmnaaGreatDoor
/- The plain mathematics of layer 4: names in pieces, nodes' texts. No program's number stands here. -/
namespace Go.Proofs.YtanbjifdcplmnaaGreatDoor
open Go.Lib (decDigits)

theorem toSlash_app : ∀ (u t : List UInt8), (∀ c ∈ u, c ≠ 47) → toSlash (u ++ 47 :: t) = u.length
  | [], t, _ => by simp [toSlash]
  | x :: u, t, h => by
    have hx : (x != 47) = true := by rw [bne_iff_ne]; exact h x (by simp)
    have := toSlash_app u t (fun c hc => h c (by simp [hc]))
    unfold toSlash at this ⊢
    rw [List.cons_append, List.takeWhile_cons, if_pos hx, List.length_cons, this, List.length_cons]
theorem letter_no_slash {c : UInt8} (h : letterB c = true) : c ≠ 47 := by
  intro e
  subst e
  revert h
  decide
/-- A name in pieces. -/
def Pieces (s u t : List UInt8) : Prop := s = 47 :: 47 :: (u ++ 47 :: t) ∧ u ≠ [] ∧ (∀ c ∈ u, letterB c = true) ∧ t.all lsB = true ∧ s.length ≤ 64
theorem split_slash : ∀ r : List UInt8, toSlash r < r.length → ∃ u t, r = u ++ 47 :: t ∧ u.length = toSlash r ∧ ∀ c ∈ u, c ≠ 47
  | [], h => by simp at h
  | x :: r, h => by
    by_cases hx : x = 47
    · subst hx
      exact ⟨[], r, rfl, by simp [toSlash], fun c hc => (by cases hc)⟩
    · have hb : (x != 47) = true := by rw [bne_iff_ne]; exact hx
      have e : toSlash (x :: r) = toSlash r + 1 := by unfold toSlash; rw [List.takeWhile_cons, if_pos hb, List.length_cons]
      rw [e, List.length_cons] at h
      obtain ⟨u, t, h1, h2, h3⟩ := split_slash r (by omega)
      refine ⟨x :: u, t, by rw [h1]; rfl, by rw [List.length_cons, h2, e], fun c hc => ?_⟩
      simp only [List.mem_cons] at hc
      rcases hc with rfl | hc
      · exact hx
      · exact h3 c hc
theorem name_pieces {s : List UInt8} (h : nameB s = true) : ∃ u t, Pieces s u t := by
  obtain ⟨r, rfl, h2, h3, h4, h5⟩ := name_head h
  obtain ⟨u, t, rfl, hu, hn⟩ := split_slash r h4
  rw [List.all_append, List.all_cons, Bool.and_eq_true, Bool.and_eq_true] at h2
  refine ⟨u, t, rfl, ?_, fun c hc => ?_, h2.2.2, h5⟩
  · intro e
    have h0 : u.length = 0 := by rw [e]; rfl
    omega
  · have hl := List.all_eq_true.1 h2.1 c hc
    unfold lsB at hl
    rw [Bool.or_eq_true, beq_iff_eq] at hl
    exact hl.resolve_left (hn c hc)
theorem pieces_name {s u t : List UInt8} (h : Pieces s u t) : nameB s = true ∧ third s = 2 + u.length := by
  obtain ⟨rfl, h1, h2, h3, h4⟩ := h
  have hs : toSlash (u ++ 47 :: t) = u.length := toSlash_app u t (fun c hc => letter_no_slash (h2 c hc))
  have hp : 1 ≤ u.length := by
    cases u with
    | nil => exact absurd rfl h1
    | cons _ _ => simp
  refine ⟨?_, by unfold third; rw [List.drop_succ_cons, List.drop_succ_cons, List.drop_zero, hs]⟩
  unfold nameB
  simp only [Bool.and_eq_true, decide_eq_true_eq, hs, List.all_append, List.all_cons, h3]
  refine ⟨h4, ⟨by decide, by decide⟩, ⟨List.all_eq_true.2 fun c hc => ?_, by decide, by first | rfl | trivial⟩, hp, by simp⟩
  unfold lsB
  rw [h2 c hc, Bool.or_true]
theorem pieces_take {s u t : List UInt8} (h : Pieces s u t) : s.take (third s + 1) = 47 :: 47 :: (u ++ [47]) := by
  rw [(pieces_name h).2, h.1, show 2 + u.length + 1 = (u.length + 1) + 2 by omega, List.take_succ_cons, List.take_succ_cons]
  have : (u ++ 47 :: t).take (u.length + 1) = u ++ [47] := by
    rw [List.take_append, List.take_of_length_le (by omega), show u.length + 1 - u.length = 1 by omega]
    rfl
  rw [this]

theorem node_dtn {e : Epd} (h : checkB e = true) (h1 : e.scheme = 1) (hn : e.name ≠ []) : nodeE e = dtnL ++ e.name.take (third e.name + 1) := by
  unfold nodeE
  have hno : noneB e = false := by
    unfold noneB
    rw [show e.name.isEmpty = false by cases hh : e.name with | nil => exact absurd hh hn | cons _ _ => rfl]
    simp
  rw [if_neg (by rw [h, hno]; decide), if_neg (by omega)]
/-- An endpoint of Dtn that may be, but none: its name's pieces, its texts. -/
theorem dtn_all {e : Epd} (h : checkB e = true) (h1 : e.scheme = 1) (hn : e.name ≠ []) : ∃ u t, Pieces e.name u t ∧ textE e = dtnL ++ 47 :: 47 :: (u ++ 47 :: t) ∧ nodeE e = dtnL ++ 47 :: 47 :: (u ++ [47]) := by
  obtain ⟨u, t, hp⟩ := name_pieces ((check_dtn h h1).2.2.resolve_left hn)
  exact ⟨u, t, hp, by rw [textE_dtn h h1 hn, hp.1], by rw [node_dtn h h1 hn, pieces_take hp]⟩
theorem check_mk {s u t : List UInt8} (h : Pieces s u t) : checkB ⟨1, s, 0, 0⟩ = true := by
  unfold checkB
  rw [if_pos rfl, (pieces_name h).1]
  simp
theorem nodeE_ipn {e : Epd} (h : checkB e = true) (h2 : e.scheme = 2) : nodeE e = ipnL ++ (decDigits e.node ++ [46, 48]) := by
  unfold nodeE
  have hno : noneB e = false := by unfold noneB; rw [show (e.scheme == 1) = false by rw [h2]; decide]; rfl
  rw [if_neg (by rw [h, hno]; decide), if_pos h2]
/-- Nodes of Ipn are told by their number. -/
theorem node_ipn_iff {a b : Epd} (ha : checkB a = true) (hb : checkB b = true) (a2 : a.scheme = 2) (b2 : b.scheme = 2) : nodeE a = nodeE b ↔ a.node = b.node := by
  rw [nodeE_ipn ha a2, nodeE_ipn hb b2]
  constructor
  · intro h
    exact dec_inj _ _ (dot_split _ _ [48] [48] (dec_no_dot _) (dec_no_dot _) (List.append_cancel_left h)).1
  · intro h; rw [h]
/-- A node's text is an endpoint's, whose node it is. -/
theorem node_text {e : Epd} (h : checkB e = true) (hn : noneB e = false) : ∃ n : Epd, checkB n = true ∧ textE n = nodeE e ∧ nodeE n = nodeE e ∧ n.scheme = e.scheme ∧ (nodeE e).length ≤ (textE e).length + 2 := by
  by_cases h1 : e.scheme = 1
  · have hne : e.name ≠ [] := by
      intro h0
      obtain ⟨a, b, _⟩ := check_dtn h h1
      unfold noneB at hn
      rw [h1, h0, a, b] at hn
      simp at hn
    obtain ⟨u, t, hp, ht, hnd⟩ := dtn_all h h1 hne
    have hp2 : Pieces (47 :: 47 :: (u ++ [47])) u [] := ⟨rfl, hp.2.1, hp.2.2.1, rfl, by have := hp.2.2.2.2; rw [hp.1] at this; simp at this ⊢; omega⟩
    have hc := check_mk hp2
    have htx : textE ⟨1, 47 :: 47 :: (u ++ [47]), 0, 0⟩ = dtnL ++ 47 :: 47 :: (u ++ [47]) := textE_dtn hc rfl (by simp)
    refine ⟨⟨1, 47 :: 47 :: (u ++ [47]), 0, 0⟩, hc, by rw [htx, hnd], ?_, h1.symm, by rw [ht, hnd]; simp; omega⟩
    rw [hnd, node_dtn hc rfl (by simp), pieces_take hp2]
  · obtain ⟨h2, hnm, hn0, hn1, _⟩ := check_ipn h h1
    have hc : checkB ⟨2, [], e.node, 0⟩ = true := by unfold checkB; rw [if_neg (show ¬ (2 : Int) = 1 by decide)]; simp; omega
    refine ⟨⟨2, [], e.node, 0⟩, hc, ?_, ?_, h2.symm, ?_⟩
    · rw [textE_ipn hc rfl, nodeE_ipn h h2, show decDigits 0 = [48] by rw [dec_small (by decide)]; rfl]
    · rw [nodeE_ipn hc rfl, nodeE_ipn h h2]
    · rw [nodeE_ipn h h2, textE_ipn h h2]
      simp
      omega
theorem slash_split : ∀ (a b r t : List UInt8), (∀ c ∈ a, c ≠ 47) → (∀ c ∈ b, c ≠ 47) → a ++ 47 :: r = b ++ 47 :: t → a = b ∧ r = t
  | [], [], r, t, _, _, h => by simpa using h
  | [], y :: b, r, t, _, hb, h => by
    simp only [List.nil_append, List.cons_append, List.cons.injEq] at h
    exact absurd h.1.symm (hb y (by simp))
  | x :: a, [], r, t, ha, _, h => by
    simp only [List.nil_append, List.cons_append, List.cons.injEq] at h
    exact absurd h.1 (ha x (by simp))
  | x :: a, y :: b, r, t, ha, hb, h => by
    simp only [List.cons_append, List.cons.injEq] at h
    obtain ⟨h1, h2⟩ := slash_split a b r t (fun c hc => ha c (by simp [hc])) (fun c hc => hb c (by simp [hc])) h.2
    exact ⟨by rw [h.1, h1], h2⟩
/-- Behind a node's text: what may stand there. -/
theorem home_text {e : Epd} (h : checkB e = true) (h1 : e.scheme = 1) (hn : e.name ≠ []) (rest : List UInt8) (fine : Bool) (hf : fine = (decide ((nodeE e).length + rest.length ≤ 68) && rest.all lsB)) :
    (fine = true → ∃ f : Epd, checkB f = true ∧ textE f = nodeE e ++ rest ∧ nodeE f = nodeE e) ∧ (fine = false → ¬ ∃ f : Epd, checkB f = true ∧ textE f = nodeE e ++ rest) ∧ ∃ t, textE e = nodeE e ++ t := by
  obtain ⟨u, t, hp, ht, hnd⟩ := dtn_all h h1 hn
  refine ⟨?_, ?_, t, by rw [ht, hnd]; simp⟩
  · intro h3
    rw [hf, Bool.and_eq_true, decide_eq_true_eq, hnd] at h3
    have hp2 : Pieces (47 :: 47 :: (u ++ 47 :: rest)) u rest := ⟨rfl, hp.2.1, hp.2.2.1, h3.2, by have := h3.1; simp [dtnL] at this ⊢; omega⟩
    have hc := check_mk hp2
    refine ⟨⟨1, 47 :: 47 :: (u ++ 47 :: rest), 0, 0⟩, hc, ?_, ?_⟩
    · rw [textE_dtn hc rfl (by simp), hnd]; simp
    · rw [hnd, node_dtn hc rfl (by simp), pieces_take hp2]
  · rintro h3 ⟨f, hc, hft⟩
    rw [hnd] at hft
    by_cases f1 : f.scheme = 1
    · by_cases f0 : f.name = []
      · rw [textE_none hc f1 f0] at hft
        simp [dtnL, noneL] at hft
      · obtain ⟨u', t', hp', ht', _⟩ := dtn_all hc f1 f0
        rw [ht', List.append_assoc] at hft
        have h4 := List.append_cancel_left hft
        simp only [List.cons_append, List.append_assoc, List.cons.injEq, true_and, List.nil_append] at h4
        have h5 := slash_split u' u t' rest (fun c hc => letter_no_slash (hp'.2.2.1 c hc)) (fun c hc => letter_no_slash (hp.2.2.1 c hc)) h4
        obtain ⟨rfl, rfl⟩ := h5
        rw [hf] at h3
        have hl := hp'.2.2.2.2
        rw [hp'.1] at hl
        rw [hp'.2.2.2.1, Bool.and_true, decide_eq_false_iff_not, hnd] at h3
        simp [dtnL] at h3 hl
        omega
    · obtain ⟨f2, _⟩ := check_ipn hc f1
      rw [textE_ipn hc f2] at hft
      simp [dtnL, ipnL] at hft
end Go.Proofs.YtanbjifdcplmnaaGreatDoor
/- Text of layer 3. -/
namespace Go.Proofs.YtanbjifdcplmnaaGreatDoor
open Go.RowKit

set_option maxRecDepth 100000 in
set_option maxHeartbeats 1000000 in
theorem ctext_any (s : ByteArray) (w : World) (hs : s.size ≤ 140737488355328) :
    Calls Tryz.prog 121 #[.string s] w (GivesI (.mk 3 0 s.data.toList []) w) := by
  obtain ⟨c, W', hrun, hrd, hc, hb, hz⟩ := conv_bytes (w.alloc (.cells #[.int .i64 0, .int .u64 0, .slice none 0 0, .slice none 0 0] 37)) s
  have hz1 : (w.alloc (.cells #[.int .i64 0, .int .u64 0, .slice none 0 0, .slice none 0 0] 37)).heap.size = w.heap.size + 1 := by simp
  rw [hz1] at hrun hrd hb hz
  obtain ⟨⟨z0, z1, z2, z3⟩, f0, f1, f2, f3⟩ := zero_cells hb
  have HRD := Lib.hid hrd
  have HB := Lib.hid hb
  have HZ := Lib.hid hz
  have HS := Lib.hid hs
  clear hrd hb hz hz1 hs
  go_enter Tryz.func121, Tryz.ntmps121
  go_wp2_with fail
  have hsz4 : ((((W'.setCell ⟨w.heap.size, 0, none⟩ (.int .i64 3)).setCell ⟨w.heap.size, 1, none⟩ (.int .u64 0)).setCell ⟨w.heap.size, 2, none⟩ (.slice (some ⟨w.heap.size + 1, 0, none⟩) s.size c)).setCell ⟨w.heap.size, 3, none⟩ (.slice none 0 0)).heap.size = W'.heap.size := by simp [World.setCell]
  refine bodyPost_ret (v := .agg #[.int .i64 3, .int .u64 0, .slice (some ⟨w.heap.size + 1, 0, none⟩) s.size c, .slice none 0 0]) (by simp [results, Tryz.results121, go_sem, z0, z1, z2, z3]) rfl ⟨_, rfl, RdI.mk_data (by decide) hc HS.out ?_, ?_⟩
  · rw [hsz4, HZ.out]
    exact HRD.out.set4 (fun _ b o h => (by cases h; omega))
  · exact below_set4 (((Below.refl _ _).alloc (Nat.le_refl _) _).trans (HB.out.mono (Nat.le_succ _))) (Nat.le_refl _)

end Go.Proofs.YtanbjifdcplmnaaGreatDoor
/- In the place of EidA where the whole of layer 3 lies in the dump (imports alone). -/
/- What write and writeAll of layer 3 return, of every right item: its bytes behind those that were there. -/
namespace Go.Proofs.YtanbjifdcplmnaaGreatDoor
open Go.RowKit

/-- Between two worlds nothing but v's own block was turned, and v' lies there, or is new. -/
structure Run (v : Value) (w : World) (v' : Value) (w' : World) : Prop where
  grown : w.grownBy w' v.ownBlock
  own : v'.ownBlock = v.ownBlock ∨ ∃ k, v'.ownBlock = some k ∧ w.heap.size ≤ k
section
variable {v v1 v2 : Value} {w w1 w2 : World} {base : Nat} {t : TypeId} {l : List UInt8}
theorem Run.refl (v : Value) (w : World) : Run v w v w := ⟨World.grownBy.refl w _, .inl rfl⟩
theorem Run.trans (h : Run v w v1 w1) (k : Run v1 w1 v2 w2) : Run v w v2 w2 := by
  refine ⟨⟨k.grown.os.trans h.grown.os, k.grown.tape.trans h.grown.tape, k.grown.output.trans h.grown.output, Nat.le_trans h.grown.size k.grown.size, fun i hi hne => ?_⟩, ?_⟩
  · refine (k.grown.block i (Nat.lt_of_lt_of_le hi h.grown.size) (fun e => ?_)).trans (h.grown.block i hi hne)
    rcases h.own with ho | ⟨q, ho, hq⟩
    · exact hne (e.trans ho)
    · rw [ho] at e; injection e with e; omega
  · rcases k.own with ko | ⟨q, ko, hq⟩
    · rcases h.own with ho | ⟨q, ho, hq⟩
      · exact .inl (ko.trans ho)
      · exact .inr ⟨q, ko.trans ho, hq⟩
    · exact .inr ⟨q, ko, Nat.le_trans h.grown.size hq⟩
theorem Run.quiet (h : Run v w v1 w1) (hb : Below w1.heap.size w1 w2) : Run v w v1 w2 :=
  h.trans ⟨⟨hb.os, hb.tape, hb.output, hb.size, fun k hk _ => hb.block k hk⟩, .inl rfl⟩
theorem Run.alloc (h : Run v w v1 w1) (o : Obj) : Run v w v1 (w1.alloc o) := h.quiet ((Below.refl _ _).alloc (Nat.le_refl _) o)
theorem Run.drew (h : Run v w v1 w1) : Run v w v1 w1.drew := h.quiet ((Below.refl _ _).drew)
theorem Run.below (h : Run v w v1 w1) (ho : Ob w base t v l) (hbase : base ≤ w.heap.size) : Below base w w1 :=
  ⟨h.grown.os, h.grown.tape, h.grown.output, h.grown.size, fun k hk => h.grown.block k (by omega) (fun e => by have := (World.ownsRow.lt ho k e.symm).1; omega)⟩
theorem Run.cell (h : Run v w v1 w1) {p : Addr} (hp : p.block < w.heap.size) (hne : v.ownBlock ≠ some p.block) : w1.cell? p = w.cell? p :=
  World.cell?_of_block (w := w) (h.grown.block p.block hp (fun e => hne e.symm))
theorem Run.ne (h : Run v w v1 w1) {k : Nat} (hk : k < w.heap.size) (hne : v.ownBlock ≠ some k) : v1.ownBlock ≠ some k := fun e => by
  rcases h.own with ho | ⟨q, ho, hq⟩
  · exact hne (ho.symm.trans e)
  · rw [ho] at e; injection e with e; omega
end

/-- A call gives back a slice of its caller's own that reads as l, and turns nothing else. -/
def GivesW (t : TypeId) (base : Nat) (vb : Value) (l : List UInt8) (w : World) (e : Ending) (w' : World) : Prop := ∃ v, e = .returned v ∧ Ob w' base t v l ∧ Run vb w v w'
/-- The call of write on each smaller item. -/
def CWriteIH (m : Nat) : Prop := ∀ (x : Itm) (v vb : Value) (lb : List UInt8) (w : World) (base : Nat), par x < m → right x = true → lb.length + (wri x).length ≤ 140737488355328 → base ≤ w.heap.size → RdI w base v x → Ob w base 5 vb lb →
    Calls Tryz.prog 55 #[vb, v] w (GivesW 5 base vb (lb ++ wri x) w)

section
variable {P : Program} {w : World}
/-- append onto an own slice, with what stays besides. -/
theorem wpList_appR {ops : Array Oper} {rest : List Oper} {o : Oper} {a : Act} {Q : Exit → Act → World → Prop} (hgd : o.guard = none) (s x : Operand) (t : TypeId)
    (ho : o.op = .call { callee := .builtin .append, args := #[s, x], argTypes := #[t, t] })
    (base : Nat) (e : TypeId) (ht : P.underlying t = some (.slice e)) (hinfo : (P.info? e).map (fun i => (i.zero, i.size, i.bytes)) = some (some (.int .u8 0), 1, 1))
    (v : Value) (l : List UInt8) (hs : a.eval s = v) (hown : Ob w base e v l) (B : Nat) (A : Option Addr) (m c : Nat) (news : List UInt8) (hx : a.eval x = .slice A m c) (hr : Rd w B A m news)
    (hbound : l.length + m ≤ 140737488355328) (hbase : base ≤ w.heap.size)
    (h : ∀ v' w', Ob w' base e v' (l ++ news) → Run v w v' w' → wpList P ops Q rest (a.put o.dst v') w') : wpList P ops Q (o :: rest) a w :=
  wpList_app hgd s x t ho base e ht hinfo v l hs hown B A m c news hx hr hbound hbase fun v' w' h1 h2 h3 =>
    h v' w' h1 ⟨h2, h3.imp id fun e => ⟨_, e, Nat.le_refl _⟩⟩
/-- The same at a step of a region that draws its order. -/
theorem step_appR {ops : Array Oper} {o : Oper} {a : Act} {K : Act → World → Prop} {Q : Exit → Act → World → Prop} {E : Prop} (hgd : o.guard = none) (s x : Operand) (t : TypeId)
    (ho : o.op = .call { callee := .builtin .append, args := #[s, x], argTypes := #[t, t] })
    (base : Nat) (e : TypeId) (ht : P.underlying t = some (.slice e)) (hinfo : (P.info? e).map (fun i => (i.zero, i.size, i.bytes)) = some (some (.int .u8 0), 1, 1))
    (v : Value) (l : List UInt8) (hs : a.eval s = v) (hown : Ob w base e v l) (B : Nat) (A : Option Addr) (m c : Nat) (news : List UInt8) (hx : a.eval x = .slice A m c) (hr : Rd w B A m news)
    (hbound : l.length + m ≤ 140737488355328) (hbase : base ≤ w.heap.size)
    (h : ∀ v' w', Ob w' base e v' (l ++ news) → Run v w v' w' → K (a.put o.dst v') w') : if Region.wanted o (yielded ops a.tmps) = true then Oper.wp P o a w K Q else E := by
  have hw : Region.wanted o (yielded ops a.tmps) = true := by simp [Region.wanted, hgd]
  rw [if_pos hw]
  obtain ⟨v', w', hrun, h2, h3, h4⟩ := run_app (P := P) w base t o.type e ht hinfo v l hown B A m c news hr hbound hbase
  unfold Oper.wp execOp
  simp only [ho, resolve, invoke, builtin, Sem.run_bind, Sem.run_pure, Result.andThen_ok, List.map_toArray, List.map_cons, List.map_nil, hs, hx, hrun]
  exact h v' w' h2 ⟨h3, h4.imp id fun e => ⟨_, e, Nat.le_refl _⟩⟩
end

set_option maxRecDepth 100000 in
set_option maxHeartbeats 4000000 in
theorem cwriteAll (m N cl base : Nat) (AL : Option Addr) (l : List Itm) (vb : Value) (lb : List UInt8) (w : World) (hm : pars l < m) (hbase : base ≤ w.heap.size) (hlen : lb.length + (wrs l).length ≤ 140737488355328) (hrt : rights l = true) (h5 : N ≤ cl ∧ N ≤ 140737488355328)
    (IH : Hid (CWriteIH m)) (H7 : Hid (0 < N → ∃ b o, AL = some ⟨b, o, none⟩ ∧ b < base ∧ RdIs w base b o l)) (HL : Hid (l.length = N)) (ho : Ob w base 5 vb lb) :
    Calls Tryz.prog 81 #[vb, .slice AL N cl] w (GivesW 5 base vb (lb ++ wrs l) w) := by
  have HO := Lib.hid ho
  have HRT := Lib.hid hrt
  have HLEN := Lib.hid hlen
  clear ho hrt hlen
  go_enter Tryz.func81, Tryz.ntmps81
  go_wp2_with fail
  go_loopw [0, 9] (fun bv i wr => ∃ j : Nat, j ≤ N ∧ i = .int .i64 j ∧ Hid (Ob wr base 5 bv (lb ++ wrs (l.take j))) ∧ Hid (Run vb w bv wr)) (fun _ i _ => N - (intOf i).toNat)
  case atStart => exact ⟨0, Nat.zero_le _, rfl, by show Ob _ _ _ _ _; rw [List.take_zero, wrs, List.append_nil]; exact HO.out, Run.refl _ _⟩
  case round =>
    obtain ⟨j, hj, rfl, hob, hrun⟩ := hrel
    have hbel := Lib.hid (hrun.out.below HO.out hbase)
    by_cases hlt : j < N
    · obtain ⟨b, o, rfl, hb, hs⟩ := H7.out (by omega)
      have hjl : j < l.length := by rw [HL.out]; exact hlt
      obtain ⟨c0, c1, c2, c3, g0, g1, g2, g3, gx⟩ := hs.get j hjl
      have e0 : wr.cell? ⟨b, o + j * 4, none⟩ = some c0 := (hbel.out.cell (p := ⟨b, o + j * 4, none⟩) hb).trans g0
      have e1 : wr.cell? ⟨b, o + j * 4 + 1, none⟩ = some c1 := (hbel.out.cell (p := ⟨b, o + j * 4 + 1, none⟩) hb).trans g1
      have e2 : wr.cell? ⟨b, o + j * 4 + 2, none⟩ = some c2 := (hbel.out.cell (p := ⟨b, o + j * 4 + 2, none⟩) hb).trans g2
      have e3 : wr.cell? ⟨b, o + j * 4 + 3, none⟩ = some c3 := (hbel.out.cell (p := ⟨b, o + j * 4 + 3, none⟩) hb).trans g3
      have hz : base ≤ wr.heap.size := Nat.le_trans hbase hbel.out.size
      have htk := wrs_take l j hjl
      have htl := wrs_take_len l (j + 1)
      have hpg : par (l[j]'hjl) ≤ pars l := par_get _
      rw [htk, List.length_append] at htl
      have hll := HLEN.out
      obtain ⟨k1, n1, A1, nd1, cd1, AL1, nl1, cl1, hf⟩ := gx.form
      injection hf with hf
      simp only [Array.mk.injEq, List.cons.injEq, and_true] at hf
      obtain ⟨rfl, rfl, rfl, rfl⟩ := hf
      have C1 := Lib.hid (IH.out (l[j]'hjl) _ _ (lb ++ wrs (l.take j)) (wr.alloc (.cells #[.int .i64 k1, .int .u64 (n1 : Int), .slice A1 nd1 cd1, .slice AL1 nl1 cl1] 37)) base (by omega) (right_get HRT.out hjl) (by rw [List.length_append]; omega) (Nat.le_trans hz (le_alloc _ _)) ((gx.below hbel.out).alloc hz _) (hob.out.alloc _))
      have HTK := Lib.hid htk
      generalize wri (l[j]'hjl) = WX at *
      clear g0 g1 g2 g3 gx hs htk htl hll hpg
      go_wp2_with fail
      refine C1.out.mono ?_
      rintro e w2 ⟨v2, rfl, ho2, hb2⟩
      have HO2 := Lib.hid ho2
      have HB2 := Lib.hid ((hrun.out.alloc _).trans hb2)
      clear ho2 hb2 e0 e1 e2 e3
      go_wp2_with fail
      go_roundw
      case rel => exact ⟨j + 1, by omega, by go_num, by show Ob _ _ _ _ _; rw [HTK.out, ← List.append_assoc]; exact HO2.out, HB2.out⟩
      case measure => simp [intOf]; omega
    · obtain rfl : j = N := by omega
      have hfin := hob.out
      rw [List.take_of_length_le (by rw [HL.out]; exact Nat.le_refl _)] at hfin
      have HF := Lib.hid hfin
      clear hfin
      go_wp2_with fail
      go_ret
      exact ⟨_, rfl, HF.out, hrun.out⟩

/-- Where a slice's own block lies. -/
theorem Ob.apart {w : World} {base : Nat} {t : TypeId} {v : Value} {l : List UInt8} (h : Ob w base t v l) : v.ownBlock ≠ some w.heap.size := fun e => by
  have := (World.ownsRow.lt h _ e).2
  omega
theorem headK (k : Int) (n : Nat) (h0 : 0 ≤ k) (h7 : k ≤ 7) : headB k n = hd k.toNat n := by rw [headB, if_neg (by omega)]

set_option maxRecDepth 100000 in
set_option maxHeartbeats 4000000 in
theorem cwrite_uint (n nd cd N cl base : Nat) (A AL : Option Addr) (vb : Value) (lb : List UInt8) (w : World) (hn : n < 18446744073709551616) (hbase : base ≤ w.heap.size) (hlen : lb.length + (hd 0 n).length ≤ 140737488355328) (ho : Ob w base 5 vb lb) :
    Calls Tryz.prog 55 #[vb, .agg #[.int .i64 0, .int .u64 (n : Int), .slice A nd cd, .slice AL N cl]] w (GivesW 5 base vb (lb ++ hd 0 n) w) := by
  have C1 := Lib.hid (fun W => khead_any 0 n W (by decide) hn)
  rw [headK 0 n (by decide) (by decide), show (0 : Int).toNat = 0 from rfl] at C1
  have HO := Lib.hid (ho.alloc (.cells #[.int .i64 0, .int .u64 (n : Int), .slice A nd cd, .slice AL N cl] 37))
  generalize hd 0 n = H at *
  have HLEN := Lib.hid hlen
  have HBS := Lib.hid hbase
  clear ho hlen hbase
  go_enter Tryz.func55, Tryz.ntmps55
  go_wp2_with fail
  refine (C1.out _).mono ?_
  rintro e w1 ⟨v, rfl, ho1, hb1⟩
  obtain ⟨A2, c2, rfl, hc2, hm2, hr2⟩ := ho1.rd
  have HR := Lib.hid hr2
  have HB := Lib.hid hb1
  have hz1 : w.heap.size + 1 ≤ w1.heap.size := by have := hb1.size; simpa using this
  have HZ := Lib.hid (Nat.le_trans HBS.out (Nat.le_of_succ_le hz1))
  clear ho1 hr2 hb1
  go_wp2_with (first
    | (at_builtin; refine wpList_appR rfl (.tmp 9) (.tmp 14) 22 rfl base 5 Tryz.underlying22 info_u8 vb lb rfl (HO.out.below HB.out) _ _ _ _ H rfl HR.out HLEN.out HZ.out ?_; intro v3 w3 ho3 hb3; have O3 := Lib.hid ho3; have B3 := Lib.hid hb3; clear ho3 hb3)
    | fail)
  go_ret
  exact ⟨_, rfl, O3.out, (((Run.refl vb w).alloc _).quiet HB.out).trans B3.out⟩

set_option maxRecDepth 100000 in
set_option maxHeartbeats 4000000 in
theorem cwrite_text2 (nd cd N cl base : Nat) (A AL : Option Addr) (d : List UInt8) (vb : Value) (lb : List UInt8) (w : World) (hnd : nd ≤ 140737488355328) (hrd : Rd w base A nd d) (hbase : base ≤ w.heap.size) (hlen : lb.length + (hd 2 d.length ++ d).length ≤ 140737488355328) (ho : Ob w base 5 vb lb) :
    Calls Tryz.prog 55 #[vb, .agg #[.int .i64 2, .int .u64 0, .slice A nd cd, .slice AL N cl]] w (GivesW 5 base vb (lb ++ (hd 2 d.length ++ d)) w) := by
  rw [hrd.1] at hlen ⊢
  have C1 := Lib.hid (fun W => khead_any 2 nd W (by decide) (by omega))
  rw [headK 2 nd (by decide) (by decide), show (2 : Int).toNat = 2 from rfl] at C1
  have HO := Lib.hid (ho.alloc (.cells #[.int .i64 2, .int .u64 0, .slice A nd cd, .slice AL N cl] 37))
  have HAP := Lib.hid ho.apart
  have HRD := Lib.hid (hrd.alloc hbase (.cells #[.int .i64 2, .int .u64 0, .slice A nd cd, .slice AL N cl] 37))
  have hdl := hrd.1
  rw [List.length_append, hdl] at hlen
  generalize hd 2 nd = H at *
  have HLEN := Lib.hid hlen
  have HBS := Lib.hid hbase
  clear ho hlen hbase hrd hdl
  go_enter Tryz.func55, Tryz.ntmps55
  go_wp2_with fail
  refine (C1.out _).mono ?_
  rintro e w1 ⟨v, rfl, ho1, hb1⟩
  obtain ⟨A2, c2, rfl, hc2, hm2, hr2⟩ := ho1.rd
  have HR := Lib.hid hr2
  have HB := Lib.hid hb1
  have hz1 : w.heap.size + 1 ≤ w1.heap.size := by have := hb1.size; simpa using this
  have HZ := Lib.hid (Nat.le_trans HBS.out (Nat.le_of_succ_le hz1))
  have HZ1 := Lib.hid hz1
  have q2 : w1.cell? ⟨w.heap.size, 2, none⟩ = some (.slice A nd cd) := (hb1.cell (p := ⟨w.heap.size, 2, none⟩) (by simp)).trans (by simp)
  clear ho1 hr2 hb1 hz1
  go_wp2_with (first
    | (at_builtin; refine wpList_appR rfl (.tmp 19) (.tmp 26) 22 rfl base 5 Tryz.underlying22 info_u8 vb lb rfl (HO.out.below HB.out) _ _ _ _ H rfl HR.out (by have := HLEN.out; omega) HZ.out ?_; intro v3 w3 ho3 hb3; have O3 := Lib.hid ho3; have B3 := Lib.hid hb3; have q3 := (hb3.cell (p := ⟨w.heap.size, 2, none⟩) HZ1.out HAP.out).trans q2; clear ho3 hb3 q2)
    | (at_builtin; refine wpList_appR rfl (.tmp 28) (.tmp 30) 22 rfl base 5 Tryz.underlying22 info_u8 v3 (lb ++ H) rfl O3.out base A nd cd d rfl ((HRD.out.below (HB.out.mono (Nat.le_trans HBS.out (le_alloc _ _)))).below (B3.out.below (HO.out.below HB.out) HZ.out)) (by have := HLEN.out; rw [List.length_append]; omega) (Nat.le_trans HZ.out B3.out.grown.size) ?_; intro v4 w4 ho4 hb4; have O4 := Lib.hid ho4; have B4 := Lib.hid hb4; clear ho4 hb4)
    | fail)
  go_ret
  exact ⟨_, rfl, by rw [← List.append_assoc]; exact O4.out, ((((Run.refl vb w).alloc _).quiet HB.out).trans B3.out).trans B4.out⟩

set_option maxRecDepth 100000 in
set_option maxHeartbeats 4000000 in
theorem cwrite_text3 (nd cd N cl base : Nat) (A AL : Option Addr) (d : List UInt8) (vb : Value) (lb : List UInt8) (w : World) (hnd : nd ≤ 140737488355328) (hrd : Rd w base A nd d) (hbase : base ≤ w.heap.size) (hlen : lb.length + (hd 3 d.length ++ d).length ≤ 140737488355328) (ho : Ob w base 5 vb lb) :
    Calls Tryz.prog 55 #[vb, .agg #[.int .i64 3, .int .u64 0, .slice A nd cd, .slice AL N cl]] w (GivesW 5 base vb (lb ++ (hd 3 d.length ++ d)) w) := by
  rw [hrd.1] at hlen ⊢
  have C1 := Lib.hid (fun W => khead_any 3 nd W (by decide) (by omega))
  rw [headK 3 nd (by decide) (by decide), show (3 : Int).toNat = 3 from rfl] at C1
  have HO := Lib.hid (ho.alloc (.cells #[.int .i64 3, .int .u64 0, .slice A nd cd, .slice AL N cl] 37))
  have HAP := Lib.hid ho.apart
  have HRD := Lib.hid (hrd.alloc hbase (.cells #[.int .i64 3, .int .u64 0, .slice A nd cd, .slice AL N cl] 37))
  have hdl := hrd.1
  rw [List.length_append, hdl] at hlen
  generalize hd 3 nd = H at *
  have HLEN := Lib.hid hlen
  have HBS := Lib.hid hbase
  clear ho hlen hbase hrd hdl
  go_enter Tryz.func55, Tryz.ntmps55
  go_wp2_with fail
  refine (C1.out _).mono ?_
  rintro e w1 ⟨v, rfl, ho1, hb1⟩
  obtain ⟨A2, c2, rfl, hc2, hm2, hr2⟩ := ho1.rd
  have HR := Lib.hid hr2
  have HB := Lib.hid hb1
  have hz1 : w.heap.size + 1 ≤ w1.heap.size := by have := hb1.size; simpa using this
  have HZ := Lib.hid (Nat.le_trans HBS.out (Nat.le_of_succ_le hz1))
  have HZ1 := Lib.hid hz1
  have q2 : w1.cell? ⟨w.heap.size, 2, none⟩ = some (.slice A nd cd) := (hb1.cell (p := ⟨w.heap.size, 2, none⟩) (by simp)).trans (by simp)
  clear ho1 hr2 hb1 hz1
  go_wp2_with (first
    | (at_builtin; refine wpList_appR rfl (.tmp 19) (.tmp 26) 22 rfl base 5 Tryz.underlying22 info_u8 vb lb rfl (HO.out.below HB.out) _ _ _ _ H rfl HR.out (by have := HLEN.out; omega) HZ.out ?_; intro v3 w3 ho3 hb3; have O3 := Lib.hid ho3; have B3 := Lib.hid hb3; have q3 := (hb3.cell (p := ⟨w.heap.size, 2, none⟩) HZ1.out HAP.out).trans q2; clear ho3 hb3 q2)
    | (at_builtin; refine wpList_appR rfl (.tmp 28) (.tmp 30) 22 rfl base 5 Tryz.underlying22 info_u8 v3 (lb ++ H) rfl O3.out base A nd cd d rfl ((HRD.out.below (HB.out.mono (Nat.le_trans HBS.out (le_alloc _ _)))).below (B3.out.below (HO.out.below HB.out) HZ.out)) (by have := HLEN.out; rw [List.length_append]; omega) (Nat.le_trans HZ.out B3.out.grown.size) ?_; intro v4 w4 ho4 hb4; have O4 := Lib.hid ho4; have B4 := Lib.hid hb4; clear ho4 hb4)
    | fail)
  go_ret
  exact ⟨_, rfl, by rw [← List.append_assoc]; exact O4.out, ((((Run.refl vb w).alloc _).quiet HB.out).trans B3.out).trans B4.out⟩

set_option maxRecDepth 100000 in
set_option maxHeartbeats 4000000 in
theorem cwrite_arr4 (m nd cd N cl base : Nat) (A AL : Option Addr) (l : List Itm) (vb : Value) (lb : List UInt8) (w : World) (hm : pars l < m) (hbase : base ≤ w.heap.size) (hlen : lb.length + (hd 4 N ++ wrs l).length ≤ 140737488355328) (hrt : rights l = true) (h5 : N ≤ cl ∧ N ≤ 140737488355328)
    (IH : Hid (CWriteIH m)) (H7 : 0 < N → ∃ b o, AL = some ⟨b, o, none⟩ ∧ b < base ∧ RdIs w base b o l) (HL : Hid (l.length = N)) (ho : Ob w base 5 vb lb) :
    Calls Tryz.prog 55 #[vb, .agg #[.int .i64 4, .int .u64 0, .slice A nd cd, .slice AL N cl]] w (GivesW 5 base vb (lb ++ (hd 4 N ++ wrs l)) w) := by
  have C1 := Lib.hid (fun W => khead_any 4 N W (by decide) (by omega))
  rw [headK 4 N (by decide) (by decide), show (4 : Int).toNat = 4 from rfl] at C1
  have HO := Lib.hid (ho.alloc (.cells #[.int .i64 4, .int .u64 0, .slice A nd cd, .slice AL N cl] 37))
  have HAP := Lib.hid ho.apart
  rw [List.length_append] at hlen
  generalize hd 4 N = H at *
  have HO0 := Lib.hid ho
  have C2 := Lib.hid (fun (W : World) v (hr : Run vb w v W) (ho : Ob W base 5 v (lb ++ H)) => have hb := hr.below HO0.out hbase; cwriteAll m N cl base AL l v (lb ++ H) W hm (Nat.le_trans hbase hb.size) (by rw [List.length_append]; omega) hrt h5 IH (fun h0 => by
    obtain ⟨b, o, ea, hb2, hs⟩ := H7 h0
    exact ⟨b, o, ea, hb2, hs.below hb2 hb⟩) HL ho)
  generalize wrs l = L at *
  have HLEN := Lib.hid hlen
  have HBS := Lib.hid hbase
  clear ho hlen hbase H7 hm hrt
  go_enter Tryz.func55, Tryz.ntmps55
  go_wp2_with fail
  refine (C1.out _).mono ?_
  rintro e w1 ⟨v, rfl, ho1, hb1⟩
  obtain ⟨A2, c2, rfl, hc2, hm2, hr2⟩ := ho1.rd
  have HR := Lib.hid hr2
  have HB := Lib.hid hb1
  have hz1 : w.heap.size + 1 ≤ w1.heap.size := by have := hb1.size; simpa using this
  have HZ := Lib.hid (Nat.le_trans HBS.out (Nat.le_of_succ_le hz1))
  have HZ1 := Lib.hid hz1
  have q2 : w1.cell? ⟨w.heap.size, 3, none⟩ = some (.slice AL N cl) := (hb1.cell (p := ⟨w.heap.size, 3, none⟩) (by simp)).trans (by simp)
  clear ho1 hr2 hb1 hz1
  go_wp2_with (first
    | (at_builtin; refine wpList_appR rfl (.tmp 43) (.tmp 50) 22 rfl base 5 Tryz.underlying22 info_u8 vb lb rfl (HO.out.below HB.out) _ _ _ _ H rfl HR.out (by have := HLEN.out; omega) HZ.out ?_; intro v3 w3 ho3 hb3; have O3 := Lib.hid ho3; have B3 := Lib.hid ((((Run.refl vb w).alloc _).quiet HB.out).trans hb3); have q3 := (hb3.cell (p := ⟨w.heap.size, 3, none⟩) HZ1.out HAP.out).trans q2; clear ho3 hb3 q2)
    | fail)
  refine (C2.out _ _ B3.out O3.out).mono ?_
  rintro e w4 ⟨v4, rfl, ho4, hb4⟩
  have O4 := Lib.hid ho4
  have B4 := Lib.hid (B3.out.trans hb4)
  clear ho4 hb4
  go_wp2_with fail
  go_ret
  exact ⟨_, rfl, by rw [← List.append_assoc]; exact O4.out, B4.out⟩

set_option maxRecDepth 100000 in
set_option maxHeartbeats 4000000 in
theorem cwrite_arr5 (m nd cd N cl base : Nat) (A AL : Option Addr) (l : List Itm) (vb : Value) (lb : List UInt8) (w : World) (hm : pars l < m) (hbase : base ≤ w.heap.size) (hlen : lb.length + (0x9f :: (wrs l ++ [0xff])).length ≤ 140737488355328) (hrt : rights l = true) (h5 : N ≤ cl ∧ N ≤ 140737488355328)
    (IH : Hid (CWriteIH m)) (H7 : 0 < N → ∃ b o, AL = some ⟨b, o, none⟩ ∧ b < base ∧ RdIs w base b o l) (HL : Hid (l.length = N)) (ho : Ob w base 5 vb lb) :
    Calls Tryz.prog 55 #[vb, .agg #[.int .i64 5, .int .u64 0, .slice A nd cd, .slice AL N cl]] w (GivesW 5 base vb (lb ++ (0x9f :: (wrs l ++ [0xff]))) w) := by
  obtain ⟨H, hH⟩ : ∃ H : List UInt8, H = [0x9f] := ⟨_, rfl⟩
  have eq : lb ++ (0x9f :: (wrs l ++ [0xff])) = (lb ++ H ++ wrs l) ++ [0xff] := by rw [hH]; simp
  have hH1 : H.length = 1 := by rw [hH]; rfl
  rw [eq]
  simp only [List.length_cons, List.length_append, List.length_nil] at hlen
  have HO := Lib.hid (ho.alloc (.cells #[.int .i64 5, .int .u64 0, .slice A nd cd, .slice AL N cl] 37))
  have HAP := Lib.hid ho.apart
  have HH := Lib.hid hH
  have HO0 := Lib.hid ho
  have C2 := Lib.hid (fun (W : World) v (hr : Run vb w v W) (ho : Ob W base 5 v (lb ++ H)) => have hb := hr.below HO0.out hbase; cwriteAll m N cl base AL l v (lb ++ H) W hm (Nat.le_trans hbase hb.size) (by rw [List.length_append]; omega) hrt h5 IH (fun h0 => by
    obtain ⟨b, o, ea, hb2, hs⟩ := H7 h0
    exact ⟨b, o, ea, hb2, hs.below hb2 hb⟩) HL ho)
  have HL1 := Lib.hid hH1
  generalize wrs l = L at *
  have HLEN := Lib.hid hlen
  have HBS := Lib.hid hbase
  clear ho hlen hbase H7 hm hrt hH hH1 eq
  go_enter Tryz.func55, Tryz.ntmps55
  go_wp2_with fail
  have f3 : (w.alloc (.cells #[.int .i64 5, .int .u64 0, .slice A nd cd, .slice AL N cl] 37)).cell? ⟨w.heap.size, 3, none⟩ = some (.slice AL N cl) := by simp
  have FZ : Hid ((w.alloc (.cells #[.int .i64 5, .int .u64 0, .slice A nd cd, .slice AL N cl] 37)).heap.size = w.heap.size + 1) := (by simp : _ = _)
  have FB := Lib.hid ((Run.refl vb w).alloc (.cells #[.int .i64 5, .int .u64 0, .slice A nd cd, .slice AL N cl] 37))
  generalize w.alloc (.cells #[.int .i64 5, .int .u64 0, .slice A nd cd, .slice AL N cl] 37) = W0 at *
  have hzl : w.heap.size < W0.heap.size := by rw [FZ.out]; exact Nat.lt_succ_self _
  have hzb : base ≤ W0.heap.size := Nat.le_trans HBS.out (Nat.le_of_lt hzl)
  have HZL := Lib.hid hzl
  have HZB := Lib.hid hzb
  have FA := Lib.hid (fun (o : Obj) => (World.cell?_alloc_lt W0.drew o ⟨w.heap.size, 3, none⟩ hzl).trans f3)
  clear hzl hzb
  go_region_held3 (fun W => W.cell? ⟨w.heap.size, 3, none⟩ = some (.slice AL N cl))
    (first
      | (exact f3)
      | (exact FA.out _)
      | (exact q4)
      | (exact q3)
      | fail)
    (first
      | (go_at_call 81; refine (C2.out _ _ B3.out O3.out).mono ?_; rintro e w4 ⟨v4, rfl, ho4, hb4⟩; have O4 := Lib.hid ho4; have B4 := Lib.hid (B3.out.trans hb4); have q4 := (hb4.cell (p := ⟨w.heap.size, 3, none⟩) N3.out.1 N3.out.2).trans q3; clear ho4 hb4)
      | (refine step_appR (by rfl) (.tmp 34) (.tmp 35) 22 (by rfl) base 5 Tryz.underlying22 info_u8 vb lb (by rfl) (HO.out.drew.alloc _) (W0.heap.size + 1) (some ⟨W0.heap.size, 0, none⟩) 1 1 H (by rfl) (Rd.lit W0.drew _ (by simp) H 5 #[.int .u8 159] (by rw [HH.out]; rfl) 1 HL1.out) (by have := HLEN.out; omega) (Nat.le_trans HZB.out (le_alloc W0.drew _)) ?_; intro v3 w3 ho3 hb3; have O3 := Lib.hid ho3; have B3 := Lib.hid ((FB.out.drew.alloc _).trans hb3); have q3 := (hb3.cell (p := ⟨w.heap.size, 3, none⟩) (Nat.lt_of_lt_of_le HZL.out (le_alloc W0.drew _)) HAP.out).trans (FA.out _); have N3 := Lib.hid (And.intro (Nat.lt_of_lt_of_le (Nat.lt_of_lt_of_le HZL.out (le_alloc W0.drew _)) hb3.grown.size) (hb3.ne (k := w.heap.size) (Nat.lt_of_lt_of_le HZL.out (le_alloc W0.drew _)) HAP.out)); clear ho3 hb3)
      | fail)
  have HZ4 := Lib.hid (Nat.le_trans HBS.out B4.out.grown.size)
  go_wp2_with (first
    | (at_builtin; refine wpList_appR rfl (.tmp 40) (.tmp 41) 22 rfl base 5 Tryz.underlying22 info_u8 v4 (lb ++ H ++ L) rfl (O4.out.alloc _) (w4.heap.size + 1) (some ⟨w4.heap.size, 0, none⟩) 1 1 [255] rfl (Rd.lit w4 _ rfl [255] 5 #[.int .u8 255] rfl 1 rfl) (by have := HLEN.out; have := HL1.out; simp only [List.length_append]; omega) (Nat.le_trans HZ4.out (le_alloc _ _)) ?_; intro v5 w5 ho5 hb5; have O5 := Lib.hid ho5; have B5 := Lib.hid ((B4.out.alloc _).trans hb5); clear ho5 hb5)
    | fail)
  go_ret
  exact ⟨_, rfl, O5.out, B5.out⟩

theorem own_k {k : Int} {n : Nat} {d : List UInt8} {l : List Itm} (h : own k n d l = true) : (k = 0 ∧ d = [] ∧ l = []) ∨ ((k = 2 ∨ k = 3) ∧ n = 0 ∧ l = []) ∨ ((k = 4 ∨ k = 5) ∧ n = 0 ∧ d = []) := by
  unfold own at h
  by_cases h0 : k = 0
  · rw [if_pos h0] at h; simp at h; exact .inl ⟨h0, h.1, h.2⟩
  rw [if_neg h0] at h
  by_cases h2 : k = 2
  · rw [if_pos h2] at h; simp at h; exact .inr (.inl ⟨.inl h2, h.1, h.2⟩)
  rw [if_neg h2] at h
  by_cases h3 : k = 3
  · rw [if_pos h3] at h; simp at h; exact .inr (.inl ⟨.inr h3, h.1, h.2.1⟩)
  rw [if_neg h3] at h
  by_cases h4 : k = 4 ∨ k = 5
  · rw [if_pos h4] at h; simp at h; exact .inr (.inr ⟨h4, h.1, h.2⟩)
  · rw [if_neg h4] at h; cases h

theorem cwrite_n : ∀ m : Nat, CWriteIH m
  | 0 => fun _ _ _ _ _ _ h => absurd h (Nat.not_lt_zero _)
  | m + 1 => by
    rintro ⟨k, n, d, l⟩ v vb lb w base hm hr hlen hbase h ho
    have IH := Lib.hid (cwrite_n m)
    obtain ⟨A, nd, cd, AL, cl, rfl, h1, h2, h3, h4, h5, h7⟩ := h.open
    rw [right, Bool.and_eq_true] at hr
    rw [par] at hm
    rcases own_k hr.1 with ⟨rfl, rfl, rfl⟩ | ⟨hk, rfl, rfl⟩ | ⟨hk, rfl, rfl⟩
    · rw [wri, if_pos rfl] at hlen ⊢
      exact cwrite_uint n nd cd _ cl base A AL vb lb w h2 hbase hlen ho
    · rcases hk with rfl | rfl
      · rw [wri, if_neg (by decide), if_pos (by decide)] at hlen ⊢
        exact cwrite_text2 nd cd _ cl base A AL d vb lb w h3.2 h4 hbase hlen ho
      · rw [wri, if_neg (by decide), if_pos (by decide)] at hlen ⊢
        exact cwrite_text3 nd cd _ cl base A AL d vb lb w h3.2 h4 hbase hlen ho
    · rcases hk with rfl | rfl
      · rw [wri, if_neg (by decide), if_neg (by decide), if_pos rfl] at hlen ⊢
        exact cwrite_arr4 m nd cd l.length cl base A AL l vb lb w (by omega) hbase hlen hr.2 h5 IH h7 rfl ho
      · rw [wri, if_neg (by decide), if_neg (by decide), if_neg (by decide)] at hlen ⊢
        exact cwrite_arr5 m nd cd l.length cl base A AL l vb lb w (by omega) hbase hlen hr.2 h5 IH h7 rfl ho
end Go.Proofs.YtanbjifdcplmnaaGreatDoor
/- What Encode of layer 3 returns. -/
namespace Go.Proofs.YtanbjifdcplmnaaGreatDoor
open Go.RowKit

/-- A call gives back a slice of bytes and a number. -/
def GivesB (l : List UInt8) (c : Int) (w : World) (e : Ending) (w' : World) : Prop := ∃ (A : Option Addr) (n cp : Nat), e = .returned (.tuple #[.slice A n cp, .int .i64 c]) ∧ Rd w' w'.heap.size A n l ∧ n ≤ cp ∧ Below w.heap.size w w'

set_option maxRecDepth 100000 in
set_option maxHeartbeats 2000000 in
theorem cencode_any (x : Itm) (v : Value) (w : World) (B : Nat) (hp : par x ≤ 1000000) (hlen : Fits x → (wri x).length ≤ 140737488355328) (hB : B ≤ w.heap.size) (h : RdI w B v x) (hL : LaidE w) :
    Calls Tryz.prog 38 #[v] w (GivesB (enc x).1 (enc x).2 w) := by
  obtain ⟨k, n, d, l⟩ := x
  have HX := Lib.hid h
  obtain ⟨A, nd, cd, AL, cl, rfl, h1, h2, h3, h4, h5, h7⟩ := h.open
  generalize hX : Itm.mk k n d l = x at *
  clear hX
  have C1 := Lib.hid (fun W (hb : Below w.heap.size w W) => check_any x _ W B hp (Nat.le_trans hB hb.size) (HX.out.below (hb.mono hB)))
  have C2 := Lib.hid (fun z W (hb : Below w.heap.size w W) => number_any z W (hL.below hb hL.lt))
  have C3 := Lib.hid (fun W (hb : Below w.heap.size w W) (hr : right x = true) (hl : (wri x).length ≤ 140737488355328) => cwrite_n (par x + 1) x _ (.slice none 0 0) [] W W.heap.size (Nat.lt_succ_self _) hr (by simpa using hl) (Nat.le_refl _) ((HX.out.below (hb.mono hB)).more (Nat.le_trans hB hb.size)) (Ob.nil_ _ _ _))
  have HLEN := Lib.hid hlen
  have B0 := Lib.hid ((Below.refl w.heap.size w).alloc (Nat.le_refl _) (.cells #[.int .i64 k, .int .u64 (n : Int), .slice A nd cd, .slice AL l.length cl] 37))
  generalize l.length = N at *
  clear h1 h4 h7 h hlen hL
  rcases hr : right x with _ | _
  · rw [show enc x = ([], 2) by unfold enc; rw [if_pos hr]]
    have hv : chkV x = .iface 139 (.agg #[.int .i64 2]) := by unfold chkV; rw [if_pos hr]
    rw [hv] at C1
    clear hr hv
    go_enter Tryz.func38, Tryz.ntmps38
    go_wp2_with fail
    refine (C1.out _ B0.out).mono ?_
    rintro e w1 ⟨rfl, hb1⟩
    have HB1 := Lib.hid (B0.out.trans (hb1.mono B0.out.size))
    clear hb1
    go_wp2_with fail
    refine (C2.out _ _ HB1.out).mono ?_
    rintro e w2 ⟨rfl, hb2⟩
    have HB2 := Lib.hid (HB1.out.trans (hb2.mono HB1.out.size))
    clear hb2
    go_wp2_with fail
    go_ret2
    exact ⟨none, 0, 0, rfl, Rd.nil_, Nat.le_refl _, HB2.out⟩
  · by_cases hd : 8 < dep x ∨ 4096 < par x
    · rw [show enc x = ([], 32) by unfold enc; rw [if_neg (by rw [hr]; decide), if_pos hd]]
      have hv : chkV x = .iface 139 (.agg #[.int .i64 32]) := by unfold chkV; rw [if_neg (by rw [hr]; decide), if_pos hd]
      rw [hv] at C1
      clear hr hv hd
      go_enter Tryz.func38, Tryz.ntmps38
      go_wp2_with fail
      refine (C1.out _ B0.out).mono ?_
      rintro e w1 ⟨rfl, hb1⟩
      have HB1 := Lib.hid (B0.out.trans (hb1.mono B0.out.size))
      clear hb1
      go_wp2_with fail
      refine (C2.out _ _ HB1.out).mono ?_
      rintro e w2 ⟨rfl, hb2⟩
      have HB2 := Lib.hid (HB1.out.trans (hb2.mono HB1.out.size))
      clear hb2
      go_wp2_with fail
      go_ret2
      exact ⟨none, 0, 0, rfl, Rd.nil_, Nat.le_refl _, HB2.out⟩
    · have hf : Fits x := ⟨hr, by omega, by omega⟩
      have hv : chkV x = .nilIface := by unfold chkV; rw [if_neg (by rw [hr]; decide), if_neg hd]
      rw [hv] at C1
      rw [enc_ok hf]
      have HL := Lib.hid (HLEN.out hf)
      have HR := Lib.hid hr
      clear hr hv hd hf
      generalize hWX : wri x = WX at *
      go_enter Tryz.func38, Tryz.ntmps38
      go_wp2_with fail
      refine (C1.out _ B0.out).mono ?_
      rintro e w1 ⟨rfl, hb1⟩
      have HB1 := Lib.hid (B0.out.trans (hb1.mono B0.out.size))
      obtain ⟨q0, q1, q2, q3⟩ := box_cells (to_box hb1)
      clear hb1
      go_wp2_with fail
      refine (C3.out _ HB1.out HR.out HL.out).mono ?_
      rintro e w2 ⟨v, rfl, ho, hr⟩
      rw [List.nil_append] at ho
      obtain ⟨A2, c2, rfl, hc2, hm2, hr2⟩ := ho.rd
      have HR2 := Lib.hid hr2
      have hl2 := ho.rd_.1
      have HB2 := Lib.hid (HB1.out.trans ((hr.below (Ob.nil_ _ w1.heap.size 5) (Nat.le_refl _)).mono HB1.out.size))
      clear ho hr2 hr q0 q1 q2 q3
      go_wp2_with fail
      go_ret2
      exact ⟨A2, _, c2, rfl, HR2.out, hc2, HB2.out⟩
end Go.Proofs.YtanbjifdcplmnaaGreatDoor
/- Sums of bytes by a shift register over n bits, as plain functions: that it is linear, that a burst no longer than n is told, and what bytes with their own sum behind them come to. No program's number stands here. -/
namespace Go.Proofs.YtanbjifdcplmnaaGreatDoor

section
variable {n : Nat}

/-- One step: shifted to the right, and put together with p if a one went out. -/
def stp (p c : BitVec n) : BitVec n := if c.getLsbD 0 then (c >>> 1) ^^^ p else c >>> 1
/-- k steps. -/
def stpN (p : BitVec n) : Nat → BitVec n → BitVec n
  | 0, c => c
  | k + 1, c => stpN p k (stp p c)

theorem stp_xor (p a b : BitVec n) : stp p (a ^^^ b) = stp p a ^^^ stp p b := by
  unfold stp
  rw [BitVec.getLsbD_xor, BitVec.ushiftRight_xor_distrib]
  cases a.getLsbD 0 <;> cases b.getLsbD 0 <;> simp
  · rw [BitVec.xor_assoc]
  · rw [BitVec.xor_assoc, BitVec.xor_assoc, BitVec.xor_comm p]
  · rw [show a >>> 1 ^^^ p ^^^ (b >>> 1 ^^^ p) = a >>> 1 ^^^ b >>> 1 ^^^ (p ^^^ p) by ac_rfl, BitVec.xor_self, BitVec.xor_zero]
theorem stp_zero (p : BitVec n) : stp p 0#n = 0#n := by simp [stp]
theorem stpN_xor (p : BitVec n) : ∀ (k : Nat) (a b : BitVec n), stpN p k (a ^^^ b) = stpN p k a ^^^ stpN p k b
  | 0, _, _ => rfl
  | k + 1, a, b => by rw [stpN, stp_xor, stpN_xor p k]; rfl
theorem stpN_zero (p : BitVec n) : ∀ k, stpN p k 0#n = 0#n
  | 0 => rfl
  | k + 1 => by rw [stpN, stp_zero, stpN_zero p k]

/-- Nothing but nought comes to nought, if p's highest bit is one. -/
theorem stp_eq_zero (p c : BitVec n) (hp : p.msb = true) (h : stp p c = 0#n) : c = 0#n := by
  unfold stp at h
  by_cases hc : c.getLsbD 0
  · rw [if_pos hc] at h
    have e : c >>> 1 = p := by
      have := congrArg (· ^^^ p) h
      simpa [BitVec.xor_assoc] using this
    rw [← e] at hp
    have hn : 0 < n := by
      rcases Nat.eq_zero_or_pos n with h0 | h0
      · subst h0; simp [BitVec.msb_eq_getLsbD_last] at hp
      · exact h0
    simp [BitVec.msb_eq_getLsbD_last, BitVec.getLsbD_ushiftRight] at hp
    have := BitVec.getLsbD_of_ge c (1 + (n - 1)) (by omega)
    rw [this] at hp
    cases hp
  · rw [if_neg hc] at h
    apply BitVec.eq_of_getLsbD_eq
    intro i hi
    rcases i with _ | i
    · simpa using hc
    · have := congrArg (fun v : BitVec n => v.getLsbD i) h
      simp [BitVec.getLsbD_ushiftRight] at this
      rw [Nat.add_comm]
      simpa using this
theorem stpN_eq_zero (p : BitVec n) (hp : p.msb = true) : ∀ (k : Nat) (c : BitVec n), stpN p k c = 0#n → c = 0#n
  | 0, _, h => h
  | k + 1, c, h => stp_eq_zero p c hp (stpN_eq_zero p hp k _ h)

/-! ### Bit by bit -/

/-- A bit as a number. -/
def b1 (n : Nat) (b : Bool) : BitVec n := if b then 1#n else 0#n
/-- A row of bits, the lowest first, goes through. -/
def fb (p : BitVec n) (c : BitVec n) (l : List Bool) : BitVec n := l.foldl (fun c b => stp p (c ^^^ b1 n b)) c
/-- A row of bits as a number, the lowest first. -/
def vl (n : Nat) : List Bool → BitVec n
  | [] => 0#n
  | b :: t => b1 n b ^^^ (vl n t <<< 1)

theorem vl_bit : ∀ (l : List Bool) (i : Nat), i < n → (vl n l).getLsbD i = l.getD i false
  | [], i, _ => by simp [vl, List.getD]
  | b :: t, 0, h => by
    have h1 : (b1 n b).getLsbD 0 = b := by cases b <;> simp [b1, h]
    simp [vl, BitVec.getLsbD_xor, h1, BitVec.getLsbD_shiftLeft, List.getD]
  | b :: t, i + 1, h => by
    have h1 : (b1 n b).getLsbD (i + 1) = false := by cases b <;> simp [b1]
    have h2 := vl_bit t i (by omega)
    rw [vl, BitVec.getLsbD_xor, h1, BitVec.getLsbD_shiftLeft, Nat.add_sub_cancel, h2]
    simp [h, List.getD]

theorem stp_shl (p v : BitVec n) (hn : 0 < n) (hv : v.getLsbD (n - 1) = false) : stp p (v <<< 1) = v := by
  unfold stp
  rw [if_neg (by simp [BitVec.getLsbD_shiftLeft])]
  apply BitVec.eq_of_getLsbD_eq
  intro i hi
  rw [BitVec.getLsbD_ushiftRight, BitVec.getLsbD_shiftLeft]
  by_cases h : 1 + i < n
  · simp [h]
  · have e : i = n - 1 := by omega
    subst e
    rw [hv]
    simp [h]

/-- No more bits than the register has: they might have been put in all at once. -/
theorem fb_vl (p : BitVec n) : ∀ (l : List Bool) (c : BitVec n), l.length ≤ n → fb p c l = stpN p l.length (c ^^^ vl n l)
  | [], c, _ => by simp [fb, vl, stpN]
  | b :: t, c, h => by
    have ht : t.length + 1 ≤ n := by simpa using h
    have e : fb p c (b :: t) = fb p (stp p (c ^^^ b1 n b)) t := rfl
    have hv : (vl n t).getLsbD (n - 1) = false := by
      rw [vl_bit t (n - 1) (by omega)]
      simp only [List.getD]
      rw [List.getElem?_eq_none (by omega)]
      rfl
    rw [e, fb_vl p t _ (by omega), List.length_cons, stpN, vl, ← BitVec.xor_assoc, stp_xor p (c ^^^ b1 n b), stp_shl p (vl n t) (by omega) hv]

theorem vl_zero (l : List Bool) (hl : l.length ≤ n) (h : vl n l = 0#n) : ∀ b ∈ l, b = false := by
  intro b hb
  obtain ⟨i, hi, e⟩ := List.getElem_of_mem hb
  have := vl_bit (n := n) l i (by omega)
  rw [h] at this
  simp [List.getD, hi] at this
  rw [← e]; exact this

theorem fb_append (p c : BitVec n) (l m : List Bool) : fb p c (l ++ m) = fb p (fb p c l) m := by simp [fb, List.foldl_append]
theorem fb_false (p : BitVec n) : ∀ (l : List Bool) (c : BitVec n), (∀ b ∈ l, b = false) → fb p c l = stpN p l.length c
  | [], _, _ => rfl
  | b :: t, c, h => by
    have hb : b = false := h b (by simp)
    subst hb
    have e : fb p c (false :: t) = fb p (stp p (c ^^^ b1 n false)) t := rfl
    rw [e, fb_false p t _ (fun b hb => h b (by simp [hb]))]
    simp [b1, stpN]

theorem fb_xor (p : BitVec n) : ∀ (l m : List Bool) (a b : BitVec n), l.length = m.length → fb p (a ^^^ b) (List.zipWith (· ^^ ·) l m) = fb p a l ^^^ fb p b m
  | [], [], _, _, _ => rfl
  | [], _ :: _, _, _, h => by simp at h
  | _ :: _, [], _, _, h => by simp at h
  | x :: l, y :: m, a, b, h => by
    have hb : b1 n (x ^^ y) = b1 n x ^^^ b1 n y := by cases x <;> cases y <;> simp [b1]
    have e1 : fb p (a ^^^ b) (List.zipWith (· ^^ ·) (x :: l) (y :: m)) = fb p (stp p ((a ^^^ b) ^^^ b1 n (x ^^ y))) (List.zipWith (· ^^ ·) l m) := rfl
    have e2 : fb p a (x :: l) = fb p (stp p (a ^^^ b1 n x)) l := rfl
    have e3 : fb p b (y :: m) = fb p (stp p (b ^^^ b1 n y)) m := rfl
    rw [e1, e2, e3, hb, show a ^^^ b ^^^ (b1 n x ^^^ b1 n y) = (a ^^^ b1 n x) ^^^ (b ^^^ b1 n y) by ac_rfl, stp_xor, fb_xor p l m _ _ (by simpa using h)]

/-- A burst no longer than the register is told: noughts, then no more than n bits, then noughts, come to nought only if all are nought. -/
theorem fb_burst (p : BitVec n) (hp : p.msb = true) (a w z : List Bool) (ha : ∀ b ∈ a, b = false) (hz : ∀ b ∈ z, b = false) (hw : w.length ≤ n) (h : fb p 0#n (a ++ w ++ z) = 0#n) : ∀ b ∈ w, b = false := by
  rw [fb_append, fb_append, fb_false p a _ ha, stpN_zero, fb_false p z _ hz] at h
  have h1 := stpN_eq_zero p hp _ _ h
  rw [fb_vl p w _ hw, BitVec.zero_xor] at h1
  exact vl_zero w hw (stpN_eq_zero p hp _ _ h1)

theorem xor_false_eq {a b : Bool} (h : (a ^^ b) = false) : a = b := by cases a <;> cases b <;> simp_all
/-- Two rows that differ in a window of n bits alone come to the same only if they are the same. -/
theorem fb_tells (p : BitVec n) (hp : p.msb = true) (c : BitVec n) (l m : List Bool) (hl : l.length = m.length) (from_ : Nat) (hw : ∀ i, i < l.length → l.getD i false ≠ m.getD i false → from_ ≤ i ∧ i < from_ + n)
    (h : fb p c l = fb p c m) : l = m := by
  have hx := fb_xor p l m c c hl
  rw [BitVec.xor_self, h, BitVec.xor_self] at hx
  generalize he : List.zipWith (· ^^ ·) l m = e at hx
  have hel : e.length = l.length := by rw [← he]; simp [hl]
  have hei : ∀ i, i < l.length → e.getD i false = (l.getD i false ^^ m.getD i false) := by
    intro i hi
    have hi' : i < m.length := by omega
    rw [← he, List.getD_eq_getElem?_getD, List.getD_eq_getElem?_getD, List.getD_eq_getElem?_getD, List.getElem?_zipWith, List.getElem?_eq_getElem hi, List.getElem?_eq_getElem hi']
    rfl
  have hsplit : e = e.take from_ ++ (e.drop from_).take n ++ (e.drop from_).drop n := by
    rw [List.append_assoc, List.take_append_drop, List.take_append_drop]
  have hout : ∀ i, i < l.length → ¬ (from_ ≤ i ∧ i < from_ + n) → e.getD i false = false := by
    intro i hi hni
    rw [hei i hi]
    have : l.getD i false = m.getD i false := by
      rcases Classical.em (l.getD i false = m.getD i false) with h | h
      · exact h
      · exact absurd (hw i hi h) hni
    rw [this]; simp
  have ha : ∀ b ∈ e.take from_, b = false := by
    intro b hb
    obtain ⟨i, hi, eb⟩ := List.getElem_of_mem hb
    have hi2 : i < from_ ∧ i < e.length := by simp at hi; omega
    have := hout i (by omega) (by omega)
    simp [List.getD, hi2.2] at this
    rw [← eb]; simpa using this
  have hz : ∀ b ∈ (e.drop from_).drop n, b = false := by
    intro b hb
    obtain ⟨i, hi, eb⟩ := List.getElem_of_mem hb
    have hi2 : from_ + n + i < e.length := by simp at hi; omega
    have := hout (from_ + n + i) (by omega) (by omega)
    simp [List.getD, hi2] at this
    rw [← eb]
    simp
    exact this
  rw [hsplit] at hx
  have hww := fb_burst p hp _ _ _ ha hz (by simp; omega) hx
  have hall : ∀ b ∈ e, b = false := by
    intro b hb
    rw [hsplit, List.mem_append, List.mem_append] at hb
    rcases hb with (hb | hb) | hb
    · exact ha b hb
    · exact hww b hb
    · exact hz b hb
  apply List.ext_getElem hl
  intro i h1 h2
  have h3 := hei i h1
  have h4 : e.getD i false = false := by
    have hi : i < e.length := by omega
    simp [List.getD, hi]
    exact hall _ (List.getElem_mem hi)
  rw [h4, List.getD_eq_getElem?_getD, List.getD_eq_getElem?_getD, List.getElem?_eq_getElem h1, List.getElem?_eq_getElem h2, Option.getD_some, Option.getD_some] at h3
  exact xor_false_eq h3.symm

/-! ### Byte by byte -/

/-- A byte's bits, the lowest first. -/
def bits8 (x : UInt8) : List Bool := (List.range 8).map fun i => x.toNat.testBit i
/-- A byte is put to the lowest eight bits, then eight steps. -/
def byt (p c : BitVec n) (x : UInt8) : BitVec n := stpN p 8 (c ^^^ BitVec.ofNat n x.toNat)
/-- All bytes. -/
def fB (p c : BitVec n) (l : List UInt8) : BitVec n := l.foldl (byt p) c
def bitsOf (l : List UInt8) : List Bool := l.flatMap bits8

theorem bits8_length (x : UInt8) : (bits8 x).length = 8 := by simp [bits8]
theorem bits8_at (x : UInt8) (i : Nat) (h : i < 8) : (bits8 x)[i]? = some (x.toNat.testBit i) := by simp [bits8, h]
theorem vl_bits8 (x : UInt8) : vl n (bits8 x) = BitVec.ofNat n x.toNat := by
  apply BitVec.eq_of_getLsbD_eq
  intro i hi
  rw [vl_bit _ _ hi, BitVec.getLsbD_ofNat, List.getD_eq_getElem?_getD]
  by_cases h8 : i < 8
  · rw [bits8_at x i h8]; simp [hi]
  · rw [List.getElem?_eq_none (by rw [bits8_length]; omega)]
    have hlt : x.toNat < 2 ^ i := Nat.lt_of_lt_of_le x.toNat_lt (Nat.pow_le_pow_right (by decide) (by omega))
    simp [Nat.testBit_lt_two_pow hlt]
theorem byt_fb (p c : BitVec n) (x : UInt8) (h : 8 ≤ n) : byt p c x = fb p c (bits8 x) := by
  rw [fb_vl p _ _ (by rw [bits8_length]; exact h), bits8_length, vl_bits8 x]; rfl
theorem fB_fb (p : BitVec n) (h : 8 ≤ n) : ∀ (l : List UInt8) (c : BitVec n), fB p c l = fb p c (bitsOf l)
  | [], _ => rfl
  | x :: l, c => by
    have e : fB p c (x :: l) = fB p (byt p c x) l := rfl
    rw [e, fB_fb p h l, byt_fb p c x h, show bitsOf (x :: l) = bits8 x ++ bitsOf l from rfl, fb_append]
theorem bitsOf_length (l : List UInt8) : (bitsOf l).length = 8 * l.length := by
  induction l with
  | nil => rfl
  | cons x l ih => rw [bitsOf, List.flatMap_cons, List.length_append, bits8_length, ← bitsOf, ih, List.length_cons]; omega
theorem bitsOf_at : ∀ (l : List UInt8) (i : Nat), (bitsOf l).getD i false = (l.getD (i / 8) 0).toNat.testBit (i % 8)
  | [], i => by simp [bitsOf]
  | x :: l, i => by
    rw [bitsOf, List.flatMap_cons, List.getD_eq_getElem?_getD]
    by_cases h : i < 8
    · rw [List.getElem?_append_left (by rw [bits8_length]; exact h), bits8_at x i h, Nat.div_eq_of_lt h, Nat.mod_eq_of_lt h]; rfl
    · rw [List.getElem?_append_right (by rw [bits8_length]; omega), bits8_length]
      have ih := bitsOf_at l (i - 8)
      rw [List.getD_eq_getElem?_getD] at ih
      rw [show l.flatMap bits8 = bitsOf l from rfl, ih, show (i - 8) % 8 = i % 8 by omega, show i / 8 = (i - 8) / 8 + 1 by omega]
      simp [List.getD]
theorem byte_ext {x y : UInt8} (h : ∀ i, i < 8 → x.toNat.testBit i = y.toNat.testBit i) : x = y := by
  apply UInt8.toNat_inj.1
  apply Nat.eq_of_testBit_eq
  intro i
  by_cases h8 : i < 8
  · exact h i h8
  · have hx : x.toNat < 2 ^ i := Nat.lt_of_lt_of_le x.toNat_lt (Nat.pow_le_pow_right (by decide) (by omega))
    have hy : y.toNat < 2 ^ i := Nat.lt_of_lt_of_le y.toNat_lt (Nat.pow_le_pow_right (by decide) (by omega))
    rw [Nat.testBit_lt_two_pow hx, Nat.testBit_lt_two_pow hy]
theorem bitsOf_inj {l m : List UInt8} (hl : l.length = m.length) (h : bitsOf l = bitsOf m) : l = m := by
  apply List.ext_getElem hl
  intro i h1 h2
  apply byte_ext
  intro j hj
  have e1 := bitsOf_at l (8 * i + j)
  have e2 := bitsOf_at m (8 * i + j)
  rw [h, e2] at e1
  rw [show (8 * i + j) / 8 = i by omega, show (8 * i + j) % 8 = j by omega] at e1
  rw [List.getD_eq_getElem?_getD, List.getD_eq_getElem?_getD, List.getElem?_eq_getElem h1, List.getElem?_eq_getElem h2] at e1
  exact e1.symm

/-- BURSTS ARE TOLD: of two rows of bytes, as long, that differ in a window of n bits alone, the sums are the same only if they are the same. -/
theorem fB_tells (p : BitVec n) (hn : 8 ≤ n) (hp : p.msb = true) (c : BitVec n) (l m : List UInt8) (hl : l.length = m.length) (from_ : Nat)
    (hw : ∀ i, i < 8 * l.length → (l.getD (i / 8) 0).toNat.testBit (i % 8) ≠ (m.getD (i / 8) 0).toNat.testBit (i % 8) → from_ ≤ i ∧ i < from_ + n)
    (h : fB p c l = fB p c m) : l = m := by
  rw [fB_fb p hn, fB_fb p hn] at h
  refine bitsOf_inj hl (fb_tells p hp c _ _ (by rw [bitsOf_length, bitsOf_length, hl]) from_ (fun i hi hne => ?_) h)
  rw [bitsOf_length] at hi
  rw [bitsOf_at, bitsOf_at] at hne
  exact hw i hi hne

theorem byt_xor (p a b : BitVec n) (x y : UInt8) : byt p (a ^^^ b) (x ^^^ y) = byt p a x ^^^ byt p b y := by
  unfold byt
  have e : BitVec.ofNat n (x ^^^ y).toNat = BitVec.ofNat n x.toNat ^^^ BitVec.ofNat n y.toNat := by
    apply BitVec.eq_of_getLsbD_eq
    intro i hi
    simp [hi]
  rw [e, show a ^^^ b ^^^ (BitVec.ofNat n x.toNat ^^^ BitVec.ofNat n y.toNat) = (a ^^^ BitVec.ofNat n x.toNat) ^^^ (b ^^^ BitVec.ofNat n y.toNat) by ac_rfl, stpN_xor]
/-- SUMS ARE LINEAR. -/
theorem fB_xor (p : BitVec n) : ∀ (l m : List UInt8) (a b : BitVec n), l.length = m.length → fB p (a ^^^ b) (List.zipWith (· ^^^ ·) l m) = fB p a l ^^^ fB p b m
  | [], [], _, _, _ => rfl
  | [], _ :: _, _, _, h => by simp at h
  | _ :: _, [], _, _, h => by simp at h
  | x :: l, y :: m, a, b, h => by
    have e1 : fB p (a ^^^ b) (List.zipWith (· ^^^ ·) (x :: l) (y :: m)) = fB p (byt p (a ^^^ b) (x ^^^ y)) (List.zipWith (· ^^^ ·) l m) := rfl
    rw [e1, byt_xor, fB_xor p l m _ _ (by simpa using h)]
    rfl
theorem fB_append (p c : BitVec n) (l m : List UInt8) : fB p c (l ++ m) = fB p (fB p c l) m := by simp [fB, List.foldl_append]
theorem fB_snoc (p c : BitVec n) (l : List UInt8) (x : UInt8) : fB p c (l ++ [x]) = byt p (fB p c l) x := by rw [fB_append]; rfl

/-- Bytes whose bits are those of v go in at once. -/
theorem fB_once (p c v : BitVec n) (m : List UInt8) (hn : 8 ≤ n) (hm : 8 * m.length = n) (hv : ∀ i, i < n → v.getLsbD i = (m.getD (i / 8) 0).toNat.testBit (i % 8)) : fB p c m = stpN p n (c ^^^ v) := by
  rw [fB_fb p hn, fb_vl p _ _ (by rw [bitsOf_length]; omega), bitsOf_length, hm]
  congr 2
  apply BitVec.eq_of_getLsbD_eq
  intro i hi
  rw [vl_bit _ _ hi, bitsOf_at, hv i hi]
end

/-! ### The two sums of layer 2 -/
def p16 : BitVec 16 := 0x8408#16
def p32 : BitVec 32 := 0x82f63b78#32
def s16 (l : List UInt8) : BitVec 16 := ~~~ fB p16 0xffff#16 l
def s32 (l : List UInt8) : BitVec 32 := ~~~ fB p32 0xffffffff#32 l

theorem le16 (v : BitVec 16) (i : Nat) (hi : i < 16) : v.getLsbD i = (([UInt8.ofNat v.toNat, UInt8.ofNat (v.toNat / 256)] : List UInt8).getD (i / 8) 0).toNat.testBit (i % 8) := by
  have e : v.getLsbD i = v.toNat.testBit i := rfl
  rw [e]
  by_cases h : i < 8
  · rw [Nat.div_eq_of_lt h, Nat.mod_eq_of_lt h]
    show _ = (UInt8.ofNat v.toNat).toNat.testBit i
    rw [UInt8.toNat_ofNat', Nat.testBit_mod_two_pow]
    simp [h]
  · rw [show i / 8 = 1 by omega]
    show _ = (UInt8.ofNat (v.toNat / 256)).toNat.testBit (i % 8)
    rw [UInt8.toNat_ofNat', Nat.testBit_mod_two_pow, show (256 : Nat) = 2 ^ 8 from rfl, Nat.testBit_div_two_pow, show i % 8 + 8 = i by omega]
    simp
    omega
theorem le32 (v : BitVec 32) (i : Nat) (hi : i < 32) : v.getLsbD i = (([UInt8.ofNat v.toNat, UInt8.ofNat (v.toNat / 256), UInt8.ofNat (v.toNat / 65536), UInt8.ofNat (v.toNat / 16777216)] : List UInt8).getD (i / 8) 0).toNat.testBit (i % 8) := by
  have e : v.getLsbD i = v.toNat.testBit i := rfl
  rw [e]
  have hm : i % 8 < 8 := Nat.mod_lt _ (by decide)
  rcases (by omega : i / 8 = 0 ∨ i / 8 = 1 ∨ i / 8 = 2 ∨ i / 8 = 3) with h | h | h | h <;> rw [h]
  · show _ = (UInt8.ofNat v.toNat).toNat.testBit (i % 8)
    rw [UInt8.toNat_ofNat', Nat.testBit_mod_two_pow, show i % 8 = i by omega]
    simp; omega
  · show _ = (UInt8.ofNat (v.toNat / 256)).toNat.testBit (i % 8)
    rw [UInt8.toNat_ofNat', Nat.testBit_mod_two_pow, show (256 : Nat) = 2 ^ 8 from rfl, Nat.testBit_div_two_pow, show i % 8 + 8 = i by omega]
    simp; omega
  · show _ = (UInt8.ofNat (v.toNat / 65536)).toNat.testBit (i % 8)
    rw [UInt8.toNat_ofNat', Nat.testBit_mod_two_pow, show (65536 : Nat) = 2 ^ 16 from rfl, Nat.testBit_div_two_pow, show i % 8 + 16 = i by omega]
    simp; omega
  · show _ = (UInt8.ofNat (v.toNat / 16777216)).toNat.testBit (i % 8)
    rw [UInt8.toNat_ofNat', Nat.testBit_mod_two_pow, show (16777216 : Nat) = 2 ^ 24 from rfl, Nat.testBit_div_two_pow, show i % 8 + 24 = i by omega]
    simp; omega

theorem xor_not {n : Nat} (v : BitVec n) : v ^^^ ~~~ v = BitVec.allOnes n := by
  apply BitVec.eq_of_getLsbD_eq
  intro i hi
  simp [hi]
/-- Bytes with their own sum behind them, the lowest byte first, have one and the same sum. -/
theorem s16_goes (l : List UInt8) : s16 (l ++ [UInt8.ofNat (s16 l).toNat, UInt8.ofNat ((s16 l).toNat / 256)]) = 0x0f47#16 := by
  generalize hs : s16 l = v
  show ~~~ fB p16 0xffff#16 (l ++ _) = _
  rw [fB_append, fB_once p16 _ v _ (by decide) rfl (le16 v), ← hs]
  unfold s16
  rw [xor_not]
  decide +kernel
theorem s32_goes (l : List UInt8) : s32 (l ++ [UInt8.ofNat (s32 l).toNat, UInt8.ofNat ((s32 l).toNat / 256), UInt8.ofNat ((s32 l).toNat / 65536), UInt8.ofNat ((s32 l).toNat / 16777216)]) = 0x48674bc7#32 := by
  generalize hs : s32 l = v
  show ~~~ fB p32 0xffffffff#32 (l ++ _) = _
  rw [fB_append, fB_once p32 _ v _ (by decide) rfl (le32 v), ← hs]
  unfold s32
  rw [xor_not]
  decide +kernel
end Go.Proofs.YtanbjifdcplmnaaGreatDoor
/- What the reference of layer 2 returns: Short and Long as 's16' and 's32' of the bytes; Bytes. -/
namespace Go.Proofs.YtanbjifdcplmnaaGreatDoor
open Go.RowKit

theorem stpN_succ {n : Nat} (p : BitVec n) : ∀ (k : Nat) (c : BitVec n), stpN p (k + 1) c = stp p (stpN p k c)
  | 0, _ => rfl
  | k + 1, c => by rw [stpN, stpN_succ p k, ← stpN]

/-- A step, as numbers: no one goes out. -/
theorem stp_even {n : Nat} (p c : BitVec n) (h : c.toNat % 2 = 0) : (stp p c).toNat = c.toNat / 2 := by
  have e : c.getLsbD 0 = false := by simp [BitVec.getLsbD, Nat.testBit_zero, h]
  unfold stp
  rw [if_neg (by rw [e]; simp), BitVec.toNat_ushiftRight, Nat.shiftRight_eq_div_pow]
theorem stp_odd {n : Nat} (p c : BitVec n) (h : c.toNat % 2 = 1) : (stp p c).toNat = c.toNat / 2 ^^^ p.toNat := by
  have e : c.getLsbD 0 = true := by simp [BitVec.getLsbD, Nat.testBit_zero, h]
  unfold stp
  rw [if_pos e, BitVec.toNat_xor, BitVec.toNat_ushiftRight, Nat.shiftRight_eq_div_pow]
theorem fB_take (l : List UInt8) (n : Nat) (p c : BitVec n) (k : Nat) (h : k < l.length) : fB p c (l.take (k + 1)) = stpN p 8 (fB p c (l.take k) ^^^ BitVec.ofNat n (l.getD k 0).toNat) := by
  rw [take_more l k h, fB_snoc]; rfl

theorem byte16 (d : BitVec 16) (x : UInt8) : Value.int .u16 (bits BinOp.xor .u16 (d.toNat : Int) (x.toNat : Int)) = .int .u16 ((d ^^^ BitVec.ofNat 16 x.toNat).toNat : Int) := by
  have h1 := d.isLt
  have h2 := x.toNat_lt
  rw [u16_xor_nat _ _ h1 (by omega), BitVec.toNat_xor, BitVec.toNat_ofNat, Nat.mod_eq_of_lt (by omega)]
theorem byte32 (d : BitVec 32) (x : UInt8) : Value.int .u32 (bits BinOp.xor .u32 (d.toNat : Int) (x.toNat : Int)) = .int .u32 ((d ^^^ BitVec.ofNat 32 x.toNat).toNat : Int) := by
  have h1 := d.isLt
  have h2 := x.toNat_lt
  rw [u32_xor_nat _ _ h1 (by omega), BitVec.toNat_xor, BitVec.toNat_ofNat, Nat.mod_eq_of_lt (by omega)]
theorem step16 (f : BitVec 16) (h : f.toNat % 2 = 1) : Value.int .u16 (bits BinOp.xor .u16 ((f.toNat : Int) / 2) 33800) = .int .u16 ((stp p16 f).toNat : Int) := by
  have h1 := f.isLt
  have e := u16_xor_nat (f.toNat / 2) 33800 (by omega) (by decide)
  rw [stp_odd _ _ h, show p16.toNat = 33800 from rfl, ← e]
  rfl
theorem step32 (f : BitVec 32) (h : f.toNat % 2 = 1) : Value.int .u32 (bits BinOp.xor .u32 ((f.toNat : Int) / 2) 2197175160) = .int .u32 ((stp p32 f).toNat : Int) := by
  have h1 := f.isLt
  have e := u32_xor_nat (f.toNat / 2) 2197175160 (by omega) (by decide)
  rw [stp_odd _ _ h, show p32.toNat = 2197175160 from rfl, ← e]
  rfl
theorem not16 (d : BitVec 16) : Ending.returned (.int .u16 (65535 - (d.toNat : Int))) = .returned (.int .u16 ((~~~ d).toNat : Int)) := by
  have h := d.isLt
  rw [BitVec.toNat_not]
  exact ret_int (by omega)
theorem not32 (d : BitVec 32) : Ending.returned (.int .u32 (4294967295 - (d.toNat : Int))) = .returned (.int .u32 ((~~~ d).toNat : Int)) := by
  have h := d.isLt
  rw [BitVec.toNat_not]
  exact ret_int (by omega)

set_option maxRecDepth 100000 in
set_option maxHeartbeats 1000000 in
theorem rshort_any (A : Option Addr) (n c B : Nat) (l : List UInt8) (w : World) (h : Rd w B A n l) (hn : n ≤ 140737488355328) :
    Calls Tryz.prog 99 #[.slice A n c] w fun e w' => e = .returned (.int .u16 ((s16 l).toNat : Int)) ∧ w = w' := by
  have HR := Lib.hid h
  clear h
  go_enter Tryz.func99, Tryz.ntmps99
  go_wp2
  go_loop [3, 4] (fun v i => ∃ (k : Nat) (d : BitVec 16), k ≤ n ∧ i = .int .i64 k ∧ v = .int .u16 (d.toNat : Int) ∧ Hid (d = fB p16 0xffff#16 (l.take k))) (fun _ i => n - (intOf i).toNat)
  case atStart => exact ⟨0, 0xffff#16, Nat.zero_le _, rfl, rfl, rfl⟩
  case round =>
    obtain ⟨k, d, hk, rfl, rfl, hd⟩ := hrel
    by_cases hlt : k < n
    · obtain ⟨b, o, rfl, hb, hcell⟩ := HR.out.2 (by omega)
      obtain ⟨x, hx⟩ : ∃ x, x = l.getD k 0 := ⟨_, rfl⟩
      have hcx : w.cell? ⟨b, o + k, none⟩ = some (.int .u8 (x.toNat : Int)) := by rw [hx]; exact hcell k hlt
      have Hx := Lib.hid hx
      clear hx hcell
      have hx1 : (x.toNat : Int) < 256 := by have := x.toNat_lt; omega
      have hx0 : (0 : Int) ≤ (x.toNat : Int) := by omega
      have hd1 : (d.toNat : Int) < 65536 := by have := d.isLt; omega
      go_wp2_with fail
      clear hx0 hx1 hd1
      go_loop [3, 5] (fun v i => ∃ (j : Nat) (f : BitVec 16), j ≤ 8 ∧ i = .int .i64 j ∧ v = .int .u16 (f.toNat : Int) ∧ Hid (f = stpN p16 j (d ^^^ BitVec.ofNat 16 x.toNat))) (fun _ i => 8 - (intOf i).toNat)
      case atStart => exact ⟨0, d ^^^ BitVec.ofNat 16 x.toNat, by omega, rfl, byte16 d x, rfl⟩
      case round =>
        obtain ⟨j, f, hj, rfl, rfl, hf⟩ := hrel
        by_cases hj8 : j < 8
        · obtain ⟨F, hF⟩ : ∃ F, F = f.toNat := ⟨_, rfl⟩
          have hf1 : F < 65536 := by have := f.isLt; omega
          rw [← hF]
          have HF := Lib.hid hF
          clear hF
          rcases Nat.mod_two_eq_zero_or_one F with he | he
          · have ht : ((F : Int) % 2 == 1) = false := by simp; omega
            have HE := Lib.hid he
            clear he
            go_wp2_with fail
            go_round
            case rel => exact ⟨j + 1, stp p16 f, by omega, by go_num, by rw [stp_even _ _ (by rw [← HF.out]; exact HE.out), ← HF.out]; rfl, by show _ = _; rw [stpN_succ, ← hf.out]⟩
            case measure => simp [intOf]; omega
          · have ht : ((F : Int) % 2 == 1) = true := by simp; omega
            have HE := Lib.hid he
            clear he
            go_wp2_with fail
            go_round
            case rel => exact ⟨j + 1, stp p16 f, by omega, by go_num, by rw [HF.out]; exact step16 f (by rw [← HF.out]; exact HE.out), by show _ = _; rw [stpN_succ, ← hf.out]⟩
            case measure => simp [intOf]; omega
        · obtain rfl : j = 8 := by omega
          go_wp2_with fail
          go_round
          case rel =>
            refine ⟨k + 1, f, by omega, by go_num, rfl, ?_⟩
            show f = _
            rw [fB_take l 16 _ _ k (by have := HR.out.1; omega), ← hd.out, ← Hx.out]
            exact hf.out
          case measure => simp [intOf]; omega
    · obtain rfl : k = n := by omega
      have hl := HR.out.1
      have hfin : s16 l = ~~~ d := by rw [hd.out, List.take_of_length_le (by omega)]; rfl
      have HF := Lib.hid hfin
      have hd1 : (d.toNat : Int) < 65536 := by have := d.isLt; omega
      clear hfin hl
      go_wp2_with fail
      go_ret
      exact ⟨by rw [HF.out]; exact not16 d, rfl⟩
set_option maxRecDepth 100000 in
set_option maxHeartbeats 1000000 in
theorem rlong_any (A : Option Addr) (n c B : Nat) (l : List UInt8) (w : World) (h : Rd w B A n l) (hn : n ≤ 140737488355328) :
    Calls Tryz.prog 100 #[.slice A n c] w fun e w' => e = .returned (.int .u32 ((s32 l).toNat : Int)) ∧ w = w' := by
  have HR := Lib.hid h
  clear h
  go_enter Tryz.func100, Tryz.ntmps100
  go_wp2
  go_loop [3, 4] (fun v i => ∃ (k : Nat) (d : BitVec 32), k ≤ n ∧ i = .int .i64 k ∧ v = .int .u32 (d.toNat : Int) ∧ Hid (d = fB p32 0xffffffff#32 (l.take k))) (fun _ i => n - (intOf i).toNat)
  case atStart => exact ⟨0, 0xffffffff#32, Nat.zero_le _, rfl, rfl, rfl⟩
  case round =>
    obtain ⟨k, d, hk, rfl, rfl, hd⟩ := hrel
    by_cases hlt : k < n
    · obtain ⟨b, o, rfl, hb, hcell⟩ := HR.out.2 (by omega)
      obtain ⟨x, hx⟩ : ∃ x, x = l.getD k 0 := ⟨_, rfl⟩
      have hcx : w.cell? ⟨b, o + k, none⟩ = some (.int .u8 (x.toNat : Int)) := by rw [hx]; exact hcell k hlt
      have Hx := Lib.hid hx
      clear hx hcell
      have hx1 : (x.toNat : Int) < 256 := by have := x.toNat_lt; omega
      have hx0 : (0 : Int) ≤ (x.toNat : Int) := by omega
      have hd1 : (d.toNat : Int) < 4294967296 := by have := d.isLt; omega
      go_wp2_with fail
      clear hx0 hx1 hd1
      go_loop [3, 5] (fun v i => ∃ (j : Nat) (f : BitVec 32), j ≤ 8 ∧ i = .int .i64 j ∧ v = .int .u32 (f.toNat : Int) ∧ Hid (f = stpN p32 j (d ^^^ BitVec.ofNat 32 x.toNat))) (fun _ i => 8 - (intOf i).toNat)
      case atStart => exact ⟨0, d ^^^ BitVec.ofNat 32 x.toNat, by omega, rfl, byte32 d x, rfl⟩
      case round =>
        obtain ⟨j, f, hj, rfl, rfl, hf⟩ := hrel
        by_cases hj8 : j < 8
        · obtain ⟨F, hF⟩ : ∃ F, F = f.toNat := ⟨_, rfl⟩
          have hf1 : F < 4294967296 := by have := f.isLt; omega
          rw [← hF]
          have HF := Lib.hid hF
          clear hF
          rcases Nat.mod_two_eq_zero_or_one F with he | he
          · have ht : ((F : Int) % 2 == 1) = false := by simp; omega
            have HE := Lib.hid he
            clear he
            go_wp2_with fail
            go_round
            case rel => exact ⟨j + 1, stp p32 f, by omega, by go_num, by rw [stp_even _ _ (by rw [← HF.out]; exact HE.out), ← HF.out]; rfl, by show _ = _; rw [stpN_succ, ← hf.out]⟩
            case measure => simp [intOf]; omega
          · have ht : ((F : Int) % 2 == 1) = true := by simp; omega
            have HE := Lib.hid he
            clear he
            go_wp2_with fail
            go_round
            case rel => exact ⟨j + 1, stp p32 f, by omega, by go_num, by rw [HF.out]; exact step32 f (by rw [← HF.out]; exact HE.out), by show _ = _; rw [stpN_succ, ← hf.out]⟩
            case measure => simp [intOf]; omega
        · obtain rfl : j = 8 := by omega
          go_wp2_with fail
          go_round
          case rel =>
            refine ⟨k + 1, f, by omega, by go_num, rfl, ?_⟩
            show f = _
            rw [fB_take l 32 _ _ k (by have := HR.out.1; omega), ← hd.out, ← Hx.out]
            exact hf.out
          case measure => simp [intOf]; omega
    · obtain rfl : k = n := by omega
      have hl := HR.out.1
      have hfin : s32 l = ~~~ d := by rw [hd.out, List.take_of_length_le (by omega)]; rfl
      have HF := Lib.hid hfin
      have hd1 : (d.toNat : Int) < 4294967296 := by have := d.isLt; omega
      clear hfin hl
      go_wp2_with fail
      go_ret
      exact ⟨by rw [HF.out]; exact not32 d, rfl⟩

/-- A sum's bytes. -/
def crcBytes (kind : Int) (l : List UInt8) : List UInt8 := if kind = 1 then be (s16 l).toNat 2 else if kind = 2 then be (s32 l).toNat 4 else []

theorem be2 (v : Nat) : be v 2 = [UInt8.ofNat (v / 256), UInt8.ofNat v] := by simp [be, List.range_succ]
theorem be4 (v : Nat) : be v 4 = [UInt8.ofNat (v / 16777216), UInt8.ofNat (v / 65536), UInt8.ofNat (v / 256), UInt8.ofNat v] := by simp [be, List.range_succ]
/-- A byte of a number as the walk has it. -/
theorem low8 (v : Nat) : Value.int .u8 (v % 256 : Int) = .int .u8 ((UInt8.ofNat v).toNat : Int) := by rw [UInt8.toNat_ofNat']; rfl
theorem low8_of (v : Nat) (h : v < 256) : Value.int .u8 (v : Int) = .int .u8 ((UInt8.ofNat v).toNat : Int) := by rw [UInt8.toNat_ofNat', Nat.mod_eq_of_lt h]

theorem gives_nil (w : World) : Gives [] w (.returned (.slice none 0 0)) w := ⟨none, 0, 0, rfl, Rd.nil_, Nat.le_refl _, Below.refl _ _⟩
theorem gives_lit (w : World) (t : TypeId) (l : List UInt8) (cs : Array Value) (n : Nat) (hn : l.length = n) (hcs : cs = (l.map fun x => Value.int .u8 (x.toNat : Int)).toArray) :
    Gives l w (.returned (.slice (some ⟨w.heap.size, 0, none⟩) n n)) (w.alloc (.cells cs t)) :=
  ⟨_, n, n, rfl, (Rd.lit w _ rfl l t cs hcs n hn).more (by simp), Nat.le_refl _, (Below.refl _ _).alloc (Nat.le_refl _) _⟩

theorem cs2 (v : Nat) (h : v < 65536) : #[Value.int .u8 ((v : Int) / 256), .int .u8 ((v : Int) % 256)] = (([UInt8.ofNat (v / 256), UInt8.ofNat v] : List UInt8).map fun x => Value.int .u8 (x.toNat : Int)).toArray := by
  rw [low8 v, show (v : Int) / 256 = ((v / 256 : Nat) : Int) from rfl, low8_of (v / 256) (by omega)]
  rfl
theorem cs4 (v : Nat) (h : v < 4294967296) : #[Value.int .u8 ((v : Int) / 16777216), .int .u8 ((v : Int) / 65536 % 256), .int .u8 ((v : Int) / 256 % 256), .int .u8 ((v : Int) % 256)] =
    (([UInt8.ofNat (v / 16777216), UInt8.ofNat (v / 65536), UInt8.ofNat (v / 256), UInt8.ofNat v] : List UInt8).map fun x => Value.int .u8 (x.toNat : Int)).toArray := by
  rw [low8 v, show (v : Int) / 256 = ((v / 256 : Nat) : Int) from rfl, show (v : Int) / 65536 = ((v / 65536 : Nat) : Int) from rfl, show (v : Int) / 16777216 = ((v / 16777216 : Nat) : Int) from rfl,
    low8 (v / 256), low8 (v / 65536), low8_of (v / 16777216) (by omega)]
  rfl

set_option maxRecDepth 100000 in
set_option maxHeartbeats 1000000 in
theorem crbytes_any (kind : Int) (A : Option Addr) (n c B : Nat) (l : List UInt8) (w : World) (h : Rd w B A n l) (hn : n ≤ 140737488355328) :
    Calls Tryz.prog 73 #[.int .i64 kind, .slice A n c] w (Gives (crcBytes kind l) w) := by
  have c1 := rshort_any A n c B l w h hn
  have c2 := rlong_any A n c B l w h hn
  have v1 := (s16 l).isLt
  have v2 := (s32 l).isLt
  clear h
  by_cases h1 : kind = 1
  · subst h1
    rw [show crcBytes 1 l = be (s16 l).toNat 2 from rfl, be2]
    generalize (s16 l).toNat = v at *
    have C1 := Lib.hid c1
    clear c1 c2
    go_enter Tryz.func73, Tryz.ntmps73
    go_wp2_with fail
    refine C1.out.mono ?_
    rintro e w' ⟨rfl, rfl⟩
    go_wp2_with fail
    go_ret
    exact gives_lit w _ _ _ 2 rfl (cs2 v v1)
  · by_cases h2 : kind = 2
    · subst h2
      rw [show crcBytes 2 l = be (s32 l).toNat 4 from rfl, be4]
      generalize (s32 l).toNat = v at *
      have C2 := Lib.hid c2
      clear c1 c2
      go_enter Tryz.func73, Tryz.ntmps73
      go_wp2_with fail
      refine C2.out.mono ?_
      rintro e w' ⟨rfl, rfl⟩
      go_wp2_with fail
      go_ret
      exact gives_lit w _ _ _ 4 rfl (cs4 v v2)
    · rw [show crcBytes kind l = [] by unfold crcBytes; rw [if_neg h1, if_neg h2]]
      have e1 : (kind == 1) = false := by simpa using h1
      have e2 : (kind == 2) = false := by simpa using h2
      clear h1 h2 c1 c2
      go_enter Tryz.func73, Tryz.ntmps73
      go_wp2_with fail
      go_ret
      exact gives_nil w
end Go.Proofs.YtanbjifdcplmnaaGreatDoor
/- The plain mathematics of layer 5: blocks, the bytes that they are, how bytes are read as one. No program's number stands here but the sums' (CrcR). -/
namespace Go.Proofs.YtanbjifdcplmnaaGreatDoor

/-- A block: type, number, flags, kind of sum, data. -/
structure Blk where
  typ : Nat
  num : Nat
  flg : Nat
  crc : Int
  dat : List UInt8
def Blk.zero : Blk := ⟨0, 0, 0, 0, []⟩
/-- May it be? -/
def blkOk (b : Blk) : Bool := decide (1 ≤ b.typ ∧ b.typ ≤ 255) && (decide (b.num ≠ 0) && ((decide (b.typ ≠ 1) || decide (b.num = 1)) && (decide (0 ≤ b.crc ∧ b.crc ≤ 2) && decide (b.dat.length ≤ 4096))))
theorem blkOk_iff {b : Blk} : blkOk b = true ↔ (1 ≤ b.typ ∧ b.typ ≤ 255) ∧ b.num ≠ 0 ∧ (b.typ ≠ 1 ∨ b.num = 1) ∧ (0 ≤ b.crc ∧ b.crc ≤ 2) ∧ b.dat.length ≤ 4096 := by
  unfold blkOk; simp [Bool.and_eq_true, Bool.or_eq_true]
/-- Its numbers are below 2^64. -/
def Bd (b : Blk) : Prop := b.typ < 18446744073709551616 ∧ b.num < 18446744073709551616 ∧ b.flg < 18446744073709551616
/-- How many bytes a sum has. -/
def sumN (k : Int) : Nat := if k = 1 then 2 else if k = 2 then 4 else 0
theorem sumN_le (k : Int) : sumN k ≤ 4 := by unfold sumN; repeat' (split <;> try omega)
theorem crcBytes_len (k : Int) (l : List UInt8) : (crcBytes k l).length = sumN k := by
  unfold crcBytes sumN
  split
  · rw [be_length]
  · split
    · rw [be_length]
    · rfl
def partsB (b : Blk) : List Itm := [.mk 0 b.typ [] [], .mk 0 b.num [] [], .mk 0 b.flg [] [], .mk 0 b.crc.toNat [] [], .mk 2 0 b.dat []]
/-- Its item, with a sum's bytes. -/
def itmB (b : Blk) (s : List UInt8) : Itm := .mk 4 0 [] (partsB b ++ if b.crc = 0 then [] else [.mk 2 0 s []])
/-- All its bytes but the sum's. -/
def bodyB (b : Blk) : List UInt8 := hd 4 (if b.crc = 0 then 5 else 6) ++ (wrs (partsB b) ++ if b.crc = 0 then [] else hd 2 (sumN b.crc))
def nulls (b : Blk) : List UInt8 := List.replicate (sumN b.crc) 0
theorem nulls_len (b : Blk) : (nulls b).length = sumN b.crc := by simp [nulls]
def sumB (b : Blk) : List UInt8 := crcBytes b.crc (bodyB b ++ nulls b)
/-- Its bytes. -/
def blkW (b : Blk) : List UInt8 := bodyB b ++ sumB b
theorem sumB_len (b : Blk) : (sumB b).length = sumN b.crc := crcBytes_len _ _
theorem wrs_ap : ∀ a b : List Itm, wrs (a ++ b) = wrs a ++ wrs b
  | [], b => rfl
  | x :: r, b => by rw [List.cons_append, wrs, wrs, wrs_ap r b, List.append_assoc]
theorem wri_u (n : Nat) : wri (.mk 0 n [] []) = hd 0 n := by rw [wri, if_pos rfl]
theorem wri_b (d : List UInt8) : wri (.mk 2 0 d []) = hd 2 d.length ++ d := by rw [wri, if_neg (by decide), if_pos (by decide)]; rfl
theorem wri_itm (b : Blk) (s : List UInt8) (hs : s.length = sumN b.crc) (_hc : 0 ≤ b.crc ∧ b.crc ≤ 2) : wri (itmB b s) = bodyB b ++ s := by
  unfold itmB
  rw [wri, if_neg (by decide), if_neg (by decide), if_pos rfl]
  unfold bodyB
  by_cases h0 : b.crc = 0
  · have : s = [] := List.eq_nil_of_length_eq_zero (by rw [hs, h0]; rfl)
    subst this
    simp only [if_pos h0, List.append_nil]
    rw [show (partsB b).length = 5 from rfl]
  · simp only [if_neg h0]
    rw [wrs_ap, show (partsB b ++ [Itm.mk 2 0 s []]).length = 6 from rfl, wrs, wri_b, wrs, hs]
    simp [List.append_assoc]
theorem partsB_right (b : Blk) : rights (partsB b) = true := by unfold partsB; simp [rights, right, own]
theorem itm_fits (b : Blk) (s : List UInt8) : Fits (itmB b s) := by
  unfold itmB partsB
  by_cases h0 : b.crc = 0
  · simp only [if_pos h0]
    exact ⟨by simp [right, rights, own], by simp [dep, deps], by simp [par, pars]⟩
  · simp only [if_neg h0]
    exact ⟨by simp [right, rights, own], by simp [dep, deps], by simp [par, pars]⟩
theorem itm_siz (b : Blk) (s : List UInt8) (hb : Bd b) (hc : b.crc ≤ 2) (hd : b.dat.length < 18446744073709551616) (hs : s.length < 18446744073709551616) : Siz (itmB b s) := by
  unfold itmB partsB
  have h3 : b.crc.toNat < 18446744073709551616 := by omega
  obtain ⟨h1, h2, h4⟩ := hb
  by_cases h0 : b.crc = 0
  · simp only [if_pos h0]
    refine ⟨by decide, by simp, by simp, ⟨h1, by simp, by simp, trivial⟩, ⟨h2, by simp, by simp, trivial⟩, ⟨h4, by simp, by simp, trivial⟩, ⟨h3, by simp, by simp, trivial⟩, ⟨by decide, hd, by simp, trivial⟩, trivial⟩
  · simp only [if_neg h0]
    refine ⟨by decide, by simp, by simp, ⟨h1, by simp, by simp, trivial⟩, ⟨h2, by simp, by simp, trivial⟩, ⟨h4, by simp, by simp, trivial⟩, ⟨h3, by simp, by simp, trivial⟩, ⟨by decide, hd, by simp, trivial⟩, ⟨by decide, hs, by simp, trivial⟩, trivial⟩
theorem body_len (b : Blk) : (bodyB b).length ≤ b.dat.length + 70 := by
  unfold bodyB partsB
  simp only [wrs, wri_u, wri_b, List.length_append, hd_len, List.append_nil]
  have h1 := hsz_le (if b.crc = 0 then 5 else 6)
  have h2 := hsz_le b.typ
  have h3 := hsz_le b.num
  have h4 := hsz_le b.flg
  have h5 := hsz_le b.crc.toNat
  have h6 := hsz_le b.dat.length
  have h7 := hsz_le (sumN b.crc)
  generalize (if b.crc = 0 then 5 else 6 : Nat) = q at *
  by_cases h0 : b.crc = 0
  · rw [if_pos h0, List.length_nil]; omega
  · rw [if_neg h0, hd_len]; omega
theorem body_pos (b : Blk) : 1 ≤ (bodyB b).length := by unfold bodyB; simp only [List.length_append, hd_len]; omega

/-- The one block whose item this could be. -/
def takenB : Itm → Blk
  | .mk _ _ _ (y0 :: y1 :: y2 :: y3 :: y4 :: _) => ⟨y0.num, y1.num, y2.num, RowKit.wrap64 (y3.num : Int), y4.data⟩
  | _ => .zero
/-- How bytes and a block's bytes, s of them a sum's, differ: the fault's number. -/
def cmpB (u w : List UInt8) (s : Nat) : Int := if u.length ≠ w.length ∨ u.take (w.length - s) ≠ w.take (w.length - s) then 50 else if u.drop (w.length - s) ≠ w.drop (w.length - s) then 51 else 0
/-- What Decode answers. -/
def decB (l : List UInt8) : Blk × Int × Int :=
  if (decode l).2.2 ≠ 0 then (.zero, 0, (decode l).2.2)
  else if blkOk (takenB (decode l).1) = false then (.zero, 0, 50)
  else if cmpB (l.take (decode l).2.1.toNat) (blkW (takenB (decode l).1)) (sumN (takenB (decode l).1).crc) ≠ 0 then (.zero, 0, cmpB (l.take (decode l).2.1.toNat) (blkW (takenB (decode l).1)) (sumN (takenB (decode l).1).crc))
  else (takenB (decode l).1, (decode l).2.1, 0)

theorem wrap_small (c : Int) (h0 : 0 ≤ c) (h2 : c ≤ 2) : RowKit.wrap64 ((c.toNat : Nat) : Int) = c := by
  unfold RowKit.wrap64
  omega
theorem taken_itm (b : Blk) (s : List UInt8) (hc : 0 ≤ b.crc ∧ b.crc ≤ 2) : takenB (itmB b s) = b := by
  have h := wrap_small b.crc hc.1 hc.2
  obtain ⟨t, n, f, c, d⟩ := b
  unfold itmB partsB
  simp only [List.cons_append, takenB, Itm.num, Itm.data]
  rw [h]

/-- What is read where a block's bytes but the sum's stand, with a sum of that length. -/
theorem decB_sum (b : Blk) (s m : List UInt8) (hok : blkOk b = true) (hb : Bd b) (hs : s.length = sumN b.crc) :
    decB (bodyB b ++ s ++ m) = if s = sumB b then (b, ((blkW b).length : Int), 0) else (.zero, 0, 51) := by
  obtain ⟨h1, h2, h3, h4, h5⟩ := blkOk_iff.1 hok
  have hw := wri_itm b s hs h4
  have hs4 := sumN_le b.crc
  have hd := decode_wr (itm_fits b s) (itm_siz b s hb h4.2 (by omega) (by omega)) m
  rw [hw] at hd
  have hlen : ((bodyB b ++ s).length) = (blkW b).length := by unfold blkW; rw [List.length_append, List.length_append, hs, sumB_len]
  unfold decB
  rw [hd]
  simp only [taken_itm b s h4]
  rw [if_neg (by simp), if_neg (by rw [hok]; decide), Int.toNat_natCast, List.take_left]
  have hk : (blkW b).length - sumN b.crc = (bodyB b).length := by unfold blkW; rw [List.length_append, sumB_len]; omega
  have hcmp : cmpB (bodyB b ++ s) (blkW b) (sumN b.crc) = if s = sumB b then 0 else 51 := by
    unfold cmpB
    rw [hk]
    unfold blkW
    rw [List.take_left, List.take_left, List.drop_left, List.drop_left, if_neg (by simp [hs, sumB_len])]
    by_cases he : s = sumB b
    · rw [if_neg (by simp [he]), if_pos he]
    · rw [if_pos he, if_neg he]
  rw [hcmp, hlen]
  by_cases he : s = sumB b
  · rw [if_pos he, if_neg (by simp), if_pos he]
  · rw [if_neg he, if_pos (by simp), if_neg he]
theorem decB_blk (b : Blk) (m : List UInt8) (hok : blkOk b = true) (hb : Bd b) : decB (blkW b ++ m) = (b, ((blkW b).length : Int), 0) := by
  have := decB_sum b (sumB b) m hok hb (sumB_len b)
  rw [if_pos rfl] at this
  exact this

theorem be_inj {x y n : Nat} (hn : n ≤ 8) (hx : x < 256 ^ n) (hy : y < 256 ^ n) (h : be x n = be y n) : x = y := by
  have := congrArg beNat h
  rwa [beNat_be _ _ hn, beNat_be _ _ hn, Nat.mod_eq_of_lt hx, Nat.mod_eq_of_lt hy] at this
/-- A sum tells a byte that is another one. -/
theorem crc_tells (k : Int) (hk : k = 1 ∨ k = 2) (l : List UInt8) (i : Nat) (v : UInt8) (h : crcBytes k l = crcBytes k (l.set i v)) : l = l.set i v := by
  have hw : ∀ j, j < 8 * l.length → (l.getD (j / 8) 0).toNat.testBit (j % 8) ≠ ((l.set i v).getD (j / 8) 0).toNat.testBit (j % 8) → 8 * i ≤ j ∧ j < 8 * i + 8 := by
    intro j hj hne
    by_cases he : j / 8 = i
    · omega
    · exfalso
      apply hne
      have : (l.set i v).getD (j / 8) 0 = l.getD (j / 8) 0 := by simp [List.getD, Ne.symm he]
      rw [this]
  rcases hk with rfl | rfl
  · have h' : s16 l = s16 (l.set i v) := BitVec.eq_of_toNat_eq (be_inj (n := 2) (by decide) (by have := (s16 l).isLt; simpa using this) (by have := (s16 (l.set i v)).isLt; simpa using this) h)
    have h2 : fB p16 0xffff#16 l = fB p16 0xffff#16 (l.set i v) := by
      have := congrArg (~~~ ·) h'
      simpa [s16] using this
    exact fB_tells p16 (by decide) rfl _ l _ (by simp) (8 * i) (fun j hj hne => ⟨(hw j hj hne).1, by have := (hw j hj hne).2; omega⟩) h2
  · have h' : s32 l = s32 (l.set i v) := BitVec.eq_of_toNat_eq (be_inj (n := 4) (by decide) (by have := (s32 l).isLt; simpa using this) (by have := (s32 (l.set i v)).isLt; simpa using this) h)
    have h2 : fB p32 0xffffffff#32 l = fB p32 0xffffffff#32 (l.set i v) := by
      have := congrArg (~~~ ·) h'
      simpa [s32] using this
    exact fB_tells p32 (by decide) rfl _ l _ (by simp) (8 * i) (fun j hj hne => ⟨(hw j hj hne).1, by have := (hw j hj hne).2; omega⟩) h2
end Go.Proofs.YtanbjifdcplmnaaGreatDoor
/- What Short, Long and Bytes of layer 2 return. -/
namespace Go.Proofs.YtanbjifdcplmnaaGreatDoor
open Go.RowKit

theorem and16 (F : Nat) (h : F < 65536) : bits BinOp.and .u16 (F : Int) 1 = ((F % 2 : Nat) : Int) := by
  have e := u16_and_nat F 1 h (by decide)
  rw [Nat.and_one_is_mod] at e
  exact e
theorem and32 (F : Nat) (h : F < 4294967296) : bits BinOp.and .u32 (F : Int) 1 = ((F % 2 : Nat) : Int) := by
  have e := u32_and_nat F 1 h (by decide)
  rw [Nat.and_one_is_mod] at e
  exact e
theorem flip16 (d : BitVec 16) : Ending.returned (.int .u16 (bits BinOp.xor .u16 IntKind.u16.max (d.toNat : Int))) = .returned (.int .u16 ((~~~ d).toNat : Int)) := by
  have e := u16_xor_nat 65535 d.toNat (by decide) d.isLt
  rw [show IntKind.u16.max = ((65535 : Nat) : Int) from rfl, e, show (65535 : Nat) = (BitVec.allOnes 16).toNat from rfl, ← BitVec.toNat_xor, BitVec.allOnes_xor]
theorem flip32 (d : BitVec 32) : Ending.returned (.int .u32 (bits BinOp.xor .u32 IntKind.u32.max (d.toNat : Int))) = .returned (.int .u32 ((~~~ d).toNat : Int)) := by
  have e := u32_xor_nat 4294967295 d.toNat (by decide) d.isLt
  rw [show IntKind.u32.max = ((4294967295 : Nat) : Int) from rfl, e, show (4294967295 : Nat) = (BitVec.allOnes 32).toNat from rfl, ← BitVec.toNat_xor, BitVec.allOnes_xor]

set_option maxRecDepth 100000 in
set_option maxHeartbeats 1000000 in
theorem sum16_any (A : Option Addr) (n c B : Nat) (l : List UInt8) (w : World) (h : Rd w B A n l) (hn : n ≤ 140737488355328) :
    Calls Tryz.prog 116 #[.slice A n c, .int .u16 33800] w fun e w' => e = .returned (.int .u16 ((s16 l).toNat : Int)) ∧ w = w' := by
  have HR := Lib.hid h
  clear h
  go_enter Tryz.func116, Tryz.ntmps116
  go_wp2
  go_loop [5, 13] (fun v i => ∃ (k : Nat) (d : BitVec 16), k ≤ n ∧ i = .int .i64 k ∧ v = .int .u16 (d.toNat : Int) ∧ Hid (d = fB p16 0xffff#16 (l.take k))) (fun _ i => n - (intOf i).toNat)
  case atStart => exact ⟨0, 0xffff#16, Nat.zero_le _, rfl, rfl, rfl⟩
  case round =>
    obtain ⟨k, d, hk, rfl, rfl, hd⟩ := hrel
    by_cases hlt : k < n
    · obtain ⟨b, o, rfl, hb, hcell⟩ := HR.out.2 (by omega)
      obtain ⟨x, hx⟩ : ∃ x, x = l.getD k 0 := ⟨_, rfl⟩
      have hcx : w.cell? ⟨b, o + k, none⟩ = some (.int .u8 (x.toNat : Int)) := by rw [hx]; exact hcell k hlt
      have Hx := Lib.hid hx
      clear hx hcell
      have hx1 : (x.toNat : Int) < 256 := by have := x.toNat_lt; omega
      have hx0 : (0 : Int) ≤ (x.toNat : Int) := by omega
      have hd1 : (d.toNat : Int) < 65536 := by have := d.isLt; omega
      go_wp2_with fail
      clear hx0 hx1 hd1
      go_loop [5, 21] (fun v i => ∃ (j : Nat) (f : BitVec 16), j ≤ 8 ∧ i = .int .i64 j ∧ v = .int .u16 (f.toNat : Int) ∧ Hid (f = stpN p16 j (d ^^^ BitVec.ofNat 16 x.toNat))) (fun _ i => 8 - (intOf i).toNat)
      case atStart => exact ⟨0, d ^^^ BitVec.ofNat 16 x.toNat, by omega, rfl, byte16 d x, rfl⟩
      case round =>
        obtain ⟨j, f, hj, rfl, rfl, hf⟩ := hrel
        by_cases hj8 : j < 8
        · obtain ⟨F, hF⟩ : ∃ F, F = f.toNat := ⟨_, rfl⟩
          have hf1 : F < 65536 := by have := f.isLt; omega
          rw [← hF]
          have HF := Lib.hid hF
          clear hF
          rcases Nat.mod_two_eq_zero_or_one F with he | he
          · have ht : (bits BinOp.and .u16 (F : Int) 1 == 1) = false := by rw [and16 F hf1, he]; rfl
            have HE := Lib.hid he
            clear he
            go_wp2_with fail
            go_round
            case rel => exact ⟨j + 1, stp p16 f, by omega, by go_num, by rw [stp_even _ _ (by rw [← HF.out]; exact HE.out), ← HF.out]; rfl, by show _ = _; rw [stpN_succ, ← hf.out]⟩
            case measure => simp [intOf]; omega
          · have ht : (bits BinOp.and .u16 (F : Int) 1 == 1) = true := by rw [and16 F hf1, he]; rfl
            have HE := Lib.hid he
            clear he
            go_wp2_with fail
            go_round
            case rel => exact ⟨j + 1, stp p16 f, by omega, by go_num, by rw [HF.out]; exact step16 f (by rw [← HF.out]; exact HE.out), by show _ = _; rw [stpN_succ, ← hf.out]⟩
            case measure => simp [intOf]; omega
        · obtain rfl : j = 8 := by omega
          go_wp2_with fail
          go_round
          case rel =>
            refine ⟨k + 1, f, by omega, by go_num, rfl, ?_⟩
            show f = _
            rw [fB_take l 16 _ _ k (by have := HR.out.1; omega), ← hd.out, ← Hx.out]
            exact hf.out
          case measure => simp [intOf]; omega
    · obtain rfl : k = n := by omega
      have hl := HR.out.1
      have hfin : s16 l = ~~~ d := by rw [hd.out, List.take_of_length_le (by omega)]; rfl
      have HF := Lib.hid hfin
      have hd1 : (d.toNat : Int) < 65536 := by have := d.isLt; omega
      clear hfin hl
      go_wp2_with fail
      go_ret
      exact ⟨by rw [HF.out]; exact flip16 d, rfl⟩
set_option maxRecDepth 100000 in
set_option maxHeartbeats 1000000 in
theorem sum32_any (A : Option Addr) (n c B : Nat) (l : List UInt8) (w : World) (h : Rd w B A n l) (hn : n ≤ 140737488355328) :
    Calls Tryz.prog 117 #[.slice A n c, .int .u32 2197175160] w fun e w' => e = .returned (.int .u32 ((s32 l).toNat : Int)) ∧ w = w' := by
  have HR := Lib.hid h
  clear h
  go_enter Tryz.func117, Tryz.ntmps117
  go_wp2
  go_loop [5, 13] (fun v i => ∃ (k : Nat) (d : BitVec 32), k ≤ n ∧ i = .int .i64 k ∧ v = .int .u32 (d.toNat : Int) ∧ Hid (d = fB p32 0xffffffff#32 (l.take k))) (fun _ i => n - (intOf i).toNat)
  case atStart => exact ⟨0, 0xffffffff#32, Nat.zero_le _, rfl, rfl, rfl⟩
  case round =>
    obtain ⟨k, d, hk, rfl, rfl, hd⟩ := hrel
    by_cases hlt : k < n
    · obtain ⟨b, o, rfl, hb, hcell⟩ := HR.out.2 (by omega)
      obtain ⟨x, hx⟩ : ∃ x, x = l.getD k 0 := ⟨_, rfl⟩
      have hcx : w.cell? ⟨b, o + k, none⟩ = some (.int .u8 (x.toNat : Int)) := by rw [hx]; exact hcell k hlt
      have Hx := Lib.hid hx
      clear hx hcell
      have hx1 : (x.toNat : Int) < 256 := by have := x.toNat_lt; omega
      have hx0 : (0 : Int) ≤ (x.toNat : Int) := by omega
      have hd1 : (d.toNat : Int) < 4294967296 := by have := d.isLt; omega
      go_wp2_with fail
      clear hx0 hx1 hd1
      go_loop [5, 21] (fun v i => ∃ (j : Nat) (f : BitVec 32), j ≤ 8 ∧ i = .int .i64 j ∧ v = .int .u32 (f.toNat : Int) ∧ Hid (f = stpN p32 j (d ^^^ BitVec.ofNat 32 x.toNat))) (fun _ i => 8 - (intOf i).toNat)
      case atStart => exact ⟨0, d ^^^ BitVec.ofNat 32 x.toNat, by omega, rfl, byte32 d x, rfl⟩
      case round =>
        obtain ⟨j, f, hj, rfl, rfl, hf⟩ := hrel
        by_cases hj8 : j < 8
        · obtain ⟨F, hF⟩ : ∃ F, F = f.toNat := ⟨_, rfl⟩
          have hf1 : F < 4294967296 := by have := f.isLt; omega
          rw [← hF]
          have HF := Lib.hid hF
          clear hF
          rcases Nat.mod_two_eq_zero_or_one F with he | he
          · have ht : (bits BinOp.and .u32 (F : Int) 1 == 1) = false := by rw [and32 F hf1, he]; rfl
            have HE := Lib.hid he
            clear he
            go_wp2_with fail
            go_round
            case rel => exact ⟨j + 1, stp p32 f, by omega, by go_num, by rw [stp_even _ _ (by rw [← HF.out]; exact HE.out), ← HF.out]; rfl, by show _ = _; rw [stpN_succ, ← hf.out]⟩
            case measure => simp [intOf]; omega
          · have ht : (bits BinOp.and .u32 (F : Int) 1 == 1) = true := by rw [and32 F hf1, he]; rfl
            have HE := Lib.hid he
            clear he
            go_wp2_with fail
            go_round
            case rel => exact ⟨j + 1, stp p32 f, by omega, by go_num, by rw [HF.out]; exact step32 f (by rw [← HF.out]; exact HE.out), by show _ = _; rw [stpN_succ, ← hf.out]⟩
            case measure => simp [intOf]; omega
        · obtain rfl : j = 8 := by omega
          go_wp2_with fail
          go_round
          case rel =>
            refine ⟨k + 1, f, by omega, by go_num, rfl, ?_⟩
            show f = _
            rw [fB_take l 32 _ _ k (by have := HR.out.1; omega), ← hd.out, ← Hx.out]
            exact hf.out
          case measure => simp [intOf]; omega
    · obtain rfl : k = n := by omega
      have hl := HR.out.1
      have hfin : s32 l = ~~~ d := by rw [hd.out, List.take_of_length_le (by omega)]; rfl
      have HF := Lib.hid hfin
      have hd1 : (d.toNat : Int) < 4294967296 := by have := d.isLt; omega
      clear hfin hl
      go_wp2_with fail
      go_ret
      exact ⟨by rw [HF.out]; exact flip32 d, rfl⟩

theorem short_any (A : Option Addr) (n c B : Nat) (l : List UInt8) (w : World) (h : Rd w B A n l) (hn : n ≤ 140737488355328) :
    Calls Tryz.prog 92 #[.slice A n c] w fun e w' => e = .returned (.int .u16 ((s16 l).toNat : Int)) ∧ w = w' := by
  have C := Lib.hid (sum16_any A n c B l w h hn)
  clear h
  go_enter Tryz.func92, Tryz.ntmps92
  go_wp2_with fail
  refine C.out.mono ?_
  rintro e w' ⟨rfl, rfl⟩
  go_wp2_with fail
  go_ret
  exact ⟨rfl, rfl⟩

theorem long_any (A : Option Addr) (n c B : Nat) (l : List UInt8) (w : World) (h : Rd w B A n l) (hn : n ≤ 140737488355328) :
    Calls Tryz.prog 93 #[.slice A n c] w fun e w' => e = .returned (.int .u32 ((s32 l).toNat : Int)) ∧ w = w' := by
  have C := Lib.hid (sum32_any A n c B l w h hn)
  clear h
  go_enter Tryz.func93, Tryz.ntmps93
  go_wp2_with fail
  refine C.out.mono ?_
  rintro e w' ⟨rfl, rfl⟩
  go_wp2_with fail
  go_ret
  exact ⟨rfl, rfl⟩
set_option maxRecDepth 100000 in
set_option maxHeartbeats 1000000 in
theorem bytes_any (kind : Int) (A : Option Addr) (n c B : Nat) (l : List UInt8) (w : World) (h : Rd w B A n l) (hn : n ≤ 140737488355328) :
    Calls Tryz.prog 64 #[.int .i64 kind, .slice A n c] w (Gives (crcBytes kind l) w) := by
  have c1 := short_any A n c B l w h hn
  have c2 := long_any A n c B l w h hn
  have v1 := (s16 l).isLt
  have v2 := (s32 l).isLt
  clear h
  by_cases h1 : kind = 1
  · subst h1
    rw [show crcBytes 1 l = be (s16 l).toNat 2 from rfl, be2]
    generalize (s16 l).toNat = v at *
    have C1 := Lib.hid c1
    clear c1 c2
    go_enter Tryz.func64, Tryz.ntmps64
    go_wp2_with fail
    refine C1.out.mono ?_
    rintro e w' ⟨rfl, rfl⟩
    go_wp2_with fail
    go_ret
    exact gives_lit w _ _ _ 2 rfl (cs2 v v1)
  · by_cases h2 : kind = 2
    · subst h2
      rw [show crcBytes 2 l = be (s32 l).toNat 4 from rfl, be4]
      generalize (s32 l).toNat = v at *
      have C2 := Lib.hid c2
      clear c1 c2
      go_enter Tryz.func64, Tryz.ntmps64
      go_wp2_with fail
      refine C2.out.mono ?_
      rintro e w' ⟨rfl, rfl⟩
      go_wp2_with fail
      go_ret
      exact gives_lit w _ _ _ 4 rfl (cs4 v v2)
    · rw [show crcBytes kind l = [] by unfold crcBytes; rw [if_neg h1, if_neg h2]]
      have e1 : (kind == 1) = false := by simpa using h1
      have e2 : (kind == 2) = false := by simpa using h2
      clear h1 h2 c1 c2
      go_enter Tryz.func64, Tryz.ntmps64
      go_wp2_with fail
      go_ret
      exact gives_nil w
end Go.Proofs.YtanbjifdcplmnaaGreatDoor
/- The plain mathematics of layer 4, second part: a text cut at its first c; a name by its pieces; digits read as they were written; whose text, or item, something could be. No program's number stands here. -/
namespace Go.Proofs.YtanbjifdcplmnaaGreatDoor
open Go.Lib (decDigits)

/-- What stands ahead of the first c, what stands behind it, and whether there is one. -/
def ahead (c : UInt8) (l : List UInt8) : List UInt8 := l.takeWhile fun x => x != c
def behind (c : UInt8) (l : List UInt8) : List UInt8 := l.drop ((ahead c l).length + 1)
def hasB (c : UInt8) (l : List UInt8) : Bool := decide ((ahead c l).length < l.length)

theorem ahead_nil (c : UInt8) : ahead c [] = [] := rfl
theorem ahead_cons (c x : UInt8) (l : List UInt8) : ahead c (x :: l) = if x = c then [] else x :: ahead c l := by
  unfold ahead
  rw [List.takeWhile_cons]
  by_cases h : x = c <;> simp [h]
theorem ahead_no (c : UInt8) : ∀ l : List UInt8, ∀ x ∈ ahead c l, x ≠ c
  | [], x, h => by rw [ahead_nil] at h; cases h
  | y :: l, x, h => by
    rw [ahead_cons] at h
    split at h
    · cases h
    · rename_i hne
      rcases List.mem_cons.1 h with rfl | h
      · exact hne
      · exact ahead_no c l x h
theorem ahead_le (c : UInt8) : ∀ l : List UInt8, (ahead c l).length ≤ l.length
  | [] => Nat.le_refl _
  | y :: l => by
    rw [ahead_cons]
    split
    · exact Nat.zero_le _
    · have := ahead_le c l; simp only [List.length_cons]; omega
theorem ahead_take (c : UInt8) : ∀ l : List UInt8, ahead c l = l.take (ahead c l).length
  | [] => rfl
  | y :: l => by
    rw [ahead_cons]
    split
    · rfl
    · have := ahead_take c l
      simp only [List.length_cons, List.take_succ_cons]
      rw [← this]
theorem ahead_all {c : UInt8} {l : List UInt8} (h : hasB c l = false) : ahead c l = l := by
  have h1 := ahead_le c l
  have h2 : (ahead c l).length = l.length := by unfold hasB at h; simp at h; omega
  rw [ahead_take c l, h2, List.take_length]
theorem behind_nil {c : UInt8} {l : List UInt8} (h : hasB c l = false) : behind c l = [] := by
  unfold behind
  rw [ahead_all h]
  simp
theorem cut_eq {c : UInt8} : ∀ {l : List UInt8}, hasB c l = true → l = ahead c l ++ c :: behind c l
  | [], h => by simp [hasB] at h
  | y :: l, h => by
    unfold behind
    rw [ahead_cons]
    by_cases hy : y = c
    · subst hy; simp
    · rw [if_neg hy]
      have h' : hasB c l = true := by
        unfold hasB at h ⊢
        rw [ahead_cons, if_neg hy] at h
        simp at h ⊢
        omega
      have e := cut_eq h'
      unfold behind at e
      simp only [List.length_cons, List.drop_succ_cons, List.cons_append]
      rw [← e]
theorem ahead_app {c : UInt8} : ∀ {u : List UInt8} (t : List UInt8), (∀ x ∈ u, x ≠ c) → ahead c (u ++ c :: t) = u
  | [], t, _ => by rw [List.nil_append, ahead_cons, if_pos rfl]
  | y :: u, t, h => by
    rw [List.cons_append, ahead_cons, if_neg (h y (by simp)), ahead_app t (fun x hx => h x (by simp [hx]))]
theorem has_app {c : UInt8} {u t : List UInt8} (h : ∀ x ∈ u, x ≠ c) : hasB c (u ++ c :: t) = true ∧ behind c (u ++ c :: t) = t := by
  unfold hasB behind
  rw [ahead_app t h]
  refine ⟨by simp, ?_⟩
  rw [List.drop_append]
  simp
theorem index_ahead (c : UInt8) : ∀ l : List UInt8, Lib.indexByte l c = if hasB c l = true then ((ahead c l).length : Int) else -1
  | [] => by simp [Lib.indexByte, hasB]
  | y :: l => by
    have ih := index_ahead c l
    have e1 : hasB c (y :: l) = if y = c then true else hasB c l := by
      unfold hasB
      rw [ahead_cons]
      by_cases hy : y = c <;> simp [hy]
    rw [Lib.indexByte, e1, ahead_cons]
    by_cases hy : y = c
    · subst hy; simp
    · have hb : (y == c) = false := by simpa using hy
      rw [hb, if_neg hy, if_neg hy, ih]
      rw [if_neg (by simp)]
      by_cases hh : hasB c l = true
      · rw [if_pos hh, if_pos hh]
        have : ¬ ((((ahead c l).length : Int) == -1) = true) := by rw [beq_iff_eq]; omega
        rw [if_neg this, List.length_cons]
        omega
      · rw [if_neg hh, if_neg hh]; rfl

/-- Digits are read as the number that was written. -/
theorem parse_app (M : Nat) : ∀ (l t : List UInt8) (acc v : Nat), Lib.parseUintM M acc l = .ok v → Lib.parseUintM M acc (l ++ t) = Lib.parseUintM M v t
  | [], t, acc, v, h => by
    simp only [Lib.parseUintM] at h
    cases h
    rfl
  | c :: r, t, acc, v, h => by
    simp only [Lib.parseUintM] at h
    simp only [List.cons_append, Lib.parseUintM]
    split at h
    · rename_i hd
      rw [if_pos hd]
      split at h
      · cases h
      · rename_i h1
        rw [if_neg h1]
        split at h
        · cases h
        · rename_i h2
          rw [if_neg h2]
          exact parse_app M r t _ v h
    · cases h
theorem parse_dec (M : Nat) (hM : M ≤ 4294967295) : ∀ n : Nat, n ≤ M → Lib.parseUintM M 0 (decDigits n) = .ok n := by
  intro n
  induction n using Nat.strongRecOn with
  | _ n ih =>
    intro hn
    have hd : ∀ d : Nat, d < 10 → (UInt8.ofNat (48 + d)).toNat = 48 + d := fun d h => by
      have h2 : ∀ d : Fin 10, (UInt8.ofNat (48 + d.val)).toNat = 48 + d.val := by decide +kernel
      exact h2 ⟨d, h⟩
    by_cases hx : n < 10
    · rw [dec_small hx]
      simp only [Lib.parseUintM]
      rw [hd n hx, if_pos (by omega), if_neg (by omega), if_neg (by omega)]
      congr 1
      omega
    · rw [dec_big hx, parse_app M _ _ 0 (n / 10) (ih (n / 10) (by omega) (by omega))]
      simp only [Lib.parseUintM]
      rw [hd (n % 10) (by omega), if_pos (by omega), if_neg (by omega), if_neg (by omega)]
      congr 1
      omega
theorem dec_ne_nil (n : Nat) : decDigits n ≠ [] := by
  by_cases hx : n < 10
  · rw [dec_small hx]; simp
  · rw [dec_big hx]; simp
theorem parse32 (n : Nat) (h : n ≤ 4294967295) : Lib.parseUintB 32 (decDigits n) = .ok n := by
  unfold Lib.parseUintB
  rw [if_neg (dec_ne_nil n)]
  exact parse_dec _ (by decide) n (by omega)
theorem parse32_le {l : List UInt8} {n : Nat} (h : Lib.parseUintB 32 l = .ok n) : n ≤ 4294967295 := by
  have key : ∀ (l : List UInt8) (acc v : Nat), acc ≤ 4294967295 → Lib.parseUintM 4294967295 acc l = .ok v → v ≤ 4294967295 := by
    intro l
    induction l with
    | nil => intro acc v ha h; simp only [Lib.parseUintM] at h; cases h; exact ha
    | cons c r ih =>
      intro acc v ha h
      simp only [Lib.parseUintM] at h
      split at h
      · split at h
        · cases h
        · split at h
          · cases h
          · exact ih _ _ (by omega) h
      · cases h
  unfold Lib.parseUintB at h
  split at h
  · cases h
  · exact key l 0 n (by omega) h

/-- A name by its pieces, as it is asked for. -/
def nameC (s : List UInt8) : Bool :=
  decide (s.length ≤ 64) && (Lib.hasPrefix s [47, 47] && (hasB 47 (s.drop 2) && (!(ahead 47 (s.drop 2)).isEmpty && ((ahead 47 (s.drop 2)).all letterB && (behind 47 (s.drop 2)).all lsB))))
theorem beq_comm_u (a b : UInt8) : (a == b) = (b == a) := by
  by_cases h : a = b
  · subst h; rfl
  · have h2 : ¬ b = a := fun e => h e.symm
    rw [beq_eq_false_iff_ne.2 h, beq_eq_false_iff_ne.2 h2]
theorem toSlash_ahead (l : List UInt8) : toSlash l = (ahead 47 l).length := rfl
theorem letter_ls {c : UInt8} (h : c ≠ 47) : lsB c = letterB c := by
  unfold lsB
  have : (c == 47) = false := by simpa using h
  rw [this, Bool.false_or]
theorem all_ls {l : List UInt8} (h : ∀ x ∈ l, x ≠ 47) : l.all lsB = l.all letterB := by
  induction l with
  | nil => rfl
  | cons a l ih =>
    rw [List.all_cons, List.all_cons, letter_ls (h a (by simp)), ih (fun x hx => h x (by simp [hx]))]
theorem nameC_eq (s : List UInt8) : nameC s = nameB s := by
  unfold nameC nameB
  congr 1
  match s with
  | [] => rfl
  | [a] => simp [Lib.hasPrefix, List.isPrefixOf]
  | a :: b :: r =>
    have e1 : Lib.hasPrefix (a :: b :: r) [47, 47] = (a == 47 && b == 47) := by
      simp only [Lib.hasPrefix, List.isPrefixOf, Bool.and_true]
      rw [show ((47 : UInt8) == a) = (a == 47) from beq_comm_u _ _, show ((47 : UInt8) == b) = (b == 47) from beq_comm_u _ _]
    rw [e1]
    congr 1
    show (hasB 47 r && _) = _
    rw [show (a :: b :: r).drop 2 = r from rfl]
    by_cases hh : hasB 47 r = true
    · have e := cut_eq hh
      have e2 : r.all lsB = ((ahead 47 r).all letterB && (behind 47 r).all lsB) := by
        conv => lhs; rw [e]
        rw [List.all_append, List.all_cons, all_ls (ahead_no 47 r)]
        rfl
      have e3 : decide (toSlash r < r.length) = true := hh
      have e4 : (!(ahead 47 r).isEmpty) = decide (1 ≤ toSlash r) := by
        rw [toSlash_ahead]
        cases ahead 47 r <;> simp
      rw [hh, e3, e2, e4, Bool.true_and, Bool.and_true, Bool.and_comm]
    · have e3 : decide (toSlash r < r.length) = false := by rw [Bool.not_eq_true] at hh; exact hh
      rw [Bool.not_eq_true] at hh
      rw [hh, e3, Bool.false_and, Bool.and_false, Bool.and_false]
end Go.Proofs.YtanbjifdcplmnaaGreatDoor
/- The library's contracts of the functions that layer 4 calls, at this program. -/
namespace Go.Proofs
open Go.Shelf
def Tryz.lays137_ren : Go.Shelf.Ren := ⟨fun | 137 => 132 | 217 => 135 | 266 => 139 | n => n, fun | 9 => 9 | 5 => 5 | 3 => 3 | n => n, fun | n => n⟩
theorem Tryz.lays137 : Go.Proofs.Lays.n137 Tryz.prog Tryz.lays137_ren := {
  mixed := by kernel_rfl
  f137 := Tryz.func132.trans (congrArg some (by kernel_rfl))
  f217 := Tryz.func135.trans (congrArg some (by kernel_rfl))
  f266 := Tryz.func139.trans (congrArg some (by kernel_rfl))
  t3 := Tryz.underlying3
  a3 := Tryz.isAgg3
  z3 := Tryz.sizeOf3
  v3 := Tryz.zeroValue3
  t5 := Tryz.underlying5
  a5 := Tryz.isAgg5
  z5 := Tryz.sizeOf5
  v5 := Tryz.zeroValue5
  t9 := Tryz.underlying9
  a9 := Tryz.isAgg9
  z9 := Tryz.sizeOf9
  v9 := Tryz.zeroValue9 }
open Go.RowKit in
theorem Tryz.strings_IndexByte (s : ByteArray) (c : Int) (w : World) :
    Calls Tryz.prog 132 #[.string s, .int .u8 c] w fun e w' => e = .returned (.int .i64 (Lib.indexByte s.data.toList c.toNat.toUInt8)) ∧ w' = w := Any.strings_IndexByte Tryz.lays137 s c w
def Tryz.lays103_ren : Go.Shelf.Ren := ⟨fun | 103 => 124 | 210 => 129 | 206 => 133 | n => n, fun | 9 => 9 | 4 => 4 | 24 => 187 | 3 => 3 | n => n, fun | n => n⟩
theorem Tryz.lays103 : Go.Proofs.Lays.n103 Tryz.prog Tryz.lays103_ren := {
  mixed := by kernel_rfl
  f103 := Tryz.func124.trans (congrArg some (by kernel_rfl))
  f206 := Tryz.func133.trans (congrArg some (by kernel_rfl))
  f210 := Tryz.func129.trans (congrArg some (by kernel_rfl))
  t3 := Tryz.underlying3
  a3 := Tryz.isAgg3
  z3 := Tryz.sizeOf3
  v3 := Tryz.zeroValue3
  t4 := Tryz.underlying4
  a4 := Tryz.isAgg4
  z4 := Tryz.sizeOf4
  v4 := Tryz.zeroValue4
  t9 := Tryz.underlying9
  a9 := Tryz.isAgg9
  z9 := Tryz.sizeOf9
  v9 := Tryz.zeroValue9
  t24 := Tryz.underlying187
  a24 := Tryz.isAgg187
  z24 := Tryz.sizeOf187
  v24 := Tryz.zeroValue187 }
open Go.RowKit in
theorem Tryz.strings_CutPrefix (s p : ByteArray) (w : World) :
    Calls Tryz.prog 124 #[.string s, .string p] w fun e w' => e = .returned (.tuple #[.string ⟨(Lib.trimPrefix s.data.toList p.data.toList).toArray⟩, .bool (Lib.hasPrefix s.data.toList p.data.toList)]) ∧ w' = w := Any.strings_CutPrefix Tryz.lays103 s p w
open Go.RowKit in
def Tryz.lays217_ren : Go.Shelf.Ren := ⟨fun | 217 => 135 | 266 => 139 | n => n, fun | 9 => 9 | 5 => 5 | 3 => 3 | n => n, fun | n => n⟩
theorem Tryz.lays217 : Go.Proofs.Lays.n217 Tryz.prog Tryz.lays217_ren := {
  mixed := by kernel_rfl
  f217 := Tryz.func135.trans (congrArg some (by kernel_rfl))
  f266 := Tryz.func139.trans (congrArg some (by kernel_rfl))
  t3 := Tryz.underlying3
  a3 := Tryz.isAgg3
  z3 := Tryz.sizeOf3
  v3 := Tryz.zeroValue3
  t5 := Tryz.underlying5
  a5 := Tryz.isAgg5
  z5 := Tryz.sizeOf5
  v5 := Tryz.zeroValue5
  t9 := Tryz.underlying9
  a9 := Tryz.isAgg9
  z9 := Tryz.sizeOf9
  v9 := Tryz.zeroValue9 }
open Go.RowKit Go.Lib in
theorem Tryz.stringslite_IndexByte (s : ByteArray) (c : Int) (w : World) :
    Calls Tryz.prog 135 #[.string s, .int .u8 c] w fun e w' => e = .returned (.int .i64 (Lib.indexByte s.data.toList c.toNat.toUInt8)) ∧ w' = w := Any.stringslite_IndexByte Tryz.lays217 s c w
end Go.Proofs
