/- The plain mathematics of layer 4: endpoints, their texts and items; two endpoints are two texts, and two items. No program's number stands here. -/
import Derived.Test.YtanbjifdcplmnaaGreatDoorRBase
import Derived.Test.YtanbjifdcplmnaaGreatDoorRCborI
import Derived.Test.YtanbjifdcplmnaaGreatDoorRCborM
import Derived.Test.YtanbjifdcplmnaaGreatDoorRCborQ
import Derived.Test.YtanbjifdcplmnaaGreatDoorRNumG
import Derived.Test.YtanbjifdcplmnaaGreatDoorRSame
import Derived.WalkKit
import Derived.Lib.Bytealg
import Derived.Lib.IndexLaws
import Derived.Lib.ParseIntB
import Derived.Lib.Strings
import Derived.Test.YtanbjifdcplmnaaGreatDoorRows
import Derived.Shelf.Small.Strs
import Derived.Shelf.Strings.Search1
import Derived.Shelf.Small.Wraps
import Derived.Ground.MpProg
import Derived.Shelf.Pu.Clone
import Derived.Below
import Derived.BigCall
import Derived.BigGuard
import Derived.BigGuardPart
import Derived.BigQuiet
import Derived.Deep.DeepCutAuto
import Derived.Deep.DeepFit
import Derived.Deep.Draws
import Derived.Deep.OwnRows
import Derived.Deep.QuietTactic
import Derived.Laws.AppendOwn
import Derived.Laws.BitsAllLaws
import Derived.Laws.BytesArg
import Derived.Laws.IdiomStrings
import Derived.Laws.NewBlocks
import Derived.Laws.Strings3
import Derived.Lib.EndianBits
import Derived.Lib.HexFns
import Derived.Lib.Hide
import Derived.Lib.ItoaNum
import Derived.Lib.SlBytesConst
import Derived.Lib.Walk
import Derived.Outline
import Derived.WalkLawsBesides
import Derived.Deep.AppendLies
import Derived.Deep.RegionHeld3
namespace Go.Proofs.YtanbjifdcplmnaaGreatDoor
open Go.Lib (decDigits)

/-- An endpoint: scheme, name, node, service. -/
structure Epd where
  scheme : Int
  name : List UInt8
  node : Nat
  service : Nat

def letterB (c : UInt8) : Bool := (decide (97 ≤ c.toNat) && decide (c.toNat ≤ 122)) || ((decide (48 ≤ c.toNat) && decide (c.toNat ≤ 57)) || (c == 46 || (c == 45 || c == 95)))
/-- A letter, or a slash. -/
def lsB (c : UInt8) : Bool := c == 47 || letterB c
/-- How many bytes stand ahead of the first slash; the length, if there is none. -/
def toSlash (s : List UInt8) : Nat := (s.takeWhile fun c => c != 47).length
/-- A name that may be: two slashes, letters, a slash, letters and slashes. -/
def nameB (s : List UInt8) : Bool :=
  decide (s.length ≤ 64) && (match s with
    | a :: b :: r => (a == 47 && b == 47) && (r.all lsB && (decide (1 ≤ toSlash r) && decide (toSlash r < r.length)))
    | _ => false)
/-- Where a name's third slash stands. -/
def third (s : List UInt8) : Nat := 2 + toSlash (s.drop 2)
def noneB (e : Epd) : Bool := e.scheme == 1 && (e.name.isEmpty && (e.node == 0 && e.service == 0))
def checkB (e : Epd) : Bool :=
  if e.scheme = 1 then (e.node == 0 && e.service == 0) && (e.name.isEmpty || nameB e.name)
  else e.scheme == 2 && (e.name.isEmpty && (decide (0 < e.node) && (decide (e.node ≤ 4294967295) && decide (e.service ≤ 4294967295))))
def dtnL : List UInt8 := [100, 116, 110, 58]
def ipnL : List UInt8 := [105, 112, 110, 58]
def noneL : List UInt8 := [110, 111, 110, 101]
/-- The text of an endpoint that may be; of others the empty one. -/
def textE (e : Epd) : List UInt8 :=
  if checkB e = false then [] else if e.scheme = 2 then ipnL ++ (decDigits e.node ++ (46 :: decDigits e.service)) else if e.name = [] then dtnL ++ noneL else dtnL ++ e.name
/-- The text of its node. -/
def nodeE (e : Epd) : List UInt8 :=
  if checkB e = false ∨ noneB e = true then [] else if e.scheme = 2 then ipnL ++ (decDigits e.node ++ [46, 48]) else dtnL ++ e.name.take (third e.name + 1)
/-- The item of an endpoint that may be. -/
def itemE (e : Epd) : Itm :=
  .mk 4 0 [] [.mk 0 e.scheme.toNat [] [], if e.scheme = 2 then .mk 4 0 [] [.mk 0 e.node [] [], .mk 0 e.service [] []] else if e.name = [] then .mk 0 0 [] [] else .mk 3 0 e.name []]

theorem check_dtn {e : Epd} (h : checkB e = true) (h1 : e.scheme = 1) : e.node = 0 ∧ e.service = 0 ∧ (e.name = [] ∨ nameB e.name = true) := by
  unfold checkB at h
  rw [if_pos h1] at h
  simp only [Bool.and_eq_true, Bool.or_eq_true, beq_iff_eq, List.isEmpty_iff] at h
  exact ⟨h.1.1, h.1.2, h.2⟩
theorem check_ipn {e : Epd} (h : checkB e = true) (h1 : e.scheme ≠ 1) : e.scheme = 2 ∧ e.name = [] ∧ 0 < e.node ∧ e.node ≤ 4294967295 ∧ e.service ≤ 4294967295 := by
  unfold checkB at h
  rw [if_neg h1] at h
  simp only [Bool.and_eq_true, beq_iff_eq, List.isEmpty_iff, decide_eq_true_eq] at h
  exact ⟨h.1, h.2.1, h.2.2.1, h.2.2.2.1, h.2.2.2.2⟩
theorem name_head {s : List UInt8} (h : nameB s = true) : ∃ r, s = 47 :: 47 :: r ∧ r.all lsB = true ∧ 1 ≤ toSlash r ∧ toSlash r < r.length ∧ s.length ≤ 64 := by
  unfold nameB at h
  match s, h with
  | [], h => simp at h
  | [_], h => simp at h
  | a :: b :: r, h =>
    simp only [Bool.and_eq_true, beq_iff_eq, decide_eq_true_eq] at h
    obtain ⟨h1, ⟨rfl, rfl⟩, h2, h3, h4⟩ := h
    exact ⟨r, rfl, h2, h3, h4, h1⟩

/-- Digits are no dot. -/
theorem dec_no_dot : ∀ x : Nat, ∀ c ∈ decDigits x, c ≠ 46 := by
  intro x
  induction x using Nat.strongRecOn with
  | _ x ih =>
    intro c hc
    have hd : ∀ d : Fin 10, UInt8.ofNat (48 + d.val) ≠ 46 := by decide +kernel
    by_cases hx : x < 10
    · rw [dec_small hx] at hc
      simp only [List.mem_singleton] at hc
      subst hc
      exact hd ⟨x, hx⟩
    · rw [dec_big hx, List.mem_append] at hc
      rcases hc with hc | hc
      · exact ih (x / 10) (by omega) c hc
      · simp only [List.mem_singleton] at hc
        subst hc
        exact hd ⟨x % 10, by omega⟩
theorem dot_split : ∀ (a b r t : List UInt8), (∀ c ∈ a, c ≠ 46) → (∀ c ∈ b, c ≠ 46) → a ++ 46 :: r = b ++ 46 :: t → a = b ∧ r = t
  | [], [], r, t, _, _, h => by simpa using h
  | [], y :: b, r, t, _, hb, h => by
    simp only [List.nil_append, List.cons_append, List.cons.injEq] at h
    exact absurd h.1.symm (hb y (by simp))
  | x :: a, [], r, t, ha, _, h => by
    simp only [List.nil_append, List.cons_append, List.cons.injEq] at h
    exact absurd h.1 (ha x (by simp))
  | x :: a, y :: b, r, t, ha, hb, h => by
    simp only [List.cons_append, List.cons.injEq] at h
    obtain ⟨h1, h2⟩ := dot_split a b r t (fun c hc => ha c (by simp [hc])) (fun c hc => hb c (by simp [hc])) h.2
    exact ⟨by rw [h.1, h1], h2⟩
theorem epd_ext {a b : Epd} (h1 : a.scheme = b.scheme) (h2 : a.name = b.name) (h3 : a.node = b.node) (h4 : a.service = b.service) : a = b := by
  cases a; cases b; simp_all

theorem textE_ipn {e : Epd} (h : checkB e = true) (h2 : e.scheme = 2) : textE e = ipnL ++ (decDigits e.node ++ (46 :: decDigits e.service)) := by
  unfold textE
  rw [if_neg (by rw [h]; decide), if_pos h2]
theorem textE_none {e : Epd} (h : checkB e = true) (h1 : e.scheme = 1) (hn : e.name = []) : textE e = dtnL ++ noneL := by
  unfold textE
  rw [if_neg (by rw [h]; decide), if_neg (by omega), if_pos hn]
theorem textE_dtn {e : Epd} (h : checkB e = true) (h1 : e.scheme = 1) (hn : e.name ≠ []) : textE e = dtnL ++ e.name := by
  unfold textE
  rw [if_neg (by rw [h]; decide), if_neg (by omega), if_neg hn]
/-- Two endpoints are two texts. -/
theorem text_inj {a b : Epd} (ha : checkB a = true) (hb : checkB b = true) (h : textE a = textE b) : a = b := by
  have hdi : ∀ r t : List UInt8, dtnL ++ r ≠ ipnL ++ t := by
    intro r t h
    simp [dtnL, ipnL] at h
  by_cases a1 : a.scheme = 1
  · obtain ⟨an, ac, am⟩ := check_dtn ha a1
    by_cases b1 : b.scheme = 1
    · obtain ⟨bn, bs, bm⟩ := check_dtn hb b1
      have hno : ∀ s, nameB s = true → dtnL ++ s ≠ dtnL ++ noneL := by
        intro s hs e
        obtain ⟨r, rfl, _⟩ := name_head hs
        simp [dtnL, noneL] at e
      refine epd_ext (a1.trans b1.symm) ?_ (an.trans bn.symm) (ac.trans bs.symm)
      by_cases a0 : a.name = []
      · by_cases b0 : b.name = []
        · rw [a0, b0]
        · rw [textE_none ha a1 a0, textE_dtn hb b1 b0] at h
          exact absurd h.symm (hno _ (bm.resolve_left b0))
      · by_cases b0 : b.name = []
        · rw [textE_dtn ha a1 a0, textE_none hb b1 b0] at h
          exact absurd h (hno _ (am.resolve_left a0))
        · rw [textE_dtn ha a1 a0, textE_dtn hb b1 b0] at h
          exact List.append_cancel_left h
    · obtain ⟨b2, _⟩ := check_ipn hb b1
      rw [textE_ipn hb b2] at h
      by_cases a0 : a.name = []
      · rw [textE_none ha a1 a0] at h; exact absurd h (hdi _ _)
      · rw [textE_dtn ha a1 a0] at h; exact absurd h (hdi _ _)
  · obtain ⟨a2, an, _⟩ := check_ipn ha a1
    rw [textE_ipn ha a2] at h
    by_cases b1 : b.scheme = 1
    · by_cases b0 : b.name = []
      · rw [textE_none hb b1 b0] at h; exact absurd h.symm (hdi _ _)
      · rw [textE_dtn hb b1 b0] at h; exact absurd h.symm (hdi _ _)
    · obtain ⟨b2, bn, _⟩ := check_ipn hb b1
      rw [textE_ipn hb b2] at h
      obtain ⟨h1, h2⟩ := dot_split _ _ _ _ (dec_no_dot _) (dec_no_dot _) (List.append_cancel_left h)
      exact epd_ext (a2.trans b2.symm) (an.trans bn.symm) (dec_inj _ _ h1) (dec_inj _ _ h2)
/-- Two endpoints are two items. -/
theorem item_inj {a b : Epd} (ha : checkB a = true) (hb : checkB b = true) (h : itemE a = itemE b) : a = b := by
  unfold itemE at h
  simp only [Itm.mk.injEq, List.cons.injEq, and_true, true_and] at h
  obtain ⟨h1, h2⟩ := h
  by_cases a1 : a.scheme = 1
  · obtain ⟨an, ac, am⟩ := check_dtn ha a1
    by_cases b1 : b.scheme = 1
    · obtain ⟨bn, bs, bm⟩ := check_dtn hb b1
      have na : ¬ a.scheme = 2 := by omega
      have nb : ¬ b.scheme = 2 := by omega
      rw [if_neg na, if_neg nb] at h2
      refine epd_ext (a1.trans b1.symm) ?_ (an.trans bn.symm) (ac.trans bs.symm)
      by_cases a0 : a.name = []
      · by_cases b0 : b.name = []
        · rw [a0, b0]
        · rw [if_pos a0, if_neg b0] at h2; simp at h2
      · by_cases b0 : b.name = []
        · rw [if_neg a0, if_pos b0] at h2; simp at h2
        · rw [if_neg a0, if_neg b0] at h2; simpa using h2
    · obtain ⟨b2, _⟩ := check_ipn hb b1
      rw [a1, b2] at h1; simp at h1
  · obtain ⟨a2, an, _⟩ := check_ipn ha a1
    by_cases b1 : b.scheme = 1
    · rw [a2, b1] at h1; simp at h1
    · obtain ⟨b2, bn, _⟩ := check_ipn hb b1
      rw [if_pos a2, if_pos b2] at h2
      simp at h2
      exact epd_ext (a2.trans b2.symm) (an.trans bn.symm) h2.1 h2.2
end Go.Proofs.YtanbjifdcplmnaaGreatDoor
/- The plain mathematics of layer 4: names in pieces, nodes' texts. No program's number stands here. -/
namespace Go.Proofs.YtanbjifdcplmnaaGreatDoor
open Go.Lib (decDigits)

theorem toSlash_app : ∀ (u t : List UInt8), (∀ c ∈ u, c ≠ 47) → toSlash (u ++ 47 :: t) = u.length
  | [], t, _ => by simp [toSlash]
  | x :: u, t, h => by
    have hx : (x != 47) = true := by rw [bne_iff_ne]; exact h x (by simp)
    have := toSlash_app u t (fun c hc => h c (by simp [hc]))
    unfold toSlash at this ⊢
    rw [List.cons_append, List.takeWhile_cons, if_pos hx, List.length_cons, this, List.length_cons]
theorem letter_no_slash {c : UInt8} (h : letterB c = true) : c ≠ 47 := by
  intro e
  subst e
  revert h
  decide
/-- A name in pieces. -/
def Pieces (s u t : List UInt8) : Prop := s = 47 :: 47 :: (u ++ 47 :: t) ∧ u ≠ [] ∧ (∀ c ∈ u, letterB c = true) ∧ t.all lsB = true ∧ s.length ≤ 64
theorem split_slash : ∀ r : List UInt8, toSlash r < r.length → ∃ u t, r = u ++ 47 :: t ∧ u.length = toSlash r ∧ ∀ c ∈ u, c ≠ 47
  | [], h => by simp at h
  | x :: r, h => by
    by_cases hx : x = 47
    · subst hx
      exact ⟨[], r, rfl, by simp [toSlash], fun c hc => (by cases hc)⟩
    · have hb : (x != 47) = true := by rw [bne_iff_ne]; exact hx
      have e : toSlash (x :: r) = toSlash r + 1 := by unfold toSlash; rw [List.takeWhile_cons, if_pos hb, List.length_cons]
      rw [e, List.length_cons] at h
      obtain ⟨u, t, h1, h2, h3⟩ := split_slash r (by omega)
      refine ⟨x :: u, t, by rw [h1]; rfl, by rw [List.length_cons, h2, e], fun c hc => ?_⟩
      simp only [List.mem_cons] at hc
      rcases hc with rfl | hc
      · exact hx
      · exact h3 c hc
theorem name_pieces {s : List UInt8} (h : nameB s = true) : ∃ u t, Pieces s u t := by
  obtain ⟨r, rfl, h2, h3, h4, h5⟩ := name_head h
  obtain ⟨u, t, rfl, hu, hn⟩ := split_slash r h4
  rw [List.all_append, List.all_cons, Bool.and_eq_true, Bool.and_eq_true] at h2
  refine ⟨u, t, rfl, ?_, fun c hc => ?_, h2.2.2, h5⟩
  · intro e
    have h0 : u.length = 0 := by rw [e]; rfl
    omega
  · have hl := List.all_eq_true.1 h2.1 c hc
    unfold lsB at hl
    rw [Bool.or_eq_true, beq_iff_eq] at hl
    exact hl.resolve_left (hn c hc)
theorem pieces_name {s u t : List UInt8} (h : Pieces s u t) : nameB s = true ∧ third s = 2 + u.length := by
  obtain ⟨rfl, h1, h2, h3, h4⟩ := h
  have hs : toSlash (u ++ 47 :: t) = u.length := toSlash_app u t (fun c hc => letter_no_slash (h2 c hc))
  have hp : 1 ≤ u.length := by
    cases u with
    | nil => exact absurd rfl h1
    | cons _ _ => simp
  refine ⟨?_, by unfold third; rw [List.drop_succ_cons, List.drop_succ_cons, List.drop_zero, hs]⟩
  unfold nameB
  simp only [Bool.and_eq_true, decide_eq_true_eq, hs, List.all_append, List.all_cons, h3]
  refine ⟨h4, ⟨by decide, by decide⟩, ⟨List.all_eq_true.2 fun c hc => ?_, by decide, by first | rfl | trivial⟩, hp, by simp⟩
  unfold lsB
  rw [h2 c hc, Bool.or_true]
theorem pieces_take {s u t : List UInt8} (h : Pieces s u t) : s.take (third s + 1) = 47 :: 47 :: (u ++ [47]) := by
  rw [(pieces_name h).2, h.1, show 2 + u.length + 1 = (u.length + 1) + 2 by omega, List.take_succ_cons, List.take_succ_cons]
  have : (u ++ 47 :: t).take (u.length + 1) = u ++ [47] := by
    rw [List.take_append, List.take_of_length_le (by omega), show u.length + 1 - u.length = 1 by omega]
    rfl
  rw [this]

theorem node_dtn {e : Epd} (h : checkB e = true) (h1 : e.scheme = 1) (hn : e.name ≠ []) : nodeE e = dtnL ++ e.name.take (third e.name + 1) := by
  unfold nodeE
  have hno : noneB e = false := by
    unfold noneB
    rw [show e.name.isEmpty = false by cases hh : e.name with | nil => exact absurd hh hn | cons _ _ => rfl]
    simp
  rw [if_neg (by rw [h, hno]; decide), if_neg (by omega)]
/-- An endpoint of Dtn that may be, but none: its name's pieces, its texts. -/
theorem dtn_all {e : Epd} (h : checkB e = true) (h1 : e.scheme = 1) (hn : e.name ≠ []) : ∃ u t, Pieces e.name u t ∧ textE e = dtnL ++ 47 :: 47 :: (u ++ 47 :: t) ∧ nodeE e = dtnL ++ 47 :: 47 :: (u ++ [47]) := by
  obtain ⟨u, t, hp⟩ := name_pieces ((check_dtn h h1).2.2.resolve_left hn)
  exact ⟨u, t, hp, by rw [textE_dtn h h1 hn, hp.1], by rw [node_dtn h h1 hn, pieces_take hp]⟩
theorem check_mk {s u t : List UInt8} (h : Pieces s u t) : checkB ⟨1, s, 0, 0⟩ = true := by
  unfold checkB
  rw [if_pos rfl, (pieces_name h).1]
  simp
theorem nodeE_ipn {e : Epd} (h : checkB e = true) (h2 : e.scheme = 2) : nodeE e = ipnL ++ (decDigits e.node ++ [46, 48]) := by
  unfold nodeE
  have hno : noneB e = false := by unfold noneB; rw [show (e.scheme == 1) = false by rw [h2]; decide]; rfl
  rw [if_neg (by rw [h, hno]; decide), if_pos h2]
/-- Nodes of Ipn are told by their number. -/
theorem node_ipn_iff {a b : Epd} (ha : checkB a = true) (hb : checkB b = true) (a2 : a.scheme = 2) (b2 : b.scheme = 2) : nodeE a = nodeE b ↔ a.node = b.node := by
  rw [nodeE_ipn ha a2, nodeE_ipn hb b2]
  constructor
  · intro h
    exact dec_inj _ _ (dot_split _ _ [48] [48] (dec_no_dot _) (dec_no_dot _) (List.append_cancel_left h)).1
  · intro h; rw [h]
/-- A node's text is an endpoint's, whose node it is. -/
theorem node_text {e : Epd} (h : checkB e = true) (hn : noneB e = false) : ∃ n : Epd, checkB n = true ∧ textE n = nodeE e ∧ nodeE n = nodeE e ∧ n.scheme = e.scheme ∧ (nodeE e).length ≤ (textE e).length + 2 := by
  by_cases h1 : e.scheme = 1
  · have hne : e.name ≠ [] := by
      intro h0
      obtain ⟨a, b, _⟩ := check_dtn h h1
      unfold noneB at hn
      rw [h1, h0, a, b] at hn
      simp at hn
    obtain ⟨u, t, hp, ht, hnd⟩ := dtn_all h h1 hne
    have hp2 : Pieces (47 :: 47 :: (u ++ [47])) u [] := ⟨rfl, hp.2.1, hp.2.2.1, rfl, by have := hp.2.2.2.2; rw [hp.1] at this; simp at this ⊢; omega⟩
    have hc := check_mk hp2
    have htx : textE ⟨1, 47 :: 47 :: (u ++ [47]), 0, 0⟩ = dtnL ++ 47 :: 47 :: (u ++ [47]) := textE_dtn hc rfl (by simp)
    refine ⟨⟨1, 47 :: 47 :: (u ++ [47]), 0, 0⟩, hc, by rw [htx, hnd], ?_, h1.symm, by rw [ht, hnd]; simp; omega⟩
    rw [hnd, node_dtn hc rfl (by simp), pieces_take hp2]
  · obtain ⟨h2, hnm, hn0, hn1, _⟩ := check_ipn h h1
    have hc : checkB ⟨2, [], e.node, 0⟩ = true := by unfold checkB; rw [if_neg (show ¬ (2 : Int) = 1 by decide)]; simp; omega
    refine ⟨⟨2, [], e.node, 0⟩, hc, ?_, ?_, h2.symm, ?_⟩
    · rw [textE_ipn hc rfl, nodeE_ipn h h2, show decDigits 0 = [48] by rw [dec_small (by decide)]; rfl]
    · rw [nodeE_ipn hc rfl, nodeE_ipn h h2]
    · rw [nodeE_ipn h h2, textE_ipn h h2]
      simp
      omega
theorem slash_split : ∀ (a b r t : List UInt8), (∀ c ∈ a, c ≠ 47) → (∀ c ∈ b, c ≠ 47) → a ++ 47 :: r = b ++ 47 :: t → a = b ∧ r = t
  | [], [], r, t, _, _, h => by simpa using h
  | [], y :: b, r, t, _, hb, h => by
    simp only [List.nil_append, List.cons_append, List.cons.injEq] at h
    exact absurd h.1.symm (hb y (by simp))
  | x :: a, [], r, t, ha, _, h => by
    simp only [List.nil_append, List.cons_append, List.cons.injEq] at h
    exact absurd h.1 (ha x (by simp))
  | x :: a, y :: b, r, t, ha, hb, h => by
    simp only [List.cons_append, List.cons.injEq] at h
    obtain ⟨h1, h2⟩ := slash_split a b r t (fun c hc => ha c (by simp [hc])) (fun c hc => hb c (by simp [hc])) h.2
    exact ⟨by rw [h.1, h1], h2⟩
/-- Behind a node's text: what may stand there. -/
theorem home_text {e : Epd} (h : checkB e = true) (h1 : e.scheme = 1) (hn : e.name ≠ []) (rest : List UInt8) (fine : Bool) (hf : fine = (decide ((nodeE e).length + rest.length ≤ 68) && rest.all lsB)) :
    (fine = true → ∃ f : Epd, checkB f = true ∧ textE f = nodeE e ++ rest ∧ nodeE f = nodeE e) ∧ (fine = false → ¬ ∃ f : Epd, checkB f = true ∧ textE f = nodeE e ++ rest) ∧ ∃ t, textE e = nodeE e ++ t := by
  obtain ⟨u, t, hp, ht, hnd⟩ := dtn_all h h1 hn
  refine ⟨?_, ?_, t, by rw [ht, hnd]; simp⟩
  · intro h3
    rw [hf, Bool.and_eq_true, decide_eq_true_eq, hnd] at h3
    have hp2 : Pieces (47 :: 47 :: (u ++ 47 :: rest)) u rest := ⟨rfl, hp.2.1, hp.2.2.1, h3.2, by have := h3.1; simp [dtnL] at this ⊢; omega⟩
    have hc := check_mk hp2
    refine ⟨⟨1, 47 :: 47 :: (u ++ 47 :: rest), 0, 0⟩, hc, ?_, ?_⟩
    · rw [textE_dtn hc rfl (by simp), hnd]; simp
    · rw [hnd, node_dtn hc rfl (by simp), pieces_take hp2]
  · rintro h3 ⟨f, hc, hft⟩
    rw [hnd] at hft
    by_cases f1 : f.scheme = 1
    · by_cases f0 : f.name = []
      · rw [textE_none hc f1 f0] at hft
        simp [dtnL, noneL] at hft
      · obtain ⟨u', t', hp', ht', _⟩ := dtn_all hc f1 f0
        rw [ht', List.append_assoc] at hft
        have h4 := List.append_cancel_left hft
        simp only [List.cons_append, List.append_assoc, List.cons.injEq, true_and, List.nil_append] at h4
        have h5 := slash_split u' u t' rest (fun c hc => letter_no_slash (hp'.2.2.1 c hc)) (fun c hc => letter_no_slash (hp.2.2.1 c hc)) h4
        obtain ⟨rfl, rfl⟩ := h5
        rw [hf] at h3
        have hl := hp'.2.2.2.2
        rw [hp'.1] at hl
        rw [hp'.2.2.2.1, Bool.and_true, decide_eq_false_iff_not, hnd] at h3
        simp [dtnL] at h3 hl
        omega
    · obtain ⟨f2, _⟩ := check_ipn hc f1
      rw [textE_ipn hc f2] at hft
      simp [dtnL, ipnL] at hft
end Go.Proofs.YtanbjifdcplmnaaGreatDoor
/- Sums of bytes by a shift register over n bits, as plain functions: that it is linear, that a burst no longer than n is told, and what bytes with their own sum behind them come to. No program's number stands here. -/
namespace Go.Proofs.YtanbjifdcplmnaaGreatDoor

section
variable {n : Nat}

/-- One step: shifted to the right, and put together with p if a one went out. -/
def stp (p c : BitVec n) : BitVec n := if c.getLsbD 0 then (c >>> 1) ^^^ p else c >>> 1
/-- k steps. -/
def stpN (p : BitVec n) : Nat → BitVec n → BitVec n
  | 0, c => c
  | k + 1, c => stpN p k (stp p c)

theorem stp_xor (p a b : BitVec n) : stp p (a ^^^ b) = stp p a ^^^ stp p b := by
  unfold stp
  rw [BitVec.getLsbD_xor, BitVec.ushiftRight_xor_distrib]
  cases a.getLsbD 0 <;> cases b.getLsbD 0 <;> simp
  · rw [BitVec.xor_assoc]
  · rw [BitVec.xor_assoc, BitVec.xor_assoc, BitVec.xor_comm p]
  · rw [show a >>> 1 ^^^ p ^^^ (b >>> 1 ^^^ p) = a >>> 1 ^^^ b >>> 1 ^^^ (p ^^^ p) by ac_rfl, BitVec.xor_self, BitVec.xor_zero]
theorem stp_zero (p : BitVec n) : stp p 0#n = 0#n := by simp [stp]
theorem stpN_xor (p : BitVec n) : ∀ (k : Nat) (a b : BitVec n), stpN p k (a ^^^ b) = stpN p k a ^^^ stpN p k b
  | 0, _, _ => rfl
  | k + 1, a, b => by rw [stpN, stp_xor, stpN_xor p k]; rfl
theorem stpN_zero (p : BitVec n) : ∀ k, stpN p k 0#n = 0#n
  | 0 => rfl
  | k + 1 => by rw [stpN, stp_zero, stpN_zero p k]

/-- Nothing but nought comes to nought, if p's highest bit is one. -/
theorem stp_eq_zero (p c : BitVec n) (hp : p.msb = true) (h : stp p c = 0#n) : c = 0#n := by
  unfold stp at h
  by_cases hc : c.getLsbD 0
  · rw [if_pos hc] at h
    have e : c >>> 1 = p := by
      have := congrArg (· ^^^ p) h
      simpa [BitVec.xor_assoc] using this
    rw [← e] at hp
    have hn : 0 < n := by
      rcases Nat.eq_zero_or_pos n with h0 | h0
      · subst h0; simp [BitVec.msb_eq_getLsbD_last] at hp
      · exact h0
    simp [BitVec.msb_eq_getLsbD_last, BitVec.getLsbD_ushiftRight] at hp
    have := BitVec.getLsbD_of_ge c (1 + (n - 1)) (by omega)
    rw [this] at hp
    cases hp
  · rw [if_neg hc] at h
    apply BitVec.eq_of_getLsbD_eq
    intro i hi
    rcases i with _ | i
    · simpa using hc
    · have := congrArg (fun v : BitVec n => v.getLsbD i) h
      simp [BitVec.getLsbD_ushiftRight] at this
      rw [Nat.add_comm]
      simpa using this
theorem stpN_eq_zero (p : BitVec n) (hp : p.msb = true) : ∀ (k : Nat) (c : BitVec n), stpN p k c = 0#n → c = 0#n
  | 0, _, h => h
  | k + 1, c, h => stp_eq_zero p c hp (stpN_eq_zero p hp k _ h)

/-! ### Bit by bit -/

/-- A bit as a number. -/
def b1 (n : Nat) (b : Bool) : BitVec n := if b then 1#n else 0#n
/-- A row of bits, the lowest first, goes through. -/
def fb (p : BitVec n) (c : BitVec n) (l : List Bool) : BitVec n := l.foldl (fun c b => stp p (c ^^^ b1 n b)) c
/-- A row of bits as a number, the lowest first. -/
def vl (n : Nat) : List Bool → BitVec n
  | [] => 0#n
  | b :: t => b1 n b ^^^ (vl n t <<< 1)

theorem vl_bit : ∀ (l : List Bool) (i : Nat), i < n → (vl n l).getLsbD i = l.getD i false
  | [], i, _ => by simp [vl, List.getD]
  | b :: t, 0, h => by
    have h1 : (b1 n b).getLsbD 0 = b := by cases b <;> simp [b1, h]
    simp [vl, BitVec.getLsbD_xor, h1, BitVec.getLsbD_shiftLeft, List.getD]
  | b :: t, i + 1, h => by
    have h1 : (b1 n b).getLsbD (i + 1) = false := by cases b <;> simp [b1]
    have h2 := vl_bit t i (by omega)
    rw [vl, BitVec.getLsbD_xor, h1, BitVec.getLsbD_shiftLeft, Nat.add_sub_cancel, h2]
    simp [h, List.getD]

theorem stp_shl (p v : BitVec n) (hn : 0 < n) (hv : v.getLsbD (n - 1) = false) : stp p (v <<< 1) = v := by
  unfold stp
  rw [if_neg (by simp [BitVec.getLsbD_shiftLeft])]
  apply BitVec.eq_of_getLsbD_eq
  intro i hi
  rw [BitVec.getLsbD_ushiftRight, BitVec.getLsbD_shiftLeft]
  by_cases h : 1 + i < n
  · simp [h]
  · have e : i = n - 1 := by omega
    subst e
    rw [hv]
    simp [h]

/-- No more bits than the register has: they might have been put in all at once. -/
theorem fb_vl (p : BitVec n) : ∀ (l : List Bool) (c : BitVec n), l.length ≤ n → fb p c l = stpN p l.length (c ^^^ vl n l)
  | [], c, _ => by simp [fb, vl, stpN]
  | b :: t, c, h => by
    have ht : t.length + 1 ≤ n := by simpa using h
    have e : fb p c (b :: t) = fb p (stp p (c ^^^ b1 n b)) t := rfl
    have hv : (vl n t).getLsbD (n - 1) = false := by
      rw [vl_bit t (n - 1) (by omega)]
      simp only [List.getD]
      rw [List.getElem?_eq_none (by omega)]
      rfl
    rw [e, fb_vl p t _ (by omega), List.length_cons, stpN, vl, ← BitVec.xor_assoc, stp_xor p (c ^^^ b1 n b), stp_shl p (vl n t) (by omega) hv]

theorem vl_zero (l : List Bool) (hl : l.length ≤ n) (h : vl n l = 0#n) : ∀ b ∈ l, b = false := by
  intro b hb
  obtain ⟨i, hi, e⟩ := List.getElem_of_mem hb
  have := vl_bit (n := n) l i (by omega)
  rw [h] at this
  simp [List.getD, hi] at this
  rw [← e]; exact this

theorem fb_append (p c : BitVec n) (l m : List Bool) : fb p c (l ++ m) = fb p (fb p c l) m := by simp [fb, List.foldl_append]
theorem fb_false (p : BitVec n) : ∀ (l : List Bool) (c : BitVec n), (∀ b ∈ l, b = false) → fb p c l = stpN p l.length c
  | [], _, _ => rfl
  | b :: t, c, h => by
    have hb : b = false := h b (by simp)
    subst hb
    have e : fb p c (false :: t) = fb p (stp p (c ^^^ b1 n false)) t := rfl
    rw [e, fb_false p t _ (fun b hb => h b (by simp [hb]))]
    simp [b1, stpN]

theorem fb_xor (p : BitVec n) : ∀ (l m : List Bool) (a b : BitVec n), l.length = m.length → fb p (a ^^^ b) (List.zipWith (· ^^ ·) l m) = fb p a l ^^^ fb p b m
  | [], [], _, _, _ => rfl
  | [], _ :: _, _, _, h => by simp at h
  | _ :: _, [], _, _, h => by simp at h
  | x :: l, y :: m, a, b, h => by
    have hb : b1 n (x ^^ y) = b1 n x ^^^ b1 n y := by cases x <;> cases y <;> simp [b1]
    have e1 : fb p (a ^^^ b) (List.zipWith (· ^^ ·) (x :: l) (y :: m)) = fb p (stp p ((a ^^^ b) ^^^ b1 n (x ^^ y))) (List.zipWith (· ^^ ·) l m) := rfl
    have e2 : fb p a (x :: l) = fb p (stp p (a ^^^ b1 n x)) l := rfl
    have e3 : fb p b (y :: m) = fb p (stp p (b ^^^ b1 n y)) m := rfl
    rw [e1, e2, e3, hb, show a ^^^ b ^^^ (b1 n x ^^^ b1 n y) = (a ^^^ b1 n x) ^^^ (b ^^^ b1 n y) by ac_rfl, stp_xor, fb_xor p l m _ _ (by simpa using h)]

/-- A burst no longer than the register is told: noughts, then no more than n bits, then noughts, come to nought only if all are nought. -/
theorem fb_burst (p : BitVec n) (hp : p.msb = true) (a w z : List Bool) (ha : ∀ b ∈ a, b = false) (hz : ∀ b ∈ z, b = false) (hw : w.length ≤ n) (h : fb p 0#n (a ++ w ++ z) = 0#n) : ∀ b ∈ w, b = false := by
  rw [fb_append, fb_append, fb_false p a _ ha, stpN_zero, fb_false p z _ hz] at h
  have h1 := stpN_eq_zero p hp _ _ h
  rw [fb_vl p w _ hw, BitVec.zero_xor] at h1
  exact vl_zero w hw (stpN_eq_zero p hp _ _ h1)

theorem xor_false_eq {a b : Bool} (h : (a ^^ b) = false) : a = b := by cases a <;> cases b <;> simp_all
/-- Two rows that differ in a window of n bits alone come to the same only if they are the same. -/
theorem fb_tells (p : BitVec n) (hp : p.msb = true) (c : BitVec n) (l m : List Bool) (hl : l.length = m.length) (from_ : Nat) (hw : ∀ i, i < l.length → l.getD i false ≠ m.getD i false → from_ ≤ i ∧ i < from_ + n)
    (h : fb p c l = fb p c m) : l = m := by
  have hx := fb_xor p l m c c hl
  rw [BitVec.xor_self, h, BitVec.xor_self] at hx
  generalize he : List.zipWith (· ^^ ·) l m = e at hx
  have hel : e.length = l.length := by rw [← he]; simp [hl]
  have hei : ∀ i, i < l.length → e.getD i false = (l.getD i false ^^ m.getD i false) := by
    intro i hi
    have hi' : i < m.length := by omega
    rw [← he, List.getD_eq_getElem?_getD, List.getD_eq_getElem?_getD, List.getD_eq_getElem?_getD, List.getElem?_zipWith, List.getElem?_eq_getElem hi, List.getElem?_eq_getElem hi']
    rfl
  have hsplit : e = e.take from_ ++ (e.drop from_).take n ++ (e.drop from_).drop n := by
    rw [List.append_assoc, List.take_append_drop, List.take_append_drop]
  have hout : ∀ i, i < l.length → ¬ (from_ ≤ i ∧ i < from_ + n) → e.getD i false = false := by
    intro i hi hni
    rw [hei i hi]
    have : l.getD i false = m.getD i false := by
      rcases Classical.em (l.getD i false = m.getD i false) with h | h
      · exact h
      · exact absurd (hw i hi h) hni
    rw [this]; simp
  have ha : ∀ b ∈ e.take from_, b = false := by
    intro b hb
    obtain ⟨i, hi, eb⟩ := List.getElem_of_mem hb
    have hi2 : i < from_ ∧ i < e.length := by simp at hi; omega
    have := hout i (by omega) (by omega)
    simp [List.getD, hi2.2] at this
    rw [← eb]; simpa using this
  have hz : ∀ b ∈ (e.drop from_).drop n, b = false := by
    intro b hb
    obtain ⟨i, hi, eb⟩ := List.getElem_of_mem hb
    have hi2 : from_ + n + i < e.length := by simp at hi; omega
    have := hout (from_ + n + i) (by omega) (by omega)
    simp [List.getD, hi2] at this
    rw [← eb]
    simp
    exact this
  rw [hsplit] at hx
  have hww := fb_burst p hp _ _ _ ha hz (by simp; omega) hx
  have hall : ∀ b ∈ e, b = false := by
    intro b hb
    rw [hsplit, List.mem_append, List.mem_append] at hb
    rcases hb with (hb | hb) | hb
    · exact ha b hb
    · exact hww b hb
    · exact hz b hb
  apply List.ext_getElem hl
  intro i h1 h2
  have h3 := hei i h1
  have h4 : e.getD i false = false := by
    have hi : i < e.length := by omega
    simp [List.getD, hi]
    exact hall _ (List.getElem_mem hi)
  rw [h4, List.getD_eq_getElem?_getD, List.getD_eq_getElem?_getD, List.getElem?_eq_getElem h1, List.getElem?_eq_getElem h2, Option.getD_some, Option.getD_some] at h3
  exact xor_false_eq h3.symm

/-! ### Byte by byte -/

/-- A byte's bits, the lowest first. -/
def bits8 (x : UInt8) : List Bool := (List.range 8).map fun i => x.toNat.testBit i
/-- A byte is put to the lowest eight bits, then eight steps. -/
def byt (p c : BitVec n) (x : UInt8) : BitVec n := stpN p 8 (c ^^^ BitVec.ofNat n x.toNat)
/-- All bytes. -/
def fB (p c : BitVec n) (l : List UInt8) : BitVec n := l.foldl (byt p) c
def bitsOf (l : List UInt8) : List Bool := l.flatMap bits8

theorem bits8_length (x : UInt8) : (bits8 x).length = 8 := by simp [bits8]
theorem bits8_at (x : UInt8) (i : Nat) (h : i < 8) : (bits8 x)[i]? = some (x.toNat.testBit i) := by simp [bits8, h]
theorem vl_bits8 (x : UInt8) : vl n (bits8 x) = BitVec.ofNat n x.toNat := by
  apply BitVec.eq_of_getLsbD_eq
  intro i hi
  rw [vl_bit _ _ hi, BitVec.getLsbD_ofNat, List.getD_eq_getElem?_getD]
  by_cases h8 : i < 8
  · rw [bits8_at x i h8]; simp [hi]
  · rw [List.getElem?_eq_none (by rw [bits8_length]; omega)]
    have hlt : x.toNat < 2 ^ i := Nat.lt_of_lt_of_le x.toNat_lt (Nat.pow_le_pow_right (by decide) (by omega))
    simp [Nat.testBit_lt_two_pow hlt]
theorem byt_fb (p c : BitVec n) (x : UInt8) (h : 8 ≤ n) : byt p c x = fb p c (bits8 x) := by
  rw [fb_vl p _ _ (by rw [bits8_length]; exact h), bits8_length, vl_bits8 x]; rfl
theorem fB_fb (p : BitVec n) (h : 8 ≤ n) : ∀ (l : List UInt8) (c : BitVec n), fB p c l = fb p c (bitsOf l)
  | [], _ => rfl
  | x :: l, c => by
    have e : fB p c (x :: l) = fB p (byt p c x) l := rfl
    rw [e, fB_fb p h l, byt_fb p c x h, show bitsOf (x :: l) = bits8 x ++ bitsOf l from rfl, fb_append]
theorem bitsOf_length (l : List UInt8) : (bitsOf l).length = 8 * l.length := by
  induction l with
  | nil => rfl
  | cons x l ih => rw [bitsOf, List.flatMap_cons, List.length_append, bits8_length, ← bitsOf, ih, List.length_cons]; omega
theorem bitsOf_at : ∀ (l : List UInt8) (i : Nat), (bitsOf l).getD i false = (l.getD (i / 8) 0).toNat.testBit (i % 8)
  | [], i => by simp [bitsOf]
  | x :: l, i => by
    rw [bitsOf, List.flatMap_cons, List.getD_eq_getElem?_getD]
    by_cases h : i < 8
    · rw [List.getElem?_append_left (by rw [bits8_length]; exact h), bits8_at x i h, Nat.div_eq_of_lt h, Nat.mod_eq_of_lt h]; rfl
    · rw [List.getElem?_append_right (by rw [bits8_length]; omega), bits8_length]
      have ih := bitsOf_at l (i - 8)
      rw [List.getD_eq_getElem?_getD] at ih
      rw [show l.flatMap bits8 = bitsOf l from rfl, ih, show (i - 8) % 8 = i % 8 by omega, show i / 8 = (i - 8) / 8 + 1 by omega]
      simp [List.getD]
theorem byte_ext {x y : UInt8} (h : ∀ i, i < 8 → x.toNat.testBit i = y.toNat.testBit i) : x = y := by
  apply UInt8.toNat_inj.1
  apply Nat.eq_of_testBit_eq
  intro i
  by_cases h8 : i < 8
  · exact h i h8
  · have hx : x.toNat < 2 ^ i := Nat.lt_of_lt_of_le x.toNat_lt (Nat.pow_le_pow_right (by decide) (by omega))
    have hy : y.toNat < 2 ^ i := Nat.lt_of_lt_of_le y.toNat_lt (Nat.pow_le_pow_right (by decide) (by omega))
    rw [Nat.testBit_lt_two_pow hx, Nat.testBit_lt_two_pow hy]
theorem bitsOf_inj {l m : List UInt8} (hl : l.length = m.length) (h : bitsOf l = bitsOf m) : l = m := by
  apply List.ext_getElem hl
  intro i h1 h2
  apply byte_ext
  intro j hj
  have e1 := bitsOf_at l (8 * i + j)
  have e2 := bitsOf_at m (8 * i + j)
  rw [h, e2] at e1
  rw [show (8 * i + j) / 8 = i by omega, show (8 * i + j) % 8 = j by omega] at e1
  rw [List.getD_eq_getElem?_getD, List.getD_eq_getElem?_getD, List.getElem?_eq_getElem h1, List.getElem?_eq_getElem h2] at e1
  exact e1.symm

/-- BURSTS ARE TOLD: of two rows of bytes, as long, that differ in a window of n bits alone, the sums are the same only if they are the same. -/
theorem fB_tells (p : BitVec n) (hn : 8 ≤ n) (hp : p.msb = true) (c : BitVec n) (l m : List UInt8) (hl : l.length = m.length) (from_ : Nat)
    (hw : ∀ i, i < 8 * l.length → (l.getD (i / 8) 0).toNat.testBit (i % 8) ≠ (m.getD (i / 8) 0).toNat.testBit (i % 8) → from_ ≤ i ∧ i < from_ + n)
    (h : fB p c l = fB p c m) : l = m := by
  rw [fB_fb p hn, fB_fb p hn] at h
  refine bitsOf_inj hl (fb_tells p hp c _ _ (by rw [bitsOf_length, bitsOf_length, hl]) from_ (fun i hi hne => ?_) h)
  rw [bitsOf_length] at hi
  rw [bitsOf_at, bitsOf_at] at hne
  exact hw i hi hne

theorem byt_xor (p a b : BitVec n) (x y : UInt8) : byt p (a ^^^ b) (x ^^^ y) = byt p a x ^^^ byt p b y := by
  unfold byt
  have e : BitVec.ofNat n (x ^^^ y).toNat = BitVec.ofNat n x.toNat ^^^ BitVec.ofNat n y.toNat := by
    apply BitVec.eq_of_getLsbD_eq
    intro i hi
    simp [hi]
  rw [e, show a ^^^ b ^^^ (BitVec.ofNat n x.toNat ^^^ BitVec.ofNat n y.toNat) = (a ^^^ BitVec.ofNat n x.toNat) ^^^ (b ^^^ BitVec.ofNat n y.toNat) by ac_rfl, stpN_xor]
/-- SUMS ARE LINEAR. -/
theorem fB_xor (p : BitVec n) : ∀ (l m : List UInt8) (a b : BitVec n), l.length = m.length → fB p (a ^^^ b) (List.zipWith (· ^^^ ·) l m) = fB p a l ^^^ fB p b m
  | [], [], _, _, _ => rfl
  | [], _ :: _, _, _, h => by simp at h
  | _ :: _, [], _, _, h => by simp at h
  | x :: l, y :: m, a, b, h => by
    have e1 : fB p (a ^^^ b) (List.zipWith (· ^^^ ·) (x :: l) (y :: m)) = fB p (byt p (a ^^^ b) (x ^^^ y)) (List.zipWith (· ^^^ ·) l m) := rfl
    rw [e1, byt_xor, fB_xor p l m _ _ (by simpa using h)]
    rfl
theorem fB_append (p c : BitVec n) (l m : List UInt8) : fB p c (l ++ m) = fB p (fB p c l) m := by simp [fB, List.foldl_append]
theorem fB_snoc (p c : BitVec n) (l : List UInt8) (x : UInt8) : fB p c (l ++ [x]) = byt p (fB p c l) x := by rw [fB_append]; rfl

/-- Bytes whose bits are those of v go in at once. -/
theorem fB_once (p c v : BitVec n) (m : List UInt8) (hn : 8 ≤ n) (hm : 8 * m.length = n) (hv : ∀ i, i < n → v.getLsbD i = (m.getD (i / 8) 0).toNat.testBit (i % 8)) : fB p c m = stpN p n (c ^^^ v) := by
  rw [fB_fb p hn, fb_vl p _ _ (by rw [bitsOf_length]; omega), bitsOf_length, hm]
  congr 2
  apply BitVec.eq_of_getLsbD_eq
  intro i hi
  rw [vl_bit _ _ hi, bitsOf_at, hv i hi]
end

/-! ### The two sums of layer 2 -/
def p16 : BitVec 16 := 0x8408#16
def p32 : BitVec 32 := 0x82f63b78#32
def s16 (l : List UInt8) : BitVec 16 := ~~~ fB p16 0xffff#16 l
def s32 (l : List UInt8) : BitVec 32 := ~~~ fB p32 0xffffffff#32 l

theorem le16 (v : BitVec 16) (i : Nat) (hi : i < 16) : v.getLsbD i = (([UInt8.ofNat v.toNat, UInt8.ofNat (v.toNat / 256)] : List UInt8).getD (i / 8) 0).toNat.testBit (i % 8) := by
  have e : v.getLsbD i = v.toNat.testBit i := rfl
  rw [e]
  by_cases h : i < 8
  · rw [Nat.div_eq_of_lt h, Nat.mod_eq_of_lt h]
    show _ = (UInt8.ofNat v.toNat).toNat.testBit i
    rw [UInt8.toNat_ofNat', Nat.testBit_mod_two_pow]
    simp [h]
  · rw [show i / 8 = 1 by omega]
    show _ = (UInt8.ofNat (v.toNat / 256)).toNat.testBit (i % 8)
    rw [UInt8.toNat_ofNat', Nat.testBit_mod_two_pow, show (256 : Nat) = 2 ^ 8 from rfl, Nat.testBit_div_two_pow, show i % 8 + 8 = i by omega]
    simp
    omega
theorem le32 (v : BitVec 32) (i : Nat) (hi : i < 32) : v.getLsbD i = (([UInt8.ofNat v.toNat, UInt8.ofNat (v.toNat / 256), UInt8.ofNat (v.toNat / 65536), UInt8.ofNat (v.toNat / 16777216)] : List UInt8).getD (i / 8) 0).toNat.testBit (i % 8) := by
  have e : v.getLsbD i = v.toNat.testBit i := rfl
  rw [e]
  have hm : i % 8 < 8 := Nat.mod_lt _ (by decide)
  rcases (by omega : i / 8 = 0 ∨ i / 8 = 1 ∨ i / 8 = 2 ∨ i / 8 = 3) with h | h | h | h <;> rw [h]
  · show _ = (UInt8.ofNat v.toNat).toNat.testBit (i % 8)
    rw [UInt8.toNat_ofNat', Nat.testBit_mod_two_pow, show i % 8 = i by omega]
    simp; omega
  · show _ = (UInt8.ofNat (v.toNat / 256)).toNat.testBit (i % 8)
    rw [UInt8.toNat_ofNat', Nat.testBit_mod_two_pow, show (256 : Nat) = 2 ^ 8 from rfl, Nat.testBit_div_two_pow, show i % 8 + 8 = i by omega]
    simp; omega
  · show _ = (UInt8.ofNat (v.toNat / 65536)).toNat.testBit (i % 8)
    rw [UInt8.toNat_ofNat', Nat.testBit_mod_two_pow, show (65536 : Nat) = 2 ^ 16 from rfl, Nat.testBit_div_two_pow, show i % 8 + 16 = i by omega]
    simp; omega
  · show _ = (UInt8.ofNat (v.toNat / 16777216)).toNat.testBit (i % 8)
    rw [UInt8.toNat_ofNat', Nat.testBit_mod_two_pow, show (16777216 : Nat) = 2 ^ 24 from rfl, Nat.testBit_div_two_pow, show i % 8 + 24 = i by omega]
    simp; omega

theorem xor_not {n : Nat} (v : BitVec n) : v ^^^ ~~~ v = BitVec.allOnes n := by
  apply BitVec.eq_of_getLsbD_eq
  intro i hi
  simp [hi]
/-- Bytes with their own sum behind them, the lowest byte first, have one and the same sum. -/
theorem s16_goes (l : List UInt8) : s16 (l ++ [UInt8.ofNat (s16 l).toNat, UInt8.ofNat ((s16 l).toNat / 256)]) = 0x0f47#16 := by
  generalize hs : s16 l = v
  show ~~~ fB p16 0xffff#16 (l ++ _) = _
  rw [fB_append, fB_once p16 _ v _ (by decide) rfl (le16 v), ← hs]
  unfold s16
  rw [xor_not]
  decide +kernel
theorem s32_goes (l : List UInt8) : s32 (l ++ [UInt8.ofNat (s32 l).toNat, UInt8.ofNat ((s32 l).toNat / 256), UInt8.ofNat ((s32 l).toNat / 65536), UInt8.ofNat ((s32 l).toNat / 16777216)]) = 0x48674bc7#32 := by
  generalize hs : s32 l = v
  show ~~~ fB p32 0xffffffff#32 (l ++ _) = _
  rw [fB_append, fB_once p32 _ v _ (by decide) rfl (le32 v), ← hs]
  unfold s32
  rw [xor_not]
  decide +kernel
end Go.Proofs.YtanbjifdcplmnaaGreatDoor
/- What the reference of layer 2 returns: Short and Long as 's16' and 's32' of the bytes; Bytes. -/
namespace Go.Proofs.YtanbjifdcplmnaaGreatDoor
open Go.RowKit

theorem stpN_succ {n : Nat} (p : BitVec n) : ∀ (k : Nat) (c : BitVec n), stpN p (k + 1) c = stp p (stpN p k c)
  | 0, _ => rfl
  | k + 1, c => by rw [stpN, stpN_succ p k, ← stpN]

/-- A step, as numbers: no one goes out. -/
theorem stp_even {n : Nat} (p c : BitVec n) (h : c.toNat % 2 = 0) : (stp p c).toNat = c.toNat / 2 := by
  have e : c.getLsbD 0 = false := by simp [BitVec.getLsbD, Nat.testBit_zero, h]
  unfold stp
  rw [if_neg (by rw [e]; simp), BitVec.toNat_ushiftRight, Nat.shiftRight_eq_div_pow]
theorem stp_odd {n : Nat} (p c : BitVec n) (h : c.toNat % 2 = 1) : (stp p c).toNat = c.toNat / 2 ^^^ p.toNat := by
  have e : c.getLsbD 0 = true := by simp [BitVec.getLsbD, Nat.testBit_zero, h]
  unfold stp
  rw [if_pos e, BitVec.toNat_xor, BitVec.toNat_ushiftRight, Nat.shiftRight_eq_div_pow]
theorem fB_take (l : List UInt8) (n : Nat) (p c : BitVec n) (k : Nat) (h : k < l.length) : fB p c (l.take (k + 1)) = stpN p 8 (fB p c (l.take k) ^^^ BitVec.ofNat n (l.getD k 0).toNat) := by
  rw [take_more l k h, fB_snoc]; rfl

theorem byte16 (d : BitVec 16) (x : UInt8) : Value.int .u16 (bits BinOp.xor .u16 (d.toNat : Int) (x.toNat : Int)) = .int .u16 ((d ^^^ BitVec.ofNat 16 x.toNat).toNat : Int) := by
  have h1 := d.isLt
  have h2 := x.toNat_lt
  rw [u16_xor_nat _ _ h1 (by omega), BitVec.toNat_xor, BitVec.toNat_ofNat, Nat.mod_eq_of_lt (by omega)]
theorem byte32 (d : BitVec 32) (x : UInt8) : Value.int .u32 (bits BinOp.xor .u32 (d.toNat : Int) (x.toNat : Int)) = .int .u32 ((d ^^^ BitVec.ofNat 32 x.toNat).toNat : Int) := by
  have h1 := d.isLt
  have h2 := x.toNat_lt
  rw [u32_xor_nat _ _ h1 (by omega), BitVec.toNat_xor, BitVec.toNat_ofNat, Nat.mod_eq_of_lt (by omega)]
theorem step16 (f : BitVec 16) (h : f.toNat % 2 = 1) : Value.int .u16 (bits BinOp.xor .u16 ((f.toNat : Int) / 2) 33800) = .int .u16 ((stp p16 f).toNat : Int) := by
  have h1 := f.isLt
  have e := u16_xor_nat (f.toNat / 2) 33800 (by omega) (by decide)
  rw [stp_odd _ _ h, show p16.toNat = 33800 from rfl, ← e]
  rfl
theorem step32 (f : BitVec 32) (h : f.toNat % 2 = 1) : Value.int .u32 (bits BinOp.xor .u32 ((f.toNat : Int) / 2) 2197175160) = .int .u32 ((stp p32 f).toNat : Int) := by
  have h1 := f.isLt
  have e := u32_xor_nat (f.toNat / 2) 2197175160 (by omega) (by decide)
  rw [stp_odd _ _ h, show p32.toNat = 2197175160 from rfl, ← e]
  rfl
theorem not16 (d : BitVec 16) : Ending.returned (.int .u16 (65535 - (d.toNat : Int))) = .returned (.int .u16 ((~~~ d).toNat : Int)) := by
  have h := d.isLt
  rw [BitVec.toNat_not]
  exact ret_int (by omega)
theorem not32 (d : BitVec 32) : Ending.returned (.int .u32 (4294967295 - (d.toNat : Int))) = .returned (.int .u32 ((~~~ d).toNat : Int)) := by
  have h := d.isLt
  rw [BitVec.toNat_not]
  exact ret_int (by omega)

set_option maxRecDepth 100000 in
set_option maxHeartbeats 1000000 in
theorem rshort_any (A : Option Addr) (n c B : Nat) (l : List UInt8) (w : World) (h : Rd w B A n l) (hn : n ≤ 140737488355328) :
    Calls Tryz.prog 99 #[.slice A n c] w fun e w' => e = .returned (.int .u16 ((s16 l).toNat : Int)) ∧ w = w' := by
  have HR := Lib.hid h
  clear h
  go_enter Tryz.func99, Tryz.ntmps99
  go_wp2
  go_loop [3, 4] (fun v i => ∃ (k : Nat) (d : BitVec 16), k ≤ n ∧ i = .int .i64 k ∧ v = .int .u16 (d.toNat : Int) ∧ Hid (d = fB p16 0xffff#16 (l.take k))) (fun _ i => n - (intOf i).toNat)
  case atStart => exact ⟨0, 0xffff#16, Nat.zero_le _, rfl, rfl, rfl⟩
  case round =>
    obtain ⟨k, d, hk, rfl, rfl, hd⟩ := hrel
    by_cases hlt : k < n
    · obtain ⟨b, o, rfl, hb, hcell⟩ := HR.out.2 (by omega)
      obtain ⟨x, hx⟩ : ∃ x, x = l.getD k 0 := ⟨_, rfl⟩
      have hcx : w.cell? ⟨b, o + k, none⟩ = some (.int .u8 (x.toNat : Int)) := by rw [hx]; exact hcell k hlt
      have Hx := Lib.hid hx
      clear hx hcell
      have hx1 : (x.toNat : Int) < 256 := by have := x.toNat_lt; omega
      have hx0 : (0 : Int) ≤ (x.toNat : Int) := by omega
      have hd1 : (d.toNat : Int) < 65536 := by have := d.isLt; omega
      go_wp2_with fail
      clear hx0 hx1 hd1
      go_loop [3, 5] (fun v i => ∃ (j : Nat) (f : BitVec 16), j ≤ 8 ∧ i = .int .i64 j ∧ v = .int .u16 (f.toNat : Int) ∧ Hid (f = stpN p16 j (d ^^^ BitVec.ofNat 16 x.toNat))) (fun _ i => 8 - (intOf i).toNat)
      case atStart => exact ⟨0, d ^^^ BitVec.ofNat 16 x.toNat, by omega, rfl, byte16 d x, rfl⟩
      case round =>
        obtain ⟨j, f, hj, rfl, rfl, hf⟩ := hrel
        by_cases hj8 : j < 8
        · obtain ⟨F, hF⟩ : ∃ F, F = f.toNat := ⟨_, rfl⟩
          have hf1 : F < 65536 := by have := f.isLt; omega
          rw [← hF]
          have HF := Lib.hid hF
          clear hF
          rcases Nat.mod_two_eq_zero_or_one F with he | he
          · have ht : ((F : Int) % 2 == 1) = false := by simp; omega
            have HE := Lib.hid he
            clear he
            go_wp2_with fail
            go_round
            case rel => exact ⟨j + 1, stp p16 f, by omega, by go_num, by rw [stp_even _ _ (by rw [← HF.out]; exact HE.out), ← HF.out]; rfl, by show _ = _; rw [stpN_succ, ← hf.out]⟩
            case measure => simp [intOf]; omega
          · have ht : ((F : Int) % 2 == 1) = true := by simp; omega
            have HE := Lib.hid he
            clear he
            go_wp2_with fail
            go_round
            case rel => exact ⟨j + 1, stp p16 f, by omega, by go_num, by rw [HF.out]; exact step16 f (by rw [← HF.out]; exact HE.out), by show _ = _; rw [stpN_succ, ← hf.out]⟩
            case measure => simp [intOf]; omega
        · obtain rfl : j = 8 := by omega
          go_wp2_with fail
          go_round
          case rel =>
            refine ⟨k + 1, f, by omega, by go_num, rfl, ?_⟩
            show f = _
            rw [fB_take l 16 _ _ k (by have := HR.out.1; omega), ← hd.out, ← Hx.out]
            exact hf.out
          case measure => simp [intOf]; omega
    · obtain rfl : k = n := by omega
      have hl := HR.out.1
      have hfin : s16 l = ~~~ d := by rw [hd.out, List.take_of_length_le (by omega)]; rfl
      have HF := Lib.hid hfin
      have hd1 : (d.toNat : Int) < 65536 := by have := d.isLt; omega
      clear hfin hl
      go_wp2_with fail
      go_ret
      exact ⟨by rw [HF.out]; exact not16 d, rfl⟩
set_option maxRecDepth 100000 in
set_option maxHeartbeats 1000000 in
theorem rlong_any (A : Option Addr) (n c B : Nat) (l : List UInt8) (w : World) (h : Rd w B A n l) (hn : n ≤ 140737488355328) :
    Calls Tryz.prog 100 #[.slice A n c] w fun e w' => e = .returned (.int .u32 ((s32 l).toNat : Int)) ∧ w = w' := by
  have HR := Lib.hid h
  clear h
  go_enter Tryz.func100, Tryz.ntmps100
  go_wp2
  go_loop [3, 4] (fun v i => ∃ (k : Nat) (d : BitVec 32), k ≤ n ∧ i = .int .i64 k ∧ v = .int .u32 (d.toNat : Int) ∧ Hid (d = fB p32 0xffffffff#32 (l.take k))) (fun _ i => n - (intOf i).toNat)
  case atStart => exact ⟨0, 0xffffffff#32, Nat.zero_le _, rfl, rfl, rfl⟩
  case round =>
    obtain ⟨k, d, hk, rfl, rfl, hd⟩ := hrel
    by_cases hlt : k < n
    · obtain ⟨b, o, rfl, hb, hcell⟩ := HR.out.2 (by omega)
      obtain ⟨x, hx⟩ : ∃ x, x = l.getD k 0 := ⟨_, rfl⟩
      have hcx : w.cell? ⟨b, o + k, none⟩ = some (.int .u8 (x.toNat : Int)) := by rw [hx]; exact hcell k hlt
      have Hx := Lib.hid hx
      clear hx hcell
      have hx1 : (x.toNat : Int) < 256 := by have := x.toNat_lt; omega
      have hx0 : (0 : Int) ≤ (x.toNat : Int) := by omega
      have hd1 : (d.toNat : Int) < 4294967296 := by have := d.isLt; omega
      go_wp2_with fail
      clear hx0 hx1 hd1
      go_loop [3, 5] (fun v i => ∃ (j : Nat) (f : BitVec 32), j ≤ 8 ∧ i = .int .i64 j ∧ v = .int .u32 (f.toNat : Int) ∧ Hid (f = stpN p32 j (d ^^^ BitVec.ofNat 32 x.toNat))) (fun _ i => 8 - (intOf i).toNat)
      case atStart => exact ⟨0, d ^^^ BitVec.ofNat 32 x.toNat, by omega, rfl, byte32 d x, rfl⟩
      case round =>
        obtain ⟨j, f, hj, rfl, rfl, hf⟩ := hrel
        by_cases hj8 : j < 8
        · obtain ⟨F, hF⟩ : ∃ F, F = f.toNat := ⟨_, rfl⟩
          have hf1 : F < 4294967296 := by have := f.isLt; omega
          rw [← hF]
          have HF := Lib.hid hF
          clear hF
          rcases Nat.mod_two_eq_zero_or_one F with he | he
          · have ht : ((F : Int) % 2 == 1) = false := by simp; omega
            have HE := Lib.hid he
            clear he
            go_wp2_with fail
            go_round
            case rel => exact ⟨j + 1, stp p32 f, by omega, by go_num, by rw [stp_even _ _ (by rw [← HF.out]; exact HE.out), ← HF.out]; rfl, by show _ = _; rw [stpN_succ, ← hf.out]⟩
            case measure => simp [intOf]; omega
          · have ht : ((F : Int) % 2 == 1) = true := by simp; omega
            have HE := Lib.hid he
            clear he
            go_wp2_with fail
            go_round
            case rel => exact ⟨j + 1, stp p32 f, by omega, by go_num, by rw [HF.out]; exact step32 f (by rw [← HF.out]; exact HE.out), by show _ = _; rw [stpN_succ, ← hf.out]⟩
            case measure => simp [intOf]; omega
        · obtain rfl : j = 8 := by omega
          go_wp2_with fail
          go_round
          case rel =>
            refine ⟨k + 1, f, by omega, by go_num, rfl, ?_⟩
            show f = _
            rw [fB_take l 32 _ _ k (by have := HR.out.1; omega), ← hd.out, ← Hx.out]
            exact hf.out
          case measure => simp [intOf]; omega
    · obtain rfl : k = n := by omega
      have hl := HR.out.1
      have hfin : s32 l = ~~~ d := by rw [hd.out, List.take_of_length_le (by omega)]; rfl
      have HF := Lib.hid hfin
      have hd1 : (d.toNat : Int) < 4294967296 := by have := d.isLt; omega
      clear hfin hl
      go_wp2_with fail
      go_ret
      exact ⟨by rw [HF.out]; exact not32 d, rfl⟩

/-- A sum's bytes. -/
def crcBytes (kind : Int) (l : List UInt8) : List UInt8 := if kind = 1 then be (s16 l).toNat 2 else if kind = 2 then be (s32 l).toNat 4 else []

theorem be2 (v : Nat) : be v 2 = [UInt8.ofNat (v / 256), UInt8.ofNat v] := by simp [be, List.range_succ]
theorem be4 (v : Nat) : be v 4 = [UInt8.ofNat (v / 16777216), UInt8.ofNat (v / 65536), UInt8.ofNat (v / 256), UInt8.ofNat v] := by simp [be, List.range_succ]
/-- A byte of a number as the walk has it. -/
theorem low8 (v : Nat) : Value.int .u8 (v % 256 : Int) = .int .u8 ((UInt8.ofNat v).toNat : Int) := by rw [UInt8.toNat_ofNat']; rfl
theorem low8_of (v : Nat) (h : v < 256) : Value.int .u8 (v : Int) = .int .u8 ((UInt8.ofNat v).toNat : Int) := by rw [UInt8.toNat_ofNat', Nat.mod_eq_of_lt h]

theorem gives_nil (w : World) : Gives [] w (.returned (.slice none 0 0)) w := ⟨none, 0, 0, rfl, Rd.nil_, Nat.le_refl _, Below.refl _ _⟩
theorem gives_lit (w : World) (t : TypeId) (l : List UInt8) (cs : Array Value) (n : Nat) (hn : l.length = n) (hcs : cs = (l.map fun x => Value.int .u8 (x.toNat : Int)).toArray) :
    Gives l w (.returned (.slice (some ⟨w.heap.size, 0, none⟩) n n)) (w.alloc (.cells cs t)) :=
  ⟨_, n, n, rfl, (Rd.lit w _ rfl l t cs hcs n hn).more (by simp), Nat.le_refl _, (Below.refl _ _).alloc (Nat.le_refl _) _⟩

theorem cs2 (v : Nat) (h : v < 65536) : #[Value.int .u8 ((v : Int) / 256), .int .u8 ((v : Int) % 256)] = (([UInt8.ofNat (v / 256), UInt8.ofNat v] : List UInt8).map fun x => Value.int .u8 (x.toNat : Int)).toArray := by
  rw [low8 v, show (v : Int) / 256 = ((v / 256 : Nat) : Int) from rfl, low8_of (v / 256) (by omega)]
  rfl
theorem cs4 (v : Nat) (h : v < 4294967296) : #[Value.int .u8 ((v : Int) / 16777216), .int .u8 ((v : Int) / 65536 % 256), .int .u8 ((v : Int) / 256 % 256), .int .u8 ((v : Int) % 256)] =
    (([UInt8.ofNat (v / 16777216), UInt8.ofNat (v / 65536), UInt8.ofNat (v / 256), UInt8.ofNat v] : List UInt8).map fun x => Value.int .u8 (x.toNat : Int)).toArray := by
  rw [low8 v, show (v : Int) / 256 = ((v / 256 : Nat) : Int) from rfl, show (v : Int) / 65536 = ((v / 65536 : Nat) : Int) from rfl, show (v : Int) / 16777216 = ((v / 16777216 : Nat) : Int) from rfl,
    low8 (v / 256), low8 (v / 65536), low8_of (v / 16777216) (by omega)]
  rfl

set_option maxRecDepth 100000 in
set_option maxHeartbeats 1000000 in
theorem crbytes_any (kind : Int) (A : Option Addr) (n c B : Nat) (l : List UInt8) (w : World) (h : Rd w B A n l) (hn : n ≤ 140737488355328) :
    Calls Tryz.prog 73 #[.int .i64 kind, .slice A n c] w (Gives (crcBytes kind l) w) := by
  have c1 := rshort_any A n c B l w h hn
  have c2 := rlong_any A n c B l w h hn
  have v1 := (s16 l).isLt
  have v2 := (s32 l).isLt
  clear h
  by_cases h1 : kind = 1
  · subst h1
    rw [show crcBytes 1 l = be (s16 l).toNat 2 from rfl, be2]
    generalize (s16 l).toNat = v at *
    have C1 := Lib.hid c1
    clear c1 c2
    go_enter Tryz.func73, Tryz.ntmps73
    go_wp2_with fail
    refine C1.out.mono ?_
    rintro e w' ⟨rfl, rfl⟩
    go_wp2_with fail
    go_ret
    exact gives_lit w _ _ _ 2 rfl (cs2 v v1)
  · by_cases h2 : kind = 2
    · subst h2
      rw [show crcBytes 2 l = be (s32 l).toNat 4 from rfl, be4]
      generalize (s32 l).toNat = v at *
      have C2 := Lib.hid c2
      clear c1 c2
      go_enter Tryz.func73, Tryz.ntmps73
      go_wp2_with fail
      refine C2.out.mono ?_
      rintro e w' ⟨rfl, rfl⟩
      go_wp2_with fail
      go_ret
      exact gives_lit w _ _ _ 4 rfl (cs4 v v2)
    · rw [show crcBytes kind l = [] by unfold crcBytes; rw [if_neg h1, if_neg h2]]
      have e1 : (kind == 1) = false := by simpa using h1
      have e2 : (kind == 2) = false := by simpa using h2
      clear h1 h2 c1 c2
      go_enter Tryz.func73, Tryz.ntmps73
      go_wp2_with fail
      go_ret
      exact gives_nil w
end Go.Proofs.YtanbjifdcplmnaaGreatDoor
/- The plain mathematics of layer 5: blocks, the bytes that they are, how bytes are read as one. No program's number stands here but the sums' (CrcR). -/
namespace Go.Proofs.YtanbjifdcplmnaaGreatDoor

/-- A block: type, number, flags, kind of sum, data. -/
structure Blk where
  typ : Nat
  num : Nat
  flg : Nat
  crc : Int
  dat : List UInt8
def Blk.zero : Blk := ⟨0, 0, 0, 0, []⟩
/-- May it be? -/
def blkOk (b : Blk) : Bool := decide (1 ≤ b.typ ∧ b.typ ≤ 255) && (decide (b.num ≠ 0) && ((decide (b.typ ≠ 1) || decide (b.num = 1)) && (decide (0 ≤ b.crc ∧ b.crc ≤ 2) && decide (b.dat.length ≤ 4096))))
theorem blkOk_iff {b : Blk} : blkOk b = true ↔ (1 ≤ b.typ ∧ b.typ ≤ 255) ∧ b.num ≠ 0 ∧ (b.typ ≠ 1 ∨ b.num = 1) ∧ (0 ≤ b.crc ∧ b.crc ≤ 2) ∧ b.dat.length ≤ 4096 := by
  unfold blkOk; simp [Bool.and_eq_true, Bool.or_eq_true]
/-- Its numbers are below 2^64. -/
def Bd (b : Blk) : Prop := b.typ < 18446744073709551616 ∧ b.num < 18446744073709551616 ∧ b.flg < 18446744073709551616
/-- How many bytes a sum has. -/
def sumN (k : Int) : Nat := if k = 1 then 2 else if k = 2 then 4 else 0
theorem sumN_le (k : Int) : sumN k ≤ 4 := by unfold sumN; repeat' (split <;> try omega)
theorem crcBytes_len (k : Int) (l : List UInt8) : (crcBytes k l).length = sumN k := by
  unfold crcBytes sumN
  split
  · rw [be_length]
  · split
    · rw [be_length]
    · rfl
def partsB (b : Blk) : List Itm := [.mk 0 b.typ [] [], .mk 0 b.num [] [], .mk 0 b.flg [] [], .mk 0 b.crc.toNat [] [], .mk 2 0 b.dat []]
/-- Its item, with a sum's bytes. -/
def itmB (b : Blk) (s : List UInt8) : Itm := .mk 4 0 [] (partsB b ++ if b.crc = 0 then [] else [.mk 2 0 s []])
/-- All its bytes but the sum's. -/
def bodyB (b : Blk) : List UInt8 := hd 4 (if b.crc = 0 then 5 else 6) ++ (wrs (partsB b) ++ if b.crc = 0 then [] else hd 2 (sumN b.crc))
def nulls (b : Blk) : List UInt8 := List.replicate (sumN b.crc) 0
theorem nulls_len (b : Blk) : (nulls b).length = sumN b.crc := by simp [nulls]
def sumB (b : Blk) : List UInt8 := crcBytes b.crc (bodyB b ++ nulls b)
/-- Its bytes. -/
def blkW (b : Blk) : List UInt8 := bodyB b ++ sumB b
theorem sumB_len (b : Blk) : (sumB b).length = sumN b.crc := crcBytes_len _ _
theorem wrs_ap : ∀ a b : List Itm, wrs (a ++ b) = wrs a ++ wrs b
  | [], b => rfl
  | x :: r, b => by rw [List.cons_append, wrs, wrs, wrs_ap r b, List.append_assoc]
theorem wri_u (n : Nat) : wri (.mk 0 n [] []) = hd 0 n := by rw [wri, if_pos rfl]
theorem wri_b (d : List UInt8) : wri (.mk 2 0 d []) = hd 2 d.length ++ d := by rw [wri, if_neg (by decide), if_pos (by decide)]; rfl
theorem wri_itm (b : Blk) (s : List UInt8) (hs : s.length = sumN b.crc) (_hc : 0 ≤ b.crc ∧ b.crc ≤ 2) : wri (itmB b s) = bodyB b ++ s := by
  unfold itmB
  rw [wri, if_neg (by decide), if_neg (by decide), if_pos rfl]
  unfold bodyB
  by_cases h0 : b.crc = 0
  · have : s = [] := List.eq_nil_of_length_eq_zero (by rw [hs, h0]; rfl)
    subst this
    simp only [if_pos h0, List.append_nil]
    rw [show (partsB b).length = 5 from rfl]
  · simp only [if_neg h0]
    rw [wrs_ap, show (partsB b ++ [Itm.mk 2 0 s []]).length = 6 from rfl, wrs, wri_b, wrs, hs]
    simp [List.append_assoc]
theorem partsB_right (b : Blk) : rights (partsB b) = true := by unfold partsB; simp [rights, right, own]
theorem itm_fits (b : Blk) (s : List UInt8) : Fits (itmB b s) := by
  unfold itmB partsB
  by_cases h0 : b.crc = 0
  · simp only [if_pos h0]
    exact ⟨by simp [right, rights, own], by simp [dep, deps], by simp [par, pars]⟩
  · simp only [if_neg h0]
    exact ⟨by simp [right, rights, own], by simp [dep, deps], by simp [par, pars]⟩
theorem itm_siz (b : Blk) (s : List UInt8) (hb : Bd b) (hc : b.crc ≤ 2) (hd : b.dat.length < 18446744073709551616) (hs : s.length < 18446744073709551616) : Siz (itmB b s) := by
  unfold itmB partsB
  have h3 : b.crc.toNat < 18446744073709551616 := by omega
  obtain ⟨h1, h2, h4⟩ := hb
  by_cases h0 : b.crc = 0
  · simp only [if_pos h0]
    refine ⟨by decide, by simp, by simp, ⟨h1, by simp, by simp, trivial⟩, ⟨h2, by simp, by simp, trivial⟩, ⟨h4, by simp, by simp, trivial⟩, ⟨h3, by simp, by simp, trivial⟩, ⟨by decide, hd, by simp, trivial⟩, trivial⟩
  · simp only [if_neg h0]
    refine ⟨by decide, by simp, by simp, ⟨h1, by simp, by simp, trivial⟩, ⟨h2, by simp, by simp, trivial⟩, ⟨h4, by simp, by simp, trivial⟩, ⟨h3, by simp, by simp, trivial⟩, ⟨by decide, hd, by simp, trivial⟩, ⟨by decide, hs, by simp, trivial⟩, trivial⟩
theorem body_len (b : Blk) : (bodyB b).length ≤ b.dat.length + 70 := by
  unfold bodyB partsB
  simp only [wrs, wri_u, wri_b, List.length_append, hd_len, List.append_nil]
  have h1 := hsz_le (if b.crc = 0 then 5 else 6)
  have h2 := hsz_le b.typ
  have h3 := hsz_le b.num
  have h4 := hsz_le b.flg
  have h5 := hsz_le b.crc.toNat
  have h6 := hsz_le b.dat.length
  have h7 := hsz_le (sumN b.crc)
  generalize (if b.crc = 0 then 5 else 6 : Nat) = q at *
  by_cases h0 : b.crc = 0
  · rw [if_pos h0, List.length_nil]; omega
  · rw [if_neg h0, hd_len]; omega
theorem body_pos (b : Blk) : 1 ≤ (bodyB b).length := by unfold bodyB; simp only [List.length_append, hd_len]; omega

/-- The one block whose item this could be. -/
def takenB : Itm → Blk
  | .mk _ _ _ (y0 :: y1 :: y2 :: y3 :: y4 :: _) => ⟨y0.num, y1.num, y2.num, RowKit.wrap64 (y3.num : Int), y4.data⟩
  | _ => .zero
/-- How bytes and a block's bytes, s of them a sum's, differ: the fault's number. -/
def cmpB (u w : List UInt8) (s : Nat) : Int := if u.length ≠ w.length ∨ u.take (w.length - s) ≠ w.take (w.length - s) then 50 else if u.drop (w.length - s) ≠ w.drop (w.length - s) then 51 else 0
/-- What Decode answers. -/
def decB (l : List UInt8) : Blk × Int × Int :=
  if (decode l).2.2 ≠ 0 then (.zero, 0, (decode l).2.2)
  else if blkOk (takenB (decode l).1) = false then (.zero, 0, 50)
  else if cmpB (l.take (decode l).2.1.toNat) (blkW (takenB (decode l).1)) (sumN (takenB (decode l).1).crc) ≠ 0 then (.zero, 0, cmpB (l.take (decode l).2.1.toNat) (blkW (takenB (decode l).1)) (sumN (takenB (decode l).1).crc))
  else (takenB (decode l).1, (decode l).2.1, 0)

theorem wrap_small (c : Int) (h0 : 0 ≤ c) (h2 : c ≤ 2) : RowKit.wrap64 ((c.toNat : Nat) : Int) = c := by
  unfold RowKit.wrap64
  omega
theorem taken_itm (b : Blk) (s : List UInt8) (hc : 0 ≤ b.crc ∧ b.crc ≤ 2) : takenB (itmB b s) = b := by
  have h := wrap_small b.crc hc.1 hc.2
  obtain ⟨t, n, f, c, d⟩ := b
  unfold itmB partsB
  simp only [List.cons_append, takenB, Itm.num, Itm.data]
  rw [h]

/-- What is read where a block's bytes but the sum's stand, with a sum of that length. -/
theorem decB_sum (b : Blk) (s m : List UInt8) (hok : blkOk b = true) (hb : Bd b) (hs : s.length = sumN b.crc) :
    decB (bodyB b ++ s ++ m) = if s = sumB b then (b, ((blkW b).length : Int), 0) else (.zero, 0, 51) := by
  obtain ⟨h1, h2, h3, h4, h5⟩ := blkOk_iff.1 hok
  have hw := wri_itm b s hs h4
  have hs4 := sumN_le b.crc
  have hd := decode_wr (itm_fits b s) (itm_siz b s hb h4.2 (by omega) (by omega)) m
  rw [hw] at hd
  have hlen : ((bodyB b ++ s).length) = (blkW b).length := by unfold blkW; rw [List.length_append, List.length_append, hs, sumB_len]
  unfold decB
  rw [hd]
  simp only [taken_itm b s h4]
  rw [if_neg (by simp), if_neg (by rw [hok]; decide), Int.toNat_natCast, List.take_left]
  have hk : (blkW b).length - sumN b.crc = (bodyB b).length := by unfold blkW; rw [List.length_append, sumB_len]; omega
  have hcmp : cmpB (bodyB b ++ s) (blkW b) (sumN b.crc) = if s = sumB b then 0 else 51 := by
    unfold cmpB
    rw [hk]
    unfold blkW
    rw [List.take_left, List.take_left, List.drop_left, List.drop_left, if_neg (by simp [hs, sumB_len])]
    by_cases he : s = sumB b
    · rw [if_neg (by simp [he]), if_pos he]
    · rw [if_pos he, if_neg he]
  rw [hcmp, hlen]
  by_cases he : s = sumB b
  · rw [if_pos he, if_neg (by simp), if_pos he]
  · rw [if_neg he, if_pos (by simp), if_neg he]
theorem decB_blk (b : Blk) (m : List UInt8) (hok : blkOk b = true) (hb : Bd b) : decB (blkW b ++ m) = (b, ((blkW b).length : Int), 0) := by
  have := decB_sum b (sumB b) m hok hb (sumB_len b)
  rw [if_pos rfl] at this
  exact this

theorem be_inj {x y n : Nat} (hn : n ≤ 8) (hx : x < 256 ^ n) (hy : y < 256 ^ n) (h : be x n = be y n) : x = y := by
  have := congrArg beNat h
  rwa [beNat_be _ _ hn, beNat_be _ _ hn, Nat.mod_eq_of_lt hx, Nat.mod_eq_of_lt hy] at this
/-- A sum tells a byte that is another one. -/
theorem crc_tells (k : Int) (hk : k = 1 ∨ k = 2) (l : List UInt8) (i : Nat) (v : UInt8) (h : crcBytes k l = crcBytes k (l.set i v)) : l = l.set i v := by
  have hw : ∀ j, j < 8 * l.length → (l.getD (j / 8) 0).toNat.testBit (j % 8) ≠ ((l.set i v).getD (j / 8) 0).toNat.testBit (j % 8) → 8 * i ≤ j ∧ j < 8 * i + 8 := by
    intro j hj hne
    by_cases he : j / 8 = i
    · omega
    · exfalso
      apply hne
      have : (l.set i v).getD (j / 8) 0 = l.getD (j / 8) 0 := by simp [List.getD, Ne.symm he]
      rw [this]
  rcases hk with rfl | rfl
  · have h' : s16 l = s16 (l.set i v) := BitVec.eq_of_toNat_eq (be_inj (n := 2) (by decide) (by have := (s16 l).isLt; simpa using this) (by have := (s16 (l.set i v)).isLt; simpa using this) h)
    have h2 : fB p16 0xffff#16 l = fB p16 0xffff#16 (l.set i v) := by
      have := congrArg (~~~ ·) h'
      simpa [s16] using this
    exact fB_tells p16 (by decide) rfl _ l _ (by simp) (8 * i) (fun j hj hne => ⟨(hw j hj hne).1, by have := (hw j hj hne).2; omega⟩) h2
  · have h' : s32 l = s32 (l.set i v) := BitVec.eq_of_toNat_eq (be_inj (n := 4) (by decide) (by have := (s32 l).isLt; simpa using this) (by have := (s32 (l.set i v)).isLt; simpa using this) h)
    have h2 : fB p32 0xffffffff#32 l = fB p32 0xffffffff#32 (l.set i v) := by
      have := congrArg (~~~ ·) h'
      simpa [s32] using this
    exact fB_tells p32 (by decide) rfl _ l _ (by simp) (8 * i) (fun j hj hne => ⟨(hw j hj hne).1, by have := (hw j hj hne).2; omega⟩) h2
end Go.Proofs.YtanbjifdcplmnaaGreatDoor
/- What Short, Long and Bytes of layer 2 return. -/
namespace Go.Proofs.YtanbjifdcplmnaaGreatDoor
open Go.RowKit

theorem and16 (F : Nat) (h : F < 65536) : bits BinOp.and .u16 (F : Int) 1 = ((F % 2 : Nat) : Int) := by
  have e := u16_and_nat F 1 h (by decide)
  rw [Nat.and_one_is_mod] at e
  exact e
theorem and32 (F : Nat) (h : F < 4294967296) : bits BinOp.and .u32 (F : Int) 1 = ((F % 2 : Nat) : Int) := by
  have e := u32_and_nat F 1 h (by decide)
  rw [Nat.and_one_is_mod] at e
  exact e
theorem flip16 (d : BitVec 16) : Ending.returned (.int .u16 (bits BinOp.xor .u16 IntKind.u16.max (d.toNat : Int))) = .returned (.int .u16 ((~~~ d).toNat : Int)) := by
  have e := u16_xor_nat 65535 d.toNat (by decide) d.isLt
  rw [show IntKind.u16.max = ((65535 : Nat) : Int) from rfl, e, show (65535 : Nat) = (BitVec.allOnes 16).toNat from rfl, ← BitVec.toNat_xor, BitVec.allOnes_xor]
theorem flip32 (d : BitVec 32) : Ending.returned (.int .u32 (bits BinOp.xor .u32 IntKind.u32.max (d.toNat : Int))) = .returned (.int .u32 ((~~~ d).toNat : Int)) := by
  have e := u32_xor_nat 4294967295 d.toNat (by decide) d.isLt
  rw [show IntKind.u32.max = ((4294967295 : Nat) : Int) from rfl, e, show (4294967295 : Nat) = (BitVec.allOnes 32).toNat from rfl, ← BitVec.toNat_xor, BitVec.allOnes_xor]

set_option maxRecDepth 100000 in
set_option maxHeartbeats 1000000 in
theorem sum16_any (A : Option Addr) (n c B : Nat) (l : List UInt8) (w : World) (h : Rd w B A n l) (hn : n ≤ 140737488355328) :
    Calls Tryz.prog 116 #[.slice A n c, .int .u16 33800] w fun e w' => e = .returned (.int .u16 ((s16 l).toNat : Int)) ∧ w = w' := by
  have HR := Lib.hid h
  clear h
  go_enter Tryz.func116, Tryz.ntmps116
  go_wp2
  go_loop [5, 13] (fun v i => ∃ (k : Nat) (d : BitVec 16), k ≤ n ∧ i = .int .i64 k ∧ v = .int .u16 (d.toNat : Int) ∧ Hid (d = fB p16 0xffff#16 (l.take k))) (fun _ i => n - (intOf i).toNat)
  case atStart => exact ⟨0, 0xffff#16, Nat.zero_le _, rfl, rfl, rfl⟩
  case round =>
    obtain ⟨k, d, hk, rfl, rfl, hd⟩ := hrel
    by_cases hlt : k < n
    · obtain ⟨b, o, rfl, hb, hcell⟩ := HR.out.2 (by omega)
      obtain ⟨x, hx⟩ : ∃ x, x = l.getD k 0 := ⟨_, rfl⟩
      have hcx : w.cell? ⟨b, o + k, none⟩ = some (.int .u8 (x.toNat : Int)) := by rw [hx]; exact hcell k hlt
      have Hx := Lib.hid hx
      clear hx hcell
      have hx1 : (x.toNat : Int) < 256 := by have := x.toNat_lt; omega
      have hx0 : (0 : Int) ≤ (x.toNat : Int) := by omega
      have hd1 : (d.toNat : Int) < 65536 := by have := d.isLt; omega
      go_wp2_with fail
      clear hx0 hx1 hd1
      go_loop [5, 21] (fun v i => ∃ (j : Nat) (f : BitVec 16), j ≤ 8 ∧ i = .int .i64 j ∧ v = .int .u16 (f.toNat : Int) ∧ Hid (f = stpN p16 j (d ^^^ BitVec.ofNat 16 x.toNat))) (fun _ i => 8 - (intOf i).toNat)
      case atStart => exact ⟨0, d ^^^ BitVec.ofNat 16 x.toNat, by omega, rfl, byte16 d x, rfl⟩
      case round =>
        obtain ⟨j, f, hj, rfl, rfl, hf⟩ := hrel
        by_cases hj8 : j < 8
        · obtain ⟨F, hF⟩ : ∃ F, F = f.toNat := ⟨_, rfl⟩
          have hf1 : F < 65536 := by have := f.isLt; omega
          rw [← hF]
          have HF := Lib.hid hF
          clear hF
          rcases Nat.mod_two_eq_zero_or_one F with he | he
          · have ht : (bits BinOp.and .u16 (F : Int) 1 == 1) = false := by rw [and16 F hf1, he]; rfl
            have HE := Lib.hid he
            clear he
            go_wp2_with fail
            go_round
            case rel => exact ⟨j + 1, stp p16 f, by omega, by go_num, by rw [stp_even _ _ (by rw [← HF.out]; exact HE.out), ← HF.out]; rfl, by show _ = _; rw [stpN_succ, ← hf.out]⟩
            case measure => simp [intOf]; omega
          · have ht : (bits BinOp.and .u16 (F : Int) 1 == 1) = true := by rw [and16 F hf1, he]; rfl
            have HE := Lib.hid he
            clear he
            go_wp2_with fail
            go_round
            case rel => exact ⟨j + 1, stp p16 f, by omega, by go_num, by rw [HF.out]; exact step16 f (by rw [← HF.out]; exact HE.out), by show _ = _; rw [stpN_succ, ← hf.out]⟩
            case measure => simp [intOf]; omega
        · obtain rfl : j = 8 := by omega
          go_wp2_with fail
          go_round
          case rel =>
            refine ⟨k + 1, f, by omega, by go_num, rfl, ?_⟩
            show f = _
            rw [fB_take l 16 _ _ k (by have := HR.out.1; omega), ← hd.out, ← Hx.out]
            exact hf.out
          case measure => simp [intOf]; omega
    · obtain rfl : k = n := by omega
      have hl := HR.out.1
      have hfin : s16 l = ~~~ d := by rw [hd.out, List.take_of_length_le (by omega)]; rfl
      have HF := Lib.hid hfin
      have hd1 : (d.toNat : Int) < 65536 := by have := d.isLt; omega
      clear hfin hl
      go_wp2_with fail
      go_ret
      exact ⟨by rw [HF.out]; exact flip16 d, rfl⟩
set_option maxRecDepth 100000 in
set_option maxHeartbeats 1000000 in
theorem sum32_any (A : Option Addr) (n c B : Nat) (l : List UInt8) (w : World) (h : Rd w B A n l) (hn : n ≤ 140737488355328) :
    Calls Tryz.prog 117 #[.slice A n c, .int .u32 2197175160] w fun e w' => e = .returned (.int .u32 ((s32 l).toNat : Int)) ∧ w = w' := by
  have HR := Lib.hid h
  clear h
  go_enter Tryz.func117, Tryz.ntmps117
  go_wp2
  go_loop [5, 13] (fun v i => ∃ (k : Nat) (d : BitVec 32), k ≤ n ∧ i = .int .i64 k ∧ v = .int .u32 (d.toNat : Int) ∧ Hid (d = fB p32 0xffffffff#32 (l.take k))) (fun _ i => n - (intOf i).toNat)
  case atStart => exact ⟨0, 0xffffffff#32, Nat.zero_le _, rfl, rfl, rfl⟩
  case round =>
    obtain ⟨k, d, hk, rfl, rfl, hd⟩ := hrel
    by_cases hlt : k < n
    · obtain ⟨b, o, rfl, hb, hcell⟩ := HR.out.2 (by omega)
      obtain ⟨x, hx⟩ : ∃ x, x = l.getD k 0 := ⟨_, rfl⟩
      have hcx : w.cell? ⟨b, o + k, none⟩ = some (.int .u8 (x.toNat : Int)) := by rw [hx]; exact hcell k hlt
      have Hx := Lib.hid hx
      clear hx hcell
      have hx1 : (x.toNat : Int) < 256 := by have := x.toNat_lt; omega
      have hx0 : (0 : Int) ≤ (x.toNat : Int) := by omega
      have hd1 : (d.toNat : Int) < 4294967296 := by have := d.isLt; omega
      go_wp2_with fail
      clear hx0 hx1 hd1
      go_loop [5, 21] (fun v i => ∃ (j : Nat) (f : BitVec 32), j ≤ 8 ∧ i = .int .i64 j ∧ v = .int .u32 (f.toNat : Int) ∧ Hid (f = stpN p32 j (d ^^^ BitVec.ofNat 32 x.toNat))) (fun _ i => 8 - (intOf i).toNat)
      case atStart => exact ⟨0, d ^^^ BitVec.ofNat 32 x.toNat, by omega, rfl, byte32 d x, rfl⟩
      case round =>
        obtain ⟨j, f, hj, rfl, rfl, hf⟩ := hrel
        by_cases hj8 : j < 8
        · obtain ⟨F, hF⟩ : ∃ F, F = f.toNat := ⟨_, rfl⟩
          have hf1 : F < 4294967296 := by have := f.isLt; omega
          rw [← hF]
          have HF := Lib.hid hF
          clear hF
          rcases Nat.mod_two_eq_zero_or_one F with he | he
          · have ht : (bits BinOp.and .u32 (F : Int) 1 == 1) = false := by rw [and32 F hf1, he]; rfl
            have HE := Lib.hid he
            clear he
            go_wp2_with fail
            go_round
            case rel => exact ⟨j + 1, stp p32 f, by omega, by go_num, by rw [stp_even _ _ (by rw [← HF.out]; exact HE.out), ← HF.out]; rfl, by show _ = _; rw [stpN_succ, ← hf.out]⟩
            case measure => simp [intOf]; omega
          · have ht : (bits BinOp.and .u32 (F : Int) 1 == 1) = true := by rw [and32 F hf1, he]; rfl
            have HE := Lib.hid he
            clear he
            go_wp2_with fail
            go_round
            case rel => exact ⟨j + 1, stp p32 f, by omega, by go_num, by rw [HF.out]; exact step32 f (by rw [← HF.out]; exact HE.out), by show _ = _; rw [stpN_succ, ← hf.out]⟩
            case measure => simp [intOf]; omega
        · obtain rfl : j = 8 := by omega
          go_wp2_with fail
          go_round
          case rel =>
            refine ⟨k + 1, f, by omega, by go_num, rfl, ?_⟩
            show f = _
            rw [fB_take l 32 _ _ k (by have := HR.out.1; omega), ← hd.out, ← Hx.out]
            exact hf.out
          case measure => simp [intOf]; omega
    · obtain rfl : k = n := by omega
      have hl := HR.out.1
      have hfin : s32 l = ~~~ d := by rw [hd.out, List.take_of_length_le (by omega)]; rfl
      have HF := Lib.hid hfin
      have hd1 : (d.toNat : Int) < 4294967296 := by have := d.isLt; omega
      clear hfin hl
      go_wp2_with fail
      go_ret
      exact ⟨by rw [HF.out]; exact flip32 d, rfl⟩

theorem short_any (A : Option Addr) (n c B : Nat) (l : List UInt8) (w : World) (h : Rd w B A n l) (hn : n ≤ 140737488355328) :
    Calls Tryz.prog 92 #[.slice A n c] w fun e w' => e = .returned (.int .u16 ((s16 l).toNat : Int)) ∧ w = w' := by
  have C := Lib.hid (sum16_any A n c B l w h hn)
  clear h
  go_enter Tryz.func92, Tryz.ntmps92
  go_wp2_with fail
  refine C.out.mono ?_
  rintro e w' ⟨rfl, rfl⟩
  go_wp2_with fail
  go_ret
  exact ⟨rfl, rfl⟩

theorem long_any (A : Option Addr) (n c B : Nat) (l : List UInt8) (w : World) (h : Rd w B A n l) (hn : n ≤ 140737488355328) :
    Calls Tryz.prog 93 #[.slice A n c] w fun e w' => e = .returned (.int .u32 ((s32 l).toNat : Int)) ∧ w = w' := by
  have C := Lib.hid (sum32_any A n c B l w h hn)
  clear h
  go_enter Tryz.func93, Tryz.ntmps93
  go_wp2_with fail
  refine C.out.mono ?_
  rintro e w' ⟨rfl, rfl⟩
  go_wp2_with fail
  go_ret
  exact ⟨rfl, rfl⟩
set_option maxRecDepth 100000 in
set_option maxHeartbeats 1000000 in
theorem bytes_any (kind : Int) (A : Option Addr) (n c B : Nat) (l : List UInt8) (w : World) (h : Rd w B A n l) (hn : n ≤ 140737488355328) :
    Calls Tryz.prog 64 #[.int .i64 kind, .slice A n c] w (Gives (crcBytes kind l) w) := by
  have c1 := short_any A n c B l w h hn
  have c2 := long_any A n c B l w h hn
  have v1 := (s16 l).isLt
  have v2 := (s32 l).isLt
  clear h
  by_cases h1 : kind = 1
  · subst h1
    rw [show crcBytes 1 l = be (s16 l).toNat 2 from rfl, be2]
    generalize (s16 l).toNat = v at *
    have C1 := Lib.hid c1
    clear c1 c2
    go_enter Tryz.func64, Tryz.ntmps64
    go_wp2_with fail
    refine C1.out.mono ?_
    rintro e w' ⟨rfl, rfl⟩
    go_wp2_with fail
    go_ret
    exact gives_lit w _ _ _ 2 rfl (cs2 v v1)
  · by_cases h2 : kind = 2
    · subst h2
      rw [show crcBytes 2 l = be (s32 l).toNat 4 from rfl, be4]
      generalize (s32 l).toNat = v at *
      have C2 := Lib.hid c2
      clear c1 c2
      go_enter Tryz.func64, Tryz.ntmps64
      go_wp2_with fail
      refine C2.out.mono ?_
      rintro e w' ⟨rfl, rfl⟩
      go_wp2_with fail
      go_ret
      exact gives_lit w _ _ _ 4 rfl (cs4 v v2)
    · rw [show crcBytes kind l = [] by unfold crcBytes; rw [if_neg h1, if_neg h2]]
      have e1 : (kind == 1) = false := by simpa using h1
      have e2 : (kind == 2) = false := by simpa using h2
      clear h1 h2 c1 c2
      go_enter Tryz.func64, Tryz.ntmps64
      go_wp2_with fail
      go_ret
      exact gives_nil w
end Go.Proofs.YtanbjifdcplmnaaGreatDoor
/- What bytes.Equal returns. -/
namespace Go.Proofs.YtanbjifdcplmnaaGreatDoor
open Go.RowKit

set_option maxRecDepth 100000 in
set_option maxHeartbeats 1000000 in
theorem bequal_any (A A' : Option Addr) (n c n' c' B : Nat) (l l' : List UInt8) (w : World) (h : Rd w B A n l) (h' : Rd w B A' n' l') :
    Calls Tryz.prog 62 #[.slice A n c, .slice A' n' c'] w fun e w' => e = .returned (.bool (l == l')) ∧ w = w' := by
  have r1 := run_str (P := Tryz.prog) (c := c) h 22 5 9 Tryz.underlying22 Tryz.underlying5 Tryz.underlying9
  have r2 := run_str (P := Tryz.prog) (c := c') h' 22 5 9 Tryz.underlying22 Tryz.underlying5 Tryz.underlying9
  have e1 : (⟨l.toArray⟩ : ByteArray).toList = l := by rw [Lib.toList_data]
  have e2 : (⟨l'.toArray⟩ : ByteArray).toList = l' := by rw [Lib.toList_data]
  have HE := Lib.hid (And.intro e1 e2)
  generalize (⟨l.toArray⟩ : ByteArray) = s at *
  generalize (⟨l'.toArray⟩ : ByteArray) = s' at *
  clear h h' e1 e2
  go_enter Tryz.func62, Tryz.ntmps62
  go_wp2_with fail
  go_ret
  refine ⟨?_, rfl⟩
  have h : (s.toList == s'.toList) = (l == l') := by rw [HE.out.1, HE.out.2]
  rw [← h]
  rfl

end Go.Proofs.YtanbjifdcplmnaaGreatDoor
/- The plain mathematics of layer 4, second part: a text cut at its first c; a name by its pieces; digits read as they were written; whose text, or item, something could be. No program's number stands here. -/
namespace Go.Proofs.YtanbjifdcplmnaaGreatDoor
open Go.Lib (decDigits)

/-- What stands ahead of the first c, what stands behind it, and whether there is one. -/
def ahead (c : UInt8) (l : List UInt8) : List UInt8 := l.takeWhile fun x => x != c
def behind (c : UInt8) (l : List UInt8) : List UInt8 := l.drop ((ahead c l).length + 1)
def hasB (c : UInt8) (l : List UInt8) : Bool := decide ((ahead c l).length < l.length)

theorem ahead_nil (c : UInt8) : ahead c [] = [] := rfl
theorem ahead_cons (c x : UInt8) (l : List UInt8) : ahead c (x :: l) = if x = c then [] else x :: ahead c l := by
  unfold ahead
  rw [List.takeWhile_cons]
  by_cases h : x = c <;> simp [h]
theorem ahead_no (c : UInt8) : ∀ l : List UInt8, ∀ x ∈ ahead c l, x ≠ c
  | [], x, h => by rw [ahead_nil] at h; cases h
  | y :: l, x, h => by
    rw [ahead_cons] at h
    split at h
    · cases h
    · rename_i hne
      rcases List.mem_cons.1 h with rfl | h
      · exact hne
      · exact ahead_no c l x h
theorem ahead_le (c : UInt8) : ∀ l : List UInt8, (ahead c l).length ≤ l.length
  | [] => Nat.le_refl _
  | y :: l => by
    rw [ahead_cons]
    split
    · exact Nat.zero_le _
    · have := ahead_le c l; simp only [List.length_cons]; omega
theorem ahead_take (c : UInt8) : ∀ l : List UInt8, ahead c l = l.take (ahead c l).length
  | [] => rfl
  | y :: l => by
    rw [ahead_cons]
    split
    · rfl
    · have := ahead_take c l
      simp only [List.length_cons, List.take_succ_cons]
      rw [← this]
theorem ahead_all {c : UInt8} {l : List UInt8} (h : hasB c l = false) : ahead c l = l := by
  have h1 := ahead_le c l
  have h2 : (ahead c l).length = l.length := by unfold hasB at h; simp at h; omega
  rw [ahead_take c l, h2, List.take_length]
theorem behind_nil {c : UInt8} {l : List UInt8} (h : hasB c l = false) : behind c l = [] := by
  unfold behind
  rw [ahead_all h]
  simp
theorem cut_eq {c : UInt8} : ∀ {l : List UInt8}, hasB c l = true → l = ahead c l ++ c :: behind c l
  | [], h => by simp [hasB] at h
  | y :: l, h => by
    unfold behind
    rw [ahead_cons]
    by_cases hy : y = c
    · subst hy; simp
    · rw [if_neg hy]
      have h' : hasB c l = true := by
        unfold hasB at h ⊢
        rw [ahead_cons, if_neg hy] at h
        simp at h ⊢
        omega
      have e := cut_eq h'
      unfold behind at e
      simp only [List.length_cons, List.drop_succ_cons, List.cons_append]
      rw [← e]
theorem ahead_app {c : UInt8} : ∀ {u : List UInt8} (t : List UInt8), (∀ x ∈ u, x ≠ c) → ahead c (u ++ c :: t) = u
  | [], t, _ => by rw [List.nil_append, ahead_cons, if_pos rfl]
  | y :: u, t, h => by
    rw [List.cons_append, ahead_cons, if_neg (h y (by simp)), ahead_app t (fun x hx => h x (by simp [hx]))]
theorem has_app {c : UInt8} {u t : List UInt8} (h : ∀ x ∈ u, x ≠ c) : hasB c (u ++ c :: t) = true ∧ behind c (u ++ c :: t) = t := by
  unfold hasB behind
  rw [ahead_app t h]
  refine ⟨by simp, ?_⟩
  rw [List.drop_append]
  simp
theorem index_ahead (c : UInt8) : ∀ l : List UInt8, Lib.indexByte l c = if hasB c l = true then ((ahead c l).length : Int) else -1
  | [] => by simp [Lib.indexByte, hasB]
  | y :: l => by
    have ih := index_ahead c l
    have e1 : hasB c (y :: l) = if y = c then true else hasB c l := by
      unfold hasB
      rw [ahead_cons]
      by_cases hy : y = c <;> simp [hy]
    rw [Lib.indexByte, e1, ahead_cons]
    by_cases hy : y = c
    · subst hy; simp
    · have hb : (y == c) = false := by simpa using hy
      rw [hb, if_neg hy, if_neg hy, ih]
      rw [if_neg (by simp)]
      by_cases hh : hasB c l = true
      · rw [if_pos hh, if_pos hh]
        have : ¬ ((((ahead c l).length : Int) == -1) = true) := by rw [beq_iff_eq]; omega
        rw [if_neg this, List.length_cons]
        omega
      · rw [if_neg hh, if_neg hh]; rfl

/-- Digits are read as the number that was written. -/
theorem parse_app (M : Nat) : ∀ (l t : List UInt8) (acc v : Nat), Lib.parseUintM M acc l = .ok v → Lib.parseUintM M acc (l ++ t) = Lib.parseUintM M v t
  | [], t, acc, v, h => by
    simp only [Lib.parseUintM] at h
    cases h
    rfl
  | c :: r, t, acc, v, h => by
    simp only [Lib.parseUintM] at h
    simp only [List.cons_append, Lib.parseUintM]
    split at h
    · rename_i hd
      rw [if_pos hd]
      split at h
      · cases h
      · rename_i h1
        rw [if_neg h1]
        split at h
        · cases h
        · rename_i h2
          rw [if_neg h2]
          exact parse_app M r t _ v h
    · cases h
theorem parse_dec (M : Nat) (hM : M ≤ 4294967295) : ∀ n : Nat, n ≤ M → Lib.parseUintM M 0 (decDigits n) = .ok n := by
  intro n
  induction n using Nat.strongRecOn with
  | _ n ih =>
    intro hn
    have hd : ∀ d : Nat, d < 10 → (UInt8.ofNat (48 + d)).toNat = 48 + d := fun d h => by
      have h2 : ∀ d : Fin 10, (UInt8.ofNat (48 + d.val)).toNat = 48 + d.val := by decide +kernel
      exact h2 ⟨d, h⟩
    by_cases hx : n < 10
    · rw [dec_small hx]
      simp only [Lib.parseUintM]
      rw [hd n hx, if_pos (by omega), if_neg (by omega), if_neg (by omega)]
      congr 1
      omega
    · rw [dec_big hx, parse_app M _ _ 0 (n / 10) (ih (n / 10) (by omega) (by omega))]
      simp only [Lib.parseUintM]
      rw [hd (n % 10) (by omega), if_pos (by omega), if_neg (by omega), if_neg (by omega)]
      congr 1
      omega
theorem dec_ne_nil (n : Nat) : decDigits n ≠ [] := by
  by_cases hx : n < 10
  · rw [dec_small hx]; simp
  · rw [dec_big hx]; simp
theorem parse32 (n : Nat) (h : n ≤ 4294967295) : Lib.parseUintB 32 (decDigits n) = .ok n := by
  unfold Lib.parseUintB
  rw [if_neg (dec_ne_nil n)]
  exact parse_dec _ (by decide) n (by omega)
theorem parse32_le {l : List UInt8} {n : Nat} (h : Lib.parseUintB 32 l = .ok n) : n ≤ 4294967295 := by
  have key : ∀ (l : List UInt8) (acc v : Nat), acc ≤ 4294967295 → Lib.parseUintM 4294967295 acc l = .ok v → v ≤ 4294967295 := by
    intro l
    induction l with
    | nil => intro acc v ha h; simp only [Lib.parseUintM] at h; cases h; exact ha
    | cons c r ih =>
      intro acc v ha h
      simp only [Lib.parseUintM] at h
      split at h
      · split at h
        · cases h
        · split at h
          · cases h
          · exact ih _ _ (by omega) h
      · cases h
  unfold Lib.parseUintB at h
  split at h
  · cases h
  · exact key l 0 n (by omega) h

/-- A name by its pieces, as it is asked for. -/
def nameC (s : List UInt8) : Bool :=
  decide (s.length ≤ 64) && (Lib.hasPrefix s [47, 47] && (hasB 47 (s.drop 2) && (!(ahead 47 (s.drop 2)).isEmpty && ((ahead 47 (s.drop 2)).all letterB && (behind 47 (s.drop 2)).all lsB))))
theorem beq_comm_u (a b : UInt8) : (a == b) = (b == a) := by
  by_cases h : a = b
  · subst h; rfl
  · have h2 : ¬ b = a := fun e => h e.symm
    rw [beq_eq_false_iff_ne.2 h, beq_eq_false_iff_ne.2 h2]
theorem toSlash_ahead (l : List UInt8) : toSlash l = (ahead 47 l).length := rfl
theorem letter_ls {c : UInt8} (h : c ≠ 47) : lsB c = letterB c := by
  unfold lsB
  have : (c == 47) = false := by simpa using h
  rw [this, Bool.false_or]
theorem all_ls {l : List UInt8} (h : ∀ x ∈ l, x ≠ 47) : l.all lsB = l.all letterB := by
  induction l with
  | nil => rfl
  | cons a l ih =>
    rw [List.all_cons, List.all_cons, letter_ls (h a (by simp)), ih (fun x hx => h x (by simp [hx]))]
theorem nameC_eq (s : List UInt8) : nameC s = nameB s := by
  unfold nameC nameB
  congr 1
  match s with
  | [] => rfl
  | [a] => simp [Lib.hasPrefix, List.isPrefixOf]
  | a :: b :: r =>
    have e1 : Lib.hasPrefix (a :: b :: r) [47, 47] = (a == 47 && b == 47) := by
      simp only [Lib.hasPrefix, List.isPrefixOf, Bool.and_true]
      rw [show ((47 : UInt8) == a) = (a == 47) from beq_comm_u _ _, show ((47 : UInt8) == b) = (b == 47) from beq_comm_u _ _]
    rw [e1]
    congr 1
    show (hasB 47 r && _) = _
    rw [show (a :: b :: r).drop 2 = r from rfl]
    by_cases hh : hasB 47 r = true
    · have e := cut_eq hh
      have e2 : r.all lsB = ((ahead 47 r).all letterB && (behind 47 r).all lsB) := by
        conv => lhs; rw [e]
        rw [List.all_append, List.all_cons, all_ls (ahead_no 47 r)]
        rfl
      have e3 : decide (toSlash r < r.length) = true := hh
      have e4 : (!(ahead 47 r).isEmpty) = decide (1 ≤ toSlash r) := by
        rw [toSlash_ahead]
        cases ahead 47 r <;> simp
      rw [hh, e3, e2, e4, Bool.true_and, Bool.and_true, Bool.and_comm]
    · have e3 : decide (toSlash r < r.length) = false := by rw [Bool.not_eq_true] at hh; exact hh
      rw [Bool.not_eq_true] at hh
      rw [hh, e3, Bool.false_and, Bool.and_false, Bool.and_false]
end Go.Proofs.YtanbjifdcplmnaaGreatDoor
/- The library's contracts of the functions that layer 4 calls, at this program. -/
namespace Go.Proofs
open Go.Shelf
def Tryz.lays137_ren : Go.Shelf.Ren := ⟨fun | 137 => 132 | 217 => 135 | 266 => 139 | n => n, fun | 9 => 9 | 5 => 5 | 3 => 3 | n => n, fun | n => n⟩
theorem Tryz.lays137 : Go.Proofs.Lays.n137 Tryz.prog Tryz.lays137_ren := {
  mixed := by kernel_rfl
  f137 := Tryz.func132.trans (congrArg some (by kernel_rfl))
  f217 := Tryz.func135.trans (congrArg some (by kernel_rfl))
  f266 := Tryz.func139.trans (congrArg some (by kernel_rfl))
  t3 := Tryz.underlying3
  a3 := Tryz.isAgg3
  z3 := Tryz.sizeOf3
  v3 := Tryz.zeroValue3
  t5 := Tryz.underlying5
  a5 := Tryz.isAgg5
  z5 := Tryz.sizeOf5
  v5 := Tryz.zeroValue5
  t9 := Tryz.underlying9
  a9 := Tryz.isAgg9
  z9 := Tryz.sizeOf9
  v9 := Tryz.zeroValue9 }
open Go.RowKit in
theorem Tryz.strings_IndexByte (s : ByteArray) (c : Int) (w : World) :
    Calls Tryz.prog 132 #[.string s, .int .u8 c] w fun e w' => e = .returned (.int .i64 (Lib.indexByte s.data.toList c.toNat.toUInt8)) ∧ w' = w := Any.strings_IndexByte Tryz.lays137 s c w
def Tryz.lays103_ren : Go.Shelf.Ren := ⟨fun | 103 => 124 | 210 => 129 | 206 => 133 | n => n, fun | 9 => 9 | 4 => 4 | 24 => 187 | 3 => 3 | n => n, fun | n => n⟩
theorem Tryz.lays103 : Go.Proofs.Lays.n103 Tryz.prog Tryz.lays103_ren := {
  mixed := by kernel_rfl
  f103 := Tryz.func124.trans (congrArg some (by kernel_rfl))
  f206 := Tryz.func133.trans (congrArg some (by kernel_rfl))
  f210 := Tryz.func129.trans (congrArg some (by kernel_rfl))
  t3 := Tryz.underlying3
  a3 := Tryz.isAgg3
  z3 := Tryz.sizeOf3
  v3 := Tryz.zeroValue3
  t4 := Tryz.underlying4
  a4 := Tryz.isAgg4
  z4 := Tryz.sizeOf4
  v4 := Tryz.zeroValue4
  t9 := Tryz.underlying9
  a9 := Tryz.isAgg9
  z9 := Tryz.sizeOf9
  v9 := Tryz.zeroValue9
  t24 := Tryz.underlying187
  a24 := Tryz.isAgg187
  z24 := Tryz.sizeOf187
  v24 := Tryz.zeroValue187 }
open Go.RowKit in
theorem Tryz.strings_CutPrefix (s p : ByteArray) (w : World) :
    Calls Tryz.prog 124 #[.string s, .string p] w fun e w' => e = .returned (.tuple #[.string ⟨(Lib.trimPrefix s.data.toList p.data.toList).toArray⟩, .bool (Lib.hasPrefix s.data.toList p.data.toList)]) ∧ w' = w := Any.strings_CutPrefix Tryz.lays103 s p w
open Go.RowKit in
def Tryz.lays217_ren : Go.Shelf.Ren := ⟨fun | 217 => 135 | 266 => 139 | n => n, fun | 9 => 9 | 5 => 5 | 3 => 3 | n => n, fun | n => n⟩
theorem Tryz.lays217 : Go.Proofs.Lays.n217 Tryz.prog Tryz.lays217_ren := {
  mixed := by kernel_rfl
  f217 := Tryz.func135.trans (congrArg some (by kernel_rfl))
  f266 := Tryz.func139.trans (congrArg some (by kernel_rfl))
  t3 := Tryz.underlying3
  a3 := Tryz.isAgg3
  z3 := Tryz.sizeOf3
  v3 := Tryz.zeroValue3
  t5 := Tryz.underlying5
  a5 := Tryz.isAgg5
  z5 := Tryz.sizeOf5
  v5 := Tryz.zeroValue5
  t9 := Tryz.underlying9
  a9 := Tryz.isAgg9
  z9 := Tryz.sizeOf9
  v9 := Tryz.zeroValue9 }
open Go.RowKit Go.Lib in
theorem Tryz.stringslite_IndexByte (s : ByteArray) (c : Int) (w : World) :
    Calls Tryz.prog 135 #[.string s, .int .u8 c] w fun e w' => e = .returned (.int .i64 (Lib.indexByte s.data.toList c.toNat.toUInt8)) ∧ w' = w := Any.stringslite_IndexByte Tryz.lays217 s c w
end Go.Proofs
/- Chosen by shake.py of the texts of the layers below: what dec_any need. -/
section
namespace Go.Proofs.YtanbjifdcplmnaaGreatDoor
open Go.RowKit
/-- The array's content: the digits suf from place f on. -/
def decRow (f : Nat) (suf : List UInt8) : Nat → Value := fun j => if f ≤ j then .int .u8 ((suf.getD (j - f) 0).toNat : Int) else .int .u8 0
theorem dig10 (d : Nat) (h : d < 16) (h10 : d < 10) : Value.int .u8 (((⟨#[48, 49, 50, 51, 52, 53, 54, 55, 56, 57, 97, 98, 99, 100, 101, 102]⟩ : ByteArray)[d]'h).toNat : Int) = .int .u8 ((UInt8.ofNat (48 + d)).toNat : Int) := by
  have : ∀ d : Fin 10, (⟨#[48, 49, 50, 51, 52, 53, 54, 55, 56, 57, 97, 98, 99, 100, 101, 102]⟩ : ByteArray)[d.val]'(Nat.lt_of_lt_of_le d.isLt (by decide)) = UInt8.ofNat (48 + d.val) := by decide +kernel
  rw [this ⟨d, h10⟩]
theorem decRow_step (a f : Nat) (suf : List UInt8) (j : Nat) (hf : 1 ≤ f) (_hs : f ≤ 20) (_hj : j < 20) {h : a % 10 < 16} :
    (if j = f - 1 then Value.int .u8 (((⟨#[48, 49, 50, 51, 52, 53, 54, 55, 56, 57, 97, 98, 99, 100, 101, 102]⟩ : ByteArray)[a % 10]'h).toNat : Int) else decRow f suf j) = decRow (f - 1) (UInt8.ofNat (48 + a % 10) :: suf) j := by
  rw [dig10 _ h (by omega)]
  unfold decRow
  by_cases e : j = f - 1
  · subst e
    rw [if_pos rfl, if_pos (Nat.le_refl _), Nat.sub_self]
    rfl
  · rw [if_neg e]
    by_cases h2 : f ≤ j
    · rw [if_pos h2, if_pos (by omega), show j - (f - 1) = (j - f) + 1 by omega]
      simp [List.getD]
    · rw [if_neg h2, if_neg (by omega)]
theorem decRow_set {w : World} {b f : Nat} {t : TypeId} {suf : List UInt8} (hrow : w.rowIs b t 20 (decRow f suf)) (a : Nat) (hf : 1 ≤ f) (hf20 : f ≤ 20) (h : a % 10 < 16) :
    (w.setCell ⟨b, f - 1, none⟩ (Value.int .u8 (((⟨#[48, 49, 50, 51, 52, 53, 54, 55, 56, 57, 97, 98, 99, 100, 101, 102]⟩ : ByteArray)[a % 10]'h).toNat : Int))).rowIs b t 20 (decRow (f - 1) (UInt8.ofNat (48 + a % 10) :: suf)) :=
  (World.rowIs.set hrow (f - 1) _).congr fun j hj => decRow_step a f suf j hf hf20 hj
end Go.Proofs.YtanbjifdcplmnaaGreatDoor
end
/- The plain mathematics of layer 6: bundles, the bytes that they are. No program's number stands here but the sums' (CrcR). -/
namespace Go.Proofs.YtanbjifdcplmnaaGreatDoor

/-! ### Endpoints' items -/
theorem letter_plain {c : UInt8} (h : lsB c = true) : (decide (32 ≤ c.toNat) && decide (c.toNat ≤ 126)) = true := by
  have h0 : ∀ v : Fin 256, lsB (UInt8.ofNat v.val) = true → (decide (32 ≤ (UInt8.ofNat v.val).toNat) && decide ((UInt8.ofNat v.val).toNat ≤ 126)) = true := by decide +kernel
  have := h0 ⟨c.toNat, c.toNat_lt⟩
  simp only [UInt8.ofNat_toNat] at this
  exact this h
theorem name_plain {s : List UInt8} (h : nameB s = true) : plain s = true := by
  obtain ⟨r, rfl, h2, -⟩ := name_head h
  have hr : (r.all fun c => decide (32 ≤ c.toNat) && decide (c.toNat ≤ 126)) = true := List.all_eq_true.2 fun c hc => letter_plain (List.all_eq_true.1 h2 c hc)
  unfold plain
  rw [List.all_cons, List.all_cons, hr]
  decide
theorem itemE_good {e : Epd} (h : checkB e = true) : right (itemE e) = true ∧ dep (itemE e) ≤ 2 ∧ par (itemE e) ≤ 5 := by
  by_cases h1 : e.scheme = 1
  · obtain ⟨hn, hs, hm⟩ := check_dtn h h1
    unfold itemE
    rw [if_neg (by omega)]
    by_cases h0 : e.name = []
    · rw [if_pos h0]
      exact ⟨by simp [right, rights, own], by simp [dep, deps], by simp [par, pars]⟩
    · rw [if_neg h0]
      have hp := name_plain (hm.resolve_left h0)
      exact ⟨by simp [right, rights, own, hp], by simp [dep, deps], by simp [par, pars]⟩
  · obtain ⟨h2, hm, -⟩ := check_ipn h h1
    unfold itemE
    rw [if_pos h2]
    exact ⟨by simp [right, rights, own], by simp [dep, deps], by simp [par, pars]⟩
theorem itemE_siz {e : Epd} (h : checkB e = true) : Siz (itemE e) := by
  by_cases h1 : e.scheme = 1
  · obtain ⟨hn, hs, hm⟩ := check_dtn h h1
    unfold itemE
    rw [if_neg (by omega)]
    by_cases h0 : e.name = []
    · rw [if_pos h0]
      exact ⟨by decide, by simp, by simp, ⟨by rw [h1]; decide, by simp, by simp, trivial⟩, ⟨by decide, by simp, by simp, trivial⟩, trivial⟩
    · rw [if_neg h0]
      obtain ⟨r, hr, -, -, -, hl⟩ := name_head (hm.resolve_left h0)
      exact ⟨by decide, by simp, by simp, ⟨by rw [h1]; decide, by simp, by simp, trivial⟩, ⟨by decide, by omega, by simp, trivial⟩, trivial⟩
  · obtain ⟨h2, hm, -, h3, h4⟩ := check_ipn h h1
    unfold itemE
    rw [if_pos h2]
    exact ⟨by decide, by simp, by simp, ⟨by rw [h2]; decide, by simp, by simp, trivial⟩, ⟨by decide, by simp, by simp, ⟨by omega, by simp, by simp, trivial⟩, ⟨by omega, by simp, by simp, trivial⟩, trivial⟩, trivial⟩
theorem wri_4 (l : List Itm) : wri (.mk 4 0 [] l) = hd 4 l.length ++ wrs l := by rw [wri, if_neg (by decide), if_neg (by decide), if_pos rfl]
theorem wri_t (d : List UInt8) : wri (.mk 3 0 d []) = hd 3 d.length ++ d := by rw [wri, if_neg (by decide), if_pos (by decide)]; rfl
theorem wri_itemE_len {e : Epd} (h : checkB e = true) : (wri (itemE e)).length ≤ 110 := by
  have hl : ∀ m n, (hd m n).length ≤ 9 := fun m n => by rw [hd_len]; have := hsz_le n; omega
  have a0 := hl 4 2
  have a1 := hl 0 e.scheme.toNat
  by_cases h1 : e.scheme = 1
  · obtain ⟨hn, hs, hm⟩ := check_dtn h h1
    unfold itemE
    rw [if_neg (by omega), wri_4]
    by_cases h0 : e.name = []
    · rw [if_pos h0]
      have a3 := hl 0 0
      simp only [wrs, wri_u, List.length_append, List.length_cons, List.length_nil, Nat.zero_add, Nat.reduceAdd, List.append_nil]
      omega
    · rw [if_neg h0]
      obtain ⟨r, hr, -, -, -, hl2⟩ := name_head (hm.resolve_left h0)
      have a3 := hl 3 e.name.length
      simp only [wrs, wri_u, wri_t, List.length_append, List.length_cons, List.length_nil, Nat.zero_add, Nat.reduceAdd, List.append_nil]
      omega
  · obtain ⟨h2, hm, -⟩ := check_ipn h h1
    unfold itemE
    rw [if_pos h2, wri_4]
    have a3 := hl 0 e.node
    have a4 := hl 0 e.service
    simp only [wrs, wri_u, wri_4, List.length_append, List.length_cons, List.length_nil, Nat.zero_add, Nat.reduceAdd, List.append_nil]
    omega

/-! ### Bundles -/
/-- A bundle: flags, kind of sum, to, from, report to, time, sequence, life, blocks. -/
structure Bun where
  flg : Nat
  crc : Int
  dst : Epd
  src : Epd
  rep : Epd
  tim : Nat
  seq : Nat
  lif : Nat
  blks : List Blk
/-- Do the flags tell a fragment? -/
def fragB (f : Nat) : Bool := Go.bits BinOp.and IntKind.u64 (f : Int) 1 != 0
/-- Do they ask that the bundle stays whole, and for no report? -/
def wholeB (f : Nat) : Bool := Go.bits BinOp.and IntKind.u64 (f : Int) 475140 == 4
/-- Stands such a block once? -/
def singB (t : Nat) : Bool := decide (t = 10) || (decide (t = 7) || decide (t = 6))
/-- May these blocks stand behind those? -/
def frm (a : List Blk) : List Blk → Bool
  | [] => true
  | x :: r => blkOk x && ((decide (x.typ = 1) == r.isEmpty) && ((!(a.any fun y => decide (y.num = x.num))) && ((!(singB x.typ && a.any fun y => decide (y.typ = x.typ))) && frm (a ++ [x]) r)))
def blksOk (l : List Blk) : Bool := decide (1 ≤ l.length ∧ l.length ≤ 16) && frm [] l
def primOk (b : Bun) : Bool := decide (0 ≤ b.crc ∧ b.crc ≤ 2) && ((checkB b.dst && (checkB b.src && checkB b.rep)) && ((!(noneB b.dst)) && (!(noneB b.src && !(wholeB b.flg)))))
/-- Check's number. -/
def cauU (b : Bun) : Int := if fragB b.flg = true then 62 else if primOk b = true ∧ blksOk b.blks = true then 0 else 60
/-- Its numbers are below 2^64, its texts no longer than any machine's. -/
def BdE (e : Epd) : Prop := e.name.length ≤ 140737488355328 ∧ e.node < 18446744073709551616 ∧ e.service < 18446744073709551616
def BdP (b : Bun) : Prop := b.flg < 18446744073709551616 ∧ b.tim < 18446744073709551616 ∧ b.seq < 18446744073709551616 ∧ b.lif < 18446744073709551616
/-- What a primary block asks of its bundle, to be written. -/
def Wr (b : Bun) : Prop := (0 ≤ b.crc ∧ b.crc ≤ 2) ∧ checkB b.dst = true ∧ checkB b.src = true ∧ checkB b.rep = true
def partsP (b : Bun) : List Itm := [.mk 0 7 [] [], .mk 0 b.flg [] [], .mk 0 b.crc.toNat [] [], itemE b.dst, itemE b.src, itemE b.rep, .mk 4 0 [] [.mk 0 b.tim [] [], .mk 0 b.seq [] []], .mk 0 b.lif [] []]
/-- A primary block's item, with a sum's bytes. -/
def itmP (b : Bun) (s : List UInt8) : Itm := .mk 4 0 [] (partsP b ++ if b.crc = 0 then [] else [.mk 2 0 s []])
def bodyP (b : Bun) : List UInt8 := hd 4 (if b.crc = 0 then 8 else 9) ++ (wrs (partsP b) ++ if b.crc = 0 then [] else hd 2 (sumN b.crc))
def nullsP (b : Bun) : List UInt8 := List.replicate (sumN b.crc) 0
theorem nullsP_len (b : Bun) : (nullsP b).length = sumN b.crc := by simp [nullsP]
def sumP (b : Bun) : List UInt8 := crcBytes b.crc (bodyP b ++ nullsP b)
def primW (b : Bun) : List UInt8 := bodyP b ++ sumP b
theorem sumP_len (b : Bun) : (sumP b).length = sumN b.crc := crcBytes_len _ _
theorem wri_itmP (b : Bun) (s : List UInt8) (hs : s.length = sumN b.crc) : wri (itmP b s) = bodyP b ++ s := by
  unfold itmP
  rw [wri, if_neg (by decide), if_neg (by decide), if_pos rfl]
  unfold bodyP
  by_cases h0 : b.crc = 0
  · have : s = [] := List.eq_nil_of_length_eq_zero (by rw [hs, h0]; rfl)
    subst this
    simp only [if_pos h0, List.append_nil]
    rw [show (partsP b).length = 8 from rfl]
  · simp only [if_neg h0]
    rw [wrs_ap, show (partsP b ++ [Itm.mk 2 0 s []]).length = 9 from rfl, wrs, wri_b, wrs, hs]
    simp [List.append_assoc]
theorem itmP_fits {b : Bun} (s : List UInt8) (h : Wr b) : Fits (itmP b s) := by
  obtain ⟨-, hd, hs, hr⟩ := h
  obtain ⟨d1, d2, d3⟩ := itemE_good hd
  obtain ⟨s1, s2, s3⟩ := itemE_good hs
  obtain ⟨r1, r2, r3⟩ := itemE_good hr
  unfold itmP partsP
  by_cases h0 : b.crc = 0
  · simp only [if_pos h0]
    exact ⟨by simp [right, rights, own, d1, s1, r1], by simp [dep, deps]; omega, by simp [par, pars]; omega⟩
  · simp only [if_neg h0]
    exact ⟨by simp [right, rights, own, d1, s1, r1], by simp [dep, deps]; omega, by simp [par, pars]; omega⟩
theorem itmP_siz {b : Bun} (s : List UInt8) (h : Wr b) (hb : BdP b) (hs : s.length < 18446744073709551616) : Siz (itmP b s) := by
  obtain ⟨hc, hd, hsr, hr⟩ := h
  obtain ⟨h1, h2, h3, h4⟩ := hb
  have h5 : b.crc.toNat < 18446744073709551616 := by omega
  have d1 := itemE_siz hd
  have s1 := itemE_siz hsr
  have r1 := itemE_siz hr
  unfold itmP partsP
  have hrow : ∀ t : List Itm, Sizs t → Sizs ([.mk 0 7 [] [], .mk 0 b.flg [] [], .mk 0 b.crc.toNat [] [], itemE b.dst, itemE b.src, itemE b.rep, .mk 4 0 [] [.mk 0 b.tim [] [], .mk 0 b.seq [] []], .mk 0 b.lif [] []] ++ t) := fun t ht =>
    ⟨⟨by decide, by simp, by simp, trivial⟩, ⟨h1, by simp, by simp, trivial⟩, ⟨h5, by simp, by simp, trivial⟩, d1, s1, r1, ⟨by decide, by simp, by simp, ⟨h2, by simp, by simp, trivial⟩, ⟨h3, by simp, by simp, trivial⟩, trivial⟩, ⟨h4, by simp, by simp, trivial⟩, ht⟩
  by_cases h0 : b.crc = 0
  · simp only [if_pos h0]
    exact ⟨by decide, by simp, by simp, hrow [] trivial⟩
  · simp only [if_neg h0]
    exact ⟨by decide, by simp, by simp, hrow _ ⟨⟨by decide, hs, by simp, trivial⟩, trivial⟩⟩
theorem bodyP_len {b : Bun} (h : Wr b) : (bodyP b).length ≤ 450 := by
  obtain ⟨-, d0, s0, r0⟩ := h
  have d1 := wri_itemE_len d0
  have s1 := wri_itemE_len s0
  have r1 := wri_itemE_len r0
  have hl : ∀ m n, (hd m n).length ≤ 9 := fun m n => by rw [hd_len]; have := hsz_le n; omega
  unfold bodyP partsP
  have h1 := hl 4 (if b.crc = 0 then 8 else 9)
  have h2 := hl 0 7
  have h3 := hl 0 b.flg
  have h4 := hl 0 b.crc.toNat
  have h5 := hl 0 b.tim
  have h6 := hl 0 b.seq
  have h7 := hl 0 b.lif
  have h8 := hl 4 2
  have h9 := hl 2 (sumN b.crc)
  simp only [wrs, wri_u, wri_4, List.length_append, List.length_cons, List.length_nil, Nat.zero_add, Nat.reduceAdd, List.append_nil]
  generalize (hd 4 (if b.crc = 0 then 8 else 9)).length = q at *
  by_cases h0 : b.crc = 0
  · rw [if_pos h0, List.length_nil]; omega
  · rw [if_neg h0]; omega
theorem bodyP_pos (b : Bun) : 1 ≤ (bodyP b).length := by unfold bodyP; simp only [List.length_append, hd_len]; omega
theorem primW_len {b : Bun} (h : Wr b) : (primW b).length ≤ 454 := by
  unfold primW
  rw [List.length_append, sumP_len]
  have := bodyP_len h
  have := sumN_le b.crc
  omega
theorem primW_lenE (b : Bun) : (primW b).length = (bodyP b).length + sumN b.crc := by unfold primW; rw [List.length_append, sumP_len]
/-- A primary block's bytes are its item's. -/
theorem prim_dec {b : Bun} (h : Wr b) (hb : BdP b) (m : List UInt8) : decode (primW b ++ m) = (itmP b (sumP b), ((primW b).length : Int), 0) := by
  have hw := wri_itmP b (sumP b) (sumP_len b)
  have := decode_wr (itmP_fits (sumP b) h) (itmP_siz (sumP b) h hb (by rw [sumP_len]; have := sumN_le b.crc; omega)) m
  rw [hw] at this
  exact this

/-- The blocks' bytes. -/
def blkWs : List Blk → List UInt8 | [] => [] | x :: r => blkW x ++ blkWs r
theorem blkWs_app : ∀ a b : List Blk, blkWs (a ++ b) = blkWs a ++ blkWs b
  | [], b => rfl
  | x :: r, b => by rw [List.cons_append, blkWs, blkWs, blkWs_app r b, List.append_assoc]
/-- A bundle's bytes. -/
def bunW (b : Bun) : List UInt8 := 0x9f :: (primW b ++ (blkWs b.blks ++ [0xff]))

theorem primOk_iff {b : Bun} : primOk b = true ↔ Wr b ∧ noneB b.dst = false ∧ (noneB b.src = true → wholeB b.flg = true) := by
  unfold primOk Wr
  simp only [Bool.and_eq_true, decide_eq_true_eq, Bool.not_eq_true', Bool.and_eq_false_iff, Bool.not_eq_false']
  constructor
  · rintro ⟨h1, ⟨h2, h3, h4⟩, h5, h6⟩
    exact ⟨⟨h1, h2, h3, h4⟩, h5, fun h => h6.resolve_left (by rw [h]; decide)⟩
  · rintro ⟨⟨h1, h2, h3, h4⟩, h5, h6⟩
    refine ⟨h1, ⟨h2, h3, h4⟩, h5, ?_⟩
    cases hn : noneB b.src
    · exact .inl rfl
    · exact .inr (h6 hn)
theorem cauU_0 {b : Bun} : cauU b = 0 ↔ fragB b.flg = false ∧ primOk b = true ∧ blksOk b.blks = true := by
  unfold cauU
  cases fragB b.flg <;> by_cases h : primOk b = true ∧ blksOk b.blks = true <;> simp [h] <;> simp_all
/-- A primary block stands at the beginning of bytes. -/
def PrimAt (l : List UInt8) (b : Bun) : Prop := Wr b ∧ BdP b ∧ ∃ m, l = primW b ++ m
theorem PrimAt.dec {l : List UInt8} {b : Bun} (h : PrimAt l b) : decode l = (itmP b (sumP b), ((primW b).length : Int), 0) := by
  obtain ⟨h1, h2, m, rfl⟩ := h
  exact prim_dec h1 h2 m
end Go.Proofs.YtanbjifdcplmnaaGreatDoor
/- append of a slice, perhaps of no element, onto one that the call owns; rows beside. No program's functions. -/
namespace Go.Proofs.YtanbjifdcplmnaaGreatDoor
open Go.RowKit

theorem run_append_z {P : Program} (w : World) (t ty : TypeId) (base : Nat) (e : TypeId) (i : TypeInfo) (z : Value) (size bytes : Nat) (ht : P.underlying t = some (.slice e)) (hi : P.info? e = some i) (hz : i.zero = some z)
    (hsize : i.size = size) (hby : i.bytes = bytes) (hzs : z.cells.size = size) (hsz : 0 < size)
    (g0 cap0 n : Nat) (xs : List Value) (hown : w.ownsRow base e size (.slice (some ⟨g0, 0, none⟩) n cap0) n xs)
    (ad : Addr) (m c : Nat) (news : List Value) (hl : news.length = m * size) (hnews : ∀ j u, news[j]? = some u → w.cell? (ad.add j) = some u) (h1 : ∀ u ∈ news, u.oneCell' = true)
    (h63 : n + m ≤ maxLen) (hbytes : (n + m) * bytes ≤ 140737488355328) (hbase : base ≤ w.heap.size) :
    ∃ g cap w', (Builtin.append_ #[t, t] ty #[.slice (some ⟨g0, 0, none⟩) n cap0, .slice (some ad) m c]).run P w = .ok (.slice (some ⟨g, 0, none⟩) (n + m) cap) w' ∧
      w'.ownsRow base e size (.slice (some ⟨g, 0, none⟩) (n + m) cap) (n + m) (xs ++ news) ∧ w.grownBy w' (some g0) ∧ (g = g0 ∨ g = w.heap.size) ∧ g < w'.heap.size := by
  obtain ⟨v', w', hr, h2, h3, h4, h5⟩ := run_append_own_at (P := P) w base t ty e i z size bytes ht hi hz hsize hby hzs hsz _ n xs hown ad m c news hl hnews h1 h63 hbytes hbase
  rcases h2.2 with ⟨rfl, _⟩ | ⟨g, cap, cur, rfl, hb, hg, _⟩
  · have := (h4.1 rfl).1
    cases this
  refine ⟨g, cap, w', hr, h2, h3, ?_, ?_⟩
  · rcases h5 with h5 | h5
    · left; simpa [Value.ownBlock] using h5
    · right; simpa [Value.ownBlock] using h5
  · rcases Nat.lt_or_ge g w'.heap.size with hlt | hge
    · exact hlt
    · rw [Array.getElem?_eq_none hge] at hg; cases hg

theorem step_append_z {P : Program} {w : World} {ops : Array Oper} {o : Oper} {a : Act} {K : Act → World → Prop} {Q : Exit → Act → World → Prop} {E : Prop} (hgd : o.guard = none) (s x : Operand) (t : TypeId)
    (ho : o.op = .call { callee := .builtin .append, args := #[s, x], argTypes := #[t, t] })
    (base : Nat) (e : TypeId) (i : TypeInfo) (z : Value) (size bytes : Nat) (ht : P.underlying t = some (.slice e)) (hi : P.info? e = some i) (hz : i.zero = some z)
    (hsize : i.size = size) (hby : i.bytes = bytes) (hzs : z.cells.size = size) (hsz : 0 < size)
    (g0 cap0 n : Nat) (xs : List Value) (hs : a.eval s = .slice (some ⟨g0, 0, none⟩) n cap0) (hown : w.ownsRow base e size (.slice (some ⟨g0, 0, none⟩) n cap0) n xs)
    (ad : Addr) (m c : Nat) (news : List Value) (hx : a.eval x = .slice (some ad) m c) (hl : news.length = m * size) (hnews : ∀ j u, news[j]? = some u → w.cell? (ad.add j) = some u) (h1 : ∀ u ∈ news, u.oneCell' = true)
    (h63 : n + m ≤ maxLen) (hbytes : (n + m) * bytes ≤ 140737488355328) (hbase : base ≤ w.heap.size)
    (h : ∀ g cap w', w'.ownsRow base e size (.slice (some ⟨g, 0, none⟩) (n + m) cap) (n + m) (xs ++ news) → w.grownBy w' (some g0) → (g = g0 ∨ g = w.heap.size) → g < w'.heap.size → K (a.put o.dst (.slice (some ⟨g, 0, none⟩) (n + m) cap)) w') :
    if Region.wanted o (yielded ops a.tmps) = true then Oper.wp P o a w K Q else E := by
  have hw : Region.wanted o (yielded ops a.tmps) = true := by simp [Region.wanted, hgd]
  rw [if_pos hw]
  obtain ⟨g, cap, w', hr, h2, h3, h4, h5⟩ := run_append_z (P := P) w t o.type base e i z size bytes ht hi hz hsize hby hzs hsz g0 cap0 n xs hown ad m c news hl hnews h1 h63 hbytes hbase
  unfold Oper.wp execOp
  simp only [ho, resolve, invoke, builtin, Sem.run_bind, Sem.run_pure, Result.andThen_ok, List.map_toArray, List.map_cons, List.map_nil, hs, hx, hr]
  exact h g cap w' h2 h3 h4 h5

theorem wpList_append_z {P : Program} {w : World} {ops : Array Oper} {rest : List Oper} {o : Oper} {a : Act} {Q : Exit → Act → World → Prop} (hgd : o.guard = none) (s x : Operand) (t : TypeId)
    (ho : o.op = .call { callee := .builtin .append, args := #[s, x], argTypes := #[t, t] })
    (base : Nat) (e : TypeId) (i : TypeInfo) (z : Value) (size bytes : Nat) (ht : P.underlying t = some (.slice e)) (hi : P.info? e = some i) (hz : i.zero = some z)
    (hsize : i.size = size) (hby : i.bytes = bytes) (hzs : z.cells.size = size) (hsz : 0 < size)
    (g0 cap0 n : Nat) (xs : List Value) (hs : a.eval s = .slice (some ⟨g0, 0, none⟩) n cap0) (hown : w.ownsRow base e size (.slice (some ⟨g0, 0, none⟩) n cap0) n xs)
    (ad : Addr) (m c : Nat) (news : List Value) (hx : a.eval x = .slice (some ad) m c) (hl : news.length = m * size) (hnews : ∀ j u, news[j]? = some u → w.cell? (ad.add j) = some u) (h1 : ∀ u ∈ news, u.oneCell' = true)
    (h63 : n + m ≤ maxLen) (hbytes : (n + m) * bytes ≤ 140737488355328) (hbase : base ≤ w.heap.size)
    (h : ∀ g cap w', w'.ownsRow base e size (.slice (some ⟨g, 0, none⟩) (n + m) cap) (n + m) (xs ++ news) → w.grownBy w' (some g0) → (g = g0 ∨ g = w.heap.size) → g < w'.heap.size → wpList P ops Q rest (a.put o.dst (.slice (some ⟨g, 0, none⟩) (n + m) cap)) w') :
    wpList P ops Q (o :: rest) a w := by
  refine wpList_plain hgd fun _ hK => ?_
  obtain ⟨g, cap, w', hr, h2, h3, h4, h5⟩ := run_append_z (P := P) w t o.type base e i z size bytes ht hi hz hsize hby hzs hsz g0 cap0 n xs hown ad m c news hl hnews h1 h63 hbytes hbase
  unfold Oper.wp execOp
  simp only [ho, resolve, invoke, builtin, Sem.run_bind, Sem.run_pure, Result.andThen_ok, List.map_toArray, List.map_cons, List.map_nil, hs, hx, hr]
  exact hK _ _ (h g cap w' h2 h3 h4 h5)
/-- A row that lies at the head of block g. -/
def RowAt (w : World) (g : Nat) (cs : List Value) : Prop := g < w.heap.size ∧ ∀ j u, cs[j]? = some u → w.cell? ((⟨g, 0, none⟩ : Addr).add j) = some u
theorem addr0 (g j : Nat) : (⟨g, 0, none⟩ : Addr).add j = ⟨g, j, none⟩ := by unfold Addr.add; split <;> simp_all
theorem addr_add (b o j : Nat) : (⟨b, o, none⟩ : Addr).add j = ⟨b, o + j, none⟩ := by unfold Addr.add; split <;> simp_all
theorem RowAt.made (w : World) (cs : Array Value) (t : TypeId) : RowAt (w.alloc (.cells cs t)) w.heap.size cs.toList :=
  ⟨by simp, fun j u hj => by
    rw [addr0, World.cell?_alloc_at _ _ _ _ rfl]
    simpa using hj⟩
theorem RowAt.below {w w' : World} {g : Nat} {cs : List Value} (h : RowAt w g cs) (hb : Below w.heap.size w w') : RowAt w' g cs :=
  ⟨Nat.lt_of_lt_of_le h.1 hb.size, fun j u hj => by rw [addr0, hb.cell (p := ⟨g, j, none⟩) h.1, ← addr0]; exact h.2 j u hj⟩
theorem RowAt.alloc {w : World} {g : Nat} {cs : List Value} (h : RowAt w g cs) (o : Obj) : RowAt (w.alloc o) g cs := h.below ((Below.refl _ _).alloc (Nat.le_refl _) o)
theorem RowAt.grown {w w' : World} {g g0 : Nat} {cs : List Value} (h : RowAt w g cs) (hg : w.grownBy w' (some g0)) (hne : g ≠ g0) : RowAt w' g cs :=
  ⟨Nat.lt_of_lt_of_le h.1 hg.size, fun j u hj => by rw [addr0, hg.cell_far ⟨g, j, none⟩ h.1 (fun e => hne (Option.some.inj e)), ← addr0]; exact h.2 j u hj⟩
theorem ne_grown {w : World} {gx g g' : Nat} (hne : gx ≠ g) (hlt : gx < w.heap.size) (hat : g' = g ∨ g' = w.heap.size) : gx ≠ g' := by omega
theorem owns_lt {w : World} {base g n cap size : Nat} {e : TypeId} {xs : List Value} (h : w.ownsRow base e size (.slice (some ⟨g, 0, none⟩) n cap) n xs) : g < w.heap.size := (World.ownsRow.lt h g rfl).2
theorem owns_base {w : World} {base g n cap size : Nat} {e : TypeId} {xs : List Value} (h : w.ownsRow base e size (.slice (some ⟨g, 0, none⟩) n cap) n xs) : base ≤ g := (World.ownsRow.lt h g rfl).1
theorem owns_cap {w : World} {base g n cap size : Nat} {e : TypeId} {xs : List Value} (h : w.ownsRow base e size (.slice (some ⟨g, 0, none⟩) n cap) n xs) : n ≤ cap := by
  rcases h.2 with ⟨hv, _⟩ | ⟨g', cap', cur, hv, _, _, hnc, _⟩
  · cases hv
  · injection hv with _ _ h3
    omega
/-- What is not the row is as it was, below the base too. -/
theorem grownOwn {w a w' : World} {base g : Nat} (h : Below base w a) (hb : base ≤ a.heap.size) (hg : a.grownBy w' (some g)) (hbg : base ≤ g) : Below base w w' :=
  h.grown hg hb (fun k e => by cases e; exact hbg)
/-- One of the operations that only read, ahead of others. -/
theorem takeR {P : Program} {md : Region.Mode} {l : List Oper} {Q : Exit → Act → World → Prop} {S : World → Prop} {i : Nat} {oi : Oper} {v : Value} {fuel : Nat} {listed : Array Bool} {a : Act} {w : World} (hi : l[i]? = some oi)
    (hs : Region.noSelect l.toArray = true) (hf : Region.free md l.toArray listed i = true) (hr : (Region.ready md l.toArray listed).contains i = true)
    (hQ : ∀ c a w, Q (.panic c) (a.put oi.dst v) w → Q (.panic c) a w) (hw : Region.wanted oi (yielded l.toArray a.tmps) = true) (hy : ∀ w, S w → (execOp a.eval oi).run P w = .ok (.value v) w) (hS : S w)
    (h : wpAnyH P md l.toArray Q S fuel (listed.setIfInBounds i true) (a.put oi.dst v) w) : wpAnyH P md l.toArray Q S (fuel + 1) listed a w :=
  wpAnyH_take (oi := oi) (v := v) (by simpa using hi) hs hf hr hQ (Or.inl ⟨hw, hy⟩) hS h
end Go.Proofs.YtanbjifdcplmnaaGreatDoor
