/- The plain mathematics of layer 4: names in pieces, nodes' texts. No program's number stands here. -/
import Derived.Test.YtldnokgdgafphaaDoorJEidM
namespace Go.Proofs.YtldnokgdgafphaaDoor
open Go.Lib (decDigits)

theorem toSlash_app : ∀ (u t : List UInt8), (∀ c ∈ u, c ≠ 47) → toSlash (u ++ 47 :: t) = u.length
  | [], t, _ => by simp [toSlash]
  | x :: u, t, h => by
    have hx : (x != 47) = true := by rw [bne_iff_ne]; exact h x (by simp)
    have := toSlash_app u t (fun c hc => h c (by simp [hc]))
    unfold toSlash at this ⊢
    rw [List.cons_append, List.takeWhile_cons, if_pos hx, List.length_cons, this, List.length_cons]
theorem letter_no_slash {c : UInt8} (h : letterB c = true) : c ≠ 47 := by
  intro e
  subst e
  revert h
  decide
/-- A name in pieces. -/
def Pieces (s u t : List UInt8) : Prop := s = 47 :: 47 :: (u ++ 47 :: t) ∧ u ≠ [] ∧ (∀ c ∈ u, letterB c = true) ∧ t.all lsB = true ∧ s.length ≤ 64
theorem split_slash : ∀ r : List UInt8, toSlash r < r.length → ∃ u t, r = u ++ 47 :: t ∧ u.length = toSlash r ∧ ∀ c ∈ u, c ≠ 47
  | [], h => by simp at h
  | x :: r, h => by
    by_cases hx : x = 47
    · subst hx
      exact ⟨[], r, rfl, by simp [toSlash], fun c hc => (by cases hc)⟩
    · have hb : (x != 47) = true := by rw [bne_iff_ne]; exact hx
      have e : toSlash (x :: r) = toSlash r + 1 := by unfold toSlash; rw [List.takeWhile_cons, if_pos hb, List.length_cons]
      rw [e, List.length_cons] at h
      obtain ⟨u, t, h1, h2, h3⟩ := split_slash r (by omega)
      refine ⟨x :: u, t, by rw [h1]; rfl, by rw [List.length_cons, h2, e], fun c hc => ?_⟩
      simp only [List.mem_cons] at hc
      rcases hc with rfl | hc
      · exact hx
      · exact h3 c hc
theorem name_pieces {s : List UInt8} (h : nameB s = true) : ∃ u t, Pieces s u t := by
  obtain ⟨r, rfl, h2, h3, h4, h5⟩ := name_head h
  obtain ⟨u, t, rfl, hu, hn⟩ := split_slash r h4
  rw [List.all_append, List.all_cons, Bool.and_eq_true, Bool.and_eq_true] at h2
  refine ⟨u, t, rfl, ?_, fun c hc => ?_, h2.2.2, h5⟩
  · intro e
    have h0 : u.length = 0 := by rw [e]; rfl
    omega
  · have hl := List.all_eq_true.1 h2.1 c hc
    unfold lsB at hl
    rw [Bool.or_eq_true, beq_iff_eq] at hl
    exact hl.resolve_left (hn c hc)
theorem pieces_name {s u t : List UInt8} (h : Pieces s u t) : nameB s = true ∧ third s = 2 + u.length := by
  obtain ⟨rfl, h1, h2, h3, h4⟩ := h
  have hs : toSlash (u ++ 47 :: t) = u.length := toSlash_app u t (fun c hc => letter_no_slash (h2 c hc))
  have hp : 1 ≤ u.length := by
    cases u with
    | nil => exact absurd rfl h1
    | cons _ _ => simp
  refine ⟨?_, by unfold third; rw [List.drop_succ_cons, List.drop_succ_cons, List.drop_zero, hs]⟩
  unfold nameB
  simp only [Bool.and_eq_true, decide_eq_true_eq, hs, List.all_append, List.all_cons, h3]
  refine ⟨h4, ⟨by decide, by decide⟩, ⟨List.all_eq_true.2 fun c hc => ?_, by decide, by first | rfl | trivial⟩, hp, by simp⟩
  unfold lsB
  rw [h2 c hc, Bool.or_true]
theorem pieces_take {s u t : List UInt8} (h : Pieces s u t) : s.take (third s + 1) = 47 :: 47 :: (u ++ [47]) := by
  rw [(pieces_name h).2, h.1, show 2 + u.length + 1 = (u.length + 1) + 2 by omega, List.take_succ_cons, List.take_succ_cons]
  have : (u ++ 47 :: t).take (u.length + 1) = u ++ [47] := by
    rw [List.take_append, List.take_of_length_le (by omega), show u.length + 1 - u.length = 1 by omega]
    rfl
  rw [this]

theorem node_dtn {e : Epd} (h : checkB e = true) (h1 : e.scheme = 1) (hn : e.name ≠ []) : nodeE e = dtnL ++ e.name.take (third e.name + 1) := by
  unfold nodeE
  have hno : noneB e = false := by
    unfold noneB
    rw [show e.name.isEmpty = false by cases hh : e.name with | nil => exact absurd hh hn | cons _ _ => rfl]
    simp
  rw [if_neg (by rw [h, hno]; decide), if_neg (by omega)]
/-- An endpoint of Dtn that may be, but none: its name's pieces, its texts. -/
theorem dtn_all {e : Epd} (h : checkB e = true) (h1 : e.scheme = 1) (hn : e.name ≠ []) : ∃ u t, Pieces e.name u t ∧ textE e = dtnL ++ 47 :: 47 :: (u ++ 47 :: t) ∧ nodeE e = dtnL ++ 47 :: 47 :: (u ++ [47]) := by
  obtain ⟨u, t, hp⟩ := name_pieces ((check_dtn h h1).2.2.resolve_left hn)
  exact ⟨u, t, hp, by rw [textE_dtn h h1 hn, hp.1], by rw [node_dtn h h1 hn, pieces_take hp]⟩
theorem check_mk {s u t : List UInt8} (h : Pieces s u t) : checkB ⟨1, s, 0, 0⟩ = true := by
  unfold checkB
  rw [if_pos rfl, (pieces_name h).1]
  simp
theorem nodeE_ipn {e : Epd} (h : checkB e = true) (h2 : e.scheme = 2) : nodeE e = ipnL ++ (decDigits e.node ++ [46, 48]) := by
  unfold nodeE
  have hno : noneB e = false := by unfold noneB; rw [show (e.scheme == 1) = false by rw [h2]; decide]; rfl
  rw [if_neg (by rw [h, hno]; decide), if_pos h2]
/-- Nodes of Ipn are told by their number. -/
theorem node_ipn_iff {a b : Epd} (ha : checkB a = true) (hb : checkB b = true) (a2 : a.scheme = 2) (b2 : b.scheme = 2) : nodeE a = nodeE b ↔ a.node = b.node := by
  rw [nodeE_ipn ha a2, nodeE_ipn hb b2]
  constructor
  · intro h
    exact dec_inj _ _ (dot_split _ _ [48] [48] (dec_no_dot _) (dec_no_dot _) (List.append_cancel_left h)).1
  · intro h; rw [h]
/-- A node's text is an endpoint's, whose node it is. -/
theorem node_text {e : Epd} (h : checkB e = true) (hn : noneB e = false) : ∃ n : Epd, checkB n = true ∧ textE n = nodeE e ∧ nodeE n = nodeE e ∧ n.scheme = e.scheme ∧ (nodeE e).length ≤ (textE e).length + 2 := by
  by_cases h1 : e.scheme = 1
  · have hne : e.name ≠ [] := by
      intro h0
      obtain ⟨a, b, _⟩ := check_dtn h h1
      unfold noneB at hn
      rw [h1, h0, a, b] at hn
      simp at hn
    obtain ⟨u, t, hp, ht, hnd⟩ := dtn_all h h1 hne
    have hp2 : Pieces (47 :: 47 :: (u ++ [47])) u [] := ⟨rfl, hp.2.1, hp.2.2.1, rfl, by have := hp.2.2.2.2; rw [hp.1] at this; simp at this ⊢; omega⟩
    have hc := check_mk hp2
    have htx : textE ⟨1, 47 :: 47 :: (u ++ [47]), 0, 0⟩ = dtnL ++ 47 :: 47 :: (u ++ [47]) := textE_dtn hc rfl (by simp)
    refine ⟨⟨1, 47 :: 47 :: (u ++ [47]), 0, 0⟩, hc, by rw [htx, hnd], ?_, h1.symm, by rw [ht, hnd]; simp; omega⟩
    rw [hnd, node_dtn hc rfl (by simp), pieces_take hp2]
  · obtain ⟨h2, hnm, hn0, hn1, _⟩ := check_ipn h h1
    have hc : checkB ⟨2, [], e.node, 0⟩ = true := by unfold checkB; rw [if_neg (show ¬ (2 : Int) = 1 by decide)]; simp; omega
    refine ⟨⟨2, [], e.node, 0⟩, hc, ?_, ?_, h2.symm, ?_⟩
    · rw [textE_ipn hc rfl, nodeE_ipn h h2, show decDigits 0 = [48] by rw [dec_small (by decide)]; rfl]
    · rw [nodeE_ipn hc rfl, nodeE_ipn h h2]
    · rw [nodeE_ipn h h2, textE_ipn h h2]
      simp
      omega
theorem slash_split : ∀ (a b r t : List UInt8), (∀ c ∈ a, c ≠ 47) → (∀ c ∈ b, c ≠ 47) → a ++ 47 :: r = b ++ 47 :: t → a = b ∧ r = t
  | [], [], r, t, _, _, h => by simpa using h
  | [], y :: b, r, t, _, hb, h => by
    simp only [List.nil_append, List.cons_append, List.cons.injEq] at h
    exact absurd h.1.symm (hb y (by simp))
  | x :: a, [], r, t, ha, _, h => by
    simp only [List.nil_append, List.cons_append, List.cons.injEq] at h
    exact absurd h.1 (ha x (by simp))
  | x :: a, y :: b, r, t, ha, hb, h => by
    simp only [List.cons_append, List.cons.injEq] at h
    obtain ⟨h1, h2⟩ := slash_split a b r t (fun c hc => ha c (by simp [hc])) (fun c hc => hb c (by simp [hc])) h.2
    exact ⟨by rw [h.1, h1], h2⟩
/-- Behind a node's text: what may stand there. -/
theorem home_text {e : Epd} (h : checkB e = true) (h1 : e.scheme = 1) (hn : e.name ≠ []) (rest : List UInt8) (fine : Bool) (hf : fine = (decide ((nodeE e).length + rest.length ≤ 68) && rest.all lsB)) :
    (fine = true → ∃ f : Epd, checkB f = true ∧ textE f = nodeE e ++ rest ∧ nodeE f = nodeE e) ∧ (fine = false → ¬ ∃ f : Epd, checkB f = true ∧ textE f = nodeE e ++ rest) ∧ ∃ t, textE e = nodeE e ++ t := by
  obtain ⟨u, t, hp, ht, hnd⟩ := dtn_all h h1 hn
  refine ⟨?_, ?_, t, by rw [ht, hnd]; simp⟩
  · intro h3
    rw [hf, Bool.and_eq_true, decide_eq_true_eq, hnd] at h3
    have hp2 : Pieces (47 :: 47 :: (u ++ 47 :: rest)) u rest := ⟨rfl, hp.2.1, hp.2.2.1, h3.2, by have := h3.1; simp [dtnL] at this ⊢; omega⟩
    have hc := check_mk hp2
    refine ⟨⟨1, 47 :: 47 :: (u ++ 47 :: rest), 0, 0⟩, hc, ?_, ?_⟩
    · rw [textE_dtn hc rfl (by simp), hnd]; simp
    · rw [hnd, node_dtn hc rfl (by simp), pieces_take hp2]
  · rintro h3 ⟨f, hc, hft⟩
    rw [hnd] at hft
    by_cases f1 : f.scheme = 1
    · by_cases f0 : f.name = []
      · rw [textE_none hc f1 f0] at hft
        simp [dtnL, noneL] at hft
      · obtain ⟨u', t', hp', ht', _⟩ := dtn_all hc f1 f0
        rw [ht', List.append_assoc] at hft
        have h4 := List.append_cancel_left hft
        simp only [List.cons_append, List.append_assoc, List.cons.injEq, true_and, List.nil_append] at h4
        have h5 := slash_split u' u t' rest (fun c hc => letter_no_slash (hp'.2.2.1 c hc)) (fun c hc => letter_no_slash (hp.2.2.1 c hc)) h4
        obtain ⟨rfl, rfl⟩ := h5
        rw [hf] at h3
        have hl := hp'.2.2.2.2
        rw [hp'.1] at hl
        rw [hp'.2.2.2.1, Bool.and_true, decide_eq_false_iff_not, hnd] at h3
        simp [dtnL] at h3 hl
        omega
    · obtain ⟨f2, _⟩ := check_ipn hc f1
      rw [textE_ipn hc f2] at hft
      simp [dtnL, ipnL] at hft
end Go.Proofs.YtldnokgdgafphaaDoor
