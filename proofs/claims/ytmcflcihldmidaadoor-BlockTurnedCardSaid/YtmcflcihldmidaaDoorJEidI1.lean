/- The plain mathematics of layer 4: names in pieces, nodes' texts. No program's number stands here. -/
import Derived.Test.YtmcflcihldmidaaDoorJBlkM
import Derived.Test.YtmcflcihldmidaaDoorJCborD2
import Derived.Test.YtmcflcihldmidaaDoorJCborF
import Derived.Test.YtmcflcihldmidaaDoorJEidM
import Derived.Test.YtmcflcihldmidaaDoorJKEnc
import Derived.Test.YtmcflcihldmidaaDoorJMask
import Derived.Test.YtmcflcihldmidaaDoorJNumG
import Derived.Test.YtmcflcihldmidaaDoorJOwn
import Derived.Test.YtmcflcihldmidaaDoorRows
namespace Go.Proofs.YtmcflcihldmidaaDoor
open Go.Lib (decDigits)

theorem toSlash_app : ∀ (u t : List UInt8), (∀ c ∈ u, c ≠ 47) → toSlash (u ++ 47 :: t) = u.length
  | [], t, _ => by simp [toSlash]
  | x :: u, t, h => by
    have hx : (x != 47) = true := by rw [bne_iff_ne]; exact h x (by simp)
    have := toSlash_app u t (fun c hc => h c (by simp [hc]))
    unfold toSlash at this ⊢
    rw [List.cons_append, List.takeWhile_cons, if_pos hx, List.length_cons, this, List.length_cons]
theorem letter_no_slash {c : UInt8} (h : letterB c = true) : c ≠ 47 := by
  intro e
  subst e
  revert h
  decide
/-- A name in pieces. -/
def Pieces (s u t : List UInt8) : Prop := s = 47 :: 47 :: (u ++ 47 :: t) ∧ u ≠ [] ∧ (∀ c ∈ u, letterB c = true) ∧ t.all lsB = true ∧ s.length ≤ 64
theorem split_slash : ∀ r : List UInt8, toSlash r < r.length → ∃ u t, r = u ++ 47 :: t ∧ u.length = toSlash r ∧ ∀ c ∈ u, c ≠ 47
  | [], h => by simp at h
  | x :: r, h => by
    by_cases hx : x = 47
    · subst hx
      exact ⟨[], r, rfl, by simp [toSlash], fun c hc => (by cases hc)⟩
    · have hb : (x != 47) = true := by rw [bne_iff_ne]; exact hx
      have e : toSlash (x :: r) = toSlash r + 1 := by unfold toSlash; rw [List.takeWhile_cons, if_pos hb, List.length_cons]
      rw [e, List.length_cons] at h
      obtain ⟨u, t, h1, h2, h3⟩ := split_slash r (by omega)
      refine ⟨x :: u, t, by rw [h1]; rfl, by rw [List.length_cons, h2, e], fun c hc => ?_⟩
      simp only [List.mem_cons] at hc
      rcases hc with rfl | hc
      · exact hx
      · exact h3 c hc
theorem name_pieces {s : List UInt8} (h : nameB s = true) : ∃ u t, Pieces s u t := by
  obtain ⟨r, rfl, h2, h3, h4, h5⟩ := name_head h
  obtain ⟨u, t, rfl, hu, hn⟩ := split_slash r h4
  rw [List.all_append, List.all_cons, Bool.and_eq_true, Bool.and_eq_true] at h2
  refine ⟨u, t, rfl, ?_, fun c hc => ?_, h2.2.2, h5⟩
  · intro e
    have h0 : u.length = 0 := by rw [e]; rfl
    omega
  · have hl := List.all_eq_true.1 h2.1 c hc
    unfold lsB at hl
    rw [Bool.or_eq_true, beq_iff_eq] at hl
    exact hl.resolve_left (hn c hc)
theorem pieces_name {s u t : List UInt8} (h : Pieces s u t) : nameB s = true ∧ third s = 2 + u.length := by
  obtain ⟨rfl, h1, h2, h3, h4⟩ := h
  have hs : toSlash (u ++ 47 :: t) = u.length := toSlash_app u t (fun c hc => letter_no_slash (h2 c hc))
  have hp : 1 ≤ u.length := by
    cases u with
    | nil => exact absurd rfl h1
    | cons _ _ => simp
  refine ⟨?_, by unfold third; rw [List.drop_succ_cons, List.drop_succ_cons, List.drop_zero, hs]⟩
  unfold nameB
  simp only [Bool.and_eq_true, decide_eq_true_eq, hs, List.all_append, List.all_cons, h3]
  refine ⟨h4, ⟨by decide, by decide⟩, ⟨List.all_eq_true.2 fun c hc => ?_, by decide, by first | rfl | trivial⟩, hp, by simp⟩
  unfold lsB
  rw [h2 c hc, Bool.or_true]
theorem pieces_take {s u t : List UInt8} (h : Pieces s u t) : s.take (third s + 1) = 47 :: 47 :: (u ++ [47]) := by
  rw [(pieces_name h).2, h.1, show 2 + u.length + 1 = (u.length + 1) + 2 by omega, List.take_succ_cons, List.take_succ_cons]
  have : (u ++ 47 :: t).take (u.length + 1) = u ++ [47] := by
    rw [List.take_append, List.take_of_length_le (by omega), show u.length + 1 - u.length = 1 by omega]
    rfl
  rw [this]

theorem node_dtn {e : Epd} (h : checkB e = true) (h1 : e.scheme = 1) (hn : e.name ≠ []) : nodeE e = dtnL ++ e.name.take (third e.name + 1) := by
  unfold nodeE
  have hno : noneB e = false := by
    unfold noneB
    rw [show e.name.isEmpty = false by cases hh : e.name with | nil => exact absurd hh hn | cons _ _ => rfl]
    simp
  rw [if_neg (by rw [h, hno]; decide), if_neg (by omega)]
/-- An endpoint of Dtn that may be, but none: its name's pieces, its texts. -/
theorem dtn_all {e : Epd} (h : checkB e = true) (h1 : e.scheme = 1) (hn : e.name ≠ []) : ∃ u t, Pieces e.name u t ∧ textE e = dtnL ++ 47 :: 47 :: (u ++ 47 :: t) ∧ nodeE e = dtnL ++ 47 :: 47 :: (u ++ [47]) := by
  obtain ⟨u, t, hp⟩ := name_pieces ((check_dtn h h1).2.2.resolve_left hn)
  exact ⟨u, t, hp, by rw [textE_dtn h h1 hn, hp.1], by rw [node_dtn h h1 hn, pieces_take hp]⟩
theorem check_mk {s u t : List UInt8} (h : Pieces s u t) : checkB ⟨1, s, 0, 0⟩ = true := by
  unfold checkB
  rw [if_pos rfl, (pieces_name h).1]
  simp
theorem nodeE_ipn {e : Epd} (h : checkB e = true) (h2 : e.scheme = 2) : nodeE e = ipnL ++ (decDigits e.node ++ [46, 48]) := by
  unfold nodeE
  have hno : noneB e = false := by unfold noneB; rw [show (e.scheme == 1) = false by rw [h2]; decide]; rfl
  rw [if_neg (by rw [h, hno]; decide), if_pos h2]
/-- Nodes of Ipn are told by their number. -/
theorem node_ipn_iff {a b : Epd} (ha : checkB a = true) (hb : checkB b = true) (a2 : a.scheme = 2) (b2 : b.scheme = 2) : nodeE a = nodeE b ↔ a.node = b.node := by
  rw [nodeE_ipn ha a2, nodeE_ipn hb b2]
  constructor
  · intro h
    exact dec_inj _ _ (dot_split _ _ [48] [48] (dec_no_dot _) (dec_no_dot _) (List.append_cancel_left h)).1
  · intro h; rw [h]
/-- A node's text is an endpoint's, whose node it is. -/
theorem node_text {e : Epd} (h : checkB e = true) (hn : noneB e = false) : ∃ n : Epd, checkB n = true ∧ textE n = nodeE e ∧ nodeE n = nodeE e ∧ n.scheme = e.scheme ∧ (nodeE e).length ≤ (textE e).length + 2 := by
  by_cases h1 : e.scheme = 1
  · have hne : e.name ≠ [] := by
      intro h0
      obtain ⟨a, b, _⟩ := check_dtn h h1
      unfold noneB at hn
      rw [h1, h0, a, b] at hn
      simp at hn
    obtain ⟨u, t, hp, ht, hnd⟩ := dtn_all h h1 hne
    have hp2 : Pieces (47 :: 47 :: (u ++ [47])) u [] := ⟨rfl, hp.2.1, hp.2.2.1, rfl, by have := hp.2.2.2.2; rw [hp.1] at this; simp at this ⊢; omega⟩
    have hc := check_mk hp2
    have htx : textE ⟨1, 47 :: 47 :: (u ++ [47]), 0, 0⟩ = dtnL ++ 47 :: 47 :: (u ++ [47]) := textE_dtn hc rfl (by simp)
    refine ⟨⟨1, 47 :: 47 :: (u ++ [47]), 0, 0⟩, hc, by rw [htx, hnd], ?_, h1.symm, by rw [ht, hnd]; simp; omega⟩
    rw [hnd, node_dtn hc rfl (by simp), pieces_take hp2]
  · obtain ⟨h2, hnm, hn0, hn1, _⟩ := check_ipn h h1
    have hc : checkB ⟨2, [], e.node, 0⟩ = true := by unfold checkB; rw [if_neg (show ¬ (2 : Int) = 1 by decide)]; simp; omega
    refine ⟨⟨2, [], e.node, 0⟩, hc, ?_, ?_, h2.symm, ?_⟩
    · rw [textE_ipn hc rfl, nodeE_ipn h h2, show decDigits 0 = [48] by rw [dec_small (by decide)]; rfl]
    · rw [nodeE_ipn hc rfl, nodeE_ipn h h2]
    · rw [nodeE_ipn h h2, textE_ipn h h2]
      simp
      omega
theorem slash_split : ∀ (a b r t : List UInt8), (∀ c ∈ a, c ≠ 47) → (∀ c ∈ b, c ≠ 47) → a ++ 47 :: r = b ++ 47 :: t → a = b ∧ r = t
  | [], [], r, t, _, _, h => by simpa using h
  | [], y :: b, r, t, _, hb, h => by
    simp only [List.nil_append, List.cons_append, List.cons.injEq] at h
    exact absurd h.1.symm (hb y (by simp))
  | x :: a, [], r, t, ha, _, h => by
    simp only [List.nil_append, List.cons_append, List.cons.injEq] at h
    exact absurd h.1 (ha x (by simp))
  | x :: a, y :: b, r, t, ha, hb, h => by
    simp only [List.cons_append, List.cons.injEq] at h
    obtain ⟨h1, h2⟩ := slash_split a b r t (fun c hc => ha c (by simp [hc])) (fun c hc => hb c (by simp [hc])) h.2
    exact ⟨by rw [h.1, h1], h2⟩
/-- Behind a node's text: what may stand there. -/
theorem home_text {e : Epd} (h : checkB e = true) (h1 : e.scheme = 1) (hn : e.name ≠ []) (rest : List UInt8) (fine : Bool) (hf : fine = (decide ((nodeE e).length + rest.length ≤ 68) && rest.all lsB)) :
    (fine = true → ∃ f : Epd, checkB f = true ∧ textE f = nodeE e ++ rest ∧ nodeE f = nodeE e) ∧ (fine = false → ¬ ∃ f : Epd, checkB f = true ∧ textE f = nodeE e ++ rest) ∧ ∃ t, textE e = nodeE e ++ t := by
  obtain ⟨u, t, hp, ht, hnd⟩ := dtn_all h h1 hn
  refine ⟨?_, ?_, t, by rw [ht, hnd]; simp⟩
  · intro h3
    rw [hf, Bool.and_eq_true, decide_eq_true_eq, hnd] at h3
    have hp2 : Pieces (47 :: 47 :: (u ++ 47 :: rest)) u rest := ⟨rfl, hp.2.1, hp.2.2.1, h3.2, by have := h3.1; simp [dtnL] at this ⊢; omega⟩
    have hc := check_mk hp2
    refine ⟨⟨1, 47 :: 47 :: (u ++ 47 :: rest), 0, 0⟩, hc, ?_, ?_⟩
    · rw [textE_dtn hc rfl (by simp), hnd]; simp
    · rw [hnd, node_dtn hc rfl (by simp), pieces_take hp2]
  · rintro h3 ⟨f, hc, hft⟩
    rw [hnd] at hft
    by_cases f1 : f.scheme = 1
    · by_cases f0 : f.name = []
      · rw [textE_none hc f1 f0] at hft
        simp [dtnL, noneL] at hft
      · obtain ⟨u', t', hp', ht', _⟩ := dtn_all hc f1 f0
        rw [ht', List.append_assoc] at hft
        have h4 := List.append_cancel_left hft
        simp only [List.cons_append, List.append_assoc, List.cons.injEq, true_and, List.nil_append] at h4
        have h5 := slash_split u' u t' rest (fun c hc => letter_no_slash (hp'.2.2.1 c hc)) (fun c hc => letter_no_slash (hp.2.2.1 c hc)) h4
        obtain ⟨rfl, rfl⟩ := h5
        rw [hf] at h3
        have hl := hp'.2.2.2.2
        rw [hp'.1] at hl
        rw [hp'.2.2.2.1, Bool.and_true, decide_eq_false_iff_not, hnd] at h3
        simp [dtnL] at h3 hl
        omega
    · obtain ⟨f2, _⟩ := check_ipn hc f1
      rw [textE_ipn hc f2] at hft
      simp [dtnL, ipnL] at hft
end Go.Proofs.YtmcflcihldmidaaDoor
/- What Uint, Text and Bytes of layer 3 return; and bytes.Clone. -/
namespace Go.Proofs.YtmcflcihldmidaaDoor
open Go.RowKit

set_option maxRecDepth 100000 in
set_option maxHeartbeats 1000000 in
/-- bytes.Clone: nil of nil, else bytes of its own. -/
theorem bclone_any (A : Option Addr) (n c B : Nat) (l : List UInt8) (w : World) (hB : B ≤ w.heap.size) (h : Rd w B A n l) (hn : n ≤ 140737488355328) :
    Calls Tryd.prog 65 #[.slice A n c] w (GivesO 5 l w) := by
  have hl := h.1
  rcases A with _ | a
  · have h0 : n = 0 := by
      rcases Nat.eq_zero_or_pos n with h0 | h0
      · exact h0
      · obtain ⟨_, _, e, _⟩ := h.2 h0
        cases e
    subst h0
    have e : l = [] := List.eq_nil_of_length_eq_zero hl
    subst e
    have q22 := fun (W : World) (a : Option Addr) (n c : Nat) => Lib.run_eql_slice_nil (P := Tryd.prog) W 23 5 a n c 0 0 Tryd.underlying23
    go_enter Tryd.func65, Tryd.ntmps65
    go_wp2_with fail
    go_ret
    exact ⟨_, rfl, Ob.nil_ _ _ _, Below.refl _ _⟩
  · have HR := Lib.hid (h.alloc hB (.cells #[] 5))
    have HO := Lib.hid (show Ob (w.alloc (.cells #[] 5)) w.heap.size 5 (.slice (some ⟨w.heap.size, 0, none⟩) 0 0) [] from Ob.lit w [] #[] rfl (Nat.le_refl _) 0 rfl (by decide))
    have HN : Hid (([] : List UInt8).length + n ≤ 140737488355328) := by show _ ≤ _; simp; exact hn
    clear h hn hl hB
    have q22 := fun (W : World) (a : Option Addr) (n c : Nat) => Lib.run_eql_slice_nil (P := Tryd.prog) W 23 5 a n c 0 0 Tryd.underlying23
    go_enter Tryd.func65, Tryd.ntmps65
    go_wp2_with (first
      | (at_builtin; refine wpList_appB rfl (.tmp 5) (.tmp 6) 23 rfl w.heap.size 5 Tryd.underlying23 info_u8 _ [] rfl HO.out B (some a) n c l rfl HR.out HN.out (by simp) ?_; intro v1 w1 ho1 hb1; have O1 := Lib.hid ho1; have B1 := Lib.hid (((Below.refl w.heap.size w).alloc (Nat.le_refl _) _).trans hb1); clear ho1 hb1)
      | fail)
    go_ret
    exact ⟨_, rfl, by have := O1.out; rwa [List.nil_append] at this, B1.out⟩

set_option maxRecDepth 100000 in
set_option maxHeartbeats 1000000 in
theorem cuint_any (n : Nat) (w : World) (h : n < 18446744073709551616) :
    Calls Tryd.prog 45 #[.int .u64 (n : Int)] w (GivesI (.mk 0 n [] []) w) := by
  go_enter Tryd.func45, Tryd.ntmps45
  go_wp2_with fail
  have hr := fun W B => RdI.mk_uint (w := W) (B := B) (n := n) h
  exact bodyPost_ret (v := .agg #[.int .i64 0, .int .u64 (n : Int), .slice none 0 0, .slice none 0 0]) (by simp [results, Tryd.results45, go_sem]) rfl ⟨_, rfl, hr _ _, (Below.refl _ _).alloc (Nat.le_refl _) _⟩

set_option maxRecDepth 100000 in
set_option maxHeartbeats 1000000 in
theorem cbytes_any (A : Option Addr) (n c B : Nat) (l : List UInt8) (w : World) (hB : B ≤ w.heap.size) (h : Rd w B A n l) (hn : n ≤ 140737488355328) (_hc : n ≤ c) :
    Calls Tryd.prog 46 #[.slice A n c] w (GivesI (.mk 2 0 l []) w) := by
  have C1 := Lib.hid (bclone_any A n c B l (w.alloc (.cells #[.int .i64 0, .int .u64 0, .slice none 0 0, .slice none 0 0] 45)) (Nat.le_trans hB (le_alloc _ _)) (h.alloc hB _) hn)
  have HLN := Lib.hid h.1
  have HN := Lib.hid hn
  clear h hn hB
  go_enter Tryd.func46, Tryd.ntmps46
  go_wp2_with fail
  refine C1.out.mono ?_
  rintro e w1 ⟨v, rfl, ho, hb⟩
  have hb' := to_box hb
  obtain ⟨⟨z0, z1, z2, z3⟩, f0, f1, f2, f3⟩ := zero_cells hb'
  obtain ⟨A2, c2, rfl, hc2, hm2, hr2⟩ := ho.rdn HLN.out
  have HR2 := Lib.hid hr2
  have HO2 := Lib.hid ho
  have B1 := Lib.hid hb'
  clear ho hb hb' hr2
  go_wp2_with fail
  refine bodyPost_ret (v := .agg #[.int .i64 2, .int .u64 0, .slice A2 n c2, .slice none 0 0]) (by simp [results, Tryd.results46, go_sem, z0, z1, z2, z3]) rfl ⟨_, rfl, RdI.mk_data (by decide) hc2 HN.out ?_, ?_⟩
  · refine Rd.set4 (HR2.out.more (by simp [World.setCell])) (fun hn b o h => ?_)
    obtain ⟨g, cap, hv, hg, _, _⟩ := HO2.out.form (by rw [HLN.out]; exact hn)
    subst h
    cases hv
    simp at hg
    omega
  · exact below_set4 (((Below.refl _ _).alloc (Nat.le_refl _) _).trans (B1.out.mono (Nat.le_succ _))) (Nat.le_refl _)
end Go.Proofs.YtmcflcihldmidaaDoor
/- In the place of EidA where the whole of layer 3 lies in the dump (imports alone). -/
/- What Uint and Text of layer 3 return, with nothing in it that is read below a block lo; an item stored into cells of one's own. -/
namespace Go.Proofs.YtmcflcihldmidaaDoor
open Go.RowKit

/-- An item, read in no block below lo. -/
def GivesL (lo : Nat) (x : Itm) (w : World) (e : Ending) (w' : World) : Prop := ∃ v, e = .returned v ∧ RdI (mask (lows lo) w') w'.heap.size v x ∧ Below w.heap.size w w'

theorem Rd.mask_one {w : World} {lo B n b o : Nat} {l : List UInt8} (h : Rd w B (some ⟨b, o, none⟩) n l) (hb : lo ≤ b) : Rd (mask (lows lo) w) B (some ⟨b, o, none⟩) n l :=
  ⟨h.1, fun hn => by
    obtain ⟨b', o', e, hB, hc⟩ := h.2 hn
    injection e with e
    injection e with e1 e2
    subst e1 e2
    exact ⟨b, o, rfl, hB, fun i hi => (mask_cell (lows_f.2 hb)).trans (hc i hi)⟩⟩

/-- Four stores into block g, which the item is not read in. -/
theorem RdI.put4 {W : World} {B B' g lo lo' : Nat} {v : Value} {x : Itm} {u0 u1 u2 u3 : Value} (h : RdI (mask (lows lo) W) B v x) (hl : lo' ≤ lo) (hg : g < lo) (hB : B ≤ B') :
    RdI (mask (lows lo') ((((W.setCell ⟨g, 0, none⟩ u0).setCell ⟨g, 1, none⟩ u1).setCell ⟨g, 2, none⟩ u2).setCell ⟨g, 3, none⟩ u3)) B' v x :=
  h.sub hB fun q u _ hc => by
    have h1 := lows_f.1 (mask_out hc)
    have hq : ¬ g = q.block := by omega
    rw [mask_cell (lows_f.2 (by omega)), World.cell?_setCell_far _ _ _ _ hq, World.cell?_setCell_far _ _ _ _ hq, World.cell?_setCell_far _ _ _ _ hq, World.cell?_setCell_far _ _ _ _ hq]
    exact mask_sub hc
/-- The same item in a world that grew. -/
theorem RdI.grow {W W' : World} {lo lo' : Nat} {v : Value} {x : Itm} (h : RdI (mask (lows lo) W) W.heap.size v x) (hb : Below W.heap.size W W') (hl : lo' ≤ lo) : RdI (mask (lows lo') W') W'.heap.size v x :=
  h.sub hb.size fun q u hp hc => by
    have h1 := lows_f.1 (mask_out hc)
    rw [mask_cell (lows_f.2 (by omega)), hb.cell hp]
    exact mask_sub hc
theorem size_put4 {W : World} {g : Nat} {u0 u1 u2 u3 : Value} : ((((W.setCell ⟨g, 0, none⟩ u0).setCell ⟨g, 1, none⟩ u1).setCell ⟨g, 2, none⟩ u2).setCell ⟨g, 3, none⟩ u3).heap.size = W.heap.size := by simp [World.setCell]

/-- Zeros of an item's cells, in a block of one's own. -/
theorem zero4 {w W' : World} {g : Nat} (hg : g = w.heap.size) (h : Below (g + 1) (w.alloc (.cells #[.int .i64 0, .int .u64 0, .slice none 0 0, .slice none 0 0] 45)) W') :
    (W'.cell? ⟨g, 0, none⟩ = some (.int .i64 0) ∧ W'.cell? ⟨g, 1, none⟩ = some (.int .u64 0) ∧ W'.cell? ⟨g, 2, none⟩ = some (.slice none 0 0) ∧ W'.cell? ⟨g, 3, none⟩ = some (.slice none 0 0)) ∧
    (W'.frozen? ⟨g, 0, none⟩ = false ∧ W'.frozen? ⟨g, 1, none⟩ = false ∧ W'.frozen? ⟨g, 2, none⟩ = false ∧ W'.frozen? ⟨g, 3, none⟩ = false) := by
  subst hg
  exact zero_cells h

set_option maxRecDepth 100000 in
set_option maxHeartbeats 1000000 in
theorem cuintL_any (lo n : Nat) (w : World) (h : n < 18446744073709551616) :
    Calls Tryd.prog 45 #[.int .u64 (n : Int)] w (GivesL lo (.mk 0 n [] []) w) := by
  go_enter Tryd.func45, Tryd.ntmps45
  go_wp2_with fail
  have hr := fun W B => RdI.mk_uint (w := W) (B := B) (n := n) h
  exact bodyPost_ret (v := .agg #[.int .i64 0, .int .u64 (n : Int), .slice none 0 0, .slice none 0 0]) (by simp [results, Tryd.results45, go_sem]) rfl ⟨_, rfl, hr _ _, (Below.refl _ _).alloc (Nat.le_refl _) _⟩

end Go.Proofs.YtmcflcihldmidaaDoor
