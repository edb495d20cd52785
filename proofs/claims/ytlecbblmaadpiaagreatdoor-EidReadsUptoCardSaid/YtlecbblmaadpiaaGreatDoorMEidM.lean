/- The order of decimal digits: longer numerals are the greater ones, and of one length the later ones. -/
import Derived.Test.YtlecbblmaadpiaaGreatDoorMAsW
import Derived.Test.YtlecbblmaadpiaaGreatDoorMCborM
import Derived.Test.YtlecbblmaadpiaaGreatDoorMCborN
import Derived.Test.YtlecbblmaadpiaaGreatDoorMCborS
import Derived.Test.YtlecbblmaadpiaaGreatDoorMKWrite
import Derived.Deep.AppendLies
import Derived.Deep.RegionHeld3
import Derived.WalkKit
namespace Go.Proofs.YtlecbblmaadpiaaGreatDoor
open Go.RowKit
open Go.Lib (decDigits nDigits nDigits_small nDigits_big nDigits_pos decDigits_length)
theorem dd_eq (x y : Nat) (hx : x < 10) (hy : y < 10) (h : UInt8.ofNat (48 + x) = UInt8.ofNat (48 + y)) : x = y := by
  have : ∀ x y : Fin 10, UInt8.ofNat (48 + x.val) = UInt8.ofNat (48 + y.val) → x = y := by decide +kernel
  exact congrArg Fin.val (this ⟨x, hx⟩ ⟨y, hy⟩ h)
theorem dec_small {x : Nat} (h : x < 10) : decDigits x = [UInt8.ofNat (48 + x)] := by rw [decDigits, dif_pos h]
theorem dec_big {x : Nat} (h : ¬ x < 10) : decDigits x = decDigits (x / 10) ++ [UInt8.ofNat (48 + x % 10)] := by rw [decDigits, dif_neg h]
theorem dec_inj : ∀ (x y : Nat), decDigits x = decDigits y → x = y := by
  intro x
  induction x using Nat.strongRecOn with
  | _ x ih =>
    intro y h
    have hl : nDigits x = nDigits y := by rw [← decDigits_length, ← decDigits_length, h]
    have p1 := nDigits_pos (x / 10)
    have p2 := nDigits_pos (y / 10)
    by_cases hx : x < 10
    · by_cases hy : y < 10
      · rw [dec_small hx, dec_small hy] at h
        exact dd_eq x y hx hy (by simpa using h)
      · rw [nDigits_small hx, nDigits_big hy] at hl; omega
    · by_cases hy : y < 10
      · rw [nDigits_big hx, nDigits_small hy] at hl; omega
      · rw [dec_big hx, dec_big hy] at h
        have hs := List.append_inj' h rfl
        have e1 := ih (x / 10) (by omega) (y / 10) hs.1
        have e2 := dd_eq (x % 10) (y % 10) (by omega) (by omega) (by simpa using hs.2)
        omega
end Go.Proofs.YtlecbblmaadpiaaGreatDoor
/- The plain mathematics of layer 3: what Encode and Decode answer, as a whole; greater numbers have greater heads. No program's number stands here. -/
namespace Go.Proofs.YtlecbblmaadpiaaGreatDoor
open Go.RowKit
/-! ### The whole -/
def Fits (x : Itm) : Prop := right x = true ∧ dep x ≤ 8 ∧ par x ≤ 4096
theorem decode_wr {x : Itm} (h : Fits x) (hs : Siz x) (m : List UInt8) : decode (wri x ++ m) = (x, ((wri x).length : Int), 0) := by
  unfold decode
  rw [dec_wr x 8 0 m h.1 hs h.2.1 (by have := h.2.2; omega)]
  simp
/-! ### Greater numbers -/
end Go.Proofs.YtlecbblmaadpiaaGreatDoor
/- The plain mathematics of layer 4: endpoints, their texts and items; two endpoints are two texts, and two items. No program's number stands here. -/
namespace Go.Proofs.YtlecbblmaadpiaaGreatDoor
open Go.Lib (decDigits)
structure Epd where
  scheme : Int
  name : List UInt8
  node : Nat
  service : Nat
def letterB (c : UInt8) : Bool := (decide (97 ≤ c.toNat) && decide (c.toNat ≤ 122)) || ((decide (48 ≤ c.toNat) && decide (c.toNat ≤ 57)) || (c == 46 || (c == 45 || c == 95)))
def lsB (c : UInt8) : Bool := c == 47 || letterB c
def toSlash (s : List UInt8) : Nat := (s.takeWhile fun c => c != 47).length
def nameB (s : List UInt8) : Bool :=
  decide (s.length ≤ 64) && (match s with
    | a :: b :: r => (a == 47 && b == 47) && (r.all lsB && (decide (1 ≤ toSlash r) && decide (toSlash r < r.length)))
    | _ => false)
def third (s : List UInt8) : Nat := 2 + toSlash (s.drop 2)
def noneB (e : Epd) : Bool := e.scheme == 1 && (e.name.isEmpty && (e.node == 0 && e.service == 0))
def checkB (e : Epd) : Bool :=
  if e.scheme = 1 then (e.node == 0 && e.service == 0) && (e.name.isEmpty || nameB e.name)
  else e.scheme == 2 && (e.name.isEmpty && (decide (0 < e.node) && (decide (e.node ≤ 4294967295) && decide (e.service ≤ 4294967295))))
def dtnL : List UInt8 := [100, 116, 110, 58]
def ipnL : List UInt8 := [105, 112, 110, 58]
def noneL : List UInt8 := [110, 111, 110, 101]
def textE (e : Epd) : List UInt8 :=
  if checkB e = false then [] else if e.scheme = 2 then ipnL ++ (decDigits e.node ++ (46 :: decDigits e.service)) else if e.name = [] then dtnL ++ noneL else dtnL ++ e.name
def nodeE (e : Epd) : List UInt8 :=
  if checkB e = false ∨ noneB e = true then [] else if e.scheme = 2 then ipnL ++ (decDigits e.node ++ [46, 48]) else dtnL ++ e.name.take (third e.name + 1)
def itemE (e : Epd) : Itm :=
  .mk 4 0 [] [.mk 0 e.scheme.toNat [] [], if e.scheme = 2 then .mk 4 0 [] [.mk 0 e.node [] [], .mk 0 e.service [] []] else if e.name = [] then .mk 0 0 [] [] else .mk 3 0 e.name []]
theorem check_dtn {e : Epd} (h : checkB e = true) (h1 : e.scheme = 1) : e.node = 0 ∧ e.service = 0 ∧ (e.name = [] ∨ nameB e.name = true) := by
  unfold checkB at h
  rw [if_pos h1] at h
  simp only [Bool.and_eq_true, Bool.or_eq_true, beq_iff_eq, List.isEmpty_iff] at h
  exact ⟨h.1.1, h.1.2, h.2⟩
theorem check_ipn {e : Epd} (h : checkB e = true) (h1 : e.scheme ≠ 1) : e.scheme = 2 ∧ e.name = [] ∧ 0 < e.node ∧ e.node ≤ 4294967295 ∧ e.service ≤ 4294967295 := by
  unfold checkB at h
  rw [if_neg h1] at h
  simp only [Bool.and_eq_true, beq_iff_eq, List.isEmpty_iff, decide_eq_true_eq] at h
  exact ⟨h.1, h.2.1, h.2.2.1, h.2.2.2.1, h.2.2.2.2⟩
theorem name_head {s : List UInt8} (h : nameB s = true) : ∃ r, s = 47 :: 47 :: r ∧ r.all lsB = true ∧ 1 ≤ toSlash r ∧ toSlash r < r.length ∧ s.length ≤ 64 := by
  unfold nameB at h
  match s, h with
  | [], h => simp at h
  | [_], h => simp at h
  | a :: b :: r, h =>
    simp only [Bool.and_eq_true, beq_iff_eq, decide_eq_true_eq] at h
    obtain ⟨h1, ⟨rfl, rfl⟩, h2, h3, h4⟩ := h
    exact ⟨r, rfl, h2, h3, h4, h1⟩
theorem dec_no_dot : ∀ x : Nat, ∀ c ∈ decDigits x, c ≠ 46 := by
  intro x
  induction x using Nat.strongRecOn with
  | _ x ih =>
    intro c hc
    have hd : ∀ d : Fin 10, UInt8.ofNat (48 + d.val) ≠ 46 := by decide +kernel
    by_cases hx : x < 10
    · rw [dec_small hx] at hc
      simp only [List.mem_singleton] at hc
      subst hc
      exact hd ⟨x, hx⟩
    · rw [dec_big hx, List.mem_append] at hc
      rcases hc with hc | hc
      · exact ih (x / 10) (by omega) c hc
      · simp only [List.mem_singleton] at hc
        subst hc
        exact hd ⟨x % 10, by omega⟩
theorem dot_split : ∀ (a b r t : List UInt8), (∀ c ∈ a, c ≠ 46) → (∀ c ∈ b, c ≠ 46) → a ++ 46 :: r = b ++ 46 :: t → a = b ∧ r = t
  | [], [], r, t, _, _, h => by simpa using h
  | [], y :: b, r, t, _, hb, h => by
    simp only [List.nil_append, List.cons_append, List.cons.injEq] at h
    exact absurd h.1.symm (hb y (by simp))
  | x :: a, [], r, t, ha, _, h => by
    simp only [List.nil_append, List.cons_append, List.cons.injEq] at h
    exact absurd h.1 (ha x (by simp))
  | x :: a, y :: b, r, t, ha, hb, h => by
    simp only [List.cons_append, List.cons.injEq] at h
    obtain ⟨h1, h2⟩ := dot_split a b r t (fun c hc => ha c (by simp [hc])) (fun c hc => hb c (by simp [hc])) h.2
    exact ⟨by rw [h.1, h1], h2⟩
theorem epd_ext {a b : Epd} (h1 : a.scheme = b.scheme) (h2 : a.name = b.name) (h3 : a.node = b.node) (h4 : a.service = b.service) : a = b := by
  cases a; cases b; simp_all
theorem textE_ipn {e : Epd} (h : checkB e = true) (h2 : e.scheme = 2) : textE e = ipnL ++ (decDigits e.node ++ (46 :: decDigits e.service)) := by
  unfold textE
  rw [if_neg (by rw [h]; decide), if_pos h2]
theorem textE_none {e : Epd} (h : checkB e = true) (h1 : e.scheme = 1) (hn : e.name = []) : textE e = dtnL ++ noneL := by
  unfold textE
  rw [if_neg (by rw [h]; decide), if_neg (by omega), if_pos hn]
theorem textE_dtn {e : Epd} (h : checkB e = true) (h1 : e.scheme = 1) (hn : e.name ≠ []) : textE e = dtnL ++ e.name := by
  unfold textE
  rw [if_neg (by rw [h]; decide), if_neg (by omega), if_neg hn]
theorem text_inj {a b : Epd} (ha : checkB a = true) (hb : checkB b = true) (h : textE a = textE b) : a = b := by
  have hdi : ∀ r t : List UInt8, dtnL ++ r ≠ ipnL ++ t := by
    intro r t h
    simp [dtnL, ipnL] at h
  by_cases a1 : a.scheme = 1
  · obtain ⟨an, ac, am⟩ := check_dtn ha a1
    by_cases b1 : b.scheme = 1
    · obtain ⟨bn, bs, bm⟩ := check_dtn hb b1
      have hno : ∀ s, nameB s = true → dtnL ++ s ≠ dtnL ++ noneL := by
        intro s hs e
        obtain ⟨r, rfl, _⟩ := name_head hs
        simp [dtnL, noneL] at e
      refine epd_ext (a1.trans b1.symm) ?_ (an.trans bn.symm) (ac.trans bs.symm)
      by_cases a0 : a.name = []
      · by_cases b0 : b.name = []
        · rw [a0, b0]
        · rw [textE_none ha a1 a0, textE_dtn hb b1 b0] at h
          exact absurd h.symm (hno _ (bm.resolve_left b0))
      · by_cases b0 : b.name = []
        · rw [textE_dtn ha a1 a0, textE_none hb b1 b0] at h
          exact absurd h (hno _ (am.resolve_left a0))
        · rw [textE_dtn ha a1 a0, textE_dtn hb b1 b0] at h
          exact List.append_cancel_left h
    · obtain ⟨b2, _⟩ := check_ipn hb b1
      rw [textE_ipn hb b2] at h
      by_cases a0 : a.name = []
      · rw [textE_none ha a1 a0] at h; exact absurd h (hdi _ _)
      · rw [textE_dtn ha a1 a0] at h; exact absurd h (hdi _ _)
  · obtain ⟨a2, an, _⟩ := check_ipn ha a1
    rw [textE_ipn ha a2] at h
    by_cases b1 : b.scheme = 1
    · by_cases b0 : b.name = []
      · rw [textE_none hb b1 b0] at h; exact absurd h.symm (hdi _ _)
      · rw [textE_dtn hb b1 b0] at h; exact absurd h.symm (hdi _ _)
    · obtain ⟨b2, bn, _⟩ := check_ipn hb b1
      rw [textE_ipn hb b2] at h
      obtain ⟨h1, h2⟩ := dot_split _ _ _ _ (dec_no_dot _) (dec_no_dot _) (List.append_cancel_left h)
      exact epd_ext (a2.trans b2.symm) (an.trans bn.symm) (dec_inj _ _ h1) (dec_inj _ _ h2)
theorem item_inj {a b : Epd} (ha : checkB a = true) (hb : checkB b = true) (h : itemE a = itemE b) : a = b := by
  unfold itemE at h
  simp only [Itm.mk.injEq, List.cons.injEq, and_true, true_and] at h
  obtain ⟨h1, h2⟩ := h
  by_cases a1 : a.scheme = 1
  · obtain ⟨an, ac, am⟩ := check_dtn ha a1
    by_cases b1 : b.scheme = 1
    · obtain ⟨bn, bs, bm⟩ := check_dtn hb b1
      have na : ¬ a.scheme = 2 := by omega
      have nb : ¬ b.scheme = 2 := by omega
      rw [if_neg na, if_neg nb] at h2
      refine epd_ext (a1.trans b1.symm) ?_ (an.trans bn.symm) (ac.trans bs.symm)
      by_cases a0 : a.name = []
      · by_cases b0 : b.name = []
        · rw [a0, b0]
        · rw [if_pos a0, if_neg b0] at h2; simp at h2
      · by_cases b0 : b.name = []
        · rw [if_neg a0, if_pos b0] at h2; simp at h2
        · rw [if_neg a0, if_neg b0] at h2; simpa using h2
    · obtain ⟨b2, _⟩ := check_ipn hb b1
      rw [a1, b2] at h1; simp at h1
  · obtain ⟨a2, an, _⟩ := check_ipn ha a1
    by_cases b1 : b.scheme = 1
    · rw [a2, b1] at h1; simp at h1
    · obtain ⟨b2, bn, _⟩ := check_ipn hb b1
      rw [if_pos a2, if_pos b2] at h2
      simp at h2
      exact epd_ext (a2.trans b2.symm) (an.trans bn.symm) h2.1 h2.2
end Go.Proofs.YtlecbblmaadpiaaGreatDoor
/- The plain mathematics of layer 3: an item gone through by a stack of lists. No program's number stands here. -/
namespace Go.Proofs.YtlecbblmaadpiaaGreatDoor
def rall : List (List Itm) → Bool | [] => true | l :: r => rights l && rall r
def sump : List (List Itm) → Nat | [] => 0 | l :: r => pars l + sump r
def lev : Nat → List (List Itm) → Nat | _, [] => 0 | i, l :: r => max (i + deps l) (lev (i + 1) r)
theorem rall_snoc : ∀ (a : List (List Itm)) (t : List Itm), rall (a ++ [t]) = (rall a && rights t)
  | [], t => by simp [rall]
  | l :: r, t => by rw [List.cons_append, rall, rall, rall_snoc r t, Bool.and_assoc]
theorem sump_snoc : ∀ (a : List (List Itm)) (t : List Itm), sump (a ++ [t]) = sump a + pars t
  | [], t => by simp [sump]
  | l :: r, t => by rw [List.cons_append, sump, sump, sump_snoc r t]; omega
theorem lev_snoc : ∀ (a : List (List Itm)) (t : List Itm) (i : Nat), lev i (a ++ [t]) = max (lev i a) (i + a.length + deps t)
  | [], t, i => by simp [lev]
  | l :: r, t, i => by rw [List.cons_append, lev, lev, lev_snoc r t, List.length_cons]; omega
structure ChkSt (x : Itm) (st : List (List Itm)) (p D : Nat) : Prop where
  rt : right x = rall st
  pr : par x = p + sump st
  dp : dep x = max D (lev 0 st)
  ln : st.length ≤ D + 1
  lp : st.length ≤ p + 1
theorem ChkSt.pop {x : Itm} {a : List (List Itm)} {p D : Nat} (h : ChkSt x (a ++ [[]]) p D) : ChkSt x a p D := by
  have h1 := h.rt
  have h2 := h.pr
  have h3 := h.dp
  have h4 := h.ln
  have h5 := h.lp
  rw [rall_snoc, rights, Bool.and_true] at h1
  rw [sump_snoc, pars] at h2
  rw [lev_snoc, deps] at h3
  rw [List.length_append, List.length_singleton] at h4 h5
  exact ⟨h1, by omega, by omega, by omega, by omega⟩
theorem ChkSt.left {x : Itm} {a : List (List Itm)} {p D : Nat} {y : Itm} {r : List Itm} (h : ChkSt x (a ++ [y :: r]) p D) : p < par x ∧ D ≤ dep x ∧ a.length ≤ p := by
  have h2 := h.pr
  have h3 := h.dp
  have h5 := h.lp
  rw [sump_snoc, pars] at h2
  rw [List.length_append, List.length_singleton] at h5
  cases y with
  | mk k n d l =>
    rw [par] at h2
    omega
theorem ChkSt.done {x : Itm} {p D : Nat} (h : ChkSt x [] p D) : right x = true ∧ par x = p ∧ dep x = D := by
  have h1 := h.rt
  have h2 := h.pr
  have h3 := h.dp
  rw [rall] at h1
  rw [sump] at h2
  rw [lev] at h3
  exact ⟨h1, by omega, by omega⟩
end Go.Proofs.YtlecbblmaadpiaaGreatDoor
/- What plain, fits, isArray and numberOf of layer 3 return. -/
namespace Go.Proofs.YtlecbblmaadpiaaGreatDoor
open Go.RowKit
end Go.Proofs.YtlecbblmaadpiaaGreatDoor
/- What check of layer 3 returns: why an item may not be written. -/
namespace Go.Proofs.YtlecbblmaadpiaaGreatDoor
open Go.RowKit
def LsAt (w : World) (B : Nat) (v : Value) (l : List Itm) : Prop := ∃ (AL : Option Addr) (cl : Nat), v = .slice AL l.length cl ∧ l.length ≤ cl ∧ l.length ≤ 140737488355328 ∧ (0 < l.length → ∃ b o, AL = some ⟨b, o, none⟩ ∧ b < B ∧ RdIs w B b o l)
theorem LsAt.below {w w' : World} {B : Nat} {v : Value} {l : List Itm} (h : LsAt w B v l) (hb : Below B w w') : LsAt w' B v l := by
  obtain ⟨AL, cl, e, h1, h2, h3⟩ := h
  refine ⟨AL, cl, e, h1, h2, fun h0 => ?_⟩
  obtain ⟨b, o, ea, hbb, hr⟩ := h3 h0
  exact ⟨b, o, ea, hbb, hr.below hbb hb⟩
theorem size_list (W : World) : (sizeOf 28).run Tryz.prog W = .ok 1 W := by kernel_rfl
theorem info_list : (Tryz.prog.info? 28).map (fun i => (i.zero, i.size, i.bytes)) = some (some (.slice none 0 0), 1, 24) := by kernel_rfl
theorem cut_open {g m cap : Nat} (h : m + 1 ≤ cap) (W : World) :
    (Instr.slice 216 (.slice (some ⟨g, 0, none⟩) (m + 1) cap) none (some (.int .i64 (m : Int))) none).run Tryz.prog W = .ok (.slice (some ⟨g, 0, none⟩) m cap) W := by
  have hz := size_list
  have ht := Tryz.underlying216
  go_simp
  intro h
  omega
theorem ownsRow_pop {w : World} {base e g cap m : Nat} {cs : List Value} {c : Value} (h : w.ownsRow base e 1 (.slice (some ⟨g, 0, none⟩) (m + 1) cap) (m + 1) (cs ++ [c])) : w.ownsRow base e 1 (.slice (some ⟨g, 0, none⟩) m cap) m cs := by
  have hl := h.1
  rw [List.length_append, List.length_singleton] at hl
  rcases h.2 with ⟨h', _⟩ | ⟨g', cap', cur, h', hb, hg, hnc, hcm, hcs, htake⟩
  · simp at h'
  · simp only [Value.slice.injEq, Option.some.injEq, Addr.mk.injEq, and_true, true_and] at h'
    obtain ⟨rfl, rfl⟩ := h'
    refine ⟨by omega, .inr ⟨g, cap, cur, rfl, hb, hg, by omega, hcm, hcs, ?_⟩⟩
    have e : cur.toList.take (m * 1) = (cur.toList.take ((m + 1) * 1)).take (m * 1) := by rw [List.take_take]; congr 1; omega
    rw [e, htake]
    exact List.take_left' (by omega)
theorem ownsRow_below {w w' : World} {base size n : Nat} {e : TypeId} {v : Value} {xs : List Value} (h : w.ownsRow base e size v n xs) (hb : Below w.heap.size w w') : w'.ownsRow base e size v n xs :=
  World.ownsRow.kept h (row := none) ⟨hb.os, hb.tape, hb.output, hb.size, fun k hk _ => hb.block k hk⟩ (by cases v.ownBlock <;> simp)
theorem LsAt.first {w : World} {B : Nat} {v : Value} {y : Itm} {r : List Itm} (h : LsAt w B v (y :: r)) : ∃ (b o c : Nat) (c0 c1 c2 c3 : Value), v = .slice (some ⟨b, o, none⟩) (r.length + 1) c ∧ r.length + 1 ≤ c ∧ r.length + 1 ≤ 140737488355328 ∧ b < B ∧ RdIs w B b o (y :: r) ∧
    w.cell? ⟨b, o, none⟩ = some c0 ∧ w.cell? ⟨b, o + 1, none⟩ = some c1 ∧ w.cell? ⟨b, o + 2, none⟩ = some c2 ∧ w.cell? ⟨b, o + 3, none⟩ = some c3 ∧ RdI w B (.agg #[c0, c1, c2, c3]) y := by
  obtain ⟨AL, cl, rfl, h1, h2, h3⟩ := h
  rw [List.length_cons] at h1 h2 h3
  obtain ⟨b, o, rfl, hb, hr⟩ := h3 (by omega)
  have hr2 := hr
  rw [RdIs] at hr
  obtain ⟨⟨c0, c1, c2, c3, g0, g1, g2, g3, gx⟩, _⟩ := hr
  exact ⟨b, o, cl, c0, c1, c2, c3, by rw [List.length_cons], h1, h2, hb, hr2, g0, g1, g2, g3, gx⟩
end Go.Proofs.YtlecbblmaadpiaaGreatDoor
/- Sums of bytes by a shift register over n bits, as plain functions: that it is linear, that a burst no longer than n is told, and what bytes with their own sum behind them come to. No program's number stands here. -/
namespace Go.Proofs.YtlecbblmaadpiaaGreatDoor
section
variable {n : Nat}
def stp (p c : BitVec n) : BitVec n := if c.getLsbD 0 then (c >>> 1) ^^^ p else c >>> 1
def stpN (p : BitVec n) : Nat → BitVec n → BitVec n
  | 0, c => c
  | k + 1, c => stpN p k (stp p c)
/-! ### Bit by bit -/
def b1 (n : Nat) (b : Bool) : BitVec n := if b then 1#n else 0#n
/-! ### Byte by byte -/
def byt (p c : BitVec n) (x : UInt8) : BitVec n := stpN p 8 (c ^^^ BitVec.ofNat n x.toNat)
def fB (p c : BitVec n) (l : List UInt8) : BitVec n := l.foldl (byt p) c
end
/-! ### The two sums of layer 2 -/
def p16 : BitVec 16 := 0x8408#16
def p32 : BitVec 32 := 0x82f63b78#32
def s16 (l : List UInt8) : BitVec 16 := ~~~ fB p16 0xffff#16 l
def s32 (l : List UInt8) : BitVec 32 := ~~~ fB p32 0xffffffff#32 l
end Go.Proofs.YtlecbblmaadpiaaGreatDoor
/- What the reference of layer 2 returns: Short and Long as 's16' and 's32' of the bytes; Bytes. -/
namespace Go.Proofs.YtlecbblmaadpiaaGreatDoor
open Go.RowKit
def crcBytes (kind : Int) (l : List UInt8) : List UInt8 := if kind = 1 then be (s16 l).toNat 2 else if kind = 2 then be (s32 l).toNat 4 else []
end Go.Proofs.YtlecbblmaadpiaaGreatDoor
/- The plain mathematics of layer 5: blocks, the bytes that they are, how bytes are read as one. No program's number stands here but the sums' (CrcR). -/
namespace Go.Proofs.YtlecbblmaadpiaaGreatDoor
structure Blk where
  typ : Nat
  num : Nat
  flg : Nat
  crc : Int
  dat : List UInt8
def Blk.zero : Blk := ⟨0, 0, 0, 0, []⟩
def Bd (b : Blk) : Prop := b.typ < 18446744073709551616 ∧ b.num < 18446744073709551616 ∧ b.flg < 18446744073709551616
def sumN (k : Int) : Nat := if k = 1 then 2 else if k = 2 then 4 else 0
theorem sumN_le (k : Int) : sumN k ≤ 4 := by unfold sumN; repeat' (split <;> try omega)
theorem crcBytes_len (k : Int) (l : List UInt8) : (crcBytes k l).length = sumN k := by
  unfold crcBytes sumN
  split
  · rw [be_length]
  · split
    · rw [be_length]
    · rfl
theorem wrs_ap : ∀ a b : List Itm, wrs (a ++ b) = wrs a ++ wrs b
  | [], b => rfl
  | x :: r, b => by rw [List.cons_append, wrs, wrs, wrs_ap r b, List.append_assoc]
theorem wri_b (d : List UInt8) : wri (.mk 2 0 d []) = hd 2 d.length ++ d := by rw [wri, if_neg (by decide), if_pos (by decide)]; rfl
end Go.Proofs.YtlecbblmaadpiaaGreatDoor
/- What Short, Long and Bytes of layer 2 return. -/
namespace Go.Proofs.YtlecbblmaadpiaaGreatDoor
open Go.RowKit
end Go.Proofs.YtlecbblmaadpiaaGreatDoor
