/- What bytes.Equal returns; what same of layer 4 returns, of every two items. -/
import Derived.Test.YtanbjifdcplmnaaGreatDoorTBlkD
import Derived.Test.YtanbjifdcplmnaaGreatDoorTEidI3
import Derived.Test.YtanbjifdcplmnaaGreatDoorTKCheck
import Derived.Test.YtanbjifdcplmnaaGreatDoorTShaE
import Derived.Deep.RegionHeld3
namespace Go.Proofs.YtanbjifdcplmnaaGreatDoor
open Go.RowKit

/-- Whether two items are one. -/
def Eqs (x y : Itm) (w : World) (e : Ending) (w' : World) : Prop := ∃ r : Bool, e = .returned (.bool r) ∧ (r = true ↔ x = y) ∧ Below w.heap.size w w'

set_option maxRecDepth 100000 in
set_option maxHeartbeats 4000000 in
theorem csame_n : ∀ (m : Nat) (x y : Itm) (v v' : Value) (w : World) (B : Nat), par y < m → B ≤ w.heap.size → RdI w B v x → RdI w B v' y →
    Calls Tryz.prog 76 #[v, v'] w (Eqs x y w)
  | 0, _, _, _, _, _, _, h, _, _, _ => absurd h (Nat.not_lt_zero _)
  | m + 1, .mk k n d l, .mk k' n' d' l', v, v', w, B, hm, hB, h, h' => by
    obtain ⟨A, nd, cd, AL, cl, rfl, h1, h2, h3, h4, h5, h7⟩ := h.open
    obtain ⟨A', nd', cd', AL', cl', rfl, h1', h2', h3', h4', h5', h7'⟩ := h'.open
    have IH := Lib.hid (csame_n m)
    have H7 := Lib.hid h7
    have H7' := Lib.hid h7'
    have C1 := Lib.hid (fun W (hb : Below w.heap.size w W) => bequal_any A A' nd cd nd' cd' B d d' W (h4.below (hb.mono hB)) (h4'.below (hb.mono hB)))
    have HM : Hid (pars l' < m) := by show _ < _; rw [par] at hm; omega
    have HBW := Lib.hid hB
    have XY : Hid (Itm.mk k n d l = Itm.mk k' n' d' l' ↔ k = k' ∧ (n : Int) = (n' : Int) ∧ d = d' ∧ l = l') := by
      show _ ↔ _
      rw [Itm.mk.injEq]
      constructor
      · rintro ⟨a, b, c, e⟩; exact ⟨a, by rw [b], c, e⟩
      · rintro ⟨a, b, c, e⟩; exact ⟨a, by omega, c, e⟩
    have HL5 := Lib.hid h5.2
    clear h1 h4 h7 h h1' h4' h7' h' h2' h2 h3 h3' h5 h5' hm hB
    generalize hL : l.length = N at *
    generalize hL' : l'.length = N' at *
    have HL := Lib.hid hL
    have HL' := Lib.hid hL'
    clear hL hL'
    generalize (n : Int) = nn at *
    generalize (n' : Int) = nn' at *
    have HB0 := Lib.hid (((Below.refl w.heap.size w).alloc (Nat.le_refl _) (.cells #[.int .i64 k, .int .u64 nn, .slice A nd cd, .slice AL N cl] 37)).alloc (le_alloc _ _) (.cells #[.int .i64 k', .int .u64 nn', .slice A' nd' cd', .slice AL' N' cl'] 37))
    by_cases e1 : k = k'
    case neg =>
      have HF : Hid (∀ w', Below w.heap.size w w' → Eqs (.mk k n d l) (.mk k' n' d' l') w (.returned (.bool false)) w') := fun w' hb => ⟨false, rfl, by rw [XY.out]; simp [e1], hb⟩
      clear IH H7 H7' C1
      go_enter Tryz.func76, Tryz.ntmps76
      go_wp2_with fail
      go_ret
      exact HF.out _ HB0.out
    subst e1
    by_cases e2 : nn = nn'
    case neg =>
      have HF : Hid (∀ w', Below w.heap.size w w' → Eqs (.mk k n d l) (.mk k n' d' l') w (.returned (.bool false)) w') := fun w' hb => ⟨false, rfl, by rw [XY.out]; simp [e2], hb⟩
      clear IH H7 H7' C1
      go_enter Tryz.func76, Tryz.ntmps76
      go_wp2_with fail
      go_ret
      exact HF.out _ HB0.out
    subst e2
    by_cases e3 : d = d'
    case neg =>
      have HF : Hid (∀ w', Below w.heap.size w w' → Eqs (.mk k n d l) (.mk k n' d' l') w (.returned (.bool false)) w') := fun w' hb => ⟨false, rfl, by rw [XY.out]; simp [e3], hb⟩
      have e3' : (d == d') = false := beq_eq_false_iff_ne.2 e3
      rw [e3'] at C1
      clear IH H7 H7' e3'
      go_enter Tryz.func76, Tryz.ntmps76
      go_wp2_with fail
      refine (C1.out _ HB0.out).mono ?_
      rintro e w1 ⟨rfl, rfl⟩
      go_wp2_with fail
      go_ret
      exact HF.out _ HB0.out
    subst e3
    rw [show (d == d) = true by simp] at C1
    by_cases e4 : N = N'
    case neg =>
      have HF : Hid (∀ w', Below w.heap.size w w' → Eqs (.mk k n d l) (.mk k n' d l') w (.returned (.bool false)) w') := fun w' hb => ⟨false, rfl, by rw [XY.out]; simp; intro h; exact e4 (by rw [← HL.out, ← HL'.out, h]), hb⟩
      have e4i : ((N : Int) == (N' : Int)) = false := by rw [beq_eq_false_iff_ne]; omega
      clear IH H7 H7' e4
      go_enter Tryz.func76, Tryz.ntmps76
      go_wp2_with fail
      refine (C1.out _ HB0.out).mono ?_
      rintro e w1 ⟨rfl, rfl⟩
      go_wp2_with fail
      go_ret
      exact HF.out _ HB0.out
    subst e4
    have HT : Hid (∀ (r : Bool) w', (r = true ↔ l = l') → Below w.heap.size w w' → Eqs (.mk k n d l) (.mk k n' d l') w (.returned (.bool r)) w') := fun r w' hr hb => ⟨r, rfl, by rw [XY.out, hr]; simp, hb⟩
    clear XY
    go_enter Tryz.func76, Tryz.ntmps76
    go_wp2_with fail
    refine (C1.out _ HB0.out).mono ?_
    rintro e w1 ⟨rfl, rfl⟩
    clear C1
    go_wp2_with fail
    have f1 : ((w.alloc (.cells #[.int .i64 k, .int .u64 nn, .slice A nd cd, .slice AL N cl] 37)).alloc (.cells #[.int .i64 k, .int .u64 nn, .slice A' nd' cd', .slice AL' N cl'] 37)).cell? ⟨w.heap.size, 3, none⟩ = some (.slice AL N cl) := by simp
    have f2 : ((w.alloc (.cells #[.int .i64 k, .int .u64 nn, .slice A nd cd, .slice AL N cl] 37)).alloc (.cells #[.int .i64 k, .int .u64 nn, .slice A' nd' cd', .slice AL' N cl'] 37)).cell? ⟨w.heap.size + 1, 3, none⟩ = some (.slice AL' N cl') := by simp
    have fz : ((w.alloc (.cells #[.int .i64 k, .int .u64 nn, .slice A nd cd, .slice AL N cl] 37)).alloc (.cells #[.int .i64 k, .int .u64 nn, .slice A' nd' cd', .slice AL' N cl'] 37)).heap.size = w.heap.size + 2 := by simp
    have F1 := Lib.hid f1
    have F2 := Lib.hid f2
    have FZ := Lib.hid fz
    clear f1 f2 fz
    generalize ((w.alloc (.cells #[.int .i64 k, .int .u64 nn, .slice A nd cd, .slice AL N cl] 37)).alloc (.cells #[.int .i64 k, .int .u64 nn, .slice A' nd' cd', .slice AL' N cl'] 37)) = W0 at *
    go_loopw [38] (fun i wr => ∃ j : Nat, j ≤ N ∧ i = .int .i64 j ∧ Hid (Below (w.heap.size + 2) W0 wr) ∧ Hid (l.take j = l'.take j))
      (fun i _ => N - (intOf i).toNat)
    case atStart => exact ⟨0, Nat.zero_le _, rfl, Below.refl _ _, by show _ = _; simp⟩
    case round =>
      obtain ⟨j, hj, rfl, hbel, htake⟩ := hrel
      have q1 : wr.cell? ⟨w.heap.size, 3, none⟩ = some (.slice AL N cl) := (hbel.out.cell (p := ⟨w.heap.size, 3, none⟩) (by simp)).trans F1.out
      have q2 : wr.cell? ⟨w.heap.size + 1, 3, none⟩ = some (.slice AL' N cl') := (hbel.out.cell (p := ⟨w.heap.size + 1, 3, none⟩) (by simp)).trans F2.out
      have hsz : w.heap.size + 2 ≤ wr.heap.size := by have := hbel.out.size; have := FZ.out; omega
      have hs' : Below w.heap.size w wr := HB0.out.trans (hbel.out.mono (by omega))
      have HS := Lib.hid hs'
      by_cases hlt : j < N
      · obtain ⟨b, o, rfl, hb, hs⟩ := H7.out (by omega)
        obtain ⟨b', o', rfl, hb', hs2⟩ := H7'.out (by omega)
        have hjl : j < l.length := by rw [HL.out]; exact hlt
        have hjl' : j < l'.length := by rw [HL'.out]; exact hlt
        obtain ⟨c0, c1, c2, c3, g0, g1, g2, g3, gx⟩ := hs.get j hjl
        obtain ⟨x0, x1, x2, x3, p0, p1, p2, p3, px⟩ := hs2.get j hjl'
        have hB := HBW.out
        have e0 : wr.cell? ⟨b, o + j * 4, none⟩ = some c0 := (hs'.cell (p := ⟨b, o + j * 4, none⟩) (by show b < _; omega)).trans g0
        have e1 : wr.cell? ⟨b, o + j * 4 + 1, none⟩ = some c1 := (hs'.cell (p := ⟨b, o + j * 4 + 1, none⟩) (by show b < _; omega)).trans g1
        have e2 : wr.cell? ⟨b, o + j * 4 + 2, none⟩ = some c2 := (hs'.cell (p := ⟨b, o + j * 4 + 2, none⟩) (by show b < _; omega)).trans g2
        have e3 : wr.cell? ⟨b, o + j * 4 + 3, none⟩ = some c3 := (hs'.cell (p := ⟨b, o + j * 4 + 3, none⟩) (by show b < _; omega)).trans g3
        have r0 : wr.cell? ⟨b', o' + j * 4, none⟩ = some x0 := (hs'.cell (p := ⟨b', o' + j * 4, none⟩) (by show b' < _; omega)).trans p0
        have r1 : wr.cell? ⟨b', o' + j * 4 + 1, none⟩ = some x1 := (hs'.cell (p := ⟨b', o' + j * 4 + 1, none⟩) (by show b' < _; omega)).trans p1
        have r2 : wr.cell? ⟨b', o' + j * 4 + 2, none⟩ = some x2 := (hs'.cell (p := ⟨b', o' + j * 4 + 2, none⟩) (by show b' < _; omega)).trans p2
        have r3 : wr.cell? ⟨b', o' + j * 4 + 3, none⟩ = some x3 := (hs'.cell (p := ⟨b', o' + j * 4 + 3, none⟩) (by show b' < _; omega)).trans p3
        have hpg : par (l'[j]'hjl') ≤ pars l' := par_get _
        have hmm := HM.out
        have C1 := Lib.hid (IH.out (l[j]'hjl) (l'[j]'hjl') _ _ wr.drew B (by omega) (by show B ≤ wr.heap.size; omega) ((gx.below (hs'.mono hB)).below Below.drew_) ((px.below (hs'.mono hB)).below Below.drew_))
        have HE1 : Hid (l[j]'hjl = l'[j]'hjl' → l.take (j + 1) = l'.take (j + 1)) := fun he => by rw [List.take_succ_eq_append_getElem hjl, List.take_succ_eq_append_getElem hjl', htake.out, he]
        have HE2 : Hid (l[j]'hjl ≠ l'[j]'hjl' → l ≠ l') := fun he h => he (by subst h; rfl)
        generalize l[j]'hjl = xj at *
        generalize l'[j]'hjl' = yj at *
        clear g0 g1 g2 g3 gx hs hs' p0 p1 p2 p3 px hs2 hpg hmm hjl hjl'
        have i0 : (0 : Int) ≤ (j : Int) := by omega
        have i1 : (j : Int) < (N : Int) := by omega
        have i2 : (N : Int) ≤ 140737488355328 := by have := HL5.out; omega
        have HHB := Lib.hid hB
        have HZ := Lib.hid hsz
        have HBb := Lib.hid hb
        have HBb' := Lib.hid hb'
        clear hB hsz hb hb'
        go_wp2_with fail
        go_region_held3 (fun W => W.cell? ⟨w.heap.size, 3, none⟩ = some (.slice (some ⟨b, o, none⟩) N cl) ∧ W.cell? ⟨w.heap.size + 1, 3, none⟩ = some (.slice (some ⟨b', o', none⟩) N cl') ∧
            W.cell? ⟨b, o + j * 4, none⟩ = some c0 ∧ W.cell? ⟨b, o + j * 4 + 1, none⟩ = some c1 ∧ W.cell? ⟨b, o + j * 4 + 2, none⟩ = some c2 ∧ W.cell? ⟨b, o + j * 4 + 3, none⟩ = some c3 ∧
            W.cell? ⟨b', o' + j * 4, none⟩ = some x0 ∧ W.cell? ⟨b', o' + j * 4 + 1, none⟩ = some x1 ∧ W.cell? ⟨b', o' + j * 4 + 2, none⟩ = some x2 ∧ W.cell? ⟨b', o' + j * 4 + 3, none⟩ = some x3)
          (first | (exact ⟨q1, q2, e0, e1, e2, e3, r0, r1, r2, r3⟩) | (exact ⟨(HB1.out.cell (p := ⟨w.heap.size, 3, none⟩) (by have := HZ.out; show w.heap.size < _; omega)).trans q1, (HB1.out.cell (p := ⟨w.heap.size + 1, 3, none⟩) (by have := HZ.out; show w.heap.size + 1 < _; omega)).trans q2,
              (HB1.out.cell (p := ⟨b, o + j * 4, none⟩) HLb.out).trans e0, (HB1.out.cell (p := ⟨b, o + j * 4 + 1, none⟩) HLb.out).trans e1, (HB1.out.cell (p := ⟨b, o + j * 4 + 2, none⟩) HLb.out).trans e2, (HB1.out.cell (p := ⟨b, o + j * 4 + 3, none⟩) HLb.out).trans e3,
              (HB1.out.cell (p := ⟨b', o' + j * 4, none⟩) HLb'.out).trans r0, (HB1.out.cell (p := ⟨b', o' + j * 4 + 1, none⟩) HLb'.out).trans r1, (HB1.out.cell (p := ⟨b', o' + j * 4 + 2, none⟩) HLb'.out).trans r2, (HB1.out.cell (p := ⟨b', o' + j * 4 + 3, none⟩) HLb'.out).trans r3⟩) | fail)
          (first
            | (go_at_call 76; refine C1.out.mono ?_; rintro e w1 ⟨rr, rfl, hrr, hb1⟩; have HRR := Lib.hid hrr; have HB1 := Lib.hid (((Below.refl wr.heap.size wr).drew).trans hb1); have HLb : Hid (b < wr.heap.size) := Nat.lt_of_lt_of_le HBb.out (Nat.le_trans HHB.out (Nat.le_trans (Nat.le_add_right _ 2) HZ.out)); have HLb' : Hid (b' < wr.heap.size) := Nat.lt_of_lt_of_le HBb'.out (Nat.le_trans HHB.out (Nat.le_trans (Nat.le_add_right _ 2) HZ.out)); clear hb1 hrr)
            | fail)
        cases rr with
        | true =>
          have HEQ : Hid (l.take (j + 1) = l'.take (j + 1)) := HE1.out (HRR.out.1 rfl)
          go_wp2_with fail
          go_roundw
          case rel => exact ⟨j + 1, by omega, by go_num, hbel.out.trans (HB1.out.mono HZ.out), HEQ.out⟩
          case measure => simp [intOf]; omega
        | false =>
          have HNE : Hid (l ≠ l') := HE2.out (fun h => by have := HRR.out.2 h; cases this)
          go_wp2_with fail
          go_ret
          exact HT.out _ _ (by simp; exact HNE.out) (HS.out.trans (HB1.out.mono HS.out.size))
      · obtain rfl : j = N := by omega
        have HEQ : Hid (l = l') := by
          have h := htake.out
          rw [List.take_of_length_le (Nat.le_of_eq HL.out), List.take_of_length_le (Nat.le_of_eq HL'.out)] at h
          exact h
        clear hs'
        have hjj : decide ((j : Int) < (j : Int)) = false := by simp
        go_wp2_with fail
        go_ret
        exact HT.out _ _ (by simp; exact HEQ.out) HS.out
end Go.Proofs.YtanbjifdcplmnaaGreatDoor
/- What Check and items of layer 5's reference return. (Made by gen/BlkW1.py.) -/
namespace Go.Proofs.YtanbjifdcplmnaaGreatDoor
open Go.RowKit

set_option maxRecDepth 100000 in
set_option maxHeartbeats 1000000 in
/-- Uint of the reference, its value whole. -/
theorem ruintV (n : Int) (w : World) :
    Calls Tryz.prog 21 #[.int .u64 n] w fun e w' => e = .returned (.agg #[.int .i64 0, .int .u64 n, .slice none 0 0, .slice none 0 0]) ∧ Below w.heap.size w w' := by
  go_enter Tryz.func21, Tryz.ntmps21
  go_wp2_with fail
  exact bodyPost_ret (v := .agg #[.int .i64 0, .int .u64 n, .slice none 0 0, .slice none 0 0]) (by simp [results, Tryz.results21, go_sem]) rfl ⟨rfl, (Below.refl _ _).alloc (Nat.le_refl _) _⟩

theorem RdI.mask0 {w : World} {B : Nat} {v : Value} {x : Itm} (h : RdI w B v x) : RdI (mask (lows 0) w) B v x := RdI.keep (w := w) (w' := mask (lows 0) w) (fun _ _ => mask_cell (lows_f.2 (Nat.zero_le _))) h
theorem RdIs.unmask {S : Nat → Bool} {w : World} {B b o : Nat} {l : List Itm} (hb : b < B) (h : RdIs (mask S w) B b o l) : RdIs w B b o l := h.sub (Nat.le_refl _) (fun _ _ _ hc => mask_sub hc) hb

set_option maxRecDepth 100000 in
set_option maxHeartbeats 2000000 in
theorem rcheckB_any (t n f : Nat) (c : Int) (A : Option Addr) (nd cd : Nat) (d : List UInt8) (w : World) (hd : d.length = nd) :
    Calls Tryz.prog 28 #[blkV t n f c A nd cd] w fun e w' => e = .returned (.bool (blkOk ⟨t, n, f, c, d⟩)) ∧ Below w.heap.size w w' := by
  obtain ⟨R, hR⟩ : ∃ R, R = blkOk ⟨t, n, f, c, d⟩ := ⟨_, rfl⟩
  rw [← hR]
  have hR2 : R = true ↔ ((1 ≤ (t : Int) ∧ (t : Int) ≤ 255) ∧ ¬ (n : Int) = 0 ∧ (¬ (t : Int) = 1 ∨ (n : Int) = 1) ∧ (0 ≤ c ∧ c ≤ 2) ∧ (nd : Int) ≤ 4096) := by
    rw [hR, ← hd, blkOk_iff]
    simp only
    omega
  clear hR hd
  have hN0 : 0 ≤ (n : Int) := by omega
  unfold blkV
  generalize (t : Int) = T at *
  generalize (n : Int) = N at *
  have no : ∀ (_ : ¬ R = true), R = false := fun h => by simpa using h
  by_cases h1 : T < 1
  · obtain rfl := no (by rw [hR2]; omega)
    clear hR2 no
    have h1n : ¬ 1 ≤ T := by omega
    go_enter Tryz.func28, Tryz.ntmps28
    go_wp2_with fail
    go_ret
    exact ⟨rfl, (Below.refl _ _).alloc (Nat.le_refl _) _⟩
  have h1p : 1 ≤ T := by omega
  by_cases h2 : 255 < T
  · obtain rfl := no (by rw [hR2]; omega)
    clear hR2 no
    have h2n : ¬ T ≤ 255 := by omega
    go_enter Tryz.func28, Tryz.ntmps28
    go_wp2_with fail
    go_ret
    exact ⟨rfl, (Below.refl _ _).alloc (Nat.le_refl _) _⟩
  have h2p : T ≤ 255 := by omega
  by_cases h3 : N = 0
  · obtain rfl := no (by rw [hR2]; omega)
    clear hR2 no
    have h3n : ¬ 0 < N := by omega
    go_enter Tryz.func28, Tryz.ntmps28
    go_wp2_with fail
    go_ret
    exact ⟨rfl, (Below.refl _ _).alloc (Nat.le_refl _) _⟩
  have h3p : 0 < N := by omega
  by_cases h4 : c < 0
  · obtain rfl := no (by rw [hR2]; omega)
    clear hR2 no
    have h4n : ¬ 0 ≤ c := by omega
    go_enter Tryz.func28, Tryz.ntmps28
    go_wp2_with fail
    go_ret
    exact ⟨rfl, (Below.refl _ _).alloc (Nat.le_refl _) _⟩
  have h4p : 0 ≤ c := by omega
  by_cases h5 : 2 < c
  · obtain rfl := no (by rw [hR2]; omega)
    clear hR2 no
    have h5n : ¬ c ≤ 2 := by omega
    go_enter Tryz.func28, Tryz.ntmps28
    go_wp2_with fail
    go_ret
    exact ⟨rfl, (Below.refl _ _).alloc (Nat.le_refl _) _⟩
  have h5p : c ≤ 2 := by omega
  by_cases h6 : (4096 : Int) < nd
  · obtain rfl := no (by rw [hR2]; omega)
    clear hR2 no
    have h6n : ¬ (nd : Int) ≤ 4096 := by omega
    have h6m : 4096 < nd := by omega
    go_enter Tryz.func28, Tryz.ntmps28
    go_wp2_with fail
    go_ret
    exact ⟨rfl, (Below.refl _ _).alloc (Nat.le_refl _) _⟩
  have h6p : (nd : Int) ≤ 4096 := by omega
  have h6q : nd ≤ 4096 := by omega
  have h6d : decide ((nd : Int) ≤ 4096) = true := by simpa using h6p
  by_cases h7 : T = 1
  · subst h7
    by_cases h8 : N = 1
    · subst h8
      obtain rfl : R = true := by rw [hR2]; omega
      clear hR2 no
      go_enter Tryz.func28, Tryz.ntmps28
      go_wp2_with fail
      go_ret
      exact ⟨rfl, (Below.refl _ _).alloc (Nat.le_refl _) _⟩
    · obtain rfl := no (by rw [hR2]; omega)
      have h8b : (N == 1) = false := by rw [beq_eq_false_iff_ne]; exact h8
      clear hR2 no
      go_enter Tryz.func28, Tryz.ntmps28
      go_wp2_with fail
      go_ret
      exact ⟨rfl, (Below.refl _ _).alloc (Nat.le_refl _) _⟩
  · obtain rfl : R = true := by rw [hR2]; omega
    have h7b : (T == 1) = false := by rw [beq_eq_false_iff_ne]; exact h7
    clear hR2 no
    go_enter Tryz.func28, Tryz.ntmps28
    go_wp2_with fail
    go_ret
    exact ⟨rfl, (Below.refl _ _).alloc (Nat.le_refl _) _⟩

set_option maxRecDepth 100000 in
set_option maxHeartbeats 4000000 in
theorem ritems_any (t n f C : Nat) (A : Option Addr) (nd cd B : Nat) (d : List UInt8) (w : World) (ht : t < 18446744073709551616) (hn : n < 18446744073709551616) (hf : f < 18446744073709551616) (hC : C ≤ 2) (hB : B ≤ w.heap.size) (h : Rd w B A nd d) (hnd : nd ≤ 140737488355328) :
    Calls Tryz.prog 26 #[blkV t n f (C : Int) A nd cd] w fun e w' => ∃ g, e = .returned (.slice (some ⟨g, 0, none⟩) 5 5) ∧ g < w'.heap.size ∧ RdIs w' w'.heap.size g 0 (partsB ⟨t, n, f, (C : Int), d⟩) ∧ Below w.heap.size w w' := by
  have HX : Hid (partsB ⟨t, n, f, (C : Int), d⟩ = [.mk 0 t [] [], .mk 0 n [] [], .mk 0 f [] [], .mk 0 C [] [], .mk 2 0 d []]) := rfl
  rw [HX.out]
  have HT := Lib.hid (And.intro ht (And.intro hn hf))
  have HCB : Hid (C < 18446744073709551616) := by show _ < _; omega
  have hwc : IntKind.u64.wrap (C : Int) = (C : Int) := by rw [show IntKind.u64.wrap (C : Int) = (C : Int) % 18446744073709551616 from rfl]; omega
  have HB0 := Lib.hid ((Below.refl w.heap.size w).alloc (Nat.le_refl _) (.cells #[.int .u64 (t : Int), .int .u64 (n : Int), .int .u64 (f : Int), .int .i64 (C : Int), .slice A nd cd] 25))
  have G0 := Lib.hid (fun (W : World) (hb : Below (w.heap.size + 1) (w.alloc (.cells #[.int .u64 (t : Int), .int .u64 (n : Int), .int .u64 (f : Int), .int .i64 (C : Int), .slice A nd cd] 25)) W) => box5 (g := w.heap.size) rfl hb)
  have HS0 : Hid ((w.alloc (.cells #[.int .u64 (t : Int), .int .u64 (n : Int), .int .u64 (f : Int), .int .i64 (C : Int), .slice A nd cd] 25)).heap.size = w.heap.size + 1) := by show _ = _; simp
  have CB := Lib.hid (fun (W : World) (hb : Below w.heap.size w W) => rbytes_any A nd cd B d W (Nat.le_trans hB hb.size) (h.below (hb.mono hB)) hnd)
  have CU := Lib.hid ruintV
  clear h hB hnd ht hn hf hC
  unfold blkV
  go_enter Tryz.func26, Tryz.ntmps26
  go_wp2_with fail
  generalize (w.alloc (.cells #[.int .u64 (t : Int), .int .u64 (n : Int), .int .u64 (f : Int), .int .i64 (C : Int), .slice A nd cd] 25)) = W0 at *
  refine wp_region_held_drew (S := fun W => Below W0.heap.size W0 W) (by kernel_rfl) Below.drew_ (fun hHeld => ?_)
  have BC := Lib.hid hHeld
  refine takeR (i := 0) (v := ?v0) rfl (by kernel_rfl) (by kernel_rfl) (by kernel_rfl) (fun _ _ _ h => h) (by rfl) ?hy0 (by assumption) ?rest0
  case hy0 => (intro W hSw; go_simp; try with_reducible rfl)
  try simp only [Act.put, List.setIfInBounds_toArray, List.set_cons_succ, List.set_cons_zero]
  refine takeR (i := 1) (v := ?v1) rfl (by kernel_rfl) (by kernel_rfl) (by kernel_rfl) (fun _ _ _ h => h) (by rfl) ?hy1 (by assumption) ?rest1
  case hy1 => (intro W hSw; have hq := G0.out _ (hSw.mono (Nat.le_of_eq HS0.out.symm)); obtain ⟨x0, x1, x2, x3, x4⟩ := hq; go_simp; try with_reducible rfl)
  try simp only [Act.put, List.setIfInBounds_toArray, List.set_cons_succ, List.set_cons_zero]
  refine takeR (i := 3) (v := ?v3) rfl (by kernel_rfl) (by kernel_rfl) (by kernel_rfl) (fun _ _ _ h => h) (by rfl) ?hy3 (by assumption) ?rest3
  case hy3 => (intro W hSw; go_simp; try with_reducible rfl)
  try simp only [Act.put, List.setIfInBounds_toArray, List.set_cons_succ, List.set_cons_zero]
  refine takeR (i := 4) (v := ?v4) rfl (by kernel_rfl) (by kernel_rfl) (by kernel_rfl) (fun _ _ _ h => h) (by rfl) ?hy4 (by assumption) ?rest4
  case hy4 => (intro W hSw; have hq := G0.out _ (hSw.mono (Nat.le_of_eq HS0.out.symm)); obtain ⟨x0, x1, x2, x3, x4⟩ := hq; go_simp; try with_reducible rfl)
  try simp only [Act.put, List.setIfInBounds_toArray, List.set_cons_succ, List.set_cons_zero]
  refine takeR (i := 6) (v := ?v6) rfl (by kernel_rfl) (by kernel_rfl) (by kernel_rfl) (fun _ _ _ h => h) (by rfl) ?hy6 (by assumption) ?rest6
  case hy6 => (intro W hSw; go_simp; try with_reducible rfl)
  try simp only [Act.put, List.setIfInBounds_toArray, List.set_cons_succ, List.set_cons_zero]
  refine takeR (i := 7) (v := ?v7) rfl (by kernel_rfl) (by kernel_rfl) (by kernel_rfl) (fun _ _ _ h => h) (by rfl) ?hy7 (by assumption) ?rest7
  case hy7 => (intro W hSw; have hq := G0.out _ (hSw.mono (Nat.le_of_eq HS0.out.symm)); obtain ⟨x0, x1, x2, x3, x4⟩ := hq; go_simp; try with_reducible rfl)
  try simp only [Act.put, List.setIfInBounds_toArray, List.set_cons_succ, List.set_cons_zero]
  refine takeR (i := 9) (v := ?v9) rfl (by kernel_rfl) (by kernel_rfl) (by kernel_rfl) (fun _ _ _ h => h) (by rfl) ?hy9 (by assumption) ?rest9
  case hy9 => (intro W hSw; go_simp; try with_reducible rfl)
  try simp only [Act.put, List.setIfInBounds_toArray, List.set_cons_succ, List.set_cons_zero]
  refine takeR (i := 10) (v := ?v10) rfl (by kernel_rfl) (by kernel_rfl) (by kernel_rfl) (fun _ _ _ h => h) (by rfl) ?hy10 (by assumption) ?rest10
  case hy10 => (intro W hSw; have hq := G0.out _ (hSw.mono (Nat.le_of_eq HS0.out.symm)); obtain ⟨x0, x1, x2, x3, x4⟩ := hq; go_simp; try with_reducible rfl)
  try simp only [Act.put, List.setIfInBounds_toArray, List.set_cons_succ, List.set_cons_zero]
  refine takeR (i := 11) (v := ?v11) rfl (by kernel_rfl) (by kernel_rfl) (by kernel_rfl) (fun _ _ _ h => h) (by rfl) ?hy11 (by assumption) ?rest11
  case hy11 => (intro W hSw; go_simp; try with_reducible rfl)
  try simp only [Act.put, List.setIfInBounds_toArray, List.set_cons_succ, List.set_cons_zero]
  refine takeR (i := 13) (v := ?v13) rfl (by kernel_rfl) (by kernel_rfl) (by kernel_rfl) (fun _ _ _ h => h) (by rfl) ?hy13 (by assumption) ?rest13
  case hy13 => (intro W hSw; go_simp; try with_reducible rfl)
  try simp only [Act.put, List.setIfInBounds_toArray, List.set_cons_succ, List.set_cons_zero]
  refine takeR (i := 14) (v := ?v14) rfl (by kernel_rfl) (by kernel_rfl) (by kernel_rfl) (fun _ _ _ h => h) (by rfl) ?hy14 (by assumption) ?rest14
  case hy14 => (intro W hSw; have hq := G0.out _ (hSw.mono (Nat.le_of_eq HS0.out.symm)); obtain ⟨x0, x1, x2, x3, x4⟩ := hq; go_simp; try with_reducible rfl)
  try simp only [Act.put, List.setIfInBounds_toArray, List.set_cons_succ, List.set_cons_zero]
  refine wpAnyH_ready (rs := [2]) (by kernel_rfl) (by simp) ?_
  refine AllReadyH.cons rfl (fun K hK => ?_) AllReadyH.nil
  rw [if_pos (by rfl)]
  go_simp
  refine (CU.out _ _).mono ?_
  rintro e w2 ⟨rfl, hb⟩
  replace BC := Lib.hid (BC.out.trans (hb.mono BC.out.size))
  clear hb
  go_simp
  refine hK.out _ _ BC.out (fun hHeld => ?_)
  try simp only [Act.put, List.setIfInBounds_toArray, List.set_cons_succ, List.set_cons_zero]
  clear hK K
  refine wpAnyH_ready (rs := [5]) (by kernel_rfl) (by simp) ?_
  refine AllReadyH.cons rfl (fun K hK => ?_) AllReadyH.nil
  rw [if_pos (by rfl)]
  go_simp
  refine (CU.out _ _).mono ?_
  rintro e w5 ⟨rfl, hb⟩
  replace BC := Lib.hid (BC.out.trans (hb.mono BC.out.size))
  clear hb
  go_simp
  refine hK.out _ _ BC.out (fun hHeld => ?_)
  try simp only [Act.put, List.setIfInBounds_toArray, List.set_cons_succ, List.set_cons_zero]
  clear hK K
  refine wpAnyH_ready (rs := [8]) (by kernel_rfl) (by simp) ?_
  refine AllReadyH.cons rfl (fun K hK => ?_) AllReadyH.nil
  rw [if_pos (by rfl)]
  go_simp
  refine (CU.out _ _).mono ?_
  rintro e w8 ⟨rfl, hb⟩
  replace BC := Lib.hid (BC.out.trans (hb.mono BC.out.size))
  clear hb
  go_simp
  refine hK.out _ _ BC.out (fun hHeld => ?_)
  try simp only [Act.put, List.setIfInBounds_toArray, List.set_cons_succ, List.set_cons_zero]
  clear hK K
  refine wpAnyH_ready (rs := [12]) (by kernel_rfl) (by simp) ?_
  refine AllReadyH.cons rfl (fun K hK => ?_) AllReadyH.nil
  rw [if_pos (by rfl)]
  go_simp
  refine (CU.out _ _).mono ?_
  rintro e w12 ⟨rfl, hb⟩
  replace BC := Lib.hid (BC.out.trans (hb.mono BC.out.size))
  clear hb
  go_simp
  refine hK.out _ _ BC.out (fun hHeld => ?_)
  try simp only [Act.put, List.setIfInBounds_toArray, List.set_cons_succ, List.set_cons_zero]
  clear hK K
  refine wpAnyH_ready (rs := [15]) (by kernel_rfl) (by simp) ?_
  refine AllReadyH.cons rfl (fun K hK => ?_) AllReadyH.nil
  rw [if_pos (by rfl)]
  go_simp
  refine (CB.out _ (HB0.out.trans (BC.out.mono HB0.out.size))).mono ?_
  rintro e w5 ⟨v5, rfl, hv5, hb⟩
  obtain ⟨k5, n5, A5, nd5, cd5, AL5, nl5, cl5, rfl⟩ := hv5.form
  have V5 := Lib.hid hv5
  clear hv5
  replace BC := Lib.hid (BC.out.trans (hb.mono BC.out.size))
  clear hb
  go_simp
  refine hK.out _ _ BC.out (fun hHeld => ?_)
  try simp only [Act.put, List.setIfInBounds_toArray, List.set_cons_succ, List.set_cons_zero]
  clear hK K
  refine wpAnyH_ready (rs := [16]) (by kernel_rfl) (by simp) ?_
  refine AllReadyH.cons rfl (fun K hK => ?_) AllReadyH.nil
  rw [if_pos (by rfl)]
  go_simp
  have hit : ItC (mask (lows 0) w5) w5.heap.size [.int .i64 0, .int .u64 (t : Int), .slice none 0 0, .slice none 0 0, .int .i64 0, .int .u64 (n : Int), .slice none 0 0, .slice none 0 0, .int .i64 0, .int .u64 (f : Int), .slice none 0 0, .slice none 0 0, .int .i64 0, .int .u64 (C : Int), .slice none 0 0, .slice none 0 0, .int .i64 k5, .int .u64 (n5 : Int), .slice A5 nd5 cd5, .slice AL5 nl5 cl5] [.mk 0 t [] [], .mk 0 n [] [], .mk 0 f [] [], .mk 0 C [] [], .mk 2 0 d []] := ⟨RdI.mk_uint HT.out.1, RdI.mk_uint HT.out.2.1, RdI.mk_uint HT.out.2.2, RdI.mk_uint HCB.out, V5.out.mask0, trivial⟩
  have hrow := RdIs.unmask (Nat.lt_succ_self _) (ItC.row (t := 37) (Nat.zero_le _) hit)
  have HROW := Lib.hid (RdIs.more (w := w5.alloc (.cells #[.int .i64 0, .int .u64 (t : Int), .slice none 0 0, .slice none 0 0, .int .i64 0, .int .u64 (n : Int), .slice none 0 0, .slice none 0 0, .int .i64 0, .int .u64 (f : Int), .slice none 0 0, .slice none 0 0, .int .i64 0, .int .u64 (C : Int), .slice none 0 0, .slice none 0 0, .int .i64 k5, .int .u64 (n5 : Int), .slice A5 nd5 cd5, .slice AL5 nl5 cl5] 37)) (B' := (w5.alloc (.cells #[.int .i64 0, .int .u64 (t : Int), .slice none 0 0, .slice none 0 0, .int .i64 0, .int .u64 (n : Int), .slice none 0 0, .slice none 0 0, .int .i64 0, .int .u64 (f : Int), .slice none 0 0, .slice none 0 0, .int .i64 0, .int .u64 (C : Int), .slice none 0 0, .slice none 0 0, .int .i64 k5, .int .u64 (n5 : Int), .slice A5 nd5 cd5, .slice AL5 nl5 cl5] 37)).heap.size) (by simp) hrow)
  have BN := Lib.hid (BC.out.alloc BC.out.size (.cells #[.int .i64 0, .int .u64 (t : Int), .slice none 0 0, .slice none 0 0, .int .i64 0, .int .u64 (n : Int), .slice none 0 0, .slice none 0 0, .int .i64 0, .int .u64 (f : Int), .slice none 0 0, .slice none 0 0, .int .i64 0, .int .u64 (C : Int), .slice none 0 0, .slice none 0 0, .int .i64 k5, .int .u64 (n5 : Int), .slice A5 nd5 cd5, .slice AL5 nl5 cl5] 37))
  clear hit hrow
  refine hK.out _ _ BN.out (fun hHeld => ?_)
  try simp only [Act.put, List.setIfInBounds_toArray, List.set_cons_succ, List.set_cons_zero]
  clear hK K
  refine takeR (i := 17) (v := ?v17) rfl (by kernel_rfl) (by kernel_rfl) (by kernel_rfl) (fun _ _ _ h => h) (by rfl) ?hy17 (by assumption) ?rest17
  case hy17 => (intro W hSw; go_simp; try with_reducible rfl)
  try simp only [Act.put, List.setIfInBounds_toArray, List.set_cons_succ, List.set_cons_zero]
  refine wpAnyH_done (by kernel_rfl) ?_ _
  go_wp2_with fail
  go_ret
  exact ⟨_, rfl, by simp, HROW.out, HB0.out.trans (BN.out.mono HB0.out.size)⟩
end Go.Proofs.YtanbjifdcplmnaaGreatDoor
