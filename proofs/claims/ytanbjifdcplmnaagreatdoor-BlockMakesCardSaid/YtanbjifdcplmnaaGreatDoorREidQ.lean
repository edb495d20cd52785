/- Decode of layer 3, its item read in no block that was there. -/
import Derived.Test.YtanbjifdcplmnaaGreatDoorREidI3
import Derived.Test.YtanbjifdcplmnaaGreatDoorRKDec2
import Derived.Test.YtanbjifdcplmnaaGreatDoorRRfA
namespace Go.Proofs.YtanbjifdcplmnaaGreatDoor
open Go.RowKit

def GivesDL (x : Itm) (n e : Int) (w : World) (en : Ending) (w' : World) : Prop := ∃ v, en = .returned (.tuple #[v, .int .i64 n, .int .i64 e]) ∧ RdI (mask (lows w.heap.size) w') w'.heap.size v x ∧ Below w.heap.size w w'
theorem RdI.maskd {S : Nat → Bool} {W : World} {B : Nat} {v : Value} {x : Itm} (h : RdI (mask S W) B v x) : RdI (mask S W.drew) B v x := RdI.keep (w := mask S W) (w' := mask S W.drew) (fun _ _ => rfl) h

set_option maxRecDepth 100000 in
set_option maxHeartbeats 4000000 in
theorem cdecodeL_any (A : Option Addr) (n c B : Nat) (l : List UInt8) (w : World) (hB : B ≤ w.heap.size) (h : Rd w B A n l) (hn : n ≤ 140737488355328) (hc : n ≤ c) (hL : LaidE w) :
    Calls Tryz.prog 43 #[.slice A n c] w (GivesDL (decode l).1 (decode l).2.1 (decode l).2.2 w) := by
  have hst : RSt ((w.alloc (.cells #[.int .i64 0, .int .u64 0, .slice none 0 0, .slice none 0 0] 37)).alloc (.cells #[.slice A n c, .int .i64 0, .int .i64 0, .int .i64 0] 111)) (w.heap.size + 1) A n c l 0 0 0 :=
    ⟨by simp, by simp, by simp, by simp, by simp, by simp, by simp, ((h.alloc hB _).alloc (Nat.le_trans hB (le_alloc _ _)) _).more (by omega), Nat.zero_le _, hn, hc⟩
  have C1 := Lib.hid (item_all 8 _ _ _ _ _ _ _ _ _ (by rfl) (Nat.zero_le _) hst)
  obtain ⟨r, hr⟩ : ∃ r, r = dec 8 0 (l.drop 0) := ⟨_, rfl⟩
  rw [← hr] at C1
  have HR := Lib.hid hr
  have hlen := h.1
  have HL := Lib.hid hL
  clear hst h hr
  have hgl : 0 < w.heap.size := hL.lt
  clear hL
  rcases r with z | ⟨x, p', l'⟩
  · have hd : decode l = (.zero, 0, z) := by
      unfold decode
      have := HR.out
      rw [List.drop_zero] at this
      rw [← this]
    rw [hd]
    clear hd
    have HC : Hid (Calls Tryz.prog 61 #[.pointer (some ⟨w.heap.size + 1, 0, none⟩)] ((w.alloc (.cells #[.int .i64 0, .int .u64 0, .slice none 0 0, .slice none 0 0] 37)).alloc (.cells #[.slice A n c, .int .i64 0, .int .i64 0, .int .i64 0] 111)) fun e w' =>
      e = .returned (.tuple #[.agg #[.int .i64 0, .int .u64 0, .slice none 0 0, .slice none 0 0], .iface 139 (.agg #[.int .i64 z])]) ∧ Only (w.heap.size + 1) ((w.alloc (.cells #[.int .i64 0, .int .u64 0, .slice none 0 0, .slice none 0 0] 37)).alloc (.cells #[.slice A n c, .int .i64 0, .int .i64 0, .int .i64 0] 111)) w') := C1
    clear C1
    go_enter Tryz.func43, Tryz.ntmps43
    go_wp2_with fail
    refine HC.out.mono ?_
    rintro e w1 ⟨rfl, ho⟩
    have hb1 := (ho.below (by simp)).mono (B' := w.heap.size + 1) (Nat.le_refl _)
    have hb2 : Below (w.heap.size + 1) (w.alloc (.cells #[.int .i64 0, .int .u64 0, .slice none 0 0, .slice none 0 0] 37)) (w1.alloc (.cells #[.int .i64 0, .int .u64 0, .slice none 0 0, .slice none 0 0] 37)) :=
      (((Below.refl _ _).alloc (by simp) _).trans hb1).alloc (by have := hb1.size; simp at this; omega) _
    have hbw : Below w.heap.size w (w1.alloc (.cells #[.int .i64 0, .int .u64 0, .slice none 0 0, .slice none 0 0] 37)) := ((Below.refl _ _).alloc (Nat.le_refl _) _).trans (hb2.mono (Nat.le_succ _))
    have C2 := Lib.hid (number_any z _ (HL.out.below hbw hgl))
    have HB2 := Lib.hid hb2
    have HBW := Lib.hid hbw
    clear ho hb1 hb2 hbw
    go_wp2_with fail
    refine C2.out.mono ?_
    rintro e w3 ⟨rfl, hb3⟩
    have hb4 := HB2.out.trans (hb3.mono (by have := HB2.out.size; simpa using this))
    obtain ⟨⟨z0, z1, z2, z3⟩, f0, f1, f2, f3⟩ := zero_cells hb4
    have HB4 := Lib.hid (((Below.refl w.heap.size w).alloc (Nat.le_refl _) _).trans (hb4.mono (Nat.le_succ _)))
    clear hb3 hb4
    go_wp2_with fail
    refine bodyPost_ret (v := .tuple #[noItem, .int .i64 0, .int .i64 z]) (by simp [results, Tryz.results43, go_sem, z0, z1, z2, z3, noItem]) rfl ⟨_, rfl, RdI.mk_uint (by decide), set4_below HB4.out (Nat.le_refl _)⟩
  · have hd : decode l = (x, ((l.length - l'.length : Nat) : Int), 0) := by
      unfold decode
      have := HR.out
      rw [List.drop_zero] at this
      rw [← this]
    rw [hd]
    clear hd
    obtain ⟨M, hM⟩ : ∃ M, M = l.length - l'.length := ⟨_, rfl⟩
    rw [← hM]
    have HM := Lib.hid hM
    clear hM
    go_enter Tryz.func43, Tryz.ntmps43
    go_wp2_with fail
    refine C1.out.mono ?_
    rintro e w1 ⟨v, i1, rfl, hv, hs1, hl1, ho⟩
    obtain ⟨k1, n1, A1, nd1, cd1, AL1, nl1, cl1, rfl⟩ := hv.form
    have hb1 := (ho.below (by simp)).mono (B' := w.heap.size + 1) (Nat.le_refl _)
    have hsz1 : w.heap.size + 2 ≤ w1.heap.size := by have := ho.size; simpa using this
    have hb2 : Below (w.heap.size + 1) (w.alloc (.cells #[.int .i64 0, .int .u64 0, .slice none 0 0, .slice none 0 0] 37)) (w1.alloc (.cells #[.int .i64 k1, .int .u64 (n1 : Int), .slice A1 nd1 cd1, .slice AL1 nl1 cl1] 37)) :=
      (((Below.refl _ _).alloc (by simp) _).trans hb1).alloc (by omega) _
    obtain ⟨⟨z0, z1, z2, z3⟩, f0, f1, f2, f3⟩ := zero_cells hb2
    have HBW := Lib.hid (((Below.refl w.heap.size w).alloc (Nat.le_refl _) (.cells #[.int .i64 0, .int .u64 0, .slice none 0 0, .slice none 0 0] 37)).trans (hb2.mono (Nat.le_succ _)))
    have r1 := (hs1.alloc (.cells #[.int .i64 k1, .int .u64 (n1 : Int), .slice A1 nd1 cd1, .slice AL1 nl1 cl1] 37)).c1
    have HV := Lib.hid (hv.mask_go (S' := lows (w.heap.size + 2)) (w' := w1.alloc (.cells #[.int .i64 k1, .int .u64 (n1 : Int), .slice A1 nd1 cd1, .slice AL1 nl1 cl1] 37)) (B' := w1.heap.size + 1) (Nat.le_succ _) (fun k hk _ => Below.heap_alloc _ _ _ hk) (fun k _ hk => by have := lows_f.1 hk; simp at this; exact lows_f.2 this))
    have hi1 : M = i1 := by
      have := hs1.hi
      rw [HM.out, ← hl1, List.length_drop]
      omega
    have HI1 := Lib.hid hi1
    have HSZ := Lib.hid hsz1
    clear hv hs1 hl1 ho hb1 hb2 hi1 hsz1
    go_wp2_with fail
    go_region
    go_wp2_with fail
    have hv2 := (HV.out.fin (b := w.heap.size) (lo' := w.heap.size) (u0 := .int .i64 k1) (u1 := .int .u64 (n1 : Int)) (u2 := .slice A1 nd1 cd1) (u3 := .slice AL1 nl1 cl1) (by simp) (by omega) (by omega))
    have hv3 := RdI.maskd hv2
    rw [HI1.out]
    refine bodyPost_ret (v := .tuple #[.agg #[.int .i64 k1, .int .u64 (n1 : Int), .slice A1 nd1 cd1, .slice AL1 nl1 cl1], .int .i64 (i1 : Int), .int .i64 0]) (by simp [results, Tryz.results43, go_sem, z0, z1, z2, z3]) rfl ⟨_, rfl, hv3, (set4_below HBW.out (Nat.le_refl _)).drew⟩
end Go.Proofs.YtanbjifdcplmnaaGreatDoor
/- What bytes.Equal returns; what same of layer 4 returns, of every two items. -/
namespace Go.Proofs.YtanbjifdcplmnaaGreatDoor
open Go.RowKit

/-- Whether two items are one. -/
def Eqs (x y : Itm) (w : World) (e : Ending) (w' : World) : Prop := ∃ r : Bool, e = .returned (.bool r) ∧ (r = true ↔ x = y) ∧ Below w.heap.size w w'

set_option maxRecDepth 100000 in
set_option maxHeartbeats 4000000 in
theorem csame_n : ∀ (m : Nat) (x y : Itm) (v v' : Value) (w : World) (B : Nat), par y < m → B ≤ w.heap.size → RdI w B v x → RdI w B v' y →
    Calls Tryz.prog 76 #[v, v'] w (Eqs x y w)
  | 0, _, _, _, _, _, _, h, _, _, _ => absurd h (Nat.not_lt_zero _)
  | m + 1, .mk k n d l, .mk k' n' d' l', v, v', w, B, hm, hB, h, h' => by
    obtain ⟨A, nd, cd, AL, cl, rfl, h1, h2, h3, h4, h5, h7⟩ := h.open
    obtain ⟨A', nd', cd', AL', cl', rfl, h1', h2', h3', h4', h5', h7'⟩ := h'.open
    have IH := Lib.hid (csame_n m)
    have H7 := Lib.hid h7
    have H7' := Lib.hid h7'
    have C1 := Lib.hid (fun W (hb : Below w.heap.size w W) => bequal_any A A' nd cd nd' cd' B d d' W (h4.below (hb.mono hB)) (h4'.below (hb.mono hB)))
    have HM : Hid (pars l' < m) := by show _ < _; rw [par] at hm; omega
    have HBW := Lib.hid hB
    have XY : Hid (Itm.mk k n d l = Itm.mk k' n' d' l' ↔ k = k' ∧ (n : Int) = (n' : Int) ∧ d = d' ∧ l = l') := by
      show _ ↔ _
      rw [Itm.mk.injEq]
      constructor
      · rintro ⟨a, b, c, e⟩; exact ⟨a, by rw [b], c, e⟩
      · rintro ⟨a, b, c, e⟩; exact ⟨a, by omega, c, e⟩
    have HL5 := Lib.hid h5.2
    clear h1 h4 h7 h h1' h4' h7' h' h2' h2 h3 h3' h5 h5' hm hB
    generalize hL : l.length = N at *
    generalize hL' : l'.length = N' at *
    have HL := Lib.hid hL
    have HL' := Lib.hid hL'
    clear hL hL'
    generalize (n : Int) = nn at *
    generalize (n' : Int) = nn' at *
    have HB0 := Lib.hid (((Below.refl w.heap.size w).alloc (Nat.le_refl _) (.cells #[.int .i64 k, .int .u64 nn, .slice A nd cd, .slice AL N cl] 37)).alloc (le_alloc _ _) (.cells #[.int .i64 k', .int .u64 nn', .slice A' nd' cd', .slice AL' N' cl'] 37))
    by_cases e1 : k = k'
    case neg =>
      have HF : Hid (∀ w', Below w.heap.size w w' → Eqs (.mk k n d l) (.mk k' n' d' l') w (.returned (.bool false)) w') := fun w' hb => ⟨false, rfl, by rw [XY.out]; simp [e1], hb⟩
      clear IH H7 H7' C1
      go_enter Tryz.func76, Tryz.ntmps76
      go_wp2_with fail
      go_ret
      exact HF.out _ HB0.out
    subst e1
    by_cases e2 : nn = nn'
    case neg =>
      have HF : Hid (∀ w', Below w.heap.size w w' → Eqs (.mk k n d l) (.mk k n' d' l') w (.returned (.bool false)) w') := fun w' hb => ⟨false, rfl, by rw [XY.out]; simp [e2], hb⟩
      clear IH H7 H7' C1
      go_enter Tryz.func76, Tryz.ntmps76
      go_wp2_with fail
      go_ret
      exact HF.out _ HB0.out
    subst e2
    by_cases e3 : d = d'
    case neg =>
      have HF : Hid (∀ w', Below w.heap.size w w' → Eqs (.mk k n d l) (.mk k n' d' l') w (.returned (.bool false)) w') := fun w' hb => ⟨false, rfl, by rw [XY.out]; simp [e3], hb⟩
      have e3' : (d == d') = false := beq_eq_false_iff_ne.2 e3
      rw [e3'] at C1
      clear IH H7 H7' e3'
      go_enter Tryz.func76, Tryz.ntmps76
      go_wp2_with fail
      refine (C1.out _ HB0.out).mono ?_
      rintro e w1 ⟨rfl, rfl⟩
      go_wp2_with fail
      go_ret
      exact HF.out _ HB0.out
    subst e3
    rw [show (d == d) = true by simp] at C1
    by_cases e4 : N = N'
    case neg =>
      have HF : Hid (∀ w', Below w.heap.size w w' → Eqs (.mk k n d l) (.mk k n' d l') w (.returned (.bool false)) w') := fun w' hb => ⟨false, rfl, by rw [XY.out]; simp; intro h; exact e4 (by rw [← HL.out, ← HL'.out, h]), hb⟩
      have e4i : ((N : Int) == (N' : Int)) = false := by rw [beq_eq_false_iff_ne]; omega
      clear IH H7 H7' e4
      go_enter Tryz.func76, Tryz.ntmps76
      go_wp2_with fail
      refine (C1.out _ HB0.out).mono ?_
      rintro e w1 ⟨rfl, rfl⟩
      go_wp2_with fail
      go_ret
      exact HF.out _ HB0.out
    subst e4
    have HT : Hid (∀ (r : Bool) w', (r = true ↔ l = l') → Below w.heap.size w w' → Eqs (.mk k n d l) (.mk k n' d l') w (.returned (.bool r)) w') := fun r w' hr hb => ⟨r, rfl, by rw [XY.out, hr]; simp, hb⟩
    clear XY
    go_enter Tryz.func76, Tryz.ntmps76
    go_wp2_with fail
    refine (C1.out _ HB0.out).mono ?_
    rintro e w1 ⟨rfl, rfl⟩
    clear C1
    go_wp2_with fail
    have f1 : ((w.alloc (.cells #[.int .i64 k, .int .u64 nn, .slice A nd cd, .slice AL N cl] 37)).alloc (.cells #[.int .i64 k, .int .u64 nn, .slice A' nd' cd', .slice AL' N cl'] 37)).cell? ⟨w.heap.size, 3, none⟩ = some (.slice AL N cl) := by simp
    have f2 : ((w.alloc (.cells #[.int .i64 k, .int .u64 nn, .slice A nd cd, .slice AL N cl] 37)).alloc (.cells #[.int .i64 k, .int .u64 nn, .slice A' nd' cd', .slice AL' N cl'] 37)).cell? ⟨w.heap.size + 1, 3, none⟩ = some (.slice AL' N cl') := by simp
    have fz : ((w.alloc (.cells #[.int .i64 k, .int .u64 nn, .slice A nd cd, .slice AL N cl] 37)).alloc (.cells #[.int .i64 k, .int .u64 nn, .slice A' nd' cd', .slice AL' N cl'] 37)).heap.size = w.heap.size + 2 := by simp
    have F1 := Lib.hid f1
    have F2 := Lib.hid f2
    have FZ := Lib.hid fz
    clear f1 f2 fz
    generalize ((w.alloc (.cells #[.int .i64 k, .int .u64 nn, .slice A nd cd, .slice AL N cl] 37)).alloc (.cells #[.int .i64 k, .int .u64 nn, .slice A' nd' cd', .slice AL' N cl'] 37)) = W0 at *
    go_loopw [38] (fun i wr => ∃ j : Nat, j ≤ N ∧ i = .int .i64 j ∧ Hid (Below (w.heap.size + 2) W0 wr) ∧ Hid (l.take j = l'.take j))
      (fun i _ => N - (intOf i).toNat)
    case atStart => exact ⟨0, Nat.zero_le _, rfl, Below.refl _ _, by show _ = _; simp⟩
    case round =>
      obtain ⟨j, hj, rfl, hbel, htake⟩ := hrel
      have q1 : wr.cell? ⟨w.heap.size, 3, none⟩ = some (.slice AL N cl) := (hbel.out.cell (p := ⟨w.heap.size, 3, none⟩) (by simp)).trans F1.out
      have q2 : wr.cell? ⟨w.heap.size + 1, 3, none⟩ = some (.slice AL' N cl') := (hbel.out.cell (p := ⟨w.heap.size + 1, 3, none⟩) (by simp)).trans F2.out
      have hsz : w.heap.size + 2 ≤ wr.heap.size := by have := hbel.out.size; have := FZ.out; omega
      have hs' : Below w.heap.size w wr := HB0.out.trans (hbel.out.mono (by omega))
      have HS := Lib.hid hs'
      by_cases hlt : j < N
      · obtain ⟨b, o, rfl, hb, hs⟩ := H7.out (by omega)
        obtain ⟨b', o', rfl, hb', hs2⟩ := H7'.out (by omega)
        have hjl : j < l.length := by rw [HL.out]; exact hlt
        have hjl' : j < l'.length := by rw [HL'.out]; exact hlt
        obtain ⟨c0, c1, c2, c3, g0, g1, g2, g3, gx⟩ := hs.get j hjl
        obtain ⟨x0, x1, x2, x3, p0, p1, p2, p3, px⟩ := hs2.get j hjl'
        have hB := HBW.out
        have e0 : wr.cell? ⟨b, o + j * 4, none⟩ = some c0 := (hs'.cell (p := ⟨b, o + j * 4, none⟩) (by show b < _; omega)).trans g0
        have e1 : wr.cell? ⟨b, o + j * 4 + 1, none⟩ = some c1 := (hs'.cell (p := ⟨b, o + j * 4 + 1, none⟩) (by show b < _; omega)).trans g1
        have e2 : wr.cell? ⟨b, o + j * 4 + 2, none⟩ = some c2 := (hs'.cell (p := ⟨b, o + j * 4 + 2, none⟩) (by show b < _; omega)).trans g2
        have e3 : wr.cell? ⟨b, o + j * 4 + 3, none⟩ = some c3 := (hs'.cell (p := ⟨b, o + j * 4 + 3, none⟩) (by show b < _; omega)).trans g3
        have r0 : wr.cell? ⟨b', o' + j * 4, none⟩ = some x0 := (hs'.cell (p := ⟨b', o' + j * 4, none⟩) (by show b' < _; omega)).trans p0
        have r1 : wr.cell? ⟨b', o' + j * 4 + 1, none⟩ = some x1 := (hs'.cell (p := ⟨b', o' + j * 4 + 1, none⟩) (by show b' < _; omega)).trans p1
        have r2 : wr.cell? ⟨b', o' + j * 4 + 2, none⟩ = some x2 := (hs'.cell (p := ⟨b', o' + j * 4 + 2, none⟩) (by show b' < _; omega)).trans p2
        have r3 : wr.cell? ⟨b', o' + j * 4 + 3, none⟩ = some x3 := (hs'.cell (p := ⟨b', o' + j * 4 + 3, none⟩) (by show b' < _; omega)).trans p3
        have hpg : par (l'[j]'hjl') ≤ pars l' := par_get _
        have hmm := HM.out
        have C1 := Lib.hid (IH.out (l[j]'hjl) (l'[j]'hjl') _ _ wr.drew B (by omega) (by show B ≤ wr.heap.size; omega) ((gx.below (hs'.mono hB)).below Below.drew_) ((px.below (hs'.mono hB)).below Below.drew_))
        have HE1 : Hid (l[j]'hjl = l'[j]'hjl' → l.take (j + 1) = l'.take (j + 1)) := fun he => by rw [List.take_succ_eq_append_getElem hjl, List.take_succ_eq_append_getElem hjl', htake.out, he]
        have HE2 : Hid (l[j]'hjl ≠ l'[j]'hjl' → l ≠ l') := fun he h => he (by subst h; rfl)
        generalize l[j]'hjl = xj at *
        generalize l'[j]'hjl' = yj at *
        clear g0 g1 g2 g3 gx hs hs' p0 p1 p2 p3 px hs2 hpg hmm hjl hjl'
        have i0 : (0 : Int) ≤ (j : Int) := by omega
        have i1 : (j : Int) < (N : Int) := by omega
        have i2 : (N : Int) ≤ 140737488355328 := by have := HL5.out; omega
        have HHB := Lib.hid hB
        have HZ := Lib.hid hsz
        have HBb := Lib.hid hb
        have HBb' := Lib.hid hb'
        clear hB hsz hb hb'
        go_wp2_with fail
        go_region_held3 (fun W => W.cell? ⟨w.heap.size, 3, none⟩ = some (.slice (some ⟨b, o, none⟩) N cl) ∧ W.cell? ⟨w.heap.size + 1, 3, none⟩ = some (.slice (some ⟨b', o', none⟩) N cl') ∧
            W.cell? ⟨b, o + j * 4, none⟩ = some c0 ∧ W.cell? ⟨b, o + j * 4 + 1, none⟩ = some c1 ∧ W.cell? ⟨b, o + j * 4 + 2, none⟩ = some c2 ∧ W.cell? ⟨b, o + j * 4 + 3, none⟩ = some c3 ∧
            W.cell? ⟨b', o' + j * 4, none⟩ = some x0 ∧ W.cell? ⟨b', o' + j * 4 + 1, none⟩ = some x1 ∧ W.cell? ⟨b', o' + j * 4 + 2, none⟩ = some x2 ∧ W.cell? ⟨b', o' + j * 4 + 3, none⟩ = some x3)
          (first | (exact ⟨q1, q2, e0, e1, e2, e3, r0, r1, r2, r3⟩) | (exact ⟨(HB1.out.cell (p := ⟨w.heap.size, 3, none⟩) (by have := HZ.out; show w.heap.size < _; omega)).trans q1, (HB1.out.cell (p := ⟨w.heap.size + 1, 3, none⟩) (by have := HZ.out; show w.heap.size + 1 < _; omega)).trans q2,
              (HB1.out.cell (p := ⟨b, o + j * 4, none⟩) HLb.out).trans e0, (HB1.out.cell (p := ⟨b, o + j * 4 + 1, none⟩) HLb.out).trans e1, (HB1.out.cell (p := ⟨b, o + j * 4 + 2, none⟩) HLb.out).trans e2, (HB1.out.cell (p := ⟨b, o + j * 4 + 3, none⟩) HLb.out).trans e3,
              (HB1.out.cell (p := ⟨b', o' + j * 4, none⟩) HLb'.out).trans r0, (HB1.out.cell (p := ⟨b', o' + j * 4 + 1, none⟩) HLb'.out).trans r1, (HB1.out.cell (p := ⟨b', o' + j * 4 + 2, none⟩) HLb'.out).trans r2, (HB1.out.cell (p := ⟨b', o' + j * 4 + 3, none⟩) HLb'.out).trans r3⟩) | fail)
          (first
            | (go_at_call 76; refine C1.out.mono ?_; rintro e w1 ⟨rr, rfl, hrr, hb1⟩; have HRR := Lib.hid hrr; have HB1 := Lib.hid (((Below.refl wr.heap.size wr).drew).trans hb1); have HLb : Hid (b < wr.heap.size) := Nat.lt_of_lt_of_le HBb.out (Nat.le_trans HHB.out (Nat.le_trans (Nat.le_add_right _ 2) HZ.out)); have HLb' : Hid (b' < wr.heap.size) := Nat.lt_of_lt_of_le HBb'.out (Nat.le_trans HHB.out (Nat.le_trans (Nat.le_add_right _ 2) HZ.out)); clear hb1 hrr)
            | fail)
        cases rr with
        | true =>
          have HEQ : Hid (l.take (j + 1) = l'.take (j + 1)) := HE1.out (HRR.out.1 rfl)
          go_wp2_with fail
          go_roundw
          case rel => exact ⟨j + 1, by omega, by go_num, hbel.out.trans (HB1.out.mono HZ.out), HEQ.out⟩
          case measure => simp [intOf]; omega
        | false =>
          have HNE : Hid (l ≠ l') := HE2.out (fun h => by have := HRR.out.2 h; cases this)
          go_wp2_with fail
          go_ret
          exact HT.out _ _ (by simp; exact HNE.out) (HS.out.trans (HB1.out.mono HS.out.size))
      · obtain rfl : j = N := by omega
        have HEQ : Hid (l = l') := by
          have h := htake.out
          rw [List.take_of_length_le (Nat.le_of_eq HL.out), List.take_of_length_le (Nat.le_of_eq HL'.out)] at h
          exact h
        clear hs'
        have hjj : decide ((j : Int) < (j : Int)) = false := by simp
        go_wp2_with fail
        go_ret
        exact HT.out _ _ (by simp; exact HEQ.out) HS.out
end Go.Proofs.YtanbjifdcplmnaaGreatDoor
