/- What Encode of layer 3's reference returns. -/
import Derived.Test.YtlecbblmaadpiaaGreatDoorMCborM
import Derived.Test.YtlecbblmaadpiaaGreatDoorMCborS
import Derived.Test.YtlecbblmaadpiaaGreatDoorMEidM
import Derived.Test.YtlecbblmaadpiaaGreatDoorMKWrite
import Derived.Deep.RegionHeld3
import Derived.Deep.AppendLies
namespace Go.Proofs.YtlecbblmaadpiaaGreatDoor
open Go.RowKit
theorem box_cells {w w' : World} {c0 c1 c2 c3 : Value} {t : TypeId} (h : Below (w.heap.size + 1) (w.alloc (.cells #[c0, c1, c2, c3] t)) w') :
    w'.cell? ⟨w.heap.size, 0, none⟩ = some c0 ∧ w'.cell? ⟨w.heap.size, 1, none⟩ = some c1 ∧ w'.cell? ⟨w.heap.size, 2, none⟩ = some c2 ∧ w'.cell? ⟨w.heap.size, 3, none⟩ = some c3 :=
  ⟨(h.cell (p := ⟨w.heap.size, 0, none⟩) (Nat.lt_succ_self _)).trans (by simp), (h.cell (p := ⟨w.heap.size, 1, none⟩) (Nat.lt_succ_self _)).trans (by simp), (h.cell (p := ⟨w.heap.size, 2, none⟩) (Nat.lt_succ_self _)).trans (by simp), (h.cell (p := ⟨w.heap.size, 3, none⟩) (Nat.lt_succ_self _)).trans (by simp)⟩
theorem to_box {w w' : World} {o : Obj} (h : Below (w.alloc o).heap.size (w.alloc o) w') : Below (w.heap.size + 1) (w.alloc o) w' := h.mono (by simp)
end Go.Proofs.YtlecbblmaadpiaaGreatDoor
/- Items as calls make them: Uint, Text, Bytes of layer 3's reference; and Same, of two equal ones. -/
namespace Go.Proofs.YtlecbblmaadpiaaGreatDoor
open Go.RowKit
theorem Below.drew_ {B : Nat} {w : World} : Below B w w.drew := (Below.refl B w).drew
theorem RdI.mk_uint {w : World} {B n : Nat} (hn : n < 18446744073709551616) : RdI w B (.agg #[.int .i64 0, .int .u64 (n : Int), .slice none 0 0, .slice none 0 0]) (.mk 0 n [] []) := by
  rw [RdI]
  exact ⟨none, 0, 0, none, 0, 0, rfl, by decide, hn, ⟨Nat.le_refl _, by decide⟩, Rd.nil_, ⟨Nat.le_refl _, by decide⟩, rfl, fun h => absurd h (Nat.lt_irrefl _)⟩
theorem RdI.mk_data {w : World} {B nd cd : Nat} {A : Option Addr} {d : List UInt8} {k : Int} (hk : (Lit.int .i64 k).wf = true) (hc : nd ≤ cd) (hc2 : nd ≤ 140737488355328) (h : Rd w B A nd d) : RdI w B (.agg #[.int .i64 k, .int .u64 0, .slice A nd cd, .slice none 0 0]) (.mk k 0 d []) := by
  rw [RdI]
  exact ⟨A, nd, cd, none, 0, 0, rfl, hk, by decide, ⟨hc, hc2⟩, h, ⟨Nat.le_refl _, by decide⟩, rfl, fun h => absurd h (Nat.lt_irrefl _)⟩
end Go.Proofs.YtlecbblmaadpiaaGreatDoor
/- Same of the reference of layer 3. -/
namespace Go.Proofs.YtlecbblmaadpiaaGreatDoor
open Go.RowKit
set_option maxRecDepth 100000 in
set_option maxHeartbeats 4000000 in
theorem rsame_n : ∀ (m : Nat) (x : Itm) (v v' : Value) (w : World) (B : Nat), par x < m → B ≤ w.heap.size → RdI w B v x → RdI w B v' x →
    Calls Tryz.prog 19 #[v, v'] w fun e w' => e = .returned (.bool true) ∧ Below w.heap.size w w'
  | 0, _, _, _, _, _, h, _, _, _ => absurd h (Nat.not_lt_zero _)
  | m + 1, .mk k n d l, v, v', w, B, hm, hB, h, h' => by
    obtain ⟨A, nd, cd, AL, cl, rfl, h1, h2, h3, h4, h5, h7⟩ := h.open
    obtain ⟨A', nd', cd', AL', cl', rfl, h1', h2', h3', h4', h5', h7'⟩ := h'.open
    obtain rfl : nd = nd' := h4.1.symm.trans h4'.1
    have IH := Lib.hid (rsame_n m)
    have H7 := Lib.hid h7
    have H7' := Lib.hid h7'
    have C1 := Lib.hid (fun W (hb : Below w.heap.size w W) => same_true A A' nd cd nd cd' B B d W (h4.below (hb.mono hB)) (h4'.below (hb.mono hB)))
    rw [par] at hm
    clear h1 h4 h7 h h1' h4' h7' h' h2'
    generalize hL : l.length = N at *
    have HL := Lib.hid hL
    have HB0 := Lib.hid (((Below.refl w.heap.size w).alloc (Nat.le_refl _) (.cells #[.int .i64 k, .int .u64 (n : Int), .slice A nd cd, .slice AL N cl] 30)).alloc (le_alloc _ _) (.cells #[.int .i64 k, .int .u64 (n : Int), .slice A' nd cd', .slice AL' N cl'] 30))
    clear hL
    go_enter Tryz.func19, Tryz.ntmps19
    go_wp2_with fail
    refine (C1.out _ HB0.out).mono ?_
    rintro e w1 ⟨rfl, rfl⟩
    go_wp2_with fail
    clear C1
    have f1 : ((w.alloc (.cells #[.int .i64 k, .int .u64 (n : Int), .slice A nd cd, .slice AL N cl] 30)).alloc (.cells #[.int .i64 k, .int .u64 (n : Int), .slice A' nd cd', .slice AL' N cl'] 30)).cell? ⟨w.heap.size, 3, none⟩ = some (.slice AL N cl) := by simp
    have f2 : ((w.alloc (.cells #[.int .i64 k, .int .u64 (n : Int), .slice A nd cd, .slice AL N cl] 30)).alloc (.cells #[.int .i64 k, .int .u64 (n : Int), .slice A' nd cd', .slice AL' N cl'] 30)).cell? ⟨w.heap.size + 1, 3, none⟩ = some (.slice AL' N cl') := by simp
    have fz : ((w.alloc (.cells #[.int .i64 k, .int .u64 (n : Int), .slice A nd cd, .slice AL N cl] 30)).alloc (.cells #[.int .i64 k, .int .u64 (n : Int), .slice A' nd cd', .slice AL' N cl'] 30)).heap.size = w.heap.size + 2 := by simp
    have F1 := Lib.hid f1
    have F2 := Lib.hid f2
    have FZ := Lib.hid fz
    clear f1 f2 fz
    generalize ((w.alloc (.cells #[.int .i64 k, .int .u64 (n : Int), .slice A nd cd, .slice AL N cl] 30)).alloc (.cells #[.int .i64 k, .int .u64 (n : Int), .slice A' nd cd', .slice AL' N cl'] 30)) = W0 at *
    go_loopw [4, 5] (fun rs i wr => ∃ j : Nat, j ≤ N ∧ rs = .bool false ∧ i = .int .i64 j ∧ Hid (Below (w.heap.size + 2) W0 wr))
      (fun _ i _ => N - (intOf i).toNat)
    case atStart => exact ⟨0, Nat.zero_le _, rfl, rfl, Below.refl _ _⟩
    case round =>
      obtain ⟨j, hj, rfl, rfl, hbel⟩ := hrel
      have q1 : wr.cell? ⟨w.heap.size, 3, none⟩ = some (.slice AL N cl) := (hbel.out.cell (p := ⟨w.heap.size, 3, none⟩) (by simp)).trans F1.out
      have q2 : wr.cell? ⟨w.heap.size + 1, 3, none⟩ = some (.slice AL' N cl') := (hbel.out.cell (p := ⟨w.heap.size + 1, 3, none⟩) (by simp)).trans F2.out
      have hsz : w.heap.size + 2 ≤ wr.heap.size := by have := hbel.out.size; have := FZ.out; omega
      have hs' : Below w.heap.size w wr := HB0.out.trans (hbel.out.mono (by omega))
      have HS := Lib.hid hs'
      by_cases hlt : j < N
      · obtain ⟨b, o, rfl, hb, hs⟩ := H7.out (by omega)
        obtain ⟨b', o', rfl, hb', hs2⟩ := H7'.out (by omega)
        have hjl : j < l.length := by rw [HL.out]; exact hlt
        obtain ⟨c0, c1, c2, c3, g0, g1, g2, g3, gx⟩ := hs.get j hjl
        obtain ⟨x0, x1, x2, x3, p0, p1, p2, p3, px⟩ := hs2.get j hjl
        have e0 : wr.cell? ⟨b, o + j * 4, none⟩ = some c0 := (hs'.cell (p := ⟨b, o + j * 4, none⟩) (by show b < _; omega)).trans g0
        have e1 : wr.cell? ⟨b, o + j * 4 + 1, none⟩ = some c1 := (hs'.cell (p := ⟨b, o + j * 4 + 1, none⟩) (by show b < _; omega)).trans g1
        have e2 : wr.cell? ⟨b, o + j * 4 + 2, none⟩ = some c2 := (hs'.cell (p := ⟨b, o + j * 4 + 2, none⟩) (by show b < _; omega)).trans g2
        have e3 : wr.cell? ⟨b, o + j * 4 + 3, none⟩ = some c3 := (hs'.cell (p := ⟨b, o + j * 4 + 3, none⟩) (by show b < _; omega)).trans g3
        have r0 : wr.cell? ⟨b', o' + j * 4, none⟩ = some x0 := (hs'.cell (p := ⟨b', o' + j * 4, none⟩) (by show b' < _; omega)).trans p0
        have r1 : wr.cell? ⟨b', o' + j * 4 + 1, none⟩ = some x1 := (hs'.cell (p := ⟨b', o' + j * 4 + 1, none⟩) (by show b' < _; omega)).trans p1
        have r2 : wr.cell? ⟨b', o' + j * 4 + 2, none⟩ = some x2 := (hs'.cell (p := ⟨b', o' + j * 4 + 2, none⟩) (by show b' < _; omega)).trans p2
        have r3 : wr.cell? ⟨b', o' + j * 4 + 3, none⟩ = some x3 := (hs'.cell (p := ⟨b', o' + j * 4 + 3, none⟩) (by show b' < _; omega)).trans p3
        have hpg : par (l[j]'hjl) ≤ pars l := par_get _
        have C1 := Lib.hid (IH.out (l[j]'hjl) _ _ wr.drew B (by omega) (by show B ≤ wr.heap.size; omega) ((gx.below (hs'.mono hB)).below Below.drew_) ((px.below (hs'.mono hB)).below Below.drew_))
        clear g0 g1 g2 g3 gx hs hs' p0 p1 p2 p3 px hs2 hpg
        have i0 : (0 : Int) ≤ (j : Int) := by omega
        have i1 : (j : Int) < (N : Int) := by omega
        have HHB := Lib.hid hB
        have HZ := Lib.hid hsz
        have HBb := Lib.hid hb
        have HBb' := Lib.hid hb'
        clear hB hsz hb hb'
        go_wp2_with fail
        go_region_held3 (fun W => W.cell? ⟨w.heap.size, 3, none⟩ = some (.slice (some ⟨b, o, none⟩) N cl) ∧ W.cell? ⟨w.heap.size + 1, 3, none⟩ = some (.slice (some ⟨b', o', none⟩) N cl') ∧
            W.cell? ⟨b, o + j * 4, none⟩ = some c0 ∧ W.cell? ⟨b, o + j * 4 + 1, none⟩ = some c1 ∧ W.cell? ⟨b, o + j * 4 + 2, none⟩ = some c2 ∧ W.cell? ⟨b, o + j * 4 + 3, none⟩ = some c3 ∧
            W.cell? ⟨b', o' + j * 4, none⟩ = some x0 ∧ W.cell? ⟨b', o' + j * 4 + 1, none⟩ = some x1 ∧ W.cell? ⟨b', o' + j * 4 + 2, none⟩ = some x2 ∧ W.cell? ⟨b', o' + j * 4 + 3, none⟩ = some x3)
          (first | (exact ⟨q1, q2, e0, e1, e2, e3, r0, r1, r2, r3⟩) | (exact ⟨(HB1.out.cell (p := ⟨w.heap.size, 3, none⟩) (by have := HZ.out; show w.heap.size < _; omega)).trans q1, (HB1.out.cell (p := ⟨w.heap.size + 1, 3, none⟩) (by have := HZ.out; show w.heap.size + 1 < _; omega)).trans q2,
              (HB1.out.cell (p := ⟨b, o + j * 4, none⟩) HLb.out).trans e0, (HB1.out.cell (p := ⟨b, o + j * 4 + 1, none⟩) HLb.out).trans e1, (HB1.out.cell (p := ⟨b, o + j * 4 + 2, none⟩) HLb.out).trans e2, (HB1.out.cell (p := ⟨b, o + j * 4 + 3, none⟩) HLb.out).trans e3,
              (HB1.out.cell (p := ⟨b', o' + j * 4, none⟩) HLb'.out).trans r0, (HB1.out.cell (p := ⟨b', o' + j * 4 + 1, none⟩) HLb'.out).trans r1, (HB1.out.cell (p := ⟨b', o' + j * 4 + 2, none⟩) HLb'.out).trans r2, (HB1.out.cell (p := ⟨b', o' + j * 4 + 3, none⟩) HLb'.out).trans r3⟩) | fail)
          (first
            | (go_at_call 19; refine C1.out.mono ?_; rintro e w1 ⟨rfl, hb1⟩; have HB1 := Lib.hid (((Below.refl wr.heap.size wr).drew).trans hb1); have HLb : Hid (b < wr.heap.size) := Nat.lt_of_lt_of_le HBb.out (Nat.le_trans HHB.out (Nat.le_trans (Nat.le_add_right _ 2) HZ.out)); have HLb' : Hid (b' < wr.heap.size) := Nat.lt_of_lt_of_le HBb'.out (Nat.le_trans HHB.out (Nat.le_trans (Nat.le_add_right _ 2) HZ.out)); clear hb1)
            | fail)
        go_wp2_with fail
        go_roundw
        case rel => exact ⟨j + 1, by omega, rfl, by go_num, hbel.out.trans (HB1.out.mono HZ.out)⟩
        case measure => simp [intOf]; omega
      · obtain rfl : j = N := by omega
        clear hs'
        go_wp2_with fail
        go_ret
        exact ⟨rfl, HS.out⟩
end Go.Proofs.YtlecbblmaadpiaaGreatDoor
/- Items as calls make them: Text and Bytes of layer 3's reference. -/
namespace Go.Proofs.YtlecbblmaadpiaaGreatDoor
open Go.RowKit
theorem zero_cells {w W' : World} (h : Below (w.heap.size + 1) (w.alloc (.cells #[.int .i64 0, .int .u64 0, .slice none 0 0, .slice none 0 0] 30)) W') :
    (W'.cell? ⟨w.heap.size, 0, none⟩ = some (.int .i64 0) ∧ W'.cell? ⟨w.heap.size, 1, none⟩ = some (.int .u64 0) ∧ W'.cell? ⟨w.heap.size, 2, none⟩ = some (.slice none 0 0) ∧ W'.cell? ⟨w.heap.size, 3, none⟩ = some (.slice none 0 0)) ∧
    (W'.frozen? ⟨w.heap.size, 0, none⟩ = false ∧ W'.frozen? ⟨w.heap.size, 1, none⟩ = false ∧ W'.frozen? ⟨w.heap.size, 2, none⟩ = false ∧ W'.frozen? ⟨w.heap.size, 3, none⟩ = false) :=
  ⟨box_cells h, (h.frozen (p := ⟨w.heap.size, 0, none⟩) (Nat.lt_succ_self _)).trans (by simp), (h.frozen (p := ⟨w.heap.size, 1, none⟩) (Nat.lt_succ_self _)).trans (by simp), (h.frozen (p := ⟨w.heap.size, 2, none⟩) (Nat.lt_succ_self _)).trans (by simp), (h.frozen (p := ⟨w.heap.size, 3, none⟩) (Nat.lt_succ_self _)).trans (by simp)⟩
theorem Rd.set4 {W' : World} {B n : Nat} {A : Option Addr} {l : List UInt8} {g : Nat} {u0 u1 u2 u3 : Value} (h : Rd W' B A n l) (hA : 0 < n → ∀ b o, A = some ⟨b, o, none⟩ → b ≠ g) :
    Rd ((((W'.setCell ⟨g, 0, none⟩ u0).setCell ⟨g, 1, none⟩ u1).setCell ⟨g, 2, none⟩ u2).setCell ⟨g, 3, none⟩ u3) B A n l :=
  ⟨h.1, fun hn => by
    obtain ⟨b, o, e, hb, hc⟩ := h.2 hn
    have hne := hA hn b o e
    refine ⟨b, o, e, hb, fun i hi => ?_⟩
    rw [World.cell?_setCell_far _ _ _ _ (fun h => hne h.symm), World.cell?_setCell_far _ _ _ _ (fun h => hne h.symm), World.cell?_setCell_far _ _ _ _ (fun h => hne h.symm), World.cell?_setCell_far _ _ _ _ (fun h => hne h.symm)]
    exact hc i hi⟩
theorem below_set4 {B g : Nat} {w W' : World} {u0 u1 u2 u3 : Value} (h : Below B w W') (hg : B ≤ g) : Below B w ((((W'.setCell ⟨g, 0, none⟩ u0).setCell ⟨g, 1, none⟩ u1).setCell ⟨g, 2, none⟩ u2).setCell ⟨g, 3, none⟩ u3) :=
  (((h.setCell (p := ⟨g, 0, none⟩) hg _).setCell (p := ⟨g, 1, none⟩) hg _).setCell (p := ⟨g, 2, none⟩) hg _).setCell (p := ⟨g, 3, none⟩) hg _
end Go.Proofs.YtlecbblmaadpiaaGreatDoor
/- Array of layer 3's reference: items, copied. -/
namespace Go.Proofs.YtlecbblmaadpiaaGreatDoor
open Go.RowKit
theorem RdIs.news {w : World} {B b : Nat} : ∀ {l : List Itm} {o : Nat}, RdIs w B b o l → ∃ cs : List Value, cs.length = l.length * 4 ∧ (∀ j u, cs[j]? = some u → w.cell? ⟨b, o + j, none⟩ = some u) ∧ (∀ u ∈ cs, u.oneCell' = true) ∧
    ∀ (W' : World) (B' b' o' : Nat), (∀ j u, cs[j]? = some u → W'.cell? ⟨b', o' + j, none⟩ = some u) → (∀ p : Addr, p.block < B → W'.cell? p = w.cell? p) → B ≤ B' → RdIs W' B' b' o' l
  | [], o, _ => ⟨[], rfl, fun j u h => (by simp at h), fun u h => (by cases h), fun W' B' b' o' _ _ _ => (by rw [RdIs]; trivial)⟩
  | x :: r, o, h => by
    rw [RdIs] at h
    obtain ⟨⟨c0, c1, c2, c3, g0, g1, g2, g3, gx⟩, hr⟩ := h
    obtain ⟨cs, h1, h2, h3, h4⟩ := RdIs.news hr
    obtain ⟨k, n, A, nd, cd, AL, nl, cl, e⟩ := gx.form
    have hone : c0.oneCell' = true ∧ c1.oneCell' = true ∧ c2.oneCell' = true ∧ c3.oneCell' = true := by
      injection e with e
      simp only [Array.mk.injEq, List.cons.injEq, and_true] at e
      obtain ⟨rfl, rfl, rfl, rfl⟩ := e
      exact ⟨rfl, rfl, rfl, rfl⟩
    refine ⟨c0 :: c1 :: c2 :: c3 :: cs, by simp [h1]; omega, ?_, ?_, ?_⟩
    · intro j u hj
      match j with
      | 0 => cases hj; exact g0
      | 1 => cases hj; exact g1
      | 2 => cases hj; exact g2
      | 3 => cases hj; exact g3
      | j + 4 =>
        have := h2 j u (by simpa using hj)
        rw [show o + (j + 4) = o + 4 + j by omega]
        exact this
    · intro u hu
      simp only [List.mem_cons] at hu
      rcases hu with rfl | rfl | rfl | rfl | hu
      · exact hone.1
      · exact hone.2.1
      · exact hone.2.2.1
      · exact hone.2.2.2
      · exact h3 u hu
    · intro W' B' b' o' hc hk hB
      rw [RdIs]
      refine ⟨⟨c0, c1, c2, c3, hc 0 c0 rfl, hc 1 c1 rfl, hc 2 c2 rfl, hc 3 c3 rfl, (gx.keep hk).more hB⟩, h4 W' B' b' (o' + 4) (fun j u hj => ?_) hk hB⟩
      have := hc (j + 4) u (by simpa using hj)
      rw [show o' + (j + 4) = o' + 4 + j by omega] at this
      exact this
theorem RdI.mk_list {w : World} {B b o n c : Nat} {l : List Itm} {k : Int} (hk : (Lit.int .i64 k).wf = true) (hc : n ≤ c) (hn : n ≤ 140737488355328) (hl : l.length = n) (hb : b < B) (h : RdIs w B b o l) : RdI w B (.agg #[.int .i64 k, .int .u64 0, .slice none 0 0, .slice (some ⟨b, o, none⟩) n c]) (.mk k 0 [] l) := by
  rw [RdI]
  exact ⟨none, 0, 0, some ⟨b, o, none⟩, n, c, rfl, hk, by decide, ⟨Nat.le_refl _, by decide⟩, Rd.nil_, ⟨hc, hn⟩, hl, fun _ => ⟨b, o, rfl, hb, h⟩⟩
theorem info_item : (Tryz.prog.info? 30).map (fun i => (i.zero, i.size, i.bytes)) = some (some (.agg #[.int .i64 0, .int .u64 0, .slice none 0 0, .slice none 0 0]), 4, 64) := by kernel_rfl
end Go.Proofs.YtlecbblmaadpiaaGreatDoor
/- What Encode of layer 3 returns. -/
namespace Go.Proofs.YtlecbblmaadpiaaGreatDoor
open Go.RowKit
end Go.Proofs.YtlecbblmaadpiaaGreatDoor
/- Text of the reference of layer 3. -/
namespace Go.Proofs.YtlecbblmaadpiaaGreatDoor
open Go.RowKit
end Go.Proofs.YtlecbblmaadpiaaGreatDoor
