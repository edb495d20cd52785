/- Items as calls make them: Uint, Text, Bytes of layer 3's reference; and Same, of two equal ones. -/
import Derived.Test.YtcbolbdfdapidaaDoorCborE
import Derived.Deep.RegionHeld3
namespace Go.Proofs.YtcbolbdfdapidaaDoor
open Go.RowKit

theorem Below.drew_ {B : Nat} {w : World} : Below B w w.drew := (Below.refl B w).drew
/-- A call gives back a value that reads as the item x, and leaves what was there. -/
def GivesI (x : Itm) (w : World) (e : Ending) (w' : World) : Prop := ∃ v, e = .returned v ∧ RdI w' w'.heap.size v x ∧ Below w.heap.size w w'
theorem RdI.mk_uint {w : World} {B n : Nat} (hn : n < 18446744073709551616) : RdI w B (.agg #[.int .i64 0, .int .u64 (n : Int), .slice none 0 0, .slice none 0 0]) (.mk 0 n [] []) := by
  rw [RdI]
  exact ⟨none, 0, 0, none, 0, 0, rfl, by decide, hn, ⟨Nat.le_refl _, by decide⟩, Rd.nil_, ⟨Nat.le_refl _, by decide⟩, rfl, fun h => absurd h (Nat.lt_irrefl _)⟩
theorem RdI.mk_data {w : World} {B nd cd : Nat} {A : Option Addr} {d : List UInt8} {k : Int} (hk : (Lit.int .i64 k).wf = true) (hc : nd ≤ cd) (hc2 : nd ≤ 140737488355328) (h : Rd w B A nd d) : RdI w B (.agg #[.int .i64 k, .int .u64 0, .slice A nd cd, .slice none 0 0]) (.mk k 0 d []) := by
  rw [RdI]
  exact ⟨A, nd, cd, none, 0, 0, rfl, hk, by decide, ⟨hc, hc2⟩, h, ⟨Nat.le_refl _, by decide⟩, rfl, fun h => absurd h (Nat.lt_irrefl _)⟩

set_option maxRecDepth 100000 in
set_option maxHeartbeats 1000000 in
theorem ruint_any (n : Int) (w : World) (h0 : 0 ≤ n) (h1 : n < 18446744073709551616) :
    Calls Tryd.prog 12 #[.int .u64 n] w (GivesI (.mk 0 n.toNat [] []) w) := by
  go_enter Tryd.func12, Tryd.ntmps12
  go_wp2_with fail
  have e : (n.toNat : Int) = n := by omega
  have hr := fun W B => RdI.mk_uint (w := W) (B := B) (n := n.toNat) (by omega)
  rw [e] at hr
  exact bodyPost_ret (v := .agg #[.int .i64 0, .int .u64 n, .slice none 0 0, .slice none 0 0]) (by simp [results, Tryd.results12, go_sem]) rfl ⟨_, rfl, hr _ _, (Below.refl _ _).alloc (Nat.le_refl _) _⟩

set_option maxRecDepth 100000 in
set_option maxHeartbeats 4000000 in
theorem rsame_n : ∀ (m : Nat) (x : Itm) (v v' : Value) (w : World) (B : Nat), par x < m → B ≤ w.heap.size → RdI w B v x → RdI w B v' x →
    Calls Tryd.prog 16 #[v, v'] w fun e w' => e = .returned (.bool true) ∧ Below w.heap.size w w'
  | 0, _, _, _, _, _, h, _, _, _ => absurd h (Nat.not_lt_zero _)
  | m + 1, .mk k n d l, v, v', w, B, hm, hB, h, h' => by
    obtain ⟨A, nd, cd, AL, cl, rfl, h1, h2, h3, h4, h5, h7⟩ := h.open
    obtain ⟨A', nd', cd', AL', cl', rfl, h1', h2', h3', h4', h5', h7'⟩ := h'.open
    obtain rfl : nd = nd' := h4.1.symm.trans h4'.1
    have IH := Lib.hid (rsame_n m)
    have H7 := Lib.hid h7
    have H7' := Lib.hid h7'
    have C1 := Lib.hid (fun W (hb : Below w.heap.size w W) => same_true A A' nd cd nd cd' B B d W (h4.below (hb.mono hB)) (h4'.below (hb.mono hB)))
    rw [par] at hm
    clear h1 h4 h7 h h1' h4' h7' h' h2'
    generalize hL : l.length = N at *
    have HL := Lib.hid hL
    have HB0 := Lib.hid (((Below.refl w.heap.size w).alloc (Nat.le_refl _) (.cells #[.int .i64 k, .int .u64 (n : Int), .slice A nd cd, .slice AL N cl] 27)).alloc (le_alloc _ _) (.cells #[.int .i64 k, .int .u64 (n : Int), .slice A' nd cd', .slice AL' N cl'] 27))
    clear hL
    go_enter Tryd.func16, Tryd.ntmps16
    go_wp2_with fail
    refine (C1.out _ HB0.out).mono ?_
    rintro e w1 ⟨rfl, rfl⟩
    go_wp2_with fail
    clear C1
    have f1 : ((w.alloc (.cells #[.int .i64 k, .int .u64 (n : Int), .slice A nd cd, .slice AL N cl] 27)).alloc (.cells #[.int .i64 k, .int .u64 (n : Int), .slice A' nd cd', .slice AL' N cl'] 27)).cell? ⟨w.heap.size, 3, none⟩ = some (.slice AL N cl) := by simp
    have f2 : ((w.alloc (.cells #[.int .i64 k, .int .u64 (n : Int), .slice A nd cd, .slice AL N cl] 27)).alloc (.cells #[.int .i64 k, .int .u64 (n : Int), .slice A' nd cd', .slice AL' N cl'] 27)).cell? ⟨w.heap.size + 1, 3, none⟩ = some (.slice AL' N cl') := by simp
    have fz : ((w.alloc (.cells #[.int .i64 k, .int .u64 (n : Int), .slice A nd cd, .slice AL N cl] 27)).alloc (.cells #[.int .i64 k, .int .u64 (n : Int), .slice A' nd cd', .slice AL' N cl'] 27)).heap.size = w.heap.size + 2 := by simp
    have F1 := Lib.hid f1
    have F2 := Lib.hid f2
    have FZ := Lib.hid fz
    clear f1 f2 fz
    generalize ((w.alloc (.cells #[.int .i64 k, .int .u64 (n : Int), .slice A nd cd, .slice AL N cl] 27)).alloc (.cells #[.int .i64 k, .int .u64 (n : Int), .slice A' nd cd', .slice AL' N cl'] 27)) = W0 at *
    go_loopw [4, 5] (fun rs i wr => ∃ j : Nat, j ≤ N ∧ rs = .bool false ∧ i = .int .i64 j ∧ Hid (Below (w.heap.size + 2) W0 wr))
      (fun _ i _ => N - (intOf i).toNat)
    case atStart => exact ⟨0, Nat.zero_le _, rfl, rfl, Below.refl _ _⟩
    case round =>
      obtain ⟨j, hj, rfl, rfl, hbel⟩ := hrel
      have q1 : wr.cell? ⟨w.heap.size, 3, none⟩ = some (.slice AL N cl) := (hbel.out.cell (p := ⟨w.heap.size, 3, none⟩) (by simp)).trans F1.out
      have q2 : wr.cell? ⟨w.heap.size + 1, 3, none⟩ = some (.slice AL' N cl') := (hbel.out.cell (p := ⟨w.heap.size + 1, 3, none⟩) (by simp)).trans F2.out
      have hsz : w.heap.size + 2 ≤ wr.heap.size := by have := hbel.out.size; have := FZ.out; omega
      have hs' : Below w.heap.size w wr := HB0.out.trans (hbel.out.mono (by omega))
      have HS := Lib.hid hs'
      by_cases hlt : j < N
      · obtain ⟨b, o, rfl, hb, hs⟩ := H7.out (by omega)
        obtain ⟨b', o', rfl, hb', hs2⟩ := H7'.out (by omega)
        have hjl : j < l.length := by rw [HL.out]; exact hlt
        obtain ⟨c0, c1, c2, c3, g0, g1, g2, g3, gx⟩ := hs.get j hjl
        obtain ⟨x0, x1, x2, x3, p0, p1, p2, p3, px⟩ := hs2.get j hjl
        have e0 : wr.cell? ⟨b, o + j * 4, none⟩ = some c0 := (hs'.cell (p := ⟨b, o + j * 4, none⟩) (by show b < _; omega)).trans g0
        have e1 : wr.cell? ⟨b, o + j * 4 + 1, none⟩ = some c1 := (hs'.cell (p := ⟨b, o + j * 4 + 1, none⟩) (by show b < _; omega)).trans g1
        have e2 : wr.cell? ⟨b, o + j * 4 + 2, none⟩ = some c2 := (hs'.cell (p := ⟨b, o + j * 4 + 2, none⟩) (by show b < _; omega)).trans g2
        have e3 : wr.cell? ⟨b, o + j * 4 + 3, none⟩ = some c3 := (hs'.cell (p := ⟨b, o + j * 4 + 3, none⟩) (by show b < _; omega)).trans g3
        have r0 : wr.cell? ⟨b', o' + j * 4, none⟩ = some x0 := (hs'.cell (p := ⟨b', o' + j * 4, none⟩) (by show b' < _; omega)).trans p0
        have r1 : wr.cell? ⟨b', o' + j * 4 + 1, none⟩ = some x1 := (hs'.cell (p := ⟨b', o' + j * 4 + 1, none⟩) (by show b' < _; omega)).trans p1
        have r2 : wr.cell? ⟨b', o' + j * 4 + 2, none⟩ = some x2 := (hs'.cell (p := ⟨b', o' + j * 4 + 2, none⟩) (by show b' < _; omega)).trans p2
        have r3 : wr.cell? ⟨b', o' + j * 4 + 3, none⟩ = some x3 := (hs'.cell (p := ⟨b', o' + j * 4 + 3, none⟩) (by show b' < _; omega)).trans p3
        have hpg : par (l[j]'hjl) ≤ pars l := par_get _
        have C1 := Lib.hid (IH.out (l[j]'hjl) _ _ wr.drew B (by omega) (by show B ≤ wr.heap.size; omega) ((gx.below (hs'.mono hB)).below Below.drew_) ((px.below (hs'.mono hB)).below Below.drew_))
        clear g0 g1 g2 g3 gx hs hs' p0 p1 p2 p3 px hs2 hpg
        have i0 : (0 : Int) ≤ (j : Int) := by omega
        have i1 : (j : Int) < (N : Int) := by omega
        have HHB := Lib.hid hB
        have HZ := Lib.hid hsz
        have HBb := Lib.hid hb
        have HBb' := Lib.hid hb'
        clear hB hsz hb hb'
        go_wp2_with fail
        go_region_held3 (fun W => W.cell? ⟨w.heap.size, 3, none⟩ = some (.slice (some ⟨b, o, none⟩) N cl) ∧ W.cell? ⟨w.heap.size + 1, 3, none⟩ = some (.slice (some ⟨b', o', none⟩) N cl') ∧
            W.cell? ⟨b, o + j * 4, none⟩ = some c0 ∧ W.cell? ⟨b, o + j * 4 + 1, none⟩ = some c1 ∧ W.cell? ⟨b, o + j * 4 + 2, none⟩ = some c2 ∧ W.cell? ⟨b, o + j * 4 + 3, none⟩ = some c3 ∧
            W.cell? ⟨b', o' + j * 4, none⟩ = some x0 ∧ W.cell? ⟨b', o' + j * 4 + 1, none⟩ = some x1 ∧ W.cell? ⟨b', o' + j * 4 + 2, none⟩ = some x2 ∧ W.cell? ⟨b', o' + j * 4 + 3, none⟩ = some x3)
          (first | (exact ⟨q1, q2, e0, e1, e2, e3, r0, r1, r2, r3⟩) | (exact ⟨(HB1.out.cell (p := ⟨w.heap.size, 3, none⟩) (by have := HZ.out; show w.heap.size < _; omega)).trans q1, (HB1.out.cell (p := ⟨w.heap.size + 1, 3, none⟩) (by have := HZ.out; show w.heap.size + 1 < _; omega)).trans q2,
              (HB1.out.cell (p := ⟨b, o + j * 4, none⟩) HLb.out).trans e0, (HB1.out.cell (p := ⟨b, o + j * 4 + 1, none⟩) HLb.out).trans e1, (HB1.out.cell (p := ⟨b, o + j * 4 + 2, none⟩) HLb.out).trans e2, (HB1.out.cell (p := ⟨b, o + j * 4 + 3, none⟩) HLb.out).trans e3,
              (HB1.out.cell (p := ⟨b', o' + j * 4, none⟩) HLb'.out).trans r0, (HB1.out.cell (p := ⟨b', o' + j * 4 + 1, none⟩) HLb'.out).trans r1, (HB1.out.cell (p := ⟨b', o' + j * 4 + 2, none⟩) HLb'.out).trans r2, (HB1.out.cell (p := ⟨b', o' + j * 4 + 3, none⟩) HLb'.out).trans r3⟩) | fail)
          (first
            | (go_at_call 16; refine C1.out.mono ?_; rintro e w1 ⟨rfl, hb1⟩; have HB1 := Lib.hid (((Below.refl wr.heap.size wr).drew).trans hb1); have HLb : Hid (b < wr.heap.size) := Nat.lt_of_lt_of_le HBb.out (Nat.le_trans HHB.out (Nat.le_trans (Nat.le_add_right _ 2) HZ.out)); have HLb' : Hid (b' < wr.heap.size) := Nat.lt_of_lt_of_le HBb'.out (Nat.le_trans HHB.out (Nat.le_trans (Nat.le_add_right _ 2) HZ.out)); clear hb1)
            | fail)
        go_wp2_with fail
        go_roundw
        case rel => exact ⟨j + 1, by omega, rfl, by go_num, hbel.out.trans (HB1.out.mono HZ.out)⟩
        case measure => simp [intOf]; omega
      · obtain rfl : j = N := by omega
        clear hs'
        go_wp2_with fail
        go_ret
        exact ⟨rfl, HS.out⟩
end Go.Proofs.YtcbolbdfdapidaaDoor
