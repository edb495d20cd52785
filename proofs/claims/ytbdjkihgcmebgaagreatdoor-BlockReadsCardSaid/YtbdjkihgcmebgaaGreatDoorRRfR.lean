/- What compare of layer 5 returns. -/
import Derived.Test.YtbdjkihgcmebgaaGreatDoorRArrS
import Derived.Test.YtbdjkihgcmebgaaGreatDoorRBlkE
import Derived.Test.YtbdjkihgcmebgaaGreatDoorREidC3
import Derived.BigQuiet
import Derived.Deep.QuietTactic
import Derived.Deep.RegionHeld3
namespace Go.Proofs.YtbdjkihgcmebgaaGreatDoor
open Go.RowKit

/-- nil, or a fault of that number. -/
def WhyN (z : Int) (w : World) (e : Ending) (w' : World) : Prop := Below w.heap.size w w' ∧ ((z = 0 ∧ e = .returned .nilIface) ∨ (z ≠ 0 ∧ ∃ s, e = .returned (bfl z s)))

theorem below_qN (B : Nat) (w : World) (k : Nat) : Below B w (w.drewN k) := ⟨rfl, rfl, rfl, Nat.le_refl _, fun _ _ => rfl⟩

set_option maxRecDepth 100000 in
set_option maxHeartbeats 4000000 in
theorem compare_any (A A' : Option Addr) (n c n' c' B s : Nat) (u v : List UInt8) (w : World) (h : Rd w B A n u) (hc : n ≤ c) (h' : Rd w B A' n' v) (hc' : n' ≤ c') (hs : s ≤ n') (hn : n ≤ 140737488355328) (hn' : n' ≤ 140737488355328) :
    Calls Tryz.prog 25 #[.slice A n c, .slice A' n' c', .int .i64 (s : Int)] w (WhyN (cmpB u v s) w) := by
  have hl := h.1
  have hl' := h'.1
  by_cases e1 : n = n'
  · subst e1
    obtain ⟨M, hM⟩ : ∃ M, M = n - s := ⟨_, rfl⟩
    have hMn : M ≤ n := by omega
    obtain ⟨D1, d1, k1, -, -, r1⟩ := cut_h (P := Tryz.prog) 22 5 Tryz.underlying22 size_u8 c h ((n : Int) - (s : Int)) M (by omega) hMn hc
    obtain ⟨D2, d2, k2, -, -, r2⟩ := cut_h (P := Tryz.prog) 22 5 Tryz.underlying22 size_u8 c' h' ((n : Int) - (s : Int)) M (by omega) hMn hc'
    obtain ⟨D3, d3, k3, -, -, r3⟩ := cut_l (P := Tryz.prog) 22 5 Tryz.underlying22 size_u8 c h ((n : Int) - (s : Int)) M (by omega) hMn hc
    obtain ⟨D4, d4, k4, -, -, r4⟩ := cut_l (P := Tryz.prog) 22 5 Tryz.underlying22 size_u8 c' h' ((n : Int) - (s : Int)) M (by omega) hMn hc'
    have C1 := Lib.hid (fun W k (hb : Below B w W) => Calls.quiet_of_same (n := k) ((bequal_any D1 D2 M d1 M d2 B _ _ (W.drewN k) (r1.below (hb.trans (below_qN B W k))) (r2.below (hb.trans (below_qN B W k)))).mono (fun _ _ h => ⟨h.1, h.2.symm⟩)))
    have C2 := Lib.hid (fun W k (hb : Below B w W) => Calls.quiet_of_same (n := k) ((bequal_any D3 D4 (n - M) d3 (n - M) d4 B _ _ (W.drewN k) (r3.below (hb.trans (below_qN B W k))) (r4.below (hb.trans (below_qN B W k)))).mono (fun _ _ h => ⟨h.1, h.2.symm⟩)))
    have hcmp : cmpB u v s = if (u.take M == v.take M) = false then 50 else if (u.drop M == v.drop M) = false then 51 else 0 := by
      unfold cmpB
      rw [hl', ← hM]
      by_cases q1 : u.take M = v.take M
      · rw [if_neg (by simp [hl, q1])]
        by_cases q2 : u.drop M = v.drop M
        · rw [if_neg (by simp [q2]), if_neg (by simp [q1]), if_neg (by simp [q2])]
        · rw [if_pos q2, if_neg (by simp [q1]), if_pos (by simpa using q2)]
      · rw [if_pos (.inr q1), if_pos (by simpa using q1)]
    rw [hcmp]
    generalize (u.take M == v.take M) = b1 at *
    generalize (u.drop M == v.drop M) = b2 at *
    have HB := Lib.hid (below_qN w.heap.size w)
    clear hcmp r1 r2 r3 r4 h h' hl hl' hc hc' hM
    cases b1 with
    | false =>
      rw [if_pos rfl]
      have Q1 := Lib.hid (fun k => C1.out w k (Below.refl _ _))
      go_enter Tryz.func25, Tryz.ntmps25
      go_wp2_with fail
      go_quiet (first | (go_at_call 36; exact Q1.out _) | fail)
      go_wp2_with fail
      go_ret
      exact ⟨HB.out _, .inr ⟨by decide, _, rfl⟩⟩
    | true =>
      rw [if_neg (by decide)]
      have Q1 := Lib.hid (fun k => C1.out w k (Below.refl _ _))
      have Q2 := Lib.hid (fun W (hb : Below B w W) k => C2.out W k hb)
      have HQ := Lib.hid (below_qN B w)
      clear C1 C2
      cases b2 with
      | false =>
        rw [if_pos rfl]
        go_enter Tryz.func25, Tryz.ntmps25
        go_wp2_with fail
        go_quiet (first | (go_at_call 36; exact Q1.out _) | fail)
        go_wp2_with fail
        have Q3 := Lib.hid (Q2.out _ (HQ.out nq))
        have HB1 := Lib.hid (HB.out nq)
        generalize w.drewN nq = W1 at *
        go_quiet (first | (go_at_call 36; exact Q3.out _) | fail)
        go_wp2_with fail
        go_ret
        exact ⟨HB1.out.trans (below_qN _ _ _), .inr ⟨by decide, _, rfl⟩⟩
      | true =>
        rw [if_neg (by decide)]
        go_enter Tryz.func25, Tryz.ntmps25
        go_wp2_with fail
        go_quiet (first | (go_at_call 36; exact Q1.out _) | fail)
        go_wp2_with fail
        have Q3 := Lib.hid (Q2.out _ (HQ.out nq))
        have HB1 := Lib.hid (HB.out nq)
        generalize w.drewN nq = W1 at *
        go_quiet (first | (go_at_call 36; exact Q3.out _) | fail)
        go_wp2_with fail
        go_ret
        exact ⟨HB1.out.trans (below_qN _ _ _), .inl ⟨rfl, rfl⟩⟩
  · have hcmp : cmpB u v s = 50 := by unfold cmpB; rw [if_pos (.inl (by rw [hl, hl']; exact e1))]
    rw [hcmp]
    have hne : ((n : Int) == (n' : Int)) = false := by rw [beq_eq_false_iff_ne]; omega
    have hne2 : ¬ (n : Int) = (n' : Int) := by omega
    have HB := Lib.hid (below_qN w.heap.size w)
    clear hcmp h h' hl hl'
    generalize (n' - s : Nat) = M at *
    go_enter Tryz.func25, Tryz.ntmps25
    go_wp2_with fail
    go_quiet (fail)
    go_wp2_with fail
    go_ret
    exact ⟨HB.out _, .inr ⟨by decide, _, rfl⟩⟩
end Go.Proofs.YtbdjkihgcmebgaaGreatDoor
/- What behindScheme of layer 4 returns. -/
namespace Go.Proofs.YtbdjkihgcmebgaaGreatDoor
open Go.RowKit

/-- What stands behind the scheme. -/
def behI (e : Epd) : Itm := if e.scheme = 2 then .mk 4 0 [] [.mk 0 e.node [] [], .mk 0 e.service [] []] else if e.name = [] then .mk 0 0 [] [] else .mk 3 0 e.name []
theorem itemE_beh (e : Epd) : itemE e = .mk 4 0 [] [.mk 0 e.scheme.toNat [] [], behI e] := rfl

theorem put4_cell {W : World} {g : Nat} {p : Addr} {u v0 v1 v2 v3 : Value} (h : W.cell? p = some u) (hg : ¬ g = p.block) : ((((W.setCell ⟨g, 0, none⟩ v0).setCell ⟨g, 1, none⟩ v1).setCell ⟨g, 2, none⟩ v2).setCell ⟨g, 3, none⟩ v3).cell? p = some u := by
  rw [World.cell?_setCell_far _ _ _ _ hg, World.cell?_setCell_far _ _ _ _ hg, World.cell?_setCell_far _ _ _ _ hg, World.cell?_setCell_far _ _ _ _ hg]
  exact h
/-- Two items in a row of their own. -/
theorem RdIs.two_ {lo : Nat} {W : World} {a0 a1 a2 a3 b0 b1 b2 b3 : Value} {x y : Itm} {t : TypeId} (hlo : lo ≤ W.heap.size) (h1 : RdI (mask (lows lo) W) W.heap.size (.agg #[a0, a1, a2, a3]) x) (h2 : RdI (mask (lows lo) W) W.heap.size (.agg #[b0, b1, b2, b3]) y) :
    RdIs (mask (lows lo) (W.alloc (.cells #[a0, a1, a2, a3, b0, b1, b2, b3] t))) (W.heap.size + 1) W.heap.size 0 [x, y] := by
  have hb := (Below.refl W.heap.size W).alloc (Nat.le_refl _) (.cells #[a0, a1, a2, a3, b0, b1, b2, b3] t)
  have hs : (W.alloc (.cells #[a0, a1, a2, a3, b0, b1, b2, b3] t)).heap.size = W.heap.size + 1 := by simp
  have k1 := h1.grow hb (Nat.le_refl lo)
  have k2 := h2.grow hb (Nat.le_refl lo)
  rw [hs] at k1 k2
  have hc : ∀ j u, (#[a0, a1, a2, a3, b0, b1, b2, b3] : Array Value)[j]? = some u → (mask (lows lo) (W.alloc (.cells #[a0, a1, a2, a3, b0, b1, b2, b3] t))).cell? ⟨W.heap.size, j, none⟩ = some u := fun j u hj => by
    rw [mask_cell (lows_f.2 hlo), World.cell?_alloc_at _ _ _ _ rfl]
    exact hj
  rw [RdIs, RdIs, RdIs]
  exact ⟨⟨a0, a1, a2, a3, hc 0 _ rfl, hc 1 _ rfl, hc 2 _ rfl, hc 3 _ rfl, k1⟩, ⟨b0, b1, b2, b3, hc 4 _ rfl, hc 5 _ rfl, hc 6 _ rfl, hc 7 _ rfl, k2⟩, trivial⟩

/-- Array of two items in a row of their own. -/
theorem carray_two {lo : Nat} {W : World} {a0 a1 a2 a3 b0 b1 b2 b3 : Value} {x y : Itm} (hlo : lo ≤ W.heap.size) (h1 : RdI (mask (lows lo) W) W.heap.size (.agg #[a0, a1, a2, a3]) x) (h2 : RdI (mask (lows lo) W) W.heap.size (.agg #[b0, b1, b2, b3]) y) (hp : pars [x, y] ≤ 1000000) :
    Calls Tryz.prog 57 #[.slice (some ⟨W.heap.size, 0, none⟩) 2 2] (W.alloc (.cells #[a0, a1, a2, a3, b0, b1, b2, b3] 42)) (GivesL lo (.mk 4 0 [] [x, y]) (W.alloc (.cells #[a0, a1, a2, a3, b0, b1, b2, b3] 42))) :=
  carrayS_any (lows lo) W.heap.size 0 2 2 (W.heap.size + 1) [x, y] (W.alloc (.cells #[a0, a1, a2, a3, b0, b1, b2, b3] 42)) (fun k hk => by have h1 := decide_eq_true_iff.1 hk; simp; omega) (Nat.le_of_eq (by simp)) (Nat.lt_succ_self _) (RdIs.two_ hlo h1 h2) rfl (by decide) hp (Nat.le_refl _)

end Go.Proofs.YtbdjkihgcmebgaaGreatDoor
/- What written and Item of layer 4 return. -/
namespace Go.Proofs.YtbdjkihgcmebgaaGreatDoor
open Go.RowKit

def zeroItem : Value := .agg #[.int .i64 0, .int .u64 0, .slice none 0 0, .slice none 0 0]
theorem par_beh (e : Epd) : pars [.mk 0 e.scheme.toNat [] [], behI e] ≤ 1000000 := by
  unfold behI
  split
  · simp [pars, par]
  · split <;> simp [pars, par]

/-- An endpoint's item, or 40. -/
def ItmE (E : Epd) (w : World) (e : Ending) (w' : World) : Prop := Below w.heap.size w w' ∧
  ((checkB E = true ∧ ∃ v, e = .returned (.tuple #[v, .int .i64 0]) ∧ RdI w' w'.heap.size v (itemE E)) ∨
   (checkB E = false ∧ e = .returned (.tuple #[zeroItem, .int .i64 40])))

end Go.Proofs.YtbdjkihgcmebgaaGreatDoor
/- What bytes.Equal returns; what same of layer 4 returns, of every two items. -/
namespace Go.Proofs.YtbdjkihgcmebgaaGreatDoor
open Go.RowKit

/-- Whether two items are one. -/
def Eqs (x y : Itm) (w : World) (e : Ending) (w' : World) : Prop := ∃ r : Bool, e = .returned (.bool r) ∧ (r = true ↔ x = y) ∧ Below w.heap.size w w'

end Go.Proofs.YtbdjkihgcmebgaaGreatDoor
/- Same of layer 3's reference, of every two items. (Made of EidQ.) -/
namespace Go.Proofs.YtbdjkihgcmebgaaGreatDoor
open Go.RowKit

set_option maxRecDepth 100000 in
set_option maxHeartbeats 4000000 in
theorem rsameG_n : ∀ (m : Nat) (x y : Itm) (v v' : Value) (w : World) (B : Nat), par y < m → B ≤ w.heap.size → RdI w B v x → RdI w B v' y →
    Calls Tryz.prog 14 #[v, v'] w (Eqs x y w)
  | 0, _, _, _, _, _, _, h, _, _, _ => absurd h (Nat.not_lt_zero _)
  | m + 1, .mk k n d l, .mk k' n' d' l', v, v', w, B, hm, hB, h, h' => by
    obtain ⟨A, nd, cd, AL, cl, rfl, h1, h2, h3, h4, h5, h7⟩ := h.open
    obtain ⟨A', nd', cd', AL', cl', rfl, h1', h2', h3', h4', h5', h7'⟩ := h'.open
    have IH := Lib.hid (rsameG_n m)
    have H7 := Lib.hid h7
    have H7' := Lib.hid h7'
    have C1 := Lib.hid (fun W (hb : Below w.heap.size w W) => same_any A A' nd cd nd' cd' B B d d' W (h4.below (hb.mono hB)) (h4'.below (hb.mono hB)))
    have HM : Hid (pars l' < m) := by show _ < _; rw [par] at hm; omega
    have HBW := Lib.hid hB
    have XY : Hid (Itm.mk k n d l = Itm.mk k' n' d' l' ↔ k = k' ∧ (n : Int) = (n' : Int) ∧ d = d' ∧ l = l') := by
      show _ ↔ _
      rw [Itm.mk.injEq]
      constructor
      · rintro ⟨a, b, c, e⟩; exact ⟨a, by rw [b], c, e⟩
      · rintro ⟨a, b, c, e⟩; exact ⟨a, by omega, c, e⟩
    have HL5 := Lib.hid h5.2
    clear h1 h4 h7 h h1' h4' h7' h' h2' h2 h3 h3' h5 h5' hm hB
    generalize hL : l.length = N at *
    generalize hL' : l'.length = N' at *
    have HL := Lib.hid hL
    have HL' := Lib.hid hL'
    clear hL hL'
    generalize (n : Int) = nn at *
    generalize (n' : Int) = nn' at *
    have HB0 := Lib.hid (((Below.refl w.heap.size w).alloc (Nat.le_refl _) (.cells #[.int .i64 k, .int .u64 nn, .slice A nd cd, .slice AL N cl] 42)).alloc (le_alloc _ _) (.cells #[.int .i64 k', .int .u64 nn', .slice A' nd' cd', .slice AL' N' cl'] 42))
    by_cases e1 : k = k'
    case neg =>
      have t1 : (k != k') = true := by simp [e1]
      have t2 : (k == k') = false := by simp [e1]
      have HF : Hid (∀ w', Below w.heap.size w w' → Eqs (.mk k n d l) (.mk k' n' d' l') w (.returned (.bool false)) w') := fun w' hb => ⟨false, rfl, by rw [XY.out]; simp [e1], hb⟩
      clear IH H7 H7' C1
      go_enter Tryz.func14, Tryz.ntmps14
      go_wp2_with fail
      go_ret
      exact HF.out _ HB0.out
    subst e1
    by_cases e2 : nn = nn'
    case neg =>
      have t1 : (nn != nn') = true := by simp [e2]
      have t2 : (nn == nn') = false := by simp [e2]
      have HF : Hid (∀ w', Below w.heap.size w w' → Eqs (.mk k n d l) (.mk k n' d' l') w (.returned (.bool false)) w') := fun w' hb => ⟨false, rfl, by rw [XY.out]; simp [e2], hb⟩
      clear IH H7 H7' C1
      go_enter Tryz.func14, Tryz.ntmps14
      go_wp2_with fail
      go_ret
      exact HF.out _ HB0.out
    subst e2
    by_cases e3 : d = d'
    case neg =>
      have HF : Hid (∀ w', Below w.heap.size w w' → Eqs (.mk k n d l) (.mk k n' d' l') w (.returned (.bool false)) w') := fun w' hb => ⟨false, rfl, by rw [XY.out]; simp [e3], hb⟩
      have e3' : (d == d') = false := beq_eq_false_iff_ne.2 e3
      rw [e3'] at C1
      clear IH H7 H7' e3'
      go_enter Tryz.func14, Tryz.ntmps14
      go_wp2_with fail
      refine (C1.out _ HB0.out).mono ?_
      rintro e w1 ⟨rfl, rfl⟩
      go_wp2_with fail
      go_ret
      exact HF.out _ HB0.out
    subst e3
    rw [show (d == d) = true by simp] at C1
    by_cases e4 : N = N'
    case neg =>
      have HF : Hid (∀ w', Below w.heap.size w w' → Eqs (.mk k n d l) (.mk k n' d l') w (.returned (.bool false)) w') := fun w' hb => ⟨false, rfl, by rw [XY.out]; simp; intro h; exact e4 (by rw [← HL.out, ← HL'.out, h]), hb⟩
      have e4i : ((N : Int) == (N' : Int)) = false := by rw [beq_eq_false_iff_ne]; omega
      have e4n : ((N : Int) != (N' : Int)) = true := by rw [bne_iff_ne]; omega
      clear IH H7 H7' e4
      go_enter Tryz.func14, Tryz.ntmps14
      go_wp2_with fail
      refine (C1.out _ HB0.out).mono ?_
      rintro e w1 ⟨rfl, rfl⟩
      go_wp2_with fail
      go_ret
      exact HF.out _ HB0.out
    subst e4
    have HT : Hid (∀ (r : Bool) w', (r = true ↔ l = l') → Below w.heap.size w w' → Eqs (.mk k n d l) (.mk k n' d l') w (.returned (.bool r)) w') := fun r w' hr hb => ⟨r, rfl, by rw [XY.out, hr]; simp, hb⟩
    clear XY
    go_enter Tryz.func14, Tryz.ntmps14
    go_wp2_with fail
    refine (C1.out _ HB0.out).mono ?_
    rintro e w1 ⟨rfl, rfl⟩
    clear C1
    go_wp2_with fail
    have f1 : ((w.alloc (.cells #[.int .i64 k, .int .u64 nn, .slice A nd cd, .slice AL N cl] 42)).alloc (.cells #[.int .i64 k, .int .u64 nn, .slice A' nd' cd', .slice AL' N cl'] 42)).cell? ⟨w.heap.size, 3, none⟩ = some (.slice AL N cl) := by simp
    have f2 : ((w.alloc (.cells #[.int .i64 k, .int .u64 nn, .slice A nd cd, .slice AL N cl] 42)).alloc (.cells #[.int .i64 k, .int .u64 nn, .slice A' nd' cd', .slice AL' N cl'] 42)).cell? ⟨w.heap.size + 1, 3, none⟩ = some (.slice AL' N cl') := by simp
    have fz : ((w.alloc (.cells #[.int .i64 k, .int .u64 nn, .slice A nd cd, .slice AL N cl] 42)).alloc (.cells #[.int .i64 k, .int .u64 nn, .slice A' nd' cd', .slice AL' N cl'] 42)).heap.size = w.heap.size + 2 := by simp
    have F1 := Lib.hid f1
    have F2 := Lib.hid f2
    have FZ := Lib.hid fz
    clear f1 f2 fz
    generalize ((w.alloc (.cells #[.int .i64 k, .int .u64 nn, .slice A nd cd, .slice AL N cl] 42)).alloc (.cells #[.int .i64 k, .int .u64 nn, .slice A' nd' cd', .slice AL' N cl'] 42)) = W0 at *
    go_loopw [4, 5] (fun rs i wr => ∃ j : Nat, j ≤ N ∧ rs = .bool false ∧ i = .int .i64 j ∧ Hid (Below (w.heap.size + 2) W0 wr) ∧ Hid (l.take j = l'.take j))
      (fun _ i _ => N - (intOf i).toNat)
    case atStart => exact ⟨0, Nat.zero_le _, rfl, rfl, Below.refl _ _, by show _ = _; simp⟩
    case round =>
      obtain ⟨j, hj, rfl, rfl, hbel, htake⟩ := hrel
      have q1 : wr.cell? ⟨w.heap.size, 3, none⟩ = some (.slice AL N cl) := (hbel.out.cell (p := ⟨w.heap.size, 3, none⟩) (by simp)).trans F1.out
      have q2 : wr.cell? ⟨w.heap.size + 1, 3, none⟩ = some (.slice AL' N cl') := (hbel.out.cell (p := ⟨w.heap.size + 1, 3, none⟩) (by simp)).trans F2.out
      have hsz : w.heap.size + 2 ≤ wr.heap.size := by have := hbel.out.size; have := FZ.out; omega
      have hs' : Below w.heap.size w wr := HB0.out.trans (hbel.out.mono (by omega))
      have HS := Lib.hid hs'
      by_cases hlt : j < N
      · obtain ⟨b, o, rfl, hb, hs⟩ := H7.out (by omega)
        obtain ⟨b', o', rfl, hb', hs2⟩ := H7'.out (by omega)
        have hjl : j < l.length := by rw [HL.out]; exact hlt
        have hjl' : j < l'.length := by rw [HL'.out]; exact hlt
        obtain ⟨c0, c1, c2, c3, g0, g1, g2, g3, gx⟩ := hs.get j hjl
        obtain ⟨x0, x1, x2, x3, p0, p1, p2, p3, px⟩ := hs2.get j hjl'
        have hB := HBW.out
        have e0 : wr.cell? ⟨b, o + j * 4, none⟩ = some c0 := (hs'.cell (p := ⟨b, o + j * 4, none⟩) (by show b < _; omega)).trans g0
        have e1 : wr.cell? ⟨b, o + j * 4 + 1, none⟩ = some c1 := (hs'.cell (p := ⟨b, o + j * 4 + 1, none⟩) (by show b < _; omega)).trans g1
        have e2 : wr.cell? ⟨b, o + j * 4 + 2, none⟩ = some c2 := (hs'.cell (p := ⟨b, o + j * 4 + 2, none⟩) (by show b < _; omega)).trans g2
        have e3 : wr.cell? ⟨b, o + j * 4 + 3, none⟩ = some c3 := (hs'.cell (p := ⟨b, o + j * 4 + 3, none⟩) (by show b < _; omega)).trans g3
        have r0 : wr.cell? ⟨b', o' + j * 4, none⟩ = some x0 := (hs'.cell (p := ⟨b', o' + j * 4, none⟩) (by show b' < _; omega)).trans p0
        have r1 : wr.cell? ⟨b', o' + j * 4 + 1, none⟩ = some x1 := (hs'.cell (p := ⟨b', o' + j * 4 + 1, none⟩) (by show b' < _; omega)).trans p1
        have r2 : wr.cell? ⟨b', o' + j * 4 + 2, none⟩ = some x2 := (hs'.cell (p := ⟨b', o' + j * 4 + 2, none⟩) (by show b' < _; omega)).trans p2
        have r3 : wr.cell? ⟨b', o' + j * 4 + 3, none⟩ = some x3 := (hs'.cell (p := ⟨b', o' + j * 4 + 3, none⟩) (by show b' < _; omega)).trans p3
        have hpg : par (l'[j]'hjl') ≤ pars l' := par_get _
        have hmm := HM.out
        have C1 := Lib.hid (IH.out (l[j]'hjl) (l'[j]'hjl') _ _ wr.drew B (by omega) (by show B ≤ wr.heap.size; omega) ((gx.below (hs'.mono hB)).below Below.drew_) ((px.below (hs'.mono hB)).below Below.drew_))
        have HE1 : Hid (l[j]'hjl = l'[j]'hjl' → l.take (j + 1) = l'.take (j + 1)) := fun he => by rw [List.take_succ_eq_append_getElem hjl, List.take_succ_eq_append_getElem hjl', htake.out, he]
        have HE2 : Hid (l[j]'hjl ≠ l'[j]'hjl' → l ≠ l') := fun he h => he (by subst h; rfl)
        generalize l[j]'hjl = xj at *
        generalize l'[j]'hjl' = yj at *
        clear g0 g1 g2 g3 gx hs hs' p0 p1 p2 p3 px hs2 hpg hmm hjl hjl'
        have i0 : (0 : Int) ≤ (j : Int) := by omega
        have i1 : (j : Int) < (N : Int) := by omega
        have i2 : (N : Int) ≤ 140737488355328 := by have := HL5.out; omega
        have HHB := Lib.hid hB
        have HZ := Lib.hid hsz
        have HBb := Lib.hid hb
        have HBb' := Lib.hid hb'
        clear hB hsz hb hb'
        go_wp2_with fail
        go_region_held3 (fun W => W.cell? ⟨w.heap.size, 3, none⟩ = some (.slice (some ⟨b, o, none⟩) N cl) ∧ W.cell? ⟨w.heap.size + 1, 3, none⟩ = some (.slice (some ⟨b', o', none⟩) N cl') ∧
            W.cell? ⟨b, o + j * 4, none⟩ = some c0 ∧ W.cell? ⟨b, o + j * 4 + 1, none⟩ = some c1 ∧ W.cell? ⟨b, o + j * 4 + 2, none⟩ = some c2 ∧ W.cell? ⟨b, o + j * 4 + 3, none⟩ = some c3 ∧
            W.cell? ⟨b', o' + j * 4, none⟩ = some x0 ∧ W.cell? ⟨b', o' + j * 4 + 1, none⟩ = some x1 ∧ W.cell? ⟨b', o' + j * 4 + 2, none⟩ = some x2 ∧ W.cell? ⟨b', o' + j * 4 + 3, none⟩ = some x3)
          (first | (exact ⟨q1, q2, e0, e1, e2, e3, r0, r1, r2, r3⟩) | (exact ⟨(HB1.out.cell (p := ⟨w.heap.size, 3, none⟩) (by have := HZ.out; show w.heap.size < _; omega)).trans q1, (HB1.out.cell (p := ⟨w.heap.size + 1, 3, none⟩) (by have := HZ.out; show w.heap.size + 1 < _; omega)).trans q2,
              (HB1.out.cell (p := ⟨b, o + j * 4, none⟩) HLb.out).trans e0, (HB1.out.cell (p := ⟨b, o + j * 4 + 1, none⟩) HLb.out).trans e1, (HB1.out.cell (p := ⟨b, o + j * 4 + 2, none⟩) HLb.out).trans e2, (HB1.out.cell (p := ⟨b, o + j * 4 + 3, none⟩) HLb.out).trans e3,
              (HB1.out.cell (p := ⟨b', o' + j * 4, none⟩) HLb'.out).trans r0, (HB1.out.cell (p := ⟨b', o' + j * 4 + 1, none⟩) HLb'.out).trans r1, (HB1.out.cell (p := ⟨b', o' + j * 4 + 2, none⟩) HLb'.out).trans r2, (HB1.out.cell (p := ⟨b', o' + j * 4 + 3, none⟩) HLb'.out).trans r3⟩) | fail)
          (first
            | (go_at_call 14; refine C1.out.mono ?_; rintro e w1 ⟨rr, rfl, hrr, hb1⟩; have HRR := Lib.hid hrr; have HB1 := Lib.hid (((Below.refl wr.heap.size wr).drew).trans hb1); have HLb : Hid (b < wr.heap.size) := Nat.lt_of_lt_of_le HBb.out (Nat.le_trans HHB.out (Nat.le_trans (Nat.le_add_right _ 2) HZ.out)); have HLb' : Hid (b' < wr.heap.size) := Nat.lt_of_lt_of_le HBb'.out (Nat.le_trans HHB.out (Nat.le_trans (Nat.le_add_right _ 2) HZ.out)); clear hb1 hrr)
            | fail)
        cases rr with
        | true =>
          have HEQ : Hid (l.take (j + 1) = l'.take (j + 1)) := HE1.out (HRR.out.1 rfl)
          go_wp2_with fail
          go_roundw
          case rel => exact ⟨j + 1, by omega, rfl, by go_num, hbel.out.trans (HB1.out.mono HZ.out), HEQ.out⟩
          case measure => simp [intOf]; omega
        | false =>
          have HNE : Hid (l ≠ l') := HE2.out (fun h => by have := HRR.out.2 h; cases this)
          go_wp2_with fail
          go_ret
          exact HT.out _ _ (by simp; exact HNE.out) (HS.out.trans (HB1.out.mono HS.out.size))
      · obtain rfl : j = N := by omega
        have HEQ : Hid (l = l') := by
          have h := htake.out
          rw [List.take_of_length_le (Nat.le_of_eq HL.out), List.take_of_length_le (Nat.le_of_eq HL'.out)] at h
          exact h
        clear hs'
        have hjj : decide ((j : Int) < (j : Int)) = false := by simp
        go_wp2_with fail
        go_ret
        exact HT.out _ _ (by simp; exact HEQ.out) HS.out
end Go.Proofs.YtbdjkihgcmebgaaGreatDoor
