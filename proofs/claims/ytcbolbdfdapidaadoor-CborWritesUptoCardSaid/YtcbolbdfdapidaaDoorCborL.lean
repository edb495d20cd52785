/- Which items the statements of layer 3 ask about: levels, count, small. -/
import Derived.Test.YtcbolbdfdapidaaDoorCborE
namespace Go.Proofs.YtcbolbdfdapidaaDoor
open Go.RowKit

theorem hgts_app : ∀ (a b : List Itm), hgts (a ++ b) = max (hgts a) (hgts b)
  | [], b => by rw [hgts]; simp
  | x :: r, b => by rw [List.cons_append, hgts, hgts, hgts_app r b]; omega
theorem hgts_take (l : List Itm) (j : Nat) (h : j < l.length) : hgts (l.take (j + 1)) = max (hgts (l.take j)) (hgt (l[j]'h)) := by
  rw [List.take_succ_eq_append_getElem h, hgts_app, hgts, hgts]
  omega

set_option maxRecDepth 100000 in
set_option maxHeartbeats 2000000 in
theorem levels_n : ∀ (M : Nat) (x : Itm) (v : Value) (w : World) (B : Nat), M ≤ 1000 → B ≤ w.heap.size → RdI w B v x →
    Calls Tryd.prog 25 #[v, .int .i64 (M : Int)] w fun e w' => e = .returned (.int .i64 ((min (hgt x) M : Nat) : Int)) ∧ Below w.heap.size w w'
  | 0, x, v, w, B, _, _, h => by
    obtain ⟨k, n, d, l⟩ := x
    obtain ⟨A, nd, cd, AL, cl, rfl, h1, h2, h3, h4, h5, h7⟩ := h.open
    clear h1 h4 h7 h
    rw [Nat.min_zero]
    go_enter Tryd.func25, Tryd.ntmps25
    go_wp2_with fail
    go_ret
    exact ⟨rfl, (Below.refl _ _).alloc (Nat.le_refl _) _⟩
  | M + 1, .mk k n d l, v, w, B, hM, hB, h => by
    obtain ⟨A, nd, cd, AL, cl, rfl, h1, h2, h3, h4, h5, h7⟩ := h.open
    have IH := Lib.hid (levels_n M)
    have H7 := Lib.hid h7
    clear h1 h7 h4 h
    generalize hL : l.length = N at *
    have HL := Lib.hid hL
    clear hL
    obtain ⟨DP, hDP⟩ : ∃ q, q = min (hgt (.mk k n d l)) (M + 1) := ⟨_, rfl⟩
    rw [← hDP]
    have HDP := Lib.hid hDP
    clear hDP
    obtain ⟨Y, hY⟩ : ∃ Y : Int, Y = ((M + 1 : Nat) : Int) := ⟨_, rfl⟩
    rw [← hY]
    have hy1 : 1 ≤ Y := by omega
    have hy2 : Y ≤ 1000 := by omega
    have hyb : (Y == 0) = false := by simp; omega
    have hye : Y - 1 = (M : Int) := by omega
    have HYE := Lib.hid hye
    clear hY hye
    go_enter Tryd.func25, Tryd.ntmps25
    go_wp2_with fail
    go_loopw [5, 6] (fun v i wr => ∃ j : Nat, j ≤ N ∧ i = .int .i64 j ∧ v = .int .i64 ((min (hgts (l.take j)) M : Nat) : Int) ∧ Hid (Below (w.heap.size + 1) (w.alloc (.cells #[Value.int IntKind.i64 k, Value.int IntKind.u64 ↑n, Value.slice A nd cd, Value.slice AL N cl] 27)) wr))
      (fun _ i _ => N - (intOf i).toNat)
    case atStart => exact ⟨0, Nat.zero_le _, rfl, by rw [List.take_zero, hgts, Nat.zero_min]; rfl, Below.refl _ _⟩
    case round =>
      obtain ⟨j, hj, rfl, rfl, hbel⟩ := hrel
      obtain ⟨q0, q1, q2, q3⟩ := box_cells hbel.out
      have hmm : min (hgts (l.take j)) M ≤ M := Nat.min_le_right _ _
      by_cases hlt : j < N
      · obtain ⟨b, o, rfl, hb, hs⟩ := H7.out (by omega)
        obtain ⟨c0, c1, c2, c3, g0, g1, g2, g3, gx⟩ := hs.get j (by rw [HL.out]; exact hlt)
        have hs' : Below w.heap.size w wr := ((Below.refl _ _).alloc (Nat.le_refl _) _).trans (hbel.out.mono (by omega))
        have hsz : w.heap.size + 1 ≤ wr.heap.size := by have := hbel.out.size; simpa using this
        have e0 : wr.cell? ⟨b, o + j * 4, none⟩ = some c0 := (hs'.cell (p := ⟨b, o + j * 4, none⟩) (by show b < _; omega)).trans g0
        have e1 : wr.cell? ⟨b, o + j * 4 + 1, none⟩ = some c1 := (hs'.cell (p := ⟨b, o + j * 4 + 1, none⟩) (by show b < _; omega)).trans g1
        have e2 : wr.cell? ⟨b, o + j * 4 + 2, none⟩ = some c2 := (hs'.cell (p := ⟨b, o + j * 4 + 2, none⟩) (by show b < _; omega)).trans g2
        have e3 : wr.cell? ⟨b, o + j * 4 + 3, none⟩ = some c3 := (hs'.cell (p := ⟨b, o + j * 4 + 3, none⟩) (by show b < _; omega)).trans g3
        have hjl : j < l.length := by rw [HL.out]; exact hlt
        have c1' := IH.out (l[j]'hjl) _ wr B (by omega) (by omega) (gx.below (hs'.mono hB))
        rw [← HYE.out] at c1'
        have C1 := Lib.hid c1'
        have HT := Lib.hid (hgts_take l j hjl)
        generalize hgt (l[j]'hjl) = HG at *
        clear g0 g1 g2 g3 gx hs hs' c1'
        go_wp2_with fail
        refine C1.out.mono ?_
        rintro e w1 ⟨rfl, hb1⟩
        have HB1 := Lib.hid hb1
        clear hb1 q0 q1 q2 q3 e0 e1 e2 e3
        go_wp2_with fail
        go_roundw
        case rel =>
          refine ⟨j + 1, by omega, by go_num, ?_, hbel.out.trans (HB1.out.mono (by omega))⟩
          rw [HT.out]
          congr 1
          omega
        case measure => simp [intOf]; omega
      · obtain rfl : j = N := by omega
        have HS := Lib.hid (((Below.refl w.heap.size w).alloc (Nat.le_refl _) _).trans (hbel.out.mono (by omega)))
        have hdl : l.take j = l := by rw [List.take_of_length_le (by rw [HL.out]; exact Nat.le_refl _)]
        have hDP := HDP.out
        rw [hgt] at hDP
        rw [hdl] at hmm ⊢
        have hfin : ((min (hgts l) M : Nat) : Int) + 1 = (DP : Int) := by omega
        have HF := Lib.hid hfin
        generalize min (hgts l) M = Q at *
        clear hdl hDP hfin
        go_wp2_with fail
        go_ret
        exact ⟨by rw [HF.out]; rfl, HS.out⟩

set_option maxRecDepth 100000 in
set_option maxHeartbeats 2000000 in
theorem count_n : ∀ (m M : Nat) (x : Itm) (v : Value) (w : World) (B : Nat), M < m → 1 ≤ M → M ≤ 10000 → B ≤ w.heap.size → RdI w B v x →
    Calls Tryd.prog 26 #[v, .int .i64 (M : Int)] w fun e w' => e = .returned (.int .i64 ((min (par x) M : Nat) : Int)) ∧ Below w.heap.size w w'
  | 0, _, _, _, _, _, h, _, _, _, _ => absurd h (Nat.not_lt_zero _)
  | m + 1, M, .mk k n d l, v, w, B, hm, hM1, hM, hB, h => by
    obtain ⟨A, nd, cd, AL, cl, rfl, h1, h2, h3, h4, h5, h7⟩ := h.open
    have IH := Lib.hid (count_n m)
    have H7 := Lib.hid h7
    clear h1 h7 h4 h
    generalize hL : l.length = N at *
    have HL := Lib.hid hL
    clear hL
    obtain ⟨DP, hDP⟩ : ∃ q, q = min (par (.mk k n d l)) M := ⟨_, rfl⟩
    rw [← hDP]
    have HDP := Lib.hid hDP
    clear hDP
    go_enter Tryd.func26, Tryd.ntmps26
    go_wp2_with fail
    go_loopw [5, 6] (fun v i wr => ∃ (j q : Nat), j ≤ N ∧ i = .int .i64 j ∧ v = .int .i64 (q : Int) ∧ 1 ≤ q ∧ q ≤ M ∧ Hid (q = min (1 + pars (l.take j)) M) ∧ Hid (Below (w.heap.size + 1) (w.alloc (.cells #[Value.int IntKind.i64 k, Value.int IntKind.u64 ↑n, Value.slice A nd cd, Value.slice AL N cl] 27)) wr))
      (fun _ i _ => N - (intOf i).toNat)
    case atStart => exact ⟨0, 1, Nat.zero_le _, rfl, rfl, Nat.le_refl _, hM1, by show _ = _; rw [List.take_zero, pars]; omega, Below.refl _ _⟩
    case round =>
      obtain ⟨j, q, hj, rfl, rfl, hq1, hqM, hq, hbel⟩ := hrel
      obtain ⟨q0, q1, q2, q3⟩ := box_cells hbel.out
      by_cases hlt : j < N ∧ q < M
      · obtain ⟨hlt, hlq⟩ := hlt
        have hlq' : decide (q < M) = true := decide_eq_true hlq
        obtain ⟨b, o, rfl, hb, hs⟩ := H7.out (by omega)
        obtain ⟨c0, c1, c2, c3, g0, g1, g2, g3, gx⟩ := hs.get j (by rw [HL.out]; exact hlt)
        have hs' : Below w.heap.size w wr := ((Below.refl _ _).alloc (Nat.le_refl _) _).trans (hbel.out.mono (by omega))
        have hsz : w.heap.size + 1 ≤ wr.heap.size := by have := hbel.out.size; simpa using this
        have e0 : wr.cell? ⟨b, o + j * 4, none⟩ = some c0 := (hs'.cell (p := ⟨b, o + j * 4, none⟩) (by show b < _; omega)).trans g0
        have e1 : wr.cell? ⟨b, o + j * 4 + 1, none⟩ = some c1 := (hs'.cell (p := ⟨b, o + j * 4 + 1, none⟩) (by show b < _; omega)).trans g1
        have e2 : wr.cell? ⟨b, o + j * 4 + 2, none⟩ = some c2 := (hs'.cell (p := ⟨b, o + j * 4 + 2, none⟩) (by show b < _; omega)).trans g2
        have e3 : wr.cell? ⟨b, o + j * 4 + 3, none⟩ = some c3 := (hs'.cell (p := ⟨b, o + j * 4 + 3, none⟩) (by show b < _; omega)).trans g3
        have hjl : j < l.length := by rw [HL.out]; exact hlt
        have c1' := IH.out (M - q) (l[j]'hjl) _ wr B (by omega) (by omega) (by omega) (by omega) (gx.below (hs'.mono hB))
        rw [show ((M - q : Nat) : Int) = (M : Int) - (q : Int) by omega] at c1'
        have C1 := Lib.hid c1'
        have HT := Lib.hid (pars_take l j hjl)
        generalize par (l[j]'hjl) = HG at *
        have hmn : min HG (M - q) ≤ M - q := Nat.min_le_right _ _
        obtain ⟨G, hG⟩ : ∃ G, G = min HG (M - q) := ⟨_, rfl⟩
        rw [← hG] at C1 hmn
        have HGG := Lib.hid hG
        clear g0 g1 g2 g3 gx hs hs' c1' hG
        go_wp2_with fail
        refine C1.out.mono ?_
        rintro e w1 ⟨rfl, hb1⟩
        have HB1 := Lib.hid hb1
        clear hb1 q0 q1 q2 q3 e0 e1 e2 e3
        go_wp2_with fail
        go_roundw
        case rel =>
          refine ⟨j + 1, q + G, by omega, by go_num, by go_num, by omega, by omega, ?_, hbel.out.trans (HB1.out.mono (by omega))⟩
          show _ = _
          rw [HT.out]
          have h1 := hq.out
          have h2 := HGG.out
          omega
        case measure => simp [intOf]; omega
      · have HS := Lib.hid (((Below.refl w.heap.size w).alloc (Nat.le_refl _) _).trans (hbel.out.mono (by omega)))
        have hDP := HDP.out
        rw [par] at hDP
        have h1 := hq.out
        have htl := pars_le l j
        have hfin : q = DP := by
          by_cases hjN : j = N
          · rw [List.take_of_length_le (by rw [HL.out]; omega)] at h1
            omega
          · omega
        subst hfin
        clear h1 hDP htl
        by_cases hjN : j < N
        · have hlq' : decide (q < M) = false := decide_eq_false (by omega)
          go_wp2_with fail
          go_ret
          exact ⟨rfl, HS.out⟩
        · go_wp2_with fail
          go_ret
          exact ⟨rfl, HS.out⟩

/-- Is it one of the items that the statements ask about? -/
def Small (x : Itm) : Prop := hgt x < 30 ∧ par x ≤ 5000
set_option maxRecDepth 100000 in
set_option maxHeartbeats 2000000 in
theorem small_any (x : Itm) (v : Value) (w : World) (B : Nat) (hB : B ≤ w.heap.size) (h : RdI w B v x) (ok : Bool) (hok : ok = true ↔ Small x) :
    Calls Tryd.prog 8 #[v] w fun e w' => e = .returned (.bool ok) ∧ Below w.heap.size w w' := by
  obtain ⟨k, n, d, l⟩ := x
  have HX := Lib.hid h
  obtain ⟨A, nd, cd, AL, cl, rfl, h1, h2, h3, h4, h5, h7⟩ := h.open
  generalize hX : Itm.mk k n d l = x at *
  clear hX
  have C1 := Lib.hid (fun W (hb : Below w.heap.size w W) => levels_n 40 x _ W B (by decide) (Nat.le_trans hB hb.size) (HX.out.below (hb.mono hB)))
  have C2 := Lib.hid (fun W (hb : Below w.heap.size w W) => count_n 5002 5001 x _ W B (by decide) (by decide) (by decide) (Nat.le_trans hB hb.size) (HX.out.below (hb.mono hB)))
  have B0 := Lib.hid ((Below.refl w.heap.size w).alloc (Nat.le_refl _) (.cells #[.int .i64 k, .int .u64 (n : Int), .slice A nd cd, .slice AL l.length cl] 27))
  unfold Small at hok
  generalize l.length = N at *
  have ha : min (hgt x) 40 < 30 ↔ hgt x < 30 := by omega
  have hb : min (par x) 5001 ≤ 5000 ↔ par x ≤ 5000 := by omega
  rw [← ha, ← hb] at hok
  have hb1 : min (par x) 5001 ≤ 5001 := Nat.min_le_right _ _
  have ha1 : min (hgt x) 40 ≤ 40 := Nat.min_le_right _ _
  generalize min (hgt x) 40 = H at *
  generalize min (par x) 5001 = Q at *
  clear h1 h4 h7 h ha hb
  by_cases hh : H < 30
  · by_cases hq : Q ≤ 5000
    · obtain rfl : ok = true := hok.2 ⟨hh, hq⟩
      clear hok
      have hh' : decide (H < 30) = true := decide_eq_true hh
      have hq' : decide ((Q : Int) ≤ 5000) = true := decide_eq_true (by omega)
      have hhi : decide ((H : Int) < 30) = true := decide_eq_true (by omega)
      go_enter Tryd.func8, Tryd.ntmps8
      go_wp2_with fail
      refine (C1.out _ B0.out).mono ?_
      rintro e w1 ⟨rfl, hb1⟩
      have HB1 := Lib.hid (B0.out.trans (hb1.mono B0.out.size))
      have HC1 := Lib.hid (to_box hb1)
      obtain ⟨q0, q1, q2, q3⟩ := box_cells HC1.out
      clear hb1
      go_wp2_with fail
      refine (C2.out _ HB1.out).mono ?_
      rintro e w2 ⟨rfl, hb2⟩
      have HB2 := Lib.hid (HB1.out.trans (hb2.mono HB1.out.size))
      clear hb2
      go_wp2_with fail
      go_ret
      exact ⟨rfl, HB2.out⟩
    · obtain rfl : ok = false := by
        rcases ok with _ | _
        · rfl
        · exact absurd (hok.1 rfl).2 hq
      clear hok
      have hh' : decide (H < 30) = true := decide_eq_true hh
      have hq' : decide ((Q : Int) ≤ 5000) = false := decide_eq_false (by omega)
      have hhi : decide ((H : Int) < 30) = true := decide_eq_true (by omega)
      go_enter Tryd.func8, Tryd.ntmps8
      go_wp2_with fail
      refine (C1.out _ B0.out).mono ?_
      rintro e w1 ⟨rfl, hb1⟩
      have HB1 := Lib.hid (B0.out.trans (hb1.mono B0.out.size))
      have HC1 := Lib.hid (to_box hb1)
      obtain ⟨q0, q1, q2, q3⟩ := box_cells HC1.out
      clear hb1
      go_wp2_with fail
      refine (C2.out _ HB1.out).mono ?_
      rintro e w2 ⟨rfl, hb2⟩
      have HB2 := Lib.hid (HB1.out.trans (hb2.mono HB1.out.size))
      clear hb2
      go_wp2_with fail
      go_ret
      exact ⟨rfl, HB2.out⟩
  · obtain rfl : ok = false := by
        rcases ok with _ | _
        · rfl
        · exact absurd (hok.1 rfl).1 hh
    clear hok
    have hh' : decide (H < 30) = false := decide_eq_false hh
    have hhi : decide ((H : Int) < 30) = false := decide_eq_false (by omega)
    go_enter Tryd.func8, Tryd.ntmps8
    go_wp2_with fail
    refine (C1.out _ B0.out).mono ?_
    rintro e w1 ⟨rfl, hb1⟩
    have HB1 := Lib.hid (B0.out.trans (hb1.mono B0.out.size))
    clear hb1
    go_wp2_with fail
    go_ret
    exact ⟨rfl, HB1.out⟩
end Go.Proofs.YtcbolbdfdapidaaDoor
