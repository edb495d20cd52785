/- What the reference of layer 3 returns: depth, parts, plain, size. -/
import Derived.Test.YtbdjkihgcmebgaaGreatDoorRCborI
import Derived.Test.YtbdjkihgcmebgaaGreatDoorRCborQ
import Derived.Test.YtbdjkihgcmebgaaGreatDoorRSame
import Derived.BigCall
namespace Go.Proofs.YtbdjkihgcmebgaaGreatDoor
open Go.RowKit

set_option maxRecDepth 100000 in
set_option maxHeartbeats 1000000 in
theorem rdepth_n : ∀ (m : Nat) (x : Itm) (v : Value) (w : World) (B : Nat), par x < m → par x ≤ 1000000 → B ≤ w.heap.size → RdI w B v x →
    Calls Tryz.prog 67 #[v] w fun e w' => e = .returned (.int .i64 (dep x : Int)) ∧ Below w.heap.size w w'
  | 0, _, _, _, _, h, _, _, _ => absurd h (Nat.not_lt_zero _)
  | m + 1, .mk k n d l, v, w, B, hm, hp, hB, h => by
    obtain ⟨A, nd, cd, AL, cl, rfl, h1, h2, h3, h4, h5, h7⟩ := h.open
    have IH := Lib.hid (rdepth_n m)
    have H7 := Lib.hid h7
    have H4 := Lib.hid h4
    clear h1 h7 h4 h
    generalize hL : l.length = N at *
    have HL := Lib.hid hL
    clear hL
    obtain ⟨DP, hDP⟩ : ∃ q, q = dep (.mk k n d l) := ⟨_, rfl⟩
    rw [← hDP]
    have HDP := Lib.hid hDP
    clear hDP
    go_enter Tryz.func67, Tryz.ntmps67
    go_wp2_with fail
    go_loopw [3, 4] (fun v i wr => ∃ j : Nat, j ≤ N ∧ i = .int .i64 j ∧ v = .int .i64 (deps (l.take j) : Int) ∧ Hid (Below (w.heap.size + 1) (w.alloc (.cells #[Value.int IntKind.i64 k, Value.int IntKind.u64 ↑n, Value.slice A nd cd, Value.slice AL N cl] 42)) wr))
      (fun _ i _ => N - (intOf i).toNat)
    case atStart => exact ⟨0, Nat.zero_le _, rfl, rfl, Below.refl _ _⟩
    case round =>
      obtain ⟨j, hj, rfl, rfl, hbel⟩ := hrel
      have hb0 : wr.cell? ⟨w.heap.size, 0, none⟩ = some (.int .i64 k) := (hbel.out.cell (p := ⟨w.heap.size, 0, none⟩) (by simp)).trans (by simp)
      have hb3 : wr.cell? ⟨w.heap.size, 3, none⟩ = some (.slice AL N cl) := (hbel.out.cell (p := ⟨w.heap.size, 3, none⟩) (by simp)).trans (by simp)
      by_cases hlt : j < N
      · obtain ⟨b, o, rfl, hb, hs⟩ := H7.out (by omega)
        obtain ⟨c0, c1, c2, c3, g0, g1, g2, g3, gx⟩ := hs.get j (by rw [HL.out]; exact hlt)
        have hs' : Below w.heap.size w wr := ((Below.refl _ _).alloc (Nat.le_refl _) _).trans (hbel.out.mono (by omega))
        have hsz : w.heap.size + 1 ≤ wr.heap.size := by have := hbel.out.size; simpa using this
        have e0 : wr.cell? ⟨b, o + j * 4, none⟩ = some c0 := (hs'.cell (p := ⟨b, o + j * 4, none⟩) (by show b < _; omega)).trans g0
        have e1 : wr.cell? ⟨b, o + j * 4 + 1, none⟩ = some c1 := (hs'.cell (p := ⟨b, o + j * 4 + 1, none⟩) (by show b < _; omega)).trans g1
        have e2 : wr.cell? ⟨b, o + j * 4 + 2, none⟩ = some c2 := (hs'.cell (p := ⟨b, o + j * 4 + 2, none⟩) (by show b < _; omega)).trans g2
        have e3 : wr.cell? ⟨b, o + j * 4 + 3, none⟩ = some c3 := (hs'.cell (p := ⟨b, o + j * 4 + 3, none⟩) (by show b < _; omega)).trans g3
        have GX := Lib.hid gx
        have HS := Lib.hid hs'
        have hpg : par (l[j]'(by rw [HL.out]; exact hlt)) ≤ pars l := par_get _
        rw [par] at hm hp
        have C1 := Lib.hid (IH.out (l[j]'(by rw [HL.out]; exact hlt)) _ wr B (by omega) (by omega) (by omega) (gx.below (hs'.mono hB)))
        clear g0 g1 g2 g3 gx hs hs'
        go_wp2_with fail
        refine C1.out.mono ?_
        rintro e w1 ⟨rfl, hb1⟩
        have HB1 := Lib.hid hb1
        clear hb1 hb0 hb3 e0 e1 e2 e3
        go_wp2_with fail
        go_roundw
        case rel =>
          refine ⟨j + 1, by omega, by go_num, ?_, hbel.out.trans (HB1.out.mono (by omega))⟩
          rw [deps_take l j (by rw [HL.out]; exact hlt)]
          congr 1
          omega
        case measure => simp [intOf]; omega
      · obtain rfl : j = N := by omega
        have HS := Lib.hid (((Below.refl w.heap.size w).alloc (Nat.le_refl _) _).trans (hbel.out.mono (by omega)))
        have hdl : deps (l.take j) = deps l := by rw [List.take_of_length_le (by rw [HL.out]; exact Nat.le_refl _)]
        have hdp := deps_le l
        rw [par] at hp
        have hDP := HDP.out
        rw [dep] at hDP
        rw [hdl]
        generalize deps l = D at *
        clear hdl
        by_cases hk : k = 4 ∨ k = 5
        · rw [if_pos hk] at hDP
          have HD2 := Lib.hid hDP
          clear hDP
          rcases hk with rfl | rfl
          · go_wp2_with fail
            go_ret
            exact ⟨by rw [HD2.out]; rfl, HS.out⟩
          · go_wp2_with fail
            go_ret
            exact ⟨by rw [HD2.out]; rfl, HS.out⟩
        · rw [if_neg hk] at hDP
          have HD2 := Lib.hid hDP
          clear hDP
          have k4 : (k == 4) = false := by simp; omega
          have k5 : (k == 5) = false := by simp; omega
          clear hk
          go_wp2_with fail
          go_ret
          exact ⟨by rw [HD2.out]; rfl, HS.out⟩
set_option maxRecDepth 100000 in
set_option maxHeartbeats 1000000 in
theorem rparts_n : ∀ (m : Nat) (x : Itm) (v : Value) (w : World) (B : Nat), par x < m → par x ≤ 1000000 → B ≤ w.heap.size → RdI w B v x →
    Calls Tryz.prog 68 #[v] w fun e w' => e = .returned (.int .i64 (par x : Int)) ∧ Below w.heap.size w w'
  | 0, _, _, _, _, h, _, _, _ => absurd h (Nat.not_lt_zero _)
  | m + 1, .mk k n d l, v, w, B, hm, hp, hB, h => by
    obtain ⟨A, nd, cd, AL, cl, rfl, h1, h2, h3, h4, h5, h7⟩ := h.open
    have IH := Lib.hid (rparts_n m)
    have H7 := Lib.hid h7
    have H4 := Lib.hid h4
    clear h1 h7 h4 h
    generalize hL : l.length = N at *
    have HL := Lib.hid hL
    clear hL
    obtain ⟨DP, hDP⟩ : ∃ q, q = par (.mk k n d l) := ⟨_, rfl⟩
    rw [← hDP]
    have HDP := Lib.hid hDP
    clear hDP
    go_enter Tryz.func68, Tryz.ntmps68
    go_wp2_with fail
    go_loopw [3, 4] (fun v i wr => ∃ j : Nat, j ≤ N ∧ i = .int .i64 j ∧ v = .int .i64 ((1 + pars (l.take j) : Nat) : Int) ∧ Hid (Below (w.heap.size + 1) (w.alloc (.cells #[Value.int IntKind.i64 k, Value.int IntKind.u64 ↑n, Value.slice A nd cd, Value.slice AL N cl] 42)) wr))
      (fun _ i _ => N - (intOf i).toNat)
    case atStart => exact ⟨0, Nat.zero_le _, rfl, rfl, Below.refl _ _⟩
    case round =>
      obtain ⟨j, hj, rfl, rfl, hbel⟩ := hrel
      have hb0 : wr.cell? ⟨w.heap.size, 0, none⟩ = some (.int .i64 k) := (hbel.out.cell (p := ⟨w.heap.size, 0, none⟩) (by simp)).trans (by simp)
      have hb3 : wr.cell? ⟨w.heap.size, 3, none⟩ = some (.slice AL N cl) := (hbel.out.cell (p := ⟨w.heap.size, 3, none⟩) (by simp)).trans (by simp)
      by_cases hlt : j < N
      · obtain ⟨b, o, rfl, hb, hs⟩ := H7.out (by omega)
        obtain ⟨c0, c1, c2, c3, g0, g1, g2, g3, gx⟩ := hs.get j (by rw [HL.out]; exact hlt)
        have hpt : pars (l.take j) ≤ pars l := pars_le l j
        have hs' : Below w.heap.size w wr := ((Below.refl _ _).alloc (Nat.le_refl _) _).trans (hbel.out.mono (by omega))
        have hsz : w.heap.size + 1 ≤ wr.heap.size := by have := hbel.out.size; simpa using this
        have e0 : wr.cell? ⟨b, o + j * 4, none⟩ = some c0 := (hs'.cell (p := ⟨b, o + j * 4, none⟩) (by show b < _; omega)).trans g0
        have e1 : wr.cell? ⟨b, o + j * 4 + 1, none⟩ = some c1 := (hs'.cell (p := ⟨b, o + j * 4 + 1, none⟩) (by show b < _; omega)).trans g1
        have e2 : wr.cell? ⟨b, o + j * 4 + 2, none⟩ = some c2 := (hs'.cell (p := ⟨b, o + j * 4 + 2, none⟩) (by show b < _; omega)).trans g2
        have e3 : wr.cell? ⟨b, o + j * 4 + 3, none⟩ = some c3 := (hs'.cell (p := ⟨b, o + j * 4 + 3, none⟩) (by show b < _; omega)).trans g3
        have GX := Lib.hid gx
        have HS := Lib.hid hs'
        have hpg : par (l[j]'(by rw [HL.out]; exact hlt)) ≤ pars l := par_get _
        rw [par] at hm hp
        have C1 := Lib.hid (IH.out (l[j]'(by rw [HL.out]; exact hlt)) _ wr B (by omega) (by omega) (by omega) (gx.below (hs'.mono hB)))
        clear g0 g1 g2 g3 gx hs hs'
        go_wp2_with fail
        refine C1.out.mono ?_
        rintro e w1 ⟨rfl, hb1⟩
        have HB1 := Lib.hid hb1
        clear hb1 hb0 hb3 e0 e1 e2 e3
        go_wp2_with fail
        go_roundw
        case rel =>
          refine ⟨j + 1, by omega, by go_num, ?_, hbel.out.trans (HB1.out.mono (by omega))⟩
          rw [pars_take l j (by rw [HL.out]; exact hlt)]
          congr 1
          omega
        case measure => simp [intOf]; omega
      · obtain rfl : j = N := by omega
        have HS := Lib.hid (((Below.refl w.heap.size w).alloc (Nat.le_refl _) _).trans (hbel.out.mono (by omega)))
        have hdl : pars (l.take j) = pars l := by rw [List.take_of_length_le (by rw [HL.out]; exact Nat.le_refl _)]
        have hDP := HDP.out
        rw [par] at hDP
        rw [hdl, ← hDP]
        clear hdl hDP
        go_wp2_with fail
        go_ret
        exact ⟨rfl, HS.out⟩

set_option maxRecDepth 100000 in
set_option maxHeartbeats 1000000 in
theorem rplain_any (A : Option Addr) (n c B : Nat) (l : List UInt8) (w : World) (h : Rd w B A n l) (hn : n ≤ 140737488355328) :
    Calls Tryz.prog 65 #[.slice A n c] w fun e w' => e = .returned (.bool (plain l)) ∧ w = w' := by
  have HR := Lib.hid h
  clear h
  obtain ⟨PL, hPL⟩ : ∃ q, q = plain l := ⟨_, rfl⟩
  rw [← hPL]
  have HPL := Lib.hid hPL
  clear hPL
  go_enter Tryz.func65, Tryz.ntmps65
  go_wp2
  go_loop [3] (fun i => ∃ k : Nat, k ≤ n ∧ i = .int .i64 k ∧ Hid (plain (l.take k) = true)) (fun i => n - (intOf i).toNat)
  case atStart => exact ⟨0, Nat.zero_le _, rfl, rfl⟩
  case round =>
    obtain ⟨k, hk, rfl, hp⟩ := hrel
    by_cases hlt : k < n
    · obtain ⟨b, o, rfl, hb, hcell⟩ := HR.out.2 (by omega)
      obtain ⟨x, hx⟩ : ∃ x, x = l.getD k 0 := ⟨_, rfl⟩
      have hcx : w.cell? ⟨b, o + k, none⟩ = some (.int .u8 (x.toNat : Int)) := by rw [hx]; exact hcell k hlt
      have hs : plain (l.take (k + 1)) = (decide (32 ≤ x.toNat) && decide (x.toNat ≤ 126)) := by
        rw [take_more l k (by have := HR.out.1; omega), plain_snoc, hp.out, ← hx]; rfl
      have HS := Lib.hid hs
      clear hx hcell hs
      obtain ⟨X, hX⟩ : ∃ X, X = x.toNat := ⟨_, rfl⟩
      rw [← hX] at hcx
      have HX := Lib.hid hX
      clear hX
      by_cases h32 : 32 ≤ X ∧ X ≤ 126
      · obtain ⟨h1, h2⟩ := h32
        go_wp2_with fail
        go_round
        case rel => exact ⟨k + 1, by omega, by go_num, by show _ = true; rw [HS.out, ← HX.out]; simp; omega⟩
        case measure => simp [intOf]; omega
      · have hf : plain l = false := plain_take_f l (k + 1) (by rw [HS.out, ← HX.out]; simp; omega)
        rw [← HPL.out] at hf
        subst hf
        by_cases h1 : X < 32
        · go_wp2_with fail
          go_ret
          exact ⟨rfl, rfl⟩
        · have h2 : 126 < X := by omega
          clear h32
          go_wp2_with fail
          go_ret
          exact ⟨rfl, rfl⟩
    · obtain rfl : k = n := by omega
      have e : plain l = true := by
        have := hp.out
        rwa [List.take_of_length_le (by have := HR.out.1; omega)] at this
      rw [← HPL.out] at e
      subst e
      go_wp2
      go_ret
      exact ⟨rfl, rfl⟩

theorem hsz_i (X : Int) (h0 : 0 ≤ X) : ((hsz X.toNat : Nat) : Int) = (if X < 24 then 0 else if X < 256 then 1 else if X < 65536 then 2 else if X < 4294967296 then 4 else 8) ∧
    ((hlow X.toNat : Nat) : Int) = (if X < 24 then X else if X < 256 then 24 else if X < 65536 then 25 else if X < 4294967296 then 26 else 27) := by
  unfold hsz hlow
  constructor <;> (repeat' (split <;> try omega))
set_option maxRecDepth 100000 in
set_option maxHeartbeats 1000000 in
theorem rsize_i (X S L : Int) (w : World) (h0 : 0 ≤ X) (hn : X < 18446744073709551616)
    (hS : S = (if X < 24 then 0 else if X < 256 then 1 else if X < 65536 then 2 else if X < 4294967296 then 4 else 8)) (hL : L = (if X < 24 then X else if X < 256 then 24 else if X < 65536 then 25 else if X < 4294967296 then 26 else 27)) :
    Calls Tryz.prog 64 #[.int .u64 X] w fun e w' => e = .returned (.tuple #[.int .i64 S, .int .i64 L]) ∧ w = w' := by
  by_cases h1 : X < 24
  · rw [if_pos h1] at hS hL
    subst hS hL
    go_enter Tryz.func64, Tryz.ntmps64
    go_wp2
    go_ret2
    exact ⟨rfl, rfl⟩
  by_cases h2 : X < 256
  · rw [if_neg h1, if_pos h2] at hS hL
    subst hS hL
    go_enter Tryz.func64, Tryz.ntmps64
    go_wp2
    go_ret2
    exact ⟨rfl, rfl⟩
  by_cases h3 : X < 65536
  · rw [if_neg h1, if_neg h2, if_pos h3] at hS hL
    subst hS hL
    go_enter Tryz.func64, Tryz.ntmps64
    go_wp2
    go_ret2
    exact ⟨rfl, rfl⟩
  by_cases h4 : X < 4294967296
  · rw [if_neg h1, if_neg h2, if_neg h3, if_pos h4] at hS hL
    subst hS hL
    go_enter Tryz.func64, Tryz.ntmps64
    go_wp2
    go_ret2
    exact ⟨rfl, rfl⟩
  rw [if_neg h1, if_neg h2, if_neg h3, if_neg h4] at hS hL
  subst hS hL
  go_enter Tryz.func64, Tryz.ntmps64
  go_wp2
  go_ret2
  exact ⟨rfl, rfl⟩
theorem rsize_any (n : Nat) (w : World) (hn : n < 18446744073709551616) :
    Calls Tryz.prog 64 #[.int .u64 (n : Int)] w fun e w' => e = .returned (.tuple #[.int .i64 (hsz n : Int), .int .i64 (hlow n : Int)]) ∧ w = w' := by
  have h := hsz_i (n : Int) (by omega)
  rw [Int.toNat_natCast] at h
  exact rsize_i (n : Int) _ _ w (by omega) (by omega) h.1 h.2
end Go.Proofs.YtbdjkihgcmebgaaGreatDoor
