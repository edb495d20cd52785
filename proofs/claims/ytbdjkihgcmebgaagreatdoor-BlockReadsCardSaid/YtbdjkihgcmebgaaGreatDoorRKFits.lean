/- What plain, fits, isArray and numberOf of layer 3 return. -/
import Derived.Test.YtbdjkihgcmebgaaGreatDoorRAsW
import Derived.Test.YtbdjkihgcmebgaaGreatDoorRCborS
namespace Go.Proofs.YtbdjkihgcmebgaaGreatDoor
open Go.RowKit

set_option maxRecDepth 100000 in
set_option maxHeartbeats 1000000 in
theorem cplain_any (A : Option Addr) (n c B : Nat) (l : List UInt8) (w : World) (h : Rd w B A n l) (hn : n ≤ 140737488355328) :
    Calls Tryz.prog 88 #[.slice A n c] w fun e w' => e = .returned (.bool (plain l)) ∧ w = w' := by
  have HR := Lib.hid h
  clear h
  obtain ⟨PL, hPL⟩ : ∃ q, q = plain l := ⟨_, rfl⟩
  rw [← hPL]
  have HPL := Lib.hid hPL
  clear hPL
  go_enter Tryz.func88, Tryz.ntmps88
  go_wp2
  go_loop [7] (fun i => ∃ k : Nat, k ≤ n ∧ i = .int .i64 k ∧ Hid (plain (l.take k) = true)) (fun i => n - (intOf i).toNat)
  case atStart => exact ⟨0, Nat.zero_le _, rfl, rfl⟩
  case round =>
    obtain ⟨k, hk, rfl, hp⟩ := hrel
    by_cases hlt : k < n
    · obtain ⟨b, o, rfl, hb, hcell⟩ := HR.out.2 (by omega)
      obtain ⟨x, hx⟩ : ∃ x, x = l.getD k 0 := ⟨_, rfl⟩
      have hcx : w.cell? ⟨b, o + k, none⟩ = some (.int .u8 (x.toNat : Int)) := by rw [hx]; exact hcell k hlt
      have hs : plain (l.take (k + 1)) = (decide (32 ≤ x.toNat) && decide (x.toNat ≤ 126)) := by
        rw [take_more l k (by have := HR.out.1; omega), plain_snoc, hp.out, ← hx]; rfl
      have HS := Lib.hid hs
      clear hx hcell hs
      obtain ⟨X, hX⟩ : ∃ X, X = x.toNat := ⟨_, rfl⟩
      rw [← hX] at hcx
      have HX := Lib.hid hX
      clear hX
      by_cases h32 : 32 ≤ X ∧ X ≤ 126
      · obtain ⟨h1, h2⟩ := h32
        go_wp2_with fail
        go_round
        case rel => exact ⟨k + 1, by omega, by go_num, by show _ = true; rw [HS.out, ← HX.out]; simp; omega⟩
        case measure => simp [intOf]; omega
      · have hf : plain l = false := plain_take_f l (k + 1) (by rw [HS.out, ← HX.out]; simp; omega)
        rw [← HPL.out] at hf
        subst hf
        by_cases h1 : X < 32
        · go_wp2_with fail
          go_ret
          exact ⟨rfl, rfl⟩
        · have h2 : 126 < X := by omega
          clear h32
          go_wp2_with fail
          go_ret
          exact ⟨rfl, rfl⟩
    · obtain rfl : k = n := by omega
      have e : plain l = true := by
        have := hp.out
        rwa [List.take_of_length_le (by have := HR.out.1; omega)] at this
      rw [← HPL.out] at e
      subst e
      go_wp2
      go_ret
      exact ⟨rfl, rfl⟩

set_option maxRecDepth 100000 in
set_option maxHeartbeats 1000000 in
theorem cisarr_any (k : Int) (n : Nat) (v2 v3 : Value) (w : World) (_h2 : v2.oneCell' = true) (_h3 : v3.oneCell' = true) :
    Calls Tryz.prog 73 #[.agg #[.int .i64 k, .int .u64 (n : Int), v2, v3]] w fun e w' => e = .returned (.bool (decide (k = 4 ∨ k = 5))) ∧ Below w.heap.size w w' := by
  by_cases h4 : k = 4
  · subst h4
    go_enter Tryz.func73, Tryz.ntmps73
    go_wp2_with fail
    go_ret
    exact ⟨rfl, (Below.refl _ _).alloc (Nat.le_refl _) _⟩
  · by_cases h5 : k = 5
    · subst h5
      go_enter Tryz.func73, Tryz.ntmps73
      go_wp2_with fail
      go_ret
      exact ⟨rfl, (Below.refl _ _).alloc (Nat.le_refl _) _⟩
    · rw [show decide (k = 4 ∨ k = 5) = false by simp; omega]
      go_enter Tryz.func73, Tryz.ntmps73
      go_wp2_with fail
      go_ret
      exact ⟨by show Ending.returned (.bool (k == 5)) = _; rw [beq_eq_false_iff_ne.2 h5], (Below.refl _ _).alloc (Nat.le_refl _) _⟩

set_option maxRecDepth 100000 in
set_option maxHeartbeats 1000000 in
theorem cfits_any (k : Int) (n nd cd N cl B : Nat) (A AL : Option Addr) (d : List UInt8) (l : List Itm) (w : World) (hB : B ≤ w.heap.size) (hrd : Rd w B A nd d) (hn : nd ≤ 140737488355328) (hl : l.length = N) :
    Calls Tryz.prog 72 #[.agg #[.int .i64 k, .int .u64 (n : Int), .slice A nd cd, .slice AL N cl]] w fun e w' => e = .returned (.bool (own k n d l)) ∧ Below w.heap.size w w' := by
  have hd := hrd.1
  have C1 := Lib.hid (cplain_any A nd cd B d (w.alloc (.cells #[.int .i64 k, .int .u64 (n : Int), .slice A nd cd, .slice AL N cl] 42)) (hrd.alloc hB _) hn)
  have hdb : d.isEmpty = decide (nd = 0) := by subst hd; cases d <;> simp
  have hlb : l.isEmpty = decide (N = 0) := by subst hl; cases l <;> simp
  obtain ⟨R, hR⟩ : ∃ q, q = own k n d l := ⟨_, rfl⟩
  rw [← hR]
  unfold own at hR
  rw [hdb, hlb] at hR
  generalize plain d = P at *
  have HR := Lib.hid hR
  have HB := Lib.hid ((Below.refl w.heap.size w).alloc (Nat.le_refl _) (.cells #[.int .i64 k, .int .u64 (n : Int), .slice A nd cd, .slice AL N cl] 42))
  clear hrd hR hd hl hdb hlb hn hB
  have a9 : ((nd : Int) == 0) = decide (nd = 0) := by
    by_cases h : nd = 0
    · subst h; rfl
    · rw [decide_eq_false h, beq_eq_false_iff_ne]; omega
  have b9 : ((N : Int) == 0) = decide (N = 0) := by
    by_cases h : N = 0
    · subst h; rfl
    · rw [decide_eq_false h, beq_eq_false_iff_ne]; omega
  have c9 : ((n : Int) == 0) = (n == 0) := by
    by_cases h : n = 0
    · subst h; rfl
    · rw [beq_eq_false_iff_ne.2 h, beq_eq_false_iff_ne]; omega
  have A9 := Lib.hid a9
  have B9 := Lib.hid b9
  have C9 := Lib.hid c9
  clear a9 b9 c9
  by_cases h0 : k = 0
  · subst h0
    by_cases a0 : nd = 0
    · subst a0
      go_enter Tryz.func72, Tryz.ntmps72
      go_wp2_with fail
      go_ret
      exact ⟨by show Ending.returned (.bool ((N : Int) == 0)) = _; rw [HR.out, B9.out]; simp, (Below.refl _ _).alloc (Nat.le_refl _) _⟩
    · have a1 : ((nd : Int) == 0) = false := by rw [A9.out]; simp; omega
      go_enter Tryz.func72, Tryz.ntmps72
      go_wp2_with fail
      go_ret
      exact ⟨by show Ending.returned (.bool false) = _; rw [HR.out]; simp [a0], (Below.refl _ _).alloc (Nat.le_refl _) _⟩
  by_cases h2 : k = 2
  · subst h2
    by_cases a0 : n = 0
    · subst a0
      go_enter Tryz.func72, Tryz.ntmps72
      go_wp2_with fail
      go_ret
      exact ⟨by show Ending.returned (.bool ((N : Int) == 0)) = _; rw [HR.out, B9.out]; simp, (Below.refl _ _).alloc (Nat.le_refl _) _⟩
    · have a1 : ((n : Int) == 0) = false := by rw [C9.out]; simp; omega
      go_enter Tryz.func72, Tryz.ntmps72
      go_wp2_with fail
      go_ret
      exact ⟨by show Ending.returned (.bool false) = _; rw [HR.out]; simp [a0], (Below.refl _ _).alloc (Nat.le_refl _) _⟩
  by_cases h3 : k = 3
  · subst h3
    by_cases a0 : n = 0
    · subst a0
      by_cases b0 : N = 0
      · subst b0
        go_enter Tryz.func72, Tryz.ntmps72
        go_wp2_with fail
        refine C1.out.mono ?_
        rintro e w1 ⟨rfl, rfl⟩
        go_wp2_with fail
        go_ret
        exact ⟨by show Ending.returned (.bool P) = _; rw [HR.out]; simp, (Below.refl _ _).alloc (Nat.le_refl _) _⟩
      · have b1 : ((N : Int) == 0) = false := by rw [B9.out]; simp; omega
        go_enter Tryz.func72, Tryz.ntmps72
        go_wp2_with fail
        go_ret
        exact ⟨by show Ending.returned (.bool false) = _; rw [HR.out]; simp [b0], (Below.refl _ _).alloc (Nat.le_refl _) _⟩
    · have a1 : ((n : Int) == 0) = false := by rw [C9.out]; simp; omega
      go_enter Tryz.func72, Tryz.ntmps72
      go_wp2_with fail
      go_ret
      exact ⟨by show Ending.returned (.bool false) = _; rw [HR.out]; simp [a0], (Below.refl _ _).alloc (Nat.le_refl _) _⟩
  by_cases h4 : k = 4
  · subst h4
    by_cases a0 : n = 0
    · subst a0
      go_enter Tryz.func72, Tryz.ntmps72
      go_wp2_with fail
      go_ret
      exact ⟨by show Ending.returned (.bool ((nd : Int) == 0)) = _; rw [HR.out, A9.out]; simp, (Below.refl _ _).alloc (Nat.le_refl _) _⟩
    · have a1 : ((n : Int) == 0) = false := by rw [C9.out]; simp; omega
      go_enter Tryz.func72, Tryz.ntmps72
      go_wp2_with fail
      go_ret
      exact ⟨by show Ending.returned (.bool false) = _; rw [HR.out]; simp [a0], (Below.refl _ _).alloc (Nat.le_refl _) _⟩
  by_cases h5 : k = 5
  · subst h5
    by_cases a0 : n = 0
    · subst a0
      go_enter Tryz.func72, Tryz.ntmps72
      go_wp2_with fail
      go_ret
      exact ⟨by show Ending.returned (.bool ((nd : Int) == 0)) = _; rw [HR.out, A9.out]; simp, (Below.refl _ _).alloc (Nat.le_refl _) _⟩
    · have a1 : ((n : Int) == 0) = false := by rw [C9.out]; simp; omega
      go_enter Tryz.func72, Tryz.ntmps72
      go_wp2_with fail
      go_ret
      exact ⟨by show Ending.returned (.bool false) = _; rw [HR.out]; simp [a0], (Below.refl _ _).alloc (Nat.le_refl _) _⟩
  go_enter Tryz.func72, Tryz.ntmps72
  go_wp2_with fail
  go_ret
  exact ⟨by show Ending.returned (.bool false) = _; rw [HR.out]; simp [h0, h2, h3, h4, h5], (Below.refl _ _).alloc (Nat.le_refl _) _⟩

set_option maxRecDepth 100000 in
set_option maxHeartbeats 1000000 in
theorem number_any (z : Int) (w : World) (hL : LaidE w) :
    Calls Tryz.prog 35 #[.iface 107 (.agg #[.int .i64 z])] w fun e w' => e = .returned (.int .i64 z) ∧ Below w.heap.size w w' := by
  have C1 := Lib.hid (as_hit z w.heap.size (.int .i64 0) (w.alloc (.cells #[.int .i64 0] 107)) (hL.below ((Below.refl _ _).alloc (Nat.le_refl _) _) hL.lt) (by simp) (by simp))
  clear hL
  go_enter Tryz.func35, Tryz.ntmps35
  go_wp2_with fail
  refine C1.out.mono ?_
  rintro e w1 ⟨rfl, hb, hc⟩
  have HB := Lib.hid hb
  clear hb
  go_wp2_with fail
  go_ret
  exact ⟨rfl, ((Below.refl _ _).alloc (Nat.le_refl _) _).trans HB.out⟩
end Go.Proofs.YtbdjkihgcmebgaaGreatDoor
