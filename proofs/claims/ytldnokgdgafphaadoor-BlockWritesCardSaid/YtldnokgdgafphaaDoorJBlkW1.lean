/- What Check and items of layer 5's reference return. (Made by gen/BlkW1.py.) -/
import Derived.Test.YtldnokgdgafphaaDoorJBlkD
import Derived.Test.YtldnokgdgafphaaDoorJCborD2
import Derived.Deep.RegionHeld3
namespace Go.Proofs.YtldnokgdgafphaaDoor
open Go.RowKit

set_option maxRecDepth 100000 in
set_option maxHeartbeats 1000000 in
/-- Uint of the reference, its value whole. -/
theorem ruintV (n : Int) (w : World) :
    Calls Tryd.prog 14 #[.int .u64 n] w fun e w' => e = .returned (.agg #[.int .i64 0, .int .u64 n, .slice none 0 0, .slice none 0 0]) ∧ Below w.heap.size w w' := by
  go_enter Tryd.func14, Tryd.ntmps14
  go_wp2_with fail
  exact bodyPost_ret (v := .agg #[.int .i64 0, .int .u64 n, .slice none 0 0, .slice none 0 0]) (by simp [results, Tryd.results14, go_sem]) rfl ⟨rfl, (Below.refl _ _).alloc (Nat.le_refl _) _⟩

theorem RdI.mask0 {w : World} {B : Nat} {v : Value} {x : Itm} (h : RdI w B v x) : RdI (mask (lows 0) w) B v x := RdI.keep (w := w) (w' := mask (lows 0) w) (fun _ _ => mask_cell (lows_f.2 (Nat.zero_le _))) h
theorem RdIs.unmask {S : Nat → Bool} {w : World} {B b o : Nat} {l : List Itm} (hb : b < B) (h : RdIs (mask S w) B b o l) : RdIs w B b o l := h.sub (Nat.le_refl _) (fun _ _ _ hc => mask_sub hc) hb

set_option maxRecDepth 100000 in
set_option maxHeartbeats 2000000 in
theorem rcheckB_any (t n f : Nat) (c : Int) (A : Option Addr) (nd cd : Nat) (d : List UInt8) (w : World) (hd : d.length = nd) :
    Calls Tryd.prog 10 #[blkV t n f c A nd cd] w fun e w' => e = .returned (.bool (blkOk ⟨t, n, f, c, d⟩)) ∧ Below w.heap.size w w' := by
  obtain ⟨R, hR⟩ : ∃ R, R = blkOk ⟨t, n, f, c, d⟩ := ⟨_, rfl⟩
  rw [← hR]
  have hR2 : R = true ↔ ((1 ≤ (t : Int) ∧ (t : Int) ≤ 255) ∧ ¬ (n : Int) = 0 ∧ (¬ (t : Int) = 1 ∨ (n : Int) = 1) ∧ (0 ≤ c ∧ c ≤ 2) ∧ (nd : Int) ≤ 4096) := by
    rw [hR, ← hd, blkOk_iff]
    simp only
    omega
  clear hR hd
  have hN0 : 0 ≤ (n : Int) := by omega
  unfold blkV
  generalize (t : Int) = T at *
  generalize (n : Int) = N at *
  have no : ∀ (_ : ¬ R = true), R = false := fun h => by simpa using h
  by_cases h1 : T < 1
  · obtain rfl := no (by rw [hR2]; omega)
    clear hR2 no
    have h1n : ¬ 1 ≤ T := by omega
    go_enter Tryd.func10, Tryd.ntmps10
    go_wp2_with fail
    go_ret
    exact ⟨rfl, (Below.refl _ _).alloc (Nat.le_refl _) _⟩
  have h1p : 1 ≤ T := by omega
  by_cases h2 : 255 < T
  · obtain rfl := no (by rw [hR2]; omega)
    clear hR2 no
    have h2n : ¬ T ≤ 255 := by omega
    go_enter Tryd.func10, Tryd.ntmps10
    go_wp2_with fail
    go_ret
    exact ⟨rfl, (Below.refl _ _).alloc (Nat.le_refl _) _⟩
  have h2p : T ≤ 255 := by omega
  by_cases h3 : N = 0
  · obtain rfl := no (by rw [hR2]; omega)
    clear hR2 no
    have h3n : ¬ 0 < N := by omega
    go_enter Tryd.func10, Tryd.ntmps10
    go_wp2_with fail
    go_ret
    exact ⟨rfl, (Below.refl _ _).alloc (Nat.le_refl _) _⟩
  have h3p : 0 < N := by omega
  by_cases h4 : c < 0
  · obtain rfl := no (by rw [hR2]; omega)
    clear hR2 no
    have h4n : ¬ 0 ≤ c := by omega
    go_enter Tryd.func10, Tryd.ntmps10
    go_wp2_with fail
    go_ret
    exact ⟨rfl, (Below.refl _ _).alloc (Nat.le_refl _) _⟩
  have h4p : 0 ≤ c := by omega
  by_cases h5 : 2 < c
  · obtain rfl := no (by rw [hR2]; omega)
    clear hR2 no
    have h5n : ¬ c ≤ 2 := by omega
    go_enter Tryd.func10, Tryd.ntmps10
    go_wp2_with fail
    go_ret
    exact ⟨rfl, (Below.refl _ _).alloc (Nat.le_refl _) _⟩
  have h5p : c ≤ 2 := by omega
  by_cases h6 : (4096 : Int) < nd
  · obtain rfl := no (by rw [hR2]; omega)
    clear hR2 no
    have h6n : ¬ (nd : Int) ≤ 4096 := by omega
    have h6m : 4096 < nd := by omega
    go_enter Tryd.func10, Tryd.ntmps10
    go_wp2_with fail
    go_ret
    exact ⟨rfl, (Below.refl _ _).alloc (Nat.le_refl _) _⟩
  have h6p : (nd : Int) ≤ 4096 := by omega
  have h6q : nd ≤ 4096 := by omega
  have h6d : decide ((nd : Int) ≤ 4096) = true := by simpa using h6p
  by_cases h7 : T = 1
  · subst h7
    by_cases h8 : N = 1
    · subst h8
      obtain rfl : R = true := by rw [hR2]; omega
      clear hR2 no
      go_enter Tryd.func10, Tryd.ntmps10
      go_wp2_with fail
      go_ret
      exact ⟨rfl, (Below.refl _ _).alloc (Nat.le_refl _) _⟩
    · obtain rfl := no (by rw [hR2]; omega)
      have h8b : (N == 1) = false := by rw [beq_eq_false_iff_ne]; exact h8
      clear hR2 no
      go_enter Tryd.func10, Tryd.ntmps10
      go_wp2_with fail
      go_ret
      exact ⟨rfl, (Below.refl _ _).alloc (Nat.le_refl _) _⟩
  · obtain rfl : R = true := by rw [hR2]; omega
    have h7b : (T == 1) = false := by rw [beq_eq_false_iff_ne]; exact h7
    clear hR2 no
    go_enter Tryd.func10, Tryd.ntmps10
    go_wp2_with fail
    go_ret
    exact ⟨rfl, (Below.refl _ _).alloc (Nat.le_refl _) _⟩

set_option maxRecDepth 100000 in
set_option maxHeartbeats 4000000 in
theorem ritems_0 (t n f : Nat) (A : Option Addr) (nd cd B : Nat) (d : List UInt8) (w : World) (ht : t < 18446744073709551616) (hn : n < 18446744073709551616) (hf : f < 18446744073709551616) (hB : B ≤ w.heap.size) (h : Rd w B A nd d) (hnd : nd ≤ 140737488355328) :
    Calls Tryd.prog 20 #[blkV t n f 0 A nd cd] w fun e w' => ∃ g, e = .returned (.slice (some ⟨g, 0, none⟩) 5 5) ∧ g < w'.heap.size ∧ RdIs w' w'.heap.size g 0 (partsB ⟨t, n, f, 0, d⟩) ∧ Below w.heap.size w w' := by
  have HX : Hid (partsB ⟨t, n, f, 0, d⟩ = [.mk 0 t [] [], .mk 0 n [] [], .mk 0 f [] [], .mk 0 0 [] [], .mk 2 0 d []]) := rfl
  rw [HX.out]
  have HT := Lib.hid (And.intro ht (And.intro hn hf))
  have hB0 := (Below.refl w.heap.size w).alloc (Nat.le_refl _) (.cells #[.int .u64 (t : Int), .int .u64 (n : Int), .int .u64 (f : Int), .int .i64 0, .slice A nd cd] 25)
  have hR0 := h.below (hB0.mono hB)
  obtain ⟨g10, g11, g12, g13, g14⟩ := box5 rfl (Below.refl (w.heap.size + 1) (w.alloc (.cells #[.int .u64 (t : Int), .int .u64 (n : Int), .int .u64 (f : Int), .int .i64 0, .slice A nd cd] 25)))
  have hs0 : (w.alloc (.cells #[.int .u64 (t : Int), .int .u64 (n : Int), .int .u64 (f : Int), .int .i64 0, .slice A nd cd] 25)).heap.size = w.heap.size + 1 := by simp
  have HB0 := Lib.hid hB0
  have HBW := Lib.hid hB
  have HRR := Lib.hid hR0
  have HNd := Lib.hid hnd
  have CU := Lib.hid ruintV
  clear h hB hnd ht hn hf hB0 hR0
  unfold blkV
  go_enter Tryd.func20, Tryd.ntmps20
  go_wp2_with fail
  generalize (w.alloc (.cells #[.int .u64 (t : Int), .int .u64 (n : Int), .int .u64 (f : Int), .int .i64 0, .slice A nd cd] 25)) = W0 at *
  have hlt0 : w.heap.size < W0.heap.size := by omega
  have HS0 := Lib.hid hs0
  have CB : Hid (∀ (W : World), Below W0.heap.size W0 W → Calls Tryd.prog 29 #[.slice A nd cd] W (GivesI (.mk 2 0 d []) W)) := fun W hb => rbytes_any A nd cd B d W (by have := hb.size; have := HS0.out; have := HBW.out; omega) (HRR.out.below (hb.mono (by have := HS0.out; have := HBW.out; omega))) HNd.out
  clear hs0
  go_region_held3 (fun W => W.cell? ⟨w.heap.size, 0, none⟩ = some (.int .u64 (t : Int)) ∧ W.cell? ⟨w.heap.size, 1, none⟩ = some (.int .u64 (n : Int)) ∧ W.cell? ⟨w.heap.size, 2, none⟩ = some (.int .u64 (f : Int)) ∧ W.cell? ⟨w.heap.size, 3, none⟩ = some (.int .i64 0) ∧ W.cell? ⟨w.heap.size, 4, none⟩ = some (.slice A nd cd))
    (first | (with_reducible exact ⟨x50, x51, x52, x53, x54⟩) | (with_reducible exact ⟨x40, x41, x42, x43, x44⟩) | (with_reducible exact ⟨x30, x31, x32, x33, x34⟩) | (with_reducible exact ⟨x20, x21, x22, x23, x24⟩) | (with_reducible exact ⟨x10, x11, x12, x13, x14⟩) | (exact ⟨g10, g11, g12, g13, g14⟩) | (exact ⟨(World.cell?_alloc_lt w5 _ ⟨w.heap.size, 0, none⟩ H5.out).trans x50, (World.cell?_alloc_lt w5 _ ⟨w.heap.size, 1, none⟩ H5.out).trans x51, (World.cell?_alloc_lt w5 _ ⟨w.heap.size, 2, none⟩ H5.out).trans x52, (World.cell?_alloc_lt w5 _ ⟨w.heap.size, 3, none⟩ H5.out).trans x53, (World.cell?_alloc_lt w5 _ ⟨w.heap.size, 4, none⟩ H5.out).trans x54⟩) | fail)
    (first
      | (go_at_call 29; refine (CB.out _ B4.out).mono ?_; rintro e w5 ⟨v5, rfl, hv5, hb5⟩; have hb5' := B4.out.trans (hb5.mono B4.out.size); have x50 := (hb5'.cell (p := ⟨w.heap.size, 0, none⟩) hlt0).trans g10; have x51 := (hb5'.cell (p := ⟨w.heap.size, 1, none⟩) hlt0).trans g11; have x52 := (hb5'.cell (p := ⟨w.heap.size, 2, none⟩) hlt0).trans g12; have x53 := (hb5'.cell (p := ⟨w.heap.size, 3, none⟩) hlt0).trans g13; have x54 := (hb5'.cell (p := ⟨w.heap.size, 4, none⟩) hlt0).trans g14; obtain ⟨k5, n5, A5, nd5, cd5, AL5, nl5, cl5, rfl⟩ := hv5.form; have V5 := Lib.hid hv5; have B5 := Lib.hid hb5'; have H5 : Hid (w.heap.size < w5.heap.size) := Nat.lt_of_lt_of_le hlt0 hb5'.size; clear hv5 hb5 hb5')
      | (go_at_call 14; have _g := B3; clear _g; refine (CU.out _ _).mono ?_; rintro e w4 ⟨rfl, hb4⟩; have hb4' := B3.out.trans (hb4.mono B3.out.size); have x40 := (hb4'.cell (p := ⟨w.heap.size, 0, none⟩) hlt0).trans g10; have x41 := (hb4'.cell (p := ⟨w.heap.size, 1, none⟩) hlt0).trans g11; have x42 := (hb4'.cell (p := ⟨w.heap.size, 2, none⟩) hlt0).trans g12; have x43 := (hb4'.cell (p := ⟨w.heap.size, 3, none⟩) hlt0).trans g13; have x44 := (hb4'.cell (p := ⟨w.heap.size, 4, none⟩) hlt0).trans g14; have B4 := Lib.hid hb4'; clear hb4 hb4')
      | (go_at_call 14; have _g := B2; clear _g; refine (CU.out _ _).mono ?_; rintro e w3 ⟨rfl, hb3⟩; have hb3' := B2.out.trans (hb3.mono B2.out.size); have x30 := (hb3'.cell (p := ⟨w.heap.size, 0, none⟩) hlt0).trans g10; have x31 := (hb3'.cell (p := ⟨w.heap.size, 1, none⟩) hlt0).trans g11; have x32 := (hb3'.cell (p := ⟨w.heap.size, 2, none⟩) hlt0).trans g12; have x33 := (hb3'.cell (p := ⟨w.heap.size, 3, none⟩) hlt0).trans g13; have x34 := (hb3'.cell (p := ⟨w.heap.size, 4, none⟩) hlt0).trans g14; have B3 := Lib.hid hb3'; clear hb3 hb3')
      | (go_at_call 14; have _g := B1; clear _g; refine (CU.out _ _).mono ?_; rintro e w2 ⟨rfl, hb2⟩; have hb2' := B1.out.trans (hb2.mono B1.out.size); have x20 := (hb2'.cell (p := ⟨w.heap.size, 0, none⟩) hlt0).trans g10; have x21 := (hb2'.cell (p := ⟨w.heap.size, 1, none⟩) hlt0).trans g11; have x22 := (hb2'.cell (p := ⟨w.heap.size, 2, none⟩) hlt0).trans g12; have x23 := (hb2'.cell (p := ⟨w.heap.size, 3, none⟩) hlt0).trans g13; have x24 := (hb2'.cell (p := ⟨w.heap.size, 4, none⟩) hlt0).trans g14; have B2 := Lib.hid hb2'; clear hb2 hb2')
      | (go_at_call 14; refine (CU.out _ _).mono ?_; rintro e w1 ⟨rfl, hb1⟩; have hb1' : Below W0.heap.size W0 w1 := Below.drew_.trans hb1; have x10 := (hb1'.cell (p := ⟨w.heap.size, 0, none⟩) hlt0).trans g10; have x11 := (hb1'.cell (p := ⟨w.heap.size, 1, none⟩) hlt0).trans g11; have x12 := (hb1'.cell (p := ⟨w.heap.size, 2, none⟩) hlt0).trans g12; have x13 := (hb1'.cell (p := ⟨w.heap.size, 3, none⟩) hlt0).trans g13; have x14 := (hb1'.cell (p := ⟨w.heap.size, 4, none⟩) hlt0).trans g14; have B1 := Lib.hid hb1'; clear hb1 hb1')
      | fail)
  have hit : ItC (mask (lows 0) w5) w5.heap.size [.int .i64 0, .int .u64 (t : Int), .slice none 0 0, .slice none 0 0, .int .i64 0, .int .u64 (n : Int), .slice none 0 0, .slice none 0 0, .int .i64 0, .int .u64 (f : Int), .slice none 0 0, .slice none 0 0, .int .i64 0, .int .u64 0, .slice none 0 0, .slice none 0 0, .int .i64 k5, .int .u64 (n5 : Int), .slice A5 nd5 cd5, .slice AL5 nl5 cl5] [.mk 0 t [] [], .mk 0 n [] [], .mk 0 f [] [], .mk 0 0 [] [], .mk 2 0 d []] := ⟨RdI.mk_uint HT.out.1, RdI.mk_uint HT.out.2.1, RdI.mk_uint HT.out.2.2, RdI.mk_uint (n := 0) (by decide), V5.out.mask0, trivial⟩
  have hrow := RdIs.unmask (Nat.lt_succ_self _) (ItC.row (t := 41) (Nat.zero_le _) hit)
  have hs6 : (w5.alloc (.cells #[.int .i64 0, .int .u64 (t : Int), .slice none 0 0, .slice none 0 0, .int .i64 0, .int .u64 (n : Int), .slice none 0 0, .slice none 0 0, .int .i64 0, .int .u64 (f : Int), .slice none 0 0, .slice none 0 0, .int .i64 0, .int .u64 0, .slice none 0 0, .slice none 0 0, .int .i64 k5, .int .u64 (n5 : Int), .slice A5 nd5 cd5, .slice AL5 nl5 cl5] 41)).heap.size = w5.heap.size + 1 := by simp
  have HROW := Lib.hid (RdIs.more (Nat.le_of_eq hs6.symm) hrow)
  have HS6 := Lib.hid (Nat.lt_of_lt_of_le (Nat.lt_succ_self w5.heap.size) (Nat.le_of_eq hs6.symm))
  have B6 := Lib.hid (HB0.out.trans ((B5.out.mono (by have := HS0.out; omega)).alloc (by have := H5.out; omega) (.cells #[.int .i64 0, .int .u64 (t : Int), .slice none 0 0, .slice none 0 0, .int .i64 0, .int .u64 (n : Int), .slice none 0 0, .slice none 0 0, .int .i64 0, .int .u64 (f : Int), .slice none 0 0, .slice none 0 0, .int .i64 0, .int .u64 0, .slice none 0 0, .slice none 0 0, .int .i64 k5, .int .u64 (n5 : Int), .slice A5 nd5 cd5, .slice AL5 nl5 cl5] 41)))
  clear hit hrow hs6 x10 x11 x12 x13 x14 x20 x21 x22 x23 x24 x30 x31 x32 x33 x34 x40 x41 x42 x43 x44 x50 x51 x52 x53 x54
  go_wp2_with fail
  go_ret
  exact ⟨_, rfl, HS6.out, HROW.out, B6.out⟩

set_option maxRecDepth 100000 in
set_option maxHeartbeats 4000000 in
theorem ritems_1 (t n f : Nat) (A : Option Addr) (nd cd B : Nat) (d : List UInt8) (w : World) (ht : t < 18446744073709551616) (hn : n < 18446744073709551616) (hf : f < 18446744073709551616) (hB : B ≤ w.heap.size) (h : Rd w B A nd d) (hnd : nd ≤ 140737488355328) :
    Calls Tryd.prog 20 #[blkV t n f 1 A nd cd] w fun e w' => ∃ g, e = .returned (.slice (some ⟨g, 0, none⟩) 5 5) ∧ g < w'.heap.size ∧ RdIs w' w'.heap.size g 0 (partsB ⟨t, n, f, 1, d⟩) ∧ Below w.heap.size w w' := by
  have HX : Hid (partsB ⟨t, n, f, 1, d⟩ = [.mk 0 t [] [], .mk 0 n [] [], .mk 0 f [] [], .mk 0 1 [] [], .mk 2 0 d []]) := rfl
  rw [HX.out]
  have HT := Lib.hid (And.intro ht (And.intro hn hf))
  have hB0 := (Below.refl w.heap.size w).alloc (Nat.le_refl _) (.cells #[.int .u64 (t : Int), .int .u64 (n : Int), .int .u64 (f : Int), .int .i64 1, .slice A nd cd] 25)
  have hR0 := h.below (hB0.mono hB)
  obtain ⟨g10, g11, g12, g13, g14⟩ := box5 rfl (Below.refl (w.heap.size + 1) (w.alloc (.cells #[.int .u64 (t : Int), .int .u64 (n : Int), .int .u64 (f : Int), .int .i64 1, .slice A nd cd] 25)))
  have hs0 : (w.alloc (.cells #[.int .u64 (t : Int), .int .u64 (n : Int), .int .u64 (f : Int), .int .i64 1, .slice A nd cd] 25)).heap.size = w.heap.size + 1 := by simp
  have HB0 := Lib.hid hB0
  have HBW := Lib.hid hB
  have HRR := Lib.hid hR0
  have HNd := Lib.hid hnd
  have CU := Lib.hid ruintV
  clear h hB hnd ht hn hf hB0 hR0
  unfold blkV
  go_enter Tryd.func20, Tryd.ntmps20
  go_wp2_with fail
  generalize (w.alloc (.cells #[.int .u64 (t : Int), .int .u64 (n : Int), .int .u64 (f : Int), .int .i64 1, .slice A nd cd] 25)) = W0 at *
  have hlt0 : w.heap.size < W0.heap.size := by omega
  have HS0 := Lib.hid hs0
  have CB : Hid (∀ (W : World), Below W0.heap.size W0 W → Calls Tryd.prog 29 #[.slice A nd cd] W (GivesI (.mk 2 0 d []) W)) := fun W hb => rbytes_any A nd cd B d W (by have := hb.size; have := HS0.out; have := HBW.out; omega) (HRR.out.below (hb.mono (by have := HS0.out; have := HBW.out; omega))) HNd.out
  clear hs0
  go_region_held3 (fun W => W.cell? ⟨w.heap.size, 0, none⟩ = some (.int .u64 (t : Int)) ∧ W.cell? ⟨w.heap.size, 1, none⟩ = some (.int .u64 (n : Int)) ∧ W.cell? ⟨w.heap.size, 2, none⟩ = some (.int .u64 (f : Int)) ∧ W.cell? ⟨w.heap.size, 3, none⟩ = some (.int .i64 1) ∧ W.cell? ⟨w.heap.size, 4, none⟩ = some (.slice A nd cd))
    (first | (with_reducible exact ⟨x50, x51, x52, x53, x54⟩) | (with_reducible exact ⟨x40, x41, x42, x43, x44⟩) | (with_reducible exact ⟨x30, x31, x32, x33, x34⟩) | (with_reducible exact ⟨x20, x21, x22, x23, x24⟩) | (with_reducible exact ⟨x10, x11, x12, x13, x14⟩) | (exact ⟨g10, g11, g12, g13, g14⟩) | (exact ⟨(World.cell?_alloc_lt w5 _ ⟨w.heap.size, 0, none⟩ H5.out).trans x50, (World.cell?_alloc_lt w5 _ ⟨w.heap.size, 1, none⟩ H5.out).trans x51, (World.cell?_alloc_lt w5 _ ⟨w.heap.size, 2, none⟩ H5.out).trans x52, (World.cell?_alloc_lt w5 _ ⟨w.heap.size, 3, none⟩ H5.out).trans x53, (World.cell?_alloc_lt w5 _ ⟨w.heap.size, 4, none⟩ H5.out).trans x54⟩) | fail)
    (first
      | (go_at_call 29; refine (CB.out _ B4.out).mono ?_; rintro e w5 ⟨v5, rfl, hv5, hb5⟩; have hb5' := B4.out.trans (hb5.mono B4.out.size); have x50 := (hb5'.cell (p := ⟨w.heap.size, 0, none⟩) hlt0).trans g10; have x51 := (hb5'.cell (p := ⟨w.heap.size, 1, none⟩) hlt0).trans g11; have x52 := (hb5'.cell (p := ⟨w.heap.size, 2, none⟩) hlt0).trans g12; have x53 := (hb5'.cell (p := ⟨w.heap.size, 3, none⟩) hlt0).trans g13; have x54 := (hb5'.cell (p := ⟨w.heap.size, 4, none⟩) hlt0).trans g14; obtain ⟨k5, n5, A5, nd5, cd5, AL5, nl5, cl5, rfl⟩ := hv5.form; have V5 := Lib.hid hv5; have B5 := Lib.hid hb5'; have H5 : Hid (w.heap.size < w5.heap.size) := Nat.lt_of_lt_of_le hlt0 hb5'.size; clear hv5 hb5 hb5')
      | (go_at_call 14; have _g := B3; clear _g; refine (CU.out _ _).mono ?_; rintro e w4 ⟨rfl, hb4⟩; have hb4' := B3.out.trans (hb4.mono B3.out.size); have x40 := (hb4'.cell (p := ⟨w.heap.size, 0, none⟩) hlt0).trans g10; have x41 := (hb4'.cell (p := ⟨w.heap.size, 1, none⟩) hlt0).trans g11; have x42 := (hb4'.cell (p := ⟨w.heap.size, 2, none⟩) hlt0).trans g12; have x43 := (hb4'.cell (p := ⟨w.heap.size, 3, none⟩) hlt0).trans g13; have x44 := (hb4'.cell (p := ⟨w.heap.size, 4, none⟩) hlt0).trans g14; have B4 := Lib.hid hb4'; clear hb4 hb4')
      | (go_at_call 14; have _g := B2; clear _g; refine (CU.out _ _).mono ?_; rintro e w3 ⟨rfl, hb3⟩; have hb3' := B2.out.trans (hb3.mono B2.out.size); have x30 := (hb3'.cell (p := ⟨w.heap.size, 0, none⟩) hlt0).trans g10; have x31 := (hb3'.cell (p := ⟨w.heap.size, 1, none⟩) hlt0).trans g11; have x32 := (hb3'.cell (p := ⟨w.heap.size, 2, none⟩) hlt0).trans g12; have x33 := (hb3'.cell (p := ⟨w.heap.size, 3, none⟩) hlt0).trans g13; have x34 := (hb3'.cell (p := ⟨w.heap.size, 4, none⟩) hlt0).trans g14; have B3 := Lib.hid hb3'; clear hb3 hb3')
      | (go_at_call 14; have _g := B1; clear _g; refine (CU.out _ _).mono ?_; rintro e w2 ⟨rfl, hb2⟩; have hb2' := B1.out.trans (hb2.mono B1.out.size); have x20 := (hb2'.cell (p := ⟨w.heap.size, 0, none⟩) hlt0).trans g10; have x21 := (hb2'.cell (p := ⟨w.heap.size, 1, none⟩) hlt0).trans g11; have x22 := (hb2'.cell (p := ⟨w.heap.size, 2, none⟩) hlt0).trans g12; have x23 := (hb2'.cell (p := ⟨w.heap.size, 3, none⟩) hlt0).trans g13; have x24 := (hb2'.cell (p := ⟨w.heap.size, 4, none⟩) hlt0).trans g14; have B2 := Lib.hid hb2'; clear hb2 hb2')
      | (go_at_call 14; refine (CU.out _ _).mono ?_; rintro e w1 ⟨rfl, hb1⟩; have hb1' : Below W0.heap.size W0 w1 := Below.drew_.trans hb1; have x10 := (hb1'.cell (p := ⟨w.heap.size, 0, none⟩) hlt0).trans g10; have x11 := (hb1'.cell (p := ⟨w.heap.size, 1, none⟩) hlt0).trans g11; have x12 := (hb1'.cell (p := ⟨w.heap.size, 2, none⟩) hlt0).trans g12; have x13 := (hb1'.cell (p := ⟨w.heap.size, 3, none⟩) hlt0).trans g13; have x14 := (hb1'.cell (p := ⟨w.heap.size, 4, none⟩) hlt0).trans g14; have B1 := Lib.hid hb1'; clear hb1 hb1')
      | fail)
  have hit : ItC (mask (lows 0) w5) w5.heap.size [.int .i64 0, .int .u64 (t : Int), .slice none 0 0, .slice none 0 0, .int .i64 0, .int .u64 (n : Int), .slice none 0 0, .slice none 0 0, .int .i64 0, .int .u64 (f : Int), .slice none 0 0, .slice none 0 0, .int .i64 0, .int .u64 (IntKind.u64.wrap 1), .slice none 0 0, .slice none 0 0, .int .i64 k5, .int .u64 (n5 : Int), .slice A5 nd5 cd5, .slice AL5 nl5 cl5] [.mk 0 t [] [], .mk 0 n [] [], .mk 0 f [] [], .mk 0 1 [] [], .mk 2 0 d []] := ⟨RdI.mk_uint HT.out.1, RdI.mk_uint HT.out.2.1, RdI.mk_uint HT.out.2.2, RdI.mk_uint (n := 1) (by decide), V5.out.mask0, trivial⟩
  have hrow := RdIs.unmask (Nat.lt_succ_self _) (ItC.row (t := 41) (Nat.zero_le _) hit)
  have hs6 : (w5.alloc (.cells #[.int .i64 0, .int .u64 (t : Int), .slice none 0 0, .slice none 0 0, .int .i64 0, .int .u64 (n : Int), .slice none 0 0, .slice none 0 0, .int .i64 0, .int .u64 (f : Int), .slice none 0 0, .slice none 0 0, .int .i64 0, .int .u64 (IntKind.u64.wrap 1), .slice none 0 0, .slice none 0 0, .int .i64 k5, .int .u64 (n5 : Int), .slice A5 nd5 cd5, .slice AL5 nl5 cl5] 41)).heap.size = w5.heap.size + 1 := by simp
  have HROW := Lib.hid (RdIs.more (Nat.le_of_eq hs6.symm) hrow)
  have HS6 := Lib.hid (Nat.lt_of_lt_of_le (Nat.lt_succ_self w5.heap.size) (Nat.le_of_eq hs6.symm))
  have B6 := Lib.hid (HB0.out.trans ((B5.out.mono (by have := HS0.out; omega)).alloc (by have := H5.out; omega) (.cells #[.int .i64 0, .int .u64 (t : Int), .slice none 0 0, .slice none 0 0, .int .i64 0, .int .u64 (n : Int), .slice none 0 0, .slice none 0 0, .int .i64 0, .int .u64 (f : Int), .slice none 0 0, .slice none 0 0, .int .i64 0, .int .u64 (IntKind.u64.wrap 1), .slice none 0 0, .slice none 0 0, .int .i64 k5, .int .u64 (n5 : Int), .slice A5 nd5 cd5, .slice AL5 nl5 cl5] 41)))
  clear hit hrow hs6 x10 x11 x12 x13 x14 x20 x21 x22 x23 x24 x30 x31 x32 x33 x34 x40 x41 x42 x43 x44 x50 x51 x52 x53 x54
  go_wp2_with fail
  go_ret
  exact ⟨_, rfl, HS6.out, HROW.out, B6.out⟩

set_option maxRecDepth 100000 in
set_option maxHeartbeats 4000000 in
theorem ritems_2 (t n f : Nat) (A : Option Addr) (nd cd B : Nat) (d : List UInt8) (w : World) (ht : t < 18446744073709551616) (hn : n < 18446744073709551616) (hf : f < 18446744073709551616) (hB : B ≤ w.heap.size) (h : Rd w B A nd d) (hnd : nd ≤ 140737488355328) :
    Calls Tryd.prog 20 #[blkV t n f 2 A nd cd] w fun e w' => ∃ g, e = .returned (.slice (some ⟨g, 0, none⟩) 5 5) ∧ g < w'.heap.size ∧ RdIs w' w'.heap.size g 0 (partsB ⟨t, n, f, 2, d⟩) ∧ Below w.heap.size w w' := by
  have HX : Hid (partsB ⟨t, n, f, 2, d⟩ = [.mk 0 t [] [], .mk 0 n [] [], .mk 0 f [] [], .mk 0 2 [] [], .mk 2 0 d []]) := rfl
  rw [HX.out]
  have HT := Lib.hid (And.intro ht (And.intro hn hf))
  have hB0 := (Below.refl w.heap.size w).alloc (Nat.le_refl _) (.cells #[.int .u64 (t : Int), .int .u64 (n : Int), .int .u64 (f : Int), .int .i64 2, .slice A nd cd] 25)
  have hR0 := h.below (hB0.mono hB)
  obtain ⟨g10, g11, g12, g13, g14⟩ := box5 rfl (Below.refl (w.heap.size + 1) (w.alloc (.cells #[.int .u64 (t : Int), .int .u64 (n : Int), .int .u64 (f : Int), .int .i64 2, .slice A nd cd] 25)))
  have hs0 : (w.alloc (.cells #[.int .u64 (t : Int), .int .u64 (n : Int), .int .u64 (f : Int), .int .i64 2, .slice A nd cd] 25)).heap.size = w.heap.size + 1 := by simp
  have HB0 := Lib.hid hB0
  have HBW := Lib.hid hB
  have HRR := Lib.hid hR0
  have HNd := Lib.hid hnd
  have CU := Lib.hid ruintV
  clear h hB hnd ht hn hf hB0 hR0
  unfold blkV
  go_enter Tryd.func20, Tryd.ntmps20
  go_wp2_with fail
  generalize (w.alloc (.cells #[.int .u64 (t : Int), .int .u64 (n : Int), .int .u64 (f : Int), .int .i64 2, .slice A nd cd] 25)) = W0 at *
  have hlt0 : w.heap.size < W0.heap.size := by omega
  have HS0 := Lib.hid hs0
  have CB : Hid (∀ (W : World), Below W0.heap.size W0 W → Calls Tryd.prog 29 #[.slice A nd cd] W (GivesI (.mk 2 0 d []) W)) := fun W hb => rbytes_any A nd cd B d W (by have := hb.size; have := HS0.out; have := HBW.out; omega) (HRR.out.below (hb.mono (by have := HS0.out; have := HBW.out; omega))) HNd.out
  clear hs0
  go_region_held3 (fun W => W.cell? ⟨w.heap.size, 0, none⟩ = some (.int .u64 (t : Int)) ∧ W.cell? ⟨w.heap.size, 1, none⟩ = some (.int .u64 (n : Int)) ∧ W.cell? ⟨w.heap.size, 2, none⟩ = some (.int .u64 (f : Int)) ∧ W.cell? ⟨w.heap.size, 3, none⟩ = some (.int .i64 2) ∧ W.cell? ⟨w.heap.size, 4, none⟩ = some (.slice A nd cd))
    (first | (with_reducible exact ⟨x50, x51, x52, x53, x54⟩) | (with_reducible exact ⟨x40, x41, x42, x43, x44⟩) | (with_reducible exact ⟨x30, x31, x32, x33, x34⟩) | (with_reducible exact ⟨x20, x21, x22, x23, x24⟩) | (with_reducible exact ⟨x10, x11, x12, x13, x14⟩) | (exact ⟨g10, g11, g12, g13, g14⟩) | (exact ⟨(World.cell?_alloc_lt w5 _ ⟨w.heap.size, 0, none⟩ H5.out).trans x50, (World.cell?_alloc_lt w5 _ ⟨w.heap.size, 1, none⟩ H5.out).trans x51, (World.cell?_alloc_lt w5 _ ⟨w.heap.size, 2, none⟩ H5.out).trans x52, (World.cell?_alloc_lt w5 _ ⟨w.heap.size, 3, none⟩ H5.out).trans x53, (World.cell?_alloc_lt w5 _ ⟨w.heap.size, 4, none⟩ H5.out).trans x54⟩) | fail)
    (first
      | (go_at_call 29; refine (CB.out _ B4.out).mono ?_; rintro e w5 ⟨v5, rfl, hv5, hb5⟩; have hb5' := B4.out.trans (hb5.mono B4.out.size); have x50 := (hb5'.cell (p := ⟨w.heap.size, 0, none⟩) hlt0).trans g10; have x51 := (hb5'.cell (p := ⟨w.heap.size, 1, none⟩) hlt0).trans g11; have x52 := (hb5'.cell (p := ⟨w.heap.size, 2, none⟩) hlt0).trans g12; have x53 := (hb5'.cell (p := ⟨w.heap.size, 3, none⟩) hlt0).trans g13; have x54 := (hb5'.cell (p := ⟨w.heap.size, 4, none⟩) hlt0).trans g14; obtain ⟨k5, n5, A5, nd5, cd5, AL5, nl5, cl5, rfl⟩ := hv5.form; have V5 := Lib.hid hv5; have B5 := Lib.hid hb5'; have H5 : Hid (w.heap.size < w5.heap.size) := Nat.lt_of_lt_of_le hlt0 hb5'.size; clear hv5 hb5 hb5')
      | (go_at_call 14; have _g := B3; clear _g; refine (CU.out _ _).mono ?_; rintro e w4 ⟨rfl, hb4⟩; have hb4' := B3.out.trans (hb4.mono B3.out.size); have x40 := (hb4'.cell (p := ⟨w.heap.size, 0, none⟩) hlt0).trans g10; have x41 := (hb4'.cell (p := ⟨w.heap.size, 1, none⟩) hlt0).trans g11; have x42 := (hb4'.cell (p := ⟨w.heap.size, 2, none⟩) hlt0).trans g12; have x43 := (hb4'.cell (p := ⟨w.heap.size, 3, none⟩) hlt0).trans g13; have x44 := (hb4'.cell (p := ⟨w.heap.size, 4, none⟩) hlt0).trans g14; have B4 := Lib.hid hb4'; clear hb4 hb4')
      | (go_at_call 14; have _g := B2; clear _g; refine (CU.out _ _).mono ?_; rintro e w3 ⟨rfl, hb3⟩; have hb3' := B2.out.trans (hb3.mono B2.out.size); have x30 := (hb3'.cell (p := ⟨w.heap.size, 0, none⟩) hlt0).trans g10; have x31 := (hb3'.cell (p := ⟨w.heap.size, 1, none⟩) hlt0).trans g11; have x32 := (hb3'.cell (p := ⟨w.heap.size, 2, none⟩) hlt0).trans g12; have x33 := (hb3'.cell (p := ⟨w.heap.size, 3, none⟩) hlt0).trans g13; have x34 := (hb3'.cell (p := ⟨w.heap.size, 4, none⟩) hlt0).trans g14; have B3 := Lib.hid hb3'; clear hb3 hb3')
      | (go_at_call 14; have _g := B1; clear _g; refine (CU.out _ _).mono ?_; rintro e w2 ⟨rfl, hb2⟩; have hb2' := B1.out.trans (hb2.mono B1.out.size); have x20 := (hb2'.cell (p := ⟨w.heap.size, 0, none⟩) hlt0).trans g10; have x21 := (hb2'.cell (p := ⟨w.heap.size, 1, none⟩) hlt0).trans g11; have x22 := (hb2'.cell (p := ⟨w.heap.size, 2, none⟩) hlt0).trans g12; have x23 := (hb2'.cell (p := ⟨w.heap.size, 3, none⟩) hlt0).trans g13; have x24 := (hb2'.cell (p := ⟨w.heap.size, 4, none⟩) hlt0).trans g14; have B2 := Lib.hid hb2'; clear hb2 hb2')
      | (go_at_call 14; refine (CU.out _ _).mono ?_; rintro e w1 ⟨rfl, hb1⟩; have hb1' : Below W0.heap.size W0 w1 := Below.drew_.trans hb1; have x10 := (hb1'.cell (p := ⟨w.heap.size, 0, none⟩) hlt0).trans g10; have x11 := (hb1'.cell (p := ⟨w.heap.size, 1, none⟩) hlt0).trans g11; have x12 := (hb1'.cell (p := ⟨w.heap.size, 2, none⟩) hlt0).trans g12; have x13 := (hb1'.cell (p := ⟨w.heap.size, 3, none⟩) hlt0).trans g13; have x14 := (hb1'.cell (p := ⟨w.heap.size, 4, none⟩) hlt0).trans g14; have B1 := Lib.hid hb1'; clear hb1 hb1')
      | fail)
  have hit : ItC (mask (lows 0) w5) w5.heap.size [.int .i64 0, .int .u64 (t : Int), .slice none 0 0, .slice none 0 0, .int .i64 0, .int .u64 (n : Int), .slice none 0 0, .slice none 0 0, .int .i64 0, .int .u64 (f : Int), .slice none 0 0, .slice none 0 0, .int .i64 0, .int .u64 (IntKind.u64.wrap 2), .slice none 0 0, .slice none 0 0, .int .i64 k5, .int .u64 (n5 : Int), .slice A5 nd5 cd5, .slice AL5 nl5 cl5] [.mk 0 t [] [], .mk 0 n [] [], .mk 0 f [] [], .mk 0 2 [] [], .mk 2 0 d []] := ⟨RdI.mk_uint HT.out.1, RdI.mk_uint HT.out.2.1, RdI.mk_uint HT.out.2.2, RdI.mk_uint (n := 2) (by decide), V5.out.mask0, trivial⟩
  have hrow := RdIs.unmask (Nat.lt_succ_self _) (ItC.row (t := 41) (Nat.zero_le _) hit)
  have hs6 : (w5.alloc (.cells #[.int .i64 0, .int .u64 (t : Int), .slice none 0 0, .slice none 0 0, .int .i64 0, .int .u64 (n : Int), .slice none 0 0, .slice none 0 0, .int .i64 0, .int .u64 (f : Int), .slice none 0 0, .slice none 0 0, .int .i64 0, .int .u64 (IntKind.u64.wrap 2), .slice none 0 0, .slice none 0 0, .int .i64 k5, .int .u64 (n5 : Int), .slice A5 nd5 cd5, .slice AL5 nl5 cl5] 41)).heap.size = w5.heap.size + 1 := by simp
  have HROW := Lib.hid (RdIs.more (Nat.le_of_eq hs6.symm) hrow)
  have HS6 := Lib.hid (Nat.lt_of_lt_of_le (Nat.lt_succ_self w5.heap.size) (Nat.le_of_eq hs6.symm))
  have B6 := Lib.hid (HB0.out.trans ((B5.out.mono (by have := HS0.out; omega)).alloc (by have := H5.out; omega) (.cells #[.int .i64 0, .int .u64 (t : Int), .slice none 0 0, .slice none 0 0, .int .i64 0, .int .u64 (n : Int), .slice none 0 0, .slice none 0 0, .int .i64 0, .int .u64 (f : Int), .slice none 0 0, .slice none 0 0, .int .i64 0, .int .u64 (IntKind.u64.wrap 2), .slice none 0 0, .slice none 0 0, .int .i64 k5, .int .u64 (n5 : Int), .slice A5 nd5 cd5, .slice AL5 nl5 cl5] 41)))
  clear hit hrow hs6 x10 x11 x12 x13 x14 x20 x21 x22 x23 x24 x30 x31 x32 x33 x34 x40 x41 x42 x43 x44 x50 x51 x52 x53 x54
  go_wp2_with fail
  go_ret
  exact ⟨_, rfl, HS6.out, HROW.out, B6.out⟩
end Go.Proofs.YtldnokgdgafphaaDoor
