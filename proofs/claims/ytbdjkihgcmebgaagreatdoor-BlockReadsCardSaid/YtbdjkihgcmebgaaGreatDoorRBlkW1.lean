/- What Check and items of layer 5's reference return. (Made by gen/BlkW1.py.) -/
import Derived.Test.YtbdjkihgcmebgaaGreatDoorRBlkD
import Derived.Test.YtbdjkihgcmebgaaGreatDoorRCborD2
import Derived.Test.YtbdjkihgcmebgaaGreatDoorRShaE
import Derived.Deep.RegionHeld3
namespace Go.Proofs.YtbdjkihgcmebgaaGreatDoor
open Go.RowKit

set_option maxRecDepth 100000 in
set_option maxHeartbeats 1000000 in
/-- Uint of the reference, its value whole. -/
theorem ruintV (n : Int) (w : World) :
    Calls Tryz.prog 20 #[.int .u64 n] w fun e w' => e = .returned (.agg #[.int .i64 0, .int .u64 n, .slice none 0 0, .slice none 0 0]) ∧ Below w.heap.size w w' := by
  go_enter Tryz.func20, Tryz.ntmps20
  go_wp2_with fail
  exact bodyPost_ret (v := .agg #[.int .i64 0, .int .u64 n, .slice none 0 0, .slice none 0 0]) (by simp [results, Tryz.results20, go_sem]) rfl ⟨rfl, (Below.refl _ _).alloc (Nat.le_refl _) _⟩

theorem RdI.mask0 {w : World} {B : Nat} {v : Value} {x : Itm} (h : RdI w B v x) : RdI (mask (lows 0) w) B v x := RdI.keep (w := w) (w' := mask (lows 0) w) (fun _ _ => mask_cell (lows_f.2 (Nat.zero_le _))) h
theorem RdIs.unmask {S : Nat → Bool} {w : World} {B b o : Nat} {l : List Itm} (hb : b < B) (h : RdIs (mask S w) B b o l) : RdIs w B b o l := h.sub (Nat.le_refl _) (fun _ _ _ hc => mask_sub hc) hb

set_option maxRecDepth 100000 in
set_option maxHeartbeats 2000000 in
theorem rcheckB_any (t n f : Nat) (c : Int) (A : Option Addr) (nd cd : Nat) (d : List UInt8) (w : World) (hd : d.length = nd) :
    Calls Tryz.prog 13 #[blkV t n f c A nd cd] w fun e w' => e = .returned (.bool (blkOk ⟨t, n, f, c, d⟩)) ∧ Below w.heap.size w w' := by
  obtain ⟨R, hR⟩ : ∃ R, R = blkOk ⟨t, n, f, c, d⟩ := ⟨_, rfl⟩
  rw [← hR]
  have hR2 : R = true ↔ ((1 ≤ (t : Int) ∧ (t : Int) ≤ 255) ∧ ¬ (n : Int) = 0 ∧ (¬ (t : Int) = 1 ∨ (n : Int) = 1) ∧ (0 ≤ c ∧ c ≤ 2) ∧ (nd : Int) ≤ 4096) := by
    rw [hR, ← hd, blkOk_iff]
    simp only
    omega
  clear hR hd
  have hN0 : 0 ≤ (n : Int) := by omega
  unfold blkV
  generalize (t : Int) = T at *
  generalize (n : Int) = N at *
  have no : ∀ (_ : ¬ R = true), R = false := fun h => by simpa using h
  by_cases h1 : T < 1
  · obtain rfl := no (by rw [hR2]; omega)
    clear hR2 no
    have h1n : ¬ 1 ≤ T := by omega
    go_enter Tryz.func13, Tryz.ntmps13
    go_wp2_with fail
    go_ret
    exact ⟨rfl, (Below.refl _ _).alloc (Nat.le_refl _) _⟩
  have h1p : 1 ≤ T := by omega
  by_cases h2 : 255 < T
  · obtain rfl := no (by rw [hR2]; omega)
    clear hR2 no
    have h2n : ¬ T ≤ 255 := by omega
    go_enter Tryz.func13, Tryz.ntmps13
    go_wp2_with fail
    go_ret
    exact ⟨rfl, (Below.refl _ _).alloc (Nat.le_refl _) _⟩
  have h2p : T ≤ 255 := by omega
  by_cases h3 : N = 0
  · obtain rfl := no (by rw [hR2]; omega)
    clear hR2 no
    have h3n : ¬ 0 < N := by omega
    go_enter Tryz.func13, Tryz.ntmps13
    go_wp2_with fail
    go_ret
    exact ⟨rfl, (Below.refl _ _).alloc (Nat.le_refl _) _⟩
  have h3p : 0 < N := by omega
  by_cases h4 : c < 0
  · obtain rfl := no (by rw [hR2]; omega)
    clear hR2 no
    have h4n : ¬ 0 ≤ c := by omega
    go_enter Tryz.func13, Tryz.ntmps13
    go_wp2_with fail
    go_ret
    exact ⟨rfl, (Below.refl _ _).alloc (Nat.le_refl _) _⟩
  have h4p : 0 ≤ c := by omega
  by_cases h5 : 2 < c
  · obtain rfl := no (by rw [hR2]; omega)
    clear hR2 no
    have h5n : ¬ c ≤ 2 := by omega
    go_enter Tryz.func13, Tryz.ntmps13
    go_wp2_with fail
    go_ret
    exact ⟨rfl, (Below.refl _ _).alloc (Nat.le_refl _) _⟩
  have h5p : c ≤ 2 := by omega
  by_cases h6 : (4096 : Int) < nd
  · obtain rfl := no (by rw [hR2]; omega)
    clear hR2 no
    have h6n : ¬ (nd : Int) ≤ 4096 := by omega
    have h6m : 4096 < nd := by omega
    go_enter Tryz.func13, Tryz.ntmps13
    go_wp2_with fail
    go_ret
    exact ⟨rfl, (Below.refl _ _).alloc (Nat.le_refl _) _⟩
  have h6p : (nd : Int) ≤ 4096 := by omega
  have h6q : nd ≤ 4096 := by omega
  have h6d : decide ((nd : Int) ≤ 4096) = true := by simpa using h6p
  by_cases h7 : T = 1
  · subst h7
    by_cases h8 : N = 1
    · subst h8
      obtain rfl : R = true := by rw [hR2]; omega
      clear hR2 no
      go_enter Tryz.func13, Tryz.ntmps13
      go_wp2_with fail
      go_ret
      exact ⟨rfl, (Below.refl _ _).alloc (Nat.le_refl _) _⟩
    · obtain rfl := no (by rw [hR2]; omega)
      have h8b : (N == 1) = false := by rw [beq_eq_false_iff_ne]; exact h8
      clear hR2 no
      go_enter Tryz.func13, Tryz.ntmps13
      go_wp2_with fail
      go_ret
      exact ⟨rfl, (Below.refl _ _).alloc (Nat.le_refl _) _⟩
  · obtain rfl : R = true := by rw [hR2]; omega
    have h7b : (T == 1) = false := by rw [beq_eq_false_iff_ne]; exact h7
    clear hR2 no
    go_enter Tryz.func13, Tryz.ntmps13
    go_wp2_with fail
    go_ret
    exact ⟨rfl, (Below.refl _ _).alloc (Nat.le_refl _) _⟩

set_option maxRecDepth 100000 in
set_option maxHeartbeats 4000000 in
theorem ritems_any (t n f C : Nat) (A : Option Addr) (nd cd B : Nat) (d : List UInt8) (w : World) (ht : t < 18446744073709551616) (hn : n < 18446744073709551616) (hf : f < 18446744073709551616) (hC : C ≤ 2) (hB : B ≤ w.heap.size) (h : Rd w B A nd d) (hnd : nd ≤ 140737488355328) :
    Calls Tryz.prog 11 #[blkV t n f (C : Int) A nd cd] w fun e w' => ∃ g, e = .returned (.slice (some ⟨g, 0, none⟩) 5 5) ∧ g < w'.heap.size ∧ RdIs w' w'.heap.size g 0 (partsB ⟨t, n, f, (C : Int), d⟩) ∧ Below w.heap.size w w' := by
  have HX : Hid (partsB ⟨t, n, f, (C : Int), d⟩ = [.mk 0 t [] [], .mk 0 n [] [], .mk 0 f [] [], .mk 0 C [] [], .mk 2 0 d []]) := rfl
  rw [HX.out]
  have HT := Lib.hid (And.intro ht (And.intro hn hf))
  have HCB : Hid (C < 18446744073709551616) := by show _ < _; omega
  have hwc : IntKind.u64.wrap (C : Int) = (C : Int) := by rw [show IntKind.u64.wrap (C : Int) = (C : Int) % 18446744073709551616 from rfl]; omega
  have HB0 := Lib.hid ((Below.refl w.heap.size w).alloc (Nat.le_refl _) (.cells #[.int .u64 (t : Int), .int .u64 (n : Int), .int .u64 (f : Int), .int .i64 (C : Int), .slice A nd cd] 25))
  have G0 := Lib.hid (fun (W : World) (hb : Below (w.heap.size + 1) (w.alloc (.cells #[.int .u64 (t : Int), .int .u64 (n : Int), .int .u64 (f : Int), .int .i64 (C : Int), .slice A nd cd] 25)) W) => box5 (g := w.heap.size) rfl hb)
  have HS0 : Hid ((w.alloc (.cells #[.int .u64 (t : Int), .int .u64 (n : Int), .int .u64 (f : Int), .int .i64 (C : Int), .slice A nd cd] 25)).heap.size = w.heap.size + 1) := by show _ = _; simp
  have CB := Lib.hid (fun (W : World) (hb : Below w.heap.size w W) => rbytes_any A nd cd B d W (Nat.le_trans hB hb.size) (h.below (hb.mono hB)) hnd)
  have CU := Lib.hid ruintV
  clear h hB hnd ht hn hf hC
  unfold blkV
  go_enter Tryz.func11, Tryz.ntmps11
  go_wp2_with fail
  generalize (w.alloc (.cells #[.int .u64 (t : Int), .int .u64 (n : Int), .int .u64 (f : Int), .int .i64 (C : Int), .slice A nd cd] 25)) = W0 at *
  refine wp_region_held_drew (S := fun W => Below W0.heap.size W0 W) (by kernel_rfl) Below.drew_ (fun hHeld => ?_)
  have BC := Lib.hid hHeld
  refine takeR (i := 0) (v := ?v0) rfl (by kernel_rfl) (by kernel_rfl) (by kernel_rfl) (fun _ _ _ h => h) (by rfl) ?hy0 (by assumption) ?rest0
  case hy0 => (intro W hSw; go_simp; try with_reducible rfl)
  try simp only [Act.put, List.setIfInBounds_toArray, List.set_cons_succ, List.set_cons_zero]
  refine takeR (i := 1) (v := ?v1) rfl (by kernel_rfl) (by kernel_rfl) (by kernel_rfl) (fun _ _ _ h => h) (by rfl) ?hy1 (by assumption) ?rest1
  case hy1 => (intro W hSw; have hq := G0.out _ (hSw.mono (Nat.le_of_eq HS0.out.symm)); obtain ⟨x0, x1, x2, x3, x4⟩ := hq; go_simp; try with_reducible rfl)
  try simp only [Act.put, List.setIfInBounds_toArray, List.set_cons_succ, List.set_cons_zero]
  refine takeR (i := 3) (v := ?v3) rfl (by kernel_rfl) (by kernel_rfl) (by kernel_rfl) (fun _ _ _ h => h) (by rfl) ?hy3 (by assumption) ?rest3
  case hy3 => (intro W hSw; go_simp; try with_reducible rfl)
  try simp only [Act.put, List.setIfInBounds_toArray, List.set_cons_succ, List.set_cons_zero]
  refine takeR (i := 4) (v := ?v4) rfl (by kernel_rfl) (by kernel_rfl) (by kernel_rfl) (fun _ _ _ h => h) (by rfl) ?hy4 (by assumption) ?rest4
  case hy4 => (intro W hSw; have hq := G0.out _ (hSw.mono (Nat.le_of_eq HS0.out.symm)); obtain ⟨x0, x1, x2, x3, x4⟩ := hq; go_simp; try with_reducible rfl)
  try simp only [Act.put, List.setIfInBounds_toArray, List.set_cons_succ, List.set_cons_zero]
  refine takeR (i := 6) (v := ?v6) rfl (by kernel_rfl) (by kernel_rfl) (by kernel_rfl) (fun _ _ _ h => h) (by rfl) ?hy6 (by assumption) ?rest6
  case hy6 => (intro W hSw; go_simp; try with_reducible rfl)
  try simp only [Act.put, List.setIfInBounds_toArray, List.set_cons_succ, List.set_cons_zero]
  refine takeR (i := 7) (v := ?v7) rfl (by kernel_rfl) (by kernel_rfl) (by kernel_rfl) (fun _ _ _ h => h) (by rfl) ?hy7 (by assumption) ?rest7
  case hy7 => (intro W hSw; have hq := G0.out _ (hSw.mono (Nat.le_of_eq HS0.out.symm)); obtain ⟨x0, x1, x2, x3, x4⟩ := hq; go_simp; try with_reducible rfl)
  try simp only [Act.put, List.setIfInBounds_toArray, List.set_cons_succ, List.set_cons_zero]
  refine takeR (i := 9) (v := ?v9) rfl (by kernel_rfl) (by kernel_rfl) (by kernel_rfl) (fun _ _ _ h => h) (by rfl) ?hy9 (by assumption) ?rest9
  case hy9 => (intro W hSw; go_simp; try with_reducible rfl)
  try simp only [Act.put, List.setIfInBounds_toArray, List.set_cons_succ, List.set_cons_zero]
  refine takeR (i := 10) (v := ?v10) rfl (by kernel_rfl) (by kernel_rfl) (by kernel_rfl) (fun _ _ _ h => h) (by rfl) ?hy10 (by assumption) ?rest10
  case hy10 => (intro W hSw; have hq := G0.out _ (hSw.mono (Nat.le_of_eq HS0.out.symm)); obtain ⟨x0, x1, x2, x3, x4⟩ := hq; go_simp; try with_reducible rfl)
  try simp only [Act.put, List.setIfInBounds_toArray, List.set_cons_succ, List.set_cons_zero]
  refine takeR (i := 11) (v := ?v11) rfl (by kernel_rfl) (by kernel_rfl) (by kernel_rfl) (fun _ _ _ h => h) (by rfl) ?hy11 (by assumption) ?rest11
  case hy11 => (intro W hSw; go_simp; try with_reducible rfl)
  try simp only [Act.put, List.setIfInBounds_toArray, List.set_cons_succ, List.set_cons_zero]
  refine takeR (i := 13) (v := ?v13) rfl (by kernel_rfl) (by kernel_rfl) (by kernel_rfl) (fun _ _ _ h => h) (by rfl) ?hy13 (by assumption) ?rest13
  case hy13 => (intro W hSw; go_simp; try with_reducible rfl)
  try simp only [Act.put, List.setIfInBounds_toArray, List.set_cons_succ, List.set_cons_zero]
  refine takeR (i := 14) (v := ?v14) rfl (by kernel_rfl) (by kernel_rfl) (by kernel_rfl) (fun _ _ _ h => h) (by rfl) ?hy14 (by assumption) ?rest14
  case hy14 => (intro W hSw; have hq := G0.out _ (hSw.mono (Nat.le_of_eq HS0.out.symm)); obtain ⟨x0, x1, x2, x3, x4⟩ := hq; go_simp; try with_reducible rfl)
  try simp only [Act.put, List.setIfInBounds_toArray, List.set_cons_succ, List.set_cons_zero]
  refine wpAnyH_ready (rs := [2]) (by kernel_rfl) (by simp) ?_
  refine AllReadyH.cons rfl (fun K hK => ?_) AllReadyH.nil
  rw [if_pos (by rfl)]
  go_simp
  refine (CU.out _ _).mono ?_
  rintro e w2 ⟨rfl, hb⟩
  replace BC := Lib.hid (BC.out.trans (hb.mono BC.out.size))
  clear hb
  go_simp
  refine hK.out _ _ BC.out (fun hHeld => ?_)
  try simp only [Act.put, List.setIfInBounds_toArray, List.set_cons_succ, List.set_cons_zero]
  clear hK K
  refine wpAnyH_ready (rs := [5]) (by kernel_rfl) (by simp) ?_
  refine AllReadyH.cons rfl (fun K hK => ?_) AllReadyH.nil
  rw [if_pos (by rfl)]
  go_simp
  refine (CU.out _ _).mono ?_
  rintro e w5 ⟨rfl, hb⟩
  replace BC := Lib.hid (BC.out.trans (hb.mono BC.out.size))
  clear hb
  go_simp
  refine hK.out _ _ BC.out (fun hHeld => ?_)
  try simp only [Act.put, List.setIfInBounds_toArray, List.set_cons_succ, List.set_cons_zero]
  clear hK K
  refine wpAnyH_ready (rs := [8]) (by kernel_rfl) (by simp) ?_
  refine AllReadyH.cons rfl (fun K hK => ?_) AllReadyH.nil
  rw [if_pos (by rfl)]
  go_simp
  refine (CU.out _ _).mono ?_
  rintro e w8 ⟨rfl, hb⟩
  replace BC := Lib.hid (BC.out.trans (hb.mono BC.out.size))
  clear hb
  go_simp
  refine hK.out _ _ BC.out (fun hHeld => ?_)
  try simp only [Act.put, List.setIfInBounds_toArray, List.set_cons_succ, List.set_cons_zero]
  clear hK K
  refine wpAnyH_ready (rs := [12]) (by kernel_rfl) (by simp) ?_
  refine AllReadyH.cons rfl (fun K hK => ?_) AllReadyH.nil
  rw [if_pos (by rfl)]
  go_simp
  refine (CU.out _ _).mono ?_
  rintro e w12 ⟨rfl, hb⟩
  replace BC := Lib.hid (BC.out.trans (hb.mono BC.out.size))
  clear hb
  go_simp
  refine hK.out _ _ BC.out (fun hHeld => ?_)
  try simp only [Act.put, List.setIfInBounds_toArray, List.set_cons_succ, List.set_cons_zero]
  clear hK K
  refine wpAnyH_ready (rs := [15]) (by kernel_rfl) (by simp) ?_
  refine AllReadyH.cons rfl (fun K hK => ?_) AllReadyH.nil
  rw [if_pos (by rfl)]
  go_simp
  refine (CB.out _ (HB0.out.trans (BC.out.mono HB0.out.size))).mono ?_
  rintro e w5 ⟨v5, rfl, hv5, hb⟩
  obtain ⟨k5, n5, A5, nd5, cd5, AL5, nl5, cl5, rfl⟩ := hv5.form
  have V5 := Lib.hid hv5
  clear hv5
  replace BC := Lib.hid (BC.out.trans (hb.mono BC.out.size))
  clear hb
  go_simp
  refine hK.out _ _ BC.out (fun hHeld => ?_)
  try simp only [Act.put, List.setIfInBounds_toArray, List.set_cons_succ, List.set_cons_zero]
  clear hK K
  refine wpAnyH_ready (rs := [16]) (by kernel_rfl) (by simp) ?_
  refine AllReadyH.cons rfl (fun K hK => ?_) AllReadyH.nil
  rw [if_pos (by rfl)]
  go_simp
  have hit : ItC (mask (lows 0) w5) w5.heap.size [.int .i64 0, .int .u64 (t : Int), .slice none 0 0, .slice none 0 0, .int .i64 0, .int .u64 (n : Int), .slice none 0 0, .slice none 0 0, .int .i64 0, .int .u64 (f : Int), .slice none 0 0, .slice none 0 0, .int .i64 0, .int .u64 (C : Int), .slice none 0 0, .slice none 0 0, .int .i64 k5, .int .u64 (n5 : Int), .slice A5 nd5 cd5, .slice AL5 nl5 cl5] [.mk 0 t [] [], .mk 0 n [] [], .mk 0 f [] [], .mk 0 C [] [], .mk 2 0 d []] := ⟨RdI.mk_uint HT.out.1, RdI.mk_uint HT.out.2.1, RdI.mk_uint HT.out.2.2, RdI.mk_uint HCB.out, V5.out.mask0, trivial⟩
  have hrow := RdIs.unmask (Nat.lt_succ_self _) (ItC.row (t := 42) (Nat.zero_le _) hit)
  have HROW := Lib.hid (RdIs.more (w := w5.alloc (.cells #[.int .i64 0, .int .u64 (t : Int), .slice none 0 0, .slice none 0 0, .int .i64 0, .int .u64 (n : Int), .slice none 0 0, .slice none 0 0, .int .i64 0, .int .u64 (f : Int), .slice none 0 0, .slice none 0 0, .int .i64 0, .int .u64 (C : Int), .slice none 0 0, .slice none 0 0, .int .i64 k5, .int .u64 (n5 : Int), .slice A5 nd5 cd5, .slice AL5 nl5 cl5] 42)) (B' := (w5.alloc (.cells #[.int .i64 0, .int .u64 (t : Int), .slice none 0 0, .slice none 0 0, .int .i64 0, .int .u64 (n : Int), .slice none 0 0, .slice none 0 0, .int .i64 0, .int .u64 (f : Int), .slice none 0 0, .slice none 0 0, .int .i64 0, .int .u64 (C : Int), .slice none 0 0, .slice none 0 0, .int .i64 k5, .int .u64 (n5 : Int), .slice A5 nd5 cd5, .slice AL5 nl5 cl5] 42)).heap.size) (by simp) hrow)
  have BN := Lib.hid (BC.out.alloc BC.out.size (.cells #[.int .i64 0, .int .u64 (t : Int), .slice none 0 0, .slice none 0 0, .int .i64 0, .int .u64 (n : Int), .slice none 0 0, .slice none 0 0, .int .i64 0, .int .u64 (f : Int), .slice none 0 0, .slice none 0 0, .int .i64 0, .int .u64 (C : Int), .slice none 0 0, .slice none 0 0, .int .i64 k5, .int .u64 (n5 : Int), .slice A5 nd5 cd5, .slice AL5 nl5 cl5] 42))
  clear hit hrow
  refine hK.out _ _ BN.out (fun hHeld => ?_)
  try simp only [Act.put, List.setIfInBounds_toArray, List.set_cons_succ, List.set_cons_zero]
  clear hK K
  refine takeR (i := 17) (v := ?v17) rfl (by kernel_rfl) (by kernel_rfl) (by kernel_rfl) (fun _ _ _ h => h) (by rfl) ?hy17 (by assumption) ?rest17
  case hy17 => (intro W hSw; go_simp; try with_reducible rfl)
  try simp only [Act.put, List.setIfInBounds_toArray, List.set_cons_succ, List.set_cons_zero]
  refine wpAnyH_done (by kernel_rfl) ?_ _
  go_wp2_with fail
  go_ret
  exact ⟨_, rfl, by simp, HROW.out, HB0.out.trans (BN.out.mono HB0.out.size)⟩
end Go.Proofs.YtbdjkihgcmebgaaGreatDoor
