/- What Encode of layer 5's reference returns. (Made by gen/BlkW4.py.) -/
import Derived.Test.YtbdjkihgcmebgaaGreatDoorRBlkW3
namespace Go.Proofs.YtbdjkihgcmebgaaGreatDoor
open Go.RowKit

theorem pushB {B : Nat} {W0 w1 w2 : World} (h : Below B W0 w1) (hB : B ≤ W0.heap.size) (h2 : Below w1.heap.size w1 w2) : Below B W0 w2 :=
  h.trans (h2.mono (Nat.le_trans hB h.size))
theorem take_app_right (a b : List UInt8) (N : Nat) (h : b.length = N) : (a ++ b).take ((a ++ b).length - N) = a := by
  rw [List.length_append, h, Nat.add_sub_cancel, List.take_left]
theorem itmB_par (b : Blk) (s : List UInt8) : par (itmB b s) ≤ 1000000 ∧ hgt (itmB b s) ≤ 1001 := by
  unfold itmB partsB
  by_cases h0 : b.crc = 0
  · simp only [if_pos h0]
    simp [par, pars, hgt, hgts]
  · simp only [if_neg h0]
    simp [par, pars, hgt, hgts]

theorem rsealedB_any (t n f C g : Nat) (d : List UInt8) (W : World) (hC : C ≤ 2) (hd : d.length ≤ 4096) (hg : g < W.heap.size) (h : RdIs W W.heap.size g 0 (partsB ⟨t, n, f, (C : Int), d⟩)) :
    Calls Tryz.prog 30 #[.slice (some ⟨g, 0, none⟩) 5 5, .int .i64 (C : Int)] W (Gives (blkW ⟨t, n, f, (C : Int), d⟩) W) := by
  have key : ∀ N : Nat, ((C = 1 ∧ N = 2) ∨ (C = 2 ∧ N = 4)) → Calls Tryz.prog 30 #[.slice (some ⟨g, 0, none⟩) 5 5, .int .i64 (C : Int)] W (Gives (blkW ⟨t, n, f, (C : Int), d⟩) W) := fun N hN => by
    have hs : sumN (C : Int) = N := by rcases hN with ⟨rfl, rfl⟩ | ⟨rfl, rfl⟩ <;> rfl
    have hc : (0 : Int) ≤ (C : Int) ∧ (C : Int) ≤ 2 := by omega
    have hne : ¬ (C : Int) = 0 := by omega
    have hbl := body_len ⟨t, n, f, (C : Int), d⟩
    have hwi := wri_itm ⟨t, n, f, (C : Int), d⟩ (List.replicate N 0) (by rw [List.length_replicate]; exact hs.symm) hc
    have hpp := itmB_par ⟨t, n, f, (C : Int), d⟩ (List.replicate N 0)
    have hF := itm_fits ⟨t, n, f, (C : Int), d⟩ (List.replicate N 0)
    have hLW : (wri (itmB ⟨t, n, f, (C : Int), d⟩ (List.replicate N 0))).length ≤ 1000000 ∧ N ≤ (wri (itmB ⟨t, n, f, (C : Int), d⟩ (List.replicate N 0))).length := by
      rw [hwi, List.length_append, List.length_replicate]
      simp only at hbl
      omega
    have hQ : (wri (itmB ⟨t, n, f, (C : Int), d⟩ (List.replicate N 0))).take ((wri (itmB ⟨t, n, f, (C : Int), d⟩ (List.replicate N 0))).length - N) ++ crcBytes (C : Int) (wri (itmB ⟨t, n, f, (C : Int), d⟩ (List.replicate N 0))) = blkW ⟨t, n, f, (C : Int), d⟩ := by
      rw [hwi, take_app_right _ _ N (by simp)]
      unfold blkW sumB nulls
      rw [hs]
    have hE : itmB ⟨t, n, f, (C : Int), d⟩ (List.replicate N 0) = .mk 4 0 [] (partsB ⟨t, n, f, (C : Int), d⟩ ++ [.mk 2 0 (List.replicate N 0) []]) := by unfold itmB; rw [if_neg hne]
    rw [hE] at hpp hF hLW hQ
    have := rsealedM_any g 5 5 (partsB ⟨t, n, f, (C : Int), d⟩) (C : Int) N W (by omega) hg h rfl (by decide) (by decide) (by decide) hF hpp.1 hpp.2 hLW.1 hLW.2
    rw [hQ] at this
    exact this
  have hc : C = 0 ∨ C = 1 ∨ C = 2 := by omega
  rcases hc with rfl | h1 | h1
  · exact rsealed_0 t n f g d W hd hg h
  · exact key 2 (.inl ⟨h1, rfl⟩)
  · exact key 4 (.inr ⟨h1, rfl⟩)

set_option maxRecDepth 100000 in
set_option maxHeartbeats 4000000 in
theorem rencodeB_ok (t n f C : Nat) (A : Option Addr) (nd cd B : Nat) (d : List UInt8) (w : World) (ht : t < 18446744073709551616) (hn : n < 18446744073709551616) (hf : f < 18446744073709551616) (hB : B ≤ w.heap.size) (h : Rd w B A nd d) (hC : C ≤ 2) (hok : blkOk ⟨t, n, f, (C : Int), d⟩ = true) :
    Calls Tryz.prog 15 #[blkV t n f (C : Int) A nd cd] w (fun e w' => Below w.heap.size w w' ∧ ∃ (A' : Option Addr) (n' c' : Nat), e = .returned (.tuple #[.slice A' n' c', .int .i64 (if blkOk ⟨t, n, f, (C : Int), d⟩ = true then 0 else 50)]) ∧ n' ≤ c' ∧ Rd w' w'.heap.size A' n' (if blkOk ⟨t, n, f, (C : Int), d⟩ = true then blkW ⟨t, n, f, (C : Int), d⟩ else [])) := by
  have hd : d.length ≤ 4096 := (blkOk_iff.1 hok).2.2.2.2
  have hnd : nd ≤ 140737488355328 := by have := h.1; omega
  have HB := Lib.hid ((Below.refl w.heap.size w).alloc (Nat.le_refl _) (.cells #[.int .u64 (t : Int), .int .u64 (n : Int), .int .u64 (f : Int), .int .i64 (C : Int), .slice A nd cd] 25))
  have G0 := Lib.hid (fun (W : World) (hb : Below (w.heap.size + 1) (w.alloc (.cells #[.int .u64 (t : Int), .int .u64 (n : Int), .int .u64 (f : Int), .int .i64 (C : Int), .slice A nd cd] 25)) W) => box5 (g := w.heap.size) rfl hb)
  have HW0 : Hid (Below (w.heap.size + 1) (w.alloc (.cells #[.int .u64 (t : Int), .int .u64 (n : Int), .int .u64 (f : Int), .int .i64 (C : Int), .slice A nd cd] 25)) (w.alloc (.cells #[.int .u64 (t : Int), .int .u64 (n : Int), .int .u64 (f : Int), .int .i64 (C : Int), .slice A nd cd] 25))) := Below.refl _ _
  have HS : Hid ((w.alloc (.cells #[.int .u64 (t : Int), .int .u64 (n : Int), .int .u64 (f : Int), .int .i64 (C : Int), .slice A nd cd] 25)).heap.size = w.heap.size + 1) := by show _ = _; simp
  have C1 := Lib.hid (fun W => rcheckB_any t n f (C : Int) A nd cd d W h.1)
  have C2 := Lib.hid (fun (W : World) (hb : Below w.heap.size w W) => ritems_any t n f C A nd cd B d W ht hn hf hC (Nat.le_trans hB hb.size) (h.below (hb.mono hB)) hnd)
  have CS := Lib.hid (fun (W : World) (g : Nat) (hg : g < W.heap.size) (h : RdIs W W.heap.size g 0 (partsB ⟨t, n, f, (C : Int), d⟩)) => rsealedB_any t n f C g d W hC hd hg h)
  rw [hok] at C1
  rw [if_pos hok, if_pos hok]
  generalize blkW ⟨t, n, f, (C : Int), d⟩ = WB at *
  clear h hB hd hnd ht hn hf hok hC
  unfold blkV at *
  go_enter Tryz.func15, Tryz.ntmps15
  go_wp2_with fail
  refine (C1.out _).mono ?_
  rintro e w1 ⟨rfl, hb⟩
  have X1 := Lib.hid (pushB HW0.out (Nat.le_of_eq HS.out.symm) hb)
  have B1 := Lib.hid (HB.out.trans (X1.out.mono (Nat.le_succ _)))
  clear hb
  obtain ⟨x0, x1, x2, x3, x4⟩ := G0.out _ X1.out
  go_wp2_with fail
  refine wp_region_held_drew (S := fun W => Below w1.heap.size w1 W) (by kernel_rfl) Below.drew_ (fun hHeld => ?_)
  refine takeSl (i := 0) (v := ?v0) rfl (by kernel_rfl) (by kernel_rfl) (by kernel_rfl) (fun _ _ _ h => h) (by rfl) ?hy0 (by assumption) ?rest0
  case hy0 => (intro W hSw; obtain ⟨x0, x1, x2, x3, x4⟩ := G0.out _ (X1.out.trans (hSw.mono (Nat.le_trans (Nat.le_of_eq HS.out.symm) X1.out.size))); go_simp; try with_reducible rfl)
  try simp only [Act.put]
  try simp only [List.setIfInBounds_toArray]
  try simp only [List.set_cons_succ]
  try simp only [List.set_cons_zero]
  refine takeSl (i := 2) (v := ?v2) rfl (by kernel_rfl) (by kernel_rfl) (by kernel_rfl) (fun _ _ _ h => h) (by rfl) ?hy2 (by assumption) ?rest2
  case hy2 => (intro W hSw; go_simp; try with_reducible rfl)
  try simp only [Act.put]
  try simp only [List.setIfInBounds_toArray]
  try simp only [List.set_cons_succ]
  try simp only [List.set_cons_zero]
  refine takeSl (i := 3) (v := ?v3) rfl (by kernel_rfl) (by kernel_rfl) (by kernel_rfl) (fun _ _ _ h => h) (by rfl) ?hy3 (by assumption) ?rest3
  case hy3 => (intro W hSw; obtain ⟨x0, x1, x2, x3, x4⟩ := G0.out _ (X1.out.trans (hSw.mono (Nat.le_trans (Nat.le_of_eq HS.out.symm) X1.out.size))); go_simp; try with_reducible rfl)
  try simp only [Act.put]
  try simp only [List.setIfInBounds_toArray]
  try simp only [List.set_cons_succ]
  try simp only [List.set_cons_zero]
  have D1 : Hid (Below w.heap.size w w1.drew) := B1.out.trans (hHeld.mono B1.out.size)
  have HH := Lib.hid hHeld
  clear hHeld x0 x1 x2 x3 x4
  obtain ⟨wd, hwd⟩ : ∃ wd, wd = w1.drew := ⟨_, rfl⟩
  rw [← hwd] at D1 HH
  rw [← hwd]
  clear hwd
  refine wpAnyH_ready (rs := [1]) (by kernel_rfl) (by simp) ?_
  refine AllReadyH.cons rfl (fun K hK => ?_) AllReadyH.nil
  rw [if_pos (by rfl)]
  go_simp
  refine (C2.out _ D1.out).mono ?_
  rintro e w2 ⟨g, rfl, hg, hit, hb⟩
  have B2 := Lib.hid (D1.out.trans (hb.mono D1.out.size))
  have H2 := Lib.hid (HH.out.trans (hb.mono HH.out.size))
  have C3 := Lib.hid (CS.out _ g hg hit)
  clear hb hg hit
  go_simp
  refine hK.out _ _ H2.out (fun hHeld => ?_)
  try simp only [Act.put]
  try simp only [List.setIfInBounds_toArray]
  try simp only [List.set_cons_succ]
  try simp only [List.set_cons_zero]
  clear hK K hHeld
  refine wpAnyH_ready (rs := [4]) (by kernel_rfl) (by simp) ?_
  refine AllReadyH.cons rfl (fun K hK => ?_) AllReadyH.nil
  rw [if_pos (by rfl)]
  go_simp
  refine C3.out.mono ?_
  rintro e w3 ⟨A3, n3, c3, rfl, hr3, hc3, hb⟩
  have B3 := Lib.hid (B2.out.trans (hb.mono B2.out.size))
  have HR := Lib.hid (And.intro hr3 hc3)
  have H3 := H2.out.trans (hb.mono H2.out.size)
  clear hb hr3 hc3
  go_simp
  refine hK.out _ _ H3 (fun hHeld => ?_)
  try simp only [Act.put]
  try simp only [List.setIfInBounds_toArray]
  try simp only [List.set_cons_succ]
  try simp only [List.set_cons_zero]
  clear hK K
  refine takeSl (i := 5) (v := ?v5) rfl (by kernel_rfl) (by kernel_rfl) (by kernel_rfl) (fun _ _ _ h => h) (by rfl) ?hy5 (by assumption) ?rest5
  case hy5 => (intro W hSw; go_simp; try with_reducible rfl)
  try simp only [Act.put]
  try simp only [List.setIfInBounds_toArray]
  try simp only [List.set_cons_succ]
  try simp only [List.set_cons_zero]
  refine takeSl (i := 6) (v := ?v6) rfl (by kernel_rfl) (by kernel_rfl) (by kernel_rfl) (fun _ _ _ h => h) (by rfl) ?hy6 (by assumption) ?rest6
  case hy6 => (intro W hSw; go_simp; try with_reducible rfl)
  try simp only [Act.put]
  try simp only [List.setIfInBounds_toArray]
  try simp only [List.set_cons_succ]
  try simp only [List.set_cons_zero]
  refine wpAnyH_done (by kernel_rfl) ?_ _
  go_wp2_with fail
  go_ret2
  exact ⟨B3.out, _, _, _, rfl, HR.out.2, HR.out.1⟩

set_option maxRecDepth 100000 in
set_option maxHeartbeats 4000000 in
theorem rencodeB_no (t n f : Nat) (c : Int) (A : Option Addr) (nd cd : Nat) (d : List UInt8) (w : World) (hd : d.length = nd) (hok : blkOk ⟨t, n, f, c, d⟩ = false) :
    Calls Tryz.prog 15 #[blkV t n f c A nd cd] w (fun e w' => Below w.heap.size w w' ∧ ∃ (A' : Option Addr) (n' c' : Nat), e = .returned (.tuple #[.slice A' n' c', .int .i64 (if blkOk ⟨t, n, f, c, d⟩ = true then 0 else 50)]) ∧ n' ≤ c' ∧ Rd w' w'.heap.size A' n' (if blkOk ⟨t, n, f, c, d⟩ = true then blkW ⟨t, n, f, c, d⟩ else [])) := by
  have HB := Lib.hid ((Below.refl w.heap.size w).alloc (Nat.le_refl _) (.cells #[.int .u64 (t : Int), .int .u64 (n : Int), .int .u64 (f : Int), .int .i64 c, .slice A nd cd] 25))
  have C1 := Lib.hid (fun W => rcheckB_any t n f c A nd cd d W hd)
  rw [hok] at C1
  rw [hok, if_neg (by decide), if_neg (by decide)]
  clear hok hd
  unfold blkV at *
  go_enter Tryz.func15, Tryz.ntmps15
  go_wp2_with fail
  refine (C1.out _).mono ?_
  rintro e w1 ⟨rfl, hb⟩
  have B1 := Lib.hid (HB.out.trans (hb.mono HB.out.size))
  clear hb
  go_wp2_with fail
  go_ret2
  exact ⟨B1.out, _, _, _, rfl, Nat.le_refl _, Rd.nil_⟩

theorem rencodeB_any (b : Blk) (A : Option Addr) (nd cd B : Nat) (w : World) (hb : Bd b) (hB : B ≤ w.heap.size) (h : Rd w B A nd b.dat) :
    Calls Tryz.prog 15 #[blkV b.typ b.num b.flg b.crc A nd cd] w (fun e w' => Below w.heap.size w w' ∧ ∃ (A' : Option Addr) (n' c' : Nat), e = .returned (.tuple #[.slice A' n' c', .int .i64 (if blkOk b = true then 0 else 50)]) ∧ n' ≤ c' ∧ Rd w' w'.heap.size A' n' (if blkOk b = true then blkW b else [])) := by
  obtain ⟨t, n, f, c, d⟩ := b
  cases hok : blkOk ⟨t, n, f, c, d⟩ with
  | false =>
    have := rencodeB_no t n f c A nd cd d w h.1 hok
    rw [hok] at this
    exact this
  | true =>
    obtain ⟨C, rfl⟩ : ∃ C : Nat, c = (C : Int) := ⟨c.toNat, by have := (blkOk_iff.1 hok).2.2.2.1; simp only at this; omega⟩
    have hC : C ≤ 2 := by have := (blkOk_iff.1 hok).2.2.2.1; simp only at this; omega
    have := rencodeB_ok t n f C A nd cd B d w hb.1 hb.2.1 hb.2.2 hB h hC hok
    rw [hok] at this
    exact this
end Go.Proofs.YtbdjkihgcmebgaaGreatDoor
