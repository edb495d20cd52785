/- RecordWrites. (Made by gen/RecW1.py.) -/
import Derived.Test.YtlkppnghfgiapaaDoorRecP
import Derived.Test.YtlkppnghfgiapaaDoorRcdFr
namespace Go.Proofs.YtlkppnghfgiapaaDoor
open Go.RowKit

set_option maxRecDepth 100000 in
set_option maxHeartbeats 16000000 in
theorem recordWrites_walk (a0 : Int) (t : Int) (A : Option Addr) (n c : Nat) (d : List UInt8) (w : World) (X : Snt14) (w0 : (Lit.int .u64 a0).wf = true) (hd : n ≤ c ∧ n ≤ maxLen ∧ Rd w w.heap.size A n d) (hA : Lds14 X w) :
    Calls Tryd.prog 3 #[.int .u64 a0, recV t A n c] w fun e w' => e = .returned (.bool true) ∧ Below w.heap.size w w' := by
  obtain ⟨salt, rfl, hsl⟩ := nat_u64_14 w0
  obtain ⟨-, -, h⟩ := hd
  have LA : Hid (∀ W, Below w.heap.size w W → Lds14 X W) := fun W hW => hA.below hW (Nat.le_refl _)
  obtain ⟨w1, hw1⟩ : ∃ w1, w1 = w.alloc (.cells #[.int .i64 t, .slice A n c] 25) := ⟨_, rfl⟩
  have hb1 : Below w.heap.size w w1 := by rw [hw1]; exact (Below.refl _ _).alloc (Nat.le_refl _) _
  have hbox : w1.heap[w.heap.size]? = some (.cells #[.int .i64 t, .slice A n c] 25 (0, 0)) := by rw [hw1]; exact heap_alloc_new w _
  have B1 := Lib.hid hb1
  have HX := Lib.hid hbox
  have HG : Hid (w.heap.size < w1.heap.size) := (Array.getElem?_eq_some_iff.1 hbox).1
  have W1 := Lib.hid hw1
  have HD := Lib.hid h.1
  have HH := Lib.hid (fun W (hW : Below w.heap.size w W) => heads14_any X W (LA.out W hW))
  have R1 := Lib.hid (fun W (hW : Below w.heap.size w W) => h.below hW)
  have K1 : Hid (∀ W, Below w1.heap.size w1 W → W.cell? ⟨w.heap.size, 0, none⟩ = some (.int .i64 t) ∧ W.cell? ⟨w.heap.size, 1, none⟩ = some (.slice A n c)) := fun W hW => (row2 ((hW.block _ HG.out).trans HX.out)).1
  obtain ⟨x0, x1⟩ := K1.out w1 (Below.refl _ _)
  by_cases hlong : n ≤ 9000
  case neg =>
    have hi : (9000 : Int) < (n : Int) := by omega
    clear h hb1 hbox hA hlong
    unfold recV
    go_enter Tryd.func3, Tryd.ntmps3
    simp only [hw1] at x0 x1
    clear hw1
    go_wp2_with fail
    rw [← W1.out]
    refine (HH.out w1 B1.out).mono ?_
    rintro e w2 ⟨rfl, hb2⟩
    have B2 := Lib.hid (B1.out.trans (hb2.mono B1.out.size))
    clear hb2
    go_wp2_with fail
    go_ret
    exact ⟨rfl, B2.out⟩
  have hi : ¬ (9000 : Int) < (n : Int) := by omega
  have HN := Lib.hid hlong
  have CF := Lib.hid (cframe_any X salt t A n c w.heap.size d w1 (LA.out w1 hb1) hsl (R1.out w1 hb1) hb1.size)
  have CR := Lib.hid (fun W (hW : Below w.heap.size w W) => rframe_any salt t A n c w.heap.size d W hsl (R1.out W hW) hW.size)
  have CZ := Lib.hid (fun W (hW : Below w.heap.size w W) => csize_any X t A n c d W (LA.out W hW) HD.out)
  have RZ := Lib.hid (fun W => rsize_any t A n c d W HD.out (by omega))
  unfold FrmR at CF CR
  generalize (if rokR ⟨t, d⟩ = true then frameR salt ⟨t, d⟩ else []) = L at *
  generalize (if rokR ⟨t, d⟩ = true then ((n : Int) + 7) else 0) = SZ at *
  generalize (if rokR ⟨t, d⟩ = true then (0 : Int) else 140) = ER at *
  clear h hb1 hbox hA hlong hsl
  unfold recV at *
  go_enter Tryd.func3, Tryd.ntmps3
  simp only [hw1] at x0 x1
  clear hw1
  go_upto_region 4 with (first
    | (go_at_call 8; rw [← W1.out] at *; refine CF.out.mono ?_; rintro e w2 ⟨hb2, v2, z2, rfl, rfl, ho2⟩; have O2 := Lib.hid ho2; have D2 := Lib.hid hb2; have B2 := Lib.hid (B1.out.trans (hb2.mono B1.out.size)); clear ho2 x0 x1; obtain ⟨x0, x1⟩ := K1.out w2 hb2; clear hb2)
    | fail)
  go_upto_region 5 with (first
    | (go_at_call 9; refine (CR.out w2 B2.out).mono ?_; rintro e w3 ⟨hb3, v3, z3, rfl, rfl, ho3⟩; have O3 := Lib.hid ho3; have D3 := Lib.hid (D2.out.trans (hb3.mono D2.out.size)); have B3 := Lib.hid (B2.out.trans (hb3.mono B2.out.size)); have O2b := Lib.hid (O2.out.below hb3); clear ho3 hb3 x0 x1)
    | fail)
  obtain ⟨A2, c2, rfl, hc2, -, hr2⟩ := O2b.out.rd
  obtain ⟨A3, c3, rfl, hc3, -, hr3⟩ := O3.out.rd
  have CM := Lib.hid (fun W (hW : Below w3.heap.size w3 W) => same_any A2 A3 L.length c2 L.length c3 _ _ L L W (hr2.below hW) (hr3.below hW))
  rw [beq_self_eq_true] at CM
  generalize L.length = nl at *
  clear hr2 hr3 hc2 hc3
  refine wp_region_held_drew (S := fun W => Below w3.heap.size w3 W) (by kernel_rfl) (Below.refl _ _).drew (fun hHeld => ?_)
  refine takeR (i := 0) (v := ?v0_1) rfl (by kernel_rfl) (by kernel_rfl) (by kernel_rfl) (fun _ _ _ h => h) (by rfl) ?hy0_1 (by assumption) ?rest0_1
  case hy0_1 => (intro W hSw; go_simp; try with_reducible rfl)
  try simp only [Act.put]
  try simp only [List.setIfInBounds_toArray]
  try simp only [List.set_cons_succ]
  try simp only [List.set_cons_zero]
  refine takeR (i := 1) (v := ?v1_2) rfl (by kernel_rfl) (by kernel_rfl) (by kernel_rfl) (fun _ _ _ h => h) (by rfl) ?hy1_2 (by assumption) ?rest1_2
  case hy1_2 => (intro W hSw; go_simp; try with_reducible rfl)
  try simp only [Act.put]
  try simp only [List.setIfInBounds_toArray]
  try simp only [List.set_cons_succ]
  try simp only [List.set_cons_zero]
  have BT : Hid (Below w3.heap.size w3 w3.drew) := (Below.refl _ _).drew
  clear hHeld
  obtain ⟨wc, hwc⟩ : ∃ wc, wc = w3.drew := ⟨_, rfl⟩
  rw [← hwc] at BT
  rw [← hwc]
  clear hwc
  have BW : Hid (Below w.heap.size w wc) := B3.out.trans (BT.out.mono B3.out.size)
  refine wpAnyH_ready (rs := [2]) (by kernel_rfl) (by simp) ?_
  refine AllReadyH.cons rfl (fun K hK => ?_) AllReadyH.nil
  rw [if_pos (by rfl)]
  go_simp
  refine (CM.out wc BT.out).mono ?_
  rintro e wz ⟨rfl, rfl⟩
  refine hK.out _ _ BT.out (fun hHeld => ?_)
  try simp only [Act.put]
  try simp only [List.setIfInBounds_toArray]
  try simp only [List.set_cons_succ]
  try simp only [List.set_cons_zero]
  clear hK K
  refine takeR (i := 3) (v := ?v3_3) rfl (by kernel_rfl) (by kernel_rfl) (by kernel_rfl) (fun _ _ _ h => h) (by rfl) ?hy3_3 (by assumption) ?rest3_3
  case hy3_3 => (intro W hSw; go_simp; try with_reducible rfl)
  try simp only [Act.put]
  try simp only [List.setIfInBounds_toArray]
  try simp only [List.set_cons_succ]
  try simp only [List.set_cons_zero]
  refine takeR (i := 4) (v := ?v4_4) rfl (by kernel_rfl) (by kernel_rfl) (by kernel_rfl) (fun _ _ _ h => h) (by rfl) ?hy4_4 (by assumption) ?rest4_4
  case hy4_4 => (intro W hSw; go_simp; try with_reducible rfl)
  try simp only [Act.put]
  try simp only [List.setIfInBounds_toArray]
  try simp only [List.set_cons_succ]
  try simp only [List.set_cons_zero]
  refine takeR (i := 5) (v := ?v5_5) rfl (by kernel_rfl) (by kernel_rfl) (by kernel_rfl) (fun _ _ _ h => h) (by rfl) ?hy5_5 (by assumption) ?rest5_5
  case hy5_5 => (intro W hSw; go_simp; try with_reducible rfl)
  try simp only [Act.put]
  try simp only [List.setIfInBounds_toArray]
  try simp only [List.set_cons_succ]
  try simp only [List.set_cons_zero]
  refine takeR (i := 6) (v := ?v6_6) rfl (by kernel_rfl) (by kernel_rfl) (by kernel_rfl) (fun _ _ _ h => h) (by rfl) ?hy6_6 (by assumption) ?rest6_6
  case hy6_6 => (intro W hSw; go_simp; try with_reducible rfl)
  try simp only [Act.put]
  try simp only [List.setIfInBounds_toArray]
  try simp only [List.set_cons_succ]
  try simp only [List.set_cons_zero]
  refine takeR (i := 7) (v := ?v7_7) rfl (by kernel_rfl) (by kernel_rfl) (by kernel_rfl) (fun _ _ _ h => h) (by rfl) ?hy7_7 (by assumption) ?rest7_7
  case hy7_7 => (intro W hSw; go_simp; try with_reducible rfl)
  try simp only [Act.put]
  try simp only [List.setIfInBounds_toArray]
  try simp only [List.set_cons_succ]
  try simp only [List.set_cons_zero]
  refine takeR (i := 8) (v := ?v8_8) rfl (by kernel_rfl) (by kernel_rfl) (by kernel_rfl) (fun _ _ _ h => h) (by rfl) ?hy8_8 (by assumption) ?rest8_8
  case hy8_8 => (intro W hSw; go_simp; try with_reducible rfl)
  try simp only [Act.put]
  try simp only [List.setIfInBounds_toArray]
  try simp only [List.set_cons_succ]
  try simp only [List.set_cons_zero]
  refine takeR (i := 9) (v := ?v9_9) rfl (by kernel_rfl) (by kernel_rfl) (by kernel_rfl) (fun _ _ _ h => h) (by rfl) ?hy9_9 (by assumption) ?rest9_9
  case hy9_9 => (intro W hSw; obtain ⟨y0, y1⟩ := K1.out W (D3.out.trans (hSw.mono D3.out.size)); go_simp; try with_reducible rfl)
  try simp only [Act.put]
  try simp only [List.setIfInBounds_toArray]
  try simp only [List.set_cons_succ]
  try simp only [List.set_cons_zero]
  refine takeR (i := 11) (v := ?v11_10) rfl (by kernel_rfl) (by kernel_rfl) (by kernel_rfl) (fun _ _ _ h => h) (by rfl) ?hy11_10 (by assumption) ?rest11_10
  case hy11_10 => (intro W hSw; obtain ⟨y0, y1⟩ := K1.out W (D3.out.trans (hSw.mono D3.out.size)); go_simp; try with_reducible rfl)
  try simp only [Act.put]
  try simp only [List.setIfInBounds_toArray]
  try simp only [List.set_cons_succ]
  try simp only [List.set_cons_zero]
  refine wpAnyH_ready (rs := [10]) (by kernel_rfl) (by simp) ?_
  refine AllReadyH.cons rfl (fun K hK => ?_) AllReadyH.nil
  rw [if_pos (by rfl)]
  go_simp
  refine (CZ.out wc BW.out).mono ?_
  rintro e w4 ⟨rfl, hb4⟩
  have BT4 : Hid (Below w3.heap.size w3 w4) := BT.out.trans (hb4.mono BT.out.size)
  have BW4 : Hid (Below w.heap.size w w4) := B3.out.trans (BT4.out.mono B3.out.size)
  clear hb4 hHeld
  refine hK.out _ _ BT4.out (fun hHeld => ?_)
  try simp only [Act.put]
  try simp only [List.setIfInBounds_toArray]
  try simp only [List.set_cons_succ]
  try simp only [List.set_cons_zero]
  clear hK K hHeld
  refine wpAnyH_ready (rs := [12]) (by kernel_rfl) (by simp) ?_
  refine AllReadyH.cons rfl (fun K hK => ?_) AllReadyH.nil
  rw [if_pos (by rfl)]
  go_simp
  refine (RZ.out w4).mono ?_
  rintro e w5 ⟨rfl, hb5⟩
  have BT5 : Hid (Below w3.heap.size w3 w5) := BT4.out.trans (hb5.mono BT4.out.size)
  have BW5 : Hid (Below w.heap.size w w5) := B3.out.trans (BT5.out.mono B3.out.size)
  clear hb5
  refine hK.out _ _ BT5.out (fun hHeld => ?_)
  try simp only [Act.put]
  try simp only [List.setIfInBounds_toArray]
  try simp only [List.set_cons_succ]
  try simp only [List.set_cons_zero]
  clear hK K
  refine takeR (i := 13) (v := ?v13_11) rfl (by kernel_rfl) (by kernel_rfl) (by kernel_rfl) (fun _ _ _ h => h) (by rfl) ?hy13_11 (by assumption) ?rest13_11
  case hy13_11 => (intro W hSw; go_simp; try with_reducible rfl)
  try simp only [Act.put]
  try simp only [List.setIfInBounds_toArray]
  try simp only [List.set_cons_succ]
  try simp only [List.set_cons_zero]
  refine takeR (i := 14) (v := ?v14_12) rfl (by kernel_rfl) (by kernel_rfl) (by kernel_rfl) (fun _ _ _ h => h) (by rfl) ?hy14_12 (by assumption) ?rest14_12
  case hy14_12 => (intro W hSw; go_simp; try with_reducible rfl)
  try simp only [Act.put]
  try simp only [List.setIfInBounds_toArray]
  try simp only [List.set_cons_succ]
  try simp only [List.set_cons_zero]
  refine takeR (i := 15) (v := ?v15_13) rfl (by kernel_rfl) (by kernel_rfl) (by kernel_rfl) (fun _ _ _ h => h) (by rfl) ?hy15_13 (by assumption) ?rest15_13
  case hy15_13 => (intro W hSw; go_simp; try with_reducible rfl)
  try simp only [Act.put]
  try simp only [List.setIfInBounds_toArray]
  try simp only [List.set_cons_succ]
  try simp only [List.set_cons_zero]
  refine wpAnyH_ready (rs := [16]) (by kernel_rfl) (by simp) ?_
  refine AllReadyH.cons rfl (fun K hK => ?_) AllReadyH.nil
  rw [if_pos (by rfl)]
  go_simp
  refine (HH.out w5 BW5.out).mono ?_
  rintro e w6 ⟨rfl, hb6⟩
  have BT6 : Hid (Below w3.heap.size w3 w6) := BT5.out.trans (hb6.mono BT5.out.size)
  have BW6 : Hid (Below w.heap.size w w6) := B3.out.trans (BT6.out.mono B3.out.size)
  clear hb6 hHeld
  refine hK.out _ _ BT6.out (fun hHeld => ?_)
  try simp only [Act.put]
  try simp only [List.setIfInBounds_toArray]
  try simp only [List.set_cons_succ]
  try simp only [List.set_cons_zero]
  clear hK K
  refine takeR (i := 17) (v := ?v17_14) rfl (by kernel_rfl) (by kernel_rfl) (by kernel_rfl) (fun _ _ _ h => h) (by rfl) ?hy17_14 (by assumption) ?rest17_14
  case hy17_14 => (intro W hSw; go_simp; try with_reducible rfl)
  try simp only [Act.put]
  try simp only [List.setIfInBounds_toArray]
  try simp only [List.set_cons_succ]
  try simp only [List.set_cons_zero]
  refine takeR (i := 18) (v := ?v18_15) rfl (by kernel_rfl) (by kernel_rfl) (by kernel_rfl) (fun _ _ _ h => h) (by rfl) ?hy18_15 (by assumption) ?rest18_15
  case hy18_15 => (intro W hSw; go_simp; try with_reducible rfl)
  try simp only [Act.put]
  try simp only [List.setIfInBounds_toArray]
  try simp only [List.set_cons_succ]
  try simp only [List.set_cons_zero]
  refine wpAnyH_done (by kernel_rfl) ?_ _
  go_wp2_with fail
  go_ret
  exact ⟨rfl, BW6.out⟩
end Go.Proofs.YtlkppnghfgiapaaDoor
