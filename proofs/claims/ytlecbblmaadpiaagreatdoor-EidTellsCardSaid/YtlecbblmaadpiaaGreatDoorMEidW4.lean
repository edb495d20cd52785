/- EidTells of layer 4's statements, walked. (Made by gen/EidW4.py.) -/
import Derived.Test.YtlecbblmaadpiaaGreatDoorMCborCs
import Derived.Test.YtlecbblmaadpiaaGreatDoorMEidH
import Derived.Test.YtlecbblmaadpiaaGreatDoorMRfP
namespace Go.Proofs.YtlecbblmaadpiaaGreatDoor
open Go.RowKit
def ItmR (X : Itm) (z : Int) (w : World) (e : Ending) (w' : World) : Prop := Below w.heap.size w w' ∧ ∃ u, e = .returned (.tuple #[u, .int .i64 z]) ∧ RdI w' w'.heap.size u X
theorem zero_rd (w : World) : RdI w w.heap.size zeroItem (.mk 0 0 [] []) := RdI.mk_uint (n := 0) (by decide)
set_option maxRecDepth 100000 in
set_option maxHeartbeats 16000000 in
theorem eidTells_walk (sc : Int) (s : ByteArray) (n v : Nat) (w : World) (A : Snt) (hs : s.size ≤ 140737488355328) (hn : n < 18446744073709551616) (hv : v < 18446744073709551616) (hA : Lds A w) :
    Calls Tryz.prog 3 #[epdV sc s n v] w fun e w' => e = .returned (.bool true) ∧ Below w.heap.size w w' := by
  obtain ⟨X, z, CI, CJ, hpar⟩ : ∃ (X : Itm) (z : Int), (∀ W, Below w.heap.size w W → Calls Tryz.prog 13 #[epdV sc s n v] W (ItmR X z W)) ∧ (∀ W, Calls Tryz.prog 14 #[epdV sc s n v] W (ItmR X z W)) ∧ True := by
    cases hc : checkB (ep sc s n v) with
    | true =>
      refine ⟨itemE (ep sc s n v), 0, fun W hb => (item_any A sc s n v W (hA.below hb (Nat.le_refl _)) hs hn hv).mono ?_, fun W => (ritem_any W.heap.size sc s n v W (Nat.le_refl _) hs hn hv hc).mono ?_, trivial⟩
      · rintro e W' ⟨hb, ⟨-, u, rfl, hu⟩ | ⟨h0, -⟩⟩
        · exact ⟨hb, u, rfl, hu⟩
        · rw [hc] at h0; cases h0
      · rintro e W' ⟨u, rfl, hu, hb⟩
        exact ⟨hb, u, rfl, hu.unmask⟩
    | false =>
      refine ⟨.mk 0 0 [] [], 40, fun W hb => (item_any A sc s n v W (hA.below hb (Nat.le_refl _)) hs hn hv).mono ?_, fun W => (ritem_no sc s n v W hs hc).mono ?_, trivial⟩
      · rintro e W' ⟨hb, ⟨h0, -⟩ | ⟨-, rfl⟩⟩
        · rw [hc] at h0; cases h0
        · exact ⟨hb, _, rfl, zero_rd W'⟩
      · rintro e W' ⟨rfl, hb⟩
        exact ⟨hb, _, rfl, zero_rd W'⟩
  have CI := Lib.hid CI
  have CJ := Lib.hid CJ
  have HA := Lib.hid (fun (W : World) (hb : Below w.heap.size w W) => hA.below hb (Nat.le_refl _))
  have K1 := Lib.hid (fun (W : World) (hb : Below w.heap.size w W) => ccheck_any A sc s n v W (HA.out W hb) hs)
  have K2 := Lib.hid (fun (W : World) => rcheckE_any sc s n v W hs)
  have N1 := Lib.hid (fun (W : World) => none_any sc s n v W)
  have N2 := Lib.hid (fun (W : World) => rnone_any sc s n v W)
  have X1 := Lib.hid (fun (W : World) (hb : Below w.heap.size w W) => text_any A sc s n v W (HA.out W hb) hs hn hv)
  have X2 := Lib.hid (fun (W : World) => rtextE_any sc s n v W hs hn hv)
  have D1 := Lib.hid (fun (W : World) (hb : Below w.heap.size w W) => node_any A sc s n v W (HA.out W hb) hs hn)
  have D2 := Lib.hid (fun (W : World) => rnodeE_any sc s n v W hs hn)
  have CH := Lib.hid (fun (W : World) (hb : Below w.heap.size w W) => heads_any A W (HA.out W hb))
  have CS := Lib.hid (fun (u u' : Value) (W : World) (h : RdI W W.heap.size u X) (h' : RdI W W.heap.size u' X) => rsame_n (par X + 1) X u u' W W.heap.size (Nat.lt_succ_self _) (Nat.le_refl _) h h')
  have HB0 := Lib.hid ((Below.refl w.heap.size w).alloc (Nat.le_refl _) (.cells #[.int .i64 sc, .string s, .int .u64 (n : Int), .int .u64 (v : Int)] 25))
  have HW0 : Hid (Below (w.heap.size + 1) (w.alloc (.cells #[.int .i64 sc, .string s, .int .u64 (n : Int), .int .u64 (v : Int)] 25)) (w.alloc (.cells #[.int .i64 sc, .string s, .int .u64 (n : Int), .int .u64 (v : Int)] 25))) := Below.refl _ _
  have HS0 : Hid ((w.alloc (.cells #[.int .i64 sc, .string s, .int .u64 (n : Int), .int .u64 (v : Int)] 25)).heap.size = w.heap.size + 1) := by show _ = _; simp
  have HE := Lib.hid (fun (W : World) (hb : Below (w.heap.size + 1) (w.alloc (.cells #[.int .i64 sc, .string s, .int .u64 (n : Int), .int .u64 (v : Int)] 25)) W) => row_of_box (w := w) (g := w.heap.size) rfl hb)
  have hzz : (z == z) = true := by simp
  clear hA hs hn hv hpar
  generalize checkB (ep sc s n v) = RC at *
  generalize noneB (ep sc s n v) = RN at *
  generalize strL (textE (ep sc s n v)) = ST at *
  generalize strL (nodeE (ep sc s n v)) = SN at *
  have hcc : (RC == RC) = true := by cases RC <;> rfl
  have hnn : (RN == RN) = true := by cases RN <;> rfl
  unfold epdV at *
  go_enter Tryz.func3, Tryz.ntmps3
  go_wp2_with fail
  refine (CI.out _ HB0.out).mono ?_
  rintro e w1 ⟨hb, u, rfl, hu⟩
  obtain ⟨k1, m1, D1x, nd1, cd1, L1, nl1, cl1, rfl⟩ := hu.form
  have B1 := Lib.hid (Below.push HW0.out (Nat.le_of_eq HS0.out.symm) hb)
  have T1 := Lib.hid (HB0.out.trans (B1.out.mono (Nat.le_succ _)))
  have U1 := Lib.hid hu
  obtain ⟨e0, e1, e2, e3⟩ := box_cells4 hb
  clear hb hu
  have A1 : Hid (Below w1.heap.size w1 (w1.alloc (.cells #[.int .i64 k1, .int .u64 (m1 : Int), .slice D1x nd1 cd1, .slice L1 nl1 cl1] 30))) := (Below.refl _ _).alloc (Nat.le_refl _) _
  have R1 := Lib.hid (heap_alloc_new w1 (.cells #[.int .i64 k1, .int .u64 (m1 : Int), .slice D1x nd1 cd1, .slice L1 nl1 cl1] 30))
  have B2 := Lib.hid (Below.push B1.out (Nat.le_of_eq HS0.out.symm) A1.out)
  have T2 := Lib.hid (HB0.out.trans (B2.out.mono (Nat.le_succ _)))
  have U2 := Lib.hid ((U1.out.below A1.out).more A1.out.size)
  have HR2 := HE.out _ B2.out
  have y0 := cell_row HR2 0 rfl
  have y1 := cell_row HR2 1 rfl
  have y2 := cell_row HR2 2 rfl
  have y3 := cell_row HR2 3 rfl
  clear HR2
  go_wp2_with fail
  clear e0 e1 e2 e3 A1 U1 y0 y1 y2 y3
  generalize w1.alloc (.cells #[.int .i64 k1, .int .u64 (m1 : Int), .slice D1x nd1 cd1, .slice L1 nl1 cl1] 30) = w2 at *
  generalize w1.heap.size = g1 at *
  refine (CJ.out w2).mono ?_
  rintro e w3 ⟨hb, u', rfl, hu'⟩
  obtain ⟨k2, m2, D2x, nd2, cd2, L2, nl2, cl2, rfl⟩ := hu'.form
  have Z1 : Hid (g1 < w2.heap.size) := row_lt R1.out
  have B3 := Lib.hid (Below.push B2.out (Nat.le_of_eq HS0.out.symm) hb)
  have T3 := Lib.hid (HB0.out.trans (B3.out.mono (Nat.le_succ _)))
  have R3 := Lib.hid (rowBelow R1.out hb Z1.out)
  have U3 := Lib.hid ((U2.out.below hb).more hb.size)
  have V3 := Lib.hid hu'
  clear hb hu' U2 R1
  go_wp2_with fail
  have A3 : Hid (Below w3.heap.size w3 (w3.alloc (.cells #[.int .i64 k2, .int .u64 (m2 : Int), .slice D2x nd2 cd2, .slice L2 nl2 cl2] 30))) := (Below.refl _ _).alloc (Nat.le_refl _) _
  have S3 := Lib.hid (heap_alloc_new w3 (.cells #[.int .i64 k2, .int .u64 (m2 : Int), .slice D2x nd2 cd2, .slice L2 nl2 cl2] 30))
  have B4 := Lib.hid (Below.push B3.out (Nat.le_of_eq HS0.out.symm) A3.out)
  have T4 := Lib.hid (HB0.out.trans (B4.out.mono (Nat.le_succ _)))
  have R4 := Lib.hid (rowBelow R3.out A3.out (row_lt R3.out))
  have U4 := Lib.hid ((U3.out.below A3.out).more A3.out.size)
  have V4 := Lib.hid ((V3.out.below A3.out).more A3.out.size)
  clear A3 U3 V3 R3
  generalize w3.alloc (.cells #[.int .i64 k2, .int .u64 (m2 : Int), .slice D2x nd2 cd2, .slice L2 nl2 cl2] 30) = w4 at *
  generalize w3.heap.size = g2 at *
  have HE4 := Lib.hid (HE.out w4 B4.out)
  have ZE : Hid (w.heap.size < w4.heap.size) := row_lt HE4.out
  have ZR : Hid (g1 < w4.heap.size) := row_lt R4.out
  have ZS : Hid (g2 < w4.heap.size) := row_lt S3.out
  refine wp_region_held_drew (S := fun W => Below w4.heap.size w4 W) (by kernel_rfl) Below.drew_ (fun hHeld => ?_)
  have BC := Lib.hid hHeld
  refine takeR (i := 0) (v := ?v0_1) rfl (by kernel_rfl) (by kernel_rfl) (by kernel_rfl) (fun _ _ _ h => h) (by rfl) ?hy0_1 (by assumption) ?rest0_1
  case hy0_1 => (intro W hSw; have hrw := rowBelow HE4.out hSw ZE.out; have y0 := cell_row hrw 0 rfl; have y1 := cell_row hrw 1 rfl; have y2 := cell_row hrw 2 rfl; have y3 := cell_row hrw 3 rfl; clear hrw; go_simp; try with_reducible rfl)
  try simp only [Act.put]
  try simp only [List.setIfInBounds_toArray]
  try simp only [List.set_cons_succ]
  try simp only [List.set_cons_zero]
  refine takeR (i := 2) (v := ?v2_2) rfl (by kernel_rfl) (by kernel_rfl) (by kernel_rfl) (fun _ _ _ h => h) (by rfl) ?hy2_2 (by assumption) ?rest2_2
  case hy2_2 => (intro W hSw; have hrw := rowBelow HE4.out hSw ZE.out; have y0 := cell_row hrw 0 rfl; have y1 := cell_row hrw 1 rfl; have y2 := cell_row hrw 2 rfl; have y3 := cell_row hrw 3 rfl; clear hrw; go_simp; try with_reducible rfl)
  try simp only [Act.put]
  try simp only [List.setIfInBounds_toArray]
  try simp only [List.set_cons_succ]
  try simp only [List.set_cons_zero]
  refine wpAnyH_ready (rs := [1]) (by kernel_rfl) (by simp) ?_
  refine AllReadyH.cons rfl (fun K hK => ?_) AllReadyH.nil
  rw [if_pos (by rfl)]
  go_simp
  refine (K1.out _ (T4.out.trans (BC.out.mono T4.out.size))).mono ?_
  rintro e wh ⟨rfl, hb⟩
  replace BC := Lib.hid (BC.out.trans (hb.mono BC.out.size))
  clear hb
  go_simp
  refine hK.out _ _ (BC.out) (fun hHeld => ?_)
  try simp only [Act.put]
  try simp only [List.setIfInBounds_toArray]
  try simp only [List.set_cons_succ]
  try simp only [List.set_cons_zero]
  clear hK K
  refine wpAnyH_ready (rs := [3]) (by kernel_rfl) (by simp) ?_
  refine AllReadyH.cons rfl (fun K hK => ?_) AllReadyH.nil
  rw [if_pos (by rfl)]
  go_simp
  refine (K2.out _).mono ?_
  rintro e wh ⟨rfl, hb⟩
  replace BC := Lib.hid (BC.out.trans (hb.mono BC.out.size))
  clear hb
  go_simp
  refine hK.out _ _ (BC.out) (fun hHeld => ?_)
  try simp only [Act.put]
  try simp only [List.setIfInBounds_toArray]
  try simp only [List.set_cons_succ]
  try simp only [List.set_cons_zero]
  clear hK K
  refine takeR (i := 4) (v := ?v4_3) rfl (by kernel_rfl) (by kernel_rfl) (by kernel_rfl) (fun _ _ _ h => h) (by rfl) ?hy4_3 (by assumption) ?rest4_3
  case hy4_3 => (intro W hSw; go_simp; try with_reducible rfl)
  try simp only [Act.put]
  try simp only [List.setIfInBounds_toArray]
  try simp only [List.set_cons_succ]
  try simp only [List.set_cons_zero]
  refine takeR (i := 5) (v := ?v5_4) rfl (by kernel_rfl) (by kernel_rfl) (by kernel_rfl) (fun _ _ _ h => h) (by rfl) ?hy5_4 (by assumption) ?rest5_4
  case hy5_4 => (intro W hSw; go_simp; try with_reducible rfl)
  try simp only [Act.put]
  try simp only [List.setIfInBounds_toArray]
  try simp only [List.set_cons_succ]
  try simp only [List.set_cons_zero]
  refine takeR (i := 6) (v := ?v6_5) rfl (by kernel_rfl) (by kernel_rfl) (by kernel_rfl) (fun _ _ _ h => h) (by rfl) ?hy6_5 (by assumption) ?rest6_5
  case hy6_5 => (intro W hSw; have hrw := rowBelow HE4.out hSw ZE.out; have y0 := cell_row hrw 0 rfl; have y1 := cell_row hrw 1 rfl; have y2 := cell_row hrw 2 rfl; have y3 := cell_row hrw 3 rfl; clear hrw; go_simp; try with_reducible rfl)
  try simp only [Act.put]
  try simp only [List.setIfInBounds_toArray]
  try simp only [List.set_cons_succ]
  try simp only [List.set_cons_zero]
  refine takeR (i := 8) (v := ?v8_6) rfl (by kernel_rfl) (by kernel_rfl) (by kernel_rfl) (fun _ _ _ h => h) (by rfl) ?hy8_6 (by assumption) ?rest8_6
  case hy8_6 => (intro W hSw; have hrw := rowBelow HE4.out hSw ZE.out; have y0 := cell_row hrw 0 rfl; have y1 := cell_row hrw 1 rfl; have y2 := cell_row hrw 2 rfl; have y3 := cell_row hrw 3 rfl; clear hrw; go_simp; try with_reducible rfl)
  try simp only [Act.put]
  try simp only [List.setIfInBounds_toArray]
  try simp only [List.set_cons_succ]
  try simp only [List.set_cons_zero]
  refine wpAnyH_ready (rs := [7]) (by kernel_rfl) (by simp) ?_
  refine AllReadyH.cons rfl (fun K hK => ?_) AllReadyH.nil
  rw [if_pos (by rfl)]
  go_simp
  refine (N1.out _).mono ?_
  rintro e wh ⟨rfl, hb⟩
  replace BC := Lib.hid (BC.out.trans (hb.mono BC.out.size))
  clear hb
  go_simp
  refine hK.out _ _ (BC.out) (fun hHeld => ?_)
  try simp only [Act.put]
  try simp only [List.setIfInBounds_toArray]
  try simp only [List.set_cons_succ]
  try simp only [List.set_cons_zero]
  clear hK K
  refine wpAnyH_ready (rs := [9]) (by kernel_rfl) (by simp) ?_
  refine AllReadyH.cons rfl (fun K hK => ?_) AllReadyH.nil
  rw [if_pos (by rfl)]
  go_simp
  refine (N2.out _).mono ?_
  rintro e wh ⟨rfl, hb⟩
  replace BC := Lib.hid (BC.out.trans (hb.mono BC.out.size))
  clear hb
  go_simp
  refine hK.out _ _ (BC.out) (fun hHeld => ?_)
  try simp only [Act.put]
  try simp only [List.setIfInBounds_toArray]
  try simp only [List.set_cons_succ]
  try simp only [List.set_cons_zero]
  clear hK K
  refine takeR (i := 10) (v := ?v10_7) rfl (by kernel_rfl) (by kernel_rfl) (by kernel_rfl) (fun _ _ _ h => h) (by rfl) ?hy10_7 (by assumption) ?rest10_7
  case hy10_7 => (intro W hSw; go_simp; try with_reducible rfl)
  try simp only [Act.put]
  try simp only [List.setIfInBounds_toArray]
  try simp only [List.set_cons_succ]
  try simp only [List.set_cons_zero]
  refine takeR (i := 11) (v := ?v11_8) rfl (by kernel_rfl) (by kernel_rfl) (by kernel_rfl) (fun _ _ _ h => h) (by rfl) ?hy11_8 (by assumption) ?rest11_8
  case hy11_8 => (intro W hSw; go_simp; try with_reducible rfl)
  try simp only [Act.put]
  try simp only [List.setIfInBounds_toArray]
  try simp only [List.set_cons_succ]
  try simp only [List.set_cons_zero]
  refine takeR (i := 12) (v := ?v12_9) rfl (by kernel_rfl) (by kernel_rfl) (by kernel_rfl) (fun _ _ _ h => h) (by rfl) ?hy12_9 (by assumption) ?rest12_9
  case hy12_9 => (intro W hSw; go_simp; try with_reducible rfl)
  try simp only [Act.put]
  try simp only [List.setIfInBounds_toArray]
  try simp only [List.set_cons_succ]
  try simp only [List.set_cons_zero]
  refine takeR (i := 13) (v := ?v13_10) rfl (by kernel_rfl) (by kernel_rfl) (by kernel_rfl) (fun _ _ _ h => h) (by rfl) ?hy13_10 (by assumption) ?rest13_10
  case hy13_10 => (intro W hSw; have hrw := rowBelow R4.out hSw ZR.out; have y0 := cell_row hrw 0 rfl; have y1 := cell_row hrw 1 rfl; have y2 := cell_row hrw 2 rfl; have y3 := cell_row hrw 3 rfl; clear hrw; go_simp; try with_reducible rfl)
  try simp only [Act.put]
  try simp only [List.setIfInBounds_toArray]
  try simp only [List.set_cons_succ]
  try simp only [List.set_cons_zero]
  refine takeR (i := 14) (v := ?v14_11) rfl (by kernel_rfl) (by kernel_rfl) (by kernel_rfl) (fun _ _ _ h => h) (by rfl) ?hy14_11 (by assumption) ?rest14_11
  case hy14_11 => (intro W hSw; have hrw := rowBelow S3.out hSw ZS.out; have y0 := cell_row hrw 0 rfl; have y1 := cell_row hrw 1 rfl; have y2 := cell_row hrw 2 rfl; have y3 := cell_row hrw 3 rfl; clear hrw; go_simp; try with_reducible rfl)
  try simp only [Act.put]
  try simp only [List.setIfInBounds_toArray]
  try simp only [List.set_cons_succ]
  try simp only [List.set_cons_zero]
  refine wpAnyH_ready (rs := [15]) (by kernel_rfl) (by simp) ?_
  refine AllReadyH.cons rfl (fun K hK => ?_) AllReadyH.nil
  rw [if_pos (by rfl)]
  go_simp
  refine (CS.out _ _ _ ((U4.out.below BC.out).more BC.out.size) ((V4.out.below BC.out).more BC.out.size)).mono ?_
  rintro e wh ⟨rfl, hb⟩
  replace BC := Lib.hid (BC.out.trans (hb.mono BC.out.size))
  clear hb
  go_simp
  refine hK.out _ _ (BC.out) (fun hHeld => ?_)
  try simp only [Act.put]
  try simp only [List.setIfInBounds_toArray]
  try simp only [List.set_cons_succ]
  try simp only [List.set_cons_zero]
  clear hK K
  refine takeR (i := 16) (v := ?v16_12) rfl (by kernel_rfl) (by kernel_rfl) (by kernel_rfl) (fun _ _ _ h => h) (by rfl) ?hy16_12 (by assumption) ?rest16_12
  case hy16_12 => (intro W hSw; go_simp; try with_reducible rfl)
  try simp only [Act.put]
  try simp only [List.setIfInBounds_toArray]
  try simp only [List.set_cons_succ]
  try simp only [List.set_cons_zero]
  refine takeR (i := 17) (v := ?v17_13) rfl (by kernel_rfl) (by kernel_rfl) (by kernel_rfl) (fun _ _ _ h => h) (by rfl) ?hy17_13 (by assumption) ?rest17_13
  case hy17_13 => (intro W hSw; go_simp; try with_reducible rfl)
  try simp only [Act.put]
  try simp only [List.setIfInBounds_toArray]
  try simp only [List.set_cons_succ]
  try simp only [List.set_cons_zero]
  refine takeR (i := 18) (v := ?v18_14) rfl (by kernel_rfl) (by kernel_rfl) (by kernel_rfl) (fun _ _ _ h => h) (by rfl) ?hy18_14 (by assumption) ?rest18_14
  case hy18_14 => (intro W hSw; go_simp; try with_reducible rfl)
  try simp only [Act.put]
  try simp only [List.setIfInBounds_toArray]
  try simp only [List.set_cons_succ]
  try simp only [List.set_cons_zero]
  refine takeR (i := 19) (v := ?v19_15) rfl (by kernel_rfl) (by kernel_rfl) (by kernel_rfl) (fun _ _ _ h => h) (by rfl) ?hy19_15 (by assumption) ?rest19_15
  case hy19_15 => (intro W hSw; go_simp; try with_reducible rfl)
  try simp only [Act.put]
  try simp only [List.setIfInBounds_toArray]
  try simp only [List.set_cons_succ]
  try simp only [List.set_cons_zero]
  refine takeR (i := 20) (v := ?v20_16) rfl (by kernel_rfl) (by kernel_rfl) (by kernel_rfl) (fun _ _ _ h => h) (by rfl) ?hy20_16 (by assumption) ?rest20_16
  case hy20_16 => (intro W hSw; go_simp; try with_reducible rfl)
  try simp only [Act.put]
  try simp only [List.setIfInBounds_toArray]
  try simp only [List.set_cons_succ]
  try simp only [List.set_cons_zero]
  refine takeR (i := 21) (v := ?v21_17) rfl (by kernel_rfl) (by kernel_rfl) (by kernel_rfl) (fun _ _ _ h => h) (by rfl) ?hy21_17 (by assumption) ?rest21_17
  case hy21_17 => (intro W hSw; go_simp; try with_reducible rfl)
  try simp only [Act.put]
  try simp only [List.setIfInBounds_toArray]
  try simp only [List.set_cons_succ]
  try simp only [List.set_cons_zero]
  refine takeR (i := 22) (v := ?v22_18) rfl (by kernel_rfl) (by kernel_rfl) (by kernel_rfl) (fun _ _ _ h => h) (by rfl) ?hy22_18 (by assumption) ?rest22_18
  case hy22_18 => (intro W hSw; go_simp; try with_reducible rfl)
  try simp only [Act.put]
  try simp only [List.setIfInBounds_toArray]
  try simp only [List.set_cons_succ]
  try simp only [List.set_cons_zero]
  refine takeR (i := 23) (v := ?v23_19) rfl (by kernel_rfl) (by kernel_rfl) (by kernel_rfl) (fun _ _ _ h => h) (by rfl) ?hy23_19 (by assumption) ?rest23_19
  case hy23_19 => (intro W hSw; have hrw := rowBelow HE4.out hSw ZE.out; have y0 := cell_row hrw 0 rfl; have y1 := cell_row hrw 1 rfl; have y2 := cell_row hrw 2 rfl; have y3 := cell_row hrw 3 rfl; clear hrw; go_simp; try with_reducible rfl)
  try simp only [Act.put]
  try simp only [List.setIfInBounds_toArray]
  try simp only [List.set_cons_succ]
  try simp only [List.set_cons_zero]
  refine takeR (i := 25) (v := ?v25_20) rfl (by kernel_rfl) (by kernel_rfl) (by kernel_rfl) (fun _ _ _ h => h) (by rfl) ?hy25_20 (by assumption) ?rest25_20
  case hy25_20 => (intro W hSw; have hrw := rowBelow HE4.out hSw ZE.out; have y0 := cell_row hrw 0 rfl; have y1 := cell_row hrw 1 rfl; have y2 := cell_row hrw 2 rfl; have y3 := cell_row hrw 3 rfl; clear hrw; go_simp; try with_reducible rfl)
  try simp only [Act.put]
  try simp only [List.setIfInBounds_toArray]
  try simp only [List.set_cons_succ]
  try simp only [List.set_cons_zero]
  refine wpAnyH_ready (rs := [24]) (by kernel_rfl) (by simp) ?_
  refine AllReadyH.cons rfl (fun K hK => ?_) AllReadyH.nil
  rw [if_pos (by rfl)]
  go_simp
  refine (X1.out _ (T4.out.trans (BC.out.mono T4.out.size))).mono ?_
  rintro e wh ⟨rfl, hb⟩
  replace BC := Lib.hid (BC.out.trans (hb.mono BC.out.size))
  clear hb
  go_simp
  refine hK.out _ _ (BC.out) (fun hHeld => ?_)
  try simp only [Act.put]
  try simp only [List.setIfInBounds_toArray]
  try simp only [List.set_cons_succ]
  try simp only [List.set_cons_zero]
  clear hK K
  refine wpAnyH_ready (rs := [26]) (by kernel_rfl) (by simp) ?_
  refine AllReadyH.cons rfl (fun K hK => ?_) AllReadyH.nil
  rw [if_pos (by rfl)]
  go_simp
  refine (X2.out _).mono ?_
  rintro e wh ⟨rfl, hb⟩
  replace BC := Lib.hid (BC.out.trans (hb.mono BC.out.size))
  clear hb
  go_simp
  refine hK.out _ _ (BC.out) (fun hHeld => ?_)
  try simp only [Act.put]
  try simp only [List.setIfInBounds_toArray]
  try simp only [List.set_cons_succ]
  try simp only [List.set_cons_zero]
  clear hK K
  refine takeR (i := 27) (v := ?v27_21) rfl (by kernel_rfl) (by kernel_rfl) (by kernel_rfl) (fun _ _ _ h => h) (by rfl) ?hy27_21 (by assumption) ?rest27_21
  case hy27_21 => (intro W hSw; go_simp; try with_reducible rfl)
  try simp only [Act.put]
  try simp only [List.setIfInBounds_toArray]
  try simp only [List.set_cons_succ]
  try simp only [List.set_cons_zero]
  refine takeR (i := 28) (v := ?v28_22) rfl (by kernel_rfl) (by kernel_rfl) (by kernel_rfl) (fun _ _ _ h => h) (by rfl) ?hy28_22 (by assumption) ?rest28_22
  case hy28_22 => (intro W hSw; go_simp; try with_reducible rfl)
  try simp only [Act.put]
  try simp only [List.setIfInBounds_toArray]
  try simp only [List.set_cons_succ]
  try simp only [List.set_cons_zero]
  refine takeR (i := 29) (v := ?v29_23) rfl (by kernel_rfl) (by kernel_rfl) (by kernel_rfl) (fun _ _ _ h => h) (by rfl) ?hy29_23 (by assumption) ?rest29_23
  case hy29_23 => (intro W hSw; go_simp; try with_reducible rfl)
  try simp only [Act.put]
  try simp only [List.setIfInBounds_toArray]
  try simp only [List.set_cons_succ]
  try simp only [List.set_cons_zero]
  refine takeR (i := 30) (v := ?v30_24) rfl (by kernel_rfl) (by kernel_rfl) (by kernel_rfl) (fun _ _ _ h => h) (by rfl) ?hy30_24 (by assumption) ?rest30_24
  case hy30_24 => (intro W hSw; have hrw := rowBelow HE4.out hSw ZE.out; have y0 := cell_row hrw 0 rfl; have y1 := cell_row hrw 1 rfl; have y2 := cell_row hrw 2 rfl; have y3 := cell_row hrw 3 rfl; clear hrw; go_simp; try with_reducible rfl)
  try simp only [Act.put]
  try simp only [List.setIfInBounds_toArray]
  try simp only [List.set_cons_succ]
  try simp only [List.set_cons_zero]
  refine takeR (i := 32) (v := ?v32_25) rfl (by kernel_rfl) (by kernel_rfl) (by kernel_rfl) (fun _ _ _ h => h) (by rfl) ?hy32_25 (by assumption) ?rest32_25
  case hy32_25 => (intro W hSw; have hrw := rowBelow HE4.out hSw ZE.out; have y0 := cell_row hrw 0 rfl; have y1 := cell_row hrw 1 rfl; have y2 := cell_row hrw 2 rfl; have y3 := cell_row hrw 3 rfl; clear hrw; go_simp; try with_reducible rfl)
  try simp only [Act.put]
  try simp only [List.setIfInBounds_toArray]
  try simp only [List.set_cons_succ]
  try simp only [List.set_cons_zero]
  refine wpAnyH_ready (rs := [31]) (by kernel_rfl) (by simp) ?_
  refine AllReadyH.cons rfl (fun K hK => ?_) AllReadyH.nil
  rw [if_pos (by rfl)]
  go_simp
  refine (D1.out _ (T4.out.trans (BC.out.mono T4.out.size))).mono ?_
  rintro e wh ⟨rfl, hb⟩
  replace BC := Lib.hid (BC.out.trans (hb.mono BC.out.size))
  clear hb
  go_simp
  refine hK.out _ _ (BC.out) (fun hHeld => ?_)
  try simp only [Act.put]
  try simp only [List.setIfInBounds_toArray]
  try simp only [List.set_cons_succ]
  try simp only [List.set_cons_zero]
  clear hK K
  refine wpAnyH_ready (rs := [33]) (by kernel_rfl) (by simp) ?_
  refine AllReadyH.cons rfl (fun K hK => ?_) AllReadyH.nil
  rw [if_pos (by rfl)]
  go_simp
  refine (D2.out _).mono ?_
  rintro e wh ⟨rfl, hb⟩
  replace BC := Lib.hid (BC.out.trans (hb.mono BC.out.size))
  clear hb
  go_simp
  refine hK.out _ _ (BC.out) (fun hHeld => ?_)
  try simp only [Act.put]
  try simp only [List.setIfInBounds_toArray]
  try simp only [List.set_cons_succ]
  try simp only [List.set_cons_zero]
  clear hK K
  refine takeR (i := 34) (v := ?v34_26) rfl (by kernel_rfl) (by kernel_rfl) (by kernel_rfl) (fun _ _ _ h => h) (by rfl) ?hy34_26 (by assumption) ?rest34_26
  case hy34_26 => (intro W hSw; go_simp; try with_reducible rfl)
  try simp only [Act.put]
  try simp only [List.setIfInBounds_toArray]
  try simp only [List.set_cons_succ]
  try simp only [List.set_cons_zero]
  refine takeR (i := 35) (v := ?v35_27) rfl (by kernel_rfl) (by kernel_rfl) (by kernel_rfl) (fun _ _ _ h => h) (by rfl) ?hy35_27 (by assumption) ?rest35_27
  case hy35_27 => (intro W hSw; go_simp; try with_reducible rfl)
  try simp only [Act.put]
  try simp only [List.setIfInBounds_toArray]
  try simp only [List.set_cons_succ]
  try simp only [List.set_cons_zero]
  refine takeR (i := 36) (v := ?v36_28) rfl (by kernel_rfl) (by kernel_rfl) (by kernel_rfl) (fun _ _ _ h => h) (by rfl) ?hy36_28 (by assumption) ?rest36_28
  case hy36_28 => (intro W hSw; go_simp; try with_reducible rfl)
  try simp only [Act.put]
  try simp only [List.setIfInBounds_toArray]
  try simp only [List.set_cons_succ]
  try simp only [List.set_cons_zero]
  refine wpAnyH_ready (rs := [37]) (by kernel_rfl) (by simp) ?_
  refine AllReadyH.cons rfl (fun K hK => ?_) AllReadyH.nil
  rw [if_pos (by rfl)]
  go_simp
  refine (CH.out _ (T4.out.trans (BC.out.mono T4.out.size))).mono ?_
  rintro e wh ⟨rfl, hb⟩
  replace BC := Lib.hid (BC.out.trans (hb.mono BC.out.size))
  clear hb
  go_simp
  refine hK.out _ _ (BC.out) (fun hHeld => ?_)
  try simp only [Act.put]
  try simp only [List.setIfInBounds_toArray]
  try simp only [List.set_cons_succ]
  try simp only [List.set_cons_zero]
  clear hK K
  refine takeR (i := 38) (v := ?v38_29) rfl (by kernel_rfl) (by kernel_rfl) (by kernel_rfl) (fun _ _ _ h => h) (by rfl) ?hy38_29 (by assumption) ?rest38_29
  case hy38_29 => (intro W hSw; go_simp; try with_reducible rfl)
  try simp only [Act.put]
  try simp only [List.setIfInBounds_toArray]
  try simp only [List.set_cons_succ]
  try simp only [List.set_cons_zero]
  refine takeR (i := 39) (v := ?v39_30) rfl (by kernel_rfl) (by kernel_rfl) (by kernel_rfl) (fun _ _ _ h => h) (by rfl) ?hy39_30 (by assumption) ?rest39_30
  case hy39_30 => (intro W hSw; go_simp; try with_reducible rfl)
  try simp only [Act.put]
  try simp only [List.setIfInBounds_toArray]
  try simp only [List.set_cons_succ]
  try simp only [List.set_cons_zero]
  refine wpAnyH_done (by kernel_rfl) ?_ _
  go_wp2_with fail
  go_ret
  exact ⟨rfl, (T4.out.trans (BC.out.mono T4.out.size))⟩
end Go.Proofs.YtlecbblmaadpiaaGreatDoor
