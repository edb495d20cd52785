/- What Item of layer 4's reference returns, of an endpoint that may be. (Made by gen/RfI.py.) -/
import Derived.Test.YtanbjifdcplmnaaGreatDoorTBlkW1
import Derived.Test.YtanbjifdcplmnaaGreatDoorTCfBlockTells
import Derived.Test.YtanbjifdcplmnaaGreatDoorTRfC
import Derived.Test.YtanbjifdcplmnaaGreatDoorTShaE
namespace Go.Proofs.YtanbjifdcplmnaaGreatDoor
open Go.RowKit

/-- A call hands back an item and no error, the item read in no block below lo. -/
def GivesTI (lo : Nat) (x : Itm) (w : World) (e : Ending) (w' : World) : Prop := ∃ val, e = .returned (.tuple #[val, .int .i64 0]) ∧ RdI (mask (lows lo) w') w'.heap.size val x ∧ Below w.heap.size w w'
theorem rowBelow {B g : Nat} {w w' : World} {c : Obj} (h : w.heap[g]? = some c) (hb : Below B w w') (hg : g < B) : w'.heap[g]? = some c := (hb.block g hg).trans h
theorem row_lt {g : Nat} {w : World} {c : Obj} (h : w.heap[g]? = some c) : g < w.heap.size := (Array.getElem?_eq_some_iff.1 h).1

set_option maxRecDepth 100000 in
set_option maxHeartbeats 8000000 in
theorem ritem_ipn (lo : Nat) (s : ByteArray) (n v : Nat) (w : World) (hlo : lo ≤ w.heap.size) (hs : s.size ≤ 140737488355328) (hn : n < 18446744073709551616) (hv : v < 18446744073709551616) (_h : True) (hc : checkB (ep 2 s n v) = true) :
    Calls Tryz.prog 22 #[epdV 2 s n v] w (GivesTI lo (.mk 4 0 [] [.mk 0 2 [] [], .mk 4 0 [] [.mk 0 n [] [], .mk 0 v [] []]]) w) := by
  have C1 := Lib.hid (fun W => rcheckE_any 2 s n v W hs)
  rw [hc] at C1
  have CT := Lib.hid (fun (lo : Nat) (W : World) (hlo : lo ≤ W.heap.size) => rtextL_any lo s W hlo hs)
  have HNV := Lib.hid (And.intro hn hv)
  have HLO : Hid (lo ≤ w.heap.size + 2) := by show _ ≤ _; omega
  obtain ⟨X2, hX2⟩ : ∃ X2 : Itm, X2 = .mk 4 0 [] [.mk 0 n [] [], .mk 0 v [] []] := ⟨_, rfl⟩
  have HX : Hid (Itm.mk 4 0 [] [.mk 0 2 [] [], .mk 4 0 [] [.mk 0 n [] [], .mk 0 v [] []]] = .mk 4 0 [] [.mk 0 2 [] [], X2]) := by show _ = _; rw [hX2]
  have HX2 := Lib.hid hX2
  clear hX2
  have HB0 := Lib.hid (((Below.refl w.heap.size w).alloc (Nat.le_refl _) (.cells #[.int .i64 2, .string s, .int .u64 (n : Int), .int .u64 (v : Int)] 46)).alloc (le_alloc _ _) (.cells #[.int .i64 0, .int .u64 0, .slice none 0 0, .slice none 0 0] 37))
  have HW0 : Hid (Below (w.heap.size + 2) ((w.alloc (.cells #[.int .i64 2, .string s, .int .u64 (n : Int), .int .u64 (v : Int)] 46)).alloc (.cells #[.int .i64 0, .int .u64 0, .slice none 0 0, .slice none 0 0] 37)) ((w.alloc (.cells #[.int .i64 2, .string s, .int .u64 (n : Int), .int .u64 (v : Int)] 46)).alloc (.cells #[.int .i64 0, .int .u64 0, .slice none 0 0, .slice none 0 0] 37))) := Below.refl _ _
  have HS0 : Hid (((w.alloc (.cells #[.int .i64 2, .string s, .int .u64 (n : Int), .int .u64 (v : Int)] 46)).alloc (.cells #[.int .i64 0, .int .u64 0, .slice none 0 0, .slice none 0 0] 37)).heap.size = w.heap.size + 2) := by show _ = _; simp
  have HE0 : Hid (((w.alloc (.cells #[.int .i64 2, .string s, .int .u64 (n : Int), .int .u64 (v : Int)] 46)).alloc (.cells #[.int .i64 0, .int .u64 0, .slice none 0 0, .slice none 0 0] 37)).heap[w.heap.size]? = some (.cells #[.int .i64 2, .string s, .int .u64 (n : Int), .int .u64 (v : Int)] 46 (0, 0))) := row_of_box (w := w) rfl ((Below.refl (w.heap.size + 1) (w.alloc (.cells #[.int .i64 2, .string s, .int .u64 (n : Int), .int .u64 (v : Int)] 46))).alloc (by simp) (.cells #[.int .i64 0, .int .u64 0, .slice none 0 0, .slice none 0 0] 37))
  have HR0 : Hid (((w.alloc (.cells #[.int .i64 2, .string s, .int .u64 (n : Int), .int .u64 (v : Int)] 46)).alloc (.cells #[.int .i64 0, .int .u64 0, .slice none 0 0, .slice none 0 0] 37)).heap[w.heap.size + 1]? = some (.cells #[.int .i64 0, .int .u64 0, .slice none 0 0, .slice none 0 0] 37 (0, 0))) := row_of_box (w := w.alloc (.cells #[.int .i64 2, .string s, .int .u64 (n : Int), .int .u64 (v : Int)] 46)) (by simp) (Below.refl _ _)
  clear hs hn hv hc hlo
  unfold epdV at *
  go_enter Tryz.func22, Tryz.ntmps22
  go_wp2_with fail
  refine (C1.out _).mono ?_
  rintro e w1 ⟨rfl, hb⟩
  have B1 := Lib.hid (Below.push HW0.out (Nat.le_of_eq HS0.out.symm) hb)
  have e1 := cell_row (rowBelow HE0.out B1.out (by omega)) 1 rfl
  clear hb
  go_wp2_with fail
  refine (CT.out w1.heap.size w1 (Nat.le_refl _)).mono ?_
  rintro e w2 ⟨v2, rfl, hv2, hb⟩
  have B2 := Lib.hid (Below.push B1.out (Nat.le_of_eq HS0.out.symm) hb)
  have HL1 : Hid (w.heap.size + 2 ≤ w1.heap.size) := by show _ ≤ _; have := B1.out.size; have := HS0.out; omega
  have HL2 : Hid (w.heap.size + 2 ≤ w2.heap.size) := Nat.le_trans HL1.out hb.size
  obtain ⟨k2, n2, A2, nd2, cd2, AL2, nl2, cl2, rfl⟩ := hv2.unmask.form
  have V2 := Lib.hid hv2
  clear hb hv2 e1
  go_wp2_with (first
    | (refine wpList_st4 rfl 37 (.tmp 4) (.tmp 11) rfl _ _ _ _ _ rfl rfl _ _ (heap_alloc_new w2 _) size_it rfl rfl ?_; intro w3 hst3; have B3 := Lib.hid (hst3.2.1 _ _ (B2.out.alloc HL2.out (.cells #[.int .i64 0, .int .u64 0, .slice none 0 0, .slice none 0 0] 37)) HL2.out); have Y3 := Lib.hid hst3.1; have V3 := Lib.hid (V2.out.maskup HL1.out (fun j _ hj => ((hst3.2.2.2 j (by omega)).trans (Below.heap_alloc _ _ _ hj))) (Nat.le_trans (le_alloc w2 (.cells #[.int .i64 0, .int .u64 0, .slice none 0 0, .slice none 0 0] 37)) (Nat.le_of_eq hst3.2.2.1.symm))); have Z3 : Hid (w3.heap.size = w2.heap.size + 1) := hst3.2.2.1.trans (by simp); have e0 := cell_row (rowBelow HE0.out B3.out (by omega)) 0 rfl; have e1 := cell_row (rowBelow HE0.out B3.out (by omega)) 1 rfl; clear hst3)
    | fail)
  clear e0 e1 V3 V2
  have E3 := Lib.hid (rowBelow HE0.out B3.out (by omega))
  refine wp_region_held_drew (S := fun W => W.heap[w.heap.size]? = some (.cells #[.int .i64 2, .string s, .int .u64 (n : Int), .int .u64 (v : Int)] 46 (0, 0))) (by kernel_rfl) E3.out (fun hHeld => ?_)
  have BC : Hid (Below w3.heap.size w3 w3.drew) := Below.drew_
  refine takeR (i := 0) (v := ?v0_1) rfl (by kernel_rfl) (by kernel_rfl) (by kernel_rfl) (fun _ _ _ h => h) (by rfl) ?hy0_1 (by assumption) ?rest0_1
  case hy0_1 => (intro W hSw; go_simp; try with_reducible rfl)
  try simp only [Act.put]
  try simp only [List.setIfInBounds_toArray]
  try simp only [List.set_cons_succ]
  try simp only [List.set_cons_zero]
  refine takeR (i := 1) (v := ?v1_2) rfl (by kernel_rfl) (by kernel_rfl) (by kernel_rfl) (fun _ _ _ h => h) (by rfl) ?hy1_2 (by assumption) ?rest1_2
  case hy1_2 => (intro W hSw; have e2 := cell_row hSw 2 rfl; go_simp; try with_reducible rfl)
  try simp only [Act.put]
  try simp only [List.setIfInBounds_toArray]
  try simp only [List.set_cons_succ]
  try simp only [List.set_cons_zero]
  refine takeR (i := 3) (v := ?v3_3) rfl (by kernel_rfl) (by kernel_rfl) (by kernel_rfl) (fun _ _ _ h => h) (by rfl) ?hy3_3 (by assumption) ?rest3_3
  case hy3_3 => (intro W hSw; go_simp; try with_reducible rfl)
  try simp only [Act.put]
  try simp only [List.setIfInBounds_toArray]
  try simp only [List.set_cons_succ]
  try simp only [List.set_cons_zero]
  refine takeR (i := 4) (v := ?v4_4) rfl (by kernel_rfl) (by kernel_rfl) (by kernel_rfl) (fun _ _ _ h => h) (by rfl) ?hy4_4 (by assumption) ?rest4_4
  case hy4_4 => (intro W hSw; have e3 := cell_row hSw 3 rfl; go_simp; try with_reducible rfl)
  try simp only [Act.put]
  try simp only [List.setIfInBounds_toArray]
  try simp only [List.set_cons_succ]
  try simp only [List.set_cons_zero]
  refine wpAnyH_ready (rs := [2]) (by kernel_rfl) (by simp) ?_
  refine AllReadyH.cons rfl (fun K hK => ?_) AllReadyH.nil
  rw [if_pos (by rfl)]
  go_simp
  refine (ruintV (n : Int) _).mono ?_
  rintro e wa ⟨rfl, hb⟩
  replace BC := Lib.hid (BC.out.trans (hb.mono BC.out.size))
  clear hb
  go_simp
  refine hK.out _ _ (rowBelow E3.out BC.out (row_lt E3.out)) (fun hHeld => ?_)
  try simp only [Act.put]
  try simp only [List.setIfInBounds_toArray]
  try simp only [List.set_cons_succ]
  try simp only [List.set_cons_zero]
  clear hK K
  refine wpAnyH_ready (rs := [5]) (by kernel_rfl) (by simp) ?_
  refine AllReadyH.cons rfl (fun K hK => ?_) AllReadyH.nil
  rw [if_pos (by rfl)]
  go_simp
  refine (ruintV (v : Int) _).mono ?_
  rintro e wb ⟨rfl, hb⟩
  replace BC := Lib.hid (BC.out.trans (hb.mono BC.out.size))
  clear hb
  go_simp
  refine hK.out _ _ (rowBelow E3.out BC.out (row_lt E3.out)) (fun hHeld => ?_)
  try simp only [Act.put]
  try simp only [List.setIfInBounds_toArray]
  try simp only [List.set_cons_succ]
  try simp only [List.set_cons_zero]
  clear hK K
  refine wpAnyH_ready (rs := [6]) (by kernel_rfl) (by simp) ?_
  refine AllReadyH.cons rfl (fun K hK => ?_) AllReadyH.nil
  rw [if_pos (by rfl)]
  go_simp
  have hit : ItC (mask (lows w3.heap.size) wb) wb.heap.size [.int .i64 0, .int .u64 (n : Int), .slice none 0 0, .slice none 0 0, .int .i64 0, .int .u64 (v : Int), .slice none 0 0, .slice none 0 0] [.mk 0 n [] [], .mk 0 v [] []] := ⟨RdI.mk_uint HNV.out.1, RdI.mk_uint HNV.out.2, trivial⟩
  have HIT := Lib.hid (ItL.row (t := 37) BC.out.size hit)
  replace BC := Lib.hid (BC.out.alloc BC.out.size (.cells #[.int .i64 0, .int .u64 (n : Int), .slice none 0 0, .slice none 0 0, .int .i64 0, .int .u64 (v : Int), .slice none 0 0, .slice none 0 0] 37))
  clear hit
  refine hK.out _ _ (rowBelow E3.out BC.out (row_lt E3.out)) (fun hHeld => ?_)
  try simp only [Act.put]
  try simp only [List.setIfInBounds_toArray]
  try simp only [List.set_cons_succ]
  try simp only [List.set_cons_zero]
  clear hK K
  refine wpAnyH_ready (rs := [7]) (by kernel_rfl) (by simp) ?_
  refine AllReadyH.cons rfl (fun K hK => ?_) AllReadyH.nil
  rw [if_pos (by rfl)]
  go_simp
  refine (rarrayL_any w3.heap.size wb.heap.size 0 2 2 _ [.mk 0 n [] [], .mk 0 v [] []] (wb.alloc (.cells #[.int .i64 0, .int .u64 (n : Int), .slice none 0 0, .slice none 0 0, .int .i64 0, .int .u64 (v : Int), .slice none 0 0, .slice none 0 0] 37)) (Nat.le_refl _) (by simp) HIT.out BC.out.size rfl (by decide) (by decide) (Nat.le_refl _)).mono ?_
  rintro e w4 ⟨v4, rfl, hv4, hb⟩
  replace BC := Lib.hid (BC.out.trans (hb.mono BC.out.size))
  obtain ⟨k4, n4, A4, nd4, cd4, AL4, nl4, cl4, rfl⟩ := hv4.unmask.form
  have V4 := Lib.hid hv4
  clear hb hv4
  go_simp
  refine hK.out _ _ (rowBelow E3.out BC.out (row_lt E3.out)) (fun hHeld => ?_)
  try simp only [Act.put]
  try simp only [List.setIfInBounds_toArray]
  try simp only [List.set_cons_succ]
  try simp only [List.set_cons_zero]
  clear hK K
  refine wpAnyH_ready (rs := [8]) (by kernel_rfl) (by simp) ?_
  refine AllReadyH.cons rfl (fun K hK => ?_) AllReadyH.nil
  have Y4 := rowBelow Y3.out BC.out (row_lt Y3.out)
  have E4 := rowBelow E3.out BC.out (row_lt E3.out)
  have B4 := Below.push B3.out (Nat.le_of_eq HS0.out.symm) BC.out
  refine step_st4 (by rfl) 37 (.tmp 4) (.tmp 22) (by rfl) _ _ _ _ _ (by rfl) (by rfl) _ _ Y4 size_it rfl rfl ?_
  intro w5 hstw5
  have V5 := Lib.hid (V4.out.maskup (lo' := w.heap.size + 2) (by have := Z3.out; have := HL2.out; omega) (fun j hj _ => hstw5.2.2.2 j (by have := Z3.out; omega)) (Nat.le_of_eq hstw5.2.2.1.symm))
  have BT := Lib.hid (hstw5.2.1 _ _ B4 HL2.out)
  have YT := Lib.hid hstw5.1
  refine hK.out _ _ ((hstw5.2.2.2 _ (by have := HL2.out; omega)).trans E4) (fun hHeld => ?_)
  try simp only [Act.put]
  try simp only [List.setIfInBounds_toArray]
  try simp only [List.set_cons_succ]
  try simp only [List.set_cons_zero]
  clear hK K
  refine wpAnyH_done (by kernel_rfl) ?_ _
  go_wp2_with fail
  have RT : Hid (RdI (mask (lows (w.heap.size + 2)) w5) w5.heap.size (.agg #[.int .i64 k4, .int .u64 (n4 : Int), .slice A4 nd4 cd4, .slice AL4 nl4 cl4]) X2) := by rw [HX2.out]; exact V5.out
  clear hstw5 Y4 E4 B4 BC V4 V5 HIT hHeld E3 Y3 B3
  have ET := Lib.hid (rowBelow HE0.out BT.out (by omega))
  have QT := Lib.hid (rowBelow HR0.out BT.out (by omega))
  have LT : Hid (w.heap.size + 2 ≤ w5.heap.size) := by show _ ≤ _; have := BT.out.size; have := HS0.out; omega
  refine wp_region_held_drew (S := fun W => W.heap[w.heap.size]? = some (.cells #[.int .i64 2, .string s, .int .u64 (n : Int), .int .u64 (v : Int)] 46 (0, 0)) ∧ W.heap[w2.heap.size]? = some (.cells #[.int .i64 k4, .int .u64 (n4 : Int), .slice A4 nd4 cd4, .slice AL4 nl4 cl4] 37 (0, 0))) (by kernel_rfl) ⟨ET.out, YT.out⟩ (fun hHeld => ?_)
  have BC : Hid (Below w5.heap.size w5 w5.drew) := Below.drew_
  refine takeR (i := 0) (v := ?v0_5) rfl (by kernel_rfl) (by kernel_rfl) (by kernel_rfl) (fun _ _ _ h => h) (by rfl) ?hy0_5 (by assumption) ?rest0_5
  case hy0_5 => (intro W hSw; go_simp; try with_reducible rfl)
  try simp only [Act.put]
  try simp only [List.setIfInBounds_toArray]
  try simp only [List.set_cons_succ]
  try simp only [List.set_cons_zero]
  refine takeR (i := 1) (v := ?v1_6) rfl (by kernel_rfl) (by kernel_rfl) (by kernel_rfl) (fun _ _ _ h => h) (by rfl) ?hy1_6 (by assumption) ?rest1_6
  case hy1_6 => (intro W hSw; have e0 := cell_row hSw.1 0 rfl; go_simp; try with_reducible rfl)
  try simp only [Act.put]
  try simp only [List.setIfInBounds_toArray]
  try simp only [List.set_cons_succ]
  try simp only [List.set_cons_zero]
  refine takeR (i := 2) (v := ?v2_7) rfl (by kernel_rfl) (by kernel_rfl) (by kernel_rfl) (fun _ _ _ h => h) (by rfl) ?hy2_7 (by assumption) ?rest2_7
  case hy2_7 => (intro W hSw; go_simp; try with_reducible rfl)
  try simp only [Act.put]
  try simp only [List.setIfInBounds_toArray]
  try simp only [List.set_cons_succ]
  try simp only [List.set_cons_zero]
  refine takeR (i := 4) rfl (by kernel_rfl) (by kernel_rfl) (by kernel_rfl) (fun _ _ _ h => h) (by rfl) (fun W hW => exec_ld4 rfl rfl hW.2 rfl) (by assumption) ?_
  try simp only [Act.put]
  try simp only [List.setIfInBounds_toArray]
  try simp only [List.set_cons_succ]
  try simp only [List.set_cons_zero]
  refine wpAnyH_ready (rs := [3]) (by kernel_rfl) (by simp) ?_
  refine AllReadyH.cons rfl (fun K hK => ?_) AllReadyH.nil
  rw [if_pos (by rfl)]
  go_simp
  refine (ruintV 2 _).mono ?_
  rintro e wu ⟨rfl, hb⟩
  replace BC := Lib.hid (BC.out.trans (hb.mono BC.out.size))
  clear hb
  go_simp
  refine hK.out _ _ (⟨rowBelow ET.out BC.out (row_lt ET.out), rowBelow YT.out BC.out (row_lt YT.out)⟩) (fun hHeld => ?_)
  try simp only [Act.put]
  try simp only [List.setIfInBounds_toArray]
  try simp only [List.set_cons_succ]
  try simp only [List.set_cons_zero]
  clear hK K
  refine wpAnyH_ready (rs := [5]) (by kernel_rfl) (by simp) ?_
  refine AllReadyH.cons rfl (fun K hK => ?_) AllReadyH.nil
  rw [if_pos (by rfl)]
  go_simp
  have hit : ItC (mask (lows (w.heap.size + 2)) wu) wu.heap.size [.int .i64 0, .int .u64 2, .slice none 0 0, .slice none 0 0, .int .i64 k4, .int .u64 (n4 : Int), .slice A4 nd4 cd4, .slice AL4 nl4 cl4] [.mk 0 2 [] [], X2] := ⟨RdI.mk_uint (n := 2) (by decide), RT.out.maskup (Nat.le_refl _) (fun j _ hj => BC.out.block j hj) BC.out.size, trivial⟩
  have HIT := Lib.hid (ItL.row (t := 37) (Nat.le_trans LT.out BC.out.size) hit)
  replace BC := Lib.hid (BC.out.alloc BC.out.size (.cells #[.int .i64 0, .int .u64 2, .slice none 0 0, .slice none 0 0, .int .i64 k4, .int .u64 (n4 : Int), .slice A4 nd4 cd4, .slice AL4 nl4 cl4] 37))
  clear hit
  refine hK.out _ _ (⟨rowBelow ET.out BC.out (row_lt ET.out), rowBelow YT.out BC.out (row_lt YT.out)⟩) (fun hHeld => ?_)
  try simp only [Act.put]
  try simp only [List.setIfInBounds_toArray]
  try simp only [List.set_cons_succ]
  try simp only [List.set_cons_zero]
  clear hK K
  refine wpAnyH_ready (rs := [6]) (by kernel_rfl) (by simp) ?_
  refine AllReadyH.cons rfl (fun K hK => ?_) AllReadyH.nil
  rw [if_pos (by rfl)]
  go_simp
  refine (rarrayL_any (w.heap.size + 2) wu.heap.size 0 2 2 _ [.mk 0 2 [] [], X2] (wu.alloc (.cells #[.int .i64 0, .int .u64 2, .slice none 0 0, .slice none 0 0, .int .i64 k4, .int .u64 (n4 : Int), .slice A4 nd4 cd4, .slice AL4 nl4 cl4] 37)) (Nat.le_refl _) (by simp) HIT.out (Nat.le_trans LT.out BC.out.size) rfl (by decide) (by decide) (Nat.le_refl _)).mono ?_
  rintro e w7 ⟨v7, rfl, hv7, hb⟩
  replace BC := Lib.hid (BC.out.trans (hb.mono BC.out.size))
  obtain ⟨k7, n7, A7, nd7, cd7, AL7, nl7, cl7, rfl⟩ := hv7.unmask.form
  have V7 := Lib.hid hv7
  clear hb hv7
  go_simp
  refine hK.out _ _ (⟨rowBelow ET.out BC.out (row_lt ET.out), rowBelow YT.out BC.out (row_lt YT.out)⟩) (fun hHeld => ?_)
  try simp only [Act.put]
  try simp only [List.setIfInBounds_toArray]
  try simp only [List.set_cons_succ]
  try simp only [List.set_cons_zero]
  clear hK K
  refine wpAnyH_ready (rs := [7]) (by kernel_rfl) (by simp) ?_
  refine AllReadyH.cons rfl (fun K hK => ?_) AllReadyH.nil
  have QC := rowBelow QT.out BC.out (row_lt QT.out)
  have E7 := rowBelow ET.out BC.out (row_lt ET.out)
  have Y7 := rowBelow YT.out BC.out (row_lt YT.out)
  refine step_st4 (by rfl) 37 (.tmp 2) (.tmp 33) (by rfl) _ _ _ _ _ (by rfl) (by rfl) _ _ QC size_it rfl rfl ?_
  intro w8 hstw8
  have V8 := Lib.hid (V7.out.maskup HLO.out (fun j hj _ => hstw8.2.2.2 j (by omega)) (Nat.le_of_eq hstw8.2.2.1.symm))
  have B8 := Lib.hid (hstw8.2.1 _ _ (HB0.out.trans ((BT.out.trans (BC.out.mono LT.out)).mono (Nat.le_add_right _ 2))) (Nat.le_succ _))
  have R8 := Lib.hid hstw8.1
  refine hK.out _ _ (⟨(hstw8.2.2.2 _ (by omega)).trans E7, (hstw8.2.2.2 _ (by have := HL2.out; omega)).trans Y7⟩) (fun hHeld => ?_)
  try simp only [Act.put]
  try simp only [List.setIfInBounds_toArray]
  try simp only [List.set_cons_succ]
  try simp only [List.set_cons_zero]
  clear hK K
  refine takeR (i := 8) (v := ?v8_8) rfl (by kernel_rfl) (by kernel_rfl) (by kernel_rfl) (fun _ _ _ h => h) (by rfl) ?hy8_8 (by assumption) ?rest8_8
  case hy8_8 => (intro W hSw; go_simp; try with_reducible rfl)
  try simp only [Act.put]
  try simp only [List.setIfInBounds_toArray]
  try simp only [List.set_cons_succ]
  try simp only [List.set_cons_zero]
  refine wpAnyH_done (by kernel_rfl) ?_ _
  go_wp2_with fail
  exact bodyPost_ret (res_it Tryz.results22 _ _ rfl R8.out rfl) rfl ⟨_, rfl, by rw [HX.out]; exact V8.out, B8.out⟩

set_option maxRecDepth 100000 in
set_option maxHeartbeats 8000000 in
theorem ritem_none (lo : Nat) (s : ByteArray) (n v : Nat) (w : World) (hlo : lo ≤ w.heap.size) (hs : s.size ≤ 140737488355328) (hn : n < 18446744073709551616) (hv : v < 18446744073709551616) (he : s.data.toList = []) (hc : checkB (ep 1 s n v) = true) :
    Calls Tryz.prog 22 #[epdV 1 s n v] w (GivesTI lo (.mk 4 0 [] [.mk 0 1 [] [], .mk 0 0 [] []]) w) := by
  have C1 := Lib.hid (fun W => rcheckE_any 1 s n v W hs)
  rw [hc] at C1
  have CT := Lib.hid (fun (lo : Nat) (W : World) (hlo : lo ≤ W.heap.size) => rtextL_any lo s W hlo hs)
  have HNV := Lib.hid (And.intro hn hv)
  have HLO : Hid (lo ≤ w.heap.size + 2) := by show _ ≤ _; omega
  obtain ⟨X2, hX2⟩ : ∃ X2 : Itm, X2 = .mk 0 0 [] [] := ⟨_, rfl⟩
  have HX : Hid (Itm.mk 4 0 [] [.mk 0 1 [] [], .mk 0 0 [] []] = .mk 4 0 [] [.mk 0 1 [] [], X2]) := by show _ = _; rw [hX2]
  have HX2 := Lib.hid hX2
  clear hX2
  have hbe : s.toList.isEmpty = true := by rw [Lib.toList_data]; rw [he]; rfl
  have HB0 := Lib.hid (((Below.refl w.heap.size w).alloc (Nat.le_refl _) (.cells #[.int .i64 1, .string s, .int .u64 (n : Int), .int .u64 (v : Int)] 46)).alloc (le_alloc _ _) (.cells #[.int .i64 0, .int .u64 0, .slice none 0 0, .slice none 0 0] 37))
  have HW0 : Hid (Below (w.heap.size + 2) ((w.alloc (.cells #[.int .i64 1, .string s, .int .u64 (n : Int), .int .u64 (v : Int)] 46)).alloc (.cells #[.int .i64 0, .int .u64 0, .slice none 0 0, .slice none 0 0] 37)) ((w.alloc (.cells #[.int .i64 1, .string s, .int .u64 (n : Int), .int .u64 (v : Int)] 46)).alloc (.cells #[.int .i64 0, .int .u64 0, .slice none 0 0, .slice none 0 0] 37))) := Below.refl _ _
  have HS0 : Hid (((w.alloc (.cells #[.int .i64 1, .string s, .int .u64 (n : Int), .int .u64 (v : Int)] 46)).alloc (.cells #[.int .i64 0, .int .u64 0, .slice none 0 0, .slice none 0 0] 37)).heap.size = w.heap.size + 2) := by show _ = _; simp
  have HE0 : Hid (((w.alloc (.cells #[.int .i64 1, .string s, .int .u64 (n : Int), .int .u64 (v : Int)] 46)).alloc (.cells #[.int .i64 0, .int .u64 0, .slice none 0 0, .slice none 0 0] 37)).heap[w.heap.size]? = some (.cells #[.int .i64 1, .string s, .int .u64 (n : Int), .int .u64 (v : Int)] 46 (0, 0))) := row_of_box (w := w) rfl ((Below.refl (w.heap.size + 1) (w.alloc (.cells #[.int .i64 1, .string s, .int .u64 (n : Int), .int .u64 (v : Int)] 46))).alloc (by simp) (.cells #[.int .i64 0, .int .u64 0, .slice none 0 0, .slice none 0 0] 37))
  have HR0 : Hid (((w.alloc (.cells #[.int .i64 1, .string s, .int .u64 (n : Int), .int .u64 (v : Int)] 46)).alloc (.cells #[.int .i64 0, .int .u64 0, .slice none 0 0, .slice none 0 0] 37)).heap[w.heap.size + 1]? = some (.cells #[.int .i64 0, .int .u64 0, .slice none 0 0, .slice none 0 0] 37 (0, 0))) := row_of_box (w := w.alloc (.cells #[.int .i64 1, .string s, .int .u64 (n : Int), .int .u64 (v : Int)] 46)) (by simp) (Below.refl _ _)
  clear hs hn hv hc hlo he
  unfold epdV at *
  go_enter Tryz.func22, Tryz.ntmps22
  go_wp2_with fail
  refine (C1.out _).mono ?_
  rintro e w1 ⟨rfl, hb⟩
  have B1 := Lib.hid (Below.push HW0.out (Nat.le_of_eq HS0.out.symm) hb)
  have e1 := cell_row (rowBelow HE0.out B1.out (by omega)) 1 rfl
  clear hb
  go_wp2_with fail
  refine (CT.out w1.heap.size w1 (Nat.le_refl _)).mono ?_
  rintro e w2 ⟨v2, rfl, hv2, hb⟩
  have B2 := Lib.hid (Below.push B1.out (Nat.le_of_eq HS0.out.symm) hb)
  have HL1 : Hid (w.heap.size + 2 ≤ w1.heap.size) := by show _ ≤ _; have := B1.out.size; have := HS0.out; omega
  have HL2 : Hid (w.heap.size + 2 ≤ w2.heap.size) := Nat.le_trans HL1.out hb.size
  obtain ⟨k2, n2, A2, nd2, cd2, AL2, nl2, cl2, rfl⟩ := hv2.unmask.form
  have V2 := Lib.hid hv2
  clear hb hv2 e1
  go_wp2_with (first
    | (refine wpList_st4 rfl 37 (.tmp 4) (.tmp 11) rfl _ _ _ _ _ rfl rfl _ _ (heap_alloc_new w2 _) size_it rfl rfl ?_; intro w3 hst3; have B3 := Lib.hid (hst3.2.1 _ _ (B2.out.alloc HL2.out (.cells #[.int .i64 0, .int .u64 0, .slice none 0 0, .slice none 0 0] 37)) HL2.out); have Y3 := Lib.hid hst3.1; have V3 := Lib.hid (V2.out.maskup HL1.out (fun j _ hj => ((hst3.2.2.2 j (by omega)).trans (Below.heap_alloc _ _ _ hj))) (Nat.le_trans (le_alloc w2 (.cells #[.int .i64 0, .int .u64 0, .slice none 0 0, .slice none 0 0] 37)) (Nat.le_of_eq hst3.2.2.1.symm))); have Z3 : Hid (w3.heap.size = w2.heap.size + 1) := hst3.2.2.1.trans (by simp); have e0 := cell_row (rowBelow HE0.out B3.out (by omega)) 0 rfl; have e1 := cell_row (rowBelow HE0.out B3.out (by omega)) 1 rfl; clear hst3)
    | fail)
  refine (ruintV 0 _).mono ?_
  rintro e w4 ⟨rfl, hb⟩
  have B4 := Lib.hid (Below.push B3.out (Nat.le_of_eq HS0.out.symm) hb)
  have Y4 := Lib.hid (rowBelow Y3.out hb (row_lt Y3.out))
  clear hb e0 e1
  go_wp2_with (first
    | (refine wpList_st4 rfl 37 (.tmp 4) (.tmp 26) rfl _ _ _ _ _ rfl rfl _ _ Y4.out size_it rfl rfl ?_; intro w5 hst5; have BT := Lib.hid (hst5.2.1 _ _ B4.out HL2.out); have YT := Lib.hid hst5.1; clear hst5)
    | fail)
  have RT : Hid (RdI (mask (lows (w.heap.size + 2)) w5) w5.heap.size (.agg #[.int .i64 0, .int .u64 0, .slice none 0 0, .slice none 0 0]) X2) := by rw [HX2.out]; exact RdI.mk_uint (n := 0) (by decide)
  have ET := Lib.hid (rowBelow HE0.out BT.out (by omega))
  have QT := Lib.hid (rowBelow HR0.out BT.out (by omega))
  have LT : Hid (w.heap.size + 2 ≤ w5.heap.size) := by show _ ≤ _; have := BT.out.size; have := HS0.out; omega
  refine wp_region_held_drew (S := fun W => W.heap[w.heap.size]? = some (.cells #[.int .i64 1, .string s, .int .u64 (n : Int), .int .u64 (v : Int)] 46 (0, 0)) ∧ W.heap[w2.heap.size]? = some (.cells #[.int .i64 0, .int .u64 0, .slice none 0 0, .slice none 0 0] 37 (0, 0))) (by kernel_rfl) ⟨ET.out, YT.out⟩ (fun hHeld => ?_)
  have BC : Hid (Below w5.heap.size w5 w5.drew) := Below.drew_
  refine takeR (i := 0) (v := ?v0_9) rfl (by kernel_rfl) (by kernel_rfl) (by kernel_rfl) (fun _ _ _ h => h) (by rfl) ?hy0_9 (by assumption) ?rest0_9
  case hy0_9 => (intro W hSw; go_simp; try with_reducible rfl)
  try simp only [Act.put]
  try simp only [List.setIfInBounds_toArray]
  try simp only [List.set_cons_succ]
  try simp only [List.set_cons_zero]
  refine takeR (i := 1) (v := ?v1_10) rfl (by kernel_rfl) (by kernel_rfl) (by kernel_rfl) (fun _ _ _ h => h) (by rfl) ?hy1_10 (by assumption) ?rest1_10
  case hy1_10 => (intro W hSw; have e0 := cell_row hSw.1 0 rfl; go_simp; try with_reducible rfl)
  try simp only [Act.put]
  try simp only [List.setIfInBounds_toArray]
  try simp only [List.set_cons_succ]
  try simp only [List.set_cons_zero]
  refine takeR (i := 2) (v := ?v2_11) rfl (by kernel_rfl) (by kernel_rfl) (by kernel_rfl) (fun _ _ _ h => h) (by rfl) ?hy2_11 (by assumption) ?rest2_11
  case hy2_11 => (intro W hSw; go_simp; try with_reducible rfl)
  try simp only [Act.put]
  try simp only [List.setIfInBounds_toArray]
  try simp only [List.set_cons_succ]
  try simp only [List.set_cons_zero]
  refine takeR (i := 4) rfl (by kernel_rfl) (by kernel_rfl) (by kernel_rfl) (fun _ _ _ h => h) (by rfl) (fun W hW => exec_ld4 rfl rfl hW.2 rfl) (by assumption) ?_
  try simp only [Act.put]
  try simp only [List.setIfInBounds_toArray]
  try simp only [List.set_cons_succ]
  try simp only [List.set_cons_zero]
  refine wpAnyH_ready (rs := [3]) (by kernel_rfl) (by simp) ?_
  refine AllReadyH.cons rfl (fun K hK => ?_) AllReadyH.nil
  rw [if_pos (by rfl)]
  go_simp
  refine (ruintV 1 _).mono ?_
  rintro e wu ⟨rfl, hb⟩
  replace BC := Lib.hid (BC.out.trans (hb.mono BC.out.size))
  clear hb
  go_simp
  refine hK.out _ _ (⟨rowBelow ET.out BC.out (row_lt ET.out), rowBelow YT.out BC.out (row_lt YT.out)⟩) (fun hHeld => ?_)
  try simp only [Act.put]
  try simp only [List.setIfInBounds_toArray]
  try simp only [List.set_cons_succ]
  try simp only [List.set_cons_zero]
  clear hK K
  refine wpAnyH_ready (rs := [5]) (by kernel_rfl) (by simp) ?_
  refine AllReadyH.cons rfl (fun K hK => ?_) AllReadyH.nil
  rw [if_pos (by rfl)]
  go_simp
  have hit : ItC (mask (lows (w.heap.size + 2)) wu) wu.heap.size [.int .i64 0, .int .u64 1, .slice none 0 0, .slice none 0 0, .int .i64 0, .int .u64 0, .slice none 0 0, .slice none 0 0] [.mk 0 1 [] [], X2] := ⟨RdI.mk_uint (n := 1) (by decide), RT.out.maskup (Nat.le_refl _) (fun j _ hj => BC.out.block j hj) BC.out.size, trivial⟩
  have HIT := Lib.hid (ItL.row (t := 37) (Nat.le_trans LT.out BC.out.size) hit)
  replace BC := Lib.hid (BC.out.alloc BC.out.size (.cells #[.int .i64 0, .int .u64 1, .slice none 0 0, .slice none 0 0, .int .i64 0, .int .u64 0, .slice none 0 0, .slice none 0 0] 37))
  clear hit
  refine hK.out _ _ (⟨rowBelow ET.out BC.out (row_lt ET.out), rowBelow YT.out BC.out (row_lt YT.out)⟩) (fun hHeld => ?_)
  try simp only [Act.put]
  try simp only [List.setIfInBounds_toArray]
  try simp only [List.set_cons_succ]
  try simp only [List.set_cons_zero]
  clear hK K
  refine wpAnyH_ready (rs := [6]) (by kernel_rfl) (by simp) ?_
  refine AllReadyH.cons rfl (fun K hK => ?_) AllReadyH.nil
  rw [if_pos (by rfl)]
  go_simp
  refine (rarrayL_any (w.heap.size + 2) wu.heap.size 0 2 2 _ [.mk 0 1 [] [], X2] (wu.alloc (.cells #[.int .i64 0, .int .u64 1, .slice none 0 0, .slice none 0 0, .int .i64 0, .int .u64 0, .slice none 0 0, .slice none 0 0] 37)) (Nat.le_refl _) (by simp) HIT.out (Nat.le_trans LT.out BC.out.size) rfl (by decide) (by decide) (Nat.le_refl _)).mono ?_
  rintro e w7 ⟨v7, rfl, hv7, hb⟩
  replace BC := Lib.hid (BC.out.trans (hb.mono BC.out.size))
  obtain ⟨k7, n7, A7, nd7, cd7, AL7, nl7, cl7, rfl⟩ := hv7.unmask.form
  have V7 := Lib.hid hv7
  clear hb hv7
  go_simp
  refine hK.out _ _ (⟨rowBelow ET.out BC.out (row_lt ET.out), rowBelow YT.out BC.out (row_lt YT.out)⟩) (fun hHeld => ?_)
  try simp only [Act.put]
  try simp only [List.setIfInBounds_toArray]
  try simp only [List.set_cons_succ]
  try simp only [List.set_cons_zero]
  clear hK K
  refine wpAnyH_ready (rs := [7]) (by kernel_rfl) (by simp) ?_
  refine AllReadyH.cons rfl (fun K hK => ?_) AllReadyH.nil
  have QC := rowBelow QT.out BC.out (row_lt QT.out)
  have E7 := rowBelow ET.out BC.out (row_lt ET.out)
  have Y7 := rowBelow YT.out BC.out (row_lt YT.out)
  refine step_st4 (by rfl) 37 (.tmp 2) (.tmp 33) (by rfl) _ _ _ _ _ (by rfl) (by rfl) _ _ QC size_it rfl rfl ?_
  intro w8 hstw8
  have V8 := Lib.hid (V7.out.maskup HLO.out (fun j hj _ => hstw8.2.2.2 j (by omega)) (Nat.le_of_eq hstw8.2.2.1.symm))
  have B8 := Lib.hid (hstw8.2.1 _ _ (HB0.out.trans ((BT.out.trans (BC.out.mono LT.out)).mono (Nat.le_add_right _ 2))) (Nat.le_succ _))
  have R8 := Lib.hid hstw8.1
  refine hK.out _ _ (⟨(hstw8.2.2.2 _ (by omega)).trans E7, (hstw8.2.2.2 _ (by have := HL2.out; omega)).trans Y7⟩) (fun hHeld => ?_)
  try simp only [Act.put]
  try simp only [List.setIfInBounds_toArray]
  try simp only [List.set_cons_succ]
  try simp only [List.set_cons_zero]
  clear hK K
  refine takeR (i := 8) (v := ?v8_12) rfl (by kernel_rfl) (by kernel_rfl) (by kernel_rfl) (fun _ _ _ h => h) (by rfl) ?hy8_12 (by assumption) ?rest8_12
  case hy8_12 => (intro W hSw; go_simp; try with_reducible rfl)
  try simp only [Act.put]
  try simp only [List.setIfInBounds_toArray]
  try simp only [List.set_cons_succ]
  try simp only [List.set_cons_zero]
  refine wpAnyH_done (by kernel_rfl) ?_ _
  go_wp2_with fail
  exact bodyPost_ret (res_it Tryz.results22 _ _ rfl R8.out rfl) rfl ⟨_, rfl, by rw [HX.out]; exact V8.out, B8.out⟩

set_option maxRecDepth 100000 in
set_option maxHeartbeats 8000000 in
theorem ritem_dtn (lo : Nat) (s : ByteArray) (n v : Nat) (w : World) (hlo : lo ≤ w.heap.size) (hs : s.size ≤ 140737488355328) (hn : n < 18446744073709551616) (hv : v < 18446744073709551616) (he : s.data.toList ≠ []) (hc : checkB (ep 1 s n v) = true) :
    Calls Tryz.prog 22 #[epdV 1 s n v] w (GivesTI lo (.mk 4 0 [] [.mk 0 1 [] [], .mk 3 0 s.data.toList []]) w) := by
  have C1 := Lib.hid (fun W => rcheckE_any 1 s n v W hs)
  rw [hc] at C1
  have CT := Lib.hid (fun (lo : Nat) (W : World) (hlo : lo ≤ W.heap.size) => rtextL_any lo s W hlo hs)
  have HNV := Lib.hid (And.intro hn hv)
  have HLO : Hid (lo ≤ w.heap.size + 2) := by show _ ≤ _; omega
  obtain ⟨X2, hX2⟩ : ∃ X2 : Itm, X2 = .mk 3 0 s.data.toList [] := ⟨_, rfl⟩
  have HX : Hid (Itm.mk 4 0 [] [.mk 0 1 [] [], .mk 3 0 s.data.toList []] = .mk 4 0 [] [.mk 0 1 [] [], X2]) := by show _ = _; rw [hX2]
  have HX2 := Lib.hid hX2
  clear hX2
  have hbe : s.toList.isEmpty = false := by rw [Lib.toList_data]; cases hh : s.data.toList with | nil => exact absurd hh he | cons a l => rfl
  have HB0 := Lib.hid (((Below.refl w.heap.size w).alloc (Nat.le_refl _) (.cells #[.int .i64 1, .string s, .int .u64 (n : Int), .int .u64 (v : Int)] 46)).alloc (le_alloc _ _) (.cells #[.int .i64 0, .int .u64 0, .slice none 0 0, .slice none 0 0] 37))
  have HW0 : Hid (Below (w.heap.size + 2) ((w.alloc (.cells #[.int .i64 1, .string s, .int .u64 (n : Int), .int .u64 (v : Int)] 46)).alloc (.cells #[.int .i64 0, .int .u64 0, .slice none 0 0, .slice none 0 0] 37)) ((w.alloc (.cells #[.int .i64 1, .string s, .int .u64 (n : Int), .int .u64 (v : Int)] 46)).alloc (.cells #[.int .i64 0, .int .u64 0, .slice none 0 0, .slice none 0 0] 37))) := Below.refl _ _
  have HS0 : Hid (((w.alloc (.cells #[.int .i64 1, .string s, .int .u64 (n : Int), .int .u64 (v : Int)] 46)).alloc (.cells #[.int .i64 0, .int .u64 0, .slice none 0 0, .slice none 0 0] 37)).heap.size = w.heap.size + 2) := by show _ = _; simp
  have HE0 : Hid (((w.alloc (.cells #[.int .i64 1, .string s, .int .u64 (n : Int), .int .u64 (v : Int)] 46)).alloc (.cells #[.int .i64 0, .int .u64 0, .slice none 0 0, .slice none 0 0] 37)).heap[w.heap.size]? = some (.cells #[.int .i64 1, .string s, .int .u64 (n : Int), .int .u64 (v : Int)] 46 (0, 0))) := row_of_box (w := w) rfl ((Below.refl (w.heap.size + 1) (w.alloc (.cells #[.int .i64 1, .string s, .int .u64 (n : Int), .int .u64 (v : Int)] 46))).alloc (by simp) (.cells #[.int .i64 0, .int .u64 0, .slice none 0 0, .slice none 0 0] 37))
  have HR0 : Hid (((w.alloc (.cells #[.int .i64 1, .string s, .int .u64 (n : Int), .int .u64 (v : Int)] 46)).alloc (.cells #[.int .i64 0, .int .u64 0, .slice none 0 0, .slice none 0 0] 37)).heap[w.heap.size + 1]? = some (.cells #[.int .i64 0, .int .u64 0, .slice none 0 0, .slice none 0 0] 37 (0, 0))) := row_of_box (w := w.alloc (.cells #[.int .i64 1, .string s, .int .u64 (n : Int), .int .u64 (v : Int)] 46)) (by simp) (Below.refl _ _)
  clear hs hn hv hc hlo he
  unfold epdV at *
  go_enter Tryz.func22, Tryz.ntmps22
  go_wp2_with fail
  refine (C1.out _).mono ?_
  rintro e w1 ⟨rfl, hb⟩
  have B1 := Lib.hid (Below.push HW0.out (Nat.le_of_eq HS0.out.symm) hb)
  have e1 := cell_row (rowBelow HE0.out B1.out (by omega)) 1 rfl
  clear hb
  go_wp2_with fail
  refine (CT.out w1.heap.size w1 (Nat.le_refl _)).mono ?_
  rintro e w2 ⟨v2, rfl, hv2, hb⟩
  have B2 := Lib.hid (Below.push B1.out (Nat.le_of_eq HS0.out.symm) hb)
  have HL1 : Hid (w.heap.size + 2 ≤ w1.heap.size) := by show _ ≤ _; have := B1.out.size; have := HS0.out; omega
  have HL2 : Hid (w.heap.size + 2 ≤ w2.heap.size) := Nat.le_trans HL1.out hb.size
  obtain ⟨k2, n2, A2, nd2, cd2, AL2, nl2, cl2, rfl⟩ := hv2.unmask.form
  have V2 := Lib.hid hv2
  clear hb hv2 e1
  go_wp2_with (first
    | (refine wpList_st4 rfl 37 (.tmp 4) (.tmp 11) rfl _ _ _ _ _ rfl rfl _ _ (heap_alloc_new w2 _) size_it rfl rfl ?_; intro w3 hst3; have B3 := Lib.hid (hst3.2.1 _ _ (B2.out.alloc HL2.out (.cells #[.int .i64 0, .int .u64 0, .slice none 0 0, .slice none 0 0] 37)) HL2.out); have Y3 := Lib.hid hst3.1; have V3 := Lib.hid (V2.out.maskup HL1.out (fun j _ hj => ((hst3.2.2.2 j (by omega)).trans (Below.heap_alloc _ _ _ hj))) (Nat.le_trans (le_alloc w2 (.cells #[.int .i64 0, .int .u64 0, .slice none 0 0, .slice none 0 0] 37)) (Nat.le_of_eq hst3.2.2.1.symm))); have Z3 : Hid (w3.heap.size = w2.heap.size + 1) := hst3.2.2.1.trans (by simp); have e0 := cell_row (rowBelow HE0.out B3.out (by omega)) 0 rfl; have e1 := cell_row (rowBelow HE0.out B3.out (by omega)) 1 rfl; clear hst3)
    | fail)
  have BT := B3
  have YT := Y3
  have RT : Hid (RdI (mask (lows (w.heap.size + 2)) w3) w3.heap.size (.agg #[.int .i64 k2, .int .u64 (n2 : Int), .slice A2 nd2 cd2, .slice AL2 nl2 cl2]) X2) := by rw [HX2.out]; exact V3.out
  clear e0 e1
  have ET := Lib.hid (rowBelow HE0.out BT.out (by omega))
  have QT := Lib.hid (rowBelow HR0.out BT.out (by omega))
  have LT : Hid (w.heap.size + 2 ≤ w3.heap.size) := by show _ ≤ _; have := BT.out.size; have := HS0.out; omega
  refine wp_region_held_drew (S := fun W => W.heap[w.heap.size]? = some (.cells #[.int .i64 1, .string s, .int .u64 (n : Int), .int .u64 (v : Int)] 46 (0, 0)) ∧ W.heap[w2.heap.size]? = some (.cells #[.int .i64 k2, .int .u64 (n2 : Int), .slice A2 nd2 cd2, .slice AL2 nl2 cl2] 37 (0, 0))) (by kernel_rfl) ⟨ET.out, YT.out⟩ (fun hHeld => ?_)
  have BC : Hid (Below w3.heap.size w3 w3.drew) := Below.drew_
  refine takeR (i := 0) (v := ?v0_13) rfl (by kernel_rfl) (by kernel_rfl) (by kernel_rfl) (fun _ _ _ h => h) (by rfl) ?hy0_13 (by assumption) ?rest0_13
  case hy0_13 => (intro W hSw; go_simp; try with_reducible rfl)
  try simp only [Act.put]
  try simp only [List.setIfInBounds_toArray]
  try simp only [List.set_cons_succ]
  try simp only [List.set_cons_zero]
  refine takeR (i := 1) (v := ?v1_14) rfl (by kernel_rfl) (by kernel_rfl) (by kernel_rfl) (fun _ _ _ h => h) (by rfl) ?hy1_14 (by assumption) ?rest1_14
  case hy1_14 => (intro W hSw; have e0 := cell_row hSw.1 0 rfl; go_simp; try with_reducible rfl)
  try simp only [Act.put]
  try simp only [List.setIfInBounds_toArray]
  try simp only [List.set_cons_succ]
  try simp only [List.set_cons_zero]
  refine takeR (i := 2) (v := ?v2_15) rfl (by kernel_rfl) (by kernel_rfl) (by kernel_rfl) (fun _ _ _ h => h) (by rfl) ?hy2_15 (by assumption) ?rest2_15
  case hy2_15 => (intro W hSw; go_simp; try with_reducible rfl)
  try simp only [Act.put]
  try simp only [List.setIfInBounds_toArray]
  try simp only [List.set_cons_succ]
  try simp only [List.set_cons_zero]
  refine takeR (i := 4) rfl (by kernel_rfl) (by kernel_rfl) (by kernel_rfl) (fun _ _ _ h => h) (by rfl) (fun W hW => exec_ld4 rfl rfl hW.2 rfl) (by assumption) ?_
  try simp only [Act.put]
  try simp only [List.setIfInBounds_toArray]
  try simp only [List.set_cons_succ]
  try simp only [List.set_cons_zero]
  refine wpAnyH_ready (rs := [3]) (by kernel_rfl) (by simp) ?_
  refine AllReadyH.cons rfl (fun K hK => ?_) AllReadyH.nil
  rw [if_pos (by rfl)]
  go_simp
  refine (ruintV 1 _).mono ?_
  rintro e wu ⟨rfl, hb⟩
  replace BC := Lib.hid (BC.out.trans (hb.mono BC.out.size))
  clear hb
  go_simp
  refine hK.out _ _ (⟨rowBelow ET.out BC.out (row_lt ET.out), rowBelow YT.out BC.out (row_lt YT.out)⟩) (fun hHeld => ?_)
  try simp only [Act.put]
  try simp only [List.setIfInBounds_toArray]
  try simp only [List.set_cons_succ]
  try simp only [List.set_cons_zero]
  clear hK K
  refine wpAnyH_ready (rs := [5]) (by kernel_rfl) (by simp) ?_
  refine AllReadyH.cons rfl (fun K hK => ?_) AllReadyH.nil
  rw [if_pos (by rfl)]
  go_simp
  have hit : ItC (mask (lows (w.heap.size + 2)) wu) wu.heap.size [.int .i64 0, .int .u64 1, .slice none 0 0, .slice none 0 0, .int .i64 k2, .int .u64 (n2 : Int), .slice A2 nd2 cd2, .slice AL2 nl2 cl2] [.mk 0 1 [] [], X2] := ⟨RdI.mk_uint (n := 1) (by decide), RT.out.maskup (Nat.le_refl _) (fun j _ hj => BC.out.block j hj) BC.out.size, trivial⟩
  have HIT := Lib.hid (ItL.row (t := 37) (Nat.le_trans LT.out BC.out.size) hit)
  replace BC := Lib.hid (BC.out.alloc BC.out.size (.cells #[.int .i64 0, .int .u64 1, .slice none 0 0, .slice none 0 0, .int .i64 k2, .int .u64 (n2 : Int), .slice A2 nd2 cd2, .slice AL2 nl2 cl2] 37))
  clear hit
  refine hK.out _ _ (⟨rowBelow ET.out BC.out (row_lt ET.out), rowBelow YT.out BC.out (row_lt YT.out)⟩) (fun hHeld => ?_)
  try simp only [Act.put]
  try simp only [List.setIfInBounds_toArray]
  try simp only [List.set_cons_succ]
  try simp only [List.set_cons_zero]
  clear hK K
  refine wpAnyH_ready (rs := [6]) (by kernel_rfl) (by simp) ?_
  refine AllReadyH.cons rfl (fun K hK => ?_) AllReadyH.nil
  rw [if_pos (by rfl)]
  go_simp
  refine (rarrayL_any (w.heap.size + 2) wu.heap.size 0 2 2 _ [.mk 0 1 [] [], X2] (wu.alloc (.cells #[.int .i64 0, .int .u64 1, .slice none 0 0, .slice none 0 0, .int .i64 k2, .int .u64 (n2 : Int), .slice A2 nd2 cd2, .slice AL2 nl2 cl2] 37)) (Nat.le_refl _) (by simp) HIT.out (Nat.le_trans LT.out BC.out.size) rfl (by decide) (by decide) (Nat.le_refl _)).mono ?_
  rintro e w7 ⟨v7, rfl, hv7, hb⟩
  replace BC := Lib.hid (BC.out.trans (hb.mono BC.out.size))
  obtain ⟨k7, n7, A7, nd7, cd7, AL7, nl7, cl7, rfl⟩ := hv7.unmask.form
  have V7 := Lib.hid hv7
  clear hb hv7
  go_simp
  refine hK.out _ _ (⟨rowBelow ET.out BC.out (row_lt ET.out), rowBelow YT.out BC.out (row_lt YT.out)⟩) (fun hHeld => ?_)
  try simp only [Act.put]
  try simp only [List.setIfInBounds_toArray]
  try simp only [List.set_cons_succ]
  try simp only [List.set_cons_zero]
  clear hK K
  refine wpAnyH_ready (rs := [7]) (by kernel_rfl) (by simp) ?_
  refine AllReadyH.cons rfl (fun K hK => ?_) AllReadyH.nil
  have QC := rowBelow QT.out BC.out (row_lt QT.out)
  have E7 := rowBelow ET.out BC.out (row_lt ET.out)
  have Y7 := rowBelow YT.out BC.out (row_lt YT.out)
  refine step_st4 (by rfl) 37 (.tmp 2) (.tmp 33) (by rfl) _ _ _ _ _ (by rfl) (by rfl) _ _ QC size_it rfl rfl ?_
  intro w8 hstw8
  have V8 := Lib.hid (V7.out.maskup HLO.out (fun j hj _ => hstw8.2.2.2 j (by omega)) (Nat.le_of_eq hstw8.2.2.1.symm))
  have B8 := Lib.hid (hstw8.2.1 _ _ (HB0.out.trans ((BT.out.trans (BC.out.mono LT.out)).mono (Nat.le_add_right _ 2))) (Nat.le_succ _))
  have R8 := Lib.hid hstw8.1
  refine hK.out _ _ (⟨(hstw8.2.2.2 _ (by omega)).trans E7, (hstw8.2.2.2 _ (by have := HL2.out; omega)).trans Y7⟩) (fun hHeld => ?_)
  try simp only [Act.put]
  try simp only [List.setIfInBounds_toArray]
  try simp only [List.set_cons_succ]
  try simp only [List.set_cons_zero]
  clear hK K
  refine takeR (i := 8) (v := ?v8_16) rfl (by kernel_rfl) (by kernel_rfl) (by kernel_rfl) (fun _ _ _ h => h) (by rfl) ?hy8_16 (by assumption) ?rest8_16
  case hy8_16 => (intro W hSw; go_simp; try with_reducible rfl)
  try simp only [Act.put]
  try simp only [List.setIfInBounds_toArray]
  try simp only [List.set_cons_succ]
  try simp only [List.set_cons_zero]
  refine wpAnyH_done (by kernel_rfl) ?_ _
  go_wp2_with fail
  exact bodyPost_ret (res_it Tryz.results22 _ _ rfl R8.out rfl) rfl ⟨_, rfl, by rw [HX.out]; exact V8.out, B8.out⟩

theorem ritem_any (lo : Nat) (sc : Int) (s : ByteArray) (n v : Nat) (w : World) (hlo : lo ≤ w.heap.size) (hs : s.size ≤ 140737488355328) (hn : n < 18446744073709551616) (hv : v < 18446744073709551616) (hc : checkB (ep sc s n v) = true) :
    Calls Tryz.prog 22 #[epdV sc s n v] w (GivesTI lo (itemE (ep sc s n v)) w) := by
  by_cases h1 : sc = 1
  · subst h1
    by_cases he : s.data.toList = []
    · have e : itemE (ep 1 s n v) = .mk 4 0 [] [.mk 0 1 [] [], .mk 0 0 [] []] := by
        unfold itemE
        rw [ep_name, if_neg (by show ¬ (1 : Int) = 2; decide), if_pos he]
        rfl
      rw [e]
      exact ritem_none lo s n v w hlo hs hn hv he hc
    · have e : itemE (ep 1 s n v) = .mk 4 0 [] [.mk 0 1 [] [], .mk 3 0 s.data.toList []] := by
        unfold itemE
        rw [ep_name, if_neg (by show ¬ (1 : Int) = 2; decide), if_neg he]
        rfl
      rw [e]
      exact ritem_dtn lo s n v w hlo hs hn hv he hc
  · obtain ⟨h2, -, -, -, -⟩ := check_ipn hc h1
    have h2' : sc = 2 := h2
    subst h2'
    exact ritem_ipn lo s n v w hlo hs hn hv trivial hc
end Go.Proofs.YtanbjifdcplmnaaGreatDoor
