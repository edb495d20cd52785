/- The code's log: Append. (Made by gen/WcK.py.) -/
import Derived.Test.YtahgaogmcffglaaDoorJWcJ
import Derived.StillTailTactics
namespace Go.Proofs.YtahgaogmcffglaaDoor
open Go.RowKit

set_option maxRecDepth 100000 in
set_option maxHeartbeats 16000000 in
theorem wAppend_any (X : Snt14) (w : World) {Fd Fw : Nat → Prop} {B gd g : Nat} {Z : List (List UInt8)} {lf : Int} {S : Ws} (A : Option Addr) (n c : Nat) (r : Rcd)
    (hA : ∀ W, Below B w W → Lds14 X W) (hBw : B ≤ w.heap.size) (hd : CDk w Fd B gd ⟨Z, [], true, lf⟩) (hw : WlK w Fw B g gd S) (hdis : ∀ k, Fd k → ¬ Fw k) (hS : Live Z S)
    (hr : ∀ W, Fr (fun k => Fd k ∨ Fw k) w W → Rd W w.heap.size A n r.dat) (hc : n ≤ c) (hn : n ≤ 140737488355328) :
    Calls Tryd.prog 17 #[.pointer (some ⟨g, 0, none⟩), recV r.typ A n c] w (ChgR (fitZ [r] S.room) Z lf S.a S.n S.turn S.len S.L [r] w (fun k => Fd k ∨ Fw k) B g gd) := by
  have hZ : Z.length ≤ 65536 := hd.few
  have hn2 : S.n ≤ 65536 := by have := hS.inn; omega
  have hU : S.run = 0 := by simp [Ws.run, hS.live]
  have HRM : Hid (S.room = ((hlf S.n * 64 : Nat) : Int) - (S.len : Int)) := by show _ = _; simp [Ws.room, hS.live]
  obtain ⟨wb, hwb⟩ : ∃ wb, wb = w.alloc (.cells #[.int .i64 r.typ, .slice A n c] 35) := ⟨_, rfl⟩
  have hbb : Below w.heap.size w wb := by rw [hwb]; exact (Below.refl _ _).alloc (Nat.le_refl _) _
  have C1 := wruns_any wb (hw.below hbb)
  rw [hU] at C1
  have C1 := Lib.hid C1
  have HWB := Lib.hid hwb
  obtain ⟨⟨b0, b1⟩, -, -⟩ := row2 (show wb.heap[w.heap.size]? = some (.cells #[.int .i64 r.typ, .slice A n c] 35 (0, 0)) by rw [hwb]; exact heap_alloc_new w _)
  obtain ⟨wc, hwc⟩ : ∃ wc, wc = wb.alloc (.cells #[.int .i64 r.typ, .slice A n c] 35) := ⟨_, rfl⟩
  have hbc : Below w.heap.size w wc := by rw [hwc]; exact hbb.alloc hbb.size _
  have hrow : wc.heap[wb.heap.size]? = some (.cells #[.int .i64 r.typ, .slice A n c] 35 (0, 0)) := by rw [hwc]; exact heap_alloc_new wb _
  have HWC := Lib.hid hwc
  have BC := Lib.hid hbc
  have hsc : wb.heap.size < wc.heap.size := by rw [hwc]; simp
  have hnF : ¬ (Fd wb.heap.size ∨ Fw wb.heap.size) := fun h => by
    have := hbb.size
    rcases h with h | h
    · have := (hd.fit _ h).2; omega
    · have := (hw.fit _ h).2; omega
  have hrk : ∀ u W, Below wc.heap.size wc u → Fr (fun k => Fd k ∨ Fw k) u W → RwC W u.heap.size (some ⟨wb.heap.size, 0, none⟩) 1 [r] := fun u W hu hW => ⟨rfl, fun _ => ⟨wb.heap.size, 0, rfl, Nat.lt_of_lt_of_le hsc hu.size, fun i q hq => by
    match i, hq with
    | 0, hq =>
      obtain rfl : r = q := by simpa using hq
      have hk : W.heap[wb.heap.size]? = some (.cells #[.int .i64 r.typ, .slice A n c] 35 (0, 0)) := (hW.block _ (Nat.lt_of_lt_of_le hsc hu.size) hnF).trans ((hu.block _ hsc).trans hrow)
      have hrd := hr W (((Fr.of_below hbc).trans (Fr.of_below hu) (Grew.refl _ _)).trans hW (Grew.refl _ _))
      exact ⟨A, n, c, (row2 hk).1.1, (row2 hk).1.2, hc, hn, hrd.more (Nat.le_trans hbc.size hu.size)⟩
    | i + 1, hq => simp at hq⟩⟩
  have CM := Lib.hid (fun W (hW : Below wc.heap.size wc W) => wRoom_any W ((hw.below hbc).below hW) (fun _ => ⟨hS.n1, hn2, hS.fit⟩))
  have CF := Lib.hid (fun W (hW : Below wc.heap.size wc W) => wfits_any X (some ⟨wb.heap.size, 0, none⟩) 1 1 W.heap.size [r] S.room W (hA W ((hbc.mono hBw).trans (hW.mono (Nat.le_trans hBw hbc.size)))) (hrk W W hW (Fr.refl _ _)) (Nat.le_refl _) (by decide))
  have CN := Lib.hid (fun W => wnext_any S.t S.len W)
  have KW : Hid (∀ W, Below wc.heap.size wc W → ∃ vr qs, (W.cell? ⟨g, 3, none⟩ = some (.int .u64 (S.t : Int)) ∧ W.cell? ⟨g, 4, none⟩ = some (.int .i64 (S.len : Int)) ∧ W.cell? ⟨g, 5, none⟩ = some vr) ∧ ScS W B vr qs ∧ qs.map (·.1) = S.L ∧ ∀ k, FtR vr qs k → Fw k ∧ k ≠ g) := fun W hW => by
    have hw2 := (hw.below hbc).below hW
    obtain ⟨vr, qs, h1, h2, h3, h4, h5⟩ := hw2.st
    refine ⟨vr, qs, ⟨?_, ?_, ?_⟩, h2, h3, fun k hk => ⟨?_, ?_⟩⟩
    · rw [cell_of_row W g _ _ _ _ h1]; rfl
    · rw [cell_of_row W g _ _ _ _ h1]; rfl
    · rw [cell_of_row W g _ _ _ _ h1]; rfl
    · rcases hk with hk | ⟨q, hq, hk⟩
      · exact h4 k hk
      · exact h5 q hq k hk
    · rintro rfl
      rcases hk with hk | ⟨q, hq, hk⟩
      · rcases h2.1.2 with ⟨hv, -⟩ | ⟨gb, cap, cur, hv, -, hg, -⟩
        · rw [hv] at hk; cases hk
        · rw [hv] at hk
          obtain rfl := Option.some.inj hk
          have h6 : W.heap[gb]? = _ := h1
          rw [hg] at h6
          injection Option.some.inj h6 with _ h7 _
          exact absurd h7 (by decide)
      · exact (h2.2 q hq).1.not_at14 h1 (by decide) hk
  obtain ⟨zf, hzf⟩ : ∃ zf, zf = fitZ [r] S.room := ⟨_, rfl⟩
  have CK : Hid (zf = 0 → ∀ W, Below wc.heap.size wc W → ∀ (t1 : Nat), t1 < 18446744073709551616 → ∀ vr qs, ScS W B vr qs → qs.map (·.1) = S.L → (∀ k, FtR vr qs k → Fw k ∧ k ≠ g) → Calls Tryd.prog 42 #[.pointer (some ⟨g, 0, none⟩), hdV t1 S.len, vr, .slice (some ⟨wb.heap.size, 0, none⟩) 1 1] W (KeepR Z lf S.a S.n t1 S.len S.L [r] W (fun k => Fd k ∨ Fw k) B g gd)) := fun hz W hW t1 ht1 vr qs hs hq hf => by
    obtain ⟨h1, h2⟩ := fitZ_zero (hzf.symm.trans hz)
    have hWw : Below w.heap.size w W := hbc.trans (hW.mono hbc.size)
    exact wkeep_any X W t1 S.len vr qs S.L _ 1 1 [r] (fun W' hW' => hA W' ((hWw.mono hBw).trans hW')) (Nat.le_trans hBw hWw.size) (hd.below hWw) (hw.below hWw) hdis hs hq hf (fun W' hW' => hrk W W' hW hW') hS.live h1 ht1 hS.n1 hS.inn (by rw [HRM.out] at h2; omega) hS.few
  have HTN : Hid (S.t < 18446744073709551616) := hS.tn
  have HLN : Hid (S.len ≤ 4194304) := by have := hS.fit; have h : hlf S.n ≤ 32768 := (by unfold hlf; omega); show _ ≤ _; omega
  rw [← hzf]
  rw [← hzf] at CF
  clear hA hBw hd hw hdis hS hr hc hn hZ hn2 hU hzf hbb hbc hsc hrow hnF hrk hwb hwc HRM
  unfold recV hdV at *
  by_cases hz : zf = 0
  case neg =>
    have hz1 : (zf != 0) = true := by rw [bne_iff_ne]; exact hz
    have HZ := Lib.hid hz
    clear hz CK
    go_enter Tryd.func17, Tryd.ntmps17
    go_upto_region 1 with fail
    rw [← HWB.out]
    go_wp2_with fail
    refine C1.out.mono ?_
    rintro e w1 ⟨rfl, rfl⟩
    go_upto_region 5 with fail
    rw [← HWC.out]
    go_wp2_with (first
      | (go_at_call 16; refine (CM.out _ (Below.refl _ _)).mono ?_; rintro e w2 ⟨rfl, hb2⟩; have B2 := Lib.hid hb2; clear hb2)
      | (go_at_call 40; refine (CF.out _ B2.out).mono ?_; rintro e w3 ⟨rfl, hb3⟩; have B3 := Lib.hid (B2.out.trans (hb3.mono B2.out.size)); clear hb3)
      | fail)
    go_ret
    exact .inl ⟨HZ.out, rfl, BC.out.trans (B3.out.mono BC.out.size)⟩
  have hz1 : (zf != 0) = false := by rw [hz]; rfl
  have HZ := Lib.hid hz
  have CK2 := Lib.hid (CK.out hz)
  clear hz CK
  by_cases h0 : S.len = 0
  case pos =>
    have HT0 : Hid (S.turn = (S.t + 1) % 18446744073709551616) := if_pos h0
    have e0 : ((S.len : Int) == 0) = true := by rw [h0]; rfl
    have H0 := Lib.hid h0
    obtain ⟨T1, hT1⟩ : ∃ T1, T1 = (S.t + 1) % 18446744073709551616 := ⟨_, rfl⟩
    have HT1 : Hid (T1 < 18446744073709551616) := by show T1 < _; rw [hT1]; exact Nat.mod_lt _ (by decide)
    rw [← hT1] at HT0 CN
    clear h0 hT1
    go_enter Tryd.func17, Tryd.ntmps17
    go_upto_region 1 with fail
    rw [← HWB.out]
    go_wp2_with fail
    refine C1.out.mono ?_
    rintro e w1 ⟨rfl, rfl⟩
    go_upto_region 5 with fail
    rw [← HWC.out]
    go_upto_region 8 with (first
      | (go_at_call 16; refine (CM.out _ (Below.refl _ _)).mono ?_; rintro e w2 ⟨rfl, hb2⟩; have B2 := Lib.hid hb2; clear hb2)
      | (go_at_call 40; refine (CF.out _ B2.out).mono ?_; rintro e w3 ⟨rfl, hb3⟩; have B3 := Lib.hid (B2.out.trans (hb3.mono B2.out.size)); clear hb3)
      | fail)
    obtain ⟨vr, qs, ⟨k3, k4, k5⟩, -⟩ := KW.out w3 B3.out
    obtain ⟨w4, hw4⟩ : ∃ w4, w4 = w3.alloc (.cells #[.int .u64 (S.t : Int), .int .i64 (S.len : Int)] 61) := ⟨_, rfl⟩
    have B4 : Hid (Below wc.heap.size wc w4) := by show Below _ _ _; rw [hw4]; exact B3.out.alloc B3.out.size _
    have hr4 : w4.heap[w3.heap.size]? = some (.cells #[.int .u64 (S.t : Int), .int .i64 (S.len : Int)] 61 (0, 0)) := by rw [hw4]; exact heap_alloc_new w3 _
    have HR4 := Lib.hid hr4
    have HS4 : Hid (wc.heap.size ≤ w3.heap.size ∧ w3.heap.size < w4.heap.size) := ⟨B3.out.size, by rw [hw4]; simp⟩
    have HW4 := Lib.hid hw4
    clear hr4 hw4
    go_upto_region 9 with fail
    rw [← HW4.out]
    clear k3 k4 k5
    obtain ⟨⟨y0, y1⟩, -, -⟩ := row2 HR4.out
    go_upto_region 11 with (first
      | (go_at_call 41; refine (CN.out _).mono ?_; rintro e w5 ⟨rfl, hb5⟩; have B5 := Lib.hid (B4.out.trans (hb5.mono B4.out.size)); have HR5 : Hid (w5.heap[w3.heap.size]? = some (.cells #[.int .u64 (S.t : Int), .int .i64 (S.len : Int)] 61 (0, 0))) := (hb5.block _ HS4.out.2).trans HR4.out; clear hb5 y0 y1; obtain ⟨⟨y0, y1⟩, z0, z1⟩ := row2 HR5.out)
      | fail)
    clear y0 y1 z0 z1
    obtain ⟨w6, hw6⟩ : ∃ w6, w6 = (w5.setCell ⟨w3.heap.size, 0, none⟩ (.int .u64 (T1 : Int))).setCell ⟨w3.heap.size, 1, none⟩ (.int .i64 0) := ⟨_, rfl⟩
    have B6 : Hid (Below wc.heap.size wc w6) := by show Below _ _ _; rw [hw6]; exact (Below.setCell B5.out (p := ⟨w3.heap.size, 0, none⟩) HS4.out.1 _).setCell (p := ⟨w3.heap.size, 1, none⟩) HS4.out.1 _
    have HR6 : Hid (w6.heap[w3.heap.size]? = some (.cells #[.int .u64 (T1 : Int), .int .i64 0] 61 (0, 0))) := by show _ = _; rw [hw6]; exact row_setC (row_setC HR5.out 0 _) 1 _
    rw [← hw6]
    clear hw6
    rw [show ((0 : Int)) = (S.len : Int) by rw [H0.out]; rfl] at HR6
    obtain ⟨vr, qs, ⟨-, -, k5⟩, hss, hsq, hsf⟩ := KW.out w6 B6.out
    obtain ⟨⟨y0, y1⟩, -, -⟩ := row2 HR6.out
    have k5d : w6.drew.cell? ⟨g, 5, none⟩ = some vr := k5
    have y0d : w6.drew.cell? ⟨w3.heap.size, 0, none⟩ = some (.int .u64 (T1 : Int)) := y0
    have y1d : w6.drew.cell? ⟨w3.heap.size, 1, none⟩ = some (.int .i64 (S.len : Int)) := y1
    have BD : Hid (Below wc.heap.size wc w6.drew) := B6.out.trans (Below.refl _ _).drew
    have hs7 : ScS w6.drew B vr qs := hss.below (Below.refl _ _).drew
    have CC := Lib.hid (CK2.out _ BD.out T1 (HT1.out) vr qs hs7 hsq hsf)
    unfold hdV at CC
    clear hss hsq hsf hs7
    refine wp_region_still_tail 7 (by kernel_rfl) (by kernel_rfl) ?_
    simp only [List.take_succ_cons, List.take_zero, List.drop_succ_cons, List.drop_zero]
    repeat still_step
    refine wpStill_nil ?_
    change wpList _ _ _ _ _ w6.drew
    clear k5 k5d y0 y1 y0d y1d
    obtain ⟨w9, hw9⟩ : ∃ w9, w9 = w6.drew := ⟨_, rfl⟩
    rw [← hw9] at CC BD
    rw [← hw9]
    clear hw9
    go_wp2_with fail
    refine CC.out.mono ?_
    rintro e wk hk5
    have HK5 := Lib.hid (hk5.from_ (BC.out.trans (BD.out.mono BC.out.size)))
    obtain ⟨r5, -, -, -, -, -, -, -, -, rfl⟩ := hk5
    go_wp2_with fail
    go_ret
    exact .inr ⟨HZ.out, by rw [HT0.out]; exact HK5.out⟩
  have HT0 : Hid (S.turn = S.t) := if_neg h0
  have e0 : ((S.len : Int) == 0) = false := by rw [beq_eq_false_iff_ne]; omega
  clear h0
  go_enter Tryd.func17, Tryd.ntmps17
  go_upto_region 1 with fail
  rw [← HWB.out]
  go_wp2_with fail
  refine C1.out.mono ?_
  rintro e w1 ⟨rfl, rfl⟩
  go_upto_region 5 with fail
  rw [← HWC.out]
  go_upto_region 8 with (first
    | (go_at_call 16; refine (CM.out _ (Below.refl _ _)).mono ?_; rintro e w2 ⟨rfl, hb2⟩; have B2 := Lib.hid hb2; clear hb2)
    | (go_at_call 40; refine (CF.out _ B2.out).mono ?_; rintro e w3 ⟨rfl, hb3⟩; have B3 := Lib.hid (B2.out.trans (hb3.mono B2.out.size)); clear hb3)
    | fail)
  obtain ⟨vr, qs, ⟨k3, k4, k5⟩, -⟩ := KW.out w3 B3.out
  obtain ⟨w4, hw4⟩ : ∃ w4, w4 = w3.alloc (.cells #[.int .u64 (S.t : Int), .int .i64 (S.len : Int)] 61) := ⟨_, rfl⟩
  have B4 : Hid (Below wc.heap.size wc w4) := by show Below _ _ _; rw [hw4]; exact B3.out.alloc B3.out.size _
  have hr4 : w4.heap[w3.heap.size]? = some (.cells #[.int .u64 (S.t : Int), .int .i64 (S.len : Int)] 61 (0, 0)) := by rw [hw4]; exact heap_alloc_new w3 _
  have HR4 := Lib.hid hr4
  have HS4 : Hid (wc.heap.size ≤ w3.heap.size ∧ w3.heap.size < w4.heap.size) := ⟨B3.out.size, by rw [hw4]; simp⟩
  have HW4 := Lib.hid hw4
  clear hr4 hw4
  go_upto_region 9 with fail
  rw [← HW4.out]
  clear k3 k4 k5
  obtain ⟨⟨y0, y1⟩, -, -⟩ := row2 HR4.out
  go_upto_region 11 with fail
  clear y0 y1
  obtain ⟨vr, qs, ⟨-, -, k5⟩, hss, hsq, hsf⟩ := KW.out w4 B4.out
  obtain ⟨⟨y0, y1⟩, -, -⟩ := row2 HR4.out
  have k5d : w4.drew.cell? ⟨g, 5, none⟩ = some vr := k5
  have y0d : w4.drew.cell? ⟨w3.heap.size, 0, none⟩ = some (.int .u64 (S.t : Int)) := y0
  have y1d : w4.drew.cell? ⟨w3.heap.size, 1, none⟩ = some (.int .i64 (S.len : Int)) := y1
  have BD : Hid (Below wc.heap.size wc w4.drew) := B4.out.trans (Below.refl _ _).drew
  have hs7 : ScS w4.drew B vr qs := hss.below (Below.refl _ _).drew
  have CC := Lib.hid (CK2.out _ BD.out S.t (HTN.out) vr qs hs7 hsq hsf)
  unfold hdV at CC
  clear hss hsq hsf hs7
  refine wp_region_still_tail 7 (by kernel_rfl) (by kernel_rfl) ?_
  simp only [List.take_succ_cons, List.take_zero, List.drop_succ_cons, List.drop_zero]
  repeat still_step
  refine wpStill_nil ?_
  change wpList _ _ _ _ _ w4.drew
  clear k5 k5d y0 y1 y0d y1d
  obtain ⟨w9, hw9⟩ : ∃ w9, w9 = w4.drew := ⟨_, rfl⟩
  rw [← hw9] at CC BD
  rw [← hw9]
  clear hw9
  go_wp2_with fail
  refine CC.out.mono ?_
  rintro e wk hk5
  have HK5 := Lib.hid (hk5.from_ (BC.out.trans (BD.out.mono BC.out.size)))
  obtain ⟨r5, -, -, -, -, -, -, -, -, rfl⟩ := hk5
  go_wp2_with fail
  go_ret
  exact .inr ⟨HZ.out, by rw [HT0.out]; exact HK5.out⟩
end Go.Proofs.YtahgaogmcffglaaDoor
