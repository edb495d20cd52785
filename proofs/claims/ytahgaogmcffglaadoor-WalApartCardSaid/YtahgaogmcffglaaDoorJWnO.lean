/- Layer 15's law: do. (Made by gen/WnH.py, WnH01.py.) -/
import Derived.Test.YtahgaogmcffglaaDoorJWnI
namespace Go.Proofs.YtahgaogmcffglaaDoor
open Go.RowKit
section
variable {w0 w : World} {gp a n : Nat} {Z : List (List UInt8)} {lf : Int} {t len : Nat} {K : List Rcd} {N : Nat → Prop} (x : OpW)
set_option maxRecDepth 100000 in
set_option maxHeartbeats 16000000 in
theorem do_res_full (X : Snt14) (hA : ∀ W, Below w0.heap.size w0 W → Lds14 X W) (hP : Ply w0 w gp a n Z lf t len K N) (hx : x.ok w0) (h1 : x.kind = 1) (hsm : x.l.length ≤ 20 ∧ ∀ r ∈ x.l, r.dat.length ≤ 500) (hrk : ∀ r ∈ x.l, rokR r = true) (hnf : ((hlf n * 64 : Nat) : Int) < (sumL x.l : Int)) :
    Calls Tryd.prog 10 #[.pointer (some ⟨gp, 0, none⟩), opV x] w (DoR w0 w gp a n Z N) := by
  have HP := Lib.hid hP
  obtain ⟨gd, gw, Fd, Fw, vk, hb, hd, hw, hdis, hrow, hgp, hnd, hnw, hk, hI, hin, hn4, hNs, hN2⟩ := hP
  have hZ : Z.length ≤ 65536 := hd.few
  obtain ⟨wb, hwb⟩ : ∃ wb, wb = w.alloc (.cells (opC x) 38) := ⟨_, rfl⟩
  have BB : Hid (Below w.heap.size w wb) := by show Below _ _ _; rw [hwb]; exact (Below.refl _ _).alloc (Nat.le_refl _) _
  have HBX : Hid (wb.heap[w.heap.size]? = some (.cells (opC x) 38 (0, 0))) := by show _ = _; rw [hwb]; exact heap_alloc_new w _
  have HWB := Lib.hid hwb
  have CM := wRoom_any wb (hw.below BB.out) (fun _ => ⟨by show 1 ≤ n; omega, by show n ≤ 65536; omega, hI.fit⟩)
  have hroom : Ws.room ⟨a, n, t, len, K, false⟩ = ((hlf n * 64 : Nat) : Int) - (len : Int) := rfl
  rw [hroom] at CM
  have CM := Lib.hid CM
  have ZR : Hid (∀ V, Below w.heap.size w V → V.heap[gp]? = some (.cells (plyC gd gw a n vk true) 31 (0, 0))) := fun V hV => (hV.block gp (Array.getElem?_eq_some_iff.1 hrow).1).trans hrow
  have ZX := Lib.hid (fun V (hV : Below wb.heap.size wb V) => op_at ((hV.block _ (Array.getElem?_eq_some_iff.1 HBX.out).1).trans HBX.out))
  have HB := Lib.hid hb
  have HD := Lib.hid hd
  have HW := Lib.hid hw
  have HDI := Lib.hid hdis
  have HGP := Lib.hid (And.intro hgp (And.intro hnd hnw))
  have HK := Lib.hid hk
  have HI := Lib.hid hI
  have HIN := Lib.hid hin
  have HN4 := Lib.hid hn4
  have HNS := Lib.hid hNs
  have HN2 := Lib.hid hN2
  have HZ := Lib.hid hZ
  have HA := Lib.hid hA
  have HX := Lib.hid hx
  obtain ⟨⟨p0, p1, p2, p3, p4, p5⟩, -⟩ := play_at (ZR.out wb BB.out)
  clear hb hd hw hdis hrow hgp hnd hnw hk hI hin hn4 hNs hN2 hZ hwb hroom hA hx
  unfold opV
  unfold opC at HWB
  have e0 : (x.kind == 0) = false := by rw [h1]; rfl
  have e1 : (x.kind == 1) = true := by rw [h1]; rfl
  have HRL : Hid (RwC w0 w0.heap.size x.la x.ln x.l) := HX.out.2.2.1.2.rwc (fun r hr => Nat.le_trans (hsm.2 r hr) (by decide))
  have HLN : Hid (x.l.length = x.ln) := HX.out.2.2.1.2.1
  have HLT : Hid (x.l.length ≤ 1000000) := Nat.le_trans hsm.1 (by decide)
  obtain ⟨Ak, ck, rfl, hkc, hkr⟩ := HK.out
  have CCP := Lib.hid (fun V (hV : Below w.heap.size w V) => rcopy_any x.la x.ln x.lc w0.heap.size x.l V (HRL.out.belowB (HB.out.trans (hV.mono HB.out.size))) (Nat.le_trans HB.out.size hV.size) (by rw [← HX.out.2.2.1.2.1]; exact Nat.le_trans hsm.1 (by decide)) (fun r hr => Nat.le_trans (hsm.2 r hr) (by decide)))
  unfold CpyR at CCP
  have CZ := Lib.hid (fun V (hV : Below w.heap.size w V) => rsizes_any x.la x.ln x.lc w0.heap.size x.l V (HRL.out.belowB (HB.out.trans (hV.mono HB.out.size))) (Nat.le_trans HB.out.size hV.size) (by rw [← HX.out.2.2.1.2.1]; exact Nat.le_trans hsm.1 (by decide)))
  have CLS := Lib.hid (fun V => rleast_any n V (by have := HIN.out; have := HZ.out; omega))
  obtain ⟨ls, hls⟩ : ∃ ls : Int, ls = 64 * ((n / 2 : Nat) : Int) - 128 := ⟨_, rfl⟩
  rw [← hls] at CLS
  have HLS : Hid (ls ≤ ((hlf n * 64 : Nat) : Int) ∧ -128 ≤ ls) := by show _ ∧ _; rw [hls]; unfold hlf; have := HN4.out; omega
  obtain ⟨sl, hsl⟩ : ∃ sl : Int, sl = szL x.l := ⟨_, rfl⟩
  have HSL := Lib.hid hsl
  rw [← hsl] at CZ
  have HRKX := Lib.hid hrk
  have HNF := Lib.hid hnf
  clear hkr hkc h1 hsm hls hsl hrk hnf
  go_enter Tryd.func10, Tryd.ntmps10
  go_upto_region 1 with fail
  rw [← HWB.out]
  go_upto_region 2 with (first
    | (go_at_call 16; refine CM.out.mono ?_; rintro e w2 ⟨rfl, hb2⟩; have D2 := Lib.hid hb2; have B2 := Lib.hid (BB.out.trans (hb2.mono BB.out.size)); clear hb2)
    | fail)
  obtain ⟨x0, x1, x2, x3, x4, x5⟩ := ZX.out w2 D2.out
  clear p0 p1 p2 p3 p4 p5
  obtain ⟨⟨p0, p1, p2, p3, p4, p5⟩, pf⟩ := play_at (ZR.out w2 B2.out)
  have pf5 := pf 5
  clear pf
  obtain ⟨x0, x1, x2, x3, x4, x5⟩ := ZX.out w2 D2.out
  go_upto_region 12 with (first
    | (go_at_call 25; refine (CCP.out w2 B2.out).mono ?_; rintro e w3 ⟨hb3, v3, q3, rfl, hs3, hq3⟩; have S3 := Lib.hid hs3; have Q3 := Lib.hid hq3; have E3 := Lib.hid hb3; clear hb3 hs3 hq3 p0 p1 p2 p3 p4 p5 pf5 x0 x1 x2 x3 x4 x5)
    | fail)
  have B3 : Hid (Below w.heap.size w w3) := B2.out.trans (E3.out.mono B2.out.size)
  have D3 : Hid (Below wb.heap.size wb w3) := D2.out.trans (E3.out.mono D2.out.size)
  have KT3 : Hid (KpR w3 N v3 x.l) := by
    have h := KpR.of (N := N) S3.out (fun k hk hn => by have h1 := (S3.out.own_ge hk).1; have h2 := (HN2.out k hn).2; have h3 := B2.out.size; omega)
    rw [Q3.out] at h
    exact h
  obtain ⟨A5, c5, rfl, -, -⟩ := KT3.out
  have B3d : Hid (Below w.heap.size w w3.drew) := B3.out.trans ((Below.refl w3.heap.size w3).drew.mono B3.out.size)
  have D3d : Hid (Below wb.heap.size wb w3.drew) := D3.out.trans ((Below.refl w3.heap.size w3).drew.mono D3.out.size)
  have KTd : Hid (KpR w3.drew N (.slice A5 x.l.length c5) x.l) := KT3.out.below (Below.refl w3.heap.size w3).drew
  obtain ⟨⟨p0, p1, p2, p3, p4, p5⟩, pf⟩ := play_at (ZR.out w3 B3.out)
  have pf5 := pf 5
  clear pf
  obtain ⟨x0, x1, x2, x3, x4, x5⟩ := ZX.out w3 D3.out
  have g1 : w3.drew.cell? ⟨gp, 1, none⟩ = some (.pointer (some ⟨gw, 0, none⟩)) := p1
  have t3 : w3.drew.cell? ⟨w.heap.size, 3, none⟩ = some (.slice x.la x.ln x.lc) := x3
  refine wp_region_still_tail 6 (by kernel_rfl) (by kernel_rfl) ?_
  simp only [List.take_succ_cons, List.take_zero, List.drop_succ_cons, List.drop_zero]
  repeat still_step
  refine wpStill_nil ?_
  change wpList _ _ _ _ _ w3.drew
  obtain ⟨wd, hwd⟩ : ∃ wd, wd = w3.drew := ⟨_, rfl⟩
  rw [← hwd] at B3d D3d KTd
  rw [← hwd]
  clear hwd g1 t3 S3 Q3 p0 p1 p2 p3 p4 p5 pf5 x0 x1 x2 x3 x4 x5
  have B6d := B3d
  have D6d := D3d
  have BWd : Hid (Below w0.heap.size w0 wd) := HB.out.trans (B6d.out.mono HB.out.size)
  have CAp := wResetO_any X wd (B := w0.heap.size) (gd := gd) (g := gw) x.la x.ln x.lc x.l (fun V hV => HA.out V (BWd.out.trans hV)) BWd.out.size (HD.out.below B6d.out) (HW.out.below B6d.out) HDI.out HI.out (by have := HN4.out; omega) HIN.out (fun V hV => by
    have hlo : ∀ p : Addr, p.block < w0.heap.size → V.cell? p = w0.cell? p := fun p hp => World.cell?_of_block ((hV.block p.block (Nat.lt_of_lt_of_le hp BWd.out.size) (fun hf => by
      rcases hf with hf | hf
      · have := (HD.out.fit _ hf).1; omega
      · have := (HW.out.fit _ hf).1; omega)).trans (BWd.out.block p.block hp))
    exact ⟨HRL.out.1, fun h0 => by
      obtain ⟨b, o, e, hbb, hx⟩ := HRL.out.2 h0
      exact ⟨b, o, e, Nat.lt_of_lt_of_le hbb BWd.out.size, (hx.keep hbb hlo).more BWd.out.size⟩⟩) (by rw [← HLN.out]; exact Nat.le_trans HLT.out (by decide))
  have hfz : fitZ x.l ((hlf n * 64 : Nat) : Int) = 150 := by
    rw [fitZ_ok _ HRKX.out, if_pos (by have := HNF.out; omega)]
  rw [hfz] at CAp
  have CAp := Lib.hid CAp
  clear hfz
  go_wp2_with fail
  refine CAp.out.mono ?_
  rintro e w7 h7
  have FWD : Hid (∀ k, Fd k ∨ Fw k → N k) := fun k h => HNS.out k (h.elim .inl fun h => .inr (.inl h))
  clear CAp CCP CM
  have hok : Hid (∀ r ∈ x.l, rokR r = true) := HRKX.out
  rcases h7 with ⟨-, rfl, hb7⟩ | ⟨hz, -⟩
  case inr => exact absurd hz (by decide)
  have B7 : Hid (Below w.heap.size w w7) := B6d.out.trans (hb7.mono B6d.out.size)
  have D7 : Hid (Below wb.heap.size wb w7) := D6d.out.trans (hb7.mono D6d.out.size)
  have KT7 : Hid (KpR w7 N (.slice A5 x.l.length c5) x.l) := KTd.out.below hb7
  clear hb7
  have hsz2 : decide (sl ≤ ls) = false := decide_eq_false (by rw [HSL.out, szL_ok HRKX.out]; have := HNF.out; have := HLS.out; omega)
  have CG := Lib.hid (fun V (hV : Below w7.heap.size w7 V) => chg_full x (gp := gp) (gd := gd) (gw := gw) (a := a) (n := n) (ZR.out V (B7.out.trans (hV.mono B7.out.size))) (KT7.out.below hV) HLT.out hok.out)
  unfold opV at CG
  have HS13 : Hid (∀ V, Below w7.heap.size w7 V → V.heap[w.heap.size]? = some (.cells (opC x) 38 (0, 0)) ∧ V.cell? ⟨gp, 3, none⟩ = some (.int .i64 (n : Int))) := fun V hV => ⟨(hV.block _ (Array.getElem?_eq_some_iff.1 ((D7.out.block _ (Array.getElem?_eq_some_iff.1 HBX.out).1).trans HBX.out)).1).trans ((D7.out.block _ (Array.getElem?_eq_some_iff.1 HBX.out).1).trans HBX.out), (play_at (ZR.out V (B7.out.trans (hV.mono B7.out.size)))).1.2.2.2.1⟩
  go_upto_region 13 with fail
  refine wp_region_held_drew (S := fun V => V.heap[w.heap.size]? = some (.cells (opC x) 38 (0, 0)) ∧ V.cell? ⟨gp, 3, none⟩ = some (.int .i64 (n : Int))) (by kernel_rfl) (HS13.out _ (Below.refl _ _).drew) (fun hHeld => ?_)
  refine takeR (i := 0) (v := ?v0_1) rfl (by kernel_rfl) (by kernel_rfl) (by kernel_rfl) (fun _ _ _ h => h) (by rfl) ?hy0_1 (by assumption) ?rest0_1
  case hy0_1 => (intro W hSw; obtain ⟨q0, q1⟩ := hSw; obtain ⟨t0, t1, t2, t3, t4, t5⟩ := op_at q0; go_simp; try with_reducible rfl)
  try simp only [Act.put]
  try simp only [List.setIfInBounds_toArray]
  try simp only [List.set_cons_succ]
  try simp only [List.set_cons_zero]
  refine takeR (i := 1) (v := ?v1_2) rfl (by kernel_rfl) (by kernel_rfl) (by kernel_rfl) (fun _ _ _ h => h) (by rfl) ?hy1_2 (by assumption) ?rest1_2
  case hy1_2 => (intro W hSw; obtain ⟨q0, q1⟩ := hSw; obtain ⟨t0, t1, t2, t3, t4, t5⟩ := op_at q0; go_simp; try with_reducible rfl)
  try simp only [Act.put]
  try simp only [List.setIfInBounds_toArray]
  try simp only [List.set_cons_succ]
  try simp only [List.set_cons_zero]
  refine takeR (i := 2) (v := ?v2_3) rfl (by kernel_rfl) (by kernel_rfl) (by kernel_rfl) (fun _ _ _ h => h) (by rfl) ?hy2_3 (by assumption) ?rest2_3
  case hy2_3 => (intro W hSw; obtain ⟨q0, q1⟩ := hSw; obtain ⟨t0, t1, t2, t3, t4, t5⟩ := op_at q0; go_simp; try with_reducible rfl)
  try simp only [Act.put]
  try simp only [List.setIfInBounds_toArray]
  try simp only [List.set_cons_succ]
  try simp only [List.set_cons_zero]
  refine takeR (i := 3) (v := ?v3_4) rfl (by kernel_rfl) (by kernel_rfl) (by kernel_rfl) (fun _ _ _ h => h) (by rfl) ?hy3_4 (by assumption) ?rest3_4
  case hy3_4 => (intro W hSw; obtain ⟨q0, q1⟩ := hSw; obtain ⟨t0, t1, t2, t3, t4, t5⟩ := op_at q0; go_simp; try with_reducible rfl)
  try simp only [Act.put]
  try simp only [List.setIfInBounds_toArray]
  try simp only [List.set_cons_succ]
  try simp only [List.set_cons_zero]
  refine takeR (i := 4) (v := ?v4_5) rfl (by kernel_rfl) (by kernel_rfl) (by kernel_rfl) (fun _ _ _ h => h) (by rfl) ?hy4_5 (by assumption) ?rest4_5
  case hy4_5 => (intro W hSw; obtain ⟨q0, q1⟩ := hSw; obtain ⟨t0, t1, t2, t3, t4, t5⟩ := op_at q0; go_simp; try with_reducible rfl)
  try simp only [Act.put]
  try simp only [List.setIfInBounds_toArray]
  try simp only [List.set_cons_succ]
  try simp only [List.set_cons_zero]
  refine takeR (i := 5) (v := ?v5_6) rfl (by kernel_rfl) (by kernel_rfl) (by kernel_rfl) (fun _ _ _ h => h) (by rfl) ?hy5_6 (by assumption) ?rest5_6
  case hy5_6 => (intro W hSw; obtain ⟨q0, q1⟩ := hSw; obtain ⟨t0, t1, t2, t3, t4, t5⟩ := op_at q0; go_simp; try with_reducible rfl)
  try simp only [Act.put]
  try simp only [List.setIfInBounds_toArray]
  try simp only [List.set_cons_succ]
  try simp only [List.set_cons_zero]
  refine takeR (i := 7) (v := ?v7_7) rfl (by kernel_rfl) (by kernel_rfl) (by kernel_rfl) (fun _ _ _ h => h) (by rfl) ?hy7_7 (by assumption) ?rest7_7
  case hy7_7 => (intro W hSw; obtain ⟨q0, q1⟩ := hSw; obtain ⟨t0, t1, t2, t3, t4, t5⟩ := op_at q0; go_simp; try with_reducible rfl)
  try simp only [Act.put]
  try simp only [List.setIfInBounds_toArray]
  try simp only [List.set_cons_succ]
  try simp only [List.set_cons_zero]
  refine takeR (i := 8) (v := ?v8_8) rfl (by kernel_rfl) (by kernel_rfl) (by kernel_rfl) (fun _ _ _ h => h) (by rfl) ?hy8_8 (by assumption) ?rest8_8
  case hy8_8 => (intro W hSw; obtain ⟨q0, q1⟩ := hSw; obtain ⟨t0, t1, t2, t3, t4, t5⟩ := op_at q0; go_simp; try with_reducible rfl)
  try simp only [Act.put]
  try simp only [List.setIfInBounds_toArray]
  try simp only [List.set_cons_succ]
  try simp only [List.set_cons_zero]
  refine takeR (i := 9) (v := ?v9_9) rfl (by kernel_rfl) (by kernel_rfl) (by kernel_rfl) (fun _ _ _ h => h) (by rfl) ?hy9_9 (by assumption) ?rest9_9
  case hy9_9 => (intro W hSw; obtain ⟨q0, q1⟩ := hSw; obtain ⟨t0, t1, t2, t3, t4, t5⟩ := op_at q0; go_simp; try with_reducible rfl)
  try simp only [Act.put]
  try simp only [List.setIfInBounds_toArray]
  try simp only [List.set_cons_succ]
  try simp only [List.set_cons_zero]
  refine takeR (i := 10) (v := ?v10_10) rfl (by kernel_rfl) (by kernel_rfl) (by kernel_rfl) (fun _ _ _ h => h) (by rfl) ?hy10_10 (by assumption) ?rest10_10
  case hy10_10 => (intro W hSw; obtain ⟨q0, q1⟩ := hSw; obtain ⟨t0, t1, t2, t3, t4, t5⟩ := op_at q0; go_simp; try with_reducible rfl)
  try simp only [Act.put]
  try simp only [List.setIfInBounds_toArray]
  try simp only [List.set_cons_succ]
  try simp only [List.set_cons_zero]
  have F0 : Hid (Below w7.heap.size w7 w7.drew) := (Below.refl _ _).drew
  clear hHeld
  refine wpAnyH_ready (rs := [6]) (by kernel_rfl) (by simp) ?_
  refine AllReadyH.cons rfl (fun KC hK => ?_) AllReadyH.nil
  rw [if_pos (by rfl)]
  go_simp
  refine (CZ.out _ (B7.out.trans (F0.out.mono B7.out.size))).mono ?_
  rintro e u1 ⟨rfl, hb⟩
  have F1 := Lib.hid (F0.out.trans (hb.mono F0.out.size))
  clear hb
  go_simp
  refine hK.out _ _ (HS13.out _ F1.out) (fun hHeld => ?_)
  try simp only [Act.put]
  try simp only [List.setIfInBounds_toArray]
  try simp only [List.set_cons_succ]
  try simp only [List.set_cons_zero]
  clear hK KC
  clear hHeld
  refine wpAnyH_ready (rs := [11]) (by kernel_rfl) (by simp) ?_
  refine AllReadyH.cons rfl (fun KC hK => ?_) AllReadyH.nil
  rw [if_pos (by rfl)]
  go_simp
  refine (CLS.out _).mono ?_
  rintro e ux ⟨rfl, rfl⟩
  go_simp
  refine hK.out _ _ (HS13.out _ F1.out) (fun hHeld => ?_)
  try simp only [Act.put]
  try simp only [List.setIfInBounds_toArray]
  try simp only [List.set_cons_succ]
  try simp only [List.set_cons_zero]
  clear hK KC
  refine takeR (i := 12) (v := ?v12_11) rfl (by kernel_rfl) (by kernel_rfl) (by kernel_rfl) (fun _ _ _ h => h) (by rfl) ?hy12_11 (by assumption) ?rest12_11
  case hy12_11 => (intro W hSw; go_simp; try with_reducible rfl)
  try simp only [Act.put]
  try simp only [List.setIfInBounds_toArray]
  try simp only [List.set_cons_succ]
  try simp only [List.set_cons_zero]
  clear hHeld
  refine wpAnyH_ready (rs := [13]) (by kernel_rfl) (by simp) ?_
  refine AllReadyH.cons rfl (fun KC hK => ?_) AllReadyH.nil
  rw [if_pos (by rfl)]
  go_simp
  refine (CG.out _ F1.out).mono ?_
  rintro e w8 ⟨rfl, hb8⟩
  have F8 := Lib.hid (F1.out.trans (hb8.mono F1.out.size))
  clear hb8
  go_simp
  refine hK.out _ _ (HS13.out _ F8.out) (fun hHeld => ?_)
  try simp only [Act.put]
  try simp only [List.setIfInBounds_toArray]
  try simp only [List.set_cons_succ]
  try simp only [List.set_cons_zero]
  clear hK KC
  refine wpAnyH_done (by kernel_rfl) ?_ _
  clear hHeld
  have B8 : Hid (Below w.heap.size w w8) := B7.out.trans (F8.out.mono B7.out.size)
  have D8 : Hid (Below wb.heap.size wb w8) := D7.out.trans (F8.out.mono D7.out.size)
  obtain ⟨⟨p0, p1, p2, p3, p4, p5⟩, pf⟩ := play_at (ZR.out w8 B8.out)
  have pf5 := pf 5
  clear pf
  obtain ⟨x0, x1, x2, x3, x4, x5⟩ := ZX.out w8 D8.out
  obtain ⟨Zz, hZz⟩ : ∃ Zz, Zz = Z := ⟨_, rfl⟩
  obtain ⟨lz, hlz⟩ : ∃ lz, lz = lf := ⟨_, rfl⟩
  obtain ⟨tz, htz⟩ : ∃ tz, tz = t := ⟨_, rfl⟩
  obtain ⟨nz, hnz⟩ : ∃ nz, nz = len := ⟨_, rfl⟩
  obtain ⟨Kz, hKz⟩ : ∃ Kz, Kz = K := ⟨_, rfl⟩
  obtain ⟨Nz, hNz⟩ : ∃ Nz, Nz = N := ⟨_, rfl⟩
  have HPL : Hid (Ply w0 w8 gp a n Zz lz tz nz Kz Nz) := by rw [hZz, hlz, htz, hnz, hKz, hNz]; exact HP.out.below B8.out
  have HF2 : OutZ a n Z Zz ∧ Fr N w w8 ∧ Grew w N Nz := by rw [hZz, hNz]; exact ⟨OutZ.refl HD.out.wide, Fr.of_below B8.out, Grew.refl _ _⟩
  clear hZz hlz htz hnz hKz hNz
  have HPZ := HPL
  have HFZ := Lib.hid (HF2)
  obtain ⟨gdz, gwz, Fdz, Fwz, vkz, qb, qd, qw, qdis, qrow, qgp, qnd, qnw, qk, qI, qin, qn4, qNs, qN2⟩ := HPZ.out
  have YR : Hid (∀ V, Below w8.heap.size w8 V → V.heap[gp]? = some (.cells (plyC gdz gwz a n vkz true) 31 (0, 0))) := fun V hV => (hV.block gp (Array.getElem?_eq_some_iff.1 qrow).1).trans qrow
  have CAL : Hid (∀ V, Below w8.heap.size w8 V → Calls Tryd.prog 29 #[.pointer (some ⟨gdz, 0, none⟩)] V fun e w' => e = .returned (.bool true) ∧ V = w') := fun V hV => calive_any V (qd.below hV)
  obtain ⟨Az, cz, rfl, -, hkz⟩ := qk
  have CRC : Hid (∀ V, Below w8.heap.size w8 V → Calls Tryd.prog 22 #[.pointer (some ⟨gwz, 0, none⟩)] V (RcsR Kz V)) := fun V hV => wRecords_any V (qw.below hV)
  have hkl := few_of qI qn4 qin qd.few
  have CSM := Lib.hid (fun V (hV : Below w8.heap.size w8 V) (A : Option Addr) (c : Nat) (hr : RwC V V.heap.size A Kz.length Kz) => rsameR_any A Az Kz.length c Kz.length cz V.heap.size Kz Kz V hr ((hkz V (Fr.of_below hV)).moreB hV.size) (Nat.le_refl _) (Nat.le_trans hkl (by decide)))
  unfold RcsR at CRC
  clear qb qd qw qdis qrow qgp qnd qnw qI qin qn4 qNs qN2 hkz hkl
  have KS : Hid (∀ V, Below w8.heap.size w8 V → V.cell? ⟨gp, 0, none⟩ = some (.pointer (some ⟨gdz, 0, none⟩)) ∧ V.cell? ⟨gp, 1, none⟩ = some (.pointer (some ⟨gwz, 0, none⟩)) ∧ V.cell? ⟨gp, 4, none⟩ = some (.slice Az Kz.length cz) ∧ V.cell? ⟨gp, 5, none⟩ = some (.bool true) ∧ V.frozen? ⟨gp, 5, none⟩ = false) := fun V hV => by
    obtain ⟨⟨y0, y1, y2, y3, y4, y5⟩, yf⟩ := play_at (YR.out V hV)
    exact ⟨y0, y1, y4, y5, yf 5⟩
  go_upto_region 20 with fail
  go_region_held3 (fun V => V.cell? ⟨gp, 0, none⟩ = some (.pointer (some ⟨gdz, 0, none⟩)) ∧ V.cell? ⟨gp, 1, none⟩ = some (.pointer (some ⟨gwz, 0, none⟩)) ∧ V.cell? ⟨gp, 4, none⟩ = some (.slice Az Kz.length cz) ∧ V.cell? ⟨gp, 5, none⟩ = some (.bool true) ∧ V.frozen? ⟨gp, 5, none⟩ = false)
    (first | (with_reducible exact KS.out _ (below_same E9.out (YR.out _ E9.out))) | (with_reducible exact KS.out _ E9.out) | (with_reducible exact KS.out _ E8.out) | (with_reducible exact KS.out _ (Below.refl _ _).drew) | fail)
    (first
      | (go_at_call 29; refine (CAL.out _ (Below.refl _ _).drew).mono ?_; rintro e wx ⟨rfl, rfl⟩)
      | (go_at_call 22; refine (CRC.out _ (Below.refl _ _).drew).mono ?_; rintro e u8 ⟨hb8, v8, q8, rfl, hs8, hq8⟩; have hl8 : q8.length = Kz.length := (by rw [← hq8, List.length_map]); obtain ⟨A8, c8, rfl, -, hr8⟩ := hs8.rw; rw [hl8, hq8] at hr8; rw [hl8]; have R8 := Lib.hid hr8; have E8 := Lib.hid ((Below.refl w8.heap.size w8).drew.trans hb8); clear hb8 hs8 hq8 hr8 hl8)
      | (go_at_call 24; refine (CSM.out _ E8.out A8 c8 R8.out).mono ?_; rintro e u9 ⟨r9, rfl, hr9, hb9⟩; obtain rfl : r9 = true := (by simpa using hr9); have E9 := Lib.hid (E8.out.trans (hb9.mono E8.out.size)); clear hr9 hb9)
      | fail)
  refine bodyPost_end (v := .tuple #[]) (by simp [results, Tryd.results10]) rfl ?_
  have hEZ := below_same E9.out (YR.out _ E9.out)
  exact ⟨rfl, Zz, lz, tz, nz, Kz, Nz, HPZ.out.below hEZ, HFZ.out.1, HFZ.out.2.1.trans (Fr.of_below hEZ) HFZ.out.2.2, HFZ.out.2.2⟩
end
end Go.Proofs.YtahgaogmcffglaaDoor
