/- Layer 15's law: do. (Made by gen/WnH.py, WnH01.py.) -/
import Derived.Test.YtahgaogmcffglaaDoorJWnI
namespace Go.Proofs.YtahgaogmcffglaaDoor
open Go.RowKit
section
variable {w0 w : World} {gp a n : Nat} {Z : List (List UInt8)} {lf : Int} {t len : Nat} {K : List Rcd} {N : Nat → Prop} (x : OpW)
set_option maxRecDepth 100000 in
set_option maxHeartbeats 16000000 in
theorem do_app_rec (X : Snt14) (hA : ∀ W, Below w0.heap.size w0 W → Lds14 X W) (hP : Ply w0 w gp a n Z lf t len K N) (hx : x.ok w0) (h0 : x.kind = 0) (hsm : x.r.dat.length ≤ 2000) (hrk : rokR x.r = false) :
    Calls Tryd.prog 10 #[.pointer (some ⟨gp, 0, none⟩), opV x] w (DoR w0 w gp a n Z N) := by
  have HP := Lib.hid hP
  obtain ⟨gd, gw, Fd, Fw, vk, hb, hd, hw, hdis, hrow, hgp, hnd, hnw, hk, hI, hin, hn4, hNs, hN2⟩ := hP
  have hZ : Z.length ≤ 65536 := hd.few
  obtain ⟨wb, hwb⟩ : ∃ wb, wb = w.alloc (.cells (opC x) 38) := ⟨_, rfl⟩
  have BB : Hid (Below w.heap.size w wb) := by show Below _ _ _; rw [hwb]; exact (Below.refl _ _).alloc (Nat.le_refl _) _
  have HBX : Hid (wb.heap[w.heap.size]? = some (.cells (opC x) 38 (0, 0))) := by show _ = _; rw [hwb]; exact heap_alloc_new w _
  have HWB := Lib.hid hwb
  have CM := wRoom_any wb (hw.below BB.out) (fun _ => ⟨by show 1 ≤ n; omega, by show n ≤ 65536; omega, hI.fit⟩)
  have hroom : Ws.room ⟨a, n, t, len, K, false⟩ = ((hlf n * 64 : Nat) : Int) - (len : Int) := rfl
  rw [hroom] at CM
  have CM := Lib.hid CM
  have ZR : Hid (∀ V, Below w.heap.size w V → V.heap[gp]? = some (.cells (plyC gd gw a n vk true) 31 (0, 0))) := fun V hV => (hV.block gp (Array.getElem?_eq_some_iff.1 hrow).1).trans hrow
  have ZX := Lib.hid (fun V (hV : Below wb.heap.size wb V) => op_at ((hV.block _ (Array.getElem?_eq_some_iff.1 HBX.out).1).trans HBX.out))
  have HB := Lib.hid hb
  have HD := Lib.hid hd
  have HW := Lib.hid hw
  have HDI := Lib.hid hdis
  have HGP := Lib.hid (And.intro hgp (And.intro hnd hnw))
  have HK := Lib.hid hk
  have HI := Lib.hid hI
  have HIN := Lib.hid hin
  have HN4 := Lib.hid hn4
  have HNS := Lib.hid hNs
  have HN2 := Lib.hid hN2
  have HZ := Lib.hid hZ
  have HA := Lib.hid hA
  have HX := Lib.hid hx
  obtain ⟨⟨p0, p1, p2, p3, p4, p5⟩, -⟩ := play_at (ZR.out wb BB.out)
  clear hb hd hw hdis hrow hgp hnd hnw hk hI hin hn4 hNs hN2 hZ hwb hroom hA hx
  unfold opV
  unfold opC at HWB
  have e0 : (x.kind == 0) = true := by rw [h0]; rfl
  have HSM : Hid (x.rn ≤ 2000) := by show _ ≤ _; rw [← HX.out.2.1.2.1]; exact hsm
  have HDL : Hid (x.r.dat.length = x.rn) := HX.out.2.1.2.1
  clear h0 hsm
  obtain ⟨Ak, ck, rfl, hkc, hkr⟩ := HK.out
  have hfew := few_of HI.out HN4.out HIN.out HZ.out
  have HFEW := Lib.hid hfew
  have CCP := Lib.hid (fun V (hV : Below w.heap.size w V) => rcopy_any Ak K.length ck w.heap.size K V (hkr V (Fr.of_below hV)) hV.size (Nat.le_trans hfew (by decide)) (fun r hr => (rokR_iff.1 (HI.out.ok r hr)).2.2))
  unfold CpyR at CCP
  obtain ⟨rl, hrl⟩ : ∃ rl : Nat, ((hlf n * 64 : Nat) : Int) - (len : Int) = (rl : Int) := ⟨hlf n * 64 - len, by have := HI.out.fit; omega⟩
  have HRLI := Lib.hid hrl
  rw [hrl] at CM
  have HRKX := Lib.hid hrk
  clear hkr hkc hfew hrl hrk
  go_enter Tryd.func10, Tryd.ntmps10
  go_upto_region 1 with fail
  rw [← HWB.out]
  go_upto_region 2 with (first
    | (go_at_call 16; refine CM.out.mono ?_; rintro e w2 ⟨rfl, hb2⟩; have D2 := Lib.hid hb2; have B2 := Lib.hid (BB.out.trans (hb2.mono BB.out.size)); clear hb2)
    | fail)
  obtain ⟨x0, x1, x2, x3, x4, x5⟩ := ZX.out w2 D2.out
  clear p0 p1 p2 p3 p4 p5
  obtain ⟨⟨p0, p1, p2, p3, p4, p5⟩, -⟩ := play_at (ZR.out w2 B2.out)
  go_upto_region 4 with fail
  go_cut [5] from 19 to 27 (fun v5 wx => ∃ (A5 : Option Addr) (c5 : Nat) (qs : List QR), v5 = .slice A5 (K.length + 1) c5 ∧ Hid (wx.ownsRow w2.heap.size 35 2 (.slice A5 (K.length + 1) c5) (qs ++ [(x.r, x.ra, x.rn, x.rc)]).length (flatQ (qs ++ [(x.r, x.ra, x.rn, x.rc)])) ∧ (∀ y ∈ qs, Ob wx w2.heap.size 5 (.slice y.2.1 y.2.2.1 y.2.2.2) y.1.dat ∧ y.1.dat.length ≤ 8192) ∧ qs.map (·.1) = K ∧ Below w2.heap.size w2 wx))
  case first =>
    go_wp2_with fail
    refine wp_region_held_drew (S := fun V => Below w2.heap.size w2 V) (by kernel_rfl) (Below.refl _ _).drew (fun hHeld => ?_)
    refine takeR (i := 0) (v := ?v0_1) rfl (by kernel_rfl) (by kernel_rfl) (by kernel_rfl) (fun _ _ _ h => h) (by rfl) ?hy0_1 (by assumption) ?rest0_1
    case hy0_1 => (intro W hSw; obtain ⟨⟨g0, g1, g2, g3, g4, g5⟩, -⟩ := play_at (ZR.out W (B2.out.trans (hSw.mono B2.out.size))); obtain ⟨t0, t1, t2, t3, t4, t5⟩ := ZX.out W (D2.out.trans (hSw.mono D2.out.size)); go_simp; try with_reducible rfl)
    try simp only [Act.put]
    try simp only [List.setIfInBounds_toArray]
    try simp only [List.set_cons_succ]
    try simp only [List.set_cons_zero]
    refine takeR (i := 1) (v := ?v1_2) rfl (by kernel_rfl) (by kernel_rfl) (by kernel_rfl) (fun _ _ _ h => h) (by rfl) ?hy1_2 (by assumption) ?rest1_2
    case hy1_2 => (intro W hSw; obtain ⟨⟨g0, g1, g2, g3, g4, g5⟩, -⟩ := play_at (ZR.out W (B2.out.trans (hSw.mono B2.out.size))); obtain ⟨t0, t1, t2, t3, t4, t5⟩ := ZX.out W (D2.out.trans (hSw.mono D2.out.size)); go_simp; try with_reducible rfl)
    try simp only [Act.put]
    try simp only [List.setIfInBounds_toArray]
    try simp only [List.set_cons_succ]
    try simp only [List.set_cons_zero]
    refine takeR (i := 2) (v := ?v2_3) rfl (by kernel_rfl) (by kernel_rfl) (by kernel_rfl) (fun _ _ _ h => h) (by rfl) ?hy2_3 (by assumption) ?rest2_3
    case hy2_3 => (intro W hSw; obtain ⟨⟨g0, g1, g2, g3, g4, g5⟩, -⟩ := play_at (ZR.out W (B2.out.trans (hSw.mono B2.out.size))); obtain ⟨t0, t1, t2, t3, t4, t5⟩ := ZX.out W (D2.out.trans (hSw.mono D2.out.size)); go_simp; try with_reducible rfl)
    try simp only [Act.put]
    try simp only [List.setIfInBounds_toArray]
    try simp only [List.set_cons_succ]
    try simp only [List.set_cons_zero]
    refine takeR (i := 3) (v := ?v3_4) rfl (by kernel_rfl) (by kernel_rfl) (by kernel_rfl) (fun _ _ _ h => h) (by rfl) ?hy3_4 (by assumption) ?rest3_4
    case hy3_4 => (intro W hSw; obtain ⟨⟨g0, g1, g2, g3, g4, g5⟩, -⟩ := play_at (ZR.out W (B2.out.trans (hSw.mono B2.out.size))); obtain ⟨t0, t1, t2, t3, t4, t5⟩ := ZX.out W (D2.out.trans (hSw.mono D2.out.size)); go_simp; try with_reducible rfl)
    try simp only [Act.put]
    try simp only [List.setIfInBounds_toArray]
    try simp only [List.set_cons_succ]
    try simp only [List.set_cons_zero]
    refine takeR (i := 5) (v := ?v5_5) rfl (by kernel_rfl) (by kernel_rfl) (by kernel_rfl) (fun _ _ _ h => h) (by rfl) ?hy5_5 (by assumption) ?rest5_5
    case hy5_5 => (intro W hSw; obtain ⟨⟨g0, g1, g2, g3, g4, g5⟩, -⟩ := play_at (ZR.out W (B2.out.trans (hSw.mono B2.out.size))); obtain ⟨t0, t1, t2, t3, t4, t5⟩ := ZX.out W (D2.out.trans (hSw.mono D2.out.size)); go_simp; try with_reducible rfl)
    try simp only [Act.put]
    try simp only [List.setIfInBounds_toArray]
    try simp only [List.set_cons_succ]
    try simp only [List.set_cons_zero]
    refine takeR (i := 6) (v := ?v6_6) rfl (by kernel_rfl) (by kernel_rfl) (by kernel_rfl) (fun _ _ _ h => h) (by rfl) ?hy6_6 (by assumption) ?rest6_6
    case hy6_6 => (intro W hSw; obtain ⟨⟨g0, g1, g2, g3, g4, g5⟩, -⟩ := play_at (ZR.out W (B2.out.trans (hSw.mono B2.out.size))); obtain ⟨t0, t1, t2, t3, t4, t5⟩ := ZX.out W (D2.out.trans (hSw.mono D2.out.size)); go_simp; try with_reducible rfl)
    try simp only [Act.put]
    try simp only [List.setIfInBounds_toArray]
    try simp only [List.set_cons_succ]
    try simp only [List.set_cons_zero]
    have E2 : Hid (Below w2.heap.size w2 w2.drew) := (Below.refl _ _).drew
    obtain ⟨w3, hw3⟩ : ∃ w3, w3 = w2.drew := ⟨_, rfl⟩
    rw [← hw3] at E2
    rw [← hw3]
    clear hw3
    clear hHeld p0 p1 p2 p3 p4 p5 x0 x1 x2 x3 x4 x5
    refine wpAnyH_ready (rs := [4, 7]) (by kernel_rfl) (by simp) ?_
    refine AllReadyH.cons rfl (fun KC hK => ?_) ?_
    · skip
      rw [if_pos (by rfl)]
      go_simp
      refine (CCP.out _ (B2.out.trans (E2.out.mono B2.out.size))).mono ?_
      rintro e w4 ⟨hb4, v4, q4, rfl, hs4, hq4⟩
      have S4 : Hid (ScS w4 w2.heap.size v4 q4) := hs4.wide E2.out.size
      have Q4 := Lib.hid hq4
      have Q4L : Hid (q4.length = K.length) := by show _ = _; rw [← hq4, List.length_map]
      have E4 := Lib.hid (E2.out.trans (hb4.mono E2.out.size))
      clear hb4 hs4 hq4
      go_simp
      refine hK.out _ _ (E4.out) (fun hHeld => ?_)
      try simp only [Act.put]
      try simp only [List.setIfInBounds_toArray]
      try simp only [List.set_cons_succ]
      try simp only [List.set_cons_zero]
      clear hK KC
      clear hHeld
      refine wpAnyH_ready (rs := [7]) (by kernel_rfl) (by simp) ?_
      refine AllReadyH.cons rfl (fun KC hK => ?_) AllReadyH.nil
      rw [if_pos (by rfl)]
      go_simp
      obtain ⟨w5, hw5⟩ : ∃ w5, w5 = w4.alloc (.cells #[.int .i64 x.r.typ, .slice x.ra x.rn x.rc] 35) := ⟨_, rfl⟩
      have hb5 : Below w4.heap.size w4 w5 := by rw [hw5]; exact (Below.refl _ _).alloc (Nat.le_refl _) _
      have hr5 : w5.heap[w4.heap.size]? = some (.cells #[.int .i64 x.r.typ, .slice x.ra x.rn x.rc] 35 (0, 0)) := by rw [hw5]; exact heap_alloc_new w4 _
      have Y0 := Lib.hid (row2 hr5).1.1
      have Y1 := Lib.hid (row2 hr5).1.2
      have S5 := Lib.hid (S4.out.below hb5)
      have E5 := Lib.hid (E4.out.trans (hb5.mono E4.out.size))
      rw [← hw5]
      clear hw5 hb5 hr5
      refine hK.out _ _ (E5.out) (fun hHeld => ?_)
      try simp only [Act.put]
      try simp only [List.setIfInBounds_toArray]
      try simp only [List.set_cons_succ]
      try simp only [List.set_cons_zero]
      clear hK KC
      clear hHeld
      refine wpAnyH_ready (rs := [8]) (by kernel_rfl) (by simp) ?_
      refine AllReadyH.cons rfl (fun KC hK => ?_) AllReadyH.nil
      refine step_appRH (by rfl) (.tmp 23) (.tmp 26) (by rfl) w2.heap.size v4 q4 (by rfl) S5.out w4.heap.size 1 (x.r, x.ra, x.rn, x.rc) (by rfl) Y0.out Y1.out (by rw [Q4L.out]; have := HFEW.out; omega) E5.out.size ?_
      intro v6 w6 hr6 hq6 hb6
      have E6 : Hid (Below w2.heap.size w2 w6) := E5.out.trans hb6
      obtain ⟨A6, c6, rfl, -⟩ := len_of_own' hr6
      have hl6 : (q4 ++ [(x.r, x.ra, x.rn, x.rc)]).length = K.length + 1 := by rw [List.length_append, Q4L.out]; rfl
      have HR6 := Lib.hid hr6
      have HQ6 := Lib.hid hq6
      rw [hl6] at HR6
      rw [hl6]
      have HL6 := Lib.hid hl6
      clear hr6 hq6 hb6 hl6
      show KC (Act.put _ (some 27) (.slice A6 (K.length + 1) c6)) w6
      refine hK.out _ _ (E6.out) (fun hHeld => ?_)
      try simp only [Act.put]
      try simp only [List.setIfInBounds_toArray]
      try simp only [List.set_cons_succ]
      try simp only [List.set_cons_zero]
      clear hK KC
      refine takeR (i := 9) (v := ?v9_7) rfl (by kernel_rfl) (by kernel_rfl) (by kernel_rfl) (fun _ _ _ h => h) (by rfl) ?hy9_7 (by assumption) ?rest9_7
      case hy9_7 => (intro W hSw; go_simp; try with_reducible rfl)
      try simp only [Act.put]
      try simp only [List.setIfInBounds_toArray]
      try simp only [List.set_cons_succ]
      try simp only [List.set_cons_zero]
      refine wpAnyH_done (by kernel_rfl) ?_ _
      clear hHeld
      go_wp2_with fail
      go_meet
      case rel => exact ⟨A6, c6, q4, rfl, by rw [HL6.out]; exact HR6.out, HQ6.out, Q4.out, E6.out⟩
    · refine AllReadyH.cons rfl (fun KC hK => ?_) AllReadyH.nil
      rw [if_pos (by rfl)]
      go_simp
      obtain ⟨w4, hw4⟩ : ∃ w4, w4 = w3.alloc (.cells #[.int .i64 x.r.typ, .slice x.ra x.rn x.rc] 35) := ⟨_, rfl⟩
      have hr4 : w4.heap[w3.heap.size]? = some (.cells #[.int .i64 x.r.typ, .slice x.ra x.rn x.rc] 35 (0, 0)) := by rw [hw4]; exact heap_alloc_new w3 _
      have E4 : Hid (Below w2.heap.size w2 w4) := by show Below _ _ _; rw [hw4]; exact E2.out.alloc E2.out.size _
      have HR4 := Lib.hid hr4
      rw [← hw4]
      clear hw4 hr4
      refine hK.out _ _ (E4.out) (fun hHeld => ?_)
      try simp only [Act.put]
      try simp only [List.setIfInBounds_toArray]
      try simp only [List.set_cons_succ]
      try simp only [List.set_cons_zero]
      clear hK KC
      clear hHeld
      refine wpAnyH_ready (rs := [4]) (by kernel_rfl) (by simp) ?_
      refine AllReadyH.cons rfl (fun KC hK => ?_) AllReadyH.nil
      rw [if_pos (by rfl)]
      go_simp
      refine (CCP.out _ (B2.out.trans (E4.out.mono B2.out.size))).mono ?_
      rintro e w5 ⟨hb5, v4, q4, rfl, hs4, hq4⟩
      have S5 := Lib.hid (hs4.wide E4.out.size)
      have Q4 := Lib.hid hq4
      have Q4L : Hid (q4.length = K.length) := by show _ = _; rw [← hq4, List.length_map]
      have hr5 := (hb5.block _ (Array.getElem?_eq_some_iff.1 HR4.out).1).trans HR4.out
      have Y0 := Lib.hid (row2 hr5).1.1
      have Y1 := Lib.hid (row2 hr5).1.2
      have E5 := Lib.hid (E4.out.trans (hb5.mono E4.out.size))
      clear hb5 hs4 hq4 hr5
      go_simp
      refine hK.out _ _ (E5.out) (fun hHeld => ?_)
      try simp only [Act.put]
      try simp only [List.setIfInBounds_toArray]
      try simp only [List.set_cons_succ]
      try simp only [List.set_cons_zero]
      clear hK KC
      clear hHeld
      refine wpAnyH_ready (rs := [8]) (by kernel_rfl) (by simp) ?_
      refine AllReadyH.cons rfl (fun KC hK => ?_) AllReadyH.nil
      refine step_appRH (by rfl) (.tmp 23) (.tmp 26) (by rfl) w2.heap.size v4 q4 (by rfl) S5.out w3.heap.size 1 (x.r, x.ra, x.rn, x.rc) (by rfl) Y0.out Y1.out (by rw [Q4L.out]; have := HFEW.out; omega) E5.out.size ?_
      intro v6 w6 hr6 hq6 hb6
      have E6 : Hid (Below w2.heap.size w2 w6) := E5.out.trans hb6
      obtain ⟨A6, c6, rfl, -⟩ := len_of_own' hr6
      have hl6 : (q4 ++ [(x.r, x.ra, x.rn, x.rc)]).length = K.length + 1 := by rw [List.length_append, Q4L.out]; rfl
      have HR6 := Lib.hid hr6
      have HQ6 := Lib.hid hq6
      rw [hl6] at HR6
      rw [hl6]
      have HL6 := Lib.hid hl6
      clear hr6 hq6 hb6 hl6
      show KC (Act.put _ (some 27) (.slice A6 (K.length + 1) c6)) w6
      refine hK.out _ _ (E6.out) (fun hHeld => ?_)
      try simp only [Act.put]
      try simp only [List.setIfInBounds_toArray]
      try simp only [List.set_cons_succ]
      try simp only [List.set_cons_zero]
      clear hK KC
      refine takeR (i := 9) (v := ?v9_8) rfl (by kernel_rfl) (by kernel_rfl) (by kernel_rfl) (fun _ _ _ h => h) (by rfl) ?hy9_8 (by assumption) ?rest9_8
      case hy9_8 => (intro W hSw; go_simp; try with_reducible rfl)
      try simp only [Act.put]
      try simp only [List.setIfInBounds_toArray]
      try simp only [List.set_cons_succ]
      try simp only [List.set_cons_zero]
      refine wpAnyH_done (by kernel_rfl) ?_ _
      clear hHeld
      go_wp2_with fail
      go_meet
      case rel => exact ⟨A6, c6, q4, rfl, by rw [HL6.out]; exact HR6.out, HQ6.out, Q4.out, E6.out⟩
  case rest =>
    obtain ⟨A5, c5, qs, rfl, hc⟩ := hcut
    have HC := Lib.hid hc.out
    have B5 : Hid (Below w.heap.size w wc) := B2.out.trans (HC.out.2.2.2.mono B2.out.size)
    have D5 : Hid (Below wb.heap.size wb wc) := D2.out.trans (HC.out.2.2.2.mono D2.out.size)
    have BW5 : Hid (Below w0.heap.size w0 wc) := HB.out.trans (B5.out.mono HB.out.size)
    have KT : Hid (KpR wc N (.slice A5 (K.length + 1) c5) (K ++ [x.r])) := by
      have h := KpR.then_ (N := N) (lo := w0.heap.size) HC.out.1 HC.out.2.1 ⟨HX.out.2.1.1, HX.out.2.1.2.below BW5.out⟩ (by show x.rn ≤ _; have := HSM.out; omega) BW5.out.size (fun k hk => ⟨(HN2.out k hk).1, Nat.lt_of_lt_of_le (HN2.out k hk).2 B2.out.size⟩)
      rw [List.map_append, HC.out.2.2.1] at h
      exact h
    clear hc
    obtain ⟨sz, hsz⟩ : ∃ sz : Int, sz = (if rokR x.r = true then (x.rn : Int) + 7 else 0) := ⟨_, rfl⟩
    have CSZ := Lib.hid (fun V => rsize_any x.r.typ x.ra x.rn x.rc x.r.dat V HDL.out (by have := HSM.out; omega))
    rw [show (⟨x.r.typ, x.r.dat⟩ : Rcd) = x.r from rfl, ← hsz] at CSZ
    unfold recV at CSZ
    have HSZ := Lib.hid hsz
    clear hsz p0 p1 p2 p3 p4 p5 x0 x1 x2 x3 x4 x5
    obtain ⟨⟨p0, p1, p2, p3, p4, p5⟩, pf⟩ := play_at (ZR.out wc B5.out)
    have pf5 := pf 5
    clear pf
    obtain ⟨x0, x1, x2, x3, x4, x5⟩ := ZX.out wc D5.out
    go_upto_region 6 with (first
      | (go_at_call 18; refine (CSZ.out _).mono ?_; rintro e w6 ⟨rfl, hb6⟩; have E6 := Lib.hid hb6; clear hb6 p0 p1 p2 p3 p4 p5 pf5 x0 x1 x2 x3 x4 x5)
      | fail)
    have B6 : Hid (Below w.heap.size w w6) := B5.out.trans (E6.out.mono B5.out.size)
    have D6 : Hid (Below wb.heap.size wb w6) := D5.out.trans (E6.out.mono D5.out.size)
    have B6d : Hid (Below w.heap.size w w6.drew) := B6.out.trans ((Below.refl w6.heap.size w6).drew.mono B6.out.size)
    have D6d : Hid (Below wb.heap.size wb w6.drew) := D6.out.trans ((Below.refl w6.heap.size w6).drew.mono D6.out.size)
    have KTd : Hid (KpR w6.drew N (.slice A5 (K.length + 1) c5) (K ++ [x.r])) := KT.out.below (E6.out.trans ((Below.refl w6.heap.size w6).drew.mono E6.out.size))
    obtain ⟨⟨p0, p1, p2, p3, p4, p5⟩, pf⟩ := play_at (ZR.out w6 B6.out)
    have pf5 := pf 5
    clear pf
    obtain ⟨x0, x1, x2, x3, x4, x5⟩ := ZX.out w6 D6.out
    have g1 : w6.drew.cell? ⟨gp, 1, none⟩ = some (.pointer (some ⟨gw, 0, none⟩)) := p1
    have t1 : w6.drew.cell? ⟨w.heap.size, 1, none⟩ = some (.int .i64 x.r.typ) := x1
    have t2 : w6.drew.cell? ⟨w.heap.size, 2, none⟩ = some (.slice x.ra x.rn x.rc) := x2
    refine wp_region_still_tail 6 (by kernel_rfl) (by kernel_rfl) ?_
    simp only [List.take_succ_cons, List.take_zero, List.drop_succ_cons, List.drop_zero]
    repeat still_step
    refine wpStill_nil ?_
    change wpList _ _ _ _ _ w6.drew
    obtain ⟨wd, hwd⟩ : ∃ wd, wd = w6.drew := ⟨_, rfl⟩
    rw [← hwd] at B6d D6d KTd
    rw [← hwd]
    clear hwd g1 t1 t2 p0 p1 p2 p3 p4 p5 pf5 x0 x1 x2 x3 x4 x5
    have BWd : Hid (Below w0.heap.size w0 wd) := HB.out.trans (B6d.out.mono HB.out.size)
    have CAp := wAppendO_any X wd (B := w0.heap.size) (gd := gd) (g := gw) x.ra x.rn x.rc x.r (fun V hV => HA.out V (BWd.out.trans hV)) BWd.out.size (HD.out.below B6d.out) (HW.out.below B6d.out) HDI.out HI.out (by have := HN4.out; omega) HIN.out (fun V hV => by
      have hlo : ∀ p : Addr, p.block < w0.heap.size → V.cell? p = w0.cell? p := fun p hp => World.cell?_of_block ((hV.block p.block (Nat.lt_of_lt_of_le hp BWd.out.size) (fun hf => by
        rcases hf with hf | hf
        · have := (HD.out.fit _ hf).1; omega
        · have := (HW.out.fit _ hf).1; omega)).trans (BWd.out.block p.block hp))
      exact (HX.out.2.1.2.keep hlo).more BWd.out.size) HX.out.2.1.1 (by have := HSM.out; omega)
    rw [HRLI.out, HDL.out] at CAp
    have hfz : fitZ [x.r] (rl : Int) = 140 := fitZ_no (r := x.r) _ (List.mem_singleton.2 rfl) HRKX.out
    rw [hfz] at CAp
    unfold recV at CAp
    have CAp := Lib.hid CAp
    clear hfz
    go_wp2_with fail
    refine CAp.out.mono ?_
    rintro e w7 h7
    have FWD : Hid (∀ k, Fd k ∨ Fw k → N k) := fun k h => HNS.out k (h.elim .inl fun h => .inr (.inl h))
    have hlt : (K ++ [x.r]).length ≤ 1000000 := by rw [List.length_append]; have := HFEW.out; show K.length + 1 ≤ _; omega
    have HLT := Lib.hid hlt
    clear hlt CAp CCP CSZ CM
    rcases h7 with ⟨-, rfl, hb7⟩ | ⟨hz, -⟩
    case inr => exact absurd hz (by decide)
    have B7 : Hid (Below w.heap.size w w7) := B6d.out.trans (hb7.mono B6d.out.size)
    have D7 : Hid (Below wb.heap.size wb w7) := D6d.out.trans (hb7.mono D6d.out.size)
    have KT7 : Hid (KpR w7 N (.slice A5 (K.length + 1) c5) (K ++ [x.r])) := KTd.out.below hb7
    clear hb7
    have hszl : szL (K ++ [x.r]) = -1 := szL_no (r := x.r) (List.mem_append.2 (.inr (List.mem_singleton.2 rfl))) HRKX.out
    have CG := Lib.hid (fun fb => chg_rec x (gp := gp) (gd := gd) (gw := gw) (a := a) (n := n) fb (ZR.out w7 B7.out) KT7.out HLT.out hszl)
    unfold opV at CG
    obtain ⟨⟨p0, p1, p2, p3, p4, p5⟩, pf⟩ := play_at (ZR.out w7 B7.out)
    have pf5 := pf 5
    clear pf
    obtain ⟨x0, x1, x2, x3, x4, x5⟩ := ZX.out w7 D7.out
    go_upto_region 8 with (first
      | (go_at_call 26; refine (CG.out _).mono ?_; rintro e w8 ⟨rfl, hb8⟩; have B8 := Lib.hid (B7.out.trans (hb8.mono B7.out.size)); have D8 := Lib.hid (D7.out.trans (hb8.mono D7.out.size)); clear hb8 p0 p1 p2 p3 p4 p5 pf5 x0 x1 x2 x3 x4 x5)
      | fail)
    obtain ⟨⟨p0, p1, p2, p3, p4, p5⟩, pf⟩ := play_at (ZR.out w8 B8.out)
    have pf5 := pf 5
    clear pf
    obtain ⟨x0, x1, x2, x3, x4, x5⟩ := ZX.out w8 D8.out
    obtain ⟨Zz, hZz⟩ : ∃ Zz, Zz = Z := ⟨_, rfl⟩
    obtain ⟨lz, hlz⟩ : ∃ lz, lz = lf := ⟨_, rfl⟩
    obtain ⟨tz, htz⟩ : ∃ tz, tz = t := ⟨_, rfl⟩
    obtain ⟨nz, hnz⟩ : ∃ nz, nz = len := ⟨_, rfl⟩
    obtain ⟨Kz, hKz⟩ : ∃ Kz, Kz = K := ⟨_, rfl⟩
    obtain ⟨Nz, hNz⟩ : ∃ Nz, Nz = N := ⟨_, rfl⟩
    have HPL : Hid (Ply w0 w8 gp a n Zz lz tz nz Kz Nz) := by rw [hZz, hlz, htz, hnz, hKz, hNz]; exact HP.out.below B8.out
    have HF2 : OutZ a n Z Zz ∧ Fr N w w8 ∧ Grew w N Nz := by rw [hZz, hNz]; exact ⟨OutZ.refl HD.out.wide, Fr.of_below B8.out, Grew.refl _ _⟩
    clear hZz hlz htz hnz hKz hNz
    have HPZ := HPL
    have HFZ := Lib.hid (HF2)
    obtain ⟨gdz, gwz, Fdz, Fwz, vkz, qb, qd, qw, qdis, qrow, qgp, qnd, qnw, qk, qI, qin, qn4, qNs, qN2⟩ := HPZ.out
    have YR : Hid (∀ V, Below w8.heap.size w8 V → V.heap[gp]? = some (.cells (plyC gdz gwz a n vkz true) 31 (0, 0))) := fun V hV => (hV.block gp (Array.getElem?_eq_some_iff.1 qrow).1).trans qrow
    have CAL : Hid (∀ V, Below w8.heap.size w8 V → Calls Tryd.prog 29 #[.pointer (some ⟨gdz, 0, none⟩)] V fun e w' => e = .returned (.bool true) ∧ V = w') := fun V hV => calive_any V (qd.below hV)
    obtain ⟨Az, cz, rfl, -, hkz⟩ := qk
    have CRC : Hid (∀ V, Below w8.heap.size w8 V → Calls Tryd.prog 22 #[.pointer (some ⟨gwz, 0, none⟩)] V (RcsR Kz V)) := fun V hV => wRecords_any V (qw.below hV)
    have hkl := few_of qI qn4 qin qd.few
    have CSM := Lib.hid (fun V (hV : Below w8.heap.size w8 V) (A : Option Addr) (c : Nat) (hr : RwC V V.heap.size A Kz.length Kz) => rsameR_any A Az Kz.length c Kz.length cz V.heap.size Kz Kz V hr ((hkz V (Fr.of_below hV)).moreB hV.size) (Nat.le_refl _) (Nat.le_trans hkl (by decide)))
    unfold RcsR at CRC
    clear qb qd qw qdis qrow qgp qnd qnw qI qin qn4 qNs qN2 hkz hkl
    have KS : Hid (∀ V, Below w8.heap.size w8 V → V.cell? ⟨gp, 0, none⟩ = some (.pointer (some ⟨gdz, 0, none⟩)) ∧ V.cell? ⟨gp, 1, none⟩ = some (.pointer (some ⟨gwz, 0, none⟩)) ∧ V.cell? ⟨gp, 4, none⟩ = some (.slice Az Kz.length cz) ∧ V.cell? ⟨gp, 5, none⟩ = some (.bool true) ∧ V.frozen? ⟨gp, 5, none⟩ = false) := fun V hV => by
      obtain ⟨⟨y0, y1, y2, y3, y4, y5⟩, yf⟩ := play_at (YR.out V hV)
      exact ⟨y0, y1, y4, y5, yf 5⟩
    go_upto_region 20 with fail
    go_region_held3 (fun V => V.cell? ⟨gp, 0, none⟩ = some (.pointer (some ⟨gdz, 0, none⟩)) ∧ V.cell? ⟨gp, 1, none⟩ = some (.pointer (some ⟨gwz, 0, none⟩)) ∧ V.cell? ⟨gp, 4, none⟩ = some (.slice Az Kz.length cz) ∧ V.cell? ⟨gp, 5, none⟩ = some (.bool true) ∧ V.frozen? ⟨gp, 5, none⟩ = false)
      (first | (with_reducible exact KS.out _ (below_same E9.out (YR.out _ E9.out))) | (with_reducible exact KS.out _ E9.out) | (with_reducible exact KS.out _ E8.out) | (with_reducible exact KS.out _ (Below.refl _ _).drew) | fail)
      (first
        | (go_at_call 29; refine (CAL.out _ (Below.refl _ _).drew).mono ?_; rintro e wx ⟨rfl, rfl⟩)
        | (go_at_call 22; refine (CRC.out _ (Below.refl _ _).drew).mono ?_; rintro e u8 ⟨hb8, v8, q8, rfl, hs8, hq8⟩; have hl8 : q8.length = Kz.length := (by rw [← hq8, List.length_map]); obtain ⟨A8, c8, rfl, -, hr8⟩ := hs8.rw; rw [hl8, hq8] at hr8; rw [hl8]; have R8 := Lib.hid hr8; have E8 := Lib.hid ((Below.refl w8.heap.size w8).drew.trans hb8); clear hb8 hs8 hq8 hr8 hl8)
        | (go_at_call 24; refine (CSM.out _ E8.out A8 c8 R8.out).mono ?_; rintro e u9 ⟨r9, rfl, hr9, hb9⟩; obtain rfl : r9 = true := (by simpa using hr9); have E9 := Lib.hid (E8.out.trans (hb9.mono E8.out.size)); clear hr9 hb9)
        | fail)
    refine bodyPost_end (v := .tuple #[]) (by simp [results, Tryd.results10]) rfl ?_
    have hEZ := below_same E9.out (YR.out _ E9.out)
    exact ⟨rfl, Zz, lz, tz, nz, Kz, Nz, HPZ.out.below hEZ, HFZ.out.1, HFZ.out.2.1.trans (Fr.of_below hEZ) HFZ.out.2.2, HFZ.out.2.2⟩
end
end Go.Proofs.YtahgaogmcffglaaDoor
/- Layer 15's law: do. (Made by gen/WnH.py, WnH01.py.) -/
namespace Go.Proofs.YtahgaogmcffglaaDoor
open Go.RowKit
section
variable {w0 w : World} {gp a n : Nat} {Z : List (List UInt8)} {lf : Int} {t len : Nat} {K : List Rcd} {N : Nat → Prop} (x : OpW)
set_option maxRecDepth 100000 in
set_option maxHeartbeats 16000000 in
theorem do_app_full (X : Snt14) (hA : ∀ W, Below w0.heap.size w0 W → Lds14 X W) (hP : Ply w0 w gp a n Z lf t len K N) (hx : x.ok w0) (h0 : x.kind = 0) (hsm : x.r.dat.length ≤ 2000) (hrk : rokR x.r = true) (hnf : ((hlf n * 64 : Nat) : Int) - (len : Int) < (x.rn : Int) + 7) :
    Calls Tryd.prog 10 #[.pointer (some ⟨gp, 0, none⟩), opV x] w (DoR w0 w gp a n Z N) := by
  have HP := Lib.hid hP
  obtain ⟨gd, gw, Fd, Fw, vk, hb, hd, hw, hdis, hrow, hgp, hnd, hnw, hk, hI, hin, hn4, hNs, hN2⟩ := hP
  have hZ : Z.length ≤ 65536 := hd.few
  obtain ⟨wb, hwb⟩ : ∃ wb, wb = w.alloc (.cells (opC x) 38) := ⟨_, rfl⟩
  have BB : Hid (Below w.heap.size w wb) := by show Below _ _ _; rw [hwb]; exact (Below.refl _ _).alloc (Nat.le_refl _) _
  have HBX : Hid (wb.heap[w.heap.size]? = some (.cells (opC x) 38 (0, 0))) := by show _ = _; rw [hwb]; exact heap_alloc_new w _
  have HWB := Lib.hid hwb
  have CM := wRoom_any wb (hw.below BB.out) (fun _ => ⟨by show 1 ≤ n; omega, by show n ≤ 65536; omega, hI.fit⟩)
  have hroom : Ws.room ⟨a, n, t, len, K, false⟩ = ((hlf n * 64 : Nat) : Int) - (len : Int) := rfl
  rw [hroom] at CM
  have CM := Lib.hid CM
  have ZR : Hid (∀ V, Below w.heap.size w V → V.heap[gp]? = some (.cells (plyC gd gw a n vk true) 31 (0, 0))) := fun V hV => (hV.block gp (Array.getElem?_eq_some_iff.1 hrow).1).trans hrow
  have ZX := Lib.hid (fun V (hV : Below wb.heap.size wb V) => op_at ((hV.block _ (Array.getElem?_eq_some_iff.1 HBX.out).1).trans HBX.out))
  have HB := Lib.hid hb
  have HD := Lib.hid hd
  have HW := Lib.hid hw
  have HDI := Lib.hid hdis
  have HGP := Lib.hid (And.intro hgp (And.intro hnd hnw))
  have HK := Lib.hid hk
  have HI := Lib.hid hI
  have HIN := Lib.hid hin
  have HN4 := Lib.hid hn4
  have HNS := Lib.hid hNs
  have HN2 := Lib.hid hN2
  have HZ := Lib.hid hZ
  have HA := Lib.hid hA
  have HX := Lib.hid hx
  obtain ⟨⟨p0, p1, p2, p3, p4, p5⟩, -⟩ := play_at (ZR.out wb BB.out)
  clear hb hd hw hdis hrow hgp hnd hnw hk hI hin hn4 hNs hN2 hZ hwb hroom hA hx
  unfold opV
  unfold opC at HWB
  have e0 : (x.kind == 0) = true := by rw [h0]; rfl
  have HSM : Hid (x.rn ≤ 2000) := by show _ ≤ _; rw [← HX.out.2.1.2.1]; exact hsm
  have HDL : Hid (x.r.dat.length = x.rn) := HX.out.2.1.2.1
  clear h0 hsm
  obtain ⟨Ak, ck, rfl, hkc, hkr⟩ := HK.out
  have hfew := few_of HI.out HN4.out HIN.out HZ.out
  have HFEW := Lib.hid hfew
  have CCP := Lib.hid (fun V (hV : Below w.heap.size w V) => rcopy_any Ak K.length ck w.heap.size K V (hkr V (Fr.of_below hV)) hV.size (Nat.le_trans hfew (by decide)) (fun r hr => (rokR_iff.1 (HI.out.ok r hr)).2.2))
  unfold CpyR at CCP
  obtain ⟨rl, hrl⟩ : ∃ rl : Nat, ((hlf n * 64 : Nat) : Int) - (len : Int) = (rl : Int) := ⟨hlf n * 64 - len, by have := HI.out.fit; omega⟩
  have HRLI := Lib.hid hrl
  rw [hrl] at CM hnf
  have HRKX := Lib.hid hrk
  have HNF := Lib.hid hnf
  clear hkr hkc hfew hrl hrk hnf
  go_enter Tryd.func10, Tryd.ntmps10
  go_upto_region 1 with fail
  rw [← HWB.out]
  go_upto_region 2 with (first
    | (go_at_call 16; refine CM.out.mono ?_; rintro e w2 ⟨rfl, hb2⟩; have D2 := Lib.hid hb2; have B2 := Lib.hid (BB.out.trans (hb2.mono BB.out.size)); clear hb2)
    | fail)
  obtain ⟨x0, x1, x2, x3, x4, x5⟩ := ZX.out w2 D2.out
  clear p0 p1 p2 p3 p4 p5
  obtain ⟨⟨p0, p1, p2, p3, p4, p5⟩, -⟩ := play_at (ZR.out w2 B2.out)
  go_upto_region 4 with fail
  go_cut [5] from 19 to 27 (fun v5 wx => ∃ (A5 : Option Addr) (c5 : Nat) (qs : List QR), v5 = .slice A5 (K.length + 1) c5 ∧ Hid (wx.ownsRow w2.heap.size 35 2 (.slice A5 (K.length + 1) c5) (qs ++ [(x.r, x.ra, x.rn, x.rc)]).length (flatQ (qs ++ [(x.r, x.ra, x.rn, x.rc)])) ∧ (∀ y ∈ qs, Ob wx w2.heap.size 5 (.slice y.2.1 y.2.2.1 y.2.2.2) y.1.dat ∧ y.1.dat.length ≤ 8192) ∧ qs.map (·.1) = K ∧ Below w2.heap.size w2 wx))
  case first =>
    go_wp2_with fail
    refine wp_region_held_drew (S := fun V => Below w2.heap.size w2 V) (by kernel_rfl) (Below.refl _ _).drew (fun hHeld => ?_)
    refine takeR (i := 0) (v := ?v0_1) rfl (by kernel_rfl) (by kernel_rfl) (by kernel_rfl) (fun _ _ _ h => h) (by rfl) ?hy0_1 (by assumption) ?rest0_1
    case hy0_1 => (intro W hSw; obtain ⟨⟨g0, g1, g2, g3, g4, g5⟩, -⟩ := play_at (ZR.out W (B2.out.trans (hSw.mono B2.out.size))); obtain ⟨t0, t1, t2, t3, t4, t5⟩ := ZX.out W (D2.out.trans (hSw.mono D2.out.size)); go_simp; try with_reducible rfl)
    try simp only [Act.put]
    try simp only [List.setIfInBounds_toArray]
    try simp only [List.set_cons_succ]
    try simp only [List.set_cons_zero]
    refine takeR (i := 1) (v := ?v1_2) rfl (by kernel_rfl) (by kernel_rfl) (by kernel_rfl) (fun _ _ _ h => h) (by rfl) ?hy1_2 (by assumption) ?rest1_2
    case hy1_2 => (intro W hSw; obtain ⟨⟨g0, g1, g2, g3, g4, g5⟩, -⟩ := play_at (ZR.out W (B2.out.trans (hSw.mono B2.out.size))); obtain ⟨t0, t1, t2, t3, t4, t5⟩ := ZX.out W (D2.out.trans (hSw.mono D2.out.size)); go_simp; try with_reducible rfl)
    try simp only [Act.put]
    try simp only [List.setIfInBounds_toArray]
    try simp only [List.set_cons_succ]
    try simp only [List.set_cons_zero]
    refine takeR (i := 2) (v := ?v2_3) rfl (by kernel_rfl) (by kernel_rfl) (by kernel_rfl) (fun _ _ _ h => h) (by rfl) ?hy2_3 (by assumption) ?rest2_3
    case hy2_3 => (intro W hSw; obtain ⟨⟨g0, g1, g2, g3, g4, g5⟩, -⟩ := play_at (ZR.out W (B2.out.trans (hSw.mono B2.out.size))); obtain ⟨t0, t1, t2, t3, t4, t5⟩ := ZX.out W (D2.out.trans (hSw.mono D2.out.size)); go_simp; try with_reducible rfl)
    try simp only [Act.put]
    try simp only [List.setIfInBounds_toArray]
    try simp only [List.set_cons_succ]
    try simp only [List.set_cons_zero]
    refine takeR (i := 3) (v := ?v3_4) rfl (by kernel_rfl) (by kernel_rfl) (by kernel_rfl) (fun _ _ _ h => h) (by rfl) ?hy3_4 (by assumption) ?rest3_4
    case hy3_4 => (intro W hSw; obtain ⟨⟨g0, g1, g2, g3, g4, g5⟩, -⟩ := play_at (ZR.out W (B2.out.trans (hSw.mono B2.out.size))); obtain ⟨t0, t1, t2, t3, t4, t5⟩ := ZX.out W (D2.out.trans (hSw.mono D2.out.size)); go_simp; try with_reducible rfl)
    try simp only [Act.put]
    try simp only [List.setIfInBounds_toArray]
    try simp only [List.set_cons_succ]
    try simp only [List.set_cons_zero]
    refine takeR (i := 5) (v := ?v5_5) rfl (by kernel_rfl) (by kernel_rfl) (by kernel_rfl) (fun _ _ _ h => h) (by rfl) ?hy5_5 (by assumption) ?rest5_5
    case hy5_5 => (intro W hSw; obtain ⟨⟨g0, g1, g2, g3, g4, g5⟩, -⟩ := play_at (ZR.out W (B2.out.trans (hSw.mono B2.out.size))); obtain ⟨t0, t1, t2, t3, t4, t5⟩ := ZX.out W (D2.out.trans (hSw.mono D2.out.size)); go_simp; try with_reducible rfl)
    try simp only [Act.put]
    try simp only [List.setIfInBounds_toArray]
    try simp only [List.set_cons_succ]
    try simp only [List.set_cons_zero]
    refine takeR (i := 6) (v := ?v6_6) rfl (by kernel_rfl) (by kernel_rfl) (by kernel_rfl) (fun _ _ _ h => h) (by rfl) ?hy6_6 (by assumption) ?rest6_6
    case hy6_6 => (intro W hSw; obtain ⟨⟨g0, g1, g2, g3, g4, g5⟩, -⟩ := play_at (ZR.out W (B2.out.trans (hSw.mono B2.out.size))); obtain ⟨t0, t1, t2, t3, t4, t5⟩ := ZX.out W (D2.out.trans (hSw.mono D2.out.size)); go_simp; try with_reducible rfl)
    try simp only [Act.put]
    try simp only [List.setIfInBounds_toArray]
    try simp only [List.set_cons_succ]
    try simp only [List.set_cons_zero]
    have E2 : Hid (Below w2.heap.size w2 w2.drew) := (Below.refl _ _).drew
    obtain ⟨w3, hw3⟩ : ∃ w3, w3 = w2.drew := ⟨_, rfl⟩
    rw [← hw3] at E2
    rw [← hw3]
    clear hw3
    clear hHeld p0 p1 p2 p3 p4 p5 x0 x1 x2 x3 x4 x5
    refine wpAnyH_ready (rs := [4, 7]) (by kernel_rfl) (by simp) ?_
    refine AllReadyH.cons rfl (fun KC hK => ?_) ?_
    · skip
      rw [if_pos (by rfl)]
      go_simp
      refine (CCP.out _ (B2.out.trans (E2.out.mono B2.out.size))).mono ?_
      rintro e w4 ⟨hb4, v4, q4, rfl, hs4, hq4⟩
      have S4 : Hid (ScS w4 w2.heap.size v4 q4) := hs4.wide E2.out.size
      have Q4 := Lib.hid hq4
      have Q4L : Hid (q4.length = K.length) := by show _ = _; rw [← hq4, List.length_map]
      have E4 := Lib.hid (E2.out.trans (hb4.mono E2.out.size))
      clear hb4 hs4 hq4
      go_simp
      refine hK.out _ _ (E4.out) (fun hHeld => ?_)
      try simp only [Act.put]
      try simp only [List.setIfInBounds_toArray]
      try simp only [List.set_cons_succ]
      try simp only [List.set_cons_zero]
      clear hK KC
      clear hHeld
      refine wpAnyH_ready (rs := [7]) (by kernel_rfl) (by simp) ?_
      refine AllReadyH.cons rfl (fun KC hK => ?_) AllReadyH.nil
      rw [if_pos (by rfl)]
      go_simp
      obtain ⟨w5, hw5⟩ : ∃ w5, w5 = w4.alloc (.cells #[.int .i64 x.r.typ, .slice x.ra x.rn x.rc] 35) := ⟨_, rfl⟩
      have hb5 : Below w4.heap.size w4 w5 := by rw [hw5]; exact (Below.refl _ _).alloc (Nat.le_refl _) _
      have hr5 : w5.heap[w4.heap.size]? = some (.cells #[.int .i64 x.r.typ, .slice x.ra x.rn x.rc] 35 (0, 0)) := by rw [hw5]; exact heap_alloc_new w4 _
      have Y0 := Lib.hid (row2 hr5).1.1
      have Y1 := Lib.hid (row2 hr5).1.2
      have S5 := Lib.hid (S4.out.below hb5)
      have E5 := Lib.hid (E4.out.trans (hb5.mono E4.out.size))
      rw [← hw5]
      clear hw5 hb5 hr5
      refine hK.out _ _ (E5.out) (fun hHeld => ?_)
      try simp only [Act.put]
      try simp only [List.setIfInBounds_toArray]
      try simp only [List.set_cons_succ]
      try simp only [List.set_cons_zero]
      clear hK KC
      clear hHeld
      refine wpAnyH_ready (rs := [8]) (by kernel_rfl) (by simp) ?_
      refine AllReadyH.cons rfl (fun KC hK => ?_) AllReadyH.nil
      refine step_appRH (by rfl) (.tmp 23) (.tmp 26) (by rfl) w2.heap.size v4 q4 (by rfl) S5.out w4.heap.size 1 (x.r, x.ra, x.rn, x.rc) (by rfl) Y0.out Y1.out (by rw [Q4L.out]; have := HFEW.out; omega) E5.out.size ?_
      intro v6 w6 hr6 hq6 hb6
      have E6 : Hid (Below w2.heap.size w2 w6) := E5.out.trans hb6
      obtain ⟨A6, c6, rfl, -⟩ := len_of_own' hr6
      have hl6 : (q4 ++ [(x.r, x.ra, x.rn, x.rc)]).length = K.length + 1 := by rw [List.length_append, Q4L.out]; rfl
      have HR6 := Lib.hid hr6
      have HQ6 := Lib.hid hq6
      rw [hl6] at HR6
      rw [hl6]
      have HL6 := Lib.hid hl6
      clear hr6 hq6 hb6 hl6
      show KC (Act.put _ (some 27) (.slice A6 (K.length + 1) c6)) w6
      refine hK.out _ _ (E6.out) (fun hHeld => ?_)
      try simp only [Act.put]
      try simp only [List.setIfInBounds_toArray]
      try simp only [List.set_cons_succ]
      try simp only [List.set_cons_zero]
      clear hK KC
      refine takeR (i := 9) (v := ?v9_7) rfl (by kernel_rfl) (by kernel_rfl) (by kernel_rfl) (fun _ _ _ h => h) (by rfl) ?hy9_7 (by assumption) ?rest9_7
      case hy9_7 => (intro W hSw; go_simp; try with_reducible rfl)
      try simp only [Act.put]
      try simp only [List.setIfInBounds_toArray]
      try simp only [List.set_cons_succ]
      try simp only [List.set_cons_zero]
      refine wpAnyH_done (by kernel_rfl) ?_ _
      clear hHeld
      go_wp2_with fail
      go_meet
      case rel => exact ⟨A6, c6, q4, rfl, by rw [HL6.out]; exact HR6.out, HQ6.out, Q4.out, E6.out⟩
    · refine AllReadyH.cons rfl (fun KC hK => ?_) AllReadyH.nil
      rw [if_pos (by rfl)]
      go_simp
      obtain ⟨w4, hw4⟩ : ∃ w4, w4 = w3.alloc (.cells #[.int .i64 x.r.typ, .slice x.ra x.rn x.rc] 35) := ⟨_, rfl⟩
      have hr4 : w4.heap[w3.heap.size]? = some (.cells #[.int .i64 x.r.typ, .slice x.ra x.rn x.rc] 35 (0, 0)) := by rw [hw4]; exact heap_alloc_new w3 _
      have E4 : Hid (Below w2.heap.size w2 w4) := by show Below _ _ _; rw [hw4]; exact E2.out.alloc E2.out.size _
      have HR4 := Lib.hid hr4
      rw [← hw4]
      clear hw4 hr4
      refine hK.out _ _ (E4.out) (fun hHeld => ?_)
      try simp only [Act.put]
      try simp only [List.setIfInBounds_toArray]
      try simp only [List.set_cons_succ]
      try simp only [List.set_cons_zero]
      clear hK KC
      clear hHeld
      refine wpAnyH_ready (rs := [4]) (by kernel_rfl) (by simp) ?_
      refine AllReadyH.cons rfl (fun KC hK => ?_) AllReadyH.nil
      rw [if_pos (by rfl)]
      go_simp
      refine (CCP.out _ (B2.out.trans (E4.out.mono B2.out.size))).mono ?_
      rintro e w5 ⟨hb5, v4, q4, rfl, hs4, hq4⟩
      have S5 := Lib.hid (hs4.wide E4.out.size)
      have Q4 := Lib.hid hq4
      have Q4L : Hid (q4.length = K.length) := by show _ = _; rw [← hq4, List.length_map]
      have hr5 := (hb5.block _ (Array.getElem?_eq_some_iff.1 HR4.out).1).trans HR4.out
      have Y0 := Lib.hid (row2 hr5).1.1
      have Y1 := Lib.hid (row2 hr5).1.2
      have E5 := Lib.hid (E4.out.trans (hb5.mono E4.out.size))
      clear hb5 hs4 hq4 hr5
      go_simp
      refine hK.out _ _ (E5.out) (fun hHeld => ?_)
      try simp only [Act.put]
      try simp only [List.setIfInBounds_toArray]
      try simp only [List.set_cons_succ]
      try simp only [List.set_cons_zero]
      clear hK KC
      clear hHeld
      refine wpAnyH_ready (rs := [8]) (by kernel_rfl) (by simp) ?_
      refine AllReadyH.cons rfl (fun KC hK => ?_) AllReadyH.nil
      refine step_appRH (by rfl) (.tmp 23) (.tmp 26) (by rfl) w2.heap.size v4 q4 (by rfl) S5.out w3.heap.size 1 (x.r, x.ra, x.rn, x.rc) (by rfl) Y0.out Y1.out (by rw [Q4L.out]; have := HFEW.out; omega) E5.out.size ?_
      intro v6 w6 hr6 hq6 hb6
      have E6 : Hid (Below w2.heap.size w2 w6) := E5.out.trans hb6
      obtain ⟨A6, c6, rfl, -⟩ := len_of_own' hr6
      have hl6 : (q4 ++ [(x.r, x.ra, x.rn, x.rc)]).length = K.length + 1 := by rw [List.length_append, Q4L.out]; rfl
      have HR6 := Lib.hid hr6
      have HQ6 := Lib.hid hq6
      rw [hl6] at HR6
      rw [hl6]
      have HL6 := Lib.hid hl6
      clear hr6 hq6 hb6 hl6
      show KC (Act.put _ (some 27) (.slice A6 (K.length + 1) c6)) w6
      refine hK.out _ _ (E6.out) (fun hHeld => ?_)
      try simp only [Act.put]
      try simp only [List.setIfInBounds_toArray]
      try simp only [List.set_cons_succ]
      try simp only [List.set_cons_zero]
      clear hK KC
      refine takeR (i := 9) (v := ?v9_8) rfl (by kernel_rfl) (by kernel_rfl) (by kernel_rfl) (fun _ _ _ h => h) (by rfl) ?hy9_8 (by assumption) ?rest9_8
      case hy9_8 => (intro W hSw; go_simp; try with_reducible rfl)
      try simp only [Act.put]
      try simp only [List.setIfInBounds_toArray]
      try simp only [List.set_cons_succ]
      try simp only [List.set_cons_zero]
      refine wpAnyH_done (by kernel_rfl) ?_ _
      clear hHeld
      go_wp2_with fail
      go_meet
      case rel => exact ⟨A6, c6, q4, rfl, by rw [HL6.out]; exact HR6.out, HQ6.out, Q4.out, E6.out⟩
  case rest =>
    obtain ⟨A5, c5, qs, rfl, hc⟩ := hcut
    have HC := Lib.hid hc.out
    have B5 : Hid (Below w.heap.size w wc) := B2.out.trans (HC.out.2.2.2.mono B2.out.size)
    have D5 : Hid (Below wb.heap.size wb wc) := D2.out.trans (HC.out.2.2.2.mono D2.out.size)
    have BW5 : Hid (Below w0.heap.size w0 wc) := HB.out.trans (B5.out.mono HB.out.size)
    have KT : Hid (KpR wc N (.slice A5 (K.length + 1) c5) (K ++ [x.r])) := by
      have h := KpR.then_ (N := N) (lo := w0.heap.size) HC.out.1 HC.out.2.1 ⟨HX.out.2.1.1, HX.out.2.1.2.below BW5.out⟩ (by show x.rn ≤ _; have := HSM.out; omega) BW5.out.size (fun k hk => ⟨(HN2.out k hk).1, Nat.lt_of_lt_of_le (HN2.out k hk).2 B2.out.size⟩)
      rw [List.map_append, HC.out.2.2.1] at h
      exact h
    clear hc
    obtain ⟨sz, hsz⟩ : ∃ sz : Int, sz = (if rokR x.r = true then (x.rn : Int) + 7 else 0) := ⟨_, rfl⟩
    have CSZ := Lib.hid (fun V => rsize_any x.r.typ x.ra x.rn x.rc x.r.dat V HDL.out (by have := HSM.out; omega))
    rw [show (⟨x.r.typ, x.r.dat⟩ : Rcd) = x.r from rfl, ← hsz] at CSZ
    unfold recV at CSZ
    have HSZ := Lib.hid hsz
    clear hsz p0 p1 p2 p3 p4 p5 x0 x1 x2 x3 x4 x5
    obtain ⟨⟨p0, p1, p2, p3, p4, p5⟩, pf⟩ := play_at (ZR.out wc B5.out)
    have pf5 := pf 5
    clear pf
    obtain ⟨x0, x1, x2, x3, x4, x5⟩ := ZX.out wc D5.out
    go_upto_region 6 with (first
      | (go_at_call 18; refine (CSZ.out _).mono ?_; rintro e w6 ⟨rfl, hb6⟩; have E6 := Lib.hid hb6; clear hb6 p0 p1 p2 p3 p4 p5 pf5 x0 x1 x2 x3 x4 x5)
      | fail)
    have B6 : Hid (Below w.heap.size w w6) := B5.out.trans (E6.out.mono B5.out.size)
    have D6 : Hid (Below wb.heap.size wb w6) := D5.out.trans (E6.out.mono D5.out.size)
    have B6d : Hid (Below w.heap.size w w6.drew) := B6.out.trans ((Below.refl w6.heap.size w6).drew.mono B6.out.size)
    have D6d : Hid (Below wb.heap.size wb w6.drew) := D6.out.trans ((Below.refl w6.heap.size w6).drew.mono D6.out.size)
    have KTd : Hid (KpR w6.drew N (.slice A5 (K.length + 1) c5) (K ++ [x.r])) := KT.out.below (E6.out.trans ((Below.refl w6.heap.size w6).drew.mono E6.out.size))
    obtain ⟨⟨p0, p1, p2, p3, p4, p5⟩, pf⟩ := play_at (ZR.out w6 B6.out)
    have pf5 := pf 5
    clear pf
    obtain ⟨x0, x1, x2, x3, x4, x5⟩ := ZX.out w6 D6.out
    have g1 : w6.drew.cell? ⟨gp, 1, none⟩ = some (.pointer (some ⟨gw, 0, none⟩)) := p1
    have t1 : w6.drew.cell? ⟨w.heap.size, 1, none⟩ = some (.int .i64 x.r.typ) := x1
    have t2 : w6.drew.cell? ⟨w.heap.size, 2, none⟩ = some (.slice x.ra x.rn x.rc) := x2
    refine wp_region_still_tail 6 (by kernel_rfl) (by kernel_rfl) ?_
    simp only [List.take_succ_cons, List.take_zero, List.drop_succ_cons, List.drop_zero]
    repeat still_step
    refine wpStill_nil ?_
    change wpList _ _ _ _ _ w6.drew
    obtain ⟨wd, hwd⟩ : ∃ wd, wd = w6.drew := ⟨_, rfl⟩
    rw [← hwd] at B6d D6d KTd
    rw [← hwd]
    clear hwd g1 t1 t2 p0 p1 p2 p3 p4 p5 pf5 x0 x1 x2 x3 x4 x5
    have BWd : Hid (Below w0.heap.size w0 wd) := HB.out.trans (B6d.out.mono HB.out.size)
    have CAp := wAppendO_any X wd (B := w0.heap.size) (gd := gd) (g := gw) x.ra x.rn x.rc x.r (fun V hV => HA.out V (BWd.out.trans hV)) BWd.out.size (HD.out.below B6d.out) (HW.out.below B6d.out) HDI.out HI.out (by have := HN4.out; omega) HIN.out (fun V hV => by
      have hlo : ∀ p : Addr, p.block < w0.heap.size → V.cell? p = w0.cell? p := fun p hp => World.cell?_of_block ((hV.block p.block (Nat.lt_of_lt_of_le hp BWd.out.size) (fun hf => by
        rcases hf with hf | hf
        · have := (HD.out.fit _ hf).1; omega
        · have := (HW.out.fit _ hf).1; omega)).trans (BWd.out.block p.block hp))
      exact (HX.out.2.1.2.keep hlo).more BWd.out.size) HX.out.2.1.1 (by have := HSM.out; omega)
    rw [HRLI.out, HDL.out] at CAp
    have hfz : fitZ [x.r] (rl : Int) = 150 := by
      rw [fitZ_ok _ (fun q hq => by obtain rfl := List.mem_singleton.1 hq; exact HRKX.out)]
      have e : ((sumL [x.r] : Nat) : Int) = (x.rn : Int) + 7 := by
        have e2 : sumL [x.r] = x.rn + 7 := by simp [sumL, HDL.out]
        rw [e2]; rfl
      rw [e, if_pos HNF.out]
    rw [hfz] at CAp
    unfold recV at CAp
    have CAp := Lib.hid CAp
    clear hfz
    go_wp2_with fail
    refine CAp.out.mono ?_
    rintro e w7 h7
    have FWD : Hid (∀ k, Fd k ∨ Fw k → N k) := fun k h => HNS.out k (h.elim .inl fun h => .inr (.inl h))
    have hlt : (K ++ [x.r]).length ≤ 1000000 := by rw [List.length_append]; have := HFEW.out; show K.length + 1 ≤ _; omega
    have HLT := Lib.hid hlt
    clear hlt CAp CCP CSZ CM
    have hok : Hid (∀ r ∈ K ++ [x.r], rokR r = true) := fun r hr => by
      rcases List.mem_append.1 hr with hr | hr
      · exact HI.out.ok r hr
      · obtain rfl := List.mem_singleton.1 hr; exact HRKX.out
    rcases h7 with ⟨-, rfl, hb7⟩ | ⟨hz, -⟩
    case inr => exact absurd hz (by decide)
    have B7 : Hid (Below w.heap.size w w7) := B6d.out.trans (hb7.mono B6d.out.size)
    have D7 : Hid (Below wb.heap.size wb w7) := D6d.out.trans (hb7.mono D6d.out.size)
    have KT7 : Hid (KpR w7 N (.slice A5 (K.length + 1) c5) (K ++ [x.r])) := KTd.out.below hb7
    clear hb7
    have hsz2 : decide (sz ≤ (rl : Int)) = false := decide_eq_false (by rw [HSZ.out, HRKX.out, if_pos rfl]; have := HNF.out; omega)
    have CG := Lib.hid (chg_full x (gp := gp) (gd := gd) (gw := gw) (a := a) (n := n) (ZR.out w7 B7.out) KT7.out HLT.out hok.out)
    unfold opV at CG
    obtain ⟨⟨p0, p1, p2, p3, p4, p5⟩, pf⟩ := play_at (ZR.out w7 B7.out)
    have pf5 := pf 5
    clear pf
    obtain ⟨x0, x1, x2, x3, x4, x5⟩ := ZX.out w7 D7.out
    go_upto_region 8 with (first
      | (go_at_call 26; refine (CG.out).mono ?_; rintro e w8 ⟨rfl, hb8⟩; have B8 := Lib.hid (B7.out.trans (hb8.mono B7.out.size)); have D8 := Lib.hid (D7.out.trans (hb8.mono D7.out.size)); clear hb8 p0 p1 p2 p3 p4 p5 pf5 x0 x1 x2 x3 x4 x5)
      | fail)
    obtain ⟨⟨p0, p1, p2, p3, p4, p5⟩, pf⟩ := play_at (ZR.out w8 B8.out)
    have pf5 := pf 5
    clear pf
    obtain ⟨x0, x1, x2, x3, x4, x5⟩ := ZX.out w8 D8.out
    obtain ⟨Zz, hZz⟩ : ∃ Zz, Zz = Z := ⟨_, rfl⟩
    obtain ⟨lz, hlz⟩ : ∃ lz, lz = lf := ⟨_, rfl⟩
    obtain ⟨tz, htz⟩ : ∃ tz, tz = t := ⟨_, rfl⟩
    obtain ⟨nz, hnz⟩ : ∃ nz, nz = len := ⟨_, rfl⟩
    obtain ⟨Kz, hKz⟩ : ∃ Kz, Kz = K := ⟨_, rfl⟩
    obtain ⟨Nz, hNz⟩ : ∃ Nz, Nz = N := ⟨_, rfl⟩
    have HPL : Hid (Ply w0 w8 gp a n Zz lz tz nz Kz Nz) := by rw [hZz, hlz, htz, hnz, hKz, hNz]; exact HP.out.below B8.out
    have HF2 : OutZ a n Z Zz ∧ Fr N w w8 ∧ Grew w N Nz := by rw [hZz, hNz]; exact ⟨OutZ.refl HD.out.wide, Fr.of_below B8.out, Grew.refl _ _⟩
    clear hZz hlz htz hnz hKz hNz
    have HPZ := HPL
    have HFZ := Lib.hid (HF2)
    obtain ⟨gdz, gwz, Fdz, Fwz, vkz, qb, qd, qw, qdis, qrow, qgp, qnd, qnw, qk, qI, qin, qn4, qNs, qN2⟩ := HPZ.out
    have YR : Hid (∀ V, Below w8.heap.size w8 V → V.heap[gp]? = some (.cells (plyC gdz gwz a n vkz true) 31 (0, 0))) := fun V hV => (hV.block gp (Array.getElem?_eq_some_iff.1 qrow).1).trans qrow
    have CAL : Hid (∀ V, Below w8.heap.size w8 V → Calls Tryd.prog 29 #[.pointer (some ⟨gdz, 0, none⟩)] V fun e w' => e = .returned (.bool true) ∧ V = w') := fun V hV => calive_any V (qd.below hV)
    obtain ⟨Az, cz, rfl, -, hkz⟩ := qk
    have CRC : Hid (∀ V, Below w8.heap.size w8 V → Calls Tryd.prog 22 #[.pointer (some ⟨gwz, 0, none⟩)] V (RcsR Kz V)) := fun V hV => wRecords_any V (qw.below hV)
    have hkl := few_of qI qn4 qin qd.few
    have CSM := Lib.hid (fun V (hV : Below w8.heap.size w8 V) (A : Option Addr) (c : Nat) (hr : RwC V V.heap.size A Kz.length Kz) => rsameR_any A Az Kz.length c Kz.length cz V.heap.size Kz Kz V hr ((hkz V (Fr.of_below hV)).moreB hV.size) (Nat.le_refl _) (Nat.le_trans hkl (by decide)))
    unfold RcsR at CRC
    clear qb qd qw qdis qrow qgp qnd qnw qI qin qn4 qNs qN2 hkz hkl
    have KS : Hid (∀ V, Below w8.heap.size w8 V → V.cell? ⟨gp, 0, none⟩ = some (.pointer (some ⟨gdz, 0, none⟩)) ∧ V.cell? ⟨gp, 1, none⟩ = some (.pointer (some ⟨gwz, 0, none⟩)) ∧ V.cell? ⟨gp, 4, none⟩ = some (.slice Az Kz.length cz) ∧ V.cell? ⟨gp, 5, none⟩ = some (.bool true) ∧ V.frozen? ⟨gp, 5, none⟩ = false) := fun V hV => by
      obtain ⟨⟨y0, y1, y2, y3, y4, y5⟩, yf⟩ := play_at (YR.out V hV)
      exact ⟨y0, y1, y4, y5, yf 5⟩
    go_upto_region 20 with fail
    go_region_held3 (fun V => V.cell? ⟨gp, 0, none⟩ = some (.pointer (some ⟨gdz, 0, none⟩)) ∧ V.cell? ⟨gp, 1, none⟩ = some (.pointer (some ⟨gwz, 0, none⟩)) ∧ V.cell? ⟨gp, 4, none⟩ = some (.slice Az Kz.length cz) ∧ V.cell? ⟨gp, 5, none⟩ = some (.bool true) ∧ V.frozen? ⟨gp, 5, none⟩ = false)
      (first | (with_reducible exact KS.out _ (below_same E9.out (YR.out _ E9.out))) | (with_reducible exact KS.out _ E9.out) | (with_reducible exact KS.out _ E8.out) | (with_reducible exact KS.out _ (Below.refl _ _).drew) | fail)
      (first
        | (go_at_call 29; refine (CAL.out _ (Below.refl _ _).drew).mono ?_; rintro e wx ⟨rfl, rfl⟩)
        | (go_at_call 22; refine (CRC.out _ (Below.refl _ _).drew).mono ?_; rintro e u8 ⟨hb8, v8, q8, rfl, hs8, hq8⟩; have hl8 : q8.length = Kz.length := (by rw [← hq8, List.length_map]); obtain ⟨A8, c8, rfl, -, hr8⟩ := hs8.rw; rw [hl8, hq8] at hr8; rw [hl8]; have R8 := Lib.hid hr8; have E8 := Lib.hid ((Below.refl w8.heap.size w8).drew.trans hb8); clear hb8 hs8 hq8 hr8 hl8)
        | (go_at_call 24; refine (CSM.out _ E8.out A8 c8 R8.out).mono ?_; rintro e u9 ⟨r9, rfl, hr9, hb9⟩; obtain rfl : r9 = true := (by simpa using hr9); have E9 := Lib.hid (E8.out.trans (hb9.mono E8.out.size)); clear hr9 hb9)
        | fail)
    refine bodyPost_end (v := .tuple #[]) (by simp [results, Tryd.results10]) rfl ?_
    have hEZ := below_same E9.out (YR.out _ E9.out)
    exact ⟨rfl, Zz, lz, tz, nz, Kz, Nz, HPZ.out.below hEZ, HFZ.out.1, HFZ.out.2.1.trans (Fr.of_below hEZ) HFZ.out.2.2, HFZ.out.2.2⟩
end
end Go.Proofs.YtahgaogmcffglaaDoor
