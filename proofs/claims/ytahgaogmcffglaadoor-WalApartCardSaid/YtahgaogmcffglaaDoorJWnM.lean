/- Layer 15's law: do. (Made by gen/WnH.py, WnH01.py.) -/
import Derived.Test.YtahgaogmcffglaaDoorJWnI
namespace Go.Proofs.YtahgaogmcffglaaDoor
open Go.RowKit
section
variable {w0 w : World} {gp a n : Nat} {Z : List (List UInt8)} {lf : Int} {t len : Nat} {K : List Rcd} {N : Nat → Prop} (x : OpW)
set_option maxRecDepth 100000 in
set_option maxHeartbeats 16000000 in
theorem do_app_yes (X : Snt14) (hA : ∀ W, Below w0.heap.size w0 W → Lds14 X W) (hP : Ply w0 w gp a n Z lf t len K N) (hx : x.ok w0) (h0 : x.kind = 0) (hsm : x.r.dat.length ≤ 2000) (hrk : rokR x.r = true) (hnf : ¬ ((hlf n * 64 : Nat) : Int) - (len : Int) < (x.rn : Int) + 7) :
    Calls Tryd.prog 10 #[.pointer (some ⟨gp, 0, none⟩), opV x] w (DoR w0 w gp a n Z N) := by
  have HP := Lib.hid hP
  obtain ⟨gd, gw, Fd, Fw, vk, hb, hd, hw, hdis, hrow, hgp, hnd, hnw, hk, hI, hin, hn4, hNs, hN2⟩ := hP
  have hZ : Z.length ≤ 65536 := hd.few
  obtain ⟨wb, hwb⟩ : ∃ wb, wb = w.alloc (.cells (opC x) 38) := ⟨_, rfl⟩
  have BB : Hid (Below w.heap.size w wb) := by show Below _ _ _; rw [hwb]; exact (Below.refl _ _).alloc (Nat.le_refl _) _
  have HBX : Hid (wb.heap[w.heap.size]? = some (.cells (opC x) 38 (0, 0))) := by show _ = _; rw [hwb]; exact heap_alloc_new w _
  have HWB := Lib.hid hwb
  have CM := wRoom_any wb (hw.below BB.out) (fun _ => ⟨by show 1 ≤ n; omega, by show n ≤ 65536; omega, hI.fit⟩)
  have hroom : Ws.room ⟨a, n, t, len, K, false⟩ = ((hlf n * 64 : Nat) : Int) - (len : Int) := rfl
  rw [hroom] at CM
  have CM := Lib.hid CM
  have ZR : Hid (∀ V, Below w.heap.size w V → V.heap[gp]? = some (.cells (plyC gd gw a n vk true) 31 (0, 0))) := fun V hV => (hV.block gp (Array.getElem?_eq_some_iff.1 hrow).1).trans hrow
  have ZX := Lib.hid (fun V (hV : Below wb.heap.size wb V) => op_at ((hV.block _ (Array.getElem?_eq_some_iff.1 HBX.out).1).trans HBX.out))
  have HB := Lib.hid hb
  have HD := Lib.hid hd
  have HW := Lib.hid hw
  have HDI := Lib.hid hdis
  have HGP := Lib.hid (And.intro hgp (And.intro hnd hnw))
  have HK := Lib.hid hk
  have HI := Lib.hid hI
  have HIN := Lib.hid hin
  have HN4 := Lib.hid hn4
  have HNS := Lib.hid hNs
  have HN2 := Lib.hid hN2
  have HZ := Lib.hid hZ
  have HA := Lib.hid hA
  have HX := Lib.hid hx
  obtain ⟨⟨p0, p1, p2, p3, p4, p5⟩, -⟩ := play_at (ZR.out wb BB.out)
  clear hb hd hw hdis hrow hgp hnd hnw hk hI hin hn4 hNs hN2 hZ hwb hroom hA hx
  unfold opV
  unfold opC at HWB
  have e0 : (x.kind == 0) = true := by rw [h0]; rfl
  have HSM : Hid (x.rn ≤ 2000) := by show _ ≤ _; rw [← HX.out.2.1.2.1]; exact hsm
  have HDL : Hid (x.r.dat.length = x.rn) := HX.out.2.1.2.1
  clear h0 hsm
  obtain ⟨Ak, ck, rfl, hkc, hkr⟩ := HK.out
  have hfew := few_of HI.out HN4.out HIN.out HZ.out
  have HFEW := Lib.hid hfew
  have CCP := Lib.hid (fun V (hV : Below w.heap.size w V) => rcopy_any Ak K.length ck w.heap.size K V (hkr V (Fr.of_below hV)) hV.size (Nat.le_trans hfew (by decide)) (fun r hr => (rokR_iff.1 (HI.out.ok r hr)).2.2))
  unfold CpyR at CCP
  obtain ⟨rl, hrl⟩ : ∃ rl : Nat, ((hlf n * 64 : Nat) : Int) - (len : Int) = (rl : Int) := ⟨hlf n * 64 - len, by have := HI.out.fit; omega⟩
  have HRLI := Lib.hid hrl
  rw [hrl] at CM hnf
  have HRKX := Lib.hid hrk
  have HNF := Lib.hid hnf
  clear hkr hkc hfew hrl hrk hnf
  go_enter Tryd.func10, Tryd.ntmps10
  go_upto_region 1 with fail
  rw [← HWB.out]
  go_upto_region 2 with (first
    | (go_at_call 16; refine CM.out.mono ?_; rintro e w2 ⟨rfl, hb2⟩; have D2 := Lib.hid hb2; have B2 := Lib.hid (BB.out.trans (hb2.mono BB.out.size)); clear hb2)
    | fail)
  obtain ⟨x0, x1, x2, x3, x4, x5⟩ := ZX.out w2 D2.out
  clear p0 p1 p2 p3 p4 p5
  obtain ⟨⟨p0, p1, p2, p3, p4, p5⟩, -⟩ := play_at (ZR.out w2 B2.out)
  go_upto_region 4 with fail
  go_cut [5] from 19 to 27 (fun v5 wx => ∃ (A5 : Option Addr) (c5 : Nat) (qs : List QR), v5 = .slice A5 (K.length + 1) c5 ∧ Hid (wx.ownsRow w2.heap.size 35 2 (.slice A5 (K.length + 1) c5) (qs ++ [(x.r, x.ra, x.rn, x.rc)]).length (flatQ (qs ++ [(x.r, x.ra, x.rn, x.rc)])) ∧ (∀ y ∈ qs, Ob wx w2.heap.size 5 (.slice y.2.1 y.2.2.1 y.2.2.2) y.1.dat ∧ y.1.dat.length ≤ 8192) ∧ qs.map (·.1) = K ∧ Below w2.heap.size w2 wx))
  case first =>
    go_wp2_with fail
    refine wp_region_held_drew (S := fun V => Below w2.heap.size w2 V) (by kernel_rfl) (Below.refl _ _).drew (fun hHeld => ?_)
    refine takeR (i := 0) (v := ?v0_1) rfl (by kernel_rfl) (by kernel_rfl) (by kernel_rfl) (fun _ _ _ h => h) (by rfl) ?hy0_1 (by assumption) ?rest0_1
    case hy0_1 => (intro W hSw; obtain ⟨⟨g0, g1, g2, g3, g4, g5⟩, -⟩ := play_at (ZR.out W (B2.out.trans (hSw.mono B2.out.size))); obtain ⟨t0, t1, t2, t3, t4, t5⟩ := ZX.out W (D2.out.trans (hSw.mono D2.out.size)); go_simp; try with_reducible rfl)
    try simp only [Act.put]
    try simp only [List.setIfInBounds_toArray]
    try simp only [List.set_cons_succ]
    try simp only [List.set_cons_zero]
    refine takeR (i := 1) (v := ?v1_2) rfl (by kernel_rfl) (by kernel_rfl) (by kernel_rfl) (fun _ _ _ h => h) (by rfl) ?hy1_2 (by assumption) ?rest1_2
    case hy1_2 => (intro W hSw; obtain ⟨⟨g0, g1, g2, g3, g4, g5⟩, -⟩ := play_at (ZR.out W (B2.out.trans (hSw.mono B2.out.size))); obtain ⟨t0, t1, t2, t3, t4, t5⟩ := ZX.out W (D2.out.trans (hSw.mono D2.out.size)); go_simp; try with_reducible rfl)
    try simp only [Act.put]
    try simp only [List.setIfInBounds_toArray]
    try simp only [List.set_cons_succ]
    try simp only [List.set_cons_zero]
    refine takeR (i := 2) (v := ?v2_3) rfl (by kernel_rfl) (by kernel_rfl) (by kernel_rfl) (fun _ _ _ h => h) (by rfl) ?hy2_3 (by assumption) ?rest2_3
    case hy2_3 => (intro W hSw; obtain ⟨⟨g0, g1, g2, g3, g4, g5⟩, -⟩ := play_at (ZR.out W (B2.out.trans (hSw.mono B2.out.size))); obtain ⟨t0, t1, t2, t3, t4, t5⟩ := ZX.out W (D2.out.trans (hSw.mono D2.out.size)); go_simp; try with_reducible rfl)
    try simp only [Act.put]
    try simp only [List.setIfInBounds_toArray]
    try simp only [List.set_cons_succ]
    try simp only [List.set_cons_zero]
    refine takeR (i := 3) (v := ?v3_4) rfl (by kernel_rfl) (by kernel_rfl) (by kernel_rfl) (fun _ _ _ h => h) (by rfl) ?hy3_4 (by assumption) ?rest3_4
    case hy3_4 => (intro W hSw; obtain ⟨⟨g0, g1, g2, g3, g4, g5⟩, -⟩ := play_at (ZR.out W (B2.out.trans (hSw.mono B2.out.size))); obtain ⟨t0, t1, t2, t3, t4, t5⟩ := ZX.out W (D2.out.trans (hSw.mono D2.out.size)); go_simp; try with_reducible rfl)
    try simp only [Act.put]
    try simp only [List.setIfInBounds_toArray]
    try simp only [List.set_cons_succ]
    try simp only [List.set_cons_zero]
    refine takeR (i := 5) (v := ?v5_5) rfl (by kernel_rfl) (by kernel_rfl) (by kernel_rfl) (fun _ _ _ h => h) (by rfl) ?hy5_5 (by assumption) ?rest5_5
    case hy5_5 => (intro W hSw; obtain ⟨⟨g0, g1, g2, g3, g4, g5⟩, -⟩ := play_at (ZR.out W (B2.out.trans (hSw.mono B2.out.size))); obtain ⟨t0, t1, t2, t3, t4, t5⟩ := ZX.out W (D2.out.trans (hSw.mono D2.out.size)); go_simp; try with_reducible rfl)
    try simp only [Act.put]
    try simp only [List.setIfInBounds_toArray]
    try simp only [List.set_cons_succ]
    try simp only [List.set_cons_zero]
    refine takeR (i := 6) (v := ?v6_6) rfl (by kernel_rfl) (by kernel_rfl) (by kernel_rfl) (fun _ _ _ h => h) (by rfl) ?hy6_6 (by assumption) ?rest6_6
    case hy6_6 => (intro W hSw; obtain ⟨⟨g0, g1, g2, g3, g4, g5⟩, -⟩ := play_at (ZR.out W (B2.out.trans (hSw.mono B2.out.size))); obtain ⟨t0, t1, t2, t3, t4, t5⟩ := ZX.out W (D2.out.trans (hSw.mono D2.out.size)); go_simp; try with_reducible rfl)
    try simp only [Act.put]
    try simp only [List.setIfInBounds_toArray]
    try simp only [List.set_cons_succ]
    try simp only [List.set_cons_zero]
    have E2 : Hid (Below w2.heap.size w2 w2.drew) := (Below.refl _ _).drew
    obtain ⟨w3, hw3⟩ : ∃ w3, w3 = w2.drew := ⟨_, rfl⟩
    rw [← hw3] at E2
    rw [← hw3]
    clear hw3
    clear hHeld p0 p1 p2 p3 p4 p5 x0 x1 x2 x3 x4 x5
    refine wpAnyH_ready (rs := [4, 7]) (by kernel_rfl) (by simp) ?_
    refine AllReadyH.cons rfl (fun KC hK => ?_) ?_
    · skip
      rw [if_pos (by rfl)]
      go_simp
      refine (CCP.out _ (B2.out.trans (E2.out.mono B2.out.size))).mono ?_
      rintro e w4 ⟨hb4, v4, q4, rfl, hs4, hq4⟩
      have S4 : Hid (ScS w4 w2.heap.size v4 q4) := hs4.wide E2.out.size
      have Q4 := Lib.hid hq4
      have Q4L : Hid (q4.length = K.length) := by show _ = _; rw [← hq4, List.length_map]
      have E4 := Lib.hid (E2.out.trans (hb4.mono E2.out.size))
      clear hb4 hs4 hq4
      go_simp
      refine hK.out _ _ (E4.out) (fun hHeld => ?_)
      try simp only [Act.put]
      try simp only [List.setIfInBounds_toArray]
      try simp only [List.set_cons_succ]
      try simp only [List.set_cons_zero]
      clear hK KC
      clear hHeld
      refine wpAnyH_ready (rs := [7]) (by kernel_rfl) (by simp) ?_
      refine AllReadyH.cons rfl (fun KC hK => ?_) AllReadyH.nil
      rw [if_pos (by rfl)]
      go_simp
      obtain ⟨w5, hw5⟩ : ∃ w5, w5 = w4.alloc (.cells #[.int .i64 x.r.typ, .slice x.ra x.rn x.rc] 35) := ⟨_, rfl⟩
      have hb5 : Below w4.heap.size w4 w5 := by rw [hw5]; exact (Below.refl _ _).alloc (Nat.le_refl _) _
      have hr5 : w5.heap[w4.heap.size]? = some (.cells #[.int .i64 x.r.typ, .slice x.ra x.rn x.rc] 35 (0, 0)) := by rw [hw5]; exact heap_alloc_new w4 _
      have Y0 := Lib.hid (row2 hr5).1.1
      have Y1 := Lib.hid (row2 hr5).1.2
      have S5 := Lib.hid (S4.out.below hb5)
      have E5 := Lib.hid (E4.out.trans (hb5.mono E4.out.size))
      rw [← hw5]
      clear hw5 hb5 hr5
      refine hK.out _ _ (E5.out) (fun hHeld => ?_)
      try simp only [Act.put]
      try simp only [List.setIfInBounds_toArray]
      try simp only [List.set_cons_succ]
      try simp only [List.set_cons_zero]
      clear hK KC
      clear hHeld
      refine wpAnyH_ready (rs := [8]) (by kernel_rfl) (by simp) ?_
      refine AllReadyH.cons rfl (fun KC hK => ?_) AllReadyH.nil
      refine step_appRH (by rfl) (.tmp 23) (.tmp 26) (by rfl) w2.heap.size v4 q4 (by rfl) S5.out w4.heap.size 1 (x.r, x.ra, x.rn, x.rc) (by rfl) Y0.out Y1.out (by rw [Q4L.out]; have := HFEW.out; omega) E5.out.size ?_
      intro v6 w6 hr6 hq6 hb6
      have E6 : Hid (Below w2.heap.size w2 w6) := E5.out.trans hb6
      obtain ⟨A6, c6, rfl, -⟩ := len_of_own' hr6
      have hl6 : (q4 ++ [(x.r, x.ra, x.rn, x.rc)]).length = K.length + 1 := by rw [List.length_append, Q4L.out]; rfl
      have HR6 := Lib.hid hr6
      have HQ6 := Lib.hid hq6
      rw [hl6] at HR6
      rw [hl6]
      have HL6 := Lib.hid hl6
      clear hr6 hq6 hb6 hl6
      show KC (Act.put _ (some 27) (.slice A6 (K.length + 1) c6)) w6
      refine hK.out _ _ (E6.out) (fun hHeld => ?_)
      try simp only [Act.put]
      try simp only [List.setIfInBounds_toArray]
      try simp only [List.set_cons_succ]
      try simp only [List.set_cons_zero]
      clear hK KC
      refine takeR (i := 9) (v := ?v9_7) rfl (by kernel_rfl) (by kernel_rfl) (by kernel_rfl) (fun _ _ _ h => h) (by rfl) ?hy9_7 (by assumption) ?rest9_7
      case hy9_7 => (intro W hSw; go_simp; try with_reducible rfl)
      try simp only [Act.put]
      try simp only [List.setIfInBounds_toArray]
      try simp only [List.set_cons_succ]
      try simp only [List.set_cons_zero]
      refine wpAnyH_done (by kernel_rfl) ?_ _
      clear hHeld
      go_wp2_with fail
      go_meet
      case rel => exact ⟨A6, c6, q4, rfl, by rw [HL6.out]; exact HR6.out, HQ6.out, Q4.out, E6.out⟩
    · refine AllReadyH.cons rfl (fun KC hK => ?_) AllReadyH.nil
      rw [if_pos (by rfl)]
      go_simp
      obtain ⟨w4, hw4⟩ : ∃ w4, w4 = w3.alloc (.cells #[.int .i64 x.r.typ, .slice x.ra x.rn x.rc] 35) := ⟨_, rfl⟩
      have hr4 : w4.heap[w3.heap.size]? = some (.cells #[.int .i64 x.r.typ, .slice x.ra x.rn x.rc] 35 (0, 0)) := by rw [hw4]; exact heap_alloc_new w3 _
      have E4 : Hid (Below w2.heap.size w2 w4) := by show Below _ _ _; rw [hw4]; exact E2.out.alloc E2.out.size _
      have HR4 := Lib.hid hr4
      rw [← hw4]
      clear hw4 hr4
      refine hK.out _ _ (E4.out) (fun hHeld => ?_)
      try simp only [Act.put]
      try simp only [List.setIfInBounds_toArray]
      try simp only [List.set_cons_succ]
      try simp only [List.set_cons_zero]
      clear hK KC
      clear hHeld
      refine wpAnyH_ready (rs := [4]) (by kernel_rfl) (by simp) ?_
      refine AllReadyH.cons rfl (fun KC hK => ?_) AllReadyH.nil
      rw [if_pos (by rfl)]
      go_simp
      refine (CCP.out _ (B2.out.trans (E4.out.mono B2.out.size))).mono ?_
      rintro e w5 ⟨hb5, v4, q4, rfl, hs4, hq4⟩
      have S5 := Lib.hid (hs4.wide E4.out.size)
      have Q4 := Lib.hid hq4
      have Q4L : Hid (q4.length = K.length) := by show _ = _; rw [← hq4, List.length_map]
      have hr5 := (hb5.block _ (Array.getElem?_eq_some_iff.1 HR4.out).1).trans HR4.out
      have Y0 := Lib.hid (row2 hr5).1.1
      have Y1 := Lib.hid (row2 hr5).1.2
      have E5 := Lib.hid (E4.out.trans (hb5.mono E4.out.size))
      clear hb5 hs4 hq4 hr5
      go_simp
      refine hK.out _ _ (E5.out) (fun hHeld => ?_)
      try simp only [Act.put]
      try simp only [List.setIfInBounds_toArray]
      try simp only [List.set_cons_succ]
      try simp only [List.set_cons_zero]
      clear hK KC
      clear hHeld
      refine wpAnyH_ready (rs := [8]) (by kernel_rfl) (by simp) ?_
      refine AllReadyH.cons rfl (fun KC hK => ?_) AllReadyH.nil
      refine step_appRH (by rfl) (.tmp 23) (.tmp 26) (by rfl) w2.heap.size v4 q4 (by rfl) S5.out w3.heap.size 1 (x.r, x.ra, x.rn, x.rc) (by rfl) Y0.out Y1.out (by rw [Q4L.out]; have := HFEW.out; omega) E5.out.size ?_
      intro v6 w6 hr6 hq6 hb6
      have E6 : Hid (Below w2.heap.size w2 w6) := E5.out.trans hb6
      obtain ⟨A6, c6, rfl, -⟩ := len_of_own' hr6
      have hl6 : (q4 ++ [(x.r, x.ra, x.rn, x.rc)]).length = K.length + 1 := by rw [List.length_append, Q4L.out]; rfl
      have HR6 := Lib.hid hr6
      have HQ6 := Lib.hid hq6
      rw [hl6] at HR6
      rw [hl6]
      have HL6 := Lib.hid hl6
      clear hr6 hq6 hb6 hl6
      show KC (Act.put _ (some 27) (.slice A6 (K.length + 1) c6)) w6
      refine hK.out _ _ (E6.out) (fun hHeld => ?_)
      try simp only [Act.put]
      try simp only [List.setIfInBounds_toArray]
      try simp only [List.set_cons_succ]
      try simp only [List.set_cons_zero]
      clear hK KC
      refine takeR (i := 9) (v := ?v9_8) rfl (by kernel_rfl) (by kernel_rfl) (by kernel_rfl) (fun _ _ _ h => h) (by rfl) ?hy9_8 (by assumption) ?rest9_8
      case hy9_8 => (intro W hSw; go_simp; try with_reducible rfl)
      try simp only [Act.put]
      try simp only [List.setIfInBounds_toArray]
      try simp only [List.set_cons_succ]
      try simp only [List.set_cons_zero]
      refine wpAnyH_done (by kernel_rfl) ?_ _
      clear hHeld
      go_wp2_with fail
      go_meet
      case rel => exact ⟨A6, c6, q4, rfl, by rw [HL6.out]; exact HR6.out, HQ6.out, Q4.out, E6.out⟩
  case rest =>
    obtain ⟨A5, c5, qs, rfl, hc⟩ := hcut
    have HC := Lib.hid hc.out
    have B5 : Hid (Below w.heap.size w wc) := B2.out.trans (HC.out.2.2.2.mono B2.out.size)
    have D5 : Hid (Below wb.heap.size wb wc) := D2.out.trans (HC.out.2.2.2.mono D2.out.size)
    have BW5 : Hid (Below w0.heap.size w0 wc) := HB.out.trans (B5.out.mono HB.out.size)
    have KT : Hid (KpR wc N (.slice A5 (K.length + 1) c5) (K ++ [x.r])) := by
      have h := KpR.then_ (N := N) (lo := w0.heap.size) HC.out.1 HC.out.2.1 ⟨HX.out.2.1.1, HX.out.2.1.2.below BW5.out⟩ (by show x.rn ≤ _; have := HSM.out; omega) BW5.out.size (fun k hk => ⟨(HN2.out k hk).1, Nat.lt_of_lt_of_le (HN2.out k hk).2 B2.out.size⟩)
      rw [List.map_append, HC.out.2.2.1] at h
      exact h
    clear hc
    obtain ⟨sz, hsz⟩ : ∃ sz : Int, sz = (if rokR x.r = true then (x.rn : Int) + 7 else 0) := ⟨_, rfl⟩
    have CSZ := Lib.hid (fun V => rsize_any x.r.typ x.ra x.rn x.rc x.r.dat V HDL.out (by have := HSM.out; omega))
    rw [show (⟨x.r.typ, x.r.dat⟩ : Rcd) = x.r from rfl, ← hsz] at CSZ
    unfold recV at CSZ
    have HSZ := Lib.hid hsz
    clear hsz p0 p1 p2 p3 p4 p5 x0 x1 x2 x3 x4 x5
    obtain ⟨⟨p0, p1, p2, p3, p4, p5⟩, pf⟩ := play_at (ZR.out wc B5.out)
    have pf5 := pf 5
    clear pf
    obtain ⟨x0, x1, x2, x3, x4, x5⟩ := ZX.out wc D5.out
    go_upto_region 6 with (first
      | (go_at_call 18; refine (CSZ.out _).mono ?_; rintro e w6 ⟨rfl, hb6⟩; have E6 := Lib.hid hb6; clear hb6 p0 p1 p2 p3 p4 p5 pf5 x0 x1 x2 x3 x4 x5)
      | fail)
    have B6 : Hid (Below w.heap.size w w6) := B5.out.trans (E6.out.mono B5.out.size)
    have D6 : Hid (Below wb.heap.size wb w6) := D5.out.trans (E6.out.mono D5.out.size)
    have B6d : Hid (Below w.heap.size w w6.drew) := B6.out.trans ((Below.refl w6.heap.size w6).drew.mono B6.out.size)
    have D6d : Hid (Below wb.heap.size wb w6.drew) := D6.out.trans ((Below.refl w6.heap.size w6).drew.mono D6.out.size)
    have KTd : Hid (KpR w6.drew N (.slice A5 (K.length + 1) c5) (K ++ [x.r])) := KT.out.below (E6.out.trans ((Below.refl w6.heap.size w6).drew.mono E6.out.size))
    obtain ⟨⟨p0, p1, p2, p3, p4, p5⟩, pf⟩ := play_at (ZR.out w6 B6.out)
    have pf5 := pf 5
    clear pf
    obtain ⟨x0, x1, x2, x3, x4, x5⟩ := ZX.out w6 D6.out
    have g1 : w6.drew.cell? ⟨gp, 1, none⟩ = some (.pointer (some ⟨gw, 0, none⟩)) := p1
    have t1 : w6.drew.cell? ⟨w.heap.size, 1, none⟩ = some (.int .i64 x.r.typ) := x1
    have t2 : w6.drew.cell? ⟨w.heap.size, 2, none⟩ = some (.slice x.ra x.rn x.rc) := x2
    refine wp_region_still_tail 6 (by kernel_rfl) (by kernel_rfl) ?_
    simp only [List.take_succ_cons, List.take_zero, List.drop_succ_cons, List.drop_zero]
    repeat still_step
    refine wpStill_nil ?_
    change wpList _ _ _ _ _ w6.drew
    obtain ⟨wd, hwd⟩ : ∃ wd, wd = w6.drew := ⟨_, rfl⟩
    rw [← hwd] at B6d D6d KTd
    rw [← hwd]
    clear hwd g1 t1 t2 p0 p1 p2 p3 p4 p5 pf5 x0 x1 x2 x3 x4 x5
    have BWd : Hid (Below w0.heap.size w0 wd) := HB.out.trans (B6d.out.mono HB.out.size)
    have CAp := wAppendO_any X wd (B := w0.heap.size) (gd := gd) (g := gw) x.ra x.rn x.rc x.r (fun V hV => HA.out V (BWd.out.trans hV)) BWd.out.size (HD.out.below B6d.out) (HW.out.below B6d.out) HDI.out HI.out (by have := HN4.out; omega) HIN.out (fun V hV => by
      have hlo : ∀ p : Addr, p.block < w0.heap.size → V.cell? p = w0.cell? p := fun p hp => World.cell?_of_block ((hV.block p.block (Nat.lt_of_lt_of_le hp BWd.out.size) (fun hf => by
        rcases hf with hf | hf
        · have := (HD.out.fit _ hf).1; omega
        · have := (HW.out.fit _ hf).1; omega)).trans (BWd.out.block p.block hp))
      exact (HX.out.2.1.2.keep hlo).more BWd.out.size) HX.out.2.1.1 (by have := HSM.out; omega)
    rw [HRLI.out, HDL.out] at CAp
    have hfz : fitZ [x.r] (rl : Int) = 0 := by
      rw [fitZ_ok _ (fun q hq => by obtain rfl := List.mem_singleton.1 hq; exact HRKX.out)]
      have e : ((sumL [x.r] : Nat) : Int) = (x.rn : Int) + 7 := by
        have e2 : sumL [x.r] = x.rn + 7 := by simp [sumL, HDL.out]
        rw [e2]; rfl
      rw [e, if_neg (by have := HNF.out; omega)]
    rw [hfz] at CAp
    unfold recV at CAp
    have CAp := Lib.hid CAp
    clear hfz
    go_wp2_with fail
    refine CAp.out.mono ?_
    rintro e w7 h7
    have FWD : Hid (∀ k, Fd k ∨ Fw k → N k) := fun k h => HNS.out k (h.elim .inl fun h => .inr (.inl h))
    have hlt : (K ++ [x.r]).length ≤ 1000000 := by rw [List.length_append]; have := HFEW.out; show K.length + 1 ≤ _; omega
    have HLT := Lib.hid hlt
    clear hlt CAp CCP CSZ CM
    have hok : Hid (∀ r ∈ K ++ [x.r], rokR r = true) := fun r hr => by
      rcases List.mem_append.1 hr with hr | hr
      · exact HI.out.ok r hr
      · obtain rfl := List.mem_singleton.1 hr; exact HRKX.out
    rcases h7 with ⟨hz, -⟩ | ⟨-, Fd7, Fw7, hdis7, hfr7, hgr7, h7⟩
    · exact absurd rfl hz
    have RW7 : Hid (w7.heap[gp]? = some (.cells (plyC gd gw a n (.slice Ak K.length ck) true) 31 (0, 0))) := (hfr7.block gp (Array.getElem?_eq_some_iff.1 (ZR.out wd B6d.out)).1 (fun h => h.elim HGP.out.2.1 HGP.out.2.2)).trans (ZR.out wd B6d.out)
    have HBX7 : Hid (w7.heap[w.heap.size]? = some (.cells (opC x) 38 (0, 0))) := by
      have h1 := (D6d.out.block _ (Array.getElem?_eq_some_iff.1 HBX.out).1).trans HBX.out
      exact (hfr7.block _ (Array.getElem?_eq_some_iff.1 h1).1 (fun h => by have := (HN2.out _ (FWD.out _ h)).2; omega)).trans h1
    have FN7 : Hid (Fr N wd w7) := hfr7.wide FWD.out
    have FW7 : Hid (Fr N w w7) := (Fr.of_below B6d.out : Fr N w wd).trans FN7.out (Grew.refl _ _)
    have BW7 : Hid (Below w0.heap.size w0 w7) := BWd.out.trans (FN7.out.below BWd.out.size (fun k hk => (HN2.out k hk).1))
    have HDI7 := Lib.hid hdis7
    have HG7 := Lib.hid hgr7
    have hgpd : gp < wd.heap.size := (Array.getElem?_eq_some_iff.1 (ZR.out wd B6d.out)).1
    have HNP7 : Hid (¬ Fd7 gp ∧ ¬ Fw7 gp) := ⟨fun h => by
      rcases hgr7 gp (.inl h) with h | h
      · exact h.elim HGP.out.2.1 HGP.out.2.2
      · omega, fun h => by
      rcases hgr7 gp (.inr h) with h | h
      · exact h.elim HGP.out.2.1 HGP.out.2.2
      · omega⟩
    have HGPD := Lib.hid hgpd
    clear hdis7 hfr7 hgr7 hgpd
    rcases h7 with h7 | ⟨-, h7⟩
    case inr =>
      obtain ⟨S7, ws7, l7, rfl, hd7, hw7, hws7, hT7⟩ := h7
      have HD7 := Lib.hid hd7
      have HW7 := Lib.hid hw7
      have HWS7 := Lib.hid hws7
      have HT7 := Lib.hid hT7
      have hN7 : ∀ k, (N k ∨ Fd7 k ∨ Fw7 k) → w0.heap.size ≤ k ∧ k < w7.heap.size := fun k hk => by
        rcases hk with hk | hk | hk
        · exact ⟨(HN2.out k hk).1, Nat.lt_of_lt_of_le (HN2.out k hk).2 FW7.out.size⟩
        · exact hd7.fit k hk
        · exact hw7.fit k hk
      have hG7 : Grew wd N (fun k => N k ∨ Fd7 k ∨ Fw7 k) := fun k hk => by
        rcases hk with hk | hk
        · exact .inl hk
        · rcases HG7.out k hk with h | h
          · exact .inl (FWD.out k h)
          · exact .inr h
      have hl7 : a + n ≤ S7.length := by
        have := (hT7 x.keep).2.len
        rw [tornW_len] at this
        rw [this]
        exact HIN.out
      have HKK : Hid (KpR w7 (fun k => N k ∨ Fd7 k ∨ Fw7 k) (.slice Ak K.length ck) K) := (HK.out.below B6d.out).go FN7.out hG7
      have HKT : Hid (KpR w7 (fun k => N k ∨ Fd7 k ∨ Fw7 k) (.slice A5 (K.length + 1) c5) (K ++ [x.r])) := KTd.out.go FN7.out hG7
      have HGW : Hid (Grew w N (fun k => N k ∨ Fd7 k ∨ Fw7 k)) := (Grew.refl w N).trans hG7 B6d.out.size
      have CG := Lib.hid (fun fb => chg_dead x (gp := gp) (gd := gd) (gw := gw) (a := a) (n := n) (N := fun k => N k ∨ Fd7 k ∨ Fw7 k) X w0 fb (D := ⟨S7, ws7, false, l7⟩) HA.out BW7.out HD7.out HWS7.out HW7.out rfl RW7.out HNP7.out.1 (fun k h => h.elim (fun h => .inr (.inl h)) (fun h => .inl (HNS.out k (.inr (.inr h))))) hN7 HKK.out HKT.out HLT.out hok.out HX.out.2.2.2.2 (HT7.out x.keep).1 hl7 HN4.out)
      unfold opV AgnR at CG
      clear hd7 hw7 hws7 hT7 hN7 hG7 hl7
      obtain ⟨⟨p0, p1, p2, p3, p4, p5⟩, pf⟩ := play_at RW7.out
      have pf5 := pf 5
      clear pf
      obtain ⟨x0, x1, x2, x3, x4, x5⟩ := op_at HBX7.out
      go_upto_region 8 with (first
        | (go_at_call 26; refine (CG.out _).mono ?_; rintro e w8 ⟨rfl, tz, nz, Kz, Nz, hP8, hF8, hG8⟩; have HP8 := Lib.hid hP8; have HF8 := Lib.hid (And.intro hF8 hG8); clear hP8 hF8 hG8 p0 p1 p2 p3 p4 p5 pf5 x0 x1 x2 x3 x4 x5; obtain ⟨gd8, gw8, Fd8, Fw8, vk8, -, -, -, -, hrow8, -⟩ := HP8.out; obtain ⟨⟨p0, p1, p2, p3, p4, p5⟩, -⟩ := play_at hrow8)
        | fail)
      clear hrow8
      obtain ⟨Zz, hZz⟩ : ∃ Zz, Zz = tornW S7 ws7 x.keep := ⟨_, rfl⟩
      obtain ⟨lz, hlz⟩ : ∃ lz : Int, lz = -1 := ⟨_, rfl⟩
      have HPL : Hid (Ply w0 w8 gp a n Zz lz tz nz Kz Nz) := by rw [hZz, hlz]; exact HP8.out
      have HF2 : OutZ a n Z Zz ∧ Fr N w w8 ∧ Grew w N Nz := by rw [hZz]; exact ⟨(HT7.out x.keep).2, FW7.out.trans HF8.out.1 HGW.out, HGW.out.trans HF8.out.2 FW7.out.size⟩
      clear hZz hlz
      have HPZ := HPL
      have HFZ := Lib.hid (HF2)
      obtain ⟨gdz, gwz, Fdz, Fwz, vkz, qb, qd, qw, qdis, qrow, qgp, qnd, qnw, qk, qI, qin, qn4, qNs, qN2⟩ := HPZ.out
      have YR : Hid (∀ V, Below w8.heap.size w8 V → V.heap[gp]? = some (.cells (plyC gdz gwz a n vkz true) 31 (0, 0))) := fun V hV => (hV.block gp (Array.getElem?_eq_some_iff.1 qrow).1).trans qrow
      have CAL : Hid (∀ V, Below w8.heap.size w8 V → Calls Tryd.prog 29 #[.pointer (some ⟨gdz, 0, none⟩)] V fun e w' => e = .returned (.bool true) ∧ V = w') := fun V hV => calive_any V (qd.below hV)
      obtain ⟨Az, cz, rfl, -, hkz⟩ := qk
      have CRC : Hid (∀ V, Below w8.heap.size w8 V → Calls Tryd.prog 22 #[.pointer (some ⟨gwz, 0, none⟩)] V (RcsR Kz V)) := fun V hV => wRecords_any V (qw.below hV)
      have hkl := few_of qI qn4 qin qd.few
      have CSM := Lib.hid (fun V (hV : Below w8.heap.size w8 V) (A : Option Addr) (c : Nat) (hr : RwC V V.heap.size A Kz.length Kz) => rsameR_any A Az Kz.length c Kz.length cz V.heap.size Kz Kz V hr ((hkz V (Fr.of_below hV)).moreB hV.size) (Nat.le_refl _) (Nat.le_trans hkl (by decide)))
      unfold RcsR at CRC
      clear qb qd qw qdis qrow qgp qnd qnw qI qin qn4 qNs qN2 hkz hkl
      have KS : Hid (∀ V, Below w8.heap.size w8 V → V.cell? ⟨gp, 0, none⟩ = some (.pointer (some ⟨gdz, 0, none⟩)) ∧ V.cell? ⟨gp, 1, none⟩ = some (.pointer (some ⟨gwz, 0, none⟩)) ∧ V.cell? ⟨gp, 4, none⟩ = some (.slice Az Kz.length cz) ∧ V.cell? ⟨gp, 5, none⟩ = some (.bool true) ∧ V.frozen? ⟨gp, 5, none⟩ = false) := fun V hV => by
        obtain ⟨⟨y0, y1, y2, y3, y4, y5⟩, yf⟩ := play_at (YR.out V hV)
        exact ⟨y0, y1, y4, y5, yf 5⟩
      go_upto_region 20 with fail
      go_region_held3 (fun V => V.cell? ⟨gp, 0, none⟩ = some (.pointer (some ⟨gdz, 0, none⟩)) ∧ V.cell? ⟨gp, 1, none⟩ = some (.pointer (some ⟨gwz, 0, none⟩)) ∧ V.cell? ⟨gp, 4, none⟩ = some (.slice Az Kz.length cz) ∧ V.cell? ⟨gp, 5, none⟩ = some (.bool true) ∧ V.frozen? ⟨gp, 5, none⟩ = false)
        (first | (with_reducible exact KS.out _ (below_same E9.out (YR.out _ E9.out))) | (with_reducible exact KS.out _ E9.out) | (with_reducible exact KS.out _ E8.out) | (with_reducible exact KS.out _ (Below.refl _ _).drew) | fail)
        (first
          | (go_at_call 29; refine (CAL.out _ (Below.refl _ _).drew).mono ?_; rintro e wx ⟨rfl, rfl⟩)
          | (go_at_call 22; refine (CRC.out _ (Below.refl _ _).drew).mono ?_; rintro e u8 ⟨hb8, v8, q8, rfl, hs8, hq8⟩; have hl8 : q8.length = Kz.length := (by rw [← hq8, List.length_map]); obtain ⟨A8, c8, rfl, -, hr8⟩ := hs8.rw; rw [hl8, hq8] at hr8; rw [hl8]; have R8 := Lib.hid hr8; have E8 := Lib.hid ((Below.refl w8.heap.size w8).drew.trans hb8); clear hb8 hs8 hq8 hr8 hl8)
          | (go_at_call 24; refine (CSM.out _ E8.out A8 c8 R8.out).mono ?_; rintro e u9 ⟨r9, rfl, hr9, hb9⟩; obtain rfl : r9 = true := (by simpa using hr9); have E9 := Lib.hid (E8.out.trans (hb9.mono E8.out.size)); clear hr9 hb9)
          | fail)
      refine bodyPost_end (v := .tuple #[]) (by simp [results, Tryd.results10]) rfl ?_
      have hEZ := below_same E9.out (YR.out _ E9.out)
      exact ⟨rfl, Zz, lz, tz, nz, Kz, Nz, HPZ.out.below hEZ, HFZ.out.1, HFZ.out.2.1.trans (Fr.of_below hEZ) HFZ.out.2.2, HFZ.out.2.2⟩
    obtain ⟨Z7, l7, -, rfl, hd7, hw7, hI7, hO7⟩ := h7
    have HD7 := Lib.hid hd7
    have HW7 := Lib.hid hw7
    have HI7 := Lib.hid hI7
    have HO7 := Lib.hid hO7
    have KT7 : Hid (KpR w7 N (.slice A5 (K.length + 1) c5) (K ++ [x.r])) := KTd.out.go FN7.out (Grew.refl _ _)
    have CG := Lib.hid (fun fb => chg_ok x (gp := gp) (gd := gd) (gw := gw) (a := a) (n := n) fb RW7.out KT7.out HLT.out hok.out)
    unfold opV at CG
    have hsz2 : decide ((rl : Int) - sz ≤ ((rl - (x.rn + 7) : Nat) : Int)) = true := decide_eq_true (by rw [HSZ.out, HRKX.out, if_pos rfl]; have := HNF.out; omega)
    have wsz : IntKind.i64.wrap ((rl : Int) - sz) = (rl : Int) - sz := by rw [HSZ.out, HRKX.out, if_pos rfl, IntKind.wrap_i64]; have := HNF.out; have h := HSM.out; have h2 := HRLI.out; have h3 := hlf_two (show 1 ≤ n by have := HN4.out; omega); have h4 := HIN.out; have h5 := HZ.out; omega
    obtain ⟨rq, hrq⟩ : ∃ rq, rq = rl - (x.rn + 7) := ⟨_, rfl⟩
    have hroom : Ws.room ⟨a, n, turnN t len, len + (x.rn + 7), K ++ [x.r], false⟩ = (rq : Int) := by
      show ((hlf n * 64 : Nat) : Int) - ((len + (x.rn + 7) : Nat) : Int) = _
      have := HNF.out
      have := HRLI.out
      omega
    rw [← hrq] at hsz2
    clear hd7 hw7 hI7 hO7 hrq
    obtain ⟨⟨p0, p1, p2, p3, p4, p5⟩, pf⟩ := play_at RW7.out
    have pf5 := pf 5
    clear pf
    obtain ⟨x0, x1, x2, x3, x4, x5⟩ := op_at HBX7.out
    go_upto_region 8 with (first
      | (go_at_call 26; refine (CG.out _).mono ?_; rintro e w8 ⟨rfl, hr8, hf8⟩; have R8 := Lib.hid hr8; have F8 := Lib.hid hf8; clear hr8 hf8 p0 p1 p2 p3 p4 p5 pf5 x0 x1 x2 x3 x4 x5)
      | fail)
    have HD8 : Hid (CDk w8 Fd7 w0.heap.size gd ⟨Z7, [], true, l7⟩) := HD7.out.fr F8.out (fun k h e => HNP7.out.1 (e ▸ h))
    have HW8 : Hid (WlK w8 Fw7 w0.heap.size gw gd ⟨a, n, turnN t len, len + (x.rn + 7), K ++ [x.r], false⟩) := HW7.out.fr F8.out (fun k h e => HNP7.out.2 (e ▸ h))
    have CM8 := wRoom_any w8 HW8.out (fun _ => ⟨by show 1 ≤ n; have := HN4.out; omega, by show n ≤ 65536; have := HIN.out; have := HZ.out; omega, HI7.out.fit⟩)
    rw [hroom] at CM8
    have CM8 := Lib.hid CM8
    have FNN : Hid (Fr N w w8) := FW7.out.trans (F8.out.wide fun k h => HNS.out k (.inr (.inr h))) (Grew.refl _ _)
    have GNN : Hid (Grew w N (fun k => Fd7 k ∨ Fw7 k ∨ k = gp)) := fun k hk => by
      have h2 : (Fd7 k ∨ Fw7 k) ∨ k = gp := by
        rcases hk with h | h | h
        · exact .inl (.inl h)
        · exact .inl (.inr h)
        · exact .inr h
      rcases h2 with h | h
      · rcases HG7.out k h with h | h
        · exact .inl (FWD.out k h)
        · exact .inr (Nat.le_trans B6d.out.size h)
      · exact .inl (HNS.out k (.inr (.inr h)))
    have HP8 : Hid (Ply w0 w8 gp a n Z7 l7 (turnN t len) (len + (x.rn + 7)) (K ++ [x.r]) (fun k => Fd7 k ∨ Fw7 k ∨ k = gp)) := ⟨gd, gw, Fd7, Fw7, .slice A5 (K.length + 1) c5, BW7.out.trans (F8.out.below BW7.out.size (fun k h => by rw [h]; exact HGP.out.1)), HD8.out, HW8.out, HDI7.out, R8.out, HGP.out.1, HNP7.out.1, HNP7.out.2, by
      have h1 : KpR w8 N (.slice A5 (K.length + 1) c5) (K ++ [x.r]) := KT7.out.go (F8.out.wide fun k h => HNS.out k (.inr (.inr h))) (Grew.refl _ _)
      obtain ⟨A9, c9, e9, l9, k9⟩ := KTd.out
      refine ⟨A9, c9, e9, l9, fun V hV => ?_⟩
      have hg : Grew wd N (fun k => Fd7 k ∨ Fw7 k ∨ k = gp) := fun k hk => by
        rcases hk with h | h | h
        · exact (HG7.out k (.inl h)).elim (fun h => .inl (FWD.out k h)) .inr
        · exact (HG7.out k (.inr h)).elim (fun h => .inl (FWD.out k h)) .inr
        · exact .inl (HNS.out k (.inr (.inr h)))
      have hf : Fr N wd w8 := FN7.out.trans (F8.out.wide fun k h => HNS.out k (.inr (.inr h))) (Grew.refl _ _)
      exact (k9 V (hf.trans hV hg)).moreB hf.size, HI7.out, by rw [HO7.out.len]; exact HIN.out, HN4.out, fun k h => h, fun k hk => by
      rcases hk with h | h | h
      · exact HD8.out.fit k h
      · exact HW8.out.fit k h
      · rw [h]; exact ⟨HGP.out.1, (Array.getElem?_eq_some_iff.1 R8.out).1⟩⟩
    obtain ⟨⟨p0, p1, p2, p3, p4, p5⟩, pf⟩ := play_at R8.out
    have pf5 := pf 5
    clear pf hroom
    have R8K : Hid (∀ V, Below w8.heap.size w8 V → V.heap[gp]? = some (.cells (plyC gd gw a n (.slice A5 (K.length + 1) c5) true) 31 (0, 0))) := fun V hV => (hV.block gp (Array.getElem?_eq_some_iff.1 R8.out).1).trans R8.out
    go_upto_region 20 with (first
      | (go_at_call 16; refine CM8.out.mono ?_; rintro e w9 ⟨rfl, hb9⟩; have E89 := Lib.hid hb9; clear hb9 p0 p1 p2 p3 p4 p5 pf5; obtain ⟨⟨p0, p1, p2, p3, p4, p5⟩, pf⟩ := play_at (R8K.out w9 E89.out); have pf5 := pf 5; clear pf)
      | fail)
    obtain ⟨wy, hwy⟩ : ∃ wy, wy = w9.setCell ⟨gp, 5, none⟩ (.bool true) := ⟨_, rfl⟩
    rw [← hwy]
    have EY : Hid (Below w8.heap.size w8 wy) := by show Below _ _ _; rw [hwy]; exact below_same E89.out (R8K.out w9 E89.out)
    clear hwy p0 p1 p2 p3 p4 p5 pf5 hsz2 wsz
    obtain ⟨⟨p0, p1, p2, p3, p4, p5⟩, -⟩ := play_at (R8K.out wy EY.out)
    obtain ⟨Zz, hZz⟩ : ∃ Zz, Zz = Z7 := ⟨_, rfl⟩
    obtain ⟨lz, hlz⟩ : ∃ lz, lz = l7 := ⟨_, rfl⟩
    obtain ⟨tz, htz⟩ : ∃ tz, tz = turnN t len := ⟨_, rfl⟩
    obtain ⟨nz, hnz⟩ : ∃ nz, nz = len + (x.rn + 7) := ⟨_, rfl⟩
    obtain ⟨Kz, hKz⟩ : ∃ Kz, Kz = K ++ [x.r] := ⟨_, rfl⟩
    obtain ⟨Nz, hNz⟩ : ∃ Nz, Nz = fun k => Fd7 k ∨ Fw7 k ∨ k = gp := ⟨_, rfl⟩
    have HPL : Hid (Ply w0 wy gp a n Zz lz tz nz Kz Nz) := by rw [hZz, hlz, htz, hnz, hKz, hNz]; exact HP8.out.below EY.out
    have HF2 : OutZ a n Z Zz ∧ Fr N w wy ∧ Grew w N Nz := by rw [hZz, hNz]; exact ⟨HO7.out, FNN.out.trans (Fr.of_below EY.out) GNN.out, GNN.out⟩
    clear hZz hlz htz hnz hKz hNz
    have HPZ := HPL
    have HFZ := Lib.hid (HF2)
    obtain ⟨gdz, gwz, Fdz, Fwz, vkz, qb, qd, qw, qdis, qrow, qgp, qnd, qnw, qk, qI, qin, qn4, qNs, qN2⟩ := HPZ.out
    have YR : Hid (∀ V, Below wy.heap.size wy V → V.heap[gp]? = some (.cells (plyC gdz gwz a n vkz true) 31 (0, 0))) := fun V hV => (hV.block gp (Array.getElem?_eq_some_iff.1 qrow).1).trans qrow
    have CAL : Hid (∀ V, Below wy.heap.size wy V → Calls Tryd.prog 29 #[.pointer (some ⟨gdz, 0, none⟩)] V fun e w' => e = .returned (.bool true) ∧ V = w') := fun V hV => calive_any V (qd.below hV)
    obtain ⟨Az, cz, rfl, -, hkz⟩ := qk
    have CRC : Hid (∀ V, Below wy.heap.size wy V → Calls Tryd.prog 22 #[.pointer (some ⟨gwz, 0, none⟩)] V (RcsR Kz V)) := fun V hV => wRecords_any V (qw.below hV)
    have hkl := few_of qI qn4 qin qd.few
    have CSM := Lib.hid (fun V (hV : Below wy.heap.size wy V) (A : Option Addr) (c : Nat) (hr : RwC V V.heap.size A Kz.length Kz) => rsameR_any A Az Kz.length c Kz.length cz V.heap.size Kz Kz V hr ((hkz V (Fr.of_below hV)).moreB hV.size) (Nat.le_refl _) (Nat.le_trans hkl (by decide)))
    unfold RcsR at CRC
    clear qb qd qw qdis qrow qgp qnd qnw qI qin qn4 qNs qN2 hkz hkl
    have KS : Hid (∀ V, Below wy.heap.size wy V → V.cell? ⟨gp, 0, none⟩ = some (.pointer (some ⟨gdz, 0, none⟩)) ∧ V.cell? ⟨gp, 1, none⟩ = some (.pointer (some ⟨gwz, 0, none⟩)) ∧ V.cell? ⟨gp, 4, none⟩ = some (.slice Az Kz.length cz) ∧ V.cell? ⟨gp, 5, none⟩ = some (.bool true) ∧ V.frozen? ⟨gp, 5, none⟩ = false) := fun V hV => by
      obtain ⟨⟨y0, y1, y2, y3, y4, y5⟩, yf⟩ := play_at (YR.out V hV)
      exact ⟨y0, y1, y4, y5, yf 5⟩
    go_upto_region 20 with fail
    go_region_held3 (fun V => V.cell? ⟨gp, 0, none⟩ = some (.pointer (some ⟨gdz, 0, none⟩)) ∧ V.cell? ⟨gp, 1, none⟩ = some (.pointer (some ⟨gwz, 0, none⟩)) ∧ V.cell? ⟨gp, 4, none⟩ = some (.slice Az Kz.length cz) ∧ V.cell? ⟨gp, 5, none⟩ = some (.bool true) ∧ V.frozen? ⟨gp, 5, none⟩ = false)
      (first | (with_reducible exact KS.out _ (below_same E9.out (YR.out _ E9.out))) | (with_reducible exact KS.out _ E9.out) | (with_reducible exact KS.out _ E8.out) | (with_reducible exact KS.out _ (Below.refl _ _).drew) | fail)
      (first
        | (go_at_call 29; refine (CAL.out _ (Below.refl _ _).drew).mono ?_; rintro e wx ⟨rfl, rfl⟩)
        | (go_at_call 22; refine (CRC.out _ (Below.refl _ _).drew).mono ?_; rintro e u8 ⟨hb8, v8, q8, rfl, hs8, hq8⟩; have hl8 : q8.length = Kz.length := (by rw [← hq8, List.length_map]); obtain ⟨A8, c8, rfl, -, hr8⟩ := hs8.rw; rw [hl8, hq8] at hr8; rw [hl8]; have R8 := Lib.hid hr8; have E8 := Lib.hid ((Below.refl wy.heap.size wy).drew.trans hb8); clear hb8 hs8 hq8 hr8 hl8)
        | (go_at_call 24; refine (CSM.out _ E8.out A8 c8 R8.out).mono ?_; rintro e u9 ⟨r9, rfl, hr9, hb9⟩; obtain rfl : r9 = true := (by simpa using hr9); have E9 := Lib.hid (E8.out.trans (hb9.mono E8.out.size)); clear hr9 hb9)
        | fail)
    refine bodyPost_end (v := .tuple #[]) (by simp [results, Tryd.results10]) rfl ?_
    have hEZ := below_same E9.out (YR.out _ E9.out)
    exact ⟨rfl, Zz, lz, tz, nz, Kz, Nz, HPZ.out.below hEZ, HFZ.out.1, HFZ.out.2.1.trans (Fr.of_below hEZ) HFZ.out.2.2, HFZ.out.2.2⟩
end
end Go.Proofs.YtahgaogmcffglaaDoor
/- Layer 15's law: do. (Made by gen/WnH.py, WnH01.py.) -/
namespace Go.Proofs.YtahgaogmcffglaaDoor
open Go.RowKit
section
variable {w0 w : World} {gp a n : Nat} {Z : List (List UInt8)} {lf : Int} {t len : Nat} {K : List Rcd} {N : Nat → Prop} (x : OpW)
set_option maxRecDepth 100000 in
set_option maxHeartbeats 16000000 in
theorem do_res_rec (X : Snt14) (hA : ∀ W, Below w0.heap.size w0 W → Lds14 X W) (hP : Ply w0 w gp a n Z lf t len K N) (hx : x.ok w0) (h1 : x.kind = 1) (hsm : x.l.length ≤ 20 ∧ ∀ r ∈ x.l, r.dat.length ≤ 500) (hrk : szL x.l = -1) :
    Calls Tryd.prog 10 #[.pointer (some ⟨gp, 0, none⟩), opV x] w (DoR w0 w gp a n Z N) := by
  have HP := Lib.hid hP
  obtain ⟨gd, gw, Fd, Fw, vk, hb, hd, hw, hdis, hrow, hgp, hnd, hnw, hk, hI, hin, hn4, hNs, hN2⟩ := hP
  have hZ : Z.length ≤ 65536 := hd.few
  obtain ⟨wb, hwb⟩ : ∃ wb, wb = w.alloc (.cells (opC x) 38) := ⟨_, rfl⟩
  have BB : Hid (Below w.heap.size w wb) := by show Below _ _ _; rw [hwb]; exact (Below.refl _ _).alloc (Nat.le_refl _) _
  have HBX : Hid (wb.heap[w.heap.size]? = some (.cells (opC x) 38 (0, 0))) := by show _ = _; rw [hwb]; exact heap_alloc_new w _
  have HWB := Lib.hid hwb
  have CM := wRoom_any wb (hw.below BB.out) (fun _ => ⟨by show 1 ≤ n; omega, by show n ≤ 65536; omega, hI.fit⟩)
  have hroom : Ws.room ⟨a, n, t, len, K, false⟩ = ((hlf n * 64 : Nat) : Int) - (len : Int) := rfl
  rw [hroom] at CM
  have CM := Lib.hid CM
  have ZR : Hid (∀ V, Below w.heap.size w V → V.heap[gp]? = some (.cells (plyC gd gw a n vk true) 31 (0, 0))) := fun V hV => (hV.block gp (Array.getElem?_eq_some_iff.1 hrow).1).trans hrow
  have ZX := Lib.hid (fun V (hV : Below wb.heap.size wb V) => op_at ((hV.block _ (Array.getElem?_eq_some_iff.1 HBX.out).1).trans HBX.out))
  have HB := Lib.hid hb
  have HD := Lib.hid hd
  have HW := Lib.hid hw
  have HDI := Lib.hid hdis
  have HGP := Lib.hid (And.intro hgp (And.intro hnd hnw))
  have HK := Lib.hid hk
  have HI := Lib.hid hI
  have HIN := Lib.hid hin
  have HN4 := Lib.hid hn4
  have HNS := Lib.hid hNs
  have HN2 := Lib.hid hN2
  have HZ := Lib.hid hZ
  have HA := Lib.hid hA
  have HX := Lib.hid hx
  obtain ⟨⟨p0, p1, p2, p3, p4, p5⟩, -⟩ := play_at (ZR.out wb BB.out)
  clear hb hd hw hdis hrow hgp hnd hnw hk hI hin hn4 hNs hN2 hZ hwb hroom hA hx
  unfold opV
  unfold opC at HWB
  have e0 : (x.kind == 0) = false := by rw [h1]; rfl
  have e1 : (x.kind == 1) = true := by rw [h1]; rfl
  have HRL : Hid (RwC w0 w0.heap.size x.la x.ln x.l) := HX.out.2.2.1.2.rwc (fun r hr => Nat.le_trans (hsm.2 r hr) (by decide))
  have HLN : Hid (x.l.length = x.ln) := HX.out.2.2.1.2.1
  have HLT : Hid (x.l.length ≤ 1000000) := Nat.le_trans hsm.1 (by decide)
  obtain ⟨Ak, ck, rfl, hkc, hkr⟩ := HK.out
  have CCP := Lib.hid (fun V (hV : Below w.heap.size w V) => rcopy_any x.la x.ln x.lc w0.heap.size x.l V (HRL.out.belowB (HB.out.trans (hV.mono HB.out.size))) (Nat.le_trans HB.out.size hV.size) (by rw [← HX.out.2.2.1.2.1]; exact Nat.le_trans hsm.1 (by decide)) (fun r hr => Nat.le_trans (hsm.2 r hr) (by decide)))
  unfold CpyR at CCP
  have CZ := Lib.hid (fun V (hV : Below w.heap.size w V) => rsizes_any x.la x.ln x.lc w0.heap.size x.l V (HRL.out.belowB (HB.out.trans (hV.mono HB.out.size))) (Nat.le_trans HB.out.size hV.size) (by rw [← HX.out.2.2.1.2.1]; exact Nat.le_trans hsm.1 (by decide)))
  have CLS := Lib.hid (fun V => rleast_any n V (by have := HIN.out; have := HZ.out; omega))
  obtain ⟨ls, hls⟩ : ∃ ls : Int, ls = 64 * ((n / 2 : Nat) : Int) - 128 := ⟨_, rfl⟩
  rw [← hls] at CLS
  have HLS : Hid (ls ≤ ((hlf n * 64 : Nat) : Int) ∧ -128 ≤ ls) := by show _ ∧ _; rw [hls]; unfold hlf; have := HN4.out; omega
  obtain ⟨sl, hsl⟩ : ∃ sl : Int, sl = szL x.l := ⟨_, rfl⟩
  have HSL := Lib.hid hsl
  rw [← hsl] at CZ
  have HRKX := Lib.hid hrk
  clear hkr hkc h1 hsm hls hsl hrk
  go_enter Tryd.func10, Tryd.ntmps10
  go_upto_region 1 with fail
  rw [← HWB.out]
  go_upto_region 2 with (first
    | (go_at_call 16; refine CM.out.mono ?_; rintro e w2 ⟨rfl, hb2⟩; have D2 := Lib.hid hb2; have B2 := Lib.hid (BB.out.trans (hb2.mono BB.out.size)); clear hb2)
    | fail)
  obtain ⟨x0, x1, x2, x3, x4, x5⟩ := ZX.out w2 D2.out
  clear p0 p1 p2 p3 p4 p5
  obtain ⟨⟨p0, p1, p2, p3, p4, p5⟩, pf⟩ := play_at (ZR.out w2 B2.out)
  have pf5 := pf 5
  clear pf
  obtain ⟨x0, x1, x2, x3, x4, x5⟩ := ZX.out w2 D2.out
  go_upto_region 12 with (first
    | (go_at_call 25; refine (CCP.out w2 B2.out).mono ?_; rintro e w3 ⟨hb3, v3, q3, rfl, hs3, hq3⟩; have S3 := Lib.hid hs3; have Q3 := Lib.hid hq3; have E3 := Lib.hid hb3; clear hb3 hs3 hq3 p0 p1 p2 p3 p4 p5 pf5 x0 x1 x2 x3 x4 x5)
    | fail)
  have B3 : Hid (Below w.heap.size w w3) := B2.out.trans (E3.out.mono B2.out.size)
  have D3 : Hid (Below wb.heap.size wb w3) := D2.out.trans (E3.out.mono D2.out.size)
  have KT3 : Hid (KpR w3 N v3 x.l) := by
    have h := KpR.of (N := N) S3.out (fun k hk hn => by have h1 := (S3.out.own_ge hk).1; have h2 := (HN2.out k hn).2; have h3 := B2.out.size; omega)
    rw [Q3.out] at h
    exact h
  obtain ⟨A5, c5, rfl, -, -⟩ := KT3.out
  have B3d : Hid (Below w.heap.size w w3.drew) := B3.out.trans ((Below.refl w3.heap.size w3).drew.mono B3.out.size)
  have D3d : Hid (Below wb.heap.size wb w3.drew) := D3.out.trans ((Below.refl w3.heap.size w3).drew.mono D3.out.size)
  have KTd : Hid (KpR w3.drew N (.slice A5 x.l.length c5) x.l) := KT3.out.below (Below.refl w3.heap.size w3).drew
  obtain ⟨⟨p0, p1, p2, p3, p4, p5⟩, pf⟩ := play_at (ZR.out w3 B3.out)
  have pf5 := pf 5
  clear pf
  obtain ⟨x0, x1, x2, x3, x4, x5⟩ := ZX.out w3 D3.out
  have g1 : w3.drew.cell? ⟨gp, 1, none⟩ = some (.pointer (some ⟨gw, 0, none⟩)) := p1
  have t3 : w3.drew.cell? ⟨w.heap.size, 3, none⟩ = some (.slice x.la x.ln x.lc) := x3
  refine wp_region_still_tail 6 (by kernel_rfl) (by kernel_rfl) ?_
  simp only [List.take_succ_cons, List.take_zero, List.drop_succ_cons, List.drop_zero]
  repeat still_step
  refine wpStill_nil ?_
  change wpList _ _ _ _ _ w3.drew
  obtain ⟨wd, hwd⟩ : ∃ wd, wd = w3.drew := ⟨_, rfl⟩
  rw [← hwd] at B3d D3d KTd
  rw [← hwd]
  clear hwd g1 t3 S3 Q3 p0 p1 p2 p3 p4 p5 pf5 x0 x1 x2 x3 x4 x5
  have B6d := B3d
  have D6d := D3d
  have BWd : Hid (Below w0.heap.size w0 wd) := HB.out.trans (B6d.out.mono HB.out.size)
  have CAp := wResetO_any X wd (B := w0.heap.size) (gd := gd) (g := gw) x.la x.ln x.lc x.l (fun V hV => HA.out V (BWd.out.trans hV)) BWd.out.size (HD.out.below B6d.out) (HW.out.below B6d.out) HDI.out HI.out (by have := HN4.out; omega) HIN.out (fun V hV => by
    have hlo : ∀ p : Addr, p.block < w0.heap.size → V.cell? p = w0.cell? p := fun p hp => World.cell?_of_block ((hV.block p.block (Nat.lt_of_lt_of_le hp BWd.out.size) (fun hf => by
      rcases hf with hf | hf
      · have := (HD.out.fit _ hf).1; omega
      · have := (HW.out.fit _ hf).1; omega)).trans (BWd.out.block p.block hp))
    exact ⟨HRL.out.1, fun h0 => by
      obtain ⟨b, o, e, hbb, hx⟩ := HRL.out.2 h0
      exact ⟨b, o, e, Nat.lt_of_lt_of_le hbb BWd.out.size, (hx.keep hbb hlo).more BWd.out.size⟩⟩) (by rw [← HLN.out]; exact Nat.le_trans HLT.out (by decide))
  have hfz : fitZ x.l ((hlf n * 64 : Nat) : Int) = 140 := by
    unfold fitZ
    rw [if_neg]
    intro h
    have h2 := HRKX.out
    unfold szL at h2
    rw [if_pos h] at h2
    omega
  rw [hfz] at CAp
  have CAp := Lib.hid CAp
  clear hfz
  go_wp2_with fail
  refine CAp.out.mono ?_
  rintro e w7 h7
  have FWD : Hid (∀ k, Fd k ∨ Fw k → N k) := fun k h => HNS.out k (h.elim .inl fun h => .inr (.inl h))
  clear CAp CCP CM
  rcases h7 with ⟨-, rfl, hb7⟩ | ⟨hz, -⟩
  case inr => exact absurd hz (by decide)
  have B7 : Hid (Below w.heap.size w w7) := B6d.out.trans (hb7.mono B6d.out.size)
  have D7 : Hid (Below wb.heap.size wb w7) := D6d.out.trans (hb7.mono D6d.out.size)
  have KT7 : Hid (KpR w7 N (.slice A5 x.l.length c5) x.l) := KTd.out.below hb7
  clear hb7
  have CG := Lib.hid (fun (fb : Bool) V (hV : Below w7.heap.size w7 V) => chg_rec x (gp := gp) (gd := gd) (gw := gw) (a := a) (n := n) fb (ZR.out V (B7.out.trans (hV.mono B7.out.size))) (KT7.out.below hV) HLT.out HRKX.out)
  unfold opV at CG
  have HS13 : Hid (∀ V, Below w7.heap.size w7 V → V.heap[w.heap.size]? = some (.cells (opC x) 38 (0, 0)) ∧ V.cell? ⟨gp, 3, none⟩ = some (.int .i64 (n : Int))) := fun V hV => ⟨(hV.block _ (Array.getElem?_eq_some_iff.1 ((D7.out.block _ (Array.getElem?_eq_some_iff.1 HBX.out).1).trans HBX.out)).1).trans ((D7.out.block _ (Array.getElem?_eq_some_iff.1 HBX.out).1).trans HBX.out), (play_at (ZR.out V (B7.out.trans (hV.mono B7.out.size)))).1.2.2.2.1⟩
  go_upto_region 13 with fail
  refine wp_region_held_drew (S := fun V => V.heap[w.heap.size]? = some (.cells (opC x) 38 (0, 0)) ∧ V.cell? ⟨gp, 3, none⟩ = some (.int .i64 (n : Int))) (by kernel_rfl) (HS13.out _ (Below.refl _ _).drew) (fun hHeld => ?_)
  refine takeR (i := 0) (v := ?v0_1) rfl (by kernel_rfl) (by kernel_rfl) (by kernel_rfl) (fun _ _ _ h => h) (by rfl) ?hy0_1 (by assumption) ?rest0_1
  case hy0_1 => (intro W hSw; obtain ⟨q0, q1⟩ := hSw; obtain ⟨t0, t1, t2, t3, t4, t5⟩ := op_at q0; go_simp; try with_reducible rfl)
  try simp only [Act.put]
  try simp only [List.setIfInBounds_toArray]
  try simp only [List.set_cons_succ]
  try simp only [List.set_cons_zero]
  refine takeR (i := 1) (v := ?v1_2) rfl (by kernel_rfl) (by kernel_rfl) (by kernel_rfl) (fun _ _ _ h => h) (by rfl) ?hy1_2 (by assumption) ?rest1_2
  case hy1_2 => (intro W hSw; obtain ⟨q0, q1⟩ := hSw; obtain ⟨t0, t1, t2, t3, t4, t5⟩ := op_at q0; go_simp; try with_reducible rfl)
  try simp only [Act.put]
  try simp only [List.setIfInBounds_toArray]
  try simp only [List.set_cons_succ]
  try simp only [List.set_cons_zero]
  refine takeR (i := 2) (v := ?v2_3) rfl (by kernel_rfl) (by kernel_rfl) (by kernel_rfl) (fun _ _ _ h => h) (by rfl) ?hy2_3 (by assumption) ?rest2_3
  case hy2_3 => (intro W hSw; obtain ⟨q0, q1⟩ := hSw; obtain ⟨t0, t1, t2, t3, t4, t5⟩ := op_at q0; go_simp; try with_reducible rfl)
  try simp only [Act.put]
  try simp only [List.setIfInBounds_toArray]
  try simp only [List.set_cons_succ]
  try simp only [List.set_cons_zero]
  refine takeR (i := 3) (v := ?v3_4) rfl (by kernel_rfl) (by kernel_rfl) (by kernel_rfl) (fun _ _ _ h => h) (by rfl) ?hy3_4 (by assumption) ?rest3_4
  case hy3_4 => (intro W hSw; obtain ⟨q0, q1⟩ := hSw; obtain ⟨t0, t1, t2, t3, t4, t5⟩ := op_at q0; go_simp; try with_reducible rfl)
  try simp only [Act.put]
  try simp only [List.setIfInBounds_toArray]
  try simp only [List.set_cons_succ]
  try simp only [List.set_cons_zero]
  refine takeR (i := 4) (v := ?v4_5) rfl (by kernel_rfl) (by kernel_rfl) (by kernel_rfl) (fun _ _ _ h => h) (by rfl) ?hy4_5 (by assumption) ?rest4_5
  case hy4_5 => (intro W hSw; obtain ⟨q0, q1⟩ := hSw; obtain ⟨t0, t1, t2, t3, t4, t5⟩ := op_at q0; go_simp; try with_reducible rfl)
  try simp only [Act.put]
  try simp only [List.setIfInBounds_toArray]
  try simp only [List.set_cons_succ]
  try simp only [List.set_cons_zero]
  refine takeR (i := 5) (v := ?v5_6) rfl (by kernel_rfl) (by kernel_rfl) (by kernel_rfl) (fun _ _ _ h => h) (by rfl) ?hy5_6 (by assumption) ?rest5_6
  case hy5_6 => (intro W hSw; obtain ⟨q0, q1⟩ := hSw; obtain ⟨t0, t1, t2, t3, t4, t5⟩ := op_at q0; go_simp; try with_reducible rfl)
  try simp only [Act.put]
  try simp only [List.setIfInBounds_toArray]
  try simp only [List.set_cons_succ]
  try simp only [List.set_cons_zero]
  refine takeR (i := 7) (v := ?v7_7) rfl (by kernel_rfl) (by kernel_rfl) (by kernel_rfl) (fun _ _ _ h => h) (by rfl) ?hy7_7 (by assumption) ?rest7_7
  case hy7_7 => (intro W hSw; obtain ⟨q0, q1⟩ := hSw; obtain ⟨t0, t1, t2, t3, t4, t5⟩ := op_at q0; go_simp; try with_reducible rfl)
  try simp only [Act.put]
  try simp only [List.setIfInBounds_toArray]
  try simp only [List.set_cons_succ]
  try simp only [List.set_cons_zero]
  refine takeR (i := 8) (v := ?v8_8) rfl (by kernel_rfl) (by kernel_rfl) (by kernel_rfl) (fun _ _ _ h => h) (by rfl) ?hy8_8 (by assumption) ?rest8_8
  case hy8_8 => (intro W hSw; obtain ⟨q0, q1⟩ := hSw; obtain ⟨t0, t1, t2, t3, t4, t5⟩ := op_at q0; go_simp; try with_reducible rfl)
  try simp only [Act.put]
  try simp only [List.setIfInBounds_toArray]
  try simp only [List.set_cons_succ]
  try simp only [List.set_cons_zero]
  refine takeR (i := 9) (v := ?v9_9) rfl (by kernel_rfl) (by kernel_rfl) (by kernel_rfl) (fun _ _ _ h => h) (by rfl) ?hy9_9 (by assumption) ?rest9_9
  case hy9_9 => (intro W hSw; obtain ⟨q0, q1⟩ := hSw; obtain ⟨t0, t1, t2, t3, t4, t5⟩ := op_at q0; go_simp; try with_reducible rfl)
  try simp only [Act.put]
  try simp only [List.setIfInBounds_toArray]
  try simp only [List.set_cons_succ]
  try simp only [List.set_cons_zero]
  refine takeR (i := 10) (v := ?v10_10) rfl (by kernel_rfl) (by kernel_rfl) (by kernel_rfl) (fun _ _ _ h => h) (by rfl) ?hy10_10 (by assumption) ?rest10_10
  case hy10_10 => (intro W hSw; obtain ⟨q0, q1⟩ := hSw; obtain ⟨t0, t1, t2, t3, t4, t5⟩ := op_at q0; go_simp; try with_reducible rfl)
  try simp only [Act.put]
  try simp only [List.setIfInBounds_toArray]
  try simp only [List.set_cons_succ]
  try simp only [List.set_cons_zero]
  have F0 : Hid (Below w7.heap.size w7 w7.drew) := (Below.refl _ _).drew
  clear hHeld
  refine wpAnyH_ready (rs := [6]) (by kernel_rfl) (by simp) ?_
  refine AllReadyH.cons rfl (fun KC hK => ?_) AllReadyH.nil
  rw [if_pos (by rfl)]
  go_simp
  refine (CZ.out _ (B7.out.trans (F0.out.mono B7.out.size))).mono ?_
  rintro e u1 ⟨rfl, hb⟩
  have F1 := Lib.hid (F0.out.trans (hb.mono F0.out.size))
  clear hb
  go_simp
  refine hK.out _ _ (HS13.out _ F1.out) (fun hHeld => ?_)
  try simp only [Act.put]
  try simp only [List.setIfInBounds_toArray]
  try simp only [List.set_cons_succ]
  try simp only [List.set_cons_zero]
  clear hK KC
  clear hHeld
  refine wpAnyH_ready (rs := [11]) (by kernel_rfl) (by simp) ?_
  refine AllReadyH.cons rfl (fun KC hK => ?_) AllReadyH.nil
  rw [if_pos (by rfl)]
  go_simp
  refine (CLS.out _).mono ?_
  rintro e ux ⟨rfl, rfl⟩
  go_simp
  refine hK.out _ _ (HS13.out _ F1.out) (fun hHeld => ?_)
  try simp only [Act.put]
  try simp only [List.setIfInBounds_toArray]
  try simp only [List.set_cons_succ]
  try simp only [List.set_cons_zero]
  clear hK KC
  refine takeR (i := 12) (v := ?v12_11) rfl (by kernel_rfl) (by kernel_rfl) (by kernel_rfl) (fun _ _ _ h => h) (by rfl) ?hy12_11 (by assumption) ?rest12_11
  case hy12_11 => (intro W hSw; go_simp; try with_reducible rfl)
  try simp only [Act.put]
  try simp only [List.setIfInBounds_toArray]
  try simp only [List.set_cons_succ]
  try simp only [List.set_cons_zero]
  clear hHeld
  refine wpAnyH_ready (rs := [13]) (by kernel_rfl) (by simp) ?_
  refine AllReadyH.cons rfl (fun KC hK => ?_) AllReadyH.nil
  rw [if_pos (by rfl)]
  go_simp
  refine (CG.out _ _ F1.out).mono ?_
  rintro e w8 ⟨rfl, hb8⟩
  have F8 := Lib.hid (F1.out.trans (hb8.mono F1.out.size))
  clear hb8
  go_simp
  refine hK.out _ _ (HS13.out _ F8.out) (fun hHeld => ?_)
  try simp only [Act.put]
  try simp only [List.setIfInBounds_toArray]
  try simp only [List.set_cons_succ]
  try simp only [List.set_cons_zero]
  clear hK KC
  refine wpAnyH_done (by kernel_rfl) ?_ _
  clear hHeld
  have B8 : Hid (Below w.heap.size w w8) := B7.out.trans (F8.out.mono B7.out.size)
  have D8 : Hid (Below wb.heap.size wb w8) := D7.out.trans (F8.out.mono D7.out.size)
  obtain ⟨⟨p0, p1, p2, p3, p4, p5⟩, pf⟩ := play_at (ZR.out w8 B8.out)
  have pf5 := pf 5
  clear pf
  obtain ⟨x0, x1, x2, x3, x4, x5⟩ := ZX.out w8 D8.out
  obtain ⟨Zz, hZz⟩ : ∃ Zz, Zz = Z := ⟨_, rfl⟩
  obtain ⟨lz, hlz⟩ : ∃ lz, lz = lf := ⟨_, rfl⟩
  obtain ⟨tz, htz⟩ : ∃ tz, tz = t := ⟨_, rfl⟩
  obtain ⟨nz, hnz⟩ : ∃ nz, nz = len := ⟨_, rfl⟩
  obtain ⟨Kz, hKz⟩ : ∃ Kz, Kz = K := ⟨_, rfl⟩
  obtain ⟨Nz, hNz⟩ : ∃ Nz, Nz = N := ⟨_, rfl⟩
  have HPL : Hid (Ply w0 w8 gp a n Zz lz tz nz Kz Nz) := by rw [hZz, hlz, htz, hnz, hKz, hNz]; exact HP.out.below B8.out
  have HF2 : OutZ a n Z Zz ∧ Fr N w w8 ∧ Grew w N Nz := by rw [hZz, hNz]; exact ⟨OutZ.refl HD.out.wide, Fr.of_below B8.out, Grew.refl _ _⟩
  clear hZz hlz htz hnz hKz hNz
  have HPZ := HPL
  have HFZ := Lib.hid (HF2)
  obtain ⟨gdz, gwz, Fdz, Fwz, vkz, qb, qd, qw, qdis, qrow, qgp, qnd, qnw, qk, qI, qin, qn4, qNs, qN2⟩ := HPZ.out
  have YR : Hid (∀ V, Below w8.heap.size w8 V → V.heap[gp]? = some (.cells (plyC gdz gwz a n vkz true) 31 (0, 0))) := fun V hV => (hV.block gp (Array.getElem?_eq_some_iff.1 qrow).1).trans qrow
  have CAL : Hid (∀ V, Below w8.heap.size w8 V → Calls Tryd.prog 29 #[.pointer (some ⟨gdz, 0, none⟩)] V fun e w' => e = .returned (.bool true) ∧ V = w') := fun V hV => calive_any V (qd.below hV)
  obtain ⟨Az, cz, rfl, -, hkz⟩ := qk
  have CRC : Hid (∀ V, Below w8.heap.size w8 V → Calls Tryd.prog 22 #[.pointer (some ⟨gwz, 0, none⟩)] V (RcsR Kz V)) := fun V hV => wRecords_any V (qw.below hV)
  have hkl := few_of qI qn4 qin qd.few
  have CSM := Lib.hid (fun V (hV : Below w8.heap.size w8 V) (A : Option Addr) (c : Nat) (hr : RwC V V.heap.size A Kz.length Kz) => rsameR_any A Az Kz.length c Kz.length cz V.heap.size Kz Kz V hr ((hkz V (Fr.of_below hV)).moreB hV.size) (Nat.le_refl _) (Nat.le_trans hkl (by decide)))
  unfold RcsR at CRC
  clear qb qd qw qdis qrow qgp qnd qnw qI qin qn4 qNs qN2 hkz hkl
  have KS : Hid (∀ V, Below w8.heap.size w8 V → V.cell? ⟨gp, 0, none⟩ = some (.pointer (some ⟨gdz, 0, none⟩)) ∧ V.cell? ⟨gp, 1, none⟩ = some (.pointer (some ⟨gwz, 0, none⟩)) ∧ V.cell? ⟨gp, 4, none⟩ = some (.slice Az Kz.length cz) ∧ V.cell? ⟨gp, 5, none⟩ = some (.bool true) ∧ V.frozen? ⟨gp, 5, none⟩ = false) := fun V hV => by
    obtain ⟨⟨y0, y1, y2, y3, y4, y5⟩, yf⟩ := play_at (YR.out V hV)
    exact ⟨y0, y1, y4, y5, yf 5⟩
  go_upto_region 20 with fail
  go_region_held3 (fun V => V.cell? ⟨gp, 0, none⟩ = some (.pointer (some ⟨gdz, 0, none⟩)) ∧ V.cell? ⟨gp, 1, none⟩ = some (.pointer (some ⟨gwz, 0, none⟩)) ∧ V.cell? ⟨gp, 4, none⟩ = some (.slice Az Kz.length cz) ∧ V.cell? ⟨gp, 5, none⟩ = some (.bool true) ∧ V.frozen? ⟨gp, 5, none⟩ = false)
    (first | (with_reducible exact KS.out _ (below_same E9.out (YR.out _ E9.out))) | (with_reducible exact KS.out _ E9.out) | (with_reducible exact KS.out _ E8.out) | (with_reducible exact KS.out _ (Below.refl _ _).drew) | fail)
    (first
      | (go_at_call 29; refine (CAL.out _ (Below.refl _ _).drew).mono ?_; rintro e wx ⟨rfl, rfl⟩)
      | (go_at_call 22; refine (CRC.out _ (Below.refl _ _).drew).mono ?_; rintro e u8 ⟨hb8, v8, q8, rfl, hs8, hq8⟩; have hl8 : q8.length = Kz.length := (by rw [← hq8, List.length_map]); obtain ⟨A8, c8, rfl, -, hr8⟩ := hs8.rw; rw [hl8, hq8] at hr8; rw [hl8]; have R8 := Lib.hid hr8; have E8 := Lib.hid ((Below.refl w8.heap.size w8).drew.trans hb8); clear hb8 hs8 hq8 hr8 hl8)
      | (go_at_call 24; refine (CSM.out _ E8.out A8 c8 R8.out).mono ?_; rintro e u9 ⟨r9, rfl, hr9, hb9⟩; obtain rfl : r9 = true := (by simpa using hr9); have E9 := Lib.hid (E8.out.trans (hb9.mono E8.out.size)); clear hr9 hb9)
      | fail)
  refine bodyPost_end (v := .tuple #[]) (by simp [results, Tryd.results10]) rfl ?_
  have hEZ := below_same E9.out (YR.out _ E9.out)
  exact ⟨rfl, Zz, lz, tz, nz, Kz, Nz, HPZ.out.below hEZ, HFZ.out.1, HFZ.out.2.1.trans (Fr.of_below hEZ) HFZ.out.2.2, HFZ.out.2.2⟩
end
end Go.Proofs.YtahgaogmcffglaaDoor
