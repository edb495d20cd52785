/- The code's disk: what waits settled. (Made by gen/DscF.py.) -/
import Derived.Test.YtahgaogmcffglaaDoorJDscE
namespace Go.Proofs.YtahgaogmcffglaaDoor
open Go.RowKit

/-- The code's disk with what waits done as kl says. -/
def Cd.settle (D : Cd) (kl : List Int) : Cd := { D with secs := tornW D.secs D.waits kl, waits := [] }
/-- What comes of a disk, as settle leaves it. -/
def SetR (w : World) (F : Nat → Prop) (B g : Nat) (D : Cd) (e : Ending) (w' : World) : Prop := e = .returned (.tuple #[]) ∧ CDk w' F B g D ∧ Fr F w w'
theorem CDk.lens {w : World} {F : Nat → Prop} {B g : Nat} {D : Cd} (h : CDk w F B g D) {N : Nat} (hN : N = D.secs.length) : ∃ ga, w.cell? ⟨g, 0, none⟩ = some (.slice (some ⟨ga, 0, none⟩) N N) ∧ w.heap[ga]? = some (.cells (D.secs.flatten.map bv).toArray 77 (0, 0)) ∧ F ga ∧ ga ≠ g ∧ ga < w.heap.size := by
  obtain ⟨ga, vw, h1, h2, h3, h4, h5, -⟩ := h.st
  exact ⟨ga, by rw [hN]; simp [World.cell?, h1], h2, h3, h5, (h.fit ga h3).2⟩
theorem wx_len (f t : Nat) (b : List UInt8) (h1 : f ≤ t) (h2 : t ≤ 64) (hb : b.length = 64) : (((b.drop f).take (t - f)).map bv).length = t - f := by simp; omega
/-- A part of a write's bytes, as copy wants it. -/
theorem wcs_part {w : World} {gb : Nat} {x : Nat × List UInt8} {t : TypeId} (f n : Nat) (h : w.heap[gb]? = some (.cells (wcs x).toArray t (0, 0))) : ∀ j v, (((x.2.drop f).take n).map bv)[j]? = some v → w.cell? ((⟨gb, 1 + f, none⟩ : Addr).add j) = some v := by
  intro j v hv
  rw [add_mk, cell_of_row w gb _ _ _ _ h, List.getElem?_toArray, show 1 + f + j = (f + j) + 1 by omega]
  unfold wcs
  rw [List.getElem?_cons_succ]
  rw [List.map_take, List.map_drop, List.getElem?_take] at hv
  split at hv
  · rw [List.getElem?_drop] at hv; exact hv
  · cases hv

set_option maxRecDepth 100000 in
set_option maxHeartbeats 8000000 in
theorem csettle_all (w : World) {F : Nat → Prop} {B g : Nat} {D : Cd} (kl : List Int) (hkl : kl.length = D.waits.length) (h : CDk w F B g D) (hws : D.waits.length ≤ 1000000)
    (hk : ∀ (i : Nat) (hi : i < kl.length) (W : World), Fr F w W → Calls Tryd.prog 36 (#[.int .i64 (i : Int)] ++ #[]) W fun e w' => e = .returned (.int .i64 kl[i]) ∧ W = w') :
    Calls Tryd.prog 35 #[.pointer (some ⟨g, 0, none⟩), .func (.func 36) #[] #[]] w (SetR w F B g (D.settle kl)) := by
  obtain ⟨S, ws, p, l⟩ := D
  obtain ⟨n, hn⟩ : ∃ n, n = ws.length := ⟨_, rfl⟩
  obtain ⟨N, hN⟩ : ∃ N, N = S.length := ⟨_, rfl⟩
  obtain ⟨ga0, vw0, s1, -, -, -, -, s6, -⟩ := h.st
  obtain ⟨A, c, rfl, -⟩ := len_of_own' s6
  have c1 : w.cell? ⟨g, 1, none⟩ = some (.slice A n c) := by rw [hn]; simp [World.cell?, s1]
  have H := Lib.hid h
  have HN : Hid (n = ws.length ∧ N = S.length ∧ n ≤ 1000000 ∧ kl.length = n) := ⟨hn, hN, by rw [hn]; exact hws, by rw [hn]; exact hkl⟩
  have HK := Lib.hid hk
  have HC1 := Lib.hid c1
  clear s1 s6 hn hN h hws hkl hk
  go_enter Tryd.func35, Tryd.ntmps35
  go_wp2_with fail
  go_loopw [13] (fun k wr => ∃ i : Nat, i ≤ n ∧ k = .int .i64 i ∧ Hid (wr.cell? ⟨g, 1, none⟩ = some (.slice A n c) ∧ CDk wr F B g ⟨tornW S (ws.take i) (kl.take i), ws, p, l⟩ ∧ Fr F w wr)) (fun k _ => n - (intOf k).toNat)
  case atStart =>
    refine ⟨0, Nat.zero_le _, rfl, HC1.out, ?_, Fr.refl F w⟩
    rw [List.take_zero, List.take_zero, tornW_nil]
    exact H.out
  case round =>
    obtain ⟨i, hi, rfl, HR⟩ := hrel
    by_cases hlt : i < n
    case neg =>
      obtain rfl : n = i := by omega
      have tn : ¬ (n : Int) < (n : Int) := by omega
      have HE : Hid (tornW S (ws.take n) (kl.take n) = tornW S ws kl) := tornW_take ws kl S n (.inl (by rw [← HN.out.1]; exact Nat.le_refl _))
      have HOW : Hid (wr.ownsRow B 79 65 (.slice A n c) n (rowW ws)) := by
        obtain ⟨ga1, vw1, t1, -, -, -, -, t6, -⟩ := HR.out.2.1.st
        have t0 := HR.out.1
        have e0 : wr.cell? ⟨g, 1, none⟩ = some vw1 := by simp [World.cell?, t1]
        rw [e0] at t0
        injection t0 with t0
        subst t0
        rw [HN.out.1]
        rw [HN.out.1] at t6
        exact t6
      have r1 := HR.out.1
      have cutn : ∀ W : World, (Instr.slice 80 (.slice A n c) none (some (.int .i64 0)) none).run Tryd.prog W = .ok (.slice A 0 c) W := fun W => cut_none13 W
      clear hlt hi c1
      go_wp2_with (first
        | (refine wpList_clear13 rfl (.tmp 44) 80 rfl B 79 65 (.agg (wcs (0, z64)).toArray) Tryd.underlying80 (by kernel_rfl) rfl (by decide) (fun u hu => wcs_one _ u (by simpa [Value.cells] using hu)) A n c (rowW ws) rfl HOW.out ?_; intro w2 ys ho2 hk2 hf2; obtain ⟨q1, q2, q3, q4⟩ := HR.out.2.1.clear HR.out.1 ho2 hk2 hf2; have Q3 := Lib.hid (And.intro q3 q4); clear ho2 hk2 hf2 q3 q4 r1)
        | fail)
      refine bodyPost_end (v := .tuple #[]) (by simp [results, Tryd.results35]) rfl (show SetR _ _ _ _ _ _ _ from ⟨rfl, ?_, HR.out.2.2.trans Q3.out.2 (Grew.refl w F)⟩)
      have q5 := Q3.out.1
      rw [HE.out] at q5
      exact q5
    have tn : (i : Int) < (n : Int) := by omega
    have i0 : (0 : Int) ≤ (i : Int) := by omega
    have hiw : i < ws.length := by rw [← HN.out.1]; exact hlt
    have hik : i < kl.length := by rw [HN.out.2.2.2]; exact hlt
    obtain ⟨gw, cap2, k1, hgw, -, -, hsrc, hga⟩ := HR.out.2.1.wait (i := i) hiw
    have k1' : wr.cell? ⟨g, 1, none⟩ = some (.slice (some ⟨gw, 0, none⟩) n cap2) := by rw [HN.out.1]; exact k1
    rw [HR.out.1] at k1'
    injection k1' with k1'
    injection k1' with k1' _ k2
    subst k1' k2
    have hsl := HR.out.2.1.wid _ (List.getElem_mem (show i < ws.length from hiw))
    have hin := HR.out.2.1.inn _ (List.getElem_mem (show i < ws.length from hiw))
    have HIK : Hid (i < ws.length ∧ i < kl.length) := ⟨hiw, hik⟩
    obtain ⟨x, hx⟩ : ∃ x, x = ws[i]'HIK.out.1 := ⟨_, rfl⟩
    have hsrc' : ∀ j v, (wcs x)[j]? = some v → wr.cell? ((⟨gw, i * 65, none⟩ : Addr).add j) = some v := by rw [hx]; exact hsrc
    have hsl' : x.2.length = 64 := by rw [hx]; exact hsl
    have hin' : x.1 < (tornW S (ws.take i) (kl.take i)).length := by rw [hx]; exact hin
    have HX := Lib.hid (And.intro hx (And.intro hsl' (And.intro hin' hsrc')))
    have WL : Hid ((wcs x).length = 65) := wcs_len hsl'
    have WZ : Hid ((wcs (0, z64)).length = 65) := wcs_len rfl
    have HLT := Lib.hid hlt
    have CK := Lib.hid (fun W hW => HK.out i HIK.out.2 W hW)
    obtain ⟨kk, hkk⟩ : ∃ kk, kk = kl[i]'HIK.out.2 := ⟨_, rfl⟩
    have HKK := Lib.hid hkk
    rw [← hkk] at CK
    obtain ⟨wa, hwa⟩ : ∃ wa, wa = wr.alloc (.cells (wcs (0, z64)).toArray 79) := ⟨_, rfl⟩
    have XA : Hid (wa.heap[wr.heap.size]? = some (.cells (wcs (0, z64)).toArray 79 (0, 0))) := by show _ = _; rw [hwa]; exact heap_alloc_new wr _
    have BA : Hid (Below wr.heap.size wr wa) := by show Below _ _ _; rw [hwa]; exact (Below.refl _ _).alloc (Nat.le_refl _) _
    have WA := Lib.hid hwa
    clear hsrc hsrc' hsl hsl' hin hin' hx hwa hkk hik hiw k1 hgw hga c1
    go_wp2_with (first
      | (refine wpList_ldN rfl 79 (.tmp 16) rfl ⟨gw, i * 65, none⟩ rfl _ (run_ldN Tryd.underlying79 rfl (by rw [WL.out]; exact wr_info) HX.out.2.2.2) ?_)
      | (refine wpList_allocN13 rfl 79 rfl _ wr_zero ?_; rw [← WA.out])
      | (refine wpList_stRow13 rfl 79 (.tmp 5) (.tmp 17) rfl wr.heap.size (wcs x).toArray rfl rfl 79 _ XA.out (by rw [List.size_toArray, WL.out]; exact wr_info) (by rw [List.size_toArray, List.size_toArray, WL.out, WZ.out]) (fun u hu => wcs_one _ u (by simpa using hu)) ?_; intro wb rb ob bb zb; have RB := Lib.hid rb; have BB := Lib.hid (bb _ _ BA.out (Nat.le_refl _)); clear rb ob bb zb)
      | fail)
    have FB : Hid (Fr F w wb) := HR.out.2.2.trans (Fr.of_below (F := F) BB.out) (Grew.refl w F)
    refine (CK.out wb FB.out).mono ?_
    rintro e w1 ⟨rfl, rfl⟩
    go_wp2_with fail
    refine (cpart_any kk wb).mono ?_
    rintro e w1 ⟨rfl, rfl⟩
    obtain ⟨f, t, e1, e2, h1, h2, h3, h4⟩ := partFT_nat kk
    rw [e1, e2]
    have HP := Lib.hid (And.intro h1 (And.intro h2 (And.intro h3 h4)))
    have cutA := fun (b o : Nat) (W : World) => cut_arr13 (b := b) (o := o) h1 h2 h3 W
    clear e1 e2 h1 h2 h3 h4
    go_wp2_with fail
    have hrb := HR.out.2.1.below BB.out
    have HRB := Lib.hid hrb
    obtain ⟨ga, y0, ha, hFa, hag, hal⟩ := hrb.lens (N := N) (by rw [HN.out.2.1]; exact (tornW_len _ _ _).symm)
    have y1 : wb.cell? ⟨wr.heap.size, 0, none⟩ = some (.int .i64 (x.1 : Int)) := by
      rw [cell_of_row wb _ _ _ _ _ RB.out]; rfl
    have hg1 : wb.cell? ⟨g, 1, none⟩ = some (.slice (some ⟨gw, 0, none⟩) n c) := (BB.out.cell (p := ⟨g, 1, none⟩) HR.out.2.1.lt).trans HR.out.1
    have HG1 := Lib.hid hg1
    obtain ⟨gb, hgb⟩ : ∃ gb, gb = wr.heap.size := ⟨_, rfl⟩
    have HGB := Lib.hid hgb
    rw [← hgb] at y1 RB ⊢
    have tq : (x.1 : Int) < (N : Int) := by have h1 := HX.out.2.2.1; rw [tornW_len] at h1; have := HN.out.2.1; omega
    have tq0 : (0 : Int) ≤ (x.1 : Int) := by omega
    obtain ⟨q, hq⟩ : ∃ q, q = x.1 := ⟨_, rfl⟩
    rw [← hq] at y1 tq tq0
    have HQ := Lib.hid hq
    have HA := Lib.hid (And.intro ha (And.intro hFa (And.intro hag (And.intro hal y0))))
    clear ha hFa hag hal hg1 hgb hq hrb XA BA
    refine wp_region_held_drew (S := fun W => W.cell? ⟨g, 0, none⟩ = some (.slice (some ⟨ga, 0, none⟩) N N) ∧ W.cell? ⟨gb, 0, none⟩ = some (.int .i64 (q : Int))) (by kernel_rfl) ⟨y0, y1⟩ (fun (hHeld : wb.drew.cell? ⟨g, 0, none⟩ = some (.slice (some ⟨ga, 0, none⟩) N N) ∧ wb.drew.cell? ⟨gb, 0, none⟩ = some (.int .i64 (q : Int))) => ?_)
    clear y0
    refine takeR (i := 0) (v := ?v0_1) rfl (by kernel_rfl) (by kernel_rfl) (by kernel_rfl) (fun _ _ _ h => h) (by rfl) ?hy0_1 (by assumption) ?rest0_1
    case hy0_1 => (intro W hSw; have q1 := hSw.1; have q2 := hSw.2; go_simp; try with_reducible rfl)
    try simp only [Act.put]
    try simp only [List.setIfInBounds_toArray]
    try simp only [List.set_cons_succ]
    try simp only [List.set_cons_zero]
    refine takeR (i := 1) (v := ?v1_2) rfl (by kernel_rfl) (by kernel_rfl) (by kernel_rfl) (fun _ _ _ h => h) (by rfl) ?hy1_2 (by assumption) ?rest1_2
    case hy1_2 => (intro W hSw; have q1 := hSw.1; have q2 := hSw.2; go_simp; try with_reducible rfl)
    try simp only [Act.put]
    try simp only [List.setIfInBounds_toArray]
    try simp only [List.set_cons_succ]
    try simp only [List.set_cons_zero]
    refine takeR (i := 2) (v := ?v2_3) rfl (by kernel_rfl) (by kernel_rfl) (by kernel_rfl) (fun _ _ _ h => h) (by rfl) ?hy2_3 (by assumption) ?rest2_3
    case hy2_3 => (intro W hSw; have q1 := hSw.1; have q2 := hSw.2; go_simp; try with_reducible rfl)
    try simp only [Act.put]
    try simp only [List.setIfInBounds_toArray]
    try simp only [List.set_cons_succ]
    try simp only [List.set_cons_zero]
    refine takeR (i := 3) (v := ?v3_4) rfl (by kernel_rfl) (by kernel_rfl) (by kernel_rfl) (fun _ _ _ h => h) (by rfl) ?hy3_4 (by assumption) ?rest3_4
    case hy3_4 => (intro W hSw; have q1 := hSw.1; have q2 := hSw.2; go_simp; try with_reducible rfl)
    try simp only [Act.put]
    try simp only [List.setIfInBounds_toArray]
    try simp only [List.set_cons_succ]
    try simp only [List.set_cons_zero]
    refine takeR (i := 4) (v := ?v4_5) rfl (by kernel_rfl) (by kernel_rfl) (by kernel_rfl) (fun _ _ _ h => h) (by rfl) ?hy4_5 (by assumption) ?rest4_5
    case hy4_5 => (intro W hSw; have q1 := hSw.1; have q2 := hSw.2; go_simp; try with_reducible rfl)
    try simp only [Act.put]
    try simp only [List.setIfInBounds_toArray]
    try simp only [List.set_cons_succ]
    try simp only [List.set_cons_zero]
    refine takeR (i := 5) (v := ?v5_6) rfl (by kernel_rfl) (by kernel_rfl) (by kernel_rfl) (fun _ _ _ h => h) (by rfl) ?hy5_6 (by assumption) ?rest5_6
    case hy5_6 => (intro W hSw; have q1 := hSw.1; have q2 := hSw.2; go_simp; try with_reducible rfl)
    try simp only [Act.put]
    try simp only [List.setIfInBounds_toArray]
    try simp only [List.set_cons_succ]
    try simp only [List.set_cons_zero]
    refine takeR (i := 6) (v := ?v6_7) rfl (by kernel_rfl) (by kernel_rfl) (by kernel_rfl) (fun _ _ _ h => h) (by rfl) ?hy6_7 (by assumption) ?rest6_7
    case hy6_7 => (intro W hSw; have q1 := hSw.1; have q2 := hSw.2; go_simp; try with_reducible rfl)
    try simp only [Act.put]
    try simp only [List.setIfInBounds_toArray]
    try simp only [List.set_cons_succ]
    try simp only [List.set_cons_zero]
    refine takeR (i := 7) (v := ?v7_8) rfl (by kernel_rfl) (by kernel_rfl) (by kernel_rfl) (fun _ _ _ h => h) (by rfl) ?hy7_8 (by assumption) ?rest7_8
    case hy7_8 => (intro W hSw; have q1 := hSw.1; have q2 := hSw.2; go_simp; try with_reducible rfl)
    try simp only [Act.put]
    try simp only [List.setIfInBounds_toArray]
    try simp only [List.set_cons_succ]
    try simp only [List.set_cons_zero]
    refine takeR (i := 8) (v := ?v8_9) rfl (by kernel_rfl) (by kernel_rfl) (by kernel_rfl) (fun _ _ _ h => h) (by rfl) ?hy8_9 (by assumption) ?rest8_9
    case hy8_9 => (intro W hSw; have q1 := hSw.1; have q2 := hSw.2; go_simp; try with_reducible rfl)
    try simp only [Act.put]
    try simp only [List.setIfInBounds_toArray]
    try simp only [List.set_cons_succ]
    try simp only [List.set_cons_zero]
    refine takeR (i := 9) (v := ?v9_10) rfl (by kernel_rfl) (by kernel_rfl) (by kernel_rfl) (fun _ _ _ h => h) (by rfl) ?hy9_10 (by assumption) ?rest9_10
    case hy9_10 => (intro W hSw; have q1 := hSw.1; have q2 := hSw.2; go_simp; try with_reducible rfl)
    try simp only [Act.put]
    try simp only [List.setIfInBounds_toArray]
    try simp only [List.set_cons_succ]
    try simp only [List.set_cons_zero]
    refine takeR (i := 10) (v := ?v10_11) rfl (by kernel_rfl) (by kernel_rfl) (by kernel_rfl) (fun _ _ _ h => h) (by rfl) ?hy10_11 (by assumption) ?rest10_11
    case hy10_11 => (intro W hSw; have q1 := hSw.1; have q2 := hSw.2; go_simp; try with_reducible rfl)
    try simp only [Act.put]
    try simp only [List.setIfInBounds_toArray]
    try simp only [List.set_cons_succ]
    try simp only [List.set_cons_zero]
    refine takeR (i := 11) (v := ?v11_12) rfl (by kernel_rfl) (by kernel_rfl) (by kernel_rfl) (fun _ _ _ h => h) (by rfl) ?hy11_12 (by assumption) ?rest11_12
    case hy11_12 => (intro W hSw; have q1 := hSw.1; have q2 := hSw.2; go_simp; try with_reducible rfl)
    try simp only [Act.put]
    try simp only [List.setIfInBounds_toArray]
    try simp only [List.set_cons_succ]
    try simp only [List.set_cons_zero]
    refine takeR (i := 12) (v := ?v12_13) rfl (by kernel_rfl) (by kernel_rfl) (by kernel_rfl) (fun _ _ _ h => h) (by rfl) ?hy12_13 (by assumption) ?rest12_13
    case hy12_13 => (intro W hSw; have q1 := hSw.1; have q2 := hSw.2; go_simp; try with_reducible rfl)
    try simp only [Act.put]
    try simp only [List.setIfInBounds_toArray]
    try simp only [List.set_cons_succ]
    try simp only [List.set_cons_zero]
    refine takeR (i := 13) (v := ?v13_14) rfl (by kernel_rfl) (by kernel_rfl) (by kernel_rfl) (fun _ _ _ h => h) (by rfl) ?hy13_14 (by assumption) ?rest13_14
    case hy13_14 => (intro W hSw; have q1 := hSw.1; have q2 := hSw.2; go_simp; try with_reducible rfl)
    try simp only [Act.put]
    try simp only [List.setIfInBounds_toArray]
    try simp only [List.set_cons_succ]
    try simp only [List.set_cons_zero]
    refine wpAnyH_ready (rs := [14]) (by kernel_rfl) (by simp) ?_
    refine AllReadyH.cons rfl (fun K hK => ?_) AllReadyH.nil
    refine step_copy13 (by rfl) (.tmp 34) (.tmp 38) 33 33 (by rfl) 5 Tryd.underlying33 (by kernel_rfl) ga (q * 64 + f) ⟨gb, 1 + f, none⟩ (t - f) (64 - f) (64 - f) (by rfl) (by rfl) ((tornW S (ws.take i) (kl.take i)).flatten.map bv) 77 HA.out.1 (((x.2.drop f).take (t - f)).map bv) (wx_len f t x.2 HP.out.1 HP.out.2.1 HX.out.2.1) (wcs_part f (t - f) (w := wb.drew) RB.out) ?_ (bv_one _) ?_
    · rw [wx_len f t x.2 HP.out.1 HP.out.2.1 HX.out.2.1, List.length_map, flat_len HRB.out.wide]
      have h1 := HX.out.2.2.1
      have h2 := HP.out.1
      have h3 := HP.out.2.1
      rw [← HQ.out] at h1
      show q * 64 + f + (t - f) ≤ (tornW S (ws.take i) (kl.take i)).length * 64
      omega
    intro w5 G5 K5 F5
    have hq5 : q < (tornW S (ws.take i) (kl.take i)).length := by rw [HQ.out]; exact HX.out.2.2.1
    have hbg : gb ≠ ga := by have h1 := HR.out.2.1.lens (N := N) (by rw [HN.out.2.1]; exact (tornW_len _ _ _).symm); obtain ⟨ga9, z0, -, -, -, z4⟩ := h1; have h3 := HA.out.2.2.2.2; have h4 := (BB.out.cell (p := ⟨g, 0, none⟩) HR.out.2.1.lt).trans z0; rw [h3] at h4; injection h4 with h4; injection h4 with h4 _ _; injection h4 with h4; injection h4 with h4; have := HGB.out; omega
    have H5 : Hid (w5.cell? ⟨g, 1, none⟩ = some (.slice (some ⟨gw, 0, none⟩) n c) ∧ CDk w5 F B g ⟨tornW S (ws.take (i + 1)) (kl.take (i + 1)), ws, p, l⟩ ∧ Fr F w w5) := by
      refine ⟨(World.cell?_of_block (a := ⟨g, 1, none⟩) (K5.out g HA.out.2.2.1.symm)).trans HG1.out, ?_, (FB.out.trans (w' := wb) (F' := fun k => k = ga) (show Fr (fun k => k = ga) wb w5 from ⟨F5.out.os, F5.out.tape, F5.out.output, F5.out.size, F5.out.block⟩) (fun k e => .inl (e ▸ HA.out.2.1)))⟩
      have h5 := HRB.out.done (w' := w5) HA.out.2.2.2.2 (a := q) hq5 HX.out.2.1 HP.out.1 HP.out.2.1 G5.out K5.out F5.out.size
      have hx1 := HX.out.1
      have e5 : tornW S (ws.take (i + 1)) (kl.take (i + 1)) = (tornW S (ws.take i) (kl.take i)).set q (part ((tornW S (ws.take i) (kl.take i))[q]'hq5) x.2 f t) := by
        rw [List.take_add_one, List.getElem?_eq_getElem HIK.out.1, List.take_add_one, List.getElem?_eq_getElem HIK.out.2]
        show tornW S (ws.take i ++ [ws[i]'HIK.out.1]) (kl.take i ++ [kl[i]'HIK.out.2]) = _
        rw [tornW_snoc _ _ _ (by rw [List.length_take, List.length_take]; have h1 := HIK.out.1; have h2 := HIK.out.2; omega), ← hx1, ← HKK.out, ← HQ.out, HP.out.2.2.2 _ _ (HRB.out.wide _ (List.getElem_mem hq5)) HX.out.2.1, List.getElem?_eq_getElem hq5]
        rfl
      rw [e5]
      exact h5
    have HH5 : w5.cell? ⟨g, 0, none⟩ = some (.slice (some ⟨ga, 0, none⟩) N N) ∧ w5.cell? ⟨gb, 0, none⟩ = some (.int .i64 (q : Int)) := ⟨(World.cell?_of_block (a := ⟨g, 0, none⟩) (K5.out g HA.out.2.2.1.symm)).trans HA.out.2.2.2.2, (World.cell?_of_block (a := ⟨gb, 0, none⟩) (K5.out gb hbg)).trans y1⟩
    refine hK.out _ _ HH5 (fun hHeld => ?_)
    try simp only [Act.put]
    try simp only [List.setIfInBounds_toArray]
    try simp only [List.set_cons_succ]
    try simp only [List.set_cons_zero]
    clear hK K hHeld HH5 hbg hq5 y1
    refine wpAnyH_done (by kernel_rfl) ?_ _
    have hnb := HN.out.2.2.1
    have hlt2 := HLT.out
    go_wp2_with fail
    go_roundw
    case rel => exact ⟨i + 1, by have := HLT.out; omega, by simp, H5⟩
    case measure => simp [intOf]; have := HLT.out; omega

set_option maxRecDepth 100000 in
set_option maxHeartbeats 8000000 in
theorem csettle_keep (w : World) {F : Nat → Prop} {B g : Nat} {D : Cd} {bx : Nat} (kl : List Int) (hkl : kl.length = D.waits.length) (h : CDk w F B g D) (hws : D.waits.length ≤ 1000000)
    (hk : ∀ (i : Nat) (hi : i < kl.length) (W : World), Fr F w W → Calls Tryd.prog 49 (#[.int .i64 (i : Int)] ++ #[.pointer (some ⟨bx, 0, none⟩)]) W fun e w' => e = .returned (.int .i64 kl[i]) ∧ W = w') :
    Calls Tryd.prog 35 #[.pointer (some ⟨g, 0, none⟩), .func (.func 49) #[] #[.pointer (some ⟨bx, 0, none⟩)]] w (SetR w F B g (D.settle kl)) := by
  obtain ⟨S, ws, p, l⟩ := D
  obtain ⟨n, hn⟩ : ∃ n, n = ws.length := ⟨_, rfl⟩
  obtain ⟨N, hN⟩ : ∃ N, N = S.length := ⟨_, rfl⟩
  obtain ⟨ga0, vw0, s1, -, -, -, -, s6, -⟩ := h.st
  obtain ⟨A, c, rfl, -⟩ := len_of_own' s6
  have c1 : w.cell? ⟨g, 1, none⟩ = some (.slice A n c) := by rw [hn]; simp [World.cell?, s1]
  have H := Lib.hid h
  have HN : Hid (n = ws.length ∧ N = S.length ∧ n ≤ 1000000 ∧ kl.length = n) := ⟨hn, hN, by rw [hn]; exact hws, by rw [hn]; exact hkl⟩
  have HK := Lib.hid hk
  have HC1 := Lib.hid c1
  clear s1 s6 hn hN h hws hkl hk
  go_enter Tryd.func35, Tryd.ntmps35
  go_wp2_with fail
  go_loopw [13] (fun k wr => ∃ i : Nat, i ≤ n ∧ k = .int .i64 i ∧ Hid (wr.cell? ⟨g, 1, none⟩ = some (.slice A n c) ∧ CDk wr F B g ⟨tornW S (ws.take i) (kl.take i), ws, p, l⟩ ∧ Fr F w wr)) (fun k _ => n - (intOf k).toNat)
  case atStart =>
    refine ⟨0, Nat.zero_le _, rfl, HC1.out, ?_, Fr.refl F w⟩
    rw [List.take_zero, List.take_zero, tornW_nil]
    exact H.out
  case round =>
    obtain ⟨i, hi, rfl, HR⟩ := hrel
    by_cases hlt : i < n
    case neg =>
      obtain rfl : n = i := by omega
      have tn : ¬ (n : Int) < (n : Int) := by omega
      have HE : Hid (tornW S (ws.take n) (kl.take n) = tornW S ws kl) := tornW_take ws kl S n (.inl (by rw [← HN.out.1]; exact Nat.le_refl _))
      have HOW : Hid (wr.ownsRow B 79 65 (.slice A n c) n (rowW ws)) := by
        obtain ⟨ga1, vw1, t1, -, -, -, -, t6, -⟩ := HR.out.2.1.st
        have t0 := HR.out.1
        have e0 : wr.cell? ⟨g, 1, none⟩ = some vw1 := by simp [World.cell?, t1]
        rw [e0] at t0
        injection t0 with t0
        subst t0
        rw [HN.out.1]
        rw [HN.out.1] at t6
        exact t6
      have r1 := HR.out.1
      have cutn : ∀ W : World, (Instr.slice 80 (.slice A n c) none (some (.int .i64 0)) none).run Tryd.prog W = .ok (.slice A 0 c) W := fun W => cut_none13 W
      clear hlt hi c1
      go_wp2_with (first
        | (refine wpList_clear13 rfl (.tmp 44) 80 rfl B 79 65 (.agg (wcs (0, z64)).toArray) Tryd.underlying80 (by kernel_rfl) rfl (by decide) (fun u hu => wcs_one _ u (by simpa [Value.cells] using hu)) A n c (rowW ws) rfl HOW.out ?_; intro w2 ys ho2 hk2 hf2; obtain ⟨q1, q2, q3, q4⟩ := HR.out.2.1.clear HR.out.1 ho2 hk2 hf2; have Q3 := Lib.hid (And.intro q3 q4); clear ho2 hk2 hf2 q3 q4 r1)
        | fail)
      refine bodyPost_end (v := .tuple #[]) (by simp [results, Tryd.results35]) rfl (show SetR _ _ _ _ _ _ _ from ⟨rfl, ?_, HR.out.2.2.trans Q3.out.2 (Grew.refl w F)⟩)
      have q5 := Q3.out.1
      rw [HE.out] at q5
      exact q5
    have tn : (i : Int) < (n : Int) := by omega
    have i0 : (0 : Int) ≤ (i : Int) := by omega
    have hiw : i < ws.length := by rw [← HN.out.1]; exact hlt
    have hik : i < kl.length := by rw [HN.out.2.2.2]; exact hlt
    obtain ⟨gw, cap2, k1, hgw, -, -, hsrc, hga⟩ := HR.out.2.1.wait (i := i) hiw
    have k1' : wr.cell? ⟨g, 1, none⟩ = some (.slice (some ⟨gw, 0, none⟩) n cap2) := by rw [HN.out.1]; exact k1
    rw [HR.out.1] at k1'
    injection k1' with k1'
    injection k1' with k1' _ k2
    subst k1' k2
    have hsl := HR.out.2.1.wid _ (List.getElem_mem (show i < ws.length from hiw))
    have hin := HR.out.2.1.inn _ (List.getElem_mem (show i < ws.length from hiw))
    have HIK : Hid (i < ws.length ∧ i < kl.length) := ⟨hiw, hik⟩
    obtain ⟨x, hx⟩ : ∃ x, x = ws[i]'HIK.out.1 := ⟨_, rfl⟩
    have hsrc' : ∀ j v, (wcs x)[j]? = some v → wr.cell? ((⟨gw, i * 65, none⟩ : Addr).add j) = some v := by rw [hx]; exact hsrc
    have hsl' : x.2.length = 64 := by rw [hx]; exact hsl
    have hin' : x.1 < (tornW S (ws.take i) (kl.take i)).length := by rw [hx]; exact hin
    have HX := Lib.hid (And.intro hx (And.intro hsl' (And.intro hin' hsrc')))
    have WL : Hid ((wcs x).length = 65) := wcs_len hsl'
    have WZ : Hid ((wcs (0, z64)).length = 65) := wcs_len rfl
    have HLT := Lib.hid hlt
    have CK := Lib.hid (fun W hW => HK.out i HIK.out.2 W hW)
    obtain ⟨kk, hkk⟩ : ∃ kk, kk = kl[i]'HIK.out.2 := ⟨_, rfl⟩
    have HKK := Lib.hid hkk
    rw [← hkk] at CK
    obtain ⟨wa, hwa⟩ : ∃ wa, wa = wr.alloc (.cells (wcs (0, z64)).toArray 79) := ⟨_, rfl⟩
    have XA : Hid (wa.heap[wr.heap.size]? = some (.cells (wcs (0, z64)).toArray 79 (0, 0))) := by show _ = _; rw [hwa]; exact heap_alloc_new wr _
    have BA : Hid (Below wr.heap.size wr wa) := by show Below _ _ _; rw [hwa]; exact (Below.refl _ _).alloc (Nat.le_refl _) _
    have WA := Lib.hid hwa
    clear hsrc hsrc' hsl hsl' hin hin' hx hwa hkk hik hiw k1 hgw hga c1
    go_wp2_with (first
      | (refine wpList_ldN rfl 79 (.tmp 16) rfl ⟨gw, i * 65, none⟩ rfl _ (run_ldN Tryd.underlying79 rfl (by rw [WL.out]; exact wr_info) HX.out.2.2.2) ?_)
      | (refine wpList_allocN13 rfl 79 rfl _ wr_zero ?_; rw [← WA.out])
      | (refine wpList_stRow13 rfl 79 (.tmp 5) (.tmp 17) rfl wr.heap.size (wcs x).toArray rfl rfl 79 _ XA.out (by rw [List.size_toArray, WL.out]; exact wr_info) (by rw [List.size_toArray, List.size_toArray, WL.out, WZ.out]) (fun u hu => wcs_one _ u (by simpa using hu)) ?_; intro wb rb ob bb zb; have RB := Lib.hid rb; have BB := Lib.hid (bb _ _ BA.out (Nat.le_refl _)); clear rb ob bb zb)
      | fail)
    have FB : Hid (Fr F w wb) := HR.out.2.2.trans (Fr.of_below (F := F) BB.out) (Grew.refl w F)
    refine (CK.out wb FB.out).mono ?_
    rintro e w1 ⟨rfl, rfl⟩
    go_wp2_with fail
    refine (cpart_any kk wb).mono ?_
    rintro e w1 ⟨rfl, rfl⟩
    obtain ⟨f, t, e1, e2, h1, h2, h3, h4⟩ := partFT_nat kk
    rw [e1, e2]
    have HP := Lib.hid (And.intro h1 (And.intro h2 (And.intro h3 h4)))
    have cutA := fun (b o : Nat) (W : World) => cut_arr13 (b := b) (o := o) h1 h2 h3 W
    clear e1 e2 h1 h2 h3 h4
    go_wp2_with fail
    have hrb := HR.out.2.1.below BB.out
    have HRB := Lib.hid hrb
    obtain ⟨ga, y0, ha, hFa, hag, hal⟩ := hrb.lens (N := N) (by rw [HN.out.2.1]; exact (tornW_len _ _ _).symm)
    have y1 : wb.cell? ⟨wr.heap.size, 0, none⟩ = some (.int .i64 (x.1 : Int)) := by
      rw [cell_of_row wb _ _ _ _ _ RB.out]; rfl
    have hg1 : wb.cell? ⟨g, 1, none⟩ = some (.slice (some ⟨gw, 0, none⟩) n c) := (BB.out.cell (p := ⟨g, 1, none⟩) HR.out.2.1.lt).trans HR.out.1
    have HG1 := Lib.hid hg1
    obtain ⟨gb, hgb⟩ : ∃ gb, gb = wr.heap.size := ⟨_, rfl⟩
    have HGB := Lib.hid hgb
    rw [← hgb] at y1 RB ⊢
    have tq : (x.1 : Int) < (N : Int) := by have h1 := HX.out.2.2.1; rw [tornW_len] at h1; have := HN.out.2.1; omega
    have tq0 : (0 : Int) ≤ (x.1 : Int) := by omega
    obtain ⟨q, hq⟩ : ∃ q, q = x.1 := ⟨_, rfl⟩
    rw [← hq] at y1 tq tq0
    have HQ := Lib.hid hq
    have HA := Lib.hid (And.intro ha (And.intro hFa (And.intro hag (And.intro hal y0))))
    clear ha hFa hag hal hg1 hgb hq hrb XA BA
    refine wp_region_held_drew (S := fun W => W.cell? ⟨g, 0, none⟩ = some (.slice (some ⟨ga, 0, none⟩) N N) ∧ W.cell? ⟨gb, 0, none⟩ = some (.int .i64 (q : Int))) (by kernel_rfl) ⟨y0, y1⟩ (fun (hHeld : wb.drew.cell? ⟨g, 0, none⟩ = some (.slice (some ⟨ga, 0, none⟩) N N) ∧ wb.drew.cell? ⟨gb, 0, none⟩ = some (.int .i64 (q : Int))) => ?_)
    clear y0
    refine takeR (i := 0) (v := ?v0_1) rfl (by kernel_rfl) (by kernel_rfl) (by kernel_rfl) (fun _ _ _ h => h) (by rfl) ?hy0_1 (by assumption) ?rest0_1
    case hy0_1 => (intro W hSw; have q1 := hSw.1; have q2 := hSw.2; go_simp; try with_reducible rfl)
    try simp only [Act.put]
    try simp only [List.setIfInBounds_toArray]
    try simp only [List.set_cons_succ]
    try simp only [List.set_cons_zero]
    refine takeR (i := 1) (v := ?v1_2) rfl (by kernel_rfl) (by kernel_rfl) (by kernel_rfl) (fun _ _ _ h => h) (by rfl) ?hy1_2 (by assumption) ?rest1_2
    case hy1_2 => (intro W hSw; have q1 := hSw.1; have q2 := hSw.2; go_simp; try with_reducible rfl)
    try simp only [Act.put]
    try simp only [List.setIfInBounds_toArray]
    try simp only [List.set_cons_succ]
    try simp only [List.set_cons_zero]
    refine takeR (i := 2) (v := ?v2_3) rfl (by kernel_rfl) (by kernel_rfl) (by kernel_rfl) (fun _ _ _ h => h) (by rfl) ?hy2_3 (by assumption) ?rest2_3
    case hy2_3 => (intro W hSw; have q1 := hSw.1; have q2 := hSw.2; go_simp; try with_reducible rfl)
    try simp only [Act.put]
    try simp only [List.setIfInBounds_toArray]
    try simp only [List.set_cons_succ]
    try simp only [List.set_cons_zero]
    refine takeR (i := 3) (v := ?v3_4) rfl (by kernel_rfl) (by kernel_rfl) (by kernel_rfl) (fun _ _ _ h => h) (by rfl) ?hy3_4 (by assumption) ?rest3_4
    case hy3_4 => (intro W hSw; have q1 := hSw.1; have q2 := hSw.2; go_simp; try with_reducible rfl)
    try simp only [Act.put]
    try simp only [List.setIfInBounds_toArray]
    try simp only [List.set_cons_succ]
    try simp only [List.set_cons_zero]
    refine takeR (i := 4) (v := ?v4_5) rfl (by kernel_rfl) (by kernel_rfl) (by kernel_rfl) (fun _ _ _ h => h) (by rfl) ?hy4_5 (by assumption) ?rest4_5
    case hy4_5 => (intro W hSw; have q1 := hSw.1; have q2 := hSw.2; go_simp; try with_reducible rfl)
    try simp only [Act.put]
    try simp only [List.setIfInBounds_toArray]
    try simp only [List.set_cons_succ]
    try simp only [List.set_cons_zero]
    refine takeR (i := 5) (v := ?v5_6) rfl (by kernel_rfl) (by kernel_rfl) (by kernel_rfl) (fun _ _ _ h => h) (by rfl) ?hy5_6 (by assumption) ?rest5_6
    case hy5_6 => (intro W hSw; have q1 := hSw.1; have q2 := hSw.2; go_simp; try with_reducible rfl)
    try simp only [Act.put]
    try simp only [List.setIfInBounds_toArray]
    try simp only [List.set_cons_succ]
    try simp only [List.set_cons_zero]
    refine takeR (i := 6) (v := ?v6_7) rfl (by kernel_rfl) (by kernel_rfl) (by kernel_rfl) (fun _ _ _ h => h) (by rfl) ?hy6_7 (by assumption) ?rest6_7
    case hy6_7 => (intro W hSw; have q1 := hSw.1; have q2 := hSw.2; go_simp; try with_reducible rfl)
    try simp only [Act.put]
    try simp only [List.setIfInBounds_toArray]
    try simp only [List.set_cons_succ]
    try simp only [List.set_cons_zero]
    refine takeR (i := 7) (v := ?v7_8) rfl (by kernel_rfl) (by kernel_rfl) (by kernel_rfl) (fun _ _ _ h => h) (by rfl) ?hy7_8 (by assumption) ?rest7_8
    case hy7_8 => (intro W hSw; have q1 := hSw.1; have q2 := hSw.2; go_simp; try with_reducible rfl)
    try simp only [Act.put]
    try simp only [List.setIfInBounds_toArray]
    try simp only [List.set_cons_succ]
    try simp only [List.set_cons_zero]
    refine takeR (i := 8) (v := ?v8_9) rfl (by kernel_rfl) (by kernel_rfl) (by kernel_rfl) (fun _ _ _ h => h) (by rfl) ?hy8_9 (by assumption) ?rest8_9
    case hy8_9 => (intro W hSw; have q1 := hSw.1; have q2 := hSw.2; go_simp; try with_reducible rfl)
    try simp only [Act.put]
    try simp only [List.setIfInBounds_toArray]
    try simp only [List.set_cons_succ]
    try simp only [List.set_cons_zero]
    refine takeR (i := 9) (v := ?v9_10) rfl (by kernel_rfl) (by kernel_rfl) (by kernel_rfl) (fun _ _ _ h => h) (by rfl) ?hy9_10 (by assumption) ?rest9_10
    case hy9_10 => (intro W hSw; have q1 := hSw.1; have q2 := hSw.2; go_simp; try with_reducible rfl)
    try simp only [Act.put]
    try simp only [List.setIfInBounds_toArray]
    try simp only [List.set_cons_succ]
    try simp only [List.set_cons_zero]
    refine takeR (i := 10) (v := ?v10_11) rfl (by kernel_rfl) (by kernel_rfl) (by kernel_rfl) (fun _ _ _ h => h) (by rfl) ?hy10_11 (by assumption) ?rest10_11
    case hy10_11 => (intro W hSw; have q1 := hSw.1; have q2 := hSw.2; go_simp; try with_reducible rfl)
    try simp only [Act.put]
    try simp only [List.setIfInBounds_toArray]
    try simp only [List.set_cons_succ]
    try simp only [List.set_cons_zero]
    refine takeR (i := 11) (v := ?v11_12) rfl (by kernel_rfl) (by kernel_rfl) (by kernel_rfl) (fun _ _ _ h => h) (by rfl) ?hy11_12 (by assumption) ?rest11_12
    case hy11_12 => (intro W hSw; have q1 := hSw.1; have q2 := hSw.2; go_simp; try with_reducible rfl)
    try simp only [Act.put]
    try simp only [List.setIfInBounds_toArray]
    try simp only [List.set_cons_succ]
    try simp only [List.set_cons_zero]
    refine takeR (i := 12) (v := ?v12_13) rfl (by kernel_rfl) (by kernel_rfl) (by kernel_rfl) (fun _ _ _ h => h) (by rfl) ?hy12_13 (by assumption) ?rest12_13
    case hy12_13 => (intro W hSw; have q1 := hSw.1; have q2 := hSw.2; go_simp; try with_reducible rfl)
    try simp only [Act.put]
    try simp only [List.setIfInBounds_toArray]
    try simp only [List.set_cons_succ]
    try simp only [List.set_cons_zero]
    refine takeR (i := 13) (v := ?v13_14) rfl (by kernel_rfl) (by kernel_rfl) (by kernel_rfl) (fun _ _ _ h => h) (by rfl) ?hy13_14 (by assumption) ?rest13_14
    case hy13_14 => (intro W hSw; have q1 := hSw.1; have q2 := hSw.2; go_simp; try with_reducible rfl)
    try simp only [Act.put]
    try simp only [List.setIfInBounds_toArray]
    try simp only [List.set_cons_succ]
    try simp only [List.set_cons_zero]
    refine wpAnyH_ready (rs := [14]) (by kernel_rfl) (by simp) ?_
    refine AllReadyH.cons rfl (fun K hK => ?_) AllReadyH.nil
    refine step_copy13 (by rfl) (.tmp 34) (.tmp 38) 33 33 (by rfl) 5 Tryd.underlying33 (by kernel_rfl) ga (q * 64 + f) ⟨gb, 1 + f, none⟩ (t - f) (64 - f) (64 - f) (by rfl) (by rfl) ((tornW S (ws.take i) (kl.take i)).flatten.map bv) 77 HA.out.1 (((x.2.drop f).take (t - f)).map bv) (wx_len f t x.2 HP.out.1 HP.out.2.1 HX.out.2.1) (wcs_part f (t - f) (w := wb.drew) RB.out) ?_ (bv_one _) ?_
    · rw [wx_len f t x.2 HP.out.1 HP.out.2.1 HX.out.2.1, List.length_map, flat_len HRB.out.wide]
      have h1 := HX.out.2.2.1
      have h2 := HP.out.1
      have h3 := HP.out.2.1
      rw [← HQ.out] at h1
      show q * 64 + f + (t - f) ≤ (tornW S (ws.take i) (kl.take i)).length * 64
      omega
    intro w5 G5 K5 F5
    have hq5 : q < (tornW S (ws.take i) (kl.take i)).length := by rw [HQ.out]; exact HX.out.2.2.1
    have hbg : gb ≠ ga := by have h1 := HR.out.2.1.lens (N := N) (by rw [HN.out.2.1]; exact (tornW_len _ _ _).symm); obtain ⟨ga9, z0, -, -, -, z4⟩ := h1; have h3 := HA.out.2.2.2.2; have h4 := (BB.out.cell (p := ⟨g, 0, none⟩) HR.out.2.1.lt).trans z0; rw [h3] at h4; injection h4 with h4; injection h4 with h4 _ _; injection h4 with h4; injection h4 with h4; have := HGB.out; omega
    have H5 : Hid (w5.cell? ⟨g, 1, none⟩ = some (.slice (some ⟨gw, 0, none⟩) n c) ∧ CDk w5 F B g ⟨tornW S (ws.take (i + 1)) (kl.take (i + 1)), ws, p, l⟩ ∧ Fr F w w5) := by
      refine ⟨(World.cell?_of_block (a := ⟨g, 1, none⟩) (K5.out g HA.out.2.2.1.symm)).trans HG1.out, ?_, (FB.out.trans (w' := wb) (F' := fun k => k = ga) (show Fr (fun k => k = ga) wb w5 from ⟨F5.out.os, F5.out.tape, F5.out.output, F5.out.size, F5.out.block⟩) (fun k e => .inl (e ▸ HA.out.2.1)))⟩
      have h5 := HRB.out.done (w' := w5) HA.out.2.2.2.2 (a := q) hq5 HX.out.2.1 HP.out.1 HP.out.2.1 G5.out K5.out F5.out.size
      have hx1 := HX.out.1
      have e5 : tornW S (ws.take (i + 1)) (kl.take (i + 1)) = (tornW S (ws.take i) (kl.take i)).set q (part ((tornW S (ws.take i) (kl.take i))[q]'hq5) x.2 f t) := by
        rw [List.take_add_one, List.getElem?_eq_getElem HIK.out.1, List.take_add_one, List.getElem?_eq_getElem HIK.out.2]
        show tornW S (ws.take i ++ [ws[i]'HIK.out.1]) (kl.take i ++ [kl[i]'HIK.out.2]) = _
        rw [tornW_snoc _ _ _ (by rw [List.length_take, List.length_take]; have h1 := HIK.out.1; have h2 := HIK.out.2; omega), ← hx1, ← HKK.out, ← HQ.out, HP.out.2.2.2 _ _ (HRB.out.wide _ (List.getElem_mem hq5)) HX.out.2.1, List.getElem?_eq_getElem hq5]
        rfl
      rw [e5]
      exact h5
    have HH5 : w5.cell? ⟨g, 0, none⟩ = some (.slice (some ⟨ga, 0, none⟩) N N) ∧ w5.cell? ⟨gb, 0, none⟩ = some (.int .i64 (q : Int)) := ⟨(World.cell?_of_block (a := ⟨g, 0, none⟩) (K5.out g HA.out.2.2.1.symm)).trans HA.out.2.2.2.2, (World.cell?_of_block (a := ⟨gb, 0, none⟩) (K5.out gb hbg)).trans y1⟩
    refine hK.out _ _ HH5 (fun hHeld => ?_)
    try simp only [Act.put]
    try simp only [List.setIfInBounds_toArray]
    try simp only [List.set_cons_succ]
    try simp only [List.set_cons_zero]
    clear hK K hHeld HH5 hbg hq5 y1
    refine wpAnyH_done (by kernel_rfl) ?_ _
    have hnb := HN.out.2.2.1
    have hlt2 := HLT.out
    go_wp2_with fail
    go_roundw
    case rel => exact ⟨i + 1, by have := HLT.out; omega, by simp, H5⟩
    case measure => simp [intOf]; have := HLT.out; omega
end Go.Proofs.YtahgaogmcffglaaDoor
