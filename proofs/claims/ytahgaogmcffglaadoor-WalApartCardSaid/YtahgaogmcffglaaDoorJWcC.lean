/- The code's log: a head read. -/
import Derived.Test.YtahgaogmcffglaaDoorJWcB
namespace Go.Proofs.YtahgaogmcffglaaDoor
open Go.RowKit

/-- What readHead answers. -/
def RhR (a n : Nat) (l : List UInt8) (w : World) (e : Ending) (w' : World) : Prop := Below w.heap.size w w' ∧ e = .returned (.tuple #[hdV (hdW a n l).1 (hdW a n l).2, .bool (rhW a n l).isSome])
theorem rhR_no {a n : Nat} {l : List UInt8} {w w' : World} {e : Ending} (h : rhW a n l = none) (hb : Below w.heap.size w w') (he : e = .returned (.tuple #[hdV 0 0, .bool false])) : RhR a n l w e w' := ⟨hb, by rw [he]; unfold hdW; rw [h]; rfl⟩
theorem rhR_yes {a n t len : Nat} {l : List UInt8} {w w' : World} {e : Ending} (h : rhW a n l = some (t, len)) (hb : Below w.heap.size w w') (he : e = .returned (.tuple #[hdV t len, .bool true])) : RhR a n l w e w' := ⟨hb, by rw [he]; unfold hdW; rw [h]; rfl⟩
set_option maxRecDepth 100000 in
set_option maxHeartbeats 8000000 in
theorem wreadHead_any (X : Snt14) (a n : Nat) (A : Option Addr) (m c B : Nat) (l : List UInt8) (w : World) (hA : Lds14 X w) (ha : a ≤ 65536) (hn1 : 1 ≤ n) (hn : n ≤ 65536) (h : Rd w B A m l) (hB : B ≤ w.heap.size) (hm : m ≤ 140737488355328) (hc : m ≤ c) (hc2 : c ≤ 9223372036854775807) :
    Calls Tryd.prog 55 #[plV a n, .slice A m c] w (RhR a n l w) := by
  have HSL : Hid (saltW a n < 18446744073709551616) := by show saltW a n < _; unfold saltW; omega
  have CS := Lib.hid (fun W => wsalt_any a n W ha hn)
  have CR := Lib.hid (fun W => wroom_any a n W hn1 (Nat.le_trans hn (by decide)))
  have CN := Lib.hid (fun W (hW : Below w.heap.size w W) => cnext_any X (saltW a n) A m c B l W (hA.below hW (Nat.le_refl _)) HSL.out (h.below (hW.mono hB)) (Nat.le_trans hB hW.size) hm hc hc2)
  obtain ⟨W0, hW0⟩ : ∃ W0, W0 = (w.alloc (.cells #[.int .i64 (a : Int), .int .i64 (n : Int)] 58)).alloc (.cells #[.int .u64 0, .int .i64 0] 61) := ⟨_, rfl⟩
  have hb0 : Below w.heap.size w W0 := by rw [hW0]; exact ((Below.refl _ _).alloc (Nat.le_refl _) _).alloc (by simp) _
  have hs0 : w.heap.size + 2 ≤ W0.heap.size := by rw [hW0]; simp
  have hp : W0.heap[w.heap.size]? = some (.cells #[.int .i64 (a : Int), .int .i64 (n : Int)] 58 (0, 0)) := by rw [hW0]; exact heap_alloc2_old w _ _
  have hh : W0.heap[w.heap.size + 1]? = some (.cells #[.int .u64 0, .int .i64 0] 61 (0, 0)) := by rw [hW0]; exact heap_alloc2_new w _ _
  have KP : Hid (∀ W, Below W0.heap.size W0 W → W.cell? ⟨w.heap.size, 0, none⟩ = some (.int .i64 (a : Int)) ∧ W.cell? ⟨w.heap.size, 1, none⟩ = some (.int .i64 (n : Int))) := fun W hW => (row2 ((hW.block w.heap.size (by omega)).trans hp)).1
  have KH : Hid (∀ W, Below W0.heap.size W0 W → W.heap[w.heap.size + 1]? = some (.cells #[.int .u64 0, .int .i64 0] 61 (0, 0))) := fun W hW => (hW.block (w.heap.size + 1) (by omega)).trans hh
  have HB0 := Lib.hid hb0
  have HS0 := Lib.hid hs0
  have HTN : Hid (RhR a n l = RhR a n l) := rfl
  obtain ⟨p0, p1⟩ := KP.out W0 (Below.refl _ _)
  obtain ⟨NX, hNX⟩ : ∃ NX, NX = nextR (saltW a n) l := ⟨_, rfl⟩
  have EN := Lib.hid hNX
  clear hb0 hs0 hp hh hA h hB hc hc2 hm HTN
  unfold plV NexR recV at *
  rw [← hNX] at CN
  clear hNX
  go_enter Tryd.func55, Tryd.ntmps55
  go_upto_region 1 with fail
  rw [← hW0]
  clear hW0
  obtain ⟨⟨ty, dt⟩, sz, er⟩ := NX
  simp only at CN
  go_upto_region 2 with (first
    | (go_at_call 64; refine (CS.out _).mono ?_; rintro e w1 ⟨rfl, hb1⟩; have B1 := Lib.hid hb1; clear hb1)
    | (go_at_call 63; refine (CN.out _ (HB0.out.trans (B1.out.mono HB0.out.size))).mono ?_; rintro e w3 ⟨hb3, A3, n3, c3, rfl, ho3⟩; have O3 := Lib.hid ho3; have B3 := Lib.hid (B1.out.trans (hb3.mono B1.out.size)); clear ho3 hb3)
    | fail)
  obtain ⟨W4, hW4⟩ : ∃ W4, W4 = w3.alloc (.cells #[.int .i64 ty, .slice A3 n3 c3] 35) := ⟨_, rfl⟩
  rw [← hW4]
  have hb4 : Below w3.heap.size w3 W4 := by rw [hW4]; exact (Below.refl _ _).alloc (Nat.le_refl _) _
  have h4 : W4.heap[w3.heap.size]? = some (.cells #[.int .i64 ty, .slice A3 n3 c3] 35 (0, 0)) := by rw [hW4]; exact heap_alloc_new w3 _
  have B4 : Hid (Below W0.heap.size W0 W4) := B3.out.trans (hb4.mono B3.out.size)
  have KR : Hid (∀ W, Below W4.heap.size W4 W → W.cell? ⟨w3.heap.size, 0, none⟩ = some (.int .i64 ty) ∧ W.cell? ⟨w3.heap.size, 1, none⟩ = some (.slice A3 n3 c3)) := fun W hW => (row2 ((hW.block w3.heap.size (by rw [hW4]; simp)).trans h4)).1
  have R4 : Hid (Rd W4 W4.heap.size A3 n3 dt) := ((O3.out.below hb4).rd_).2.1
  have HD : Hid (dt.length = n3) := O3.out.rd_.1
  have HC3 : Hid (n3 ≤ c3) := O3.out.rd_.2.2.1
  obtain ⟨r0, r1⟩ := KR.out W4 (Below.refl _ _)
  obtain ⟨⟨y0, y1⟩, z0, z1⟩ := row2 (KH.out W4 B4.out)
  clear hW4 hb4 h4 O3
  have HNO : Hid (∀ W, rhW a n l = none → Below w.heap.size w W → RhR a n l w (.returned (.tuple #[hdV 0 0, .bool false])) W) := fun W h1 h2 => rhR_no h1 h2 rfl
  have HST : Hid (∀ W : World, ∀ (T L : Nat), Below W0.heap.size W0 W → Below w.heap.size w ((W.setCell ⟨w.heap.size + 1, 0, none⟩ (.int .u64 (T : Int))).setCell ⟨w.heap.size + 1, 1, none⟩ (.int .i64 (L : Int)))) := fun W T L hW => ((HB0.out.trans (hW.mono HB0.out.size)).setCell (Nat.le_succ _) _).setCell (Nat.le_succ _) _
  have HSC : Hid (∀ W : World, ∀ (T L : Nat), Below W0.heap.size W0 W → ((W.setCell ⟨w.heap.size + 1, 0, none⟩ (.int .u64 (T : Int))).setCell ⟨w.heap.size + 1, 1, none⟩ (.int .i64 (L : Int))).heap[w.heap.size + 1]? = some (.cells #[.int .u64 (T : Int), .int .i64 (L : Int)] 61 (0, 0))) := fun W T L hW => row_setC (row_setC (KH.out W hW) 0 _) 1 _
  by_cases he : er = 0
  case neg =>
    have HN0 : Hid (rhW a n l = none) := by
      show _ = _
      unfold rhW
      rw [← EN.out, if_neg]
      exact fun hh => he hh.1
    have e1 : (er != 0) = true := by rw [bne_iff_ne]; exact he
    go_wp2_with fail
    obtain ⟨⟨s0, s1⟩, -, -⟩ := row2 (HSC.out W4 0 0 B4.out)
    exact bodyPost_ret (res_h2 Tryd.results55 _ _ (t := 0) (len := 0) rfl s0 s1) rfl (HNO.out _ HN0.out (HST.out _ 0 0 B4.out))
  subst he
  by_cases hty : ty = 1
  case neg =>
    have HN0 : Hid (rhW a n l = none) := by
      show _ = _
      unfold rhW
      rw [← EN.out, if_neg]
      exact fun hh => hty hh.2.1
    have e1 : (ty != 1) = true := by rw [bne_iff_ne]; exact hty
    go_wp2_with fail
    obtain ⟨⟨s0, s1⟩, -, -⟩ := row2 (HSC.out W4 0 0 B4.out)
    exact bodyPost_ret (res_h2 Tryd.results55 _ _ (t := 0) (len := 0) rfl s0 s1) rfl (HNO.out _ HN0.out (HST.out _ 0 0 B4.out))
  subst hty
  by_cases hn3 : n3 = 16
  case neg =>
    have HN0 : Hid (rhW a n l = none) := by
      show _ = _
      unfold rhW
      rw [← EN.out, if_neg]
      exact fun hh => hn3 (HD.out.symm.trans hh.2.2.1)
    have e1 : ((n3 : Int) != 16) = true := by rw [bne_iff_ne]; omega
    go_wp2_with fail
    obtain ⟨⟨s0, s1⟩, -, -⟩ := row2 (HSC.out W4 0 0 B4.out)
    exact bodyPost_ret (res_h2 Tryd.results55 _ _ (t := 0) (len := 0) rfl s0 s1) rfl (HNO.out _ HN0.out (HST.out _ 0 0 B4.out))
  subst hn3
  obtain ⟨Aa, ca, cuta, hca, hca2, hra⟩ := cut_h (P := Tryd.prog) 33 5 Tryd.underlying33 size_u8 c3 R4.out 8 8 rfl (by decide) HC3.out
  obtain ⟨Ab, cb, cutb, hrb⟩ := cut_l (P := Tryd.prog) 33 5 Tryd.underlying33 size_u8 c3 R4.out 8 8 rfl (by decide) HC3.out
  have CA := Lib.hid (fun W (hW : Below W4.heap.size W4 W) => wget_any Aa 8 ca (dt.take 8) W W4.heap.size (hra.below hW) (by decide))
  have CB := Lib.hid (fun W (hW : Below W4.heap.size W4 W) => wget_any Ab (16 - 8) cb (dt.drop 8) W W4.heap.size (hrb.2.2.below hW) (by decide))
  obtain ⟨T, hT⟩ : ∃ T, T = beNat (dt.take 8) := ⟨_, rfl⟩
  obtain ⟨L, hL⟩ : ∃ L, L = beNat (dt.drop 8) := ⟨_, rfl⟩
  rw [← hT] at CA
  rw [← hL] at CB
  have hLb : L < 18446744073709551616 := by rw [hL]; exact beNat_lt _
  have HT := Lib.hid hT
  have HL := Lib.hid hL
  clear hT hL
  clear hra hrb hca hca2
  go_upto_region 4 with fail
  refine wp_region_held_drew (S := fun W => Below W4.heap.size W4 W) (by kernel_rfl) (Below.refl _ _).drew (fun hHeld => ?_)
  refine takeR (i := 0) (v := ?v0_1) rfl (by kernel_rfl) (by kernel_rfl) (by kernel_rfl) (fun _ _ _ h => h) (by rfl) ?hy0_1 (by assumption) ?rest0_1
  case hy0_1 => (intro W hSw; obtain ⟨q0, q1⟩ := KR.out W hSw; go_simp; try with_reducible rfl)
  try simp only [Act.put]
  try simp only [List.setIfInBounds_toArray]
  try simp only [List.set_cons_succ]
  try simp only [List.set_cons_zero]
  refine takeR (i := 1) (v := ?v1_2) rfl (by kernel_rfl) (by kernel_rfl) (by kernel_rfl) (fun _ _ _ h => h) (by rfl) ?hy1_2 (by assumption) ?rest1_2
  case hy1_2 => (intro W hSw; obtain ⟨q0, q1⟩ := KR.out W hSw; go_simp; try with_reducible rfl)
  try simp only [Act.put]
  try simp only [List.setIfInBounds_toArray]
  try simp only [List.set_cons_succ]
  try simp only [List.set_cons_zero]
  refine takeR (i := 2) (v := ?v2_3) rfl (by kernel_rfl) (by kernel_rfl) (by kernel_rfl) (fun _ _ _ h => h) (by rfl) ?hy2_3 (by assumption) ?rest2_3
  case hy2_3 => (intro W hSw; obtain ⟨q0, q1⟩ := KR.out W hSw; go_simp; try with_reducible rfl)
  try simp only [Act.put]
  try simp only [List.setIfInBounds_toArray]
  try simp only [List.set_cons_succ]
  try simp only [List.set_cons_zero]
  refine takeR (i := 4) (v := ?v4_4) rfl (by kernel_rfl) (by kernel_rfl) (by kernel_rfl) (fun _ _ _ h => h) (by rfl) ?hy4_4 (by assumption) ?rest4_4
  case hy4_4 => (intro W hSw; obtain ⟨q0, q1⟩ := KR.out W hSw; go_simp; try with_reducible rfl)
  try simp only [Act.put]
  try simp only [List.setIfInBounds_toArray]
  try simp only [List.set_cons_succ]
  try simp only [List.set_cons_zero]
  refine takeR (i := 5) (v := ?v5_5) rfl (by kernel_rfl) (by kernel_rfl) (by kernel_rfl) (fun _ _ _ h => h) (by rfl) ?hy5_5 (by assumption) ?rest5_5
  case hy5_5 => (intro W hSw; obtain ⟨q0, q1⟩ := KR.out W hSw; go_simp; try with_reducible rfl)
  try simp only [Act.put]
  try simp only [List.setIfInBounds_toArray]
  try simp only [List.set_cons_succ]
  try simp only [List.set_cons_zero]
  refine takeR (i := 6) (v := ?v6_6) rfl (by kernel_rfl) (by kernel_rfl) (by kernel_rfl) (fun _ _ _ h => h) (by rfl) ?hy6_6 (by assumption) ?rest6_6
  case hy6_6 => (intro W hSw; obtain ⟨q0, q1⟩ := KR.out W hSw; go_simp; try with_reducible rfl)
  try simp only [Act.put]
  try simp only [List.setIfInBounds_toArray]
  try simp only [List.set_cons_succ]
  try simp only [List.set_cons_zero]
  have D4 : Hid (Below W4.heap.size W4 W4.drew) := (Below.refl _ _).drew
  clear hHeld r0 r1 y0 y1 z0 z1
  refine wpAnyH_ready (rs := [3]) (by kernel_rfl) (by simp) ?_
  refine AllReadyH.cons rfl (fun K hK => ?_) AllReadyH.nil
  rw [if_pos (by rfl)]
  go_simp
  refine (CA.out _ D4.out).mono ?_
  rintro e w5 ⟨rfl, rfl⟩
  go_simp
  refine hK.out _ _ (D4.out) (fun hHeld => ?_)
  try simp only [Act.put]
  try simp only [List.setIfInBounds_toArray]
  try simp only [List.set_cons_succ]
  try simp only [List.set_cons_zero]
  clear hK K
  clear hHeld
  refine wpAnyH_ready (rs := [7]) (by kernel_rfl) (by simp) ?_
  refine AllReadyH.cons rfl (fun K hK => ?_) AllReadyH.nil
  rw [if_pos (by rfl)]
  go_simp
  refine (CB.out _ D4.out).mono ?_
  rintro e w6 ⟨rfl, rfl⟩
  go_simp
  refine hK.out _ _ (D4.out) (fun hHeld => ?_)
  try simp only [Act.put]
  try simp only [List.setIfInBounds_toArray]
  try simp only [List.set_cons_succ]
  try simp only [List.set_cons_zero]
  clear hK K
  refine takeR (i := 8) (v := ?v8_7) rfl (by kernel_rfl) (by kernel_rfl) (by kernel_rfl) (fun _ _ _ h => h) (by rfl) ?hy8_7 (by assumption) ?rest8_7
  case hy8_7 => (intro W hSw; go_simp; try with_reducible rfl)
  try simp only [Act.put]
  try simp only [List.setIfInBounds_toArray]
  try simp only [List.set_cons_succ]
  try simp only [List.set_cons_zero]
  refine takeR (i := 9) (v := ?v9_8) rfl (by kernel_rfl) (by kernel_rfl) (by kernel_rfl) (fun _ _ _ h => h) (by rfl) ?hy9_8 (by assumption) ?rest9_8
  case hy9_8 => (intro W hSw; go_simp; try with_reducible rfl)
  try simp only [Act.put]
  try simp only [List.setIfInBounds_toArray]
  try simp only [List.set_cons_succ]
  try simp only [List.set_cons_zero]
  refine wpAnyH_done (by kernel_rfl) ?_ _
  have B5 : Hid (Below W0.heap.size W0 W4.drew) := B4.out.trans (D4.out.mono B4.out.size)
  obtain ⟨p0, p1⟩ := KP.out _ B5.out
  have u1 : IntKind.u64.wrap ((hlf n * 64 : Nat) : Int) = ((hlf n * 64 : Nat) : Int) := by have h : hlf n ≤ 32768 := (by unfold hlf; omega); rw [IntKind.wrap_u64]; omega
  obtain ⟨rm, hrm⟩ : ∃ rm, rm = hlf n * 64 := ⟨_, rfl⟩
  rw [← hrm] at CR u1
  have HRM := Lib.hid hrm
  clear hrm
  by_cases hlr : L ≤ rm
  case neg =>
    have HN0 : Hid (rhW a n l = none) := by
      show _ = _
      unfold rhW
      rw [← EN.out, if_neg]
      exact fun hh => hlr (by rw [HL.out, HRM.out]; exact hh.2.2.2)
    have g1 : (rm : Int) < (L : Int) := by omega
    clear CA CB cuta cutb
    go_wp2_with (first
      | (go_at_call 39; refine (CR.out _).mono ?_; rintro e w7 ⟨rfl, hb7⟩; have B7 := Lib.hid (B5.out.trans (hb7.mono B5.out.size)); clear hb7 p0 p1; obtain ⟨⟨y0, y1⟩, z0, z1⟩ := row2 (KH.out w7 B7.out))
      | fail)
    obtain ⟨⟨s0, s1⟩, -, -⟩ := row2 (HSC.out w7 0 0 B7.out)
    exact bodyPost_ret (res_h2 Tryd.results55 _ _ (t := 0) (len := 0) rfl s0 s1) rfl (HNO.out _ HN0.out (HST.out _ 0 0 B7.out))
  have g1 : ¬ (rm : Int) < (L : Int) := by omega
  have w8 : IntKind.i64.wrap (L : Int) = (L : Int) := by have h : hlf n ≤ 32768 := (by unfold hlf; omega); have := HRM.out; rw [IntKind.wrap_i64]; omega
  have HY0 : Hid (rhW a n l = some (T, L)) := by
    show _ = _
    unfold rhW
    rw [← EN.out, if_pos ⟨rfl, rfl, HD.out, by rw [← HRM.out]; exact HL.out ▸ hlr⟩]
    rw [HT.out, HL.out]
  clear CA CB cuta cutb
  go_wp2_with (first
    | (go_at_call 39; refine (CR.out _).mono ?_; rintro e w7 ⟨rfl, hb7⟩; have B7 := Lib.hid (B5.out.trans (hb7.mono B5.out.size)); clear hb7 p0 p1; obtain ⟨⟨y0, y1⟩, z0, z1⟩ := row2 (KH.out w7 B7.out))
    | fail)
  obtain ⟨⟨s0, s1⟩, -, -⟩ := row2 (HSC.out w7 T L B7.out)
  exact bodyPost_ret (res_h2 Tryd.results55 _ _ (t := T) (len := L) rfl s0 s1) rfl (rhR_yes HY0.out (HST.out _ T L B7.out) rfl)
end Go.Proofs.YtahgaogmcffglaaDoor
