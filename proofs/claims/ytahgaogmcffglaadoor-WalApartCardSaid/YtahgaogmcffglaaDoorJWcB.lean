/- The code's log: a head written. -/
import Derived.Test.YtahgaogmcffglaaDoorJDskW
import Derived.Test.YtahgaogmcffglaaDoorJWcA
namespace Go.Proofs.YtahgaogmcffglaaDoor
open Go.RowKit

set_option maxRecDepth 100000 in
set_option maxHeartbeats 8000000 in
theorem wframe_any (X : Snt14) (a n t len : Nat) (w : World) (hA : Lds14 X w) (ha : a ≤ 65536) (hn : n ≤ 65536) (ht : t < 18446744073709551616) (hl : len ≤ 140737488355328) :
    Calls Tryd.prog 62 #[hdV t len, plV a n] w fun e w' => ∃ v, e = .returned (.tuple #[v, .int .i64 0]) ∧ Ob w' w.heap.size 5 v (hdF a n t len) ∧ Below w.heap.size w w' := by
  have u1 : IntKind.u64.wrap (len : Int) = (len : Int) := by rw [IntKind.wrap_u64]; omega
  have HSL : Hid (saltW a n < 18446744073709551616) := by show saltW a n < _; unfold saltW; omega
  have CT := Lib.hid (fun W => wput_any t W ht)
  have CL : Hid (∀ W : World, Calls Tryd.prog 69 #[.int .u64 (IntKind.u64.wrap (len : Int))] W (GivesO 5 (be len 8) W)) := fun W => by rw [u1]; exact wput_any len W (by omega)
  clear u1
  have CS := Lib.hid (fun W => wsalt_any a n W ha hn)
  obtain ⟨W0, hW0⟩ : ∃ W0, W0 = (w.alloc (.cells #[.int .u64 (t : Int), .int .i64 (len : Int)] 61)).alloc (.cells #[.int .i64 (a : Int), .int .i64 (n : Int)] 58) := ⟨_, rfl⟩
  have hb0 : Below w.heap.size w W0 := by rw [hW0]; exact ((Below.refl _ _).alloc (Nat.le_refl _) _).alloc (by simp) _
  have f0 : W0.cell? ⟨w.heap.size, 0, none⟩ = some (.int .u64 (t : Int)) := by rw [hW0]; simp
  have f1 : W0.cell? ⟨w.heap.size, 1, none⟩ = some (.int .i64 (len : Int)) := by rw [hW0]; simp
  have f2 : W0.cell? ⟨w.heap.size + 1, 0, none⟩ = some (.int .i64 (a : Int)) := by rw [hW0]; simp
  have f3 : W0.cell? ⟨w.heap.size + 1, 1, none⟩ = some (.int .i64 (n : Int)) := by rw [hW0]; simp
  have hs0 : w.heap.size + 2 ≤ W0.heap.size := by rw [hW0]; simp
  have F0 : Hid (∀ W, Below W0.heap.size W0 W → W.cell? ⟨w.heap.size, 0, none⟩ = some (.int .u64 (t : Int)) ∧ W.cell? ⟨w.heap.size, 1, none⟩ = some (.int .i64 (len : Int))) := fun W hW =>
    ⟨(hW.cell (p := ⟨w.heap.size, 0, none⟩) (by simp; omega)).trans f0, (hW.cell (p := ⟨w.heap.size, 1, none⟩) (by simp; omega)).trans f1⟩
  have F2 : Hid (∀ W, Below W0.heap.size W0 W → W.cell? ⟨w.heap.size + 1, 0, none⟩ = some (.int .i64 (a : Int)) ∧ W.cell? ⟨w.heap.size + 1, 1, none⟩ = some (.int .i64 (n : Int))) := fun W hW =>
    ⟨(hW.cell (p := ⟨w.heap.size + 1, 0, none⟩) (by simp; omega)).trans f2, (hW.cell (p := ⟨w.heap.size + 1, 1, none⟩) (by simp; omega)).trans f3⟩
  have HB0 := Lib.hid hb0
  have HA0 := Lib.hid (hA.below hb0 (Nat.le_refl _))
  clear hb0 hs0 f0 f1 f2 f3 hA
  unfold plV hdV at *
  go_enter Tryd.func62, Tryd.ntmps62
  go_wp2_with fail
  rw [← hW0]
  clear hW0
  refine wp_region_held_drew (S := fun W => Below W0.heap.size W0 W) (by kernel_rfl) (Below.refl _ _).drew (fun hHeld => ?_)
  refine takeR (i := 0) (v := ?v0_1) rfl (by kernel_rfl) (by kernel_rfl) (by kernel_rfl) (fun _ _ _ h => h) (by rfl) ?hy0_1 (by assumption) ?rest0_1
  case hy0_1 => (intro W hSw; obtain ⟨q0, q1⟩ := F0.out W hSw; go_simp; try with_reducible rfl)
  try simp only [Act.put]
  try simp only [List.setIfInBounds_toArray]
  try simp only [List.set_cons_succ]
  try simp only [List.set_cons_zero]
  refine takeR (i := 1) (v := ?v1_2) rfl (by kernel_rfl) (by kernel_rfl) (by kernel_rfl) (fun _ _ _ h => h) (by rfl) ?hy1_2 (by assumption) ?rest1_2
  case hy1_2 => (intro W hSw; obtain ⟨q0, q1⟩ := F0.out W hSw; go_simp; try with_reducible rfl)
  try simp only [Act.put]
  try simp only [List.setIfInBounds_toArray]
  try simp only [List.set_cons_succ]
  try simp only [List.set_cons_zero]
  refine takeR (i := 3) (v := ?v3_3) rfl (by kernel_rfl) (by kernel_rfl) (by kernel_rfl) (fun _ _ _ h => h) (by rfl) ?hy3_3 (by assumption) ?rest3_3
  case hy3_3 => (intro W hSw; obtain ⟨q0, q1⟩ := F0.out W hSw; go_simp; try with_reducible rfl)
  try simp only [Act.put]
  try simp only [List.setIfInBounds_toArray]
  try simp only [List.set_cons_succ]
  try simp only [List.set_cons_zero]
  refine takeR (i := 4) (v := ?v4_4) rfl (by kernel_rfl) (by kernel_rfl) (by kernel_rfl) (fun _ _ _ h => h) (by rfl) ?hy4_4 (by assumption) ?rest4_4
  case hy4_4 => (intro W hSw; obtain ⟨q0, q1⟩ := F0.out W hSw; go_simp; try with_reducible rfl)
  try simp only [Act.put]
  try simp only [List.setIfInBounds_toArray]
  try simp only [List.set_cons_succ]
  try simp only [List.set_cons_zero]
  refine takeR (i := 5) (v := ?v5_5) rfl (by kernel_rfl) (by kernel_rfl) (by kernel_rfl) (fun _ _ _ h => h) (by rfl) ?hy5_5 (by assumption) ?rest5_5
  case hy5_5 => (intro W hSw; obtain ⟨q0, q1⟩ := F0.out W hSw; go_simp; try with_reducible rfl)
  try simp only [Act.put]
  try simp only [List.setIfInBounds_toArray]
  try simp only [List.set_cons_succ]
  try simp only [List.set_cons_zero]
  have B0 : Hid (Below W0.heap.size W0 W0.drew) := (Below.refl _ _).drew
  clear hHeld
  refine wpAnyH_ready (rs := [2]) (by kernel_rfl) (by simp) ?_
  refine AllReadyH.cons rfl (fun K hK => ?_) AllReadyH.nil
  rw [if_pos (by rfl)]
  go_simp
  refine (CT.out _).mono ?_
  rintro e w1 ⟨v1, rfl, ho, hb⟩
  have O1 : Hid (Ob w1 W0.heap.size 5 v1 (be t 8)) := ho
  have B1 : Hid (Below W0.heap.size W0 w1) := B0.out.trans hb
  clear ho hb
  go_simp
  refine hK.out _ _ (B1.out) (fun hHeld => ?_)
  try simp only [Act.put]
  try simp only [List.setIfInBounds_toArray]
  try simp only [List.set_cons_succ]
  try simp only [List.set_cons_zero]
  clear hK K
  clear hHeld
  refine wpAnyH_ready (rs := [6]) (by kernel_rfl) (by simp) ?_
  refine AllReadyH.cons rfl (fun K hK => ?_) AllReadyH.nil
  rw [if_pos (by rfl)]
  go_simp
  refine (CL.out _).mono ?_
  rintro e w2 ⟨v2, rfl, ho, hb⟩
  obtain ⟨A2, c2, rfl, -, -, hr⟩ := ho.rd
  obtain ⟨m2, hm2⟩ : ∃ m2, m2 = (be len 8).length := ⟨_, rfl⟩
  rw [← hm2] at hr ⊢
  have R2 := Lib.hid hr
  have O2 := Lib.hid (O1.out.below hb)
  have HL2 : Hid ((be t 8).length + m2 ≤ 140737488355328) := (by show _ ≤ _; rw [hm2, be_length, be_length]; decide)
  have B2 := Lib.hid (B1.out.trans (hb.mono B1.out.size))
  clear ho hr hb hm2
  go_simp
  refine hK.out _ _ (B2.out) (fun hHeld => ?_)
  try simp only [Act.put]
  try simp only [List.setIfInBounds_toArray]
  try simp only [List.set_cons_succ]
  try simp only [List.set_cons_zero]
  clear hK K
  clear hHeld
  refine wpAnyH_ready (rs := [7]) (by kernel_rfl) (by simp) ?_
  refine AllReadyH.cons rfl (fun K hK => ?_) AllReadyH.nil
  refine step_appB13 (by rfl) (.tmp 9) (.tmp 13) 33 (by rfl) W0.heap.size 5 Tryd.underlying33 info_u8 _ (be t 8) (by rfl) O2.out _ A2 m2 c2 (be len 8) (by rfl) R2.out HL2.out B2.out.size ?_
  intro v3 w3 ho3 hb3
  have B3 := Lib.hid (B2.out.trans hb3)
  obtain ⟨A3, c3, rfl, -, -, hr3⟩ := ho3.rd
  have R3 : Hid (Rd w3 w3.heap.size A3 16 (hdR t len).dat) := (by show Rd _ _ _ _ _; rw [List.length_append, be_length, be_length] at hr3; exact hr3)
  rw [List.length_append, be_length, be_length]
  clear ho3 hb3 hr3
  show K (Act.put _ (some 14) (.slice A3 16 c3)) w3
  refine hK.out _ _ (B3.out) (fun hHeld => ?_)
  try simp only [Act.put]
  try simp only [List.setIfInBounds_toArray]
  try simp only [List.set_cons_succ]
  try simp only [List.set_cons_zero]
  clear hK K
  refine takeR (i := 8) (v := ?v8_6) rfl (by kernel_rfl) (by kernel_rfl) (by kernel_rfl) (fun _ _ _ h => h) (by rfl) ?hy8_6 (by assumption) ?rest8_6
  case hy8_6 => (intro W hSw; go_simp; try with_reducible rfl)
  try simp only [Act.put]
  try simp only [List.setIfInBounds_toArray]
  try simp only [List.set_cons_succ]
  try simp only [List.set_cons_zero]
  refine wpAnyH_done (by kernel_rfl) ?_ _
  obtain ⟨p0, p1⟩ := F2.out w3 B3.out
  have CF := Lib.hid (fun W (hW : Below w3.heap.size w3 W) => cframe_any X (saltW a n) 1 A3 16 c3 w3.heap.size (hdR t len).dat W (HA0.out.below (B3.out.trans (hW.mono B3.out.size)) (Nat.le_refl _)) HSL.out (R3.out.below hW) hW.size)
  unfold recV at CF
  go_wp2_with (first
    | (go_at_call 64; refine (CS.out _).mono ?_; rintro e w4 ⟨rfl, hb4⟩; have B4 := Lib.hid hb4; clear hb4)
    | (go_at_call 60; refine (CF.out _ B4.out).mono ?_; rintro e w5 ⟨hb5, v5, z5, rfl, hz5, ho5⟩; have hk : rokR ⟨1, (hdR t len).dat⟩ = true := hdR_ok t len; rw [hk, if_pos rfl] at hz5 ho5; subst hz5; have O5 := Lib.hid ho5; have B5 := Lib.hid (HB0.out.trans ((B3.out.trans ((B4.out.trans (hb5.mono B4.out.size)).mono B3.out.size)).mono HB0.out.size)); have S5 := Lib.hid (Nat.le_trans HB0.out.size (Nat.le_trans B3.out.size B4.out.size)); clear ho5 hb5 hk)
    | fail)
  exact bodyPost_ret (results_tmp2 Tryd.results62 _ _ _) rfl ⟨_, rfl, O5.out.wide S5.out, B5.out⟩
end Go.Proofs.YtahgaogmcffglaaDoor
