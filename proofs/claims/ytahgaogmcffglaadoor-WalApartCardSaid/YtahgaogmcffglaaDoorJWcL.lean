/- The code's log: load. (Made by gen/WcL.py.) -/
import Derived.Test.YtahgaogmcffglaaDoorJWcK
namespace Go.Proofs.YtahgaogmcffglaaDoor
open Go.RowKit

theorem sumL_none : ∀ {L : List Rcd} (_ : sumL L = 0), L = []
  | [], _ => rfl
  | r :: L, h => by
    have := len_sumL (r :: L)
    rw [h] at this
    simp at this
theorem rhW_len {a n t len : Nat} {b : List UInt8} (h : hdW a n b = (t, len)) (hs : (rhW a n b).isSome = false) : t = 0 ∧ len = 0 := by
  unfold hdW at h
  cases hr : rhW a n b with
  | some p => rw [hr] at hs; cases hs
  | none =>
    rw [hr] at h
    simp at h
    omega
set_option maxRecDepth 100000 in
set_option maxHeartbeats 16000000 in
theorem wload_any (X : Snt14) (w : World) {Fd Fw : Nat → Prop} {B gd g : Nat} {Z : List (List UInt8)} {lf : Int} (a n t len : Nat) (L : List Rcd)
    (hA : ∀ W, Below B w W → Lds14 X W) (hBw : B ≤ w.heap.size) (hd : CDk w Fd B gd ⟨Z, [], true, lf⟩) (hw : WlK w Fw B g gd ⟨a, n, 0, 0, [], false⟩) (hn1 : 1 ≤ n) (hin : a + n ≤ Z.length) (hI : InZ a n Z t len L) :
    Calls Tryd.prog 46 #[.pointer (some ⟨g, 0, none⟩)] w fun e w' => e = .returned (.int .i64 0) ∧ ∃ Fw', WlK w' Fw' B g gd ⟨a, n, t, len, L, false⟩ ∧ Fr Fw w w' ∧ Grew w Fw Fw' := by
  have hZ : Z.length ≤ 65536 := hd.few
  have hn2 : n ≤ 65536 := by omega
  have ha : a ≤ 65536 := by omega
  have h2 := hlf_two hn1
  obtain ⟨st, hst⟩ : ∃ st, st = stW a n t := ⟨_, rfl⟩
  have hsti := (stW_in a n t).2
  have hfit := hI.fit
  have hlb : len ≤ 4194304 := by omega
  have CA := Lib.hid (fun W (hW : Below w.heap.size w W) => wreadBytes_any W a 32 (hd.below hW) (Nat.zero_le _) rfl (by show a * 64 + 32 ≤ Z.length * 64; omega))
  have CB := Lib.hid (fun W (hW : Below w.heap.size w W) => wreadBytes_any W st len (hd.below hW) (Nat.zero_le _) rfl (by show st * 64 + len ≤ Z.length * 64; rw [hst]; omega))
  have hz0 : layW Z [] = Z := rfl
  simp only [hz0] at CA CB
  have CS := Lib.hid (fun W => wstart_any a n t len W ha hn1 hn2 hI.tn)
  rw [← hst] at CS
  have hwd : ∀ s ∈ Z, s.length = 64 := hd.wide
  have hb32 : (rdZ Z a 32).length = 32 := rdZ_len hwd _ _ (by omega)
  have hbl : (rdZ Z st len).length = len := rdZ_len hwd _ _ (by rw [hst]; omega)
  have CH := Lib.hid (fun W (A : Option Addr) (c : Nat) (hW : Below w.heap.size w W) (hr : Rd W W.heap.size A 32 (rdZ Z a 32)) (hc : 32 ≤ c) (hc2 : c ≤ 9223372036854775807) => wreadHead_any X a n A 32 c W.heap.size (rdZ Z a 32) W (hA W (hW.mono hBw)) ha hn1 hn2 hr (Nat.le_refl _) (by decide) hc hc2)
  unfold RhR at CH
  rw [hI.hd] at CH
  have CC := Lib.hid (fun W (A : Option Addr) (c : Nat) (hW : Below w.heap.size w W) (hr : Rd W W.heap.size A len (rdZ Z st len)) (hc : len ≤ c) (hc2 : c ≤ 9223372036854775807) => cscan_any X t A len c W.heap.size (rdZ Z st len) W (hA W (hW.mono hBw)) hI.tn hr (Nat.le_refl _) (by omega) hc hc2)
  have hscan : scanR t (rdZ Z st len) = (L, len) := by
    rw [hst, hI.by_]
    have := scan_frames t [] L hI.ok
    rw [List.append_nil, scan_nil] at this
    rw [this, List.append_nil, sumL_frames, ← hI.lenL]
    rfl
  unfold ScnR at CC
  rw [hscan] at CC
  have KW : Hid (∀ W, Below w.heap.size w W → W.cell? ⟨g, 0, none⟩ = some (.pointer (some ⟨gd, 0, none⟩)) ∧ W.cell? ⟨g, 1, none⟩ = some (.int .i64 (a : Int)) ∧ W.cell? ⟨g, 2, none⟩ = some (.int .i64 (n : Int))) := fun W hW => by
    obtain ⟨-, -, ⟨d0, d1, d2, -, -, -, -⟩, -, -, -⟩ := (hw.below hW).cells
    exact ⟨d0, d1, d2⟩
  obtain ⟨sm, hsm⟩ : ∃ sm, sm = (rhW a n (rdZ Z a 32)).isSome := ⟨_, rfl⟩
  rw [← hsm] at CH
  have HNO : Hid (sm = false → t = 0 ∧ len = 0 ∧ L = []) := fun h => by
    have h3 := rhW_len hI.hd (hsm.symm.trans h)
    exact ⟨h3.1, h3.2, sumL_none (by rw [← hI.lenL]; exact h3.2)⟩
  have HWL := Lib.hid hw
  have HLF : Hid (L.length ≤ 1000000000) := by
    have h5 := len_sumL L
    rw [← hI.lenL] at h5
    show _ ≤ _
    omega
  obtain ⟨k0, k1, k2⟩ := KW.out w (Below.refl _ _)
  have H32 := Lib.hid hb32
  have HLE := Lib.hid hbl
  clear hA hBw hd hw hn1 hin hI hZ hn2 ha h2 hst hsti hfit hlb hz0 hb32 hbl hscan hsm hwd
  unfold plV hdV rdV at *
  go_enter Tryd.func46, Tryd.ntmps46
  go_upto_region 1 with fail
  refine wp_region_held_drew (S := fun W => Below w.heap.size w W) (by kernel_rfl) (Below.refl _ _).drew (fun hHeld => ?_)
  refine takeR (i := 0) (v := ?v0_1) rfl (by kernel_rfl) (by kernel_rfl) (by kernel_rfl) (fun _ _ _ h => h) (by rfl) ?hy0_1 (by assumption) ?rest0_1
  case hy0_1 => (intro W hSw; obtain ⟨q0, q1, q2⟩ := KW.out W hSw; go_simp; try with_reducible rfl)
  try simp only [Act.put]
  try simp only [List.setIfInBounds_toArray]
  try simp only [List.set_cons_succ]
  try simp only [List.set_cons_zero]
  refine takeR (i := 1) (v := ?v1_2) rfl (by kernel_rfl) (by kernel_rfl) (by kernel_rfl) (fun _ _ _ h => h) (by rfl) ?hy1_2 (by assumption) ?rest1_2
  case hy1_2 => (intro W hSw; obtain ⟨q0, q1, q2⟩ := KW.out W hSw; go_simp; try with_reducible rfl)
  try simp only [Act.put]
  try simp only [List.setIfInBounds_toArray]
  try simp only [List.set_cons_succ]
  try simp only [List.set_cons_zero]
  refine takeR (i := 2) (v := ?v2_3) rfl (by kernel_rfl) (by kernel_rfl) (by kernel_rfl) (fun _ _ _ h => h) (by rfl) ?hy2_3 (by assumption) ?rest2_3
  case hy2_3 => (intro W hSw; obtain ⟨q0, q1, q2⟩ := KW.out W hSw; go_simp; try with_reducible rfl)
  try simp only [Act.put]
  try simp only [List.setIfInBounds_toArray]
  try simp only [List.set_cons_succ]
  try simp only [List.set_cons_zero]
  refine takeR (i := 3) (v := ?v3_4) rfl (by kernel_rfl) (by kernel_rfl) (by kernel_rfl) (fun _ _ _ h => h) (by rfl) ?hy3_4 (by assumption) ?rest3_4
  case hy3_4 => (intro W hSw; obtain ⟨q0, q1, q2⟩ := KW.out W hSw; go_simp; try with_reducible rfl)
  try simp only [Act.put]
  try simp only [List.setIfInBounds_toArray]
  try simp only [List.set_cons_succ]
  try simp only [List.set_cons_zero]
  refine takeR (i := 4) (v := ?v4_5) rfl (by kernel_rfl) (by kernel_rfl) (by kernel_rfl) (fun _ _ _ h => h) (by rfl) ?hy4_5 (by assumption) ?rest4_5
  case hy4_5 => (intro W hSw; obtain ⟨q0, q1, q2⟩ := KW.out W hSw; go_simp; try with_reducible rfl)
  try simp only [Act.put]
  try simp only [List.setIfInBounds_toArray]
  try simp only [List.set_cons_succ]
  try simp only [List.set_cons_zero]
  refine takeR (i := 5) (v := ?v5_6) rfl (by kernel_rfl) (by kernel_rfl) (by kernel_rfl) (fun _ _ _ h => h) (by rfl) ?hy5_6 (by assumption) ?rest5_6
  case hy5_6 => (intro W hSw; obtain ⟨q0, q1, q2⟩ := KW.out W hSw; go_simp; try with_reducible rfl)
  try simp only [Act.put]
  try simp only [List.setIfInBounds_toArray]
  try simp only [List.set_cons_succ]
  try simp only [List.set_cons_zero]
  refine takeR (i := 6) (v := ?v6_7) rfl (by kernel_rfl) (by kernel_rfl) (by kernel_rfl) (fun _ _ _ h => h) (by rfl) ?hy6_7 (by assumption) ?rest6_7
  case hy6_7 => (intro W hSw; obtain ⟨q0, q1, q2⟩ := KW.out W hSw; go_simp; try with_reducible rfl)
  try simp only [Act.put]
  try simp only [List.setIfInBounds_toArray]
  try simp only [List.set_cons_succ]
  try simp only [List.set_cons_zero]
  refine takeR (i := 7) (v := ?v7_8) rfl (by kernel_rfl) (by kernel_rfl) (by kernel_rfl) (fun _ _ _ h => h) (by rfl) ?hy7_8 (by assumption) ?rest7_8
  case hy7_8 => (intro W hSw; obtain ⟨q0, q1, q2⟩ := KW.out W hSw; go_simp; try with_reducible rfl)
  try simp only [Act.put]
  try simp only [List.setIfInBounds_toArray]
  try simp only [List.set_cons_succ]
  try simp only [List.set_cons_zero]
  refine takeR (i := 8) (v := ?v8_9) rfl (by kernel_rfl) (by kernel_rfl) (by kernel_rfl) (fun _ _ _ h => h) (by rfl) ?hy8_9 (by assumption) ?rest8_9
  case hy8_9 => (intro W hSw; obtain ⟨q0, q1, q2⟩ := KW.out W hSw; go_simp; try with_reducible rfl)
  try simp only [Act.put]
  try simp only [List.setIfInBounds_toArray]
  try simp only [List.set_cons_succ]
  try simp only [List.set_cons_zero]
  refine takeR (i := 9) (v := ?v9_10) rfl (by kernel_rfl) (by kernel_rfl) (by kernel_rfl) (fun _ _ _ h => h) (by rfl) ?hy9_10 (by assumption) ?rest9_10
  case hy9_10 => (intro W hSw; obtain ⟨q0, q1, q2⟩ := KW.out W hSw; go_simp; try with_reducible rfl)
  try simp only [Act.put]
  try simp only [List.setIfInBounds_toArray]
  try simp only [List.set_cons_succ]
  try simp only [List.set_cons_zero]
  have B1 : Hid (Below w.heap.size w w.drew) := (Below.refl _ _).drew
  clear hHeld
  refine wpAnyH_ready (rs := [10]) (by kernel_rfl) (by simp) ?_
  refine AllReadyH.cons rfl (fun K hK => ?_) AllReadyH.nil
  rw [if_pos (by rfl)]
  go_simp
  refine (CA.out _ B1.out).mono ?_
  rintro e w2 ⟨v2, rfl, ho, hb⟩
  obtain ⟨A2, c2, rfl, hc2, hm2, hr2⟩ := ho.rd
  rw [H32.out] at hc2 hr2 ⊢
  have R2 := Lib.hid (And.intro hr2 hc2)
  have M2 : Hid (c2 ≤ 9223372036854775807) := Nat.le_trans hm2 (by decide)
  have B2 := Lib.hid (B1.out.trans (hb.mono B1.out.size))
  clear ho hb hc2 hr2 hm2
  go_simp
  refine hK.out _ _ (B2.out) (fun hHeld => ?_)
  try simp only [Act.put]
  try simp only [List.setIfInBounds_toArray]
  try simp only [List.set_cons_succ]
  try simp only [List.set_cons_zero]
  clear hK K
  refine takeR (i := 11) (v := ?v11_11) rfl (by kernel_rfl) (by kernel_rfl) (by kernel_rfl) (fun _ _ _ h => h) (by rfl) ?hy11_11 (by assumption) ?rest11_11
  case hy11_11 => (intro W hSw; go_simp; try with_reducible rfl)
  try simp only [Act.put]
  try simp only [List.setIfInBounds_toArray]
  try simp only [List.set_cons_succ]
  try simp only [List.set_cons_zero]
  refine takeR (i := 12) (v := ?v12_12) rfl (by kernel_rfl) (by kernel_rfl) (by kernel_rfl) (fun _ _ _ h => h) (by rfl) ?hy12_12 (by assumption) ?rest12_12
  case hy12_12 => (intro W hSw; go_simp; try with_reducible rfl)
  try simp only [Act.put]
  try simp only [List.setIfInBounds_toArray]
  try simp only [List.set_cons_succ]
  try simp only [List.set_cons_zero]
  refine takeR (i := 13) (v := ?v13_13) rfl (by kernel_rfl) (by kernel_rfl) (by kernel_rfl) (fun _ _ _ h => h) (by rfl) ?hy13_13 (by assumption) ?rest13_13
  case hy13_13 => (intro W hSw; go_simp; try with_reducible rfl)
  try simp only [Act.put]
  try simp only [List.setIfInBounds_toArray]
  try simp only [List.set_cons_succ]
  try simp only [List.set_cons_zero]
  refine takeR (i := 14) (v := ?v14_14) rfl (by kernel_rfl) (by kernel_rfl) (by kernel_rfl) (fun _ _ _ h => h) (by rfl) ?hy14_14 (by assumption) ?rest14_14
  case hy14_14 => (intro W hSw; go_simp; try with_reducible rfl)
  try simp only [Act.put]
  try simp only [List.setIfInBounds_toArray]
  try simp only [List.set_cons_succ]
  try simp only [List.set_cons_zero]
  refine takeR (i := 15) (v := ?v15_15) rfl (by kernel_rfl) (by kernel_rfl) (by kernel_rfl) (fun _ _ _ h => h) (by rfl) ?hy15_15 (by assumption) ?rest15_15
  case hy15_15 => (intro W hSw; go_simp; try with_reducible rfl)
  try simp only [Act.put]
  try simp only [List.setIfInBounds_toArray]
  try simp only [List.set_cons_succ]
  try simp only [List.set_cons_zero]
  refine wpAnyH_done (by kernel_rfl) ?_ _
  clear hHeld k0 k1 k2
  obtain ⟨k0, k1, k2⟩ := KW.out w2 B2.out
  cases sm with
  | false =>
    obtain ⟨rfl, rfl, rfl⟩ := HNO.out rfl
    clear CB CS CC
    go_wp2_with (first
      | (go_at_call 55; refine (CH.out _ _ _ B2.out R2.out.1 R2.out.2 M2.out).mono ?_; rintro e w3 ⟨hb3, rfl⟩; have B3 := Lib.hid (B2.out.trans (hb3.mono B2.out.size)); clear hb3)
      | fail)
    go_ret
    have hbz : Below w.heap.size w (w3.alloc (.cells #[.int .u64 0, .int .i64 0] 61)) := B3.out.alloc B3.out.size _
    exact ⟨rfl, Fw, HWL.out.below hbz, Fr.of_below hbz, Grew.refl _ _⟩
  | true =>
    clear HNO
    go_upto_region 5 with (first
      | (go_at_call 55; refine (CH.out _ _ _ B2.out R2.out.1 R2.out.2 M2.out).mono ?_; rintro e w3 ⟨hb3, rfl⟩; have B3 := Lib.hid (B2.out.trans (hb3.mono B2.out.size)); clear hb3)
      | fail)
    obtain ⟨w4, hw4⟩ : ∃ w4, w4 = w3.alloc (.cells #[.int .u64 (t : Int), .int .i64 (len : Int)] 61) := ⟨_, rfl⟩
    rw [← hw4]
    have B4 : Hid (Below w.heap.size w w4) := by show Below _ _ _; rw [hw4]; exact B3.out.alloc B3.out.size _
    have hh4 : w4.heap[w3.heap.size]? = some (.cells #[.int .u64 (t : Int), .int .i64 (len : Int)] 61 (0, 0)) := by rw [hw4]; exact heap_alloc_new w3 _
    have KX : Hid (∀ W, Below w4.heap.size w4 W → (W.cell? ⟨w3.heap.size, 0, none⟩ = some (.int .u64 (t : Int)) ∧ W.cell? ⟨w3.heap.size, 1, none⟩ = some (.int .i64 (len : Int))) ∧ W.cell? ⟨g, 0, none⟩ = some (.pointer (some ⟨gd, 0, none⟩)) ∧ W.cell? ⟨g, 1, none⟩ = some (.int .i64 (a : Int)) ∧ W.cell? ⟨g, 2, none⟩ = some (.int .i64 (n : Int))) := fun W hW => ⟨(row2 ((hW.block _ (Array.getElem?_eq_some_iff.1 hh4).1).trans hh4)).1, KW.out W (B4.out.trans (hW.mono B4.out.size))⟩
    clear k0 k1 k2 hw4 hh4
    go_upto_region 7 with fail
    refine wp_region_held_drew (S := fun W => Below w4.heap.size w4 W) (by kernel_rfl) (Below.refl _ _).drew (fun hHeld => ?_)
    refine takeR (i := 0) (v := ?v0_16) rfl (by kernel_rfl) (by kernel_rfl) (by kernel_rfl) (fun _ _ _ h => h) (by rfl) ?hy0_16 (by assumption) ?rest0_16
    case hy0_16 => (intro W hSw; obtain ⟨⟨q0, q1⟩, q2, q3, q4⟩ := KX.out W hSw; go_simp; try with_reducible rfl)
    try simp only [Act.put]
    try simp only [List.setIfInBounds_toArray]
    try simp only [List.set_cons_succ]
    try simp only [List.set_cons_zero]
    refine takeR (i := 1) (v := ?v1_17) rfl (by kernel_rfl) (by kernel_rfl) (by kernel_rfl) (fun _ _ _ h => h) (by rfl) ?hy1_17 (by assumption) ?rest1_17
    case hy1_17 => (intro W hSw; obtain ⟨⟨q0, q1⟩, q2, q3, q4⟩ := KX.out W hSw; go_simp; try with_reducible rfl)
    try simp only [Act.put]
    try simp only [List.setIfInBounds_toArray]
    try simp only [List.set_cons_succ]
    try simp only [List.set_cons_zero]
    refine takeR (i := 2) (v := ?v2_18) rfl (by kernel_rfl) (by kernel_rfl) (by kernel_rfl) (fun _ _ _ h => h) (by rfl) ?hy2_18 (by assumption) ?rest2_18
    case hy2_18 => (intro W hSw; obtain ⟨⟨q0, q1⟩, q2, q3, q4⟩ := KX.out W hSw; go_simp; try with_reducible rfl)
    try simp only [Act.put]
    try simp only [List.setIfInBounds_toArray]
    try simp only [List.set_cons_succ]
    try simp only [List.set_cons_zero]
    refine takeR (i := 3) (v := ?v3_19) rfl (by kernel_rfl) (by kernel_rfl) (by kernel_rfl) (fun _ _ _ h => h) (by rfl) ?hy3_19 (by assumption) ?rest3_19
    case hy3_19 => (intro W hSw; obtain ⟨⟨q0, q1⟩, q2, q3, q4⟩ := KX.out W hSw; go_simp; try with_reducible rfl)
    try simp only [Act.put]
    try simp only [List.setIfInBounds_toArray]
    try simp only [List.set_cons_succ]
    try simp only [List.set_cons_zero]
    refine takeR (i := 4) (v := ?v4_20) rfl (by kernel_rfl) (by kernel_rfl) (by kernel_rfl) (fun _ _ _ h => h) (by rfl) ?hy4_20 (by assumption) ?rest4_20
    case hy4_20 => (intro W hSw; obtain ⟨⟨q0, q1⟩, q2, q3, q4⟩ := KX.out W hSw; go_simp; try with_reducible rfl)
    try simp only [Act.put]
    try simp only [List.setIfInBounds_toArray]
    try simp only [List.set_cons_succ]
    try simp only [List.set_cons_zero]
    refine takeR (i := 5) (v := ?v5_21) rfl (by kernel_rfl) (by kernel_rfl) (by kernel_rfl) (fun _ _ _ h => h) (by rfl) ?hy5_21 (by assumption) ?rest5_21
    case hy5_21 => (intro W hSw; obtain ⟨⟨q0, q1⟩, q2, q3, q4⟩ := KX.out W hSw; go_simp; try with_reducible rfl)
    try simp only [Act.put]
    try simp only [List.setIfInBounds_toArray]
    try simp only [List.set_cons_succ]
    try simp only [List.set_cons_zero]
    refine takeR (i := 6) (v := ?v6_22) rfl (by kernel_rfl) (by kernel_rfl) (by kernel_rfl) (fun _ _ _ h => h) (by rfl) ?hy6_22 (by assumption) ?rest6_22
    case hy6_22 => (intro W hSw; obtain ⟨⟨q0, q1⟩, q2, q3, q4⟩ := KX.out W hSw; go_simp; try with_reducible rfl)
    try simp only [Act.put]
    try simp only [List.setIfInBounds_toArray]
    try simp only [List.set_cons_succ]
    try simp only [List.set_cons_zero]
    refine takeR (i := 7) (v := ?v7_23) rfl (by kernel_rfl) (by kernel_rfl) (by kernel_rfl) (fun _ _ _ h => h) (by rfl) ?hy7_23 (by assumption) ?rest7_23
    case hy7_23 => (intro W hSw; obtain ⟨⟨q0, q1⟩, q2, q3, q4⟩ := KX.out W hSw; go_simp; try with_reducible rfl)
    try simp only [Act.put]
    try simp only [List.setIfInBounds_toArray]
    try simp only [List.set_cons_succ]
    try simp only [List.set_cons_zero]
    refine takeR (i := 8) (v := ?v8_24) rfl (by kernel_rfl) (by kernel_rfl) (by kernel_rfl) (fun _ _ _ h => h) (by rfl) ?hy8_24 (by assumption) ?rest8_24
    case hy8_24 => (intro W hSw; obtain ⟨⟨q0, q1⟩, q2, q3, q4⟩ := KX.out W hSw; go_simp; try with_reducible rfl)
    try simp only [Act.put]
    try simp only [List.setIfInBounds_toArray]
    try simp only [List.set_cons_succ]
    try simp only [List.set_cons_zero]
    refine takeR (i := 9) (v := ?v9_25) rfl (by kernel_rfl) (by kernel_rfl) (by kernel_rfl) (fun _ _ _ h => h) (by rfl) ?hy9_25 (by assumption) ?rest9_25
    case hy9_25 => (intro W hSw; obtain ⟨⟨q0, q1⟩, q2, q3, q4⟩ := KX.out W hSw; go_simp; try with_reducible rfl)
    try simp only [Act.put]
    try simp only [List.setIfInBounds_toArray]
    try simp only [List.set_cons_succ]
    try simp only [List.set_cons_zero]
    refine takeR (i := 11) (v := ?v11_26) rfl (by kernel_rfl) (by kernel_rfl) (by kernel_rfl) (fun _ _ _ h => h) (by rfl) ?hy11_26 (by assumption) ?rest11_26
    case hy11_26 => (intro W hSw; obtain ⟨⟨q0, q1⟩, q2, q3, q4⟩ := KX.out W hSw; go_simp; try with_reducible rfl)
    try simp only [Act.put]
    try simp only [List.setIfInBounds_toArray]
    try simp only [List.set_cons_succ]
    try simp only [List.set_cons_zero]
    refine takeR (i := 12) (v := ?v12_27) rfl (by kernel_rfl) (by kernel_rfl) (by kernel_rfl) (fun _ _ _ h => h) (by rfl) ?hy12_27 (by assumption) ?rest12_27
    case hy12_27 => (intro W hSw; obtain ⟨⟨q0, q1⟩, q2, q3, q4⟩ := KX.out W hSw; go_simp; try with_reducible rfl)
    try simp only [Act.put]
    try simp only [List.setIfInBounds_toArray]
    try simp only [List.set_cons_succ]
    try simp only [List.set_cons_zero]
    have D4 : Hid (Below w4.heap.size w4 w4.drew) := (Below.refl _ _).drew
    clear hHeld
    refine wpAnyH_ready (rs := [10]) (by kernel_rfl) (by simp) ?_
    refine AllReadyH.cons rfl (fun K hK => ?_) AllReadyH.nil
    rw [if_pos (by rfl)]
    go_simp
    refine (CS.out _).mono ?_
    rintro e w5 ⟨rfl, hb⟩
    have D5 := Lib.hid (D4.out.trans (hb.mono D4.out.size))
    clear hb
    go_simp
    refine hK.out _ _ (D5.out) (fun hHeld => ?_)
    try simp only [Act.put]
    try simp only [List.setIfInBounds_toArray]
    try simp only [List.set_cons_succ]
    try simp only [List.set_cons_zero]
    clear hK K
    clear hHeld
    refine wpAnyH_ready (rs := [13]) (by kernel_rfl) (by simp) ?_
    refine AllReadyH.cons rfl (fun K hK => ?_) AllReadyH.nil
    rw [if_pos (by rfl)]
    go_simp
    refine (CB.out _ (B4.out.trans (D5.out.mono B4.out.size))).mono ?_
    rintro e w6 ⟨v6, rfl, ho, hb⟩
    obtain ⟨A6, c6, rfl, hc6, hm6, hr6⟩ := ho.rd
    rw [HLE.out] at hc6 hr6 ⊢
    have R6 := Lib.hid (And.intro hr6 hc6)
    have M6 : Hid (c6 ≤ 9223372036854775807) := Nat.le_trans hm6 (by decide)
    have D6 := Lib.hid (D5.out.trans (hb.mono D5.out.size))
    clear ho hb hc6 hr6 hm6
    go_simp
    refine hK.out _ _ (D6.out) (fun hHeld => ?_)
    try simp only [Act.put]
    try simp only [List.setIfInBounds_toArray]
    try simp only [List.set_cons_succ]
    try simp only [List.set_cons_zero]
    clear hK K
    refine takeR (i := 14) (v := ?v14_28) rfl (by kernel_rfl) (by kernel_rfl) (by kernel_rfl) (fun _ _ _ h => h) (by rfl) ?hy14_28 (by assumption) ?rest14_28
    case hy14_28 => (intro W hSw; go_simp; try with_reducible rfl)
    try simp only [Act.put]
    try simp only [List.setIfInBounds_toArray]
    try simp only [List.set_cons_succ]
    try simp only [List.set_cons_zero]
    refine takeR (i := 15) (v := ?v15_29) rfl (by kernel_rfl) (by kernel_rfl) (by kernel_rfl) (fun _ _ _ h => h) (by rfl) ?hy15_29 (by assumption) ?rest15_29
    case hy15_29 => (intro W hSw; go_simp; try with_reducible rfl)
    try simp only [Act.put]
    try simp only [List.setIfInBounds_toArray]
    try simp only [List.set_cons_succ]
    try simp only [List.set_cons_zero]
    refine takeR (i := 16) (v := ?v16_30) rfl (by kernel_rfl) (by kernel_rfl) (by kernel_rfl) (fun _ _ _ h => h) (by rfl) ?hy16_30 (by assumption) ?rest16_30
    case hy16_30 => (intro W hSw; go_simp; try with_reducible rfl)
    try simp only [Act.put]
    try simp only [List.setIfInBounds_toArray]
    try simp only [List.set_cons_succ]
    try simp only [List.set_cons_zero]
    refine takeR (i := 17) (v := ?v17_31) rfl (by kernel_rfl) (by kernel_rfl) (by kernel_rfl) (fun _ _ _ h => h) (by rfl) ?hy17_31 (by assumption) ?rest17_31
    case hy17_31 => (intro W hSw; go_simp; try with_reducible rfl)
    try simp only [Act.put]
    try simp only [List.setIfInBounds_toArray]
    try simp only [List.set_cons_succ]
    try simp only [List.set_cons_zero]
    refine takeR (i := 18) (v := ?v18_32) rfl (by kernel_rfl) (by kernel_rfl) (by kernel_rfl) (fun _ _ _ h => h) (by rfl) ?hy18_32 (by assumption) ?rest18_32
    case hy18_32 => (intro W hSw; go_simp; try with_reducible rfl)
    try simp only [Act.put]
    try simp only [List.setIfInBounds_toArray]
    try simp only [List.set_cons_succ]
    try simp only [List.set_cons_zero]
    refine wpAnyH_done (by kernel_rfl) ?_ _
    clear hHeld
    have B6 : Hid (Below w.heap.size w w6) := B4.out.trans (D6.out.mono B4.out.size)
    obtain ⟨⟨x0, x1⟩, k0, k1, k2⟩ := KX.out w6 D6.out
    have e9 : ((len : Int) != (len : Int)) = false := by simp
    go_upto_region 14 with (first
      | (go_at_call 57; refine (CC.out _ _ _ B6.out R6.out.1 R6.out.2 M6.out).mono ?_; rintro e w7 ⟨hb7, v7, q7, rfl, hs7, hq7⟩; obtain ⟨A7, c7, rfl, -, -⟩ := hs7.rw; have S7 := Lib.hid hs7; have Q7 := Lib.hid hq7; have D7 := Lib.hid (D6.out.trans (hb7.mono D6.out.size)); have S7B : Hid (w.heap.size ≤ w6.heap.size) := B6.out.size; clear hs7 hq7 hb7 x0 x1 k0 k1 k2; obtain ⟨⟨x0, x1⟩, k0, k1, k2⟩ := KX.out w7 D7.out)
      | fail)
    have B7 : Hid (Below w.heap.size w w7) := B4.out.trans (D7.out.mono B4.out.size)
    obtain ⟨vr, qs, hrow, -⟩ := (HWL.out.below B7.out).st
    have HRW := Lib.hid hrow
    have f3 : w7.frozen? ⟨g, 3, none⟩ = false := by simp [World.frozen?, hrow]
    have f4 : w7.frozen? ⟨g, 4, none⟩ = false := by simp [World.frozen?, hrow]
    have f5 : w7.frozen? ⟨g, 5, none⟩ = false := by simp [World.frozen?, hrow]
    obtain ⟨vr2, -, ⟨-, -, -, y3, y4, y5, -⟩, -⟩ := (HWL.out.below B7.out).cells
    clear hrow
    obtain ⟨nq, hnq⟩ : ∃ nq, nq = q7.length := ⟨_, rfl⟩
    rw [← hnq] at S7 ⊢
    have HNQ := Lib.hid hnq
    clear hnq
    go_wp2_with fail
    go_ret
    obtain ⟨w8, hw8⟩ : ∃ w8, w8 = ((w7.setCell ⟨g, 3, none⟩ (.int .u64 (t : Int))).setCell ⟨g, 4, none⟩ (.int .i64 (len : Int))).setCell ⟨g, 5, none⟩ (.slice A7 nq c7) := ⟨_, rfl⟩
    have hne : ∀ k, k ≠ g → w8.heap[k]? = w7.heap[k]? := fun k hk => by rw [hw8]; exact (Below.heap_setCell _ _ _ _ hk).trans ((Below.heap_setCell _ _ _ _ hk).trans (Below.heap_setCell _ _ _ _ hk))
    have hb8 : Below g w7 w8 := by rw [hw8]; exact ((Below.setCell (Below.refl g w7) (p := ⟨g, 3, none⟩) (Nat.le_refl g) _).setCell (p := ⟨g, 4, none⟩) (Nat.le_refl g) _).setCell (p := ⟨g, 5, none⟩) (Nat.le_refl g) _
    have R8 : w8.heap[g]? = some (.cells (Ws.cs ⟨a, n, t, len, L, false⟩ gd (.slice A7 nq c7)) 63 (0, 0)) := by rw [hw8]; exact row_setC (row_setC (row_setC HRW.out 3 _) 4 _) 5 _
    have hgw : g < w.heap.size := (HWL.out.fit g HWL.out.fg).2
    have hft : ∀ k, FtR (.slice A7 nq c7) q7 k → w6.heap.size ≤ k := fun k hk => (S7.out.own_ge hk).1
    have hsg : w.heap.size ≤ w6.heap.size := S7B.out
    have S8 : ScS w8 B (.slice A7 nq c7) q7 := (S7.out.same (fun b hb => hne b (by have := hft b (.inl hb); omega)) (fun q hq b hb => hne b (by have := hft b (.inr ⟨q, hq, hb⟩); omega))).wide (Nat.le_trans HWL.out.le (Nat.le_trans (Nat.le_of_lt hgw) hsg))
    rw [← hw8]
    refine ⟨rfl, fun k => k = g ∨ FtR (.slice A7 nq c7) q7 k, WlK.mk_ (S := ⟨a, n, t, len, L, false⟩) HWL.out.le R8 S8 Q7.out (Nat.le_trans HLF.out (by decide)), (Fr.of_below B7.out : Fr Fw w w7).low hb8 hne (.inl HWL.out.fg), fun k hk => ?_⟩
    rcases hk with rfl | hk
    · exact .inl HWL.out.fg
    · exact .inr (Nat.le_trans hsg (hft k hk))
end Go.Proofs.YtahgaogmcffglaaDoor
