/- Layer 14's reference: Same. (Made by gen/RecJ.py.) -/
import Derived.Test.YtahgaogmcffglaaDoorJRecI
import Derived.Maps.AppendAt
namespace Go.Proofs.YtahgaogmcffglaaDoor
open Go.RowKit

theorem takeU14 {P : Program} {md : Region.Mode} {l : List Oper} {Q : Exit → Act → World → Prop} {S : World → Prop} {i : Nat} {oi : Oper} {fuel : Nat} {listed : Array Bool} {a : Act} {w : World} (hi : l[i]? = some oi)
    (hs : Region.noSelect l.toArray = true) (hf : Region.free md l.toArray listed i = true) (hr : (Region.ready md l.toArray listed).contains i = true)
    (hQ : ∀ c a w, Q (.panic c) (a.put oi.dst undef) w → Q (.panic c) a w) (hy : Region.wanted oi (yielded l.toArray a.tmps) = false) (hS : S w)
    (h : wpAnyH P md l.toArray Q S fuel (listed.setIfInBounds i true) (a.put oi.dst undef) w) : wpAnyH P md l.toArray Q S (fuel + 1) listed a w :=
  wpAnyH_take (oi := oi) (v := undef) (by simpa using hi) hs hf hr hQ (Or.inr ⟨hy, rfl⟩) hS h
/-- A slice of records reads as these. -/
def RwC (w : World) (B : Nat) (A : Option Addr) (n : Nat) (l : List Rcd) : Prop := l.length = n ∧ (0 < n → ∃ b o, A = some ⟨b, o, none⟩ ∧ b < B ∧ RdC w B b o l)

set_option maxRecDepth 100000 in
set_option maxHeartbeats 16000000 in
theorem rsameR_any (A A' : Option Addr) (n c n' c' B : Nat) (l l' : List Rcd) (w : World) (h : RwC w B A n l) (h' : RwC w B A' n' l') (hB : B ≤ w.heap.size) (hn : n ≤ 140737488355328) :
    Calls Tryd.prog 24 #[.slice A n c, .slice A' n' c'] w fun e w' => ∃ r, e = .returned (.bool r) ∧ (r = true ↔ l = l') ∧ Below w.heap.size w w' := by
  have HT : Hid (∀ (r : Bool) w', (r = true ↔ l = l') → Below w.heap.size w w' → ∃ r', Ending.returned (.bool r) = .returned (.bool r') ∧ (r' = true ↔ l = l') ∧ Below w.heap.size w w') := fun r w' h1 h2 => ⟨r, rfl, h1, h2⟩
  by_cases e4 : n = n'
  case neg =>
    have hne : l ≠ l' := fun e => e4 (by rw [← h.1, ← h'.1, e])
    have HNE := Lib.hid hne
    have e4n : ((n : Int) != (n' : Int)) = true := by rw [bne_iff_ne]; omega
    have e4i : ((n : Int) == (n' : Int)) = false := by rw [beq_eq_false_iff_ne]; omega
    clear h h' e4 hne
    go_enter Tryd.func24, Tryd.ntmps24
    go_wp2_with fail
    go_ret
    exact HT.out _ _ (by simp; exact HNE.out) (Below.refl _ _)
  subst e4
  have H := Lib.hid h
  have H' := Lib.hid h'
  have HBB := Lib.hid hB
  have HN := Lib.hid hn
  clear h h' hB
  go_enter Tryd.func24, Tryd.ntmps24
  go_wp2_with fail
  go_loopw [4, 5] (fun rs i wr => ∃ j : Nat, j ≤ n ∧ rs = .bool false ∧ i = .int .i64 j ∧ Hid (Below w.heap.size w wr) ∧ Hid (l.take j = l'.take j))
    (fun _ i _ => n - (intOf i).toNat)
  case atStart => exact ⟨0, Nat.zero_le _, rfl, rfl, Below.refl _ _, by show _ = _; simp⟩
  case round =>
    obtain ⟨j, hj, rfl, rfl, hbel, htake⟩ := hrel
    by_cases hlt : j < n
    · obtain ⟨b, o, rfl, hb, hs⟩ := H.out.2 (by omega)
      obtain ⟨b', o', rfl, hb', hs2⟩ := H'.out.2 (by omega)
      have hjl : j < l.length := by rw [H.out.1]; exact hlt
      have hjl' : j < l'.length := by rw [H'.out.1]; exact hlt
      obtain ⟨Ad, nd, cd, g0, g1, g2, g3, gx⟩ := hs.get hjl
      obtain ⟨Ad', nd', cd', p0, p1, p2, p3, px⟩ := hs2.get hjl'
      have hlw : b < w.heap.size := by have := HBB.out; omega
      have hlw' : b' < w.heap.size := by have := HBB.out; omega
      have hsz := hbel.out.size
      have KX : Hid (∀ W, Below wr.heap.size wr W → W.cell? ⟨b, o + j * 2, none⟩ = some (.int .i64 (l[j]'hjl).typ) ∧ W.cell? ⟨b, o + j * 2 + 1, none⟩ = some (.slice Ad nd cd) ∧ W.cell? ⟨b', o' + j * 2, none⟩ = some (.int .i64 (l'[j]'hjl').typ) ∧ W.cell? ⟨b', o' + j * 2 + 1, none⟩ = some (.slice Ad' nd' cd')) := fun W hW => by
        have hW' := hbel.out.trans (hW.mono hbel.out.size)
        exact ⟨(hW'.cell (p := ⟨b, o + j * 2, none⟩) hlw).trans g0, (hW'.cell (p := ⟨b, o + j * 2 + 1, none⟩) hlw).trans g1, (hW'.cell (p := ⟨b', o' + j * 2, none⟩) hlw').trans p0, (hW'.cell (p := ⟨b', o' + j * 2 + 1, none⟩) hlw').trans p1⟩
      have CS := Lib.hid (fun (W : World) (hW : Below wr.heap.size wr W) => same_any Ad Ad' nd cd nd' cd' B B (l[j]'hjl).dat (l'[j]'hjl').dat W (gx.below ((hbel.out.trans (hW.mono hbel.out.size)).mono HBB.out)) (px.below ((hbel.out.trans (hW.mono hbel.out.size)).mono HBB.out)))
      have HE1 : Hid ((l[j]'hjl).typ = (l'[j]'hjl').typ → (l[j]'hjl).dat = (l'[j]'hjl').dat → l.take (j + 1) = l'.take (j + 1)) := fun e1 e2 => by
        have he : l[j]'hjl = l'[j]'hjl' := by
          generalize l[j]'hjl = x at *
          generalize l'[j]'hjl' = y at *
          cases x
          cases y
          cases e1
          cases e2
          rfl
        rw [List.take_succ_eq_append_getElem hjl, List.take_succ_eq_append_getElem hjl', htake.out, he]
      have HE2 : Hid (l[j]'hjl ≠ l'[j]'hjl' → l ≠ l') := fun he h => he (by subst h; rfl)
      generalize l[j]'hjl = xj at *
      generalize l'[j]'hjl' = yj at *
      clear g0 g1 g2 g3 gx hs p0 p1 p2 p3 px hs2 hjl hjl' hsz hlw hlw' hb hb'
      have i0 : (0 : Int) ≤ (j : Int) := by omega
      have i1 : (j : Int) < (n : Int) := by omega
      have i2 : (n : Int) ≤ 140737488355328 := by have := HN.out; omega
      by_cases hty : xj.typ = yj.typ
      · have ht : (xj.typ != yj.typ) = false := by rw [hty]; simp
        have HTY := Lib.hid hty
        clear hty
        go_wp2_with fail
        refine wp_region_held_drew (S := fun W => Below wr.heap.size wr W) (by kernel_rfl) (Below.refl _ _).drew (fun hHeld => ?_)
        refine takeR (i := 0) (v := ?v0_1) rfl (by kernel_rfl) (by kernel_rfl) (by kernel_rfl) (fun _ _ _ h => h) (by rfl) ?hy0_1 (by assumption) ?rest0_1
        case hy0_1 => (intro W hSw; obtain ⟨q0, q1, q2, q3⟩ := KX.out W hSw; go_simp; try with_reducible rfl)
        try simp only [Act.put]
        try simp only [List.setIfInBounds_toArray]
        try simp only [List.set_cons_succ]
        try simp only [List.set_cons_zero]
        refine takeR (i := 1) (v := ?v1_2) rfl (by kernel_rfl) (by kernel_rfl) (by kernel_rfl) (fun _ _ _ h => h) (by rfl) ?hy1_2 (by assumption) ?rest1_2
        case hy1_2 => (intro W hSw; obtain ⟨q0, q1, q2, q3⟩ := KX.out W hSw; go_simp; try with_reducible rfl)
        try simp only [Act.put]
        try simp only [List.setIfInBounds_toArray]
        try simp only [List.set_cons_succ]
        try simp only [List.set_cons_zero]
        refine takeR (i := 2) (v := ?v2_3) rfl (by kernel_rfl) (by kernel_rfl) (by kernel_rfl) (fun _ _ _ h => h) (by rfl) ?hy2_3 (by assumption) ?rest2_3
        case hy2_3 => (intro W hSw; obtain ⟨q0, q1, q2, q3⟩ := KX.out W hSw; go_simp; try with_reducible rfl)
        try simp only [Act.put]
        try simp only [List.setIfInBounds_toArray]
        try simp only [List.set_cons_succ]
        try simp only [List.set_cons_zero]
        refine takeR (i := 3) (v := ?v3_4) rfl (by kernel_rfl) (by kernel_rfl) (by kernel_rfl) (fun _ _ _ h => h) (by rfl) ?hy3_4 (by assumption) ?rest3_4
        case hy3_4 => (intro W hSw; obtain ⟨q0, q1, q2, q3⟩ := KX.out W hSw; go_simp; try with_reducible rfl)
        try simp only [Act.put]
        try simp only [List.setIfInBounds_toArray]
        try simp only [List.set_cons_succ]
        try simp only [List.set_cons_zero]
        refine takeR (i := 4) (v := ?v4_5) rfl (by kernel_rfl) (by kernel_rfl) (by kernel_rfl) (fun _ _ _ h => h) (by rfl) ?hy4_5 (by assumption) ?rest4_5
        case hy4_5 => (intro W hSw; obtain ⟨q0, q1, q2, q3⟩ := KX.out W hSw; go_simp; try with_reducible rfl)
        try simp only [Act.put]
        try simp only [List.setIfInBounds_toArray]
        try simp only [List.set_cons_succ]
        try simp only [List.set_cons_zero]
        refine takeR (i := 5) (v := ?v5_6) rfl (by kernel_rfl) (by kernel_rfl) (by kernel_rfl) (fun _ _ _ h => h) (by rfl) ?hy5_6 (by assumption) ?rest5_6
        case hy5_6 => (intro W hSw; obtain ⟨q0, q1, q2, q3⟩ := KX.out W hSw; go_simp; try with_reducible rfl)
        try simp only [Act.put]
        try simp only [List.setIfInBounds_toArray]
        try simp only [List.set_cons_succ]
        try simp only [List.set_cons_zero]
        refine takeR (i := 6) (v := ?v6_7) rfl (by kernel_rfl) (by kernel_rfl) (by kernel_rfl) (fun _ _ _ h => h) (by rfl) ?hy6_7 (by assumption) ?rest6_7
        case hy6_7 => (intro W hSw; obtain ⟨q0, q1, q2, q3⟩ := KX.out W hSw; go_simp; try with_reducible rfl)
        try simp only [Act.put]
        try simp only [List.setIfInBounds_toArray]
        try simp only [List.set_cons_succ]
        try simp only [List.set_cons_zero]
        refine takeR (i := 7) (v := ?v7_8) rfl (by kernel_rfl) (by kernel_rfl) (by kernel_rfl) (fun _ _ _ h => h) (by rfl) ?hy7_8 (by assumption) ?rest7_8
        case hy7_8 => (intro W hSw; obtain ⟨q0, q1, q2, q3⟩ := KX.out W hSw; go_simp; try with_reducible rfl)
        try simp only [Act.put]
        try simp only [List.setIfInBounds_toArray]
        try simp only [List.set_cons_succ]
        try simp only [List.set_cons_zero]
        refine takeR (i := 8) (v := ?v8_9) rfl (by kernel_rfl) (by kernel_rfl) (by kernel_rfl) (fun _ _ _ h => h) (by rfl) ?hy8_9 (by assumption) ?rest8_9
        case hy8_9 => (intro W hSw; obtain ⟨q0, q1, q2, q3⟩ := KX.out W hSw; go_simp; try with_reducible rfl)
        try simp only [Act.put]
        try simp only [List.setIfInBounds_toArray]
        try simp only [List.set_cons_succ]
        try simp only [List.set_cons_zero]
        refine takeR (i := 9) (v := ?v9_10) rfl (by kernel_rfl) (by kernel_rfl) (by kernel_rfl) (fun _ _ _ h => h) (by rfl) ?hy9_10 (by assumption) ?rest9_10
        case hy9_10 => (intro W hSw; obtain ⟨q0, q1, q2, q3⟩ := KX.out W hSw; go_simp; try with_reducible rfl)
        try simp only [Act.put]
        try simp only [List.setIfInBounds_toArray]
        try simp only [List.set_cons_succ]
        try simp only [List.set_cons_zero]
        refine takeR (i := 10) (v := ?v10_11) rfl (by kernel_rfl) (by kernel_rfl) (by kernel_rfl) (fun _ _ _ h => h) (by rfl) ?hy10_11 (by assumption) ?rest10_11
        case hy10_11 => (intro W hSw; obtain ⟨q0, q1, q2, q3⟩ := KX.out W hSw; go_simp; try with_reducible rfl)
        try simp only [Act.put]
        try simp only [List.setIfInBounds_toArray]
        try simp only [List.set_cons_succ]
        try simp only [List.set_cons_zero]
        refine takeR (i := 11) (v := ?v11_12) rfl (by kernel_rfl) (by kernel_rfl) (by kernel_rfl) (fun _ _ _ h => h) (by rfl) ?hy11_12 (by assumption) ?rest11_12
        case hy11_12 => (intro W hSw; obtain ⟨q0, q1, q2, q3⟩ := KX.out W hSw; go_simp; try with_reducible rfl)
        try simp only [Act.put]
        try simp only [List.setIfInBounds_toArray]
        try simp only [List.set_cons_succ]
        try simp only [List.set_cons_zero]
        refine takeR (i := 12) (v := ?v12_13) rfl (by kernel_rfl) (by kernel_rfl) (by kernel_rfl) (fun _ _ _ h => h) (by rfl) ?hy12_13 (by assumption) ?rest12_13
        case hy12_13 => (intro W hSw; obtain ⟨q0, q1, q2, q3⟩ := KX.out W hSw; go_simp; try with_reducible rfl)
        try simp only [Act.put]
        try simp only [List.setIfInBounds_toArray]
        try simp only [List.set_cons_succ]
        try simp only [List.set_cons_zero]
        refine takeR (i := 13) (v := ?v13_14) rfl (by kernel_rfl) (by kernel_rfl) (by kernel_rfl) (fun _ _ _ h => h) (by rfl) ?hy13_14 (by assumption) ?rest13_14
        case hy13_14 => (intro W hSw; obtain ⟨q0, q1, q2, q3⟩ := KX.out W hSw; go_simp; try with_reducible rfl)
        try simp only [Act.put]
        try simp only [List.setIfInBounds_toArray]
        try simp only [List.set_cons_succ]
        try simp only [List.set_cons_zero]
        refine takeR (i := 14) (v := ?v14_15) rfl (by kernel_rfl) (by kernel_rfl) (by kernel_rfl) (fun _ _ _ h => h) (by rfl) ?hy14_15 (by assumption) ?rest14_15
        case hy14_15 => (intro W hSw; obtain ⟨q0, q1, q2, q3⟩ := KX.out W hSw; go_simp; try with_reducible rfl)
        try simp only [Act.put]
        try simp only [List.setIfInBounds_toArray]
        try simp only [List.set_cons_succ]
        try simp only [List.set_cons_zero]
        refine takeR (i := 15) (v := ?v15_16) rfl (by kernel_rfl) (by kernel_rfl) (by kernel_rfl) (fun _ _ _ h => h) (by rfl) ?hy15_16 (by assumption) ?rest15_16
        case hy15_16 => (intro W hSw; obtain ⟨q0, q1, q2, q3⟩ := KX.out W hSw; go_simp; try with_reducible rfl)
        try simp only [Act.put]
        try simp only [List.setIfInBounds_toArray]
        try simp only [List.set_cons_succ]
        try simp only [List.set_cons_zero]
        refine takeR (i := 16) (v := ?v16_17) rfl (by kernel_rfl) (by kernel_rfl) (by kernel_rfl) (fun _ _ _ h => h) (by rfl) ?hy16_17 (by assumption) ?rest16_17
        case hy16_17 => (intro W hSw; obtain ⟨q0, q1, q2, q3⟩ := KX.out W hSw; go_simp; try with_reducible rfl)
        try simp only [Act.put]
        try simp only [List.setIfInBounds_toArray]
        try simp only [List.set_cons_succ]
        try simp only [List.set_cons_zero]
        refine takeR (i := 17) (v := ?v17_18) rfl (by kernel_rfl) (by kernel_rfl) (by kernel_rfl) (fun _ _ _ h => h) (by rfl) ?hy17_18 (by assumption) ?rest17_18
        case hy17_18 => (intro W hSw; obtain ⟨q0, q1, q2, q3⟩ := KX.out W hSw; go_simp; try with_reducible rfl)
        try simp only [Act.put]
        try simp only [List.setIfInBounds_toArray]
        try simp only [List.set_cons_succ]
        try simp only [List.set_cons_zero]
        refine takeR (i := 18) (v := ?v18_19) rfl (by kernel_rfl) (by kernel_rfl) (by kernel_rfl) (fun _ _ _ h => h) (by rfl) ?hy18_19 (by assumption) ?rest18_19
        case hy18_19 => (intro W hSw; obtain ⟨q0, q1, q2, q3⟩ := KX.out W hSw; go_simp; try with_reducible rfl)
        try simp only [Act.put]
        try simp only [List.setIfInBounds_toArray]
        try simp only [List.set_cons_succ]
        try simp only [List.set_cons_zero]
        refine takeR (i := 19) (v := ?v19_20) rfl (by kernel_rfl) (by kernel_rfl) (by kernel_rfl) (fun _ _ _ h => h) (by rfl) ?hy19_20 (by assumption) ?rest19_20
        case hy19_20 => (intro W hSw; obtain ⟨q0, q1, q2, q3⟩ := KX.out W hSw; go_simp; try with_reducible rfl)
        try simp only [Act.put]
        try simp only [List.setIfInBounds_toArray]
        try simp only [List.set_cons_succ]
        try simp only [List.set_cons_zero]
        refine takeR (i := 20) (v := ?v20_21) rfl (by kernel_rfl) (by kernel_rfl) (by kernel_rfl) (fun _ _ _ h => h) (by rfl) ?hy20_21 (by assumption) ?rest20_21
        case hy20_21 => (intro W hSw; obtain ⟨q0, q1, q2, q3⟩ := KX.out W hSw; go_simp; try with_reducible rfl)
        try simp only [Act.put]
        try simp only [List.setIfInBounds_toArray]
        try simp only [List.set_cons_succ]
        try simp only [List.set_cons_zero]
        refine takeR (i := 21) (v := ?v21_22) rfl (by kernel_rfl) (by kernel_rfl) (by kernel_rfl) (fun _ _ _ h => h) (by rfl) ?hy21_22 (by assumption) ?rest21_22
        case hy21_22 => (intro W hSw; obtain ⟨q0, q1, q2, q3⟩ := KX.out W hSw; go_simp; try with_reducible rfl)
        try simp only [Act.put]
        try simp only [List.setIfInBounds_toArray]
        try simp only [List.set_cons_succ]
        try simp only [List.set_cons_zero]
        have BT : Hid (Below wr.heap.size wr wr.drew) := (Below.refl _ _).drew
        clear hHeld
        obtain ⟨wd, hwd⟩ : ∃ wd, wd = wr.drew := ⟨_, rfl⟩
        rw [← hwd] at BT
        rw [← hwd]
        clear hwd
        refine wpAnyH_ready (rs := [22]) (by kernel_rfl) (by simp) ?_
        refine AllReadyH.cons rfl (fun K hK => ?_) AllReadyH.nil
        rw [if_pos (by rfl)]
        go_simp
        refine (CS.out _ BT.out).mono ?_
        rintro e w4 ⟨rfl, rfl⟩
        refine hK.out _ _ BT.out (fun hHeld => ?_)
        try simp only [Act.put]
        try simp only [List.setIfInBounds_toArray]
        try simp only [List.set_cons_succ]
        try simp only [List.set_cons_zero]
        clear hK K
        refine takeR (i := 23) (v := ?v23_23) rfl (by kernel_rfl) (by kernel_rfl) (by kernel_rfl) (fun _ _ _ h => h) (by rfl) ?hy23_23 (by assumption) ?rest23_23
        case hy23_23 => (intro W hSw; go_simp; try with_reducible rfl)
        try simp only [Act.put]
        try simp only [List.setIfInBounds_toArray]
        try simp only [List.set_cons_succ]
        try simp only [List.set_cons_zero]
        refine takeR (i := 24) (v := ?v24_24) rfl (by kernel_rfl) (by kernel_rfl) (by kernel_rfl) (fun _ _ _ h => h) (by rfl) ?hy24_24 (by assumption) ?rest24_24
        case hy24_24 => (intro W hSw; go_simp; try with_reducible rfl)
        try simp only [Act.put]
        try simp only [List.setIfInBounds_toArray]
        try simp only [List.set_cons_succ]
        try simp only [List.set_cons_zero]
        clear hHeld
        refine wpAnyH_done (by kernel_rfl) ?_ _
        by_cases hda : xj.dat = yj.dat
        · have hd : (xj.dat == yj.dat) = true := by rw [hda]; exact beq_self_eq_true _
          have HEQ : Hid (l.take (j + 1) = l'.take (j + 1)) := HE1.out HTY.out hda
          rw [hd]
          clear hda hd
          go_wp2_with fail
          go_roundw
          case rel => exact ⟨j + 1, by omega, rfl, by go_num, hbel.out.trans (BT.out.mono hbel.out.size), HEQ.out⟩
          case measure => simp [intOf]; omega
        · have hd : (xj.dat == yj.dat) = false := beq_eq_false_iff_ne.2 hda
          have HNE : Hid (l ≠ l') := HE2.out (fun h => hda (by rw [h]))
          rw [hd]
          clear hda hd
          go_wp2_with fail
          go_ret
          exact HT.out _ _ (by simp; exact HNE.out) (hbel.out.trans (BT.out.mono hbel.out.size))
      · have ht : (xj.typ != yj.typ) = true := by rw [bne_iff_ne]; exact hty
        have ht2 : (xj.typ == yj.typ) = false := beq_eq_false_iff_ne.2 hty
        have HNE : Hid (l ≠ l') := HE2.out (fun h => hty (by rw [h]))
        clear hty
        go_wp2_with fail
        refine wp_region_held_drew (S := fun W => Below wr.heap.size wr W) (by kernel_rfl) (Below.refl _ _).drew (fun hHeld => ?_)
        refine takeR (i := 0) (v := ?v0_25) rfl (by kernel_rfl) (by kernel_rfl) (by kernel_rfl) (fun _ _ _ h => h) (by rfl) ?hy0_25 (by assumption) ?rest0_25
        case hy0_25 => (intro W hSw; obtain ⟨q0, q1, q2, q3⟩ := KX.out W hSw; go_simp; try with_reducible rfl)
        try simp only [Act.put]
        try simp only [List.setIfInBounds_toArray]
        try simp only [List.set_cons_succ]
        try simp only [List.set_cons_zero]
        refine takeR (i := 1) (v := ?v1_26) rfl (by kernel_rfl) (by kernel_rfl) (by kernel_rfl) (fun _ _ _ h => h) (by rfl) ?hy1_26 (by assumption) ?rest1_26
        case hy1_26 => (intro W hSw; obtain ⟨q0, q1, q2, q3⟩ := KX.out W hSw; go_simp; try with_reducible rfl)
        try simp only [Act.put]
        try simp only [List.setIfInBounds_toArray]
        try simp only [List.set_cons_succ]
        try simp only [List.set_cons_zero]
        refine takeR (i := 2) (v := ?v2_27) rfl (by kernel_rfl) (by kernel_rfl) (by kernel_rfl) (fun _ _ _ h => h) (by rfl) ?hy2_27 (by assumption) ?rest2_27
        case hy2_27 => (intro W hSw; obtain ⟨q0, q1, q2, q3⟩ := KX.out W hSw; go_simp; try with_reducible rfl)
        try simp only [Act.put]
        try simp only [List.setIfInBounds_toArray]
        try simp only [List.set_cons_succ]
        try simp only [List.set_cons_zero]
        refine takeR (i := 3) (v := ?v3_28) rfl (by kernel_rfl) (by kernel_rfl) (by kernel_rfl) (fun _ _ _ h => h) (by rfl) ?hy3_28 (by assumption) ?rest3_28
        case hy3_28 => (intro W hSw; obtain ⟨q0, q1, q2, q3⟩ := KX.out W hSw; go_simp; try with_reducible rfl)
        try simp only [Act.put]
        try simp only [List.setIfInBounds_toArray]
        try simp only [List.set_cons_succ]
        try simp only [List.set_cons_zero]
        refine takeR (i := 4) (v := ?v4_29) rfl (by kernel_rfl) (by kernel_rfl) (by kernel_rfl) (fun _ _ _ h => h) (by rfl) ?hy4_29 (by assumption) ?rest4_29
        case hy4_29 => (intro W hSw; obtain ⟨q0, q1, q2, q3⟩ := KX.out W hSw; go_simp; try with_reducible rfl)
        try simp only [Act.put]
        try simp only [List.setIfInBounds_toArray]
        try simp only [List.set_cons_succ]
        try simp only [List.set_cons_zero]
        refine takeR (i := 5) (v := ?v5_30) rfl (by kernel_rfl) (by kernel_rfl) (by kernel_rfl) (fun _ _ _ h => h) (by rfl) ?hy5_30 (by assumption) ?rest5_30
        case hy5_30 => (intro W hSw; obtain ⟨q0, q1, q2, q3⟩ := KX.out W hSw; go_simp; try with_reducible rfl)
        try simp only [Act.put]
        try simp only [List.setIfInBounds_toArray]
        try simp only [List.set_cons_succ]
        try simp only [List.set_cons_zero]
        refine takeR (i := 6) (v := ?v6_31) rfl (by kernel_rfl) (by kernel_rfl) (by kernel_rfl) (fun _ _ _ h => h) (by rfl) ?hy6_31 (by assumption) ?rest6_31
        case hy6_31 => (intro W hSw; obtain ⟨q0, q1, q2, q3⟩ := KX.out W hSw; go_simp; try with_reducible rfl)
        try simp only [Act.put]
        try simp only [List.setIfInBounds_toArray]
        try simp only [List.set_cons_succ]
        try simp only [List.set_cons_zero]
        refine takeR (i := 7) (v := ?v7_32) rfl (by kernel_rfl) (by kernel_rfl) (by kernel_rfl) (fun _ _ _ h => h) (by rfl) ?hy7_32 (by assumption) ?rest7_32
        case hy7_32 => (intro W hSw; obtain ⟨q0, q1, q2, q3⟩ := KX.out W hSw; go_simp; try with_reducible rfl)
        try simp only [Act.put]
        try simp only [List.setIfInBounds_toArray]
        try simp only [List.set_cons_succ]
        try simp only [List.set_cons_zero]
        refine takeR (i := 8) (v := ?v8_33) rfl (by kernel_rfl) (by kernel_rfl) (by kernel_rfl) (fun _ _ _ h => h) (by rfl) ?hy8_33 (by assumption) ?rest8_33
        case hy8_33 => (intro W hSw; obtain ⟨q0, q1, q2, q3⟩ := KX.out W hSw; go_simp; try with_reducible rfl)
        try simp only [Act.put]
        try simp only [List.setIfInBounds_toArray]
        try simp only [List.set_cons_succ]
        try simp only [List.set_cons_zero]
        refine takeR (i := 9) (v := ?v9_34) rfl (by kernel_rfl) (by kernel_rfl) (by kernel_rfl) (fun _ _ _ h => h) (by rfl) ?hy9_34 (by assumption) ?rest9_34
        case hy9_34 => (intro W hSw; obtain ⟨q0, q1, q2, q3⟩ := KX.out W hSw; go_simp; try with_reducible rfl)
        try simp only [Act.put]
        try simp only [List.setIfInBounds_toArray]
        try simp only [List.set_cons_succ]
        try simp only [List.set_cons_zero]
        refine takeR (i := 10) (v := ?v10_35) rfl (by kernel_rfl) (by kernel_rfl) (by kernel_rfl) (fun _ _ _ h => h) (by rfl) ?hy10_35 (by assumption) ?rest10_35
        case hy10_35 => (intro W hSw; obtain ⟨q0, q1, q2, q3⟩ := KX.out W hSw; go_simp; try with_reducible rfl)
        try simp only [Act.put]
        try simp only [List.setIfInBounds_toArray]
        try simp only [List.set_cons_succ]
        try simp only [List.set_cons_zero]
        refine takeR (i := 11) (v := ?v11_36) rfl (by kernel_rfl) (by kernel_rfl) (by kernel_rfl) (fun _ _ _ h => h) (by rfl) ?hy11_36 (by assumption) ?rest11_36
        case hy11_36 => (intro W hSw; obtain ⟨q0, q1, q2, q3⟩ := KX.out W hSw; go_simp; try with_reducible rfl)
        try simp only [Act.put]
        try simp only [List.setIfInBounds_toArray]
        try simp only [List.set_cons_succ]
        try simp only [List.set_cons_zero]
        refine takeU14 (i := 12) rfl (by kernel_rfl) (by kernel_rfl) (by kernel_rfl) (fun _ _ _ h => h) (by rfl) (by assumption) ?_
        try simp only [Act.put]
        try simp only [List.setIfInBounds_toArray]
        try simp only [List.set_cons_succ]
        try simp only [List.set_cons_zero]
        refine takeU14 (i := 13) rfl (by kernel_rfl) (by kernel_rfl) (by kernel_rfl) (fun _ _ _ h => h) (by rfl) (by assumption) ?_
        try simp only [Act.put]
        try simp only [List.setIfInBounds_toArray]
        try simp only [List.set_cons_succ]
        try simp only [List.set_cons_zero]
        refine takeU14 (i := 14) rfl (by kernel_rfl) (by kernel_rfl) (by kernel_rfl) (fun _ _ _ h => h) (by rfl) (by assumption) ?_
        try simp only [Act.put]
        try simp only [List.setIfInBounds_toArray]
        try simp only [List.set_cons_succ]
        try simp only [List.set_cons_zero]
        refine takeU14 (i := 15) rfl (by kernel_rfl) (by kernel_rfl) (by kernel_rfl) (fun _ _ _ h => h) (by rfl) (by assumption) ?_
        try simp only [Act.put]
        try simp only [List.setIfInBounds_toArray]
        try simp only [List.set_cons_succ]
        try simp only [List.set_cons_zero]
        refine takeU14 (i := 16) rfl (by kernel_rfl) (by kernel_rfl) (by kernel_rfl) (fun _ _ _ h => h) (by rfl) (by assumption) ?_
        try simp only [Act.put]
        try simp only [List.setIfInBounds_toArray]
        try simp only [List.set_cons_succ]
        try simp only [List.set_cons_zero]
        refine takeU14 (i := 17) rfl (by kernel_rfl) (by kernel_rfl) (by kernel_rfl) (fun _ _ _ h => h) (by rfl) (by assumption) ?_
        try simp only [Act.put]
        try simp only [List.setIfInBounds_toArray]
        try simp only [List.set_cons_succ]
        try simp only [List.set_cons_zero]
        refine takeU14 (i := 18) rfl (by kernel_rfl) (by kernel_rfl) (by kernel_rfl) (fun _ _ _ h => h) (by rfl) (by assumption) ?_
        try simp only [Act.put]
        try simp only [List.setIfInBounds_toArray]
        try simp only [List.set_cons_succ]
        try simp only [List.set_cons_zero]
        refine takeU14 (i := 19) rfl (by kernel_rfl) (by kernel_rfl) (by kernel_rfl) (fun _ _ _ h => h) (by rfl) (by assumption) ?_
        try simp only [Act.put]
        try simp only [List.setIfInBounds_toArray]
        try simp only [List.set_cons_succ]
        try simp only [List.set_cons_zero]
        refine takeU14 (i := 20) rfl (by kernel_rfl) (by kernel_rfl) (by kernel_rfl) (fun _ _ _ h => h) (by rfl) (by assumption) ?_
        try simp only [Act.put]
        try simp only [List.setIfInBounds_toArray]
        try simp only [List.set_cons_succ]
        try simp only [List.set_cons_zero]
        refine takeU14 (i := 21) rfl (by kernel_rfl) (by kernel_rfl) (by kernel_rfl) (fun _ _ _ h => h) (by rfl) (by assumption) ?_
        try simp only [Act.put]
        try simp only [List.setIfInBounds_toArray]
        try simp only [List.set_cons_succ]
        try simp only [List.set_cons_zero]
        refine takeU14 (i := 22) rfl (by kernel_rfl) (by kernel_rfl) (by kernel_rfl) (fun _ _ _ h => h) (by rfl) (by assumption) ?_
        try simp only [Act.put]
        try simp only [List.setIfInBounds_toArray]
        try simp only [List.set_cons_succ]
        try simp only [List.set_cons_zero]
        refine takeU14 (i := 23) rfl (by kernel_rfl) (by kernel_rfl) (by kernel_rfl) (fun _ _ _ h => h) (by rfl) (by assumption) ?_
        try simp only [Act.put]
        try simp only [List.setIfInBounds_toArray]
        try simp only [List.set_cons_succ]
        try simp only [List.set_cons_zero]
        refine takeR (i := 24) (v := ?v24_37) rfl (by kernel_rfl) (by kernel_rfl) (by kernel_rfl) (fun _ _ _ h => h) (by rfl) ?hy24_37 (by assumption) ?rest24_37
        case hy24_37 => (intro W hSw; go_simp; try with_reducible rfl)
        try simp only [Act.put]
        try simp only [List.setIfInBounds_toArray]
        try simp only [List.set_cons_succ]
        try simp only [List.set_cons_zero]
        have BT : Hid (Below wr.heap.size wr wr.drew) := (Below.refl _ _).drew
        clear hHeld
        refine wpAnyH_done (by kernel_rfl) ?_ _
        go_wp2_with fail
        go_ret
        exact HT.out _ _ (by simp; exact HNE.out) (hbel.out.trans (BT.out.mono hbel.out.size))
    · obtain rfl : j = n := by omega
      have HEQ : Hid (l = l') := by
        have h := htake.out
        rw [List.take_of_length_le (Nat.le_of_eq H.out.1), List.take_of_length_le (Nat.le_of_eq H'.out.1)] at h
        exact h
      have hjj : decide ((j : Int) < (j : Int)) = false := by simp
      go_wp2_with fail
      go_ret
      exact HT.out _ _ (by simp; exact HEQ.out) hbel.out
end Go.Proofs.YtahgaogmcffglaaDoor
/- Layer 14's reference: Scan. (Made by gen/RecK.py.) -/
namespace Go.Proofs.YtahgaogmcffglaaDoor
open Go.RowKit

abbrev QR := Rcd × Option Addr × Nat × Nat
def flatQ (qs : List QR) : List Value := qs.flatMap fun q => [.int .i64 q.1.typ, .slice q.2.1 q.2.2.1 q.2.2.2]
theorem flatQ_snoc (qs : List QR) (q : QR) : flatQ (qs ++ [q]) = flatQ qs ++ [.int .i64 q.1.typ, .slice q.2.1 q.2.2.1 q.2.2.2] := by simp [flatQ]
theorem flatQ_at : ∀ (qs : List QR) (i : Nat) (q : QR), qs[i]? = some q → (flatQ qs)[i * 2]? = some (.int .i64 q.1.typ) ∧ (flatQ qs)[i * 2 + 1]? = some (.slice q.2.1 q.2.2.1 q.2.2.2)
  | [], i, q, h => by simp at h
  | x :: qs, 0, q, h => by
    simp at h
    subst h
    simp [flatQ]
  | x :: qs, i + 1, q, h => by
    have := flatQ_at qs i q (by simpa using h)
    rw [show (i + 1) * 2 = i * 2 + 1 + 1 by omega]
    simpa [flatQ] using this
theorem info_rec14 : (Tryd.prog.info? 35).map (fun i => (i.zero, i.size, i.bytes)) = some (some (.agg #[.int .i64 0, .slice none 0 0]), 2, 32) := by kernel_rfl
/-- A row of records of the call's own, whose bytes are its own. -/
def ScS (w : World) (base : Nat) (v : Value) (qs : List QR) : Prop := w.ownsRow base 35 2 v qs.length (flatQ qs) ∧ ∀ q ∈ qs, Ob w base 5 (.slice q.2.1 q.2.2.1 q.2.2.2) q.1.dat ∧ q.1.dat.length ≤ 8192
theorem ScS.below {w w' : World} {base : Nat} {v : Value} {qs : List QR} (h : ScS w base v qs) (hb : Below w.heap.size w w') : ScS w' base v qs :=
  ⟨World.ownsRow.kept h.1 (row := none) ⟨hb.os, hb.tape, hb.output, hb.size, fun k hk _ => hb.block k hk⟩ (by cases v.ownBlock <;> simp), fun q hq => ⟨(h.2 q hq).1.below hb, (h.2 q hq).2⟩⟩
/-- It reads as its records. -/
theorem ScS.rw {w : World} {base : Nat} {v : Value} {qs : List QR} (h : ScS w base v qs) : ∃ A c, v = .slice A qs.length c ∧ qs.length ≤ c ∧ RwC w w.heap.size A qs.length (qs.map (·.1)) := by
  rcases h.1.2 with ⟨hv, h0⟩ | ⟨g, cap, cur, hv, hbg, hg, hn, hm, -⟩
  · exact ⟨none, 0, by rw [hv, h0], by omega, by rw [List.length_map], fun h1 => by omega⟩
  · refine ⟨some ⟨g, 0, none⟩, cap, hv, hn, by rw [List.length_map], fun _ => ⟨g, 0, rfl, (Array.getElem?_eq_some_iff.1 hg).1, fun i r hi => ?_⟩⟩
    rw [List.getElem?_map] at hi
    obtain ⟨q, hq, rfl⟩ := Option.map_eq_some_iff.1 hi
    obtain ⟨h1, h2⟩ := flatQ_at qs i q hq
    have c1 := World.ownsRow.cells h.1 (g := g) (by rw [hv]; rfl) _ _ h1
    have c2 := World.ownsRow.cells h.1 (g := g) (by rw [hv]; rfl) _ _ h2
    rw [add_mk14] at c1 c2
    have hq' := h.2 q (List.mem_of_getElem? hq)
    have ho := hq'.1.rd_
    refine ⟨q.2.1, q.2.2.1, q.2.2.2, c1, by rw [← Nat.add_assoc] at c2; exact c2, ho.2.2.1, ?_, ho.2.1⟩
    rw [← ho.1]
    exact Nat.le_trans hq'.2 (by decide)

/-- append of one record. -/
theorem wpList_appR {w : World} {ops : Array Oper} {rest : List Oper} {o : Oper} {a : Act} {Q : Exit → Act → World → Prop} (hgd : o.guard = none) (s x : Operand)
    (ho : o.op = .call { callee := .builtin .append, args := #[s, x], argTypes := #[29, 29] })
    (base : Nat) (v : Value) (qs : List QR) (hs : a.eval s = v) (hown : ScS w base v qs) (b c : Nat) (q : QR) (hx : a.eval x = .slice (some ⟨b, 0, none⟩) 1 c) (hu0 : w.cell? ⟨b, 0, none⟩ = some (.int .i64 q.1.typ)) (hu1 : w.cell? ⟨b, 1, none⟩ = some (.slice q.2.1 q.2.2.1 q.2.2.2))
    (hlen : qs.length + 1 ≤ 4398046511104) (hbase : base ≤ w.heap.size) (hq : Ob w base 5 (.slice q.2.1 q.2.2.1 q.2.2.2) q.1.dat ∧ q.1.dat.length ≤ 8192)
    (h : ∀ v' w', ScS w' base v' (qs ++ [q]) → Below base w w' → wpList Tryd.prog ops Q rest (a.put o.dst v') w') : wpList Tryd.prog ops Q (o :: rest) a w := by
  obtain ⟨i, hi, hi0, hi1, hi2⟩ := info_parts info_rec14
  refine Go.wpList_append_own_at w hgd s x 29 ho base 35 i (.agg #[.int .i64 0, .slice none 0 0]) 2 32 Tryd.underlying29 hi hi0 hi1 hi2 rfl (by decide) v qs.length (flatQ qs) hs hown.1 ⟨b, 0, none⟩ 1 c [.int .i64 q.1.typ, .slice q.2.1 q.2.2.1 q.2.2.2] hx rfl (fun j u' hj => ?_) (fun u' hu' => ?_) (by unfold maxLen; omega) (by omega) hbase fun v' w' h2 h3 _ h5 => h v' w' ⟨?_, ?_⟩ ?_
  · rw [add_mk14]
    match j, hj with
    | 0, hj =>
      simp at hj
      subst hj
      exact hu0
    | 1, hj =>
      simp at hj
      subst hj
      exact hu1
    | j + 2, hj => simp at hj
  · simp at hu'
    rcases hu' with rfl | rfl <;> rfl
  · rw [flatQ_snoc, List.length_append, List.length_singleton]
    exact h2
  · have hk : ∀ y : QR, Ob w base 5 (.slice y.2.1 y.2.2.1 y.2.2.2) y.1.dat → Ob w' base 5 (.slice y.2.1 y.2.2.1 y.2.2.2) y.1.dat := fun y hy => by
      refine hy.kept h3 ?_
      rcases hown.1.2 with ⟨hv, -⟩ | ⟨g, cap, cur, hv, -, hg, -⟩
      · rw [hv]
        show _ ∨ _ ≠ (none : Option Nat)
        cases (Value.slice y.2.1 y.2.2.1 y.2.2.2).ownBlock with
        | none => exact .inl rfl
        | some g' => exact .inr (by simp)
      · exact .inr (by rw [hv]; exact hy.not_at14 hg (by decide))
    intro y hy
    rcases List.mem_append.1 hy with hy | hy
    · exact ⟨hk y (hown.2 y hy).1, (hown.2 y hy).2⟩
    · obtain rfl := List.mem_singleton.1 hy
      exact ⟨hk _ hq.1, hq.2⟩
  · exact ⟨h3.os, h3.tape, h3.output, h3.size, fun k hk => h3.block k (by omega) (fun e => by have := (World.ownsRow.lt hown.1 k e.symm).1; omega)⟩
end Go.Proofs.YtahgaogmcffglaaDoor
/- Layer 14's reference: Scan. (Made by gen/RecL.py.) -/
namespace Go.Proofs.YtahgaogmcffglaaDoor
open Go.RowKit

/-- What Scan answers. -/
def ScnR (salt : Nat) (l : List UInt8) (w : World) (e : Ending) (w' : World) : Prop := Below w.heap.size w w' ∧ ∃ v qs, e = .returned (.tuple #[v, .int .i64 ((scanR salt l).2 : Int)]) ∧ ScS w' w.heap.size v qs ∧ qs.map (·.1) = (scanR salt l).1

end Go.Proofs.YtahgaogmcffglaaDoor
