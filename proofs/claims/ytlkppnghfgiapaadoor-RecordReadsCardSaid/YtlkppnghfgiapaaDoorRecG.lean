/- Layer 14's reference: Frame. (Made by gen/RecG.py.) -/
import Derived.Test.YtlkppnghfgiapaaDoorRecF
import Derived.Test.YtlkppnghfgiapaaDoorRfA
import Derived.Deep.CutRange
import Derived.Deep.DeepCutAuto
namespace Go.Proofs.YtlkppnghfgiapaaDoor
open Go.RowKit

/-- What Frame answers. -/
def FrmR (salt : Nat) (r : Rcd) (w : World) (e : Ending) (w' : World) : Prop := Below w.heap.size w w' ∧ ∃ (v : Value) (z : Int), e = .returned (.tuple #[v, .int .i64 z]) ∧ z = (if rokR r = true then 0 else 140) ∧ Ob w' w.heap.size 5 v (if rokR r = true then frameR salt r else [])
theorem Ob.wide {w : World} {base base' : Nat} {t : TypeId} {v : Value} {l : List UInt8} (h : Ob w base t v l) (hb : base' ≤ base) : Ob w base' t v l := by
  refine ⟨h.1, ?_⟩
  rcases h.2 with hn | ⟨g, cap, cur, e, hg, rest⟩
  · exact .inl hn
  · exact .inr ⟨g, cap, cur, e, Nat.le_trans hb hg, rest⟩
theorem byte_of (t : Int) (h1 : 1 ≤ t) (h2 : t ≤ 255) : IntKind.u8.wrap t = ((UInt8.ofNat t.toNat).toNat : Int) := by
  rw [show IntKind.u8.wrap t = t % 256 from rfl, UInt8.toNat_ofNat']
  omega

set_option maxRecDepth 100000 in
set_option maxHeartbeats 8000000 in
theorem rframe_any (salt : Nat) (t : Int) (A : Option Addr) (n c B : Nat) (d : List UInt8) (w : World) (hsl : salt < 18446744073709551616) (h : Rd w B A n d) (hB : B ≤ w.heap.size) :
    Calls Tryd.prog 9 #[.int .u64 (salt : Int), recV t A n c] w (FrmR salt ⟨t, d⟩ w) := by
  obtain ⟨w1, hw1⟩ : ∃ w1, w1 = w.alloc (.cells #[.int .i64 t, .slice A n c] 25) := ⟨_, rfl⟩
  have hb1 : Below w.heap.size w w1 := by rw [hw1]; exact (Below.refl _ _).alloc (Nat.le_refl _) _
  have hbox : w1.heap[w.heap.size]? = some (.cells #[.int .i64 t, .slice A n c] 25 (0, 0)) := by rw [hw1]; exact heap_alloc_new w _
  have CR := Lib.hid (rright_any t A n c d w1 h.1)
  have HX := Lib.hid hbox
  have HB1 := Lib.hid hb1
  have HW := Lib.hid hw1
  have HD := Lib.hid h.1
  have HR := Lib.hid (And.intro h hB)
  unfold recV at *
  cases hr : rokR ⟨t, d⟩ with
  | false =>
    have HF : Hid (∀ w', Below w.heap.size w w' → FrmR salt ⟨t, d⟩ w (.returned (.tuple #[.slice none 0 0, .int .i64 140])) w') := fun w' hb => ⟨hb, _, _, rfl, by rw [hr]; rfl, by rw [hr]; exact Ob.nil_ _ _ _⟩
    rw [hr] at CR
    clear h hB hb1 hbox hw1 hr
    go_enter Tryd.func9, Tryd.ntmps9
    go_wp2_with fail
    rw [← HW.out]
    refine CR.out.mono ?_
    rintro e w2 ⟨rfl, hb2⟩
    have B2 := Lib.hid (HB1.out.trans (hb2.mono HB1.out.size))
    clear hb2
    go_wp2_with fail
    exact bodyPost_ret (v := .tuple #[.slice none 0 0, .int .i64 140]) (by simp [results, Tryd.results9, go_sem]) rfl (HF.out _ B2.out)
  | true =>
    obtain ⟨k1, k2, k3⟩ := rokR_iff.1 hr
    have k1' : 1 ≤ t := k1
    have k2' : t ≤ 255 := k2
    have k3' : n ≤ 8192 := by rw [← h.1]; exact k3
    have HF : Hid (∀ w' v, Below w.heap.size w w' → Ob w' w.heap.size 5 v (frameR salt ⟨t, d⟩) → FrmR salt ⟨t, d⟩ w (.returned (.tuple #[v, .int .i64 0])) w') := fun w' v hb ho => ⟨hb, v, _, rfl, by rw [hr]; rfl, by rw [hr, if_pos rfl]; exact ho⟩
    rw [hr] at CR
    have wt := byte_of t k1' k2'
    obtain ⟨T, hT⟩ : ∃ T : UInt8, T = UInt8.ofNat t.toNat := ⟨_, rfl⟩
    rw [← hT] at wt
    have HT := Lib.hid hT
    have HN := Lib.hid k3'
    have wn : IntKind.u64.wrap (n : Int) = (n : Int) := by rw [show IntKind.u64.wrap (n : Int) = (n : Int) % 18446744073709551616 from rfl]; omega
    clear h hB hb1 hbox hw1 hr k1 k2 k3 k1' k2' k3' hT
    go_enter Tryd.func9, Tryd.ntmps9
    go_wp2_with fail
    rw [← HW.out]
    refine CR.out.mono ?_
    rintro e w2 ⟨rfl, hb2⟩
    have x2 : w2.heap[w.heap.size]? = some (.cells #[.int .i64 t, .slice A n c] 25 (0, 0)) := (hb2.block _ (Array.getElem?_eq_some_iff.1 HX.out).1).trans HX.out
    have X2 := Lib.hid x2
    have B2 := Lib.hid (HB1.out.trans (hb2.mono HB1.out.size))
    have L2 : Hid (w.heap.size < w2.heap.size) := (Array.getElem?_eq_some_iff.1 x2).1
    clear hb2 x2 CR
    go_upto_region 3 with fail
    go_cut [6] (fun v wx => Hid (Ob wx w2.heap.size 5 v (be n 2 ++ [T]) ∧ Below w2.heap.size w2 wx))
    case first =>
      have KX : Hid (∀ W, Below w2.heap.size w2 W → W.cell? ⟨w.heap.size, 0, none⟩ = some (.int .i64 t) ∧ W.cell? ⟨w.heap.size, 1, none⟩ = some (.slice A n c)) := fun W hW => by
        have hx := (hW.block _ L2.out).trans X2.out
        refine ⟨?_, ?_⟩ <;> (rw [cell_of_row W w.heap.size _ _ _ _ hx]; rfl)
      refine wp_region_held_drew (S := fun W => Below w2.heap.size w2 W) (by kernel_rfl) (Below.refl _ _).drew (fun hHeld => ?_)
      refine takeR (i := 0) (v := ?v0_1) rfl (by kernel_rfl) (by kernel_rfl) (by kernel_rfl) (fun _ _ _ h => h) (by rfl) ?hy0_1 (by assumption) ?rest0_1
      case hy0_1 => (intro W hSw; obtain ⟨q0, q1⟩ := KX.out W hSw; go_simp; try with_reducible rfl)
      try simp only [Act.put]
      try simp only [List.setIfInBounds_toArray]
      try simp only [List.set_cons_succ]
      try simp only [List.set_cons_zero]
      refine takeR (i := 1) (v := ?v1_2) rfl (by kernel_rfl) (by kernel_rfl) (by kernel_rfl) (fun _ _ _ h => h) (by rfl) ?hy1_2 (by assumption) ?rest1_2
      case hy1_2 => (intro W hSw; obtain ⟨q0, q1⟩ := KX.out W hSw; go_simp; try with_reducible rfl)
      try simp only [Act.put]
      try simp only [List.setIfInBounds_toArray]
      try simp only [List.set_cons_succ]
      try simp only [List.set_cons_zero]
      refine takeR (i := 2) (v := ?v2_3) rfl (by kernel_rfl) (by kernel_rfl) (by kernel_rfl) (fun _ _ _ h => h) (by rfl) ?hy2_3 (by assumption) ?rest2_3
      case hy2_3 => (intro W hSw; obtain ⟨q0, q1⟩ := KX.out W hSw; go_simp; try with_reducible rfl)
      try simp only [Act.put]
      try simp only [List.setIfInBounds_toArray]
      try simp only [List.set_cons_succ]
      try simp only [List.set_cons_zero]
      refine takeR (i := 3) (v := ?v3_4) rfl (by kernel_rfl) (by kernel_rfl) (by kernel_rfl) (fun _ _ _ h => h) (by rfl) ?hy3_4 (by assumption) ?rest3_4
      case hy3_4 => (intro W hSw; obtain ⟨q0, q1⟩ := KX.out W hSw; go_simp; try with_reducible rfl)
      try simp only [Act.put]
      try simp only [List.setIfInBounds_toArray]
      try simp only [List.set_cons_succ]
      try simp only [List.set_cons_zero]
      refine takeR (i := 5) (v := ?v5_5) rfl (by kernel_rfl) (by kernel_rfl) (by kernel_rfl) (fun _ _ _ h => h) (by rfl) ?hy5_5 (by assumption) ?rest5_5
      case hy5_5 => (intro W hSw; obtain ⟨q0, q1⟩ := KX.out W hSw; go_simp; try with_reducible rfl)
      try simp only [Act.put]
      try simp only [List.setIfInBounds_toArray]
      try simp only [List.set_cons_succ]
      try simp only [List.set_cons_zero]
      refine takeR (i := 6) (v := ?v6_6) rfl (by kernel_rfl) (by kernel_rfl) (by kernel_rfl) (fun _ _ _ h => h) (by rfl) ?hy6_6 (by assumption) ?rest6_6
      case hy6_6 => (intro W hSw; obtain ⟨q0, q1⟩ := KX.out W hSw; go_simp; try with_reducible rfl)
      try simp only [Act.put]
      try simp only [List.setIfInBounds_toArray]
      try simp only [List.set_cons_succ]
      try simp only [List.set_cons_zero]
      refine takeR (i := 7) (v := ?v7_7) rfl (by kernel_rfl) (by kernel_rfl) (by kernel_rfl) (fun _ _ _ h => h) (by rfl) ?hy7_7 (by assumption) ?rest7_7
      case hy7_7 => (intro W hSw; obtain ⟨q0, q1⟩ := KX.out W hSw; go_simp; try with_reducible rfl)
      try simp only [Act.put]
      try simp only [List.setIfInBounds_toArray]
      try simp only [List.set_cons_succ]
      try simp only [List.set_cons_zero]
      have BT : Hid (Below w2.heap.size w2 w2.drew) := (Below.refl _ _).drew
      clear hHeld
      obtain ⟨wc, hwc⟩ : ∃ wc, wc = w2.drew := ⟨_, rfl⟩
      rw [← hwc] at BT
      rw [← hwc]
      clear hwc
      refine wpAnyH_ready (rs := [4, 8]) (by kernel_rfl) (by simp) ?_
      refine AllReadyH.cons rfl (fun K hK => ?_) ?_
      · skip
        rw [if_pos (by rfl)]
        go_simp
        refine (rput_any (n : Int) 2 _ (by omega) (by have := HN.out; omega) (by decide)).mono ?_
        rintro e wp ⟨vp, rfl, hop, hbp⟩
        rw [Int.toNat_natCast] at hop
        have OPa := Lib.hid hop
        have BPa := Lib.hid hbp
        have BQa : Hid (Below w2.heap.size w2 wp) := BT.out.trans (hbp.mono BT.out.size)
        clear hop hbp
        refine hK.out _ _ BQa.out (fun hHeld => ?_)
        try simp only [Act.put]
        try simp only [List.setIfInBounds_toArray]
        try simp only [List.set_cons_succ]
        try simp only [List.set_cons_zero]
        clear hK K hHeld
        refine wpAnyH_ready (rs := [8]) (by kernel_rfl) (by simp) ?_
        refine AllReadyH.cons rfl (fun K hK => ?_) AllReadyH.nil
        rw [if_pos (by rfl)]
        go_simp
        obtain ⟨wd, hwd⟩ : ∃ wd, wd = wp.alloc (.cells #[.int .u8 (T.toNat : Int)] 5) := ⟨_, rfl⟩
        obtain ⟨gy, hgy⟩ : ∃ gy, gy = wp.heap.size := ⟨_, rfl⟩
        have BD : Hid (Below w2.heap.size w2 wd) := by show Below _ _ _; rw [hwd]; exact BQa.out.alloc BQa.out.size _
        have OD : Hid (Ob wd w2.heap.size 5 vp (be n 2)) := by show Ob _ _ _ _ _; rw [hwd]; exact (OPa.out.wide BT.out.size).alloc _
        have RD : Hid (Rd wd (gy + 1) (some ⟨gy, 0, none⟩) 1 [T]) := by show Rd _ _ _ _ _; rw [hwd]; exact Rd.lit wp gy hgy.symm [T] 5 _ rfl 1 rfl
        rw [← hwd, ← hgy]
        refine hK.out _ _ BD.out (fun hHeld => ?_)
        try simp only [Act.put]
        try simp only [List.setIfInBounds_toArray]
        try simp only [List.set_cons_succ]
        try simp only [List.set_cons_zero]
        clear hK K hHeld hwd hgy
        refine wpAnyH_ready (rs := [9]) (by kernel_rfl) (by simp) ?_
        refine AllReadyH.cons rfl (fun K hK => ?_) AllReadyH.nil
        refine step_appG (by rfl) (.tmp 15) (.tmp 19) 23 (by rfl) w2.heap.size 5 Tryd.underlying23 info_u8 _ (be n 2) (by rfl) OD.out _ (some ⟨gy, 0, none⟩) 1 1 [T] (by rfl) RD.out (by rw [be_length]; decide) BD.out.size ?_
        intro v9 w9 ho9 hg9
        have B9 : Hid (Below w2.heap.size w2 w9) := grown_trans hg9 (OD.out) BD.out
        have O9 := Lib.hid ho9
        clear ho9 hg9
        show K (Act.put _ (some 20) v9) w9
        refine hK.out _ _ B9.out (fun hHeld => ?_)
        try simp only [Act.put]
        try simp only [List.setIfInBounds_toArray]
        try simp only [List.set_cons_succ]
        try simp only [List.set_cons_zero]
        clear hK K
        refine takeR (i := 10) (v := ?v10_8) rfl (by kernel_rfl) (by kernel_rfl) (by kernel_rfl) (fun _ _ _ h => h) (by rfl) ?hy10_8 (by assumption) ?rest10_8
        case hy10_8 => (intro W hSw; go_simp; try with_reducible rfl)
        try simp only [Act.put]
        try simp only [List.setIfInBounds_toArray]
        try simp only [List.set_cons_succ]
        try simp only [List.set_cons_zero]
        clear hHeld
        refine wpAnyH_done (by kernel_rfl) ?_ _
        go_wp2_with fail
        go_meet
        case rel => exact ⟨O9.out, B9.out⟩
      refine AllReadyH.cons rfl (fun K hK => ?_) AllReadyH.nil
      rw [if_pos (by rfl)]
      go_simp
      obtain ⟨wd, hwd⟩ : ∃ wd, wd = wc.alloc (.cells #[.int .u8 (T.toNat : Int)] 5) := ⟨_, rfl⟩
      obtain ⟨gy, hgy⟩ : ∃ gy, gy = wc.heap.size := ⟨_, rfl⟩
      have BD : Hid (Below w2.heap.size w2 wd) := by show Below _ _ _; rw [hwd]; exact BT.out.alloc BT.out.size _
      have RD : Hid (Rd wd (gy + 1) (some ⟨gy, 0, none⟩) 1 [T] ∧ gy + 1 ≤ wd.heap.size) := by
        refine ⟨?_, ?_⟩
        · rw [hwd]; exact Rd.lit wc gy hgy.symm [T] 5 _ rfl 1 rfl
        · rw [hwd, hgy]; simp
      rw [← hwd, ← hgy]
      refine hK.out _ _ BD.out (fun hHeld => ?_)
      try simp only [Act.put]
      try simp only [List.setIfInBounds_toArray]
      try simp only [List.set_cons_succ]
      try simp only [List.set_cons_zero]
      clear hK K hHeld hwd hgy
      refine wpAnyH_ready (rs := [4]) (by kernel_rfl) (by simp) ?_
      refine AllReadyH.cons rfl (fun K hK => ?_) AllReadyH.nil
      rw [if_pos (by rfl)]
      go_simp
      refine (rput_any (n : Int) 2 _ (by omega) (by have := HN.out; omega) (by decide)).mono ?_
      rintro e wp ⟨vp, rfl, hop, hbp⟩
      rw [Int.toNat_natCast] at hop
      have OPb := Lib.hid hop
      have BPb := Lib.hid hbp
      have BQb : Hid (Below w2.heap.size w2 wp) := BD.out.trans (hbp.mono BD.out.size)
      clear hop hbp
      refine hK.out _ _ BQb.out (fun hHeld => ?_)
      try simp only [Act.put]
      try simp only [List.setIfInBounds_toArray]
      try simp only [List.set_cons_succ]
      try simp only [List.set_cons_zero]
      clear hK K hHeld
      have OD : Hid (Ob wp w2.heap.size 5 vp (be n 2)) := OPb.out.wide BD.out.size
      refine wpAnyH_ready (rs := [9]) (by kernel_rfl) (by simp) ?_
      refine AllReadyH.cons rfl (fun K hK => ?_) AllReadyH.nil
      refine step_appG (by rfl) (.tmp 15) (.tmp 19) 23 (by rfl) w2.heap.size 5 Tryd.underlying23 info_u8 _ (be n 2) (by rfl) OD.out _ (some ⟨gy, 0, none⟩) 1 1 [T] (by rfl) (RD.out.1.below (BPb.out.mono RD.out.2)) (by rw [be_length]; decide) BQb.out.size ?_
      intro v9 w9 ho9 hg9
      have B9 : Hid (Below w2.heap.size w2 w9) := grown_trans hg9 (OD.out) BQb.out
      have O9 := Lib.hid ho9
      clear ho9 hg9
      show K (Act.put _ (some 20) v9) w9
      refine hK.out _ _ B9.out (fun hHeld => ?_)
      try simp only [Act.put]
      try simp only [List.setIfInBounds_toArray]
      try simp only [List.set_cons_succ]
      try simp only [List.set_cons_zero]
      clear hK K
      refine takeR (i := 10) (v := ?v10_9) rfl (by kernel_rfl) (by kernel_rfl) (by kernel_rfl) (fun _ _ _ h => h) (by rfl) ?hy10_9 (by assumption) ?rest10_9
      case hy10_9 => (intro W hSw; go_simp; try with_reducible rfl)
      try simp only [Act.put]
      try simp only [List.setIfInBounds_toArray]
      try simp only [List.set_cons_succ]
      try simp only [List.set_cons_zero]
      clear hHeld
      refine wpAnyH_done (by kernel_rfl) ?_ _
      go_wp2_with fail
      go_meet
      case rel => exact ⟨O9.out, B9.out⟩
    case rest =>
      have H3 := hcut
      clear hcut
      obtain ⟨w3, rfl⟩ : ∃ w3, w3 = wc := ⟨_, rfl⟩
      obtain ⟨v3, rfl⟩ : ∃ v3, v3 = u6 := ⟨_, rfl⟩
      obtain ⟨L, hL⟩ : ∃ L, L = be n 2 ++ [T] ++ d := ⟨_, rfl⟩
      have hLn : L.length = n + 3 := by rw [hL, List.length_append, List.length_append, be_length, HD.out, List.length_singleton]; omega
      have HLn := Lib.hid hLn
      have HL := Lib.hid hL
      have HRW : Hid (∀ W, Below w2.heap.size w2 W → Rd W B A n d) := fun W hW => HR.out.1.below ((B2.out.trans (hW.mono B2.out.size)).mono HR.out.2)
      have q1 : w3.cell? ⟨w.heap.size, 1, none⟩ = some (.slice A n c) := by
        have hx := (H3.out.2.block _ L2.out).trans X2.out
        rw [cell_of_row w3 w.heap.size _ _ _ _ hx]
        rfl
      have HB4 : Hid ((be n 2 ++ [T]).length + n ≤ 140737488355328) := by show _ ≤ _; rw [List.length_append, be_length, List.length_singleton]; have := HN.out; omega
      clear hLn hL
      go_upto_region 5 with (first
        | (at_builtin; refine wpList_app rfl (.tmp 21) (.tmp 23) 23 rfl w2.heap.size 5 Tryd.underlying23 info_u8 v3 (be n 2 ++ [T]) rfl (H3.out.1) _ A n c d rfl (HRW.out _ H3.out.2) (HB4.out) (H3.out.2.size) ?_; intro v4 w4 ho4 hg4 hh4; clear hh4)
        | fail)
      have B4 : Hid (Below w2.heap.size w2 w4) := grown_trans hg4 H3.out.1 H3.out.2
      rw [← HL.out] at ho4
      obtain ⟨A6, c6, rfl, -, -, hr6⟩ := ho4.rd
      have O4 := Lib.hid ho4
      clear ho4 hg4 q1 HB4
      obtain ⟨n6, hn6⟩ : ∃ n6, n6 = L.length := ⟨_, rfl⟩
      rw [← hn6] at O4 hr6
      rw [← hn6]
      have HN6 : Hid (n6 = n + 3) := hn6.trans HLn.out
      have R6 := Lib.hid hr6
      clear hn6 hr6
      have CP := Lib.hid (fun W => rput_any (salt : Int) 8 W (by omega) (by omega) (by decide))
      rw [Int.toNat_natCast] at CP
      have HB5 : Hid ((be salt 8).length + n6 ≤ 140737488355328) := by show _ ≤ _; rw [be_length]; have := HN.out; have := HN6.out; omega
      go_upto_region 6 with (first
        | (go_at_call 24; refine (CP.out _).mono ?_; rintro e wp ⟨vp, rfl, hop, hbp⟩; have OP := Lib.hid hop; have BP := Lib.hid hbp; clear hop hbp)
        | (at_builtin; refine wpList_app rfl (.tmp 26) (.tmp 27) 23 rfl w4.heap.size 5 Tryd.underlying23 info_u8 vp (be salt 8) rfl (OP.out) _ A6 n6 c6 L rfl (R6.out.below BP.out) (HB5.out) (BP.out.size) ?_; intro v9 w9 ho9 hg9 hh9; clear hh9; have B9 := Lib.hid (grown_trans hg9 OP.out BP.out); obtain ⟨A9, c9, rfl, -, -, hr9⟩ := ho9.rd; obtain ⟨n9, hn9⟩ : ∃ n9, n9 = (be salt 8 ++ L).length := ⟨_, rfl⟩; rw [← hn9] at hr9; rw [← hn9]; have R9 := Lib.hid hr9; have HN9 := Lib.hid hn9; clear ho9 hg9 hr9 hn9)
        | (go_at_call 25; refine (crbytes_any 2 A9 n9 c9 _ _ w9 R9.out (by rw [HN9.out, List.length_append, be_length, HLn.out]; have := HN.out; omega)).mono ?_; rintro e w5 ⟨A7, n7, c7, rfl, hr7, hc7, hb7⟩; have R7 := Lib.hid hr7; have B7 := Lib.hid (B9.out.trans (hb7.mono B9.out.size)); clear hr7 hc7 hb7)
        | fail)
      have O5 : Hid (Ob w5 w2.heap.size 5 (.slice A6 n6 c6) L) := O4.out.below B7.out
      have B5 : Hid (Below w2.heap.size w2 w5) := B4.out.trans (B7.out.mono B4.out.size)
      have HN7 : Hid (L.length + n7 ≤ 140737488355328) := by
        have h4 : n7 = 4 := by rw [← R7.out.1]; show (be _ 4).length = 4; rw [be_length]
        show _ ≤ _
        rw [h4, HLn.out]
        have := HN.out
        omega
      have E9 : Hid (L ++ crcBytes 2 (be salt 8 ++ L) = frameR salt ⟨t, d⟩) := by
        have e : L = bodyR ⟨t, d⟩ := by
          rw [HL.out, HT.out]
          show _ = be d.length 2 ++ (UInt8.ofNat t.toNat :: d)
          rw [HD.out, List.append_assoc]
          rfl
        show _ = _
        rw [e]
        rfl
      go_wp2_with (first
        | (at_builtin; refine wpList_app rfl (.tmp 30) (.tmp 31) 23 rfl w2.heap.size 5 Tryd.underlying23 info_u8 (.slice A6 n6 c6) (L) rfl (O5.out) _ A7 n7 c7 (crcBytes 2 (be salt 8 ++ L)) rfl (R7.out) (HN7.out) (B5.out.size) ?_; intro v8 w8 ho8 hg8 hh8; clear hh8)
        | fail)
      have B8 : Below w2.heap.size w2 w8 := grown_trans hg8 O5.out B5.out
      rw [E9.out] at ho8
      exact bodyPost_ret (v := .tuple #[v8, .int .i64 0]) (by simp [results, Tryd.results9, go_sem]) rfl (HF.out _ _ (B2.out.trans (B8.mono B2.out.size)) (ho8.wide B2.out.size))
end Go.Proofs.YtlkppnghfgiapaaDoor
