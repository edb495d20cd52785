/- RecordTurned. (Made by gen/RecW2.py.) -/
import Derived.Test.YtlkppnghfgiapaaDoorRecP
import Derived.Test.YtlkppnghfgiapaaDoorRcdFr
namespace Go.Proofs.YtlkppnghfgiapaaDoor
open Go.RowKit

theorem xor14 (a b : UInt8) : bits BinOp.xor .u8 (a.toNat : Int) (b.toNat : Int) = ((a ^^^ b).toNat : Int) := by
  have e := u8_xor_nat a.toNat b.toNat a.toNat_lt b.toNat_lt
  rw [e, UInt8.toNat_xor]
theorem xor_ne14 (x y : UInt8) (h : y ≠ 0) : x ^^^ y ≠ x := fun e => h (by
  have h1 : x ^^^ (x ^^^ y) = x ^^^ x := by rw [e]
  rwa [← UInt8.xor_assoc, UInt8.xor_self, UInt8.zero_xor] at h1)
theorem rwc_one {w : World} {g : Nat} {t : Int} {A : Option Addr} {n c : Nat} {d : List UInt8} (hg : w.heap[g]? = some (.cells #[.int .i64 t, .slice A n c] 25 (0, 0))) (hc : n ≤ c) (hn : n ≤ 140737488355328) (hr : Rd w w.heap.size A n d) : RwC w w.heap.size (some ⟨g, 0, none⟩) 1 [⟨t, d⟩] := by
  refine ⟨rfl, fun _ => ⟨g, 0, rfl, (Array.getElem?_eq_some_iff.1 hg).1, fun i r hi => ?_⟩⟩
  match i, hi with
  | 0, hi =>
    obtain rfl := Option.some.inj hi
    obtain ⟨⟨x0, x1⟩, -, -⟩ := row2 hg
    exact ⟨A, n, c, x0, x1, hc, hn, hr⟩

set_option maxRecDepth 100000 in
set_option maxHeartbeats 16000000 in
theorem recordTurned_walk (a0 : Int) (t : Int) (A : Option Addr) (n c : Nat) (d : List UInt8) (bit : Int) (w : World) (X : Snt14) (w0 : (Lit.int .u64 a0).wf = true) (hd : n ≤ c ∧ n ≤ maxLen ∧ Rd w w.heap.size A n d) (_wb : (Lit.int .i64 bit).wf = true) (hA : Lds14 X w) :
    Calls Tryd.prog 6 #[.int .u64 a0, recV t A n c, .int .i64 bit] w fun e w' => e = .returned (.bool true) ∧ Below w.heap.size w w' := by
  obtain ⟨salt, rfl, hsl⟩ := nat_u64_14 w0
  obtain ⟨hnc, -, h⟩ := hd
  have LA : Hid (∀ W, Below w.heap.size w W → Lds14 X W) := fun W hW => hA.below hW (Nat.le_refl _)
  obtain ⟨w1, hw1⟩ : ∃ w1, w1 = w.alloc (.cells #[.int .i64 t, .slice A n c] 25) := ⟨_, rfl⟩
  have hb1 : Below w.heap.size w w1 := by rw [hw1]; exact (Below.refl _ _).alloc (Nat.le_refl _) _
  have hbox : w1.heap[w.heap.size]? = some (.cells #[.int .i64 t, .slice A n c] 25 (0, 0)) := by rw [hw1]; exact heap_alloc_new w _
  have B1 := Lib.hid hb1
  have HX := Lib.hid hbox
  have HG : Hid (w.heap.size < w1.heap.size) := (Array.getElem?_eq_some_iff.1 hbox).1
  have W1 := Lib.hid hw1
  have HD := Lib.hid h.1
  have HH := Lib.hid (fun W (hW : Below w.heap.size w W) => heads14_any X W (LA.out W hW))
  have R1 := Lib.hid (fun W (hW : Below w.heap.size w W) => h.below hW)
  have K1 : Hid (∀ W, Below w1.heap.size w1 W → W.cell? ⟨w.heap.size, 0, none⟩ = some (.int .i64 t) ∧ W.cell? ⟨w.heap.size, 1, none⟩ = some (.slice A n c)) := fun W hW => (row2 ((hW.block _ HG.out).trans HX.out)).1
  obtain ⟨x0, x1⟩ := K1.out w1 (Below.refl _ _)
  have CF := Lib.hid (cframe_any X salt t A n c w.heap.size d w1 (LA.out w1 hb1) hsl (R1.out w1 hb1) hb1.size)
  unfold FrmR at CF
  unfold recV at *
  cases hr : rokR ⟨t, d⟩ with
  | false =>
    rw [hr, if_neg (by decide), if_neg (by decide)] at CF
    clear h hb1 hbox hA hsl hr
    go_enter Tryd.func6, Tryd.ntmps6
    simp only [hw1] at x0 x1
    clear hw1
    go_upto_region 2 with (first
      | (go_at_call 8; rw [← W1.out] at *; refine CF.out.mono ?_; rintro e w2 ⟨hb2, v2, z2, rfl, rfl, ho2⟩; have O2 := Lib.hid ho2; have D2 := Lib.hid hb2; have B2 := Lib.hid (B1.out.trans (hb2.mono B1.out.size)); clear ho2 x0 x1; obtain ⟨x0, x1⟩ := K1.out w2 hb2; clear hb2)
      | fail)
    go_wp2_with fail
    refine (HH.out w2 B2.out).mono ?_
    rintro e w3 ⟨rfl, hb3⟩
    have B3 := Lib.hid (B2.out.trans (hb3.mono B2.out.size))
    clear hb3
    go_wp2_with fail
    go_ret
    exact ⟨rfl, B3.out⟩
  | true =>
    rw [hr, if_pos rfl, if_pos rfl] at CF
    obtain ⟨N7, hN7⟩ : ∃ N7, N7 = n + 7 := ⟨_, rfl⟩
    have HN7 : Hid (d.length + 7 = N7) := by show _ = _; rw [HD.out, hN7]
    by_cases h3 : n ≤ 300
    case neg =>
      have e3 : (300 : Int) < (n : Int) := by omega
      clear h hb1 hbox hA hsl hr h3 hN7
      go_enter Tryd.func6, Tryd.ntmps6
      simp only [hw1] at x0 x1
      clear hw1
      go_upto_region 2 with (first
        | (go_at_call 8; rw [← W1.out] at *; refine CF.out.mono ?_; rintro e w2 ⟨hb2, v2, z2, rfl, rfl, ho2⟩; have O2 := Lib.hid ho2; have D2 := Lib.hid hb2; have B2 := Lib.hid (B1.out.trans (hb2.mono B1.out.size)); clear ho2 x0 x1; obtain ⟨x0, x1⟩ := K1.out w2 hb2; clear hb2)
        | fail)
      go_wp2_with fail
      refine (HH.out w2 B2.out).mono ?_
      rintro e w3 ⟨rfl, hb3⟩
      have B3 := Lib.hid (B2.out.trans (hb3.mono B2.out.size))
      clear hb3
      go_wp2_with fail
      go_ret
      exact ⟨rfl, B3.out⟩
    have e3 : ¬ (300 : Int) < (n : Int) := by omega
    have e3d : decide ((300 : Int) < (n : Int)) = false := decide_eq_false e3
    by_cases h0 : bit < 0
    case pos =>
      have h0d : decide (bit < 0) = true := decide_eq_true h0
      clear h hb1 hbox hA hsl hr h3 hN7
      go_enter Tryd.func6, Tryd.ntmps6
      simp only [hw1] at x0 x1
      clear hw1
      go_upto_region 2 with (first
        | (go_at_call 8; rw [← W1.out] at *; refine CF.out.mono ?_; rintro e w2 ⟨hb2, v2, z2, rfl, rfl, ho2⟩; have O2 := Lib.hid ho2; have D2 := Lib.hid hb2; have B2 := Lib.hid (B1.out.trans (hb2.mono B1.out.size)); clear ho2 x0 x1; obtain ⟨x0, x1⟩ := K1.out w2 hb2; clear hb2)
        | fail)
      go_wp2_with fail
      refine (HH.out w2 B2.out).mono ?_
      rintro e w3 ⟨rfl, hb3⟩
      have B3 := Lib.hid (B2.out.trans (hb3.mono B2.out.size))
      clear hb3
      go_wp2_with fail
      go_ret
      exact ⟨rfl, B3.out⟩
    have h0d : decide (bit < 0) = false := decide_eq_false h0
    have w8 : IntKind.i64.wrap (8 * (N7 : Int)) = 8 * (N7 : Int) := by rw [IntKind.wrap_i64]; omega
    by_cases h8 : 8 * (N7 : Int) ≤ bit
    case pos =>
      have h8d : decide (8 * (N7 : Int) ≤ bit) = true := decide_eq_true h8
      clear h hb1 hbox hA hsl hr h3 hN7
      go_enter Tryd.func6, Tryd.ntmps6
      simp only [hw1] at x0 x1
      clear hw1
      go_upto_region 2 with (first
        | (go_at_call 8; rw [← W1.out] at *; refine CF.out.mono ?_; rintro e w2 ⟨hb2, v2, z2, rfl, rfl, ho2⟩; have O2 := Lib.hid ho2; have D2 := Lib.hid hb2; have B2 := Lib.hid (B1.out.trans (hb2.mono B1.out.size)); clear ho2 x0 x1; obtain ⟨x0, x1⟩ := K1.out w2 hb2; clear hb2)
        | fail)
      obtain ⟨A2, c2, hv2, hc2, hm2, hr2⟩ := O2.out.rd
      rw [frameR_len, show (⟨t, d⟩ : Rcd).dat.length + 7 = N7 from HN7.out] at hv2 hc2 hr2
      subst hv2
      go_wp2_with fail
      refine (HH.out w2 B2.out).mono ?_
      rintro e w3 ⟨rfl, hb3⟩
      have B3 := Lib.hid (B2.out.trans (hb3.mono B2.out.size))
      clear hb3
      go_wp2_with fail
      go_ret
      exact ⟨rfl, B3.out⟩
    have h8d : decide (8 * (N7 : Int) ≤ bit) = false := decide_eq_false h8
    obtain ⟨N, rfl⟩ : ∃ N : Nat, bit = (N : Int) := ⟨bit.toNat, by omega⟩
    have e0 : ¬ (N : Int) < 0 := h0
    have e8 : ¬ 8 * (N7 : Int) ≤ (N : Int) := h8
    have e8' : N < 8 * N7 := by omega
    obtain ⟨i, hi⟩ : ∃ i, i = N / 8 := ⟨_, rfl⟩
    obtain ⟨j, hj⟩ : ∃ j, j = N % 8 := ⟨_, rfl⟩
    have f1 : (N : Int) / 8 = (i : Int) := by omega
    have f2 : (N : Int) % 8 = (j : Int) := by omega
    have g1 : (N : Int).tdiv 8 = (i : Int) := by rw [Int.tdiv_eq_ediv_of_nonneg (by omega)]; exact f1
    have g2 : (N : Int).tmod 8 = (j : Int) := by rw [Int.tmod_eq_emod_of_nonneg (by omega)]; exact f2
    have hi7 : i < N7 := by omega
    have hi7i : (i : Int) < (N7 : Int) := by omega
    have hj8 : j < 8 := by omega
    have wi : wrap64 (i : Int) = (i : Int) := by unfold wrap64; omega
    obtain ⟨xb, hxb⟩ : ∃ x, x = (frameR salt ⟨t, d⟩).getD i 0 := ⟨_, rfl⟩
    obtain ⟨y, hy⟩ : ∃ y, y = UInt8.ofNat (2 ^ j) := ⟨_, rfl⟩
    have hpow : (2 : Int) ^ j % 256 = (y.toNat : Int) ∧ y ≠ 0 := by
      have hjj : j = 0 ∨ j = 1 ∨ j = 2 ∨ j = 3 ∨ j = 4 ∨ j = 5 ∨ j = 6 ∨ j = 7 := by omega
      rw [hy]
      rcases hjj with rfl | rfl | rfl | rfl | rfl | rfl | rfl | rfl <;> exact ⟨by decide, by decide⟩
    have HXB := Lib.hid hxb
    have HPOW := Lib.hid hpow
    have LF : Hid ((frameR salt ⟨t, d⟩).length = N7) := by show _ = _; rw [frameR_len]; exact HN7.out
    have HN3 := Lib.hid h3
    have HI := Lib.hid hi7
    have HN := Lib.hid hN7
    have HNC := Lib.hid hnc
    have HSL := Lib.hid hsl
    have HNT := Lib.hid (next_turned salt ⟨t, d⟩ i (xb ^^^ y) hr (by show i < d.length + 7; rw [HN7.out]; exact hi7) (by rw [← hxb]; exact fun e => xor_ne14 xb y hpow.2 e.symm))
    clear h hb1 hbox hA hsl hr h3 hN7 hi hj hxb hy hpow h0 h8 hnc
    go_enter Tryd.func6, Tryd.ntmps6
    simp only [hw1] at x0 x1
    clear hw1
    go_upto_region 2 with (first
      | (go_at_call 8; rw [← W1.out] at *; refine CF.out.mono ?_; rintro e w2 ⟨hb2, v2, z2, rfl, rfl, ho2⟩; have O2 := Lib.hid ho2; have D2 := Lib.hid hb2; have B2 := Lib.hid (B1.out.trans (hb2.mono B1.out.size)); clear ho2 x0 x1; obtain ⟨x0, x1⟩ := K1.out w2 hb2; clear hb2)
      | fail)
    obtain ⟨g, cap, rfl, hgb, hgw, hcap⟩ := O2.out.form (by rw [LF.out]; have := HI.out; omega)
    rw [LF.out] at hcap O2 ⊢
    have cx := O2.out.cell LF.out HI.out
    rw [← HXB.out] at cx
    have fx := O2.out.frozen LF.out i
    have HGB := Lib.hid hgb
    have HCAP := Lib.hid hcap
    have hne : ¬ g = w.heap.size := by have := HG.out; omega
    clear hgb hgw hcap
    go_upto_region 5 with fail
    have O3 : Hid (Ob (w2.setCell ⟨g, i, none⟩ (.int .u8 (bits BinOp.xor IntKind.u8 (xb.toNat : Int) (2 ^ j % 256)))) w1.heap.size 5 (.slice (some ⟨g, 0, none⟩) N7 cap) ((frameR salt ⟨t, d⟩).set i (xb ^^^ y))) := O2.out.stored LF.out i (xb ^^^ y) (by rw [HPOW.out.1, xor14])
    have D3 : Hid (Below w1.heap.size w1 (w2.setCell ⟨g, i, none⟩ (.int .u8 (bits BinOp.xor IntKind.u8 (xb.toNat : Int) (2 ^ j % 256))))) := D2.out.setCell (p := ⟨g, i, none⟩) HGB.out _
    generalize w2.setCell ⟨g, i, none⟩ (.int .u8 (bits BinOp.xor IntKind.u8 (xb.toNat : Int) (2 ^ j % 256))) = w3 at *
    have B3 : Hid (Below w.heap.size w w3) := B1.out.trans (D3.out.mono B1.out.size)
    obtain ⟨L, hL⟩ : ∃ L, L = (frameR salt ⟨t, d⟩).set i (xb ^^^ y) := ⟨_, rfl⟩
    rw [← hL] at HNT O3
    have hr3 := O3.out.rd_
    have CN := Lib.hid (cnext_any X salt (some ⟨g, 0, none⟩) N7 cap w3.heap.size L w3 (LA.out w3 B3.out) HSL.out hr3.2.1 (Nat.le_refl _) (by have := HN3.out; have := HN.out; omega) hr3.2.2.1 hr3.2.2.2)
    unfold NexR recV at CN
    have hno : (nextR salt L).2.2 ≠ 0 → (nextR salt L).2.1 = 0 := fun h => (next_no h).2
    have hsm : (nextR salt L).1.dat.length ≤ 8192 := by
      by_cases h0 : (nextR salt L).2.2 = 0
      · obtain ⟨r, e, hr, -, -⟩ := next_ok h0
        rw [e]
        exact (rokR_iff.1 hr).2.2
      · rw [(next_no h0).1]
        exact Nat.zero_le _
    obtain ⟨hnt1, hnt2⟩ := HNT.out
    clear HNT hL hr3 x0 x1 cx fx O2 LF HXB HPOW D2 B2 CF
    generalize nextR salt L = NX at *
    obtain ⟨⟨ty, dt⟩, sz, er⟩ := NX
    have hsm : dt.length ≤ 8192 := hsm
    have hnt2 : (⟨ty, dt⟩ : Rcd) ≠ ⟨t, d⟩ := hnt2
    have hno : er ≠ 0 → sz = 0 := hno
    have hnt1 : er ≠ 0 ∨ sz < d.length + 7 := hnt1
    have HSM := Lib.hid hsm
    have HN2 := Lib.hid hnt2
    rw [HN7.out] at hnt1
    have hcase : er ≠ 0 ∧ sz = 0 ∨ er = 0 ∧ (sz : Int) < (N7 : Int) := by
      by_cases h0 : er = 0
      · rcases hnt1 with h | h
        · exact absurd h0 h
        · exact .inr ⟨h0, by omega⟩
      · exact .inl ⟨h0, hno h0⟩
    have HC := Lib.hid hcase
    clear hsm hnt1 hnt2 hno hcase e3 e3d e0 e8 e8' h0d h8d w8 f1 f2 g1 g2 hi7 hi7i hj8 wi
    go_upto_region 6 with (first
      | (go_at_call 13; refine CN.out.mono ?_; rintro e w4 ⟨hb4, A3, n3, c3, rfl, ho3⟩; have O4 := Lib.hid ho3; have D4 := Lib.hid (D3.out.trans (hb4.mono D3.out.size)); clear ho3 hb4)
      | fail)
    obtain ⟨w5, h5⟩ : ∃ w5, w5 = w4.alloc (.cells #[.int .i64 ty, .slice A3 n3 c3] 25) := ⟨_, rfl⟩
    obtain ⟨w6, h6⟩ : ∃ w6, w6 = w5.alloc (.cells #[.int .i64 t, .slice A n c] 25) := ⟨_, rfl⟩
    obtain ⟨w7, h7⟩ : ∃ w7, w7 = w6.alloc (.cells #[.int .i64 ty, .slice A3 n3 c3] 25) := ⟨_, rfl⟩
    have z5 : w5.heap.size = w4.heap.size + 1 := by rw [h5]; simp
    have z6 : w6.heap.size = w4.heap.size + 2 := by rw [h6]; simp [z5]
    have b5 : Below w4.heap.size w4 w5 := by rw [h5]; exact (Below.refl _ _).alloc (Nat.le_refl _) _
    have b6 : Below w4.heap.size w4 w6 := by rw [h6]; exact b5.alloc (by omega) _
    have b67 : Below w6.heap.size w6 w7 := by rw [h7]; exact (Below.refl _ _).alloc (Nat.le_refl _) _
    have b7 : Below w4.heap.size w4 w7 := b6.trans (b67.mono (by omega))
    have k5 : w6.heap[w4.heap.size]? = some (.cells #[.int .i64 ty, .slice A3 n3 c3] 25 (0, 0)) := by rw [h6, heap_alloc_old w5 _ (by omega), h5]; exact heap_alloc_new w4 _
    have k6 : w7.heap[w5.heap.size]? = some (.cells #[.int .i64 t, .slice A n c] 25 (0, 0)) := by rw [h7, heap_alloc_old w6 _ (by omega), h6]; exact heap_alloc_new w5 _
    have k7 : w7.heap[w6.heap.size]? = some (.cells #[.int .i64 ty, .slice A3 n3 c3] 25 (0, 0)) := by rw [h7]; exact heap_alloc_new w6 _
    obtain ⟨⟨y0, y1⟩, -, -⟩ := row2 k5
    obtain ⟨x0, x1⟩ := K1.out w5 (D4.out.trans (b5.mono D4.out.size))
    have B7 : Hid (Below w.heap.size w w7) := B1.out.trans ((D4.out.trans (b7.mono D4.out.size)).mono B1.out.size)
    have ho7 := (O4.out.below b7).rd_
    have hl3 : n3 ≤ 140737488355328 := by have := ho7.1; have := HSM.out; have h : dt.length = n3 := ho7.1; omega
    have CM := Lib.hid (rsameR_any (some ⟨w5.heap.size, 0, none⟩) (some ⟨w6.heap.size, 0, none⟩) 1 1 1 1 w7.heap.size [⟨t, d⟩] [⟨ty, dt⟩] w7 (rwc_one k6 HNC.out (by have := HN3.out; omega) ((R1.out w7 B7.out).more B7.out.size)) (rwc_one k7 ho7.2.2.1 hl3 ho7.2.1) (Nat.le_refl _) (by decide))
    rw [z5, z6] at CM
    have H7 : Hid (w7 = ((w4.alloc (.cells #[.int .i64 ty, .slice A3 n3 c3] 25)).alloc (.cells #[.int .i64 t, .slice A n c] 25)).alloc (.cells #[.int .i64 ty, .slice A3 n3 c3] 25)) := by show _ = _; rw [h7, h6, h5]
    rw [h6, h5] at y0 y1
    rw [h5] at x0 x1
    clear h5 h6 h7 z5 z6 b5 b6 b67 b7 k5 k6 k7 ho7 hl3 O3 D3 O4
    rcases HC.out with ⟨e1, rfl⟩ | ⟨rfl, e2⟩
    · have e1b : (er != 0) = true := bne_iff_ne.2 e1
      clear HC e1
      go_wp2_with (first
        | (go_at_call 17; rw [← H7.out]; refine CM.out.mono ?_; rintro e w8 ⟨rb, rfl, hrb, hb8⟩; have hrf : rb = false := (by cases rb with | true => exact absurd (by have := hrb.1 rfl; injection this with h; exact h.symm) HN2.out | false => rfl); subst hrf; have B8 := Lib.hid (B7.out.trans (hb8.mono B7.out.size)); clear hrb hb8 x0 x1 y0 y1)
        | (go_at_call 7; refine (HH.out w8 B8.out).mono ?_; rintro e w9 ⟨rfl, hb9⟩; have B9 := Lib.hid (B8.out.trans (hb9.mono B8.out.size)); clear hb9)
        | fail)
      go_ret
      exact ⟨rfl, B9.out⟩
    · skip
      clear HC
      go_wp2_with (first
        | (go_at_call 17; rw [← H7.out]; refine CM.out.mono ?_; rintro e w8 ⟨rb, rfl, hrb, hb8⟩; have hrf : rb = false := (by cases rb with | true => exact absurd (by have := hrb.1 rfl; injection this with h; exact h.symm) HN2.out | false => rfl); subst hrf; have B8 := Lib.hid (B7.out.trans (hb8.mono B7.out.size)); clear hrb hb8 x0 x1 y0 y1)
        | (go_at_call 7; refine (HH.out w8 B8.out).mono ?_; rintro e w9 ⟨rfl, hb9⟩; have B9 := Lib.hid (B8.out.trans (hb9.mono B8.out.size)); clear hb9)
        | fail)
      go_ret
      exact ⟨rfl, B9.out⟩
end Go.Proofs.YtlkppnghfgiapaaDoor
