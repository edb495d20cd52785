/- What Sum of layer 7's reference return. -/
import Derived.Test.YtllodapnbdbpeaaShaU
namespace Go.Proofs.Ytllodapnbdbpeaa
open Go.RowKit

theorem Ow.rd_n {w : World} {base n : Nat} {t : TypeId} {v : Value} {l : List (BitVec 32)} (h : Ow w base t v l) (hl : l.length = n) : ∃ (A : Option Addr) (c : Nat), v = .slice A n c ∧ n ≤ c ∧ c ≤ maxLen ∧ Rw w w.heap.size A n l := by
  subst hl
  exact h.rd

set_option maxRecDepth 100000 in
set_option maxHeartbeats 2000000 in
theorem rsum_any (A : Option Addr) (n c : Nat) (l : List UInt8) (w : World) (hr : Rd w w.heap.size A n l) (_hnc : n ≤ c) (hn : n ≤ 1099511627776) :
    Calls Try.prog 9 #[.slice A n c] w (GivesO 5 (shaL l) w) := by
  have hlen := hr.1
  have HLN := Lib.hid hlen
  have ho0 : Ob (w.alloc (.cells #[] 5)) w.heap.size 5 (.slice (some ⟨w.heap.size, 0, none⟩) 0 0) [] := Ob.lit w [] #[] rfl (Nat.le_refl _) 0 rfl (by decide)
  have HO0 := Lib.hid ho0
  have HR0 := Lib.hid (hr.alloc (Nat.le_refl _) (.cells #[] 5))
  have HB0 := Lib.hid ((Below.refl w.heap.size w).alloc (Nat.le_refl _) (.cells #[] 5))
  have HBN : Hid (([] : List UInt8).length + n ≤ 140737488355328) := by show _ ≤ _; rw [List.length_nil]; omega
  have CP := Lib.hid (fun W => rpad_any n hn W)
  obtain ⟨KF, hKF⟩ : ∃ K, K = (wc st0.list).toArray := ⟨_, rfl⟩
  have cf := first_any
  rw [← hKF] at cf
  have CF := Lib.hid cf
  have HKF := Lib.hid hKF
  clear hr hlen ho0 cf hKF
  go_enter Try.func9, Try.ntmps9
  go_wp2_with (first
    | (at_builtin; refine wpList_appB rfl (.tmp 8) (.tmp 9) 22 rfl w.heap.size 5 Try.underlying22 info_u8 _ [] rfl HO0.out w.heap.size A n c l rfl HR0.out HBN.out (le_alloc _ _) ?_; intro v1 w1 ho1 hb1; have O1 := Lib.hid ho1; have B1 := Lib.hid (HB0.out.trans hb1); clear ho1 hb1)
    | fail)
  refine (CP.out _).mono ?_
  rintro e w2 ⟨v2, rfl, ho2, hb2⟩
  obtain ⟨np, hnp⟩ : ∃ m, m = (padL n).length := ⟨_, rfl⟩
  obtain ⟨A2, c2, rfl, -, -, hr2⟩ := Ob.rd_n ho2 hnp.symm
  have hpl := padL_length n
  have O2 := Lib.hid (O1.out.below hb2)
  have R2 := Lib.hid hr2
  have B2 := Lib.hid (B1.out.trans (hb2.mono B1.out.size))
  obtain ⟨T, hT⟩ : ∃ T, T = [] ++ l ++ padL n := ⟨_, rfl⟩
  obtain ⟨M, hM⟩ : ∃ M, M = T.length / 64 := ⟨_, rfl⟩
  obtain ⟨L, hL⟩ : ∃ L, L = T.length := ⟨_, rfl⟩
  have hTl : T.length = n + np := by rw [hT, List.nil_append, List.length_append, HLN.out, hnp]
  have hLM : L = 64 * M := by omega
  have HBN2 : Hid ((([] : List UInt8) ++ l).length + np ≤ 140737488355328) := by show _ ≤ _; rw [List.nil_append, HLN.out]; omega
  have hLb : L ≤ 1099511627900 := by omega
  have HT := Lib.hid hT
  have HL := Lib.hid hL
  have HM := Lib.hid hM
  have HLM := Lib.hid hLM
  clear ho2 hb2 hr2 hnp hpl hTl hT hL hM hLM
  go_wp2_with (first
    | (at_builtin; refine wpList_appB rfl (.tmp 10) (.tmp 13) 22 rfl w.heap.size 5 Try.underlying22 info_u8 _ ([] ++ l) rfl O2.out _ A2 np c2 (padL n) rfl R2.out HBN2.out B2.out.size ?_; intro v3 w3 ho3 hb3; rw [← HT.out] at ho3; obtain ⟨A3, c3, rfl, hc3, hm3, hr3⟩ := Ob.rd_n ho3 HL.out.symm; have R3 := Lib.hid hr3; have B3 := Lib.hid (B2.out.trans hb3); clear ho3 hb3 hr3)
    | fail)
  refine (CF.out _).mono ?_
  rintro e w4 ⟨rfl, rfl⟩
  have hrw : Rw (w3.alloc (.cells KF 40)) (w3.heap.size + 1) (some ⟨w3.heap.size, 0, none⟩) 8 st0.list := Rw.of_row HKF.out rfl (heap_alloc_new w3 _)
  have hb4 : Below w3.heap.size w3 (w3.alloc (.cells KF 40)) := (Below.refl _ _).alloc (Nat.le_refl _) _
  have HRW := Lib.hid hrw
  have HB4 := Lib.hid hb4
  clear hrw hb4
  go_wp2_with fail
  go_loopw [4, 5] (fun v i wr => ∃ (k : Nat) (g c' : Nat) (S : St), k ≤ M ∧ i = .int .i64 (64 * (k : Int)) ∧ v = .slice (some ⟨g, 0, none⟩) 8 c' ∧ Hid (S = blks st0 T k) ∧ Hid (Rw wr wr.heap.size (some ⟨g, 0, none⟩) 8 S.list) ∧ Hid (Below w3.heap.size w3 wr)) (fun _ i _ => 64 * M - (intOf i).toNat)
  case atStart => exact ⟨0, w3.heap.size, 8, st0, Nat.zero_le _, rfl, rfl, rfl, HRW.out.more (by simp), HB4.out⟩
  case round =>
    obtain ⟨k, g, c', S, hk, rfl, rfl, hS, hrw, hbl⟩ := hrel
    by_cases hlt : k < M
    · have hLM := HLM.out
      have e1 : 64 * (k : Int) < (L : Int) := by omega
      have hr3 : Rd wr w3.heap.size A3 L T := R3.out.below hbl.out
      obtain ⟨A5, c5, s5, k5, k5', r5⟩ := cut_lh (P := Try.prog) 22 5 rfl size_u8 c3 hr3 (64 * (k : Int)) (64 * (k : Int) + 64) (64 * k) (64 * k + 64) (by omega) (by omega) (by omega) (by omega) hc3
      rw [show 64 * k + 64 - 64 * k = 64 by omega] at s5 k5 r5
      have CB := Lib.hid (rblock_any S _ A5 c' c5 _ _ _ wr hrw.out r5 (Nat.le_refl _) hbl.out.size k5 (by unfold maxLen at hm3; omega))
      clear hr3 r5 hLM
      go_wp2_with fail
      refine CB.out.mono ?_
      rintro e w5 ⟨v5, rfl, ho5, hb5⟩
      obtain ⟨g5, c6, rfl, -, -, -⟩ := ho5.form (by show 0 < 8; decide)
      obtain ⟨A6, c7, hv6, -, -, hr6⟩ := Ow.rd_n ho5 (n := 8) rfl
      injection hv6 with ea eb ec
      rw [← ea] at hr6
      have R6 := Lib.hid hr6
      have B5 := Lib.hid (hbl.out.trans (hb5.mono hbl.out.size))
      clear ho5 hb5 hr6 ea eb ec
      go_wp2_with fail
      go_roundw
      case rel =>
        refine ⟨k + 1, g5, _, nxt S ((T.drop (64 * k)).take 64), by omega, by congr 1, rfl, ?_, R6.out, B5.out⟩
        show _ = _
        rw [hS.out]; rfl
      case measure => simp [intOf]; omega
    · obtain rfl : k = M := by omega
      have hLM := HLM.out
      have e1 : ¬ 64 * (k : Int) < (L : Int) := by omega
      clear hLM
      obtain ⟨wq, hwq⟩ : ∃ W, W = wr := ⟨_, rfl⟩
      subst hwq
      have hsl : shaL l = outL S.list := by
        rw [hS.out, HM.out, HT.out, List.nil_append]
        unfold shaL
        rw [HLN.out]
      have HSL := Lib.hid hsl
      have hbw : Below w.heap.size w wq := B3.out.trans (hbl.out.mono B3.out.size)
      have HBW := Lib.hid hbw
      have hcell := hrw.out.2 (by decide)
      obtain ⟨b', o', e', -, hcc⟩ := hcell
      injection e' with e'
      injection e' with e1' e2'
      subst e1' e2'
      have HCC := Lib.hid hcc
      have hgl : g < wq.heap.size := by
        have := hcc 0 (by decide)
        exact World.block_lt_of_cell? wq ⟨g, 0 + 0, none⟩ this
      have HGL := Lib.hid hgl
      clear hsl hbw hcc hgl
      go_wp2_with fail
      go_loopw [6, 7] (fun v i wr => ∃ q : Nat, q ≤ 8 ∧ i = .int .i64 q ∧ Hid (Ob wr wq.heap.size 5 v (outL (S.list.take q))) ∧ Hid (Below wq.heap.size wq wr)) (fun _ i _ => 8 - (intOf i).toNat)
      case atStart => exact ⟨0, Nat.zero_le _, rfl, Ob.nil_ _ _ _, Below.refl _ _⟩
      case round =>
        obtain ⟨q, hq, rfl, hob, hbq⟩ := hrel
        by_cases hlt : q < 8
        · obtain ⟨x, hx⟩ : ∃ x, x = S.list.getD q 0 := ⟨_, rfl⟩
          have cx : wr.cell? ⟨g, q, none⟩ = some (.int .u32 (x.toNat : Int)) := by
            rw [hx, hbq.out.cell (p := ⟨g, q, none⟩) HGL.out]
            have h := HCC.out q hlt
            rw [Nat.zero_add] at h
            exact h
          have hxl := x.isLt
          have CQ := Lib.hid (show Calls Try.prog 23 #[.int .u64 (x.toNat : Int), .int .i64 4] wr (GivesO 5 (be (x.toNat : Int).toNat 4) wr) from rput_any (x.toNat : Int) 4 wr (by omega) (by omega) (by decide))
          have HLN2 : Hid ((outL (S.list.take q)).length + 4 ≤ 140737488355328) := by
            show _ ≤ _
            have e : ∀ L : List (BitVec 32), (outL L).length = 4 * L.length := fun L => by
              induction L with
              | nil => rfl
              | cons y t ih => rw [show outL (y :: t) = be y.toNat 4 ++ outL t from rfl, List.length_append, be_length, ih, List.length_cons]; omega
            rw [e, List.length_take]; omega
          have HX := Lib.hid hx
          have k0 : (0 : Int) ≤ (q : Int) := by omega
          have k1 : (q : Int) < 8 := by omega
          clear hx
          go_wp2_with fail
          refine CQ.out.mono ?_
          rintro e w1 ⟨v1, rfl, ho1, hb1⟩
          obtain ⟨A7, c7, rfl, -, -, hr7⟩ := Ob.rd_n ho1 (be_length _ 4)
          have R7 := Lib.hid hr7
          have O7 := Lib.hid (hob.out.below hb1)
          have B7 := Lib.hid (hbq.out.trans (hb1.mono hbq.out.size))
          clear ho1 hb1 hr7
          go_wp2_with (first
            | (at_builtin; refine wpList_appB rfl (.tmp 33) (.tmp 39) 22 rfl wq.heap.size 5 Try.underlying22 info_u8 _ (outL (S.list.take q)) rfl O7.out _ A7 4 c7 _ rfl R7.out HLN2.out B7.out.size ?_; intro v8 w8 ho8 hb8; have O8 := Lib.hid ho8; have B8 := Lib.hid (B7.out.trans hb8); clear ho8 hb8)
            | fail)
          go_roundw
          case rel =>
            refine ⟨q + 1, by omega, by go_num, ?_, B8.out⟩
            show Ob _ _ _ _ _
            rw [outL_step S q hlt, ← HX.out]
            exact O8.out
          case measure => simp [intOf]; omega
        · obtain rfl : q = 8 := by omega
          go_wp2_with fail
          go_ret
          refine ⟨_, rfl, ?_, HBW.out.trans (hbq.out.mono HBW.out.size)⟩
          rw [HSL.out]
          exact hob.out.low HBW.out.size
end Go.Proofs.Ytllodapnbdbpeaa
