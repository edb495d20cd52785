/- The walk of the statement ShaOne. -/
import Derived.Test.YtdhemebaddnmeaaShaL
namespace Go.Proofs.Ytdhemebaddnmeaa
open Go.RowKit

theorem outL_piece : ∀ (L : List (BitVec 32)) (i : Nat), i < L.length → ((outL L).drop (4 * i)).take 4 = be (L.getD i 0).toNat 4
  | [], i, h => by simp at h
  | x :: t, 0, _ => by
    rw [show outL (x :: t) = be x.toNat 4 ++ outL t from rfl, Nat.mul_zero, List.drop_zero, List.take_left' (be_length _ _)]
    rfl
  | x :: t, i + 1, h => by
    rw [show outL (x :: t) = be x.toNat 4 ++ outL t from rfl, show 4 * (i + 1) = (be x.toNat 4).length + 4 * i by rw [be_length]; omega, List.drop_append, List.drop_eq_nil_of_le (by omega), List.nil_append, Nat.add_sub_cancel_left, outL_piece t i (by simpa using h)]
    simp [List.getD]
theorem shaL_one (l : List UInt8) (h : (l ++ padL l.length).length = 64) : shaL l = outL (nxt st0 (l ++ padL l.length)).list := by
  unfold shaL
  rw [h, show 64 / 64 = 0 + 1 from rfl, blks, blks, Nat.mul_zero, List.drop_zero, List.take_of_length_le (by omega)]

set_option maxRecDepth 100000 in
set_option maxHeartbeats 2000000 in
theorem shaOne_walk (A : Option Addr) (n c : Nat) (l : List UInt8) (w : World) (hb : Rd w w.heap.size A n l ∧ n ≤ c ∧ c ≤ 140737488351232) :
    Calls Try.prog 3 #[.slice A n c] w fun e w' => e = .returned (.bool true) ∧ Below w.heap.size w w' := by
  obtain ⟨hr, hnc, hcc⟩ := hb
  have hlen := hr.1
  have H7 := Lib.hid heads07_any
  by_cases h0 : 55 < n
  · have e0 : (55 : Int) < (n : Int) := by omega
    clear h0 hr hlen
    go_enter Try.func3, Try.ntmps3
    go_wp2_with fail
    refine (H7.out _).mono ?_
    rintro e w1 ⟨rfl, hb1⟩
    have B1 := Lib.hid hb1
    clear hb1
    go_wp2_with fail
    go_ret
    exact ⟨rfl, B1.out⟩
  · have e0 : ¬ (55 : Int) < (n : Int) := by omega
    have hn : n ≤ 55 := by omega
    have hpl : (l ++ padL n).length = 64 := by rw [List.length_append, padL_length, hlen]; omega
    have HR := Lib.hid hr
    have HLN := Lib.hid hlen
    have HPL := Lib.hid hpl
    obtain ⟨K, hK⟩ : ∃ K, K = (wc st0.list).toArray := ⟨_, rfl⟩
    have f1 := first_any w
    rw [← hK] at f1
    have F1 := Lib.hid f1
    have HK := Lib.hid hK
    have ho0 : Ob ((w.alloc (.cells K 31)).alloc (.cells #[] 5)) w.heap.size 5 (.slice (some ⟨w.heap.size + 1, 0, none⟩) 0 0) [] := by
      have h := Ob.lit (w.alloc (.cells K 31)) (base := w.heap.size) (t := 5) [] #[] rfl (by simp) 0 rfl (by decide)
      simpa using h
    have HO0 := Lib.hid ho0
    have hr0 : Rd ((w.alloc (.cells K 31)).alloc (.cells #[] 5)) w.heap.size A n l := (hr.alloc (Nat.le_refl _) _).alloc (by simp) _
    have HR0 := Lib.hid hr0
    have hbl0 : Below (w.heap.size + 1) (w.alloc (.cells K 31)) ((w.alloc (.cells K 31)).alloc (.cells #[] 5)) := (Below.refl _ _).alloc (by simp) _
    have HBL0 := Lib.hid hbl0
    clear h0 hr hlen hpl f1 hK ho0 hr0 hbl0
    go_enter Try.func3, Try.ntmps3
    go_wp2_with fail
    refine F1.out.mono ?_
    rintro e w1 ⟨rfl, rfl⟩
    go_wp2_with (first
      | (at_builtin; refine wpList_app rfl (.tmp 11) (.tmp 12) 22 rfl w.heap.size 5 Try.underlying22 info_u8 _ [] rfl HO0.out w.heap.size A n c l rfl HR0.out (by simp; omega) (by simp; omega) ?_; intro v1 w2 ho1 hg1 hv1; have O1 := Lib.hid ho1; have G1 := Lib.hid hg1; have V1 := Lib.hid hv1; clear ho1 hg1 hv1)
      | fail)
    have hg1 : Below w.heap.size w w2 := grown_trans G1.out HO0.out (((Below.refl _ w).alloc (Nat.le_refl _) _).alloc (by simp) _)
    have hrow : w2.heap[w.heap.size]? = some (.cells K 31 (0, 0)) := by
      rw [G1.out.block w.heap.size (by simp; omega) (by
        show some w.heap.size ≠ some (w.heap.size + 1)
        intro e; injection e with e; omega), heap_lt _ _ _ (by simp)]
      exact heap_alloc_new w _
    have hz2 : w.heap.size + 2 ≤ w2.heap.size := by have h := G1.out.size; simpa using h
    have CP := Lib.hid (cpad_any n (by omega) w2)
    have BG1 := Lib.hid hg1
    have HROW := Lib.hid hrow
    have HZ2 := Lib.hid hz2
    clear hg1 hrow hz2
    refine CP.out.mono ?_
    rintro e w3 ⟨v3, rfl, ho3, hb3⟩
    obtain ⟨np, hnp⟩ : ∃ m, m = (padL n).length := ⟨_, rfl⟩
    obtain ⟨A3, c3, rfl, hd3, hm3, hr3⟩ := Ob.rd_n ho3 hnp.symm
    have B3 := Lib.hid hb3
    have R3 := Lib.hid hr3
    have O2 := Lib.hid (O1.out.below hb3)
    have HBN : Hid ((([] : List UInt8) ++ l).length + np ≤ 140737488355328) := by
      show _ ≤ _
      have h := HPL.out
      rw [List.length_append] at h
      rw [List.nil_append, hnp]; omega
    have B3w := Lib.hid (BG1.out.trans (hb3.mono BG1.out.size))
    have HNP := Lib.hid hnp
    clear ho3 hb3 hr3 hnp
    go_wp2_with (first
      | (at_builtin; refine wpList_app rfl (.tmp 13) (.tmp 16) 22 rfl w.heap.size 5 Try.underlying22 info_u8 _ ([] ++ l) rfl O2.out _ A3 np c3 (padL n) rfl R3.out HBN.out B3w.out.size ?_; intro v4 w4 ho4 hg4 hv4; obtain ⟨A4, c4, rfl, hd4, hm4, hr4⟩ := Ob.rd_n ho4 (show (([] : List UInt8) ++ l ++ padL n).length = 64 by rw [List.nil_append]; exact HPL.out); have R4 := Lib.hid hr4; have O4 := Lib.hid ho4; have G4 := Lib.hid hg4; have B4 := Lib.hid (grown_trans hg4 O2.out B3w.out); clear ho4 hg4 hv4 hr4)
      | fail)
    have hrow4 : w4.heap[w.heap.size]? = some (.cells K 31 (0, 0)) := by
      rw [G4.out.block w.heap.size (by have h1 := HZ2.out; have h2 := B3.out.size; omega) (fun e => by
        have e : some w.heap.size = v1.ownBlock := e
        rcases V1.out with h | h
        · rw [h] at e
          have e' : some w.heap.size = some (w.heap.size + 1) := e
          injection e' with e'; omega
        · rw [h] at e
          injection e with e
          simp at e; omega), B3.out.block w.heap.size (by have h1 := HZ2.out; omega)]
      exact HROW.out
    have hrw : Rw w4 (w.heap.size + 1) (some ⟨w.heap.size, 0, none⟩) 8 st0.list :=
      ⟨rfl, fun _ => ⟨w.heap.size, 0, rfl, by omega, fun i hi => by rw [Nat.zero_add]; exact World.rowIs.cell (rowIs_of HK.out rfl hrow4) hi⟩⟩
    have r4 := R4.out
    rw [List.nil_append] at r4
    have hz4 : w.heap.size + 1 ≤ w4.heap.size := by have h1 := HZ2.out; have h2 := B3.out.size; have h3 := G4.out.size; omega
    refine (cblock_any st0 _ A4 8 c4 _ _ (l ++ padL n) w4 hrw r4 hz4 (Nat.le_refl _) hd4 (by unfold maxLen at hm4; omega)).mono ?_
    rintro e w5 ⟨g, rfl, hg5, hgl5, hb5⟩
    have B5 := Lib.hid (B4.out.trans (hb5.mono B4.out.size))
    have G5 := Lib.hid hg5
    clear hrow4 hrw r4 hz4 hg5 hb5 hgl5
    go_wp2_with fail
    refine (sum1_any A n c l w5 ((HR.out.below B5.out).more B5.out.size) hnc (by omega) (by rw [HLN.out]; omega)).mono ?_
    rintro e w6 ⟨v6, rfl, ho6, hb6⟩
    obtain ⟨D, d, rfl, hd6, hm6, hr6⟩ := Ob.rd_n ho6 (shaL_length l)
    have B56 : Hid (Below w5.heap.size w5 w6) := ((Below.refl _ w5).alloc (Nat.le_refl _) _).trans (hb6.mono (by simp))
    have G6 : Hid (w6.rowIs g 40 8 (fun j => .int .u32 (((nxt st0 (l ++ padL n)).list.getD j 0).toNat : Int))) := World.rowIs.of_block G5.out (B56.out.block g (World.rowIs.lt G5.out))
    have B6 := Lib.hid (B5.out.trans (B56.out.mono B5.out.size))
    have R6 := Lib.hid hr6
    have HS1 : Hid (shaL l = outL (nxt st0 (l ++ padL n)).list) := by
      show _ = _
      have h := shaL_one l (by rw [HLN.out]; exact HPL.out)
      rw [HLN.out] at h
      exact h
    obtain ⟨L, hL⟩ : ∃ L, L = (nxt st0 (l ++ padL n)).list := ⟨_, rfl⟩
    have hs1 := HS1.out
    have hg6 := G6.out
    rw [← hL] at hs1 hg6
    have hLl : L.length = 8 := by rw [hL]; rfl
    have HLL := Lib.hid hLl
    have HSL := Lib.hid hs1
    have GL := Lib.hid hg6
    clear ho6 hb6 hr6 hL hs1 hg6 hLl HS1 G6
    go_wp2_with fail
    go_loopw [5] (fun i wr => ∃ (k m : Nat), k ≤ 8 ∧ i = .int .i64 k ∧ Hid (wr = w6.drewN m)) (fun i _ => 8 - (intOf i).toNat)
    case atStart => exact ⟨0, 0, by omega, rfl, rfl⟩
    case round =>
      obtain ⟨k, m, hk, rfl, hwr⟩ := hrel
      by_cases hlt : k < 8
      · obtain ⟨x, hx⟩ : ∃ x, x = L.getD k 0 := ⟨_, rfl⟩
        have rr : Rd wr wr.heap.size D 32 (shaL l) := by rw [hwr.out]; exact R6.out.drewN m
        have cx : wr.cell? ⟨g, k, none⟩ = some (.int .u32 (x.toNat : Int)) := by rw [hx, hwr.out]; exact World.rowIs.cell (w := w6) GL.out hlt
        obtain ⟨A7, c7, s7, k7, k7', r7⟩ := cut_lh (P := Try.prog) 22 5 rfl size_u8 d rr (4 * (k : Int)) (4 * (k : Int) + 4) (4 * k) (4 * k + 4) (by omega) (by omega) (by omega) (by omega) hd6
        rw [show 4 * k + 4 - 4 * k = 4 by omega] at s7 k7 r7
        rw [HSL.out, outL_piece L k (by rw [HLL.out]; exact hlt), ← hx] at r7
        have g7 := fun W (h : Rd W wr.heap.size A7 4 (be x.toNat 4)) => rget_any A7 4 c7 _ W _ h (by decide)
        rw [beNat_be 4 _ (by decide), Nat.mod_eq_of_lt (by have := x.isLt; omega)] at g7
        have G7 := Lib.hid (fun j => Calls.quiet_of_same (n := j) ((g7 (wr.drewN j) (r7.drewN j)).mono (fun _ _ h => ⟨h.1, h.2.symm⟩)))
        have i1 : IntKind.i64.wrap (4 * (k : Int)) = 4 * (k : Int) := by rw [IntWalk.i64_in _ (by omega)]
        have i2 : IntKind.i64.wrap (4 * (k : Int) + 4) = 4 * (k : Int) + 4 := by rw [IntWalk.i64_in _ (by omega)]
        have j0 : (0 : Int) ≤ (k : Int) := by omega
        have j1 : (k : Int) < 8 := by omega
        have hxl := x.isLt
        obtain ⟨X, hX⟩ : ∃ X, X = x.toNat := ⟨_, rfl⟩
        rw [← hX] at cx hxl
        have g77 := G7.out
        rw [← hX] at g77
        have G8 := Lib.hid g77
        have hw : IntKind.u64.wrap (X : Int) = (X : Int) := by rw [IntKind.wrap_u64]; omega
        have hne : ((X : Int) != (X : Int)) = false := by simp
        clear hx rr r7 g7 G7 hX g77
        go_wp2_with fail
        go_quiet (first | (go_at_call 13; exact G8.out _) | fail)
        go_wp2_with fail
        go_roundw
        case rel => exact ⟨k + 1, m + nq, by omega, by go_num, by show _ = _; rw [hwr.out, World.drewN_drewN]⟩
        case measure => simp [intOf]; omega
      · obtain rfl : k = 8 := by omega
        have bz : Below w.heap.size w wr := by rw [hwr.out]; exact B6.out.trans (below_dN _ _ _)
        have BZ := Lib.hid bz
        clear bz
        go_wp2_with fail
        refine (H7.out _).mono ?_
        rintro e w7 ⟨rfl, hb7⟩
        have B7 := Lib.hid (BZ.out.trans (hb7.mono BZ.out.size))
        clear hb7
        go_wp2_with fail
        go_ret
        exact ⟨rfl, B7.out⟩
end Go.Proofs.Ytdhemebaddnmeaa
