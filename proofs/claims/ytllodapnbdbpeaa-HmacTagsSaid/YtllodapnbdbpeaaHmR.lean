/- What the reference of layer 8 returns: Key, with, Tag, Chain. -/
import Derived.Test.YtllodapnbdbpeaaShaV
import Derived.Test.YtllodapnbdbpeaaHmK
namespace Go.Proofs.Ytllodapnbdbpeaa
open Go.RowKit

set_option maxRecDepth 100000 in
set_option maxHeartbeats 1000000 in
theorem rkey_any (A : Option Addr) (n c B : Nat) (k : List UInt8) (w : World) (h : Rd w B A n k) (hB : B ≤ w.heap.size) (hn : n ≤ 1099511627776) :
    Calls Try.prog 15 #[.slice A n c] w (GivesO 5 (keyL k) w) := by
  have hkl := h.1
  have ho0 : Ob (w.alloc (.cells #[] 5)) w.heap.size 5 (.slice (some ⟨w.heap.size, 0, none⟩) 0 0) [] := Ob.lit w [] #[] rfl (Nat.le_refl _) 0 rfl (by decide)
  have HO0 := Lib.hid ho0
  have HR0 := Lib.hid (h.alloc hB (.cells #[] 5))
  have HB0 := Lib.hid ((Below.refl w.heap.size w).alloc (Nat.le_refl _) (.cells #[] 5))
  have HBN : Hid (([] : List UInt8).length + n ≤ 140737488355328) := by show _ ≤ _; rw [List.length_nil]; omega
  have HK0 : Hid (([] ++ k : List UInt8).length = n) := by show _ = _; rw [List.nil_append]; exact hkl
  have HKL := Lib.hid hkl
  clear ho0 h hkl hB
  -- the loop, whatever stands ahead of it
  by_cases hlong : 64 < n
  · have e1 : (64 : Int) < (n : Int) := by omega
    have HKB : Hid (keyB k = shaL k) := by show _ = _; unfold keyB; rw [if_pos (by rw [HKL.out]; exact hlong)]
    go_enter Try.func15, Try.ntmps15
    go_wp2_with (first
      | (at_builtin; refine wpList_appB rfl (.tmp 4) (.tmp 5) 22 rfl w.heap.size 5 Try.underlying22 info_u8 _ [] rfl HO0.out B A n c k rfl HR0.out HBN.out (le_alloc _ _) ?_; intro v1 w1 ho1 hb1; obtain ⟨A1, c1, rfl, hc1, hm1, hr1⟩ := Ob.rd_n ho1 HK0.out; have R1 := Lib.hid hr1; have B1 := Lib.hid (HB0.out.trans hb1); clear ho1 hb1 hr1)
      | fail)
    refine (rsum_any A1 n c1 _ w1 R1.out hc1 hn).mono ?_
    rintro e w2 ⟨v2, rfl, ho2, hb2⟩
    rw [List.nil_append, ← HKB.out] at ho2
    have O2 := Lib.hid (ho2.low B1.out.size)
    have B2 := Lib.hid (B1.out.trans (hb2.mono B1.out.size))
    obtain ⟨z, hz⟩ : ∃ z, z = (keyB k).length := ⟨_, rfl⟩
    have hz64 : z ≤ 64 := by rw [hz]; exact keyB_le k
    have HZ := Lib.hid hz
    obtain ⟨A2, c2, rfl, -, -, -⟩ := Ob.rd_n ho2 hz.symm
    clear ho2 hb2 hz
    go_wp2_with fail
    go_loopw [3] (fun v wr => ∃ q : Nat, q ≤ 64 - z ∧ (∃ A c, v = .slice A (z + q) c) ∧ Hid (Ob wr w.heap.size 5 v (keyB k ++ List.replicate q 0)) ∧ Hid (Below w.heap.size w wr)) (fun v _ => 100 - lenV v)
    case atStart => exact ⟨0, Nat.zero_le _, ⟨_, _, rfl⟩, by rw [List.replicate_zero, List.append_nil]; exact O2.out, B2.out⟩
    case round =>
      obtain ⟨q, hq, ⟨A3, c3, rfl⟩, hob, hbel⟩ := hrel
      by_cases hlt : q < 64 - z
      · have t1 : ((z : Int) + (q : Int)) < 64 := by omega
        obtain ⟨L, hL⟩ : ∃ L, L = keyB k ++ List.replicate q (0 : UInt8) := ⟨_, rfl⟩
        have ho := hob.out
        rw [← hL] at ho
        have hl : L.length = z + q := by rw [hL, List.length_append, List.length_replicate, HZ.out]
        have HL2 : Hid ((L ++ [0]).length = z + (q + 1)) := by show _ = _; simp [hl]; omega
        have HO := Lib.hid ho
        have HL := Lib.hid hL
        have HBN3 : Hid (L.length + 1 ≤ 140737488355328) := by show _ ≤ _; rw [hl]; omega
        clear ho hL hl
        go_wp2_with (first
          | (at_builtin; refine wpList_appB rfl (.tmp 15) (.tmp 16) 22 rfl w.heap.size 5 Try.underlying22 info_u8 _ L rfl (HO.out.alloc _) _ _ 1 1 [0] rfl (Rd.lit wr _ rfl [0] _ _ rfl 1 rfl) HBN3.out (Nat.le_trans hbel.out.size (le_alloc _ _)) ?_; intro v4 w4 ho4 hb4; obtain ⟨A4, c4, rfl, -, -, -⟩ := Ob.rd_n ho4 HL2.out; have O4 := Lib.hid ho4; have B4 := Lib.hid ((hbel.out.alloc hbel.out.size _).trans hb4); clear ho4 hb4)
          | fail)
        go_roundw
        case rel =>
          refine ⟨q + 1, by omega, ⟨A4, c4, rfl⟩, ?_, B4.out⟩
          show Ob _ _ _ _ _
          have h := O4.out
          rw [HL.out, List.append_assoc, ← List.replicate_succ'] at h
          exact h
        case measure => show 100 - (z + (q + 1)) < 100 - (z + q); omega
      · obtain rfl : q = 64 - z := by omega
        have t1 : ¬ ((z : Int) + ((64 - z : Nat) : Int)) < 64 := by omega
        have HFIN : Hid (Ob wr w.heap.size 5 (.slice A3 (z + (64 - z)) c3) (keyL k)) := by
          show Ob _ _ _ _ _
          have h := hob.out
          rw [HZ.out] at h ⊢
          exact h
        obtain ⟨q, hq2⟩ : ∃ q, q = 64 - z := ⟨_, rfl⟩
        rw [← hq2] at t1 HFIN ⊢
        clear hq2 hob hlt hq
        go_wp2_with fail
        go_ret
        exact ⟨_, rfl, HFIN.out, hbel.out⟩
  · have e1 : ¬ (64 : Int) < (n : Int) := by omega
    have HKB : Hid (keyB k = k) := by show _ = _; unfold keyB; rw [if_neg (by rw [HKL.out]; exact hlong)]
    go_enter Try.func15, Try.ntmps15
    go_wp2_with (first
      | (at_builtin; refine wpList_appB rfl (.tmp 4) (.tmp 5) 22 rfl w.heap.size 5 Try.underlying22 info_u8 _ [] rfl HO0.out B A n c k rfl HR0.out HBN.out (le_alloc _ _) ?_; intro v1 w1 ho1 hb1; obtain ⟨A1, c1, rfl, hc1, hm1, hr1⟩ := Ob.rd_n ho1 HK0.out; have O1 := Lib.hid ho1; have B1 := Lib.hid (HB0.out.trans hb1); clear ho1 hb1 hr1)
      | fail)
    go_loopw [3] (fun v wr => ∃ q : Nat, q ≤ 64 - n ∧ (∃ A c, v = .slice A (n + q) c) ∧ Hid (Ob wr w.heap.size 5 v (k ++ List.replicate q 0)) ∧ Hid (Below w.heap.size w wr)) (fun v _ => 100 - lenV v)
    case atStart => exact ⟨0, Nat.zero_le _, ⟨_, _, rfl⟩, by have h := O1.out; rw [List.nil_append] at h; rw [List.replicate_zero, List.append_nil]; exact h, B1.out⟩
    case round =>
      obtain ⟨q, hq, ⟨A3, c3, rfl⟩, hob, hbel⟩ := hrel
      by_cases hlt : q < 64 - n
      · have t1 : ((n : Int) + (q : Int)) < 64 := by omega
        obtain ⟨L, hL⟩ : ∃ L, L = k ++ List.replicate q (0 : UInt8) := ⟨_, rfl⟩
        have ho := hob.out
        rw [← hL] at ho
        have hl : L.length = n + q := by rw [hL, List.length_append, List.length_replicate, HKL.out]
        have HL2 : Hid ((L ++ [0]).length = n + (q + 1)) := by show _ = _; simp [hl]; omega
        have HO := Lib.hid ho
        have HL := Lib.hid hL
        have HBN3 : Hid (L.length + 1 ≤ 140737488355328) := by show _ ≤ _; rw [hl]; omega
        clear ho hL hl
        go_wp2_with (first
          | (at_builtin; refine wpList_appB rfl (.tmp 15) (.tmp 16) 22 rfl w.heap.size 5 Try.underlying22 info_u8 _ L rfl (HO.out.alloc _) _ _ 1 1 [0] rfl (Rd.lit wr _ rfl [0] _ _ rfl 1 rfl) HBN3.out (Nat.le_trans hbel.out.size (le_alloc _ _)) ?_; intro v4 w4 ho4 hb4; obtain ⟨A4, c4, rfl, -, -, -⟩ := Ob.rd_n ho4 HL2.out; have O4 := Lib.hid ho4; have B4 := Lib.hid ((hbel.out.alloc hbel.out.size _).trans hb4); clear ho4 hb4)
          | fail)
        go_roundw
        case rel =>
          refine ⟨q + 1, by omega, ⟨A4, c4, rfl⟩, ?_, B4.out⟩
          show Ob _ _ _ _ _
          have h := O4.out
          rw [HL.out, List.append_assoc, ← List.replicate_succ'] at h
          exact h
        case measure => show 100 - (n + (q + 1)) < 100 - (n + q); omega
      · obtain rfl : q = 64 - n := by omega
        have t1 : ¬ ((n : Int) + ((64 - n : Nat) : Int)) < 64 := by omega
        have HFIN : Hid (Ob wr w.heap.size 5 (.slice A3 (n + (64 - n)) c3) (keyL k)) := by
          show Ob _ _ _ _ _
          have h := hob.out
          unfold keyL
          rw [HKB.out, HKL.out]
          exact h
        obtain ⟨q, hq2⟩ : ∃ q, q = 64 - n := ⟨_, rfl⟩
        rw [← hq2] at t1 HFIN ⊢
        clear hq2 hob hlt hq
        go_wp2_with fail
        go_ret
        exact ⟨_, rfl, HFIN.out, hbel.out⟩

set_option maxRecDepth 100000 in
set_option maxHeartbeats 1000000 in
theorem rwith_any (A : Option Addr) (n c B : Nat) (l : List UInt8) (y : UInt8) (w : World) (h : Rd w B A n l) (hB : B ≤ w.heap.size) (hn : n ≤ 1099511627776) :
    Calls Try.prog 27 #[.slice A n c, .int .u8 (y.toNat : Int)] w (GivesO 5 (xorL l y) w) := by
  have HR := Lib.hid h
  have HB := Lib.hid hB
  clear h hB
  obtain ⟨Y, hY⟩ : ∃ Y, Y = y.toNat := ⟨_, rfl⟩
  have hY1 : Y < 256 := by rw [hY]; exact y.toNat_lt
  rw [← hY]
  have HY := Lib.hid hY
  clear hY
  go_enter Try.func27, Try.ntmps27
  go_wp2
  go_loopw [5, 6] (fun v i wr => ∃ k : Nat, k ≤ n ∧ i = .int .i64 k ∧ Hid (Ob wr w.heap.size 5 v (xorL (l.take k) y)) ∧ Hid (Below w.heap.size w wr)) (fun _ i _ => n - (intOf i).toNat)
  case atStart => exact ⟨0, Nat.zero_le _, rfl, Ob.nil_ _ _ _, Below.refl _ _⟩
  case round =>
    obtain ⟨k, hk, rfl, hob, hbel⟩ := hrel
    by_cases hlt : k < n
    · obtain ⟨b, o, rfl, hb, hcell⟩ := HR.out.2 (by omega)
      obtain ⟨x, hx⟩ : ∃ x, x = l.getD k 0 := ⟨_, rfl⟩
      have hcx : wr.cell? ⟨b, o + k, none⟩ = some (.int .u8 (x.toNat : Int)) := by rw [hx, hbel.out.cell (p := ⟨b, o + k, none⟩) (Nat.lt_of_lt_of_le hb HB.out)]; exact hcell k hlt
      have hbn : (xorL (l.take k) y).length + 1 ≤ 140737488355328 := by rw [xorL_length, List.length_take]; omega
      have hxv := xor8 x y
      rw [← HY.out] at hxv
      have HX := Lib.hid hx
      have HBN := Lib.hid hbn
      have HXV := Lib.hid hxv
      have i0 : (0 : Int) ≤ (k : Int) := by omega
      have i1 : (k : Int) < (n : Int) := by omega
      clear hx hcell hbn hxv
      go_wp2_with (first
        | (at_builtin; refine wpList_appB rfl (.tmp 13) (.tmp 20) 22 rfl w.heap.size 5 Try.underlying22 info_u8 _ (xorL (l.take k) y) rfl (hob.out.alloc _) _ _ 1 1 [x ^^^ y] rfl (Rd.lit wr _ rfl [x ^^^ y] _ _ (by rw [List.map_cons, List.map_nil, ← HXV.out]) 1 rfl) HBN.out (Nat.le_trans hbel.out.size (le_alloc _ _)) ?_; intro v1 w1 ho1 hb1; have O1 := Lib.hid ho1; have B1 := Lib.hid ((hbel.out.alloc hbel.out.size _).trans hb1); clear ho1 hb1)
        | fail)
      go_roundw
      case rel =>
        refine ⟨k + 1, by omega, by go_num, ?_, B1.out⟩
        show Ob _ _ _ _ _
        rw [xorL_step l y k (by rw [HR.out.1]; exact hlt), ← HX.out]
        exact O1.out
      case measure => simp [intOf]; omega
    · obtain rfl : k = n := by omega
      have hs := hob.out
      rw [List.take_of_length_le (by rw [HR.out.1]; exact Nat.le_refl _)] at hs
      have HS := Lib.hid hs
      clear hs
      go_wp2
      go_ret
      exact ⟨_, rfl, HS.out, hbel.out⟩

set_option maxRecDepth 100000 in
set_option maxHeartbeats 1000000 in
theorem rtag_any (A A' : Option Addr) (n c n' c' B B' : Nat) (k t : List UInt8) (w : World) (h : Rd w B A n k) (hB : B ≤ w.heap.size) (h' : Rd w B' A' n' t) (hB' : B' ≤ w.heap.size) (hn : n ≤ 1099511627776) (hn' : n' ≤ 1099511627000) :
    Calls Try.prog 16 #[.slice A n c, .slice A' n' c'] w (GivesO 5 (tagL k t) w) := by
  have HT := Lib.hid h'
  have HTL := Lib.hid h'.1
  have HBt := Lib.hid hB'
  have C1 := Lib.hid (rkey_any A n c B k w h hB hn)
  clear h hB h' hB'
  go_enter Try.func16, Try.ntmps16
  go_wp2_with fail
  refine C1.out.mono ?_
  rintro e w1 ⟨v1, rfl, ho1, hb1⟩
  obtain ⟨A1, c1, rfl, hc1, -, hr1⟩ := Ob.rd_n ho1 (keyL_length k)
  have R1 := Lib.hid hr1
  have B1 := Lib.hid hb1
  have C2 := Lib.hid (show Calls Try.prog 27 #[.slice A1 64 c1, .int .u8 54] w1 _ from rwith_any A1 64 c1 _ (keyL k) 0x36 w1 hr1 (Nat.le_refl _) (by decide))
  clear ho1 hb1 hr1
  go_wp2_with fail
  refine C2.out.mono ?_
  rintro e w2 ⟨v2, rfl, ho2, hb2⟩
  have O2 := Lib.hid ho2
  have B2 := Lib.hid (B1.out.trans (hb2.mono B1.out.size))
  have B12 := Lib.hid hb2
  have X2 : Hid ((xorL (keyL k) 0x36).length = 64) := by show _ = _; rw [xorL_length, keyL_length]
  have L2 : Hid ((xorL (keyL k) 0x36 ++ t).length = 64 + n') := by show _ = _; rw [List.length_append, X2.out, HTL.out]
  have Z2 : Hid ((xorL (keyL k) 0x36).length + n' ≤ 140737488355328) := by show _ ≤ _; rw [X2.out]; omega
  clear ho2 hb2
  go_wp2_with (first
    | (at_builtin; refine wpList_appB rfl (.tmp 10) (.tmp 11) 22 rfl w1.heap.size 5 Try.underlying22 info_u8 _ _ rfl O2.out B' A' n' c' t rfl (HT.out.below (B2.out.mono HBt.out)) Z2.out B12.out.size ?_; intro v3 w3 ho3 hb3; obtain ⟨A3, c3, rfl, hc3, -, hr3⟩ := Ob.rd_n ho3 L2.out; have R3 := Lib.hid hr3; have B13 := Lib.hid (B12.out.trans hb3); have B3 := Lib.hid (B1.out.trans ((B12.out.trans hb3).mono B1.out.size)); clear ho3 hb3 hr3)
    | fail)
  refine (rsum_any A3 (64 + n') c3 _ w3 R3.out hc3 (by omega)).mono ?_
  rintro e w4 ⟨v4, rfl, ho4, hb4⟩
  obtain ⟨A4, c4, rfl, hc4, -, hr4⟩ := Ob.rd_n ho4 (shaL_size _)
  have R4 := Lib.hid hr4
  have B14 := Lib.hid (B13.out.trans (hb4.mono B13.out.size))
  have B4 := Lib.hid (B3.out.trans (hb4.mono B3.out.size))
  have C5 := Lib.hid (show Calls Try.prog 27 #[.slice A1 64 c1, .int .u8 92] w4 _ from rwith_any A1 64 c1 _ (keyL k) 0x5c w4 (R1.out.below B14.out) B14.out.size (by decide))
  clear ho4 hb4 hr4
  go_wp2_with fail
  refine C5.out.mono ?_
  rintro e w5 ⟨v5, rfl, ho5, hb5⟩
  have O5 := Lib.hid ho5
  have B45 := Lib.hid hb5
  have R45 := Lib.hid (R4.out.below hb5)
  have B5 := Lib.hid (B4.out.trans (hb5.mono B4.out.size))
  have X5 : Hid ((xorL (keyL k) 0x5c).length = 64) := by show _ = _; rw [xorL_length, keyL_length]
  have L5 : Hid ((xorL (keyL k) 0x5c ++ shaL (xorL (keyL k) 0x36 ++ t)).length = 96) := by show _ = _; rw [List.length_append, X5.out, shaL_size]
  have Z5 : Hid ((xorL (keyL k) 0x5c).length + 32 ≤ 140737488355328) := by show _ ≤ _; rw [X5.out]; decide
  clear ho5 hb5
  go_wp2_with (first
    | (at_builtin; refine wpList_appB rfl (.tmp 15) (.tmp 16) 22 rfl w4.heap.size 5 Try.underlying22 info_u8 _ _ rfl O5.out _ A4 32 c4 _ rfl R45.out Z5.out B45.out.size ?_; intro v6 w6 ho6 hb6; obtain ⟨A6, c6, rfl, hc6, -, hr6⟩ := Ob.rd_n ho6 L5.out; have R6 := Lib.hid hr6; have B6 := Lib.hid (B4.out.trans ((B45.out.trans hb6).mono B4.out.size)); clear ho6 hb6 hr6)
    | fail)
  refine (rsum_any A6 96 c6 _ w6 R6.out hc6 (by decide)).mono ?_
  rintro e w7 ⟨v7, rfl, ho7, hb7⟩
  have O7 := Lib.hid (ho7.low B6.out.size)
  have B7 := Lib.hid (B6.out.trans (hb7.mono B6.out.size))
  clear ho7 hb7
  go_wp2_with fail
  go_ret
  exact ⟨_, rfl, O7.out, B7.out⟩

set_option maxRecDepth 100000 in
set_option maxHeartbeats 1000000 in
theorem rchain_any (A A' : Option Addr) (n c n' c' B B' : Nat) (k t : List UInt8) (w : World) (h : Rd w B A n k) (hB : B ≤ w.heap.size) (h' : Rd w B' A' n' t) (hB' : B' ≤ w.heap.size) (hn : n ≤ 549755813888) (hn' : n' ≤ 549755813888) :
    Calls Try.prog 17 #[.slice A n c, .slice A' n' c'] w (GivesO 5 (shaL (k ++ t)) w) := by
  have ho0 : Ob (w.alloc (.cells #[] 5)) w.heap.size 5 (.slice (some ⟨w.heap.size, 0, none⟩) 0 0) [] := Ob.lit w [] #[] rfl (Nat.le_refl _) 0 rfl (by decide)
  have HO0 := Lib.hid ho0
  have HR0 := Lib.hid (h.alloc hB (.cells #[] 5))
  have HR := Lib.hid h'
  have HBt := Lib.hid hB'
  have HB0 := Lib.hid ((Below.refl w.heap.size w).alloc (Nat.le_refl _) (.cells #[] 5))
  have Z1 : Hid (([] : List UInt8).length + n ≤ 140737488355328) := by show _ ≤ _; rw [List.length_nil]; omega
  have Z2 : Hid ((([] : List UInt8) ++ k).length + n' ≤ 140737488355328) := by show _ ≤ _; rw [List.nil_append, h.1]; omega
  have L2 : Hid ((([] : List UInt8) ++ k ++ t).length = n + n') := by show _ = _; rw [List.nil_append, List.length_append, h.1, h'.1]
  clear ho0 h h' hB hB'
  go_enter Try.func17, Try.ntmps17
  go_wp2_with (first
    | (at_builtin; refine wpList_appB rfl (.tmp 4) (.tmp 5) 22 rfl w.heap.size 5 Try.underlying22 info_u8 _ [] rfl HO0.out B A n c k rfl HR0.out Z1.out (le_alloc _ _) ?_; intro v1 w1 ho1 hb1; have O1 := Lib.hid ho1; have B1 := Lib.hid (HB0.out.trans hb1); clear ho1 hb1)
    | (at_builtin; refine wpList_appB rfl (.tmp 5) (.tmp 6) 22 rfl w.heap.size 5 Try.underlying22 info_u8 _ [] rfl HO0.out B A n c k rfl HR0.out Z1.out (le_alloc _ _) ?_; intro v1 w1 ho1 hb1; have O1 := Lib.hid ho1; have B1 := Lib.hid (HB0.out.trans hb1); clear ho1 hb1)
    | (at_builtin; refine wpList_appB rfl (.tmp 7) (.tmp 8) 22 rfl w.heap.size 5 Try.underlying22 info_u8 _ ([] ++ k) rfl O1.out B' A' n' c' t rfl (HR.out.below (B1.out.mono HBt.out)) Z2.out B1.out.size ?_; intro v2 w2 ho2 hb2; obtain ⟨A2, c2, rfl, hc2, -, hr2⟩ := Ob.rd_n ho2 L2.out; have R2 := Lib.hid hr2; have B2 := Lib.hid (B1.out.trans hb2); clear ho2 hb2 hr2)
    | fail)
  refine (rsum_any A2 (n + n') c2 _ w2 R2.out hc2 (by omega)).mono ?_
  rintro e w3 ⟨v3, rfl, ho3, hb3⟩
  rw [List.nil_append] at ho3
  have O3 := Lib.hid (ho3.low B2.out.size)
  have B3 := Lib.hid (B2.out.trans (hb3.mono B2.out.size))
  clear ho3 hb3
  go_wp2_with fail
  go_ret
  exact ⟨_, rfl, O3.out, B3.out⟩
end Go.Proofs.Ytllodapnbdbpeaa
