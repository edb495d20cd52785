/- The walk of the statement HmacNests. -/
import Derived.Test.YtllodapnbdbpeaaHmF
namespace Go.Proofs.Ytllodapnbdbpeaa
open Go.RowKit

/-- Two slices of the call's own in two rows. -/
def Two (w : World) (base : Nat) (v v' : Value) (l l' : List UInt8) : Prop := Ob w base 5 v l ∧ Ob w base 5 v' l' ∧ ∀ b, v.ownBlock = some b → v'.ownBlock ≠ some b
theorem Two.alloc {w : World} {base : Nat} {v v' : Value} {l l' : List UInt8} (h : Two w base v v' l l') (o : Obj) : Two (w.alloc o) base v v' l l' := ⟨h.1.alloc o, h.2.1.alloc o, h.2.2⟩
theorem Two.below {w w' : World} {base : Nat} {v v' : Value} {l l' : List UInt8} (h : Two w base v v' l l') (hb : Below w.heap.size w w') : Two w' base v v' l l' := ⟨h.1.below hb, h.2.1.below hb, h.2.2⟩
theorem Two.swap {w : World} {base : Nat} {v v' : Value} {l l' : List UInt8} (h : Two w base v v' l l') : Two w base v' v l' l := ⟨h.2.1, h.1, fun b h1 h2 => h.2.2 b h2 h1⟩
/-- The first one grown. -/
theorem Two.grown {w w' : World} {base : Nat} {v v' u : Value} {l l' m : List UInt8} (h : Two w base v v' l l') (ho : Ob w' base 5 u m) (hg : w.grownBy w' v.ownBlock) (hu : u.ownBlock = v.ownBlock ∨ u.ownBlock = some w.heap.size) : Two w' base u v' m l' := by
  refine ⟨ho, h.2.1.of_heap fun k hk => hg.block k (World.ownsRow.lt h.2.1 k hk).2 (fun e => h.2.2 k e.symm hk), fun b h1 h2 => ?_⟩
  rcases hu with e | e
  · exact h.2.2 b (by rw [← e]; exact h1) h2
  · rw [e] at h1
    injection h1 with h1
    have := (World.ownsRow.lt h.2.1 b h2).2
    omega

set_option maxRecDepth 100000 in
set_option maxHeartbeats 4000000 in
theorem hmacNests_walk (A : Option Addr) (n c : Nat) (k : List UInt8) (A' : Option Addr) (n' c' : Nat) (t : List UInt8) (w : World) (hb : Rd w w.heap.size A n k ∧ n ≤ c ∧ c ≤ 140737488351232) (hb' : Rd w w.heap.size A' n' t ∧ n' ≤ c' ∧ c' ≤ 140737488351232) :
    Calls Try.prog 3 #[.slice A n c, .slice A' n' c'] w fun e w' => e = .returned (.bool true) ∧ Below w.heap.size w w' := by
  obtain ⟨hr, hnc, hcc⟩ := hb
  obtain ⟨hr', hnc', hcc'⟩ := hb'
  have H8 := Lib.hid heads08_any
  by_cases h0 : 64 < n
  · have e0 : (64 : Int) < (n : Int) := by omega
    clear h0 hr hr'
    go_enter Try.func3, Try.ntmps3
    go_wp2_with fail
    refine (H8.out _).mono ?_
    rintro e w7 ⟨rfl, hb7⟩
    have B7 := Lib.hid hb7
    clear hb7
    go_wp2_with fail
    go_ret
    exact ⟨rfl, B7.out⟩
  by_cases h1 : 2000 < n'
  · have e0 : ¬ (64 : Int) < (n : Int) := by omega
    have e1 : (2000 : Int) < (n' : Int) := by omega
    clear h0 h1 hr hr'
    go_enter Try.func3, Try.ntmps3
    go_wp2_with fail
    refine (H8.out _).mono ?_
    rintro e w7 ⟨rfl, hb7⟩
    have B7 := Lib.hid hb7
    clear hb7
    go_wp2_with fail
    go_ret
    exact ⟨rfl, B7.out⟩
  have e0 : ¬ (64 : Int) < (n : Int) := by omega
  have e1 : ¬ (2000 : Int) < (n' : Int) := by omega
  have hn : n ≤ 64 := by omega
  have hn' : n' ≤ 2000 := by omega
  have HR := Lib.hid hr
  have HR' := Lib.hid hr'
  have HKL := Lib.hid hr.1
  have HTL := Lib.hid hr'.1
  obtain ⟨K, hK⟩ : ∃ K, K = keyL k := ⟨_, rfl⟩
  have hKl : K.length = 64 := by rw [hK]; exact keyL_length k
  have hKs : ∀ i, K.getD i 0 = k.getD i 0 := fun i => by rw [hK]; exact keyL_short k (by rw [hr.1]; exact hn) i
  have HK := Lib.hid hK
  have HKl := Lib.hid hKl
  have HKs := Lib.hid hKs
  clear h0 h1 hr hr' hK hKl hKs
  go_enter Try.func3, Try.ntmps3
  go_wp2_with fail
  go_loopw [5, 6, 7] (fun v u i wr => ∃ q : Nat, q ≤ 64 ∧ i = .int .i64 q ∧ Hid (Two wr w.heap.size v u (xorL (K.take q) 0x36) (xorL (K.take q) 0x5c)) ∧ Hid (Below w.heap.size w wr)) (fun _ _ i _ => 64 - (intOf i).toNat)
  case atStart => exact ⟨0, Nat.zero_le _, rfl, ⟨Ob.nil_ _ _ _, Ob.nil_ _ _ _, fun b h => by cases h⟩, Below.refl _ _⟩
  case round =>
    obtain ⟨q, hq, rfl, htwo, hbel⟩ := hrel
    by_cases hlt : q < 64
    · obtain ⟨x, hx⟩ : ∃ x, x = K.getD q 0 := ⟨_, rfl⟩
      have s1 : xorL (K.take (q + 1)) 0x36 = xorL (K.take q) 0x36 ++ [x ^^^ 0x36] := by rw [xorL_step K _ q (by rw [HKl.out]; exact hlt), ← hx]
      have s2 : xorL (K.take (q + 1)) 0x5c = xorL (K.take q) 0x5c ++ [x ^^^ 0x5c] := by rw [xorL_step K _ q (by rw [HKl.out]; exact hlt), ← hx]
      have b1 : (xorL (K.take q) 0x36).length + 1 ≤ 140737488355328 := by rw [xorL_length, List.length_take]; omega
      have b2 : (xorL (K.take q) 0x5c).length + 1 ≤ 140737488355328 := by rw [xorL_length, List.length_take]; omega
      have X1 := Lib.hid (show Value.int .u8 (bits BinOp.xor .u8 (x.toNat : Int) 54) = .int .u8 ((x ^^^ 0x36).toNat : Int) from xor8 x 0x36)
      have X2 := Lib.hid (show Value.int .u8 (bits BinOp.xor .u8 (x.toNat : Int) 92) = .int .u8 ((x ^^^ 0x5c).toNat : Int) from xor8 x 0x5c)
      have S1 := Lib.hid s1
      have S2 := Lib.hid s2
      have BN1 := Lib.hid b1
      have BN2 := Lib.hid b2
      have k0 : (0 : Int) ≤ (q : Int) := by omega
      have k1 : (q : Int) < 64 := by omega
      have hrelq : (∃ a : Unit, q < n ∧ (∃ b o, A = some ⟨b, o, none⟩ ∧ wr.cell? ⟨b, o + q, none⟩ = some (.int .u8 (x.toNat : Int)))) ∨ (n ≤ q ∧ x = 0) := by
        rcases Nat.lt_or_ge q n with h | h
        · left
          obtain ⟨b, o, e, hbb, hc⟩ := HR.out.2 (by omega)
          refine ⟨(), h, b, o, e, ?_⟩
          rw [hbel.out.cell (p := ⟨b, o + q, none⟩) hbb, hc q h, hx, HKs.out q]
        · right
          refine ⟨h, ?_⟩
          rw [hx, HKs.out q]
          simp [List.getD, List.getElem?_eq_none (show k.length ≤ q by rw [HKL.out]; exact h)]
      clear hx s1 s2 b1 b2
      rcases hrelq with ⟨_, hqn, b, o, rfl, hcx⟩ | ⟨hqn, rfl⟩
      · have t1 : (q : Int) < (n : Int) := by omega
        go_wp2_with (first
          | (at_builtin; refine wpList_app rfl (.tmp 31) (.tmp 34) 22 rfl w.heap.size 5 Try.underlying22 info_u8 _ _ rfl (htwo.out.alloc _).1 _ _ 1 1 [x ^^^ 0x36] rfl (Rd.lit wr _ rfl [x ^^^ 0x36] _ _ (by rw [List.map_cons, List.map_nil, ← X1.out]) 1 rfl) BN1.out (Nat.le_trans hbel.out.size (le_alloc _ _)) ?_; intro v1 w1 ho1 hg1 hv1; have T1 := Lib.hid ((htwo.out.alloc _).grown ho1 hg1 hv1); have B1 := Lib.hid (grown_trans hg1 (htwo.out.alloc _).1 (hbel.out.alloc hbel.out.size _)); clear ho1 hg1 hv1)
          | (at_builtin; refine wpList_app rfl (.tmp 36) (.tmp 39) 22 rfl w.heap.size 5 Try.underlying22 info_u8 _ _ rfl (T1.out.swap.alloc _).1 _ _ 1 1 [x ^^^ 0x5c] rfl (Rd.lit w1 _ rfl [x ^^^ 0x5c] _ _ (by rw [List.map_cons, List.map_nil, ← X2.out]) 1 rfl) BN2.out (Nat.le_trans B1.out.size (le_alloc _ _)) ?_; intro v2 w2 ho2 hg2 hv2; have T2 := Lib.hid ((T1.out.swap.alloc _).grown ho2 hg2 hv2); have B2 := Lib.hid (grown_trans hg2 (T1.out.swap.alloc _).1 (B1.out.alloc B1.out.size _)); clear ho2 hg2 hv2)
          | fail)
        go_roundw
        case rel => exact ⟨q + 1, by omega, by go_num, by show Two _ _ _ _ _ _; rw [S1.out, S2.out]; exact T2.out.swap, B2.out⟩
        case measure => simp [intOf]; omega
      · have t1 : ¬ (q : Int) < (n : Int) := by omega
        have X1' := Lib.hid (show Value.int .u8 (bits BinOp.xor .u8 0 54) = .int .u8 ((0 ^^^ 0x36 : UInt8).toNat : Int) from xor8 0 0x36)
        have X2' := Lib.hid (show Value.int .u8 (bits BinOp.xor .u8 0 92) = .int .u8 ((0 ^^^ 0x5c : UInt8).toNat : Int) from xor8 0 0x5c)
        go_wp2_with (first
          | (at_builtin; refine wpList_app rfl (.tmp 31) (.tmp 34) 22 rfl w.heap.size 5 Try.underlying22 info_u8 _ _ rfl (htwo.out.alloc _).1 _ _ 1 1 [0 ^^^ 0x36] rfl (Rd.lit wr _ rfl [0 ^^^ 0x36] _ _ (by first | rfl | (rw [List.map_cons, List.map_nil, ← X1'.out])) 1 rfl) BN1.out (Nat.le_trans hbel.out.size (le_alloc _ _)) ?_; intro v1 w1 ho1 hg1 hv1; have T1 := Lib.hid ((htwo.out.alloc _).grown ho1 hg1 hv1); have B1 := Lib.hid (grown_trans hg1 (htwo.out.alloc _).1 (hbel.out.alloc hbel.out.size _)); clear ho1 hg1 hv1)
          | (at_builtin; refine wpList_app rfl (.tmp 36) (.tmp 39) 22 rfl w.heap.size 5 Try.underlying22 info_u8 _ _ rfl (T1.out.swap.alloc _).1 _ _ 1 1 [0 ^^^ 0x5c] rfl (Rd.lit w1 _ rfl [0 ^^^ 0x5c] _ _ (by first | rfl | (rw [List.map_cons, List.map_nil, ← X2'.out])) 1 rfl) BN2.out (Nat.le_trans B1.out.size (le_alloc _ _)) ?_; intro v2 w2 ho2 hg2 hv2; have T2 := Lib.hid ((T1.out.swap.alloc _).grown ho2 hg2 hv2); have B2 := Lib.hid (grown_trans hg2 (T1.out.swap.alloc _).1 (B1.out.alloc B1.out.size _)); clear ho2 hg2 hv2)
          | fail)
        go_roundw
        case rel => exact ⟨q + 1, by omega, by go_num, by show Two _ _ _ _ _ _; rw [S1.out, S2.out]; exact T2.out.swap, B2.out⟩
        case measure => simp [intOf]; omega
    · obtain rfl : q = 64 := by omega
      have ht := htwo.out
      rw [List.take_of_length_le (by rw [HKl.out]; exact Nat.le_refl _), HK.out] at ht
      have HTW := Lib.hid ht
      have L1 : Hid ((xorL (keyL k) 0x36 ++ t).length = 64 + n') := by show _ = _; rw [List.length_append, xorL_length, keyL_length, HTL.out]
      have L2 : Hid ((xorL (keyL k) 0x5c ++ shaL (xorL (keyL k) 0x36 ++ t)).length = 96) := by show _ = _; rw [List.length_append, xorL_length, keyL_length, shaL_size]
      have Z1 : Hid ((xorL (keyL k) 0x36).length + n' ≤ 140737488355328) := by show _ ≤ _; rw [xorL_length, keyL_length]; omega
      have Z2 : Hid ((xorL (keyL k) 0x5c).length + 32 ≤ 140737488355328) := by show _ ≤ _; rw [xorL_length, keyL_length]; decide
      clear ht
      go_wp2_with (first
        | (at_builtin; refine wpList_app rfl (.tmp 42) (.tmp 43) 22 rfl w.heap.size 5 Try.underlying22 info_u8 _ _ rfl HTW.out.1 _ A' n' c' t rfl (HR'.out.below hbel.out) Z1.out hbel.out.size ?_; intro v1 w1 ho1 hg1 hv1; have T1 := Lib.hid (HTW.out.grown ho1 hg1 hv1); have B1 := Lib.hid (grown_trans hg1 HTW.out.1 hbel.out); obtain ⟨D1, d1, rfl, hd1, -, hr1⟩ := Ob.rd_n ho1 L1.out; have R1 := Lib.hid hr1; clear ho1 hg1 hv1 hr1)
        | fail)
      refine (rsum_any D1 (64 + n') d1 _ w1 R1.out hd1 (by omega)).mono ?_
      rintro e w2 ⟨v2, rfl, ho2, hb2⟩
      obtain ⟨D2, d2, rfl, -, -, hr2⟩ := Ob.rd_n ho2 (shaL_size _)
      have R2 := Lib.hid hr2
      have T2 := Lib.hid (T1.out.below hb2)
      have B2 := Lib.hid (B1.out.trans (hb2.mono B1.out.size))
      clear ho2 hb2 hr2
      go_wp2_with (first
        | (at_builtin; refine wpList_appB rfl (.tmp 41) (.tmp 45) 22 rfl w.heap.size 5 Try.underlying22 info_u8 _ _ rfl T2.out.2.1 _ D2 32 d2 _ rfl R2.out Z2.out B2.out.size ?_; intro v3 w3 ho3 hb3; obtain ⟨D3, d3, rfl, hd3, -, hr3⟩ := Ob.rd_n ho3 L2.out; have R3 := Lib.hid hr3; have B3 := Lib.hid (B2.out.trans hb3); clear ho3 hb3 hr3)
        | fail)
      refine (rsum_any D3 96 d3 _ w3 R3.out hd3 (by decide)).mono ?_
      rintro e w4 ⟨v4, rfl, ho4, hb4⟩
      obtain ⟨D4, d4, rfl, -, -, hr4⟩ := Ob.rd_n ho4 (shaL_size _)
      have R4 := Lib.hid (show Rd w4 w4.heap.size D4 32 (tagL k t) from hr4)
      have B4 := Lib.hid (B3.out.trans (hb4.mono B3.out.size))
      clear ho4 hb4 hr4
      go_wp2_with fail
      refine (tag1_any A A' n c n' c' k t w4 ((HR.out.below B4.out).more B4.out.size) hnc (by omega) (by omega) ((HR'.out.below B4.out).more B4.out.size) hnc' (by omega) (by omega)).mono ?_
      rintro e w5 ⟨v5, rfl, ho5, hb5⟩
      obtain ⟨D5, d5, rfl, -, -, hr5⟩ := Ob.rd_n ho5 (tagL_length k t)
      have R5 := Lib.hid hr5
      have B45 : Hid (Below w4.heap.size w4 w5) := ((Below.refl _ w4).alloc (Nat.le_refl _) _).trans (hb5.mono (le_alloc _ _))
      have B5 := Lib.hid (B4.out.trans (B45.out.mono B4.out.size))
      clear ho5 hb5 hr5
      go_wp2_with fail
      refine (same_true D5 D4 32 d5 32 d4 _ _ (tagL k t) w5 R5.out (R4.out.below B45.out)).mono ?_
      rintro e w5' ⟨rfl, rfl⟩
      go_wp2_with fail
      refine (cchain_any A A' n c n' c' k t w5 ((HR.out.below B5.out).more B5.out.size) hnc (by omega) ((HR'.out.below B5.out).more B5.out.size) hnc' (by omega) (by omega) (by omega)).mono ?_
      rintro e w6 ⟨v6, rfl, ho6, hb6⟩
      obtain ⟨D6, d6, rfl, -, -, hr6⟩ := Ob.rd_n ho6 (shaL_size _)
      have R6 := Lib.hid hr6
      have B6 := Lib.hid (B5.out.trans (hb6.mono B5.out.size))
      have O7 : Hid (Ob (w6.alloc (.cells #[] 5)) w6.heap.size 5 (.slice (some ⟨w6.heap.size, 0, none⟩) 0 0) []) := Ob.lit w6 [] #[] rfl (Nat.le_refl _) 0 rfl (by decide)
      have HB7 := Lib.hid ((Below.refl w6.heap.size w6).alloc (Nat.le_refl _) (.cells #[] 5))
      have Z3 : Hid (([] : List UInt8).length + n ≤ 140737488355328) := by show _ ≤ _; rw [List.length_nil]; omega
      have Z4 : Hid ((([] : List UInt8) ++ k).length + n' ≤ 140737488355328) := by show _ ≤ _; rw [List.nil_append, HKL.out]; omega
      have L3 : Hid ((([] : List UInt8) ++ k ++ t).length = n + n') := by show _ = _; rw [List.nil_append, List.length_append, HKL.out, HTL.out]
      clear ho6 hb6 hr6
      go_wp2_with (first
        | (at_builtin; refine wpList_appBG rfl (.tmp 58) (.tmp 59) 22 rfl w6.heap.size 5 Try.underlying22 info_u8 _ [] rfl O7.out w6.heap.size A n c k rfl (((HR.out.below B6.out).more B6.out.size).alloc (Nat.le_refl _) _) Z3.out (le_alloc _ _) ?_; intro v8 w8 ho8 hb8; have O8 := Lib.hid ho8; have B8 := Lib.hid (HB7.out.trans hb8); clear ho8 hb8)
        | (at_builtin; refine wpList_appBG rfl (.tmp 60) (.tmp 61) 22 rfl w6.heap.size 5 Try.underlying22 info_u8 _ ([] ++ k) rfl O8.out w6.heap.size A' n' c' t rfl (((HR'.out.below B6.out).more B6.out.size).below B8.out) Z4.out B8.out.size ?_; intro v9 w9 ho9 hb9; obtain ⟨D9, d9, rfl, hd9, -, hr9⟩ := Ob.rd_n ho9 L3.out; have R9 := Lib.hid hr9; have B9 := Lib.hid (B8.out.trans hb9); clear ho9 hb9 hr9)
        | fail)
      refine (rsum_any D9 (n + n') d9 _ w9 R9.out hd9 (by omega)).mono ?_
      rintro e w10 ⟨v10, rfl, ho10, hb10⟩
      rw [List.nil_append] at ho10
      obtain ⟨D10, d10, rfl, -, -, hr10⟩ := Ob.rd_n ho10 (shaL_size _)
      have R10 := Lib.hid hr10
      have B610 := Lib.hid (B9.out.trans (hb10.mono B9.out.size))
      have B10 := Lib.hid (B6.out.trans (B610.out.mono B6.out.size))
      clear ho10 hb10 hr10
      go_wp2_with fail
      refine (same_true D6 D10 32 d6 32 d10 _ _ (shaL (k ++ t)) w10 (R6.out.below B610.out) R10.out).mono ?_
      rintro e w11 ⟨rfl, rfl⟩
      go_wp2_with fail
      refine (H8.out _).mono ?_
      rintro e w12 ⟨rfl, hb12⟩
      have B12 := Lib.hid (B10.out.trans (hb12.mono B10.out.size))
      clear hb12
      go_wp2_with fail
      go_ret
      exact ⟨rfl, B12.out⟩
end Go.Proofs.Ytllodapnbdbpeaa
