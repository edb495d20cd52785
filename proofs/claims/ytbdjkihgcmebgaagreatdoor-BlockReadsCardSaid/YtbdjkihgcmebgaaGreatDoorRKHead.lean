/- What Head of layer 3 returns. -/
import Derived.Test.YtbdjkihgcmebgaaGreatDoorRCborP
import Derived.Test.YtbdjkihgcmebgaaGreatDoorRNumG
namespace Go.Proofs.YtbdjkihgcmebgaaGreatDoor
open Go.RowKit

/-- How far the search for a head's size has come. -/
def HdSt (n c S : Nat) : Prop := (c = 24 ∧ S = 1) ∨ (c = 25 ∧ S = 2 ∧ 256 ≤ n) ∨ (c = 26 ∧ S = 4 ∧ 65536 ≤ n) ∨ (c = 27 ∧ S = 8 ∧ 4294967296 ≤ n)
theorem HdSt.end_ {n c S : Nat} (h : HdSt n c S) (h24 : 24 ≤ n) (hd : 8 ≤ S ∨ n < 2 ^ (8 * S)) : c = hlow n ∧ S = hsz n := by
  unfold hlow hsz
  rcases h with ⟨rfl, rfl⟩ | ⟨rfl, rfl, h1⟩ | ⟨rfl, rfl, h1⟩ | ⟨rfl, rfl, h1⟩ <;> simp at hd
  · rw [if_neg (by omega), if_pos (by omega), if_neg (by omega), if_pos (by omega)]; exact ⟨rfl, rfl⟩
  · rw [if_neg (by omega), if_neg (by omega), if_pos (by omega), if_neg (by omega), if_neg (by omega), if_pos (by omega)]; exact ⟨rfl, rfl⟩
  · rw [if_neg (by omega), if_neg (by omega), if_neg (by omega), if_pos (by omega), if_neg (by omega), if_neg (by omega), if_neg (by omega), if_pos (by omega)]; exact ⟨rfl, rfl⟩
  · rw [if_neg (by omega), if_neg (by omega), if_neg (by omega), if_neg (by omega), if_neg (by omega), if_neg (by omega), if_neg (by omega), if_neg (by omega)]; exact ⟨rfl, rfl⟩
theorem HdSt.next {n c S : Nat} (h : HdSt n c S) (h8 : S < 8) (hd : 2 ^ (8 * S) ≤ n) : HdSt n (c + 1) (S * 2) := by
  unfold HdSt
  rcases h with ⟨rfl, rfl⟩ | ⟨rfl, rfl, h1⟩ | ⟨rfl, rfl, h1⟩ | ⟨rfl, rfl, h1⟩ <;> simp at hd <;> omega
theorem HdSt.bd {n c S : Nat} (h : HdSt n c S) : 24 ≤ c ∧ c ≤ 27 ∧ 1 ≤ S ∧ S ≤ 8 := by
  unfold HdSt at h; omega

theorem or_head (m : Int) (h0 : 0 ≤ m) (h7 : m ≤ 7) (L : Nat) (hL : L < 32) : bits BinOp.or IntKind.u8 (m * 32) (L : Int) = 32 * m + (L : Int) := by
  obtain ⟨a, rfl⟩ := Int.eq_ofNat_of_zero_le h0
  have e : ((a : Int) * 32) = ((2 ^ 5 * a : Nat) : Int) := by rw [Int.natCast_mul]; simp; omega
  rw [e, u8_or_nat _ _ (by omega) (by omega), ← Nat.two_pow_add_eq_or_of_lt (i := 5) (by omega)]
  omega

set_option maxRecDepth 100000 in
set_option maxHeartbeats 1000000 in
theorem khead_any (m : Int) (n : Nat) (w : World) (_hm : (Lit.int .i64 m).wf = true) (hn : n < 18446744073709551616) :
    Calls Tryz.prog 74 #[.int .i64 m, .int .u64 (n : Int)] w (GivesO 5 (headB m n) w) := by
  by_cases h0 : m < 0
  · rw [headB, if_pos (.inl h0)]
    go_enter Tryz.func74, Tryz.ntmps74
    go_wp2_with fail
    go_ret
    exact ⟨_, rfl, Ob.nil_ _ _ _, Below.refl _ _⟩
  by_cases h7 : 7 < m
  · rw [headB, if_pos (.inr h7)]
    go_enter Tryz.func74, Tryz.ntmps74
    go_wp2_with fail
    go_ret
    exact ⟨_, rfl, Ob.nil_ _ _ _, Below.refl _ _⟩
  rw [headB, if_neg (by omega), hd]
  have hm0 : 0 ≤ m := by omega
  have hm7 : m ≤ 7 := by omega
  clear h0 h7
  by_cases h24 : n < 24
  · have e1 : hlow n = n := by unfold hlow; rw [if_pos h24]
    have e2 : hsz n = 0 := by unfold hsz; rw [if_pos h24]
    rw [e1, e2, show be n 0 = [] from rfl]
    have H1 := Lib.hid (head_one m hm0 hm7 n (by omega))
    have H2 := Lib.hid (or_head m hm0 hm7 n (by omega))
    clear e1 e2
    generalize hX : ([UInt8.ofNat (32 * m.toNat + n)] : List UInt8) = X at *
    have HX : Hid (X.length = 1) := by rw [← hX]; rfl
    clear hX
    go_enter Tryz.func74, Tryz.ntmps74
    go_wp2_with fail
    rw [H2.out]
    go_ret
    exact ⟨_, rfl, Ob.lit w X _ H1.out (Nat.le_refl _) 1 HX.out (by decide), (Below.refl _ _).alloc (Nat.le_refl _) _⟩
  · have HS : Hid (24 ≤ n) := (by omega : _ ≤ _)
    obtain ⟨R, hR⟩ : ∃ q, q = hd m.toNat n := ⟨_, rfl⟩
    have e0 : UInt8.ofNat (32 * m.toNat + hlow n) :: be n (hsz n) = R := by rw [hR, hd]
    rw [e0]
    have HR := Lib.hid hR
    clear hR e0
    have hx0 : (0 : Int) ≤ (n : Int) := by omega
    go_enter Tryz.func74, Tryz.ntmps74
    go_wp2_with fail
    go_loopw [6, 7] (fun c s wr => ∃ C S : Nat, HdSt n C S ∧ c = .int .u8 (C : Int) ∧ s = .int .i64 (S : Int) ∧ wr = w) (fun _ s _ => 8 - (intOf s).toNat)
    case atStart => exact ⟨24, 1, .inl ⟨rfl, rfl⟩, rfl, rfl, rfl⟩
    case round =>
      obtain ⟨C, S, hst, rfl, rfl, rfl⟩ := hrel
      obtain ⟨b1, b2, b3, b4⟩ := hst.bd
      have HST := Lib.hid hst
      clear hst
      by_cases h8 : S < 8
      · have h8i : decide ((S : Int) < 8) = true := by simp; omega
        by_cases hdd : n < 2 ^ (8 * S)
        · have hq : (n : Int) / 2 ^ (8 * S) = 0 := by
            have : n / 2 ^ (8 * S) = 0 := Nat.div_eq_of_lt hdd
            exact_mod_cast this
          obtain ⟨E1, E2⟩ := HST.out.end_ HS.out (.inr hdd)
          have eR : [UInt8.ofNat (32 * m.toNat + C)] ++ be n S = R := by rw [HR.out, hd, E1, E2]; rfl
          have HE := Lib.hid eR
          have H1 := Lib.hid (head_one m hm0 hm7 C (by omega))
          have H2 := Lib.hid (or_head m hm0 hm7 C (by omega))
          have c2 := fun W => put_any (n : Int) (S : Int) W hx0 (by omega)
          rw [show psz (S : Int) = S by unfold psz; omega, Int.toNat_natCast] at c2
          have C2 := Lib.hid c2
          have HL := Lib.hid (be_length n S)
          clear E1 E2 eR c2
          go_wp2_with fail
          rw [H2.out]
          refine (C2.out _).mono ?_
          rintro e w1 ⟨rfl, hr, hb⟩
          have hr2 := hr.rd HL.out hr.lt
          rw [show (wr.alloc (.cells #[Value.int IntKind.u8 (32 * m + (C : Int))] 5)).heap.size = wr.heap.size + 1 by simp] at hr2
          have HR2 := Lib.hid hr2
          have HB := Lib.hid hb
          clear hr hr2 hb
          generalize be n S = L at *
          have HX : Hid (([UInt8.ofNat (32 * m.toNat + C)] : List UInt8).length = 1) := rfl
          generalize ([UInt8.ofNat (32 * m.toNat + C)] : List UInt8) = X at *
          go_wp2_with (first
            | (at_builtin; go_loud (refine wpList_appB rfl (.tmp 40) (.tmp 43) 22 rfl wr.heap.size 5 Tryz.underlying22 info_u8 _ _ rfl ((Ob.lit wr X _ H1.out (Nat.le_refl _) 1 HX.out (by decide)).below HB.out) _ _ _ _ _ rfl HR2.out (by rw [HX.out]; omega) (Nat.le_trans (le_alloc _ _) HB.out.size) ?_; intro v1 w2 ho1 hb1; have O1 := Lib.hid ho1; have B1 := Lib.hid hb1; clear ho1 hb1))
            | fail)
          go_ret
          exact ⟨_, rfl, by rw [← HE.out]; exact O1.out, (((Below.refl _ _).alloc (Nat.le_refl _) _).trans (HB.out.mono (le_alloc _ _))).trans B1.out⟩
        · have hq : ¬ (n : Int) / 2 ^ (8 * S) = 0 := by
            have : 0 < n / 2 ^ (8 * S) := Nat.div_pos (by omega) (Nat.pow_pos (by decide))
            intro h
            have h2 : n / 2 ^ (8 * S) = 0 := by exact_mod_cast h
            omega
          go_wp2_with fail
          go_roundw
          case rel => exact ⟨C + 1, S * 2, HST.out.next h8 (by omega), by go_num, by go_num, trivial⟩
          case measure => simp [intOf]; omega
      · have h8i : decide ((S : Int) < 8) = false := by simp; omega
        obtain ⟨E1, E2⟩ := HST.out.end_ HS.out (.inl (by omega))
        have eR : [UInt8.ofNat (32 * m.toNat + C)] ++ be n S = R := by rw [HR.out, hd, E1, E2]; rfl
        have HE := Lib.hid eR
        have H1 := Lib.hid (head_one m hm0 hm7 C (by omega))
        have H2 := Lib.hid (or_head m hm0 hm7 C (by omega))
        have c2 := fun W => put_any (n : Int) (S : Int) W hx0 (by omega)
        rw [show psz (S : Int) = S by unfold psz; omega, Int.toNat_natCast] at c2
        have C2 := Lib.hid c2
        have HL := Lib.hid (be_length n S)
        clear E1 E2 eR c2
        go_wp2_with fail
        rw [H2.out]
        refine (C2.out _).mono ?_
        rintro e w1 ⟨rfl, hr, hb⟩
        have hr2 := hr.rd HL.out hr.lt
        rw [show (wr.alloc (.cells #[Value.int IntKind.u8 (32 * m + (C : Int))] 5)).heap.size = wr.heap.size + 1 by simp] at hr2
        have HR2 := Lib.hid hr2
        have HB := Lib.hid hb
        clear hr hr2 hb
        generalize be n S = L at *
        have HX : Hid (([UInt8.ofNat (32 * m.toNat + C)] : List UInt8).length = 1) := rfl
        generalize ([UInt8.ofNat (32 * m.toNat + C)] : List UInt8) = X at *
        go_wp2_with (first
          | (at_builtin; go_loud (refine wpList_appB rfl (.tmp 40) (.tmp 43) 22 rfl wr.heap.size 5 Tryz.underlying22 info_u8 _ _ rfl ((Ob.lit wr X _ H1.out (Nat.le_refl _) 1 HX.out (by decide)).below HB.out) _ _ _ _ _ rfl HR2.out (by rw [HX.out]; omega) (Nat.le_trans (le_alloc _ _) HB.out.size) ?_; intro v1 w2 ho1 hb1; have O1 := Lib.hid ho1; have B1 := Lib.hid hb1; clear ho1 hb1))
          | fail)
        go_ret
        exact ⟨_, rfl, by rw [← HE.out]; exact O1.out, (((Below.refl _ _).alloc (Nat.le_refl _) _).trans (HB.out.mono (le_alloc _ _))).trans B1.out⟩
theorem chead_any (m : Int) (n : Nat) (w : World) (hm : (Lit.int .i64 m).wf = true) (hn : n < 18446744073709551616) :
    Calls Tryz.prog 74 #[.int .i64 m, .int .u64 (n : Int)] w (Gives (headB m n) w) := by
  refine (khead_any m n w hm hn).mono ?_
  rintro e w' ⟨v, rfl, ho, hb⟩
  obtain ⟨A, c, rfl, hc, _, hr⟩ := ho.rd
  exact ⟨A, _, c, rfl, ho.rd_.1 ▸ hr, hc, hb⟩
end Go.Proofs.YtbdjkihgcmebgaaGreatDoor
