/- What Put of layer 1's reference, and Head of layer 3's, return: slices of the call's own. -/
import Derived.Test.YtbdjkihgcmebgaaGreatDoorRCborR
import Derived.Test.YtbdjkihgcmebgaaGreatDoorRNumB
import Derived.Test.YtbdjkihgcmebgaaGreatDoorROwn
namespace Go.Proofs.YtbdjkihgcmebgaaGreatDoor
open Go.RowKit

/-- A call gives back a slice of its own that reads as l, and leaves what was there. -/
def GivesO (t : TypeId) (l : List UInt8) (w : World) (e : Ending) (w' : World) : Prop := ∃ v, e = .returned v ∧ Ob w' w.heap.size t v l ∧ Below w.heap.size w w'

theorem be_take (x n k : Nat) (hk : k < n) : (be x n).take (k + 1) = (be x n).take k ++ [UInt8.ofNat (x / 256 ^ (n - 1 - k))] := by
  rw [take_more _ _ (by rw [be_length]; exact hk)]
  simp [be, List.getD, hk]
theorem one_byte (x : Int) (h0 : 0 ≤ x) (s : Nat) : #[Value.int .u8 (x / 2 ^ (8 * s) % 256)] = (([UInt8.ofNat (x.toNat / 256 ^ s)] : List UInt8).map fun u => Value.int .u8 (u.toNat : Int)).toArray := by
  rw [byte_at_pow x h0 s]; rfl

set_option maxRecDepth 100000 in
set_option maxHeartbeats 1000000 in
theorem rput_any (x : Int) (n : Nat) (w : World) (hx0 : 0 ≤ x) (_hx1 : x < 18446744073709551616) (hn : n ≤ 8) :
    Calls Tryz.prog 91 #[.int .u64 x, .int .i64 (n : Int)] w (GivesO 5 (be x.toNat n) w) := by
  rcases Nat.eq_zero_or_pos n with h0 | h0
  · subst h0
    go_enter Tryz.func91, Tryz.ntmps91
    go_wp2
    go_ret
    exact ⟨_, rfl, Ob.nil_ _ _ _, Below.refl _ _⟩
  · go_enter Tryz.func91, Tryz.ntmps91
    go_wp2
    go_loopw [5, 6] (fun v i wr => ∃ r : Nat, r ≤ n ∧ i = .int .i64 ((r : Int) - 1) ∧ Hid (Ob wr w.heap.size 5 v ((be x.toNat n).take (n - r))) ∧ Hid (Below w.heap.size w wr)) (fun _ i _ => ((intOf i) + 1).toNat)
    case atStart => exact ⟨n, Nat.le_refl _, rfl, by rw [Nat.sub_self, List.take_zero]; exact Ob.nil_ _ _ _, Below.refl _ _⟩
    case round =>
      obtain ⟨r, hr, rfl, hob, hbel⟩ := hrel
      by_cases hlt : 0 < r
      · obtain ⟨q, rfl⟩ : ∃ q, r = q + 1 := ⟨r - 1, by omega⟩
        obtain ⟨X, hX⟩ : ∃ X, X = UInt8.ofNat (x.toNat / 256 ^ q) := ⟨_, rfl⟩
        have hbd : ((be x.toNat n).take (n - (q + 1))).length + 1 ≤ 140737488355328 := by rw [List.length_take, be_length]; omega
        have HBD := Lib.hid hbd
        have hbz : w.heap.size ≤ wr.heap.size := hbel.out.size
        have HBZ := Lib.hid hbz
        have HX := Lib.hid hX
        have e1 : ((q + 1 : Nat) : Int) - 1 = (q : Int) := by omega
        rw [e1]
        clear hX hbd hbz e1
        go_wp2_with (first
          | (at_builtin; refine wpList_appB rfl (.tmp 17) (.tmp 24) 22 rfl w.heap.size 5 Tryz.underlying22 info_u8 _ _ rfl (hob.out.alloc _) _ _ 1 1 [X] rfl (Rd.lit wr _ rfl [X] _ _ (by rw [HX.out]; exact one_byte x hx0 q) 1 rfl) HBD.out (Nat.le_trans HBZ.out (le_alloc _ _)) ?_; intro v1 w1 ho1 hb1; have O1 := Lib.hid ho1; have B1 := Lib.hid hb1; clear ho1 hb1)
          | fail)
        go_roundw
        case rel =>
          refine ⟨q, by omega, rfl, ?_, (((hbel.out).alloc HBZ.out _).trans B1.out)⟩
          have e := be_take x.toNat n (n - (q + 1)) (by omega)
          rw [show n - (q + 1) + 1 = n - q by omega, show n - 1 - (n - (q + 1)) = q by omega, ← HX.out] at e
          show Ob _ _ _ _ _
          rw [e]
          exact O1.out
        case measure => simp [intOf]
      · obtain rfl : r = 0 := by omega
        have ho := hob.out
        rw [Nat.sub_zero, List.take_of_length_le (by rw [be_length]; exact Nat.le_refl _)] at ho
        have HO := Lib.hid ho
        clear ho
        go_wp2_with fail
        go_ret
        exact ⟨_, rfl, HO.out, hbel.out⟩

/-- What Head answers. -/
def headB (m : Int) (n : Nat) : List UInt8 := if m < 0 ∨ 7 < m then [] else hd m.toNat n
theorem Ob.weak {w : World} {base base' : Nat} {t : TypeId} {v : Value} {l : List UInt8} (h : Ob w base t v l) (hb : base' ≤ base) : Ob w base' t v l :=
  ⟨h.1, h.2.imp id (fun ⟨g, cap, cur, h1, h2, h3⟩ => ⟨g, cap, cur, h1, Nat.le_trans hb h2, h3⟩)⟩
theorem Ob.rdn {w : World} {base n : Nat} {t : TypeId} {v : Value} {l : List UInt8} (h : Ob w base t v l) (hl : l.length = n) : ∃ (A : Option Addr) (c : Nat), v = .slice A n c ∧ n ≤ c ∧ c ≤ maxLen ∧ Rd w w.heap.size A n l := by
  subst hl
  exact h.rd
theorem head_one (m : Int) (h0 : 0 ≤ m) (h7 : m ≤ 7) (L : Nat) (hL : L ≤ 27) : #[Value.int .u8 (32 * m + (L : Int))] = (([UInt8.ofNat (32 * m.toNat + L)] : List UInt8).map fun u => Value.int .u8 (u.toNat : Int)).toArray := by
  obtain ⟨a, rfl⟩ := Int.eq_ofNat_of_zero_le h0
  simp only [Int.toNat_natCast, List.map_cons, List.map_nil]
  rw [byte_nat _ (by omega)]
  rw [Int.natCast_add, Int.natCast_mul]
  rfl

set_option maxRecDepth 100000 in
set_option maxHeartbeats 1000000 in
theorem rhead_any (m : Int) (n : Nat) (w : World) (_hm : (Lit.int .i64 m).wf = true) (hn : n < 18446744073709551616) :
    Calls Tryz.prog 87 #[.int .i64 m, .int .u64 (n : Int)] w (GivesO 5 (headB m n) w) := by
  by_cases h0 : m < 0
  · rw [headB, if_pos (.inl h0)]
    go_enter Tryz.func87, Tryz.ntmps87
    go_wp2_with fail
    go_ret
    exact ⟨_, rfl, Ob.nil_ _ _ _, Below.refl _ _⟩
  by_cases h7 : 7 < m
  · rw [headB, if_pos (.inr h7)]
    go_enter Tryz.func87, Tryz.ntmps87
    go_wp2_with fail
    go_ret
    exact ⟨_, rfl, Ob.nil_ _ _ _, Below.refl _ _⟩
  · rw [headB, if_neg (by omega), hd]
    have hm0 : 0 ≤ m := by omega
    have hm7 : m ≤ 7 := by omega
    have C1 := Lib.hid (rsize_any n w hn)
    have hl := hlow_le n
    have hz := hsz_le n
    have c2 := fun W => rput_any (n : Int) (hsz n) W (by omega) (by omega) hz
    rw [Int.toNat_natCast] at c2
    have C2 := Lib.hid c2
    clear c2
    have HL := Lib.hid (be_length n (hsz n))
    generalize hsz n = S at *
    generalize hlow n = L at *
    have H1 := Lib.hid (head_one m hm0 hm7 L hl)
    clear h0 h7
    go_enter Tryz.func87, Tryz.ntmps87
    go_wp2_with fail
    refine C1.out.mono ?_
    rintro e w1 ⟨rfl, rfl⟩
    go_wp2_with fail
    refine (C2.out _).mono ?_
    rintro e w1 ⟨v, rfl, ho, hb⟩
    obtain ⟨A, c, rfl, hc, hc2, hr⟩ := ho.rdn HL.out
    have HR := Lib.hid hr
    have HB := Lib.hid hb
    clear ho hr hb
    go_wp2_with (first
      | (at_builtin; go_loud (refine wpList_appB rfl (.tmp 23) (.tmp 26) 22 rfl w.heap.size 5 Tryz.underlying22 info_u8 _ _ rfl ((Ob.lit w [UInt8.ofNat (32 * m.toNat + L)] _ H1.out (Nat.le_refl _) 1 rfl (by decide)).below HB.out) _ _ _ _ _ rfl HR.out (by simp; omega) (Nat.le_trans (le_alloc _ _) HB.out.size) ?_; intro v1 w2 ho1 hb1; have O1 := Lib.hid ho1; have B1 := Lib.hid hb1; clear ho1 hb1))
      | fail)
    go_ret
    exact ⟨_, rfl, O1.out, (((Below.refl _ _).alloc (Nat.le_refl _) _).trans (HB.out.mono (le_alloc _ _))).trans B1.out⟩
end Go.Proofs.YtbdjkihgcmebgaaGreatDoor
