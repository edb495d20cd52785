/- The walk of the statement CborBack. -/
import Derived.Test.YtcbolbdfdapidaaDoorCborX2
namespace Go.Proofs.YtcbolbdfdapidaaDoor
open Go.RowKit

set_option maxRecDepth 100000 in
set_option maxHeartbeats 4000000 in
theorem cborBack_walk (v : Value) (x : Itm) (Am : Option Addr) (nm cm : Nat) (more : List UInt8) (w : World) (hx : RdI w w.heap.size v x ∧ mass x ≤ 1048576) (hmo : Rd w w.heap.size Am nm more ∧ nm ≤ cm ∧ nm ≤ 1048576) (hL : LaidE w) :
    Calls Tryd.prog 4 #[v, .slice Am nm cm] w fun e w' => e = .returned (.bool true) ∧ Below w.heap.size w w' := by
  have HI := ItemIn.mk_ hx.1 hx.2 hL
  have HXR := Lib.hid hx.1
  have HM := Lib.hid hmo.1
  have hnm := hmo.2.2
  obtain ⟨k, n, d, l⟩ := x
  obtain ⟨A, nd, cd, AL, cl, rfl, -, -, -, -, -, -⟩ := hx.1.open
  generalize hX : Itm.mk k n d l = x at *
  clear hX hx hmo
  have B0 := Lib.hid ((Below.refl w.heap.size w).alloc (Nat.le_refl _) (.cells #[.int .i64 k, .int .u64 (n : Int), .slice A nd cd, .slice AL l.length cl] 27))
  generalize l.length = N at *
  have C1 := Lib.hid HI.small
  have C2 := Lib.hid HI.enc
  have HS := Lib.hid HI.siz
  have HLen := Lib.hid HI.len
  have CH := Lib.hid (fun W (hb : Below w.heap.size w W) => heads03_any W (hL.below hb hL.lt))
  have HLL := Lib.hid hL
  clear HI hL
  by_cases hs : Small x
  · have c1 := fun W hb => C1.out W hb true ⟨fun _ => hs, fun _ => rfl⟩
    have c2 := fun W hb => C2.out W hb hs
    have D1 := Lib.hid c1
    have D2 := Lib.hid c2
    clear c1 c2 hs C1 C2
    rcases enc_cases x with ⟨hf, he⟩ | ⟨hf, he1, he2⟩
    · rw [he] at D2
      have HF := Lib.hid hf
      clear hf he
      have HDEC := Lib.hid (decode_wr HF.out HS.out more)
      obtain ⟨WL, hWL⟩ : ∃ q, q = (wri x).length := ⟨_, rfl⟩
      have HWL := Lib.hid hWL
      clear hWL
      go_enter Tryd.func4, Tryd.ntmps4
      go_wp2_with fail
      refine (D1.out _ B0.out).mono ?_
      rintro e w1 ⟨rfl, hb1⟩
      have B1 := Lib.hid (B0.out.trans (hb1.mono B0.out.size))
      have X1 := Lib.hid (to_box hb1)
      obtain ⟨q0, q1, q2, q3⟩ := box_cells (to_box hb1)
      clear hb1
      go_wp2_with fail
      refine (D2.out _ B1.out).mono ?_
      rintro e w2 ⟨A2, n2, p2, rfl, hr2, hc2, hb2⟩
      obtain rfl : WL = n2 := HWL.out.trans hr2.1
      have B2 := Lib.hid (B1.out.trans (hb2.mono B1.out.size))
      have HZ1 : Hid (w.heap.size + 1 ≤ w1.heap.size) := by show _ ≤ _; have := X1.out.size; simpa using this
      have X2 := Lib.hid (X1.out.trans (hb2.mono HZ1.out))
      have HR2 := Lib.hid hr2
      have HO0 := Lib.hid (Ob.lit w2 [] #[] rfl (Nat.le_refl _) 0 rfl (by decide) : Ob (w2.alloc (.cells #[] 5)) w2.heap.size 5 (.slice (some ⟨w2.heap.size, 0, none⟩) 0 0) [])
      have HBD1 : Hid (([] : List UInt8).length + WL ≤ 140737488355328) := by show _ ≤ _; have := HLen.out; have := HWL.out; simp; omega
      have HBD2 : Hid ((([] : List UInt8) ++ wri x).length + nm ≤ 140737488355328) := by show _ ≤ _; have := HLen.out; simp; omega
      clear hb2 hr2 q0 q1 q2 q3
      go_wp2_with (first
        | (at_builtin; refine wpList_appB rfl (.tmp 28) (.tmp 29) 24 rfl w2.heap.size 5 Tryd.underlying24 info_u8 _ [] rfl HO0.out w2.heap.size A2 WL p2 (wri x) rfl (HR2.out.alloc (Nat.le_refl _) _) HBD1.out (le_alloc _ _) ?_; intro v3 w3 ho3 hb3; have O3 := Lib.hid ho3; have Y3 := Lib.hid (((Below.refl w2.heap.size w2).alloc (Nat.le_refl _) _).trans hb3); clear ho3 hb3)
        | (at_builtin; refine wpList_appB rfl (.tmp 30) (.tmp 31) 24 rfl w2.heap.size 5 Tryd.underlying24 info_u8 _ _ rfl O3.out w.heap.size Am nm cm more rfl (HM.out.below (B2.out.trans (Y3.out.mono B2.out.size))) HBD2.out Y3.out.size ?_; intro v4 w4 ho4 hb4; have O4 := Lib.hid ho4; have Y4 := Lib.hid (Y3.out.trans hb4); clear ho4 hb4)
        | fail)
      have ho4 := O4.out
      rw [List.nil_append] at ho4
      obtain ⟨A4, c4, rfl, hc4, _, hr4⟩ := ho4.rd
      have B4 := Lib.hid (B2.out.trans (Y4.out.mono B2.out.size))
      have HZ2 : Hid (w.heap.size + 1 ≤ w2.heap.size) := by show _ ≤ _; have := X2.out.size; simpa using this
      have X4 := Lib.hid (X2.out.trans (Y4.out.mono HZ2.out))
      have hcd := cdecode_any A4 _ c4 w4.heap.size _ w4 (Nat.le_refl _) hr4 (by have := HLen.out; have := HM.out.1; rw [List.length_append]; omega) hc4 (HLL.out.below B4.out HLL.out.lt)
      rw [HDEC.out] at hcd
      simp only at hcd
      rw [← HWL.out] at hcd
      have HCD := Lib.hid hcd
      clear hcd ho4 hr4 hc4
      refine HCD.out.mono ?_
      rintro e w5 ⟨v5, rfl, hv5, hb5⟩
      obtain ⟨k5, n5, A5, nd5, cd5, AL5, nl5, cl5, rfl⟩ := hv5.form
      have HZ4 : Hid (w.heap.size + 1 ≤ w4.heap.size) := by show _ ≤ _; have := X4.out.size; simpa using this
      have B5 := Lib.hid (B4.out.trans (hb5.mono B4.out.size))
      have X5 := X4.out.trans (hb5.mono HZ4.out)
      have hz5 : w.heap.size + 1 ≤ w5.heap.size := Nat.le_trans HZ4.out hb5.size
      obtain ⟨q0, q1, q2, q3⟩ := box_cells (X5.alloc hz5 (.cells #[.int .i64 k5, .int .u64 (n5 : Int), .slice A5 nd5 cd5, .slice AL5 nl5 cl5] 27))
      have B6 := Lib.hid (B5.out.alloc B5.out.size (.cells #[.int .i64 k5, .int .u64 (n5 : Int), .slice A5 nd5 cd5, .slice AL5 nl5 cl5] 27))
      have CS := Lib.hid (rsame_n (par x + 1) x _ _ (w5.alloc (.cells #[.int .i64 k5, .int .u64 (n5 : Int), .slice A5 nd5 cd5, .slice AL5 nl5 cl5] 27)) w5.heap.size (Nat.lt_succ_self _) (le_alloc _ _) ((HXR.out.below B6.out).more B5.out.size) (hv5.alloc (Nat.le_refl _) _))
      clear hb5 hv5 X5 hz5
      go_wp2_with fail
      refine CS.out.mono ?_
      rintro e w6 ⟨rfl, hb6⟩
      have B7 := Lib.hid (B6.out.trans (hb6.mono B6.out.size))
      clear hb6 q0 q1 q2 q3
      go_wp2_with fail
      refine (CH.out _ B7.out).mono ?_
      rintro e w7 ⟨rfl, hb7⟩
      have B8 := Lib.hid (B7.out.trans (hb7.mono B7.out.size))
      clear hb7
      go_wp2_with fail
      go_ret
      exact ⟨rfl, B8.out⟩
    · generalize (enc x).1 = E1 at *
      generalize (enc x).2 = E2 at *
      subst he1
      have hne : (E2 != 0) = true := by rw [bne_iff_ne]; omega
      clear he2 hf
      go_enter Tryd.func4, Tryd.ntmps4
      go_wp2_with fail
      refine (D1.out _ B0.out).mono ?_
      rintro e w1 ⟨rfl, hb1⟩
      have B1 := Lib.hid (B0.out.trans (hb1.mono B0.out.size))
      obtain ⟨q0, q1, q2, q3⟩ := box_cells (to_box hb1)
      clear hb1
      go_wp2_with fail
      refine (D2.out _ B1.out).mono ?_
      rintro e w2 ⟨A2, n2, p2, rfl, hr2, hc2, hb2⟩
      obtain rfl : 0 = n2 := hr2.1
      have B2 := Lib.hid (B1.out.trans (hb2.mono B1.out.size))
      clear hb2 hr2 q0 q1 q2 q3
      go_wp2_with fail
      refine (CH.out _ B2.out).mono ?_
      rintro e w3 ⟨rfl, hb3⟩
      have B3 := Lib.hid (B2.out.trans (hb3.mono B2.out.size))
      clear hb3
      go_wp2_with fail
      go_ret
      exact ⟨rfl, B3.out⟩
  · have c1 := fun W hb => C1.out W hb false ⟨fun h => (by cases h), fun h => absurd h hs⟩
    have D1 := Lib.hid c1
    clear c1 hs C1 C2
    go_enter Tryd.func4, Tryd.ntmps4
    go_wp2_with fail
    refine (D1.out _ B0.out).mono ?_
    rintro e w1 ⟨rfl, hb1⟩
    have B1 := Lib.hid (B0.out.trans (hb1.mono B0.out.size))
    clear hb1
    go_wp2_with fail
    refine (CH.out _ B1.out).mono ?_
    rintro e w3 ⟨rfl, hb3⟩
    have B3 := Lib.hid (B1.out.trans (hb3.mono B1.out.size))
    clear hb3
    go_wp2_with fail
    go_ret
    exact ⟨rfl, B3.out⟩
end Go.Proofs.YtcbolbdfdapidaaDoor
