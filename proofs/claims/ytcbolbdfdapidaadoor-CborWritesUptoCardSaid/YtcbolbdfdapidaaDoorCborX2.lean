/- The walk of the statement CborPrefix. -/
import Derived.Test.YtcbolbdfdapidaaDoorCborX1
namespace Go.Proofs.YtcbolbdfdapidaaDoor
open Go.RowKit

/-- What a walk knows of an item that came in: the calls that it is handed to. -/
structure ItemIn (w : World) (v : Value) (x : Itm) : Prop where
  small : ∀ W, Below w.heap.size w W → ∀ ok : Bool, (ok = true ↔ Small x) → Calls Tryd.prog 8 #[v] W fun e w' => e = .returned (.bool ok) ∧ Below W.heap.size W w'
  enc : ∀ W, Below w.heap.size w W → Small x → Calls Tryd.prog 10 #[v] W (GivesB (enc x).1 (enc x).2 W)
  siz : Siz x
  len : (wri x).length ≤ 11534336
theorem hgt_small {x : Itm} (h : Small x) : hgt x ≤ 1001 ∧ par x ≤ 1000000 := by unfold Small at h; omega
theorem ItemIn.mk_ {w : World} {v : Value} {x : Itm} (h : RdI w w.heap.size v x) (hm : mass x ≤ 1048576) (hL : LaidE w) : ItemIn w v x where
  small W hb ok hok := small_any x v W w.heap.size hb.size (h.below hb) ok hok
  enc W hb hs := cencode_any x v W w.heap.size (hgt_small hs).2 (fun _ => by have := wri_mass x; omega) hb.size (h.below hb) (hL.below hb hL.lt)
  siz := h.siz
  len := by have := wri_mass x; omega

set_option maxRecDepth 100000 in
set_option maxHeartbeats 4000000 in
theorem cborPrefix_walk (v : Value) (x : Itm) (cut : Int) (w : World) (hx : RdI w w.heap.size v x ∧ mass x ≤ 1048576) (_hc : (Lit.int .i64 cut).wf = true) (hL : LaidE w) :
    Calls Tryd.prog 6 #[v, .int .i64 cut] w fun e w' => e = .returned (.bool true) ∧ Below w.heap.size w w' := by
  have HI := ItemIn.mk_ hx.1 hx.2 hL
  obtain ⟨k, n, d, l⟩ := x
  obtain ⟨A, nd, cd, AL, cl, rfl, -, -, -, -, -, -⟩ := hx.1.open
  generalize hX : Itm.mk k n d l = x at *
  clear hX hx
  have B0 := Lib.hid ((Below.refl w.heap.size w).alloc (Nat.le_refl _) (.cells #[.int .i64 k, .int .u64 (n : Int), .slice A nd cd, .slice AL l.length cl] 27))
  generalize l.length = N at *
  have C1 := Lib.hid HI.small
  have C2 := Lib.hid HI.enc
  have HS := Lib.hid HI.siz
  have HLen := Lib.hid HI.len
  have CH := Lib.hid (fun W (hb : Below w.heap.size w W) => heads03_any W (hL.below hb hL.lt))
  have HLL := Lib.hid hL
  clear HI hL _hc
  by_cases hs : Small x
  · have c1 := fun W hb => C1.out W hb true ⟨fun _ => hs, fun _ => rfl⟩
    have c2 := fun W hb => C2.out W hb hs
    have D1 := Lib.hid c1
    have D2 := Lib.hid c2
    clear c1 c2 hs C1 C2
    rcases enc_cases x with ⟨hf, he⟩ | ⟨hf, he1, he2⟩
    · rw [he] at D2
      have HF := Lib.hid hf
      clear hf he
      by_cases h0 : cut < 0
      · go_enter Tryd.func6, Tryd.ntmps6
        go_wp2_with fail
        refine (D1.out _ B0.out).mono ?_
        rintro e w1 ⟨rfl, hb1⟩
        have B1 := Lib.hid (B0.out.trans (hb1.mono B0.out.size))
        obtain ⟨q0, q1, q2, q3⟩ := box_cells (to_box hb1)
        clear hb1
        go_wp2_with fail
        refine (D2.out _ B1.out).mono ?_
        rintro e w2 ⟨A2, n2, p2, rfl, hr2, hc2, hb2⟩
        have B2 := Lib.hid (B1.out.trans (hb2.mono B1.out.size))
        clear hb2 hr2 q0 q1 q2 q3
        go_wp2_with fail
        refine (CH.out _ B2.out).mono ?_
        rintro e w3 ⟨rfl, hb3⟩
        have B3 := Lib.hid (B2.out.trans (hb3.mono B2.out.size))
        clear hb3
        go_wp2_with fail
        go_ret
        exact ⟨rfl, B3.out⟩
      obtain ⟨cu, rfl⟩ := Int.eq_ofNat_of_zero_le (show 0 ≤ cut by omega)
      clear h0
      by_cases hcl : cu < (wri x).length
      · have hdec := decode_short HF.out HS.out cu hcl
        have HDEC := Lib.hid hdec
        clear hdec
        obtain ⟨WL, hWL⟩ : ∃ q, q = (wri x).length := ⟨_, rfl⟩
        rw [← hWL] at hcl
        have HWL := Lib.hid hWL
        clear hWL
        go_enter Tryd.func6, Tryd.ntmps6
        go_wp2_with fail
        refine (D1.out _ B0.out).mono ?_
        rintro e w1 ⟨rfl, hb1⟩
        have B1 := Lib.hid (B0.out.trans (hb1.mono B0.out.size))
        obtain ⟨q0, q1, q2, q3⟩ := box_cells (to_box hb1)
        clear hb1
        go_wp2_with fail
        refine (D2.out _ B1.out).mono ?_
        rintro e w2 ⟨A2, n2, p2, rfl, hr2, hc2, hb2⟩
        obtain rfl : WL = n2 := HWL.out.trans hr2.1
        have B2 := Lib.hid (B1.out.trans (hb2.mono B1.out.size))
        obtain ⟨A', c', hsl, hcc, _, hrr⟩ := cut_h (P := Tryd.prog) 24 5 Tryd.underlying24 size_u8 p2 hr2 (cu : Int) cu rfl (by omega) hc2
        have HRR := Lib.hid hrr
        have hcl' : decide (WL ≤ cu) = false := decide_eq_false (by omega)
        clear hb2 hr2 q0 q1 q2 q3 hrr
        go_wp2_with fail
        have hlen := HLen.out
        have hwl := HWL.out
        refine (cdecode_any A' cu c' w2.heap.size _ w2 (Nat.le_refl _) HRR.out (by omega) hcc (HLL.out.below B2.out HLL.out.lt)).mono ?_
        rw [HDEC.out]
        rintro e w3 ⟨v3, rfl, hv3, hb3⟩
        obtain ⟨A3, nd3, cd3, AL3, cl3, rfl, -, -, -, -, -, -⟩ := hv3.open
        have B3 := Lib.hid (B2.out.trans (hb3.mono B2.out.size))
        clear hb3 hv3 hlen hwl
        go_wp2_with fail
        refine (CH.out _ (B3.out.alloc B3.out.size _)).mono ?_
        rintro e w4 ⟨rfl, hb4⟩
        have B4 := Lib.hid ((B3.out.alloc B3.out.size _).trans (hb4.mono (Nat.le_trans B3.out.size (le_alloc _ _))))
        clear hb4
        go_wp2_with fail
        go_ret
        exact ⟨rfl, B4.out⟩
      · obtain ⟨WL, hWL⟩ : ∃ q, q = (wri x).length := ⟨_, rfl⟩
        rw [← hWL] at hcl
        have HWL := Lib.hid hWL
        clear hWL
        have hcl' : decide (WL ≤ cu) = true := decide_eq_true (by omega)
        go_enter Tryd.func6, Tryd.ntmps6
        go_wp2_with fail
        refine (D1.out _ B0.out).mono ?_
        rintro e w1 ⟨rfl, hb1⟩
        have B1 := Lib.hid (B0.out.trans (hb1.mono B0.out.size))
        obtain ⟨q0, q1, q2, q3⟩ := box_cells (to_box hb1)
        clear hb1
        go_wp2_with fail
        refine (D2.out _ B1.out).mono ?_
        rintro e w2 ⟨A2, n2, p2, rfl, hr2, hc2, hb2⟩
        obtain rfl : WL = n2 := HWL.out.trans hr2.1
        have B2 := Lib.hid (B1.out.trans (hb2.mono B1.out.size))
        clear hb2 hr2 q0 q1 q2 q3
        go_wp2_with fail
        refine (CH.out _ B2.out).mono ?_
        rintro e w3 ⟨rfl, hb3⟩
        have B3 := Lib.hid (B2.out.trans (hb3.mono B2.out.size))
        clear hb3
        go_wp2_with fail
        go_ret
        exact ⟨rfl, B3.out⟩
    · generalize (enc x).1 = E1 at *
      generalize (enc x).2 = E2 at *
      subst he1
      have hne : (E2 != 0) = true := by rw [bne_iff_ne]; omega
      clear he2 hf
      go_enter Tryd.func6, Tryd.ntmps6
      go_wp2_with fail
      refine (D1.out _ B0.out).mono ?_
      rintro e w1 ⟨rfl, hb1⟩
      have B1 := Lib.hid (B0.out.trans (hb1.mono B0.out.size))
      obtain ⟨q0, q1, q2, q3⟩ := box_cells (to_box hb1)
      clear hb1
      go_wp2_with fail
      refine (D2.out _ B1.out).mono ?_
      rintro e w2 ⟨A2, n2, p2, rfl, hr2, hc2, hb2⟩
      have B2 := Lib.hid (B1.out.trans (hb2.mono B1.out.size))
      clear hb2 hr2 q0 q1 q2 q3
      go_wp2_with fail
      refine (CH.out _ B2.out).mono ?_
      rintro e w3 ⟨rfl, hb3⟩
      have B3 := Lib.hid (B2.out.trans (hb3.mono B2.out.size))
      clear hb3
      go_wp2_with fail
      go_ret
      exact ⟨rfl, B3.out⟩
  · have c1 := fun W hb => C1.out W hb false ⟨fun h => (by cases h), fun h => absurd h hs⟩
    have D1 := Lib.hid c1
    clear c1 hs C1 C2
    go_enter Tryd.func6, Tryd.ntmps6
    go_wp2_with fail
    refine (D1.out _ B0.out).mono ?_
    rintro e w1 ⟨rfl, hb1⟩
    have B1 := Lib.hid (B0.out.trans (hb1.mono B0.out.size))
    clear hb1
    go_wp2_with fail
    refine (CH.out _ B1.out).mono ?_
    rintro e w3 ⟨rfl, hb3⟩
    have B3 := Lib.hid (B1.out.trans (hb3.mono B1.out.size))
    clear hb3
    go_wp2_with fail
    go_ret
    exact ⟨rfl, B3.out⟩
end Go.Proofs.YtcbolbdfdapidaaDoor
