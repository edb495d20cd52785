/- What Encode of layer 3 returns. -/
import Derived.Test.YtcbolbdfdapidaaDoorKCheck
import Derived.Test.YtcbolbdfdapidaaDoorKWrite
import Derived.Test.YtcbolbdfdapidaaDoorCborE
namespace Go.Proofs.YtcbolbdfdapidaaDoor
open Go.RowKit

/-- A call gives back a slice of bytes and a number. -/
def GivesB (l : List UInt8) (c : Int) (w : World) (e : Ending) (w' : World) : Prop := ∃ (A : Option Addr) (n cp : Nat), e = .returned (.tuple #[.slice A n cp, .int .i64 c]) ∧ Rd w' w'.heap.size A n l ∧ n ≤ cp ∧ Below w.heap.size w w'

set_option maxRecDepth 100000 in
set_option maxHeartbeats 2000000 in
theorem cencode_any (x : Itm) (v : Value) (w : World) (B : Nat) (hp : par x ≤ 1000000) (hlen : Fits x → (wri x).length ≤ 140737488355328) (hB : B ≤ w.heap.size) (h : RdI w B v x) (hL : LaidE w) :
    Calls Tryd.prog 10 #[v] w (GivesB (enc x).1 (enc x).2 w) := by
  obtain ⟨k, n, d, l⟩ := x
  have HX := Lib.hid h
  obtain ⟨A, nd, cd, AL, cl, rfl, h1, h2, h3, h4, h5, h7⟩ := h.open
  generalize hX : Itm.mk k n d l = x at *
  clear hX
  have C1 := Lib.hid (fun W (hb : Below w.heap.size w W) => check_any x _ W B hp (Nat.le_trans hB hb.size) (HX.out.below (hb.mono hB)))
  have C2 := Lib.hid (fun z W (hb : Below w.heap.size w W) => number_any z W (hL.below hb hL.lt))
  have C3 := Lib.hid (fun W (hb : Below w.heap.size w W) (hr : right x = true) (hl : (wri x).length ≤ 140737488355328) => cwrite_n (par x + 1) x _ (.slice none 0 0) [] W W.heap.size (Nat.lt_succ_self _) hr (by simpa using hl) (Nat.le_refl _) ((HX.out.below (hb.mono hB)).more (Nat.le_trans hB hb.size)) (Ob.nil_ _ _ _))
  have HLEN := Lib.hid hlen
  have B0 := Lib.hid ((Below.refl w.heap.size w).alloc (Nat.le_refl _) (.cells #[.int .i64 k, .int .u64 (n : Int), .slice A nd cd, .slice AL l.length cl] 27))
  generalize l.length = N at *
  clear h1 h4 h7 h hlen hL
  rcases hr : right x with _ | _
  · rw [show enc x = ([], 2) by unfold enc; rw [if_pos hr]]
    have hv : chkV x = .iface 71 (.agg #[.int .i64 2]) := by unfold chkV; rw [if_pos hr]
    rw [hv] at C1
    clear hr hv
    go_enter Tryd.func10, Tryd.ntmps10
    go_wp2_with fail
    refine (C1.out _ B0.out).mono ?_
    rintro e w1 ⟨rfl, hb1⟩
    have HB1 := Lib.hid (B0.out.trans (hb1.mono B0.out.size))
    clear hb1
    go_wp2_with fail
    refine (C2.out _ _ HB1.out).mono ?_
    rintro e w2 ⟨rfl, hb2⟩
    have HB2 := Lib.hid (HB1.out.trans (hb2.mono HB1.out.size))
    clear hb2
    go_wp2_with fail
    go_ret2
    exact ⟨none, 0, 0, rfl, Rd.nil_, Nat.le_refl _, HB2.out⟩
  · by_cases hd : 8 < dep x ∨ 4096 < par x
    · rw [show enc x = ([], 32) by unfold enc; rw [if_neg (by rw [hr]; decide), if_pos hd]]
      have hv : chkV x = .iface 71 (.agg #[.int .i64 32]) := by unfold chkV; rw [if_neg (by rw [hr]; decide), if_pos hd]
      rw [hv] at C1
      clear hr hv hd
      go_enter Tryd.func10, Tryd.ntmps10
      go_wp2_with fail
      refine (C1.out _ B0.out).mono ?_
      rintro e w1 ⟨rfl, hb1⟩
      have HB1 := Lib.hid (B0.out.trans (hb1.mono B0.out.size))
      clear hb1
      go_wp2_with fail
      refine (C2.out _ _ HB1.out).mono ?_
      rintro e w2 ⟨rfl, hb2⟩
      have HB2 := Lib.hid (HB1.out.trans (hb2.mono HB1.out.size))
      clear hb2
      go_wp2_with fail
      go_ret2
      exact ⟨none, 0, 0, rfl, Rd.nil_, Nat.le_refl _, HB2.out⟩
    · have hf : Fits x := ⟨hr, by omega, by omega⟩
      have hv : chkV x = .nilIface := by unfold chkV; rw [if_neg (by rw [hr]; decide), if_neg hd]
      rw [hv] at C1
      rw [enc_ok hf]
      have HL := Lib.hid (HLEN.out hf)
      have HR := Lib.hid hr
      clear hr hv hd hf
      generalize hWX : wri x = WX at *
      go_enter Tryd.func10, Tryd.ntmps10
      go_wp2_with fail
      refine (C1.out _ B0.out).mono ?_
      rintro e w1 ⟨rfl, hb1⟩
      have HB1 := Lib.hid (B0.out.trans (hb1.mono B0.out.size))
      obtain ⟨q0, q1, q2, q3⟩ := box_cells (to_box hb1)
      clear hb1
      go_wp2_with fail
      refine (C3.out _ HB1.out HR.out HL.out).mono ?_
      rintro e w2 ⟨v, rfl, ho, hr⟩
      rw [List.nil_append] at ho
      obtain ⟨A2, c2, rfl, hc2, hm2, hr2⟩ := ho.rd
      have HR2 := Lib.hid hr2
      have hl2 := ho.rd_.1
      have HB2 := Lib.hid (HB1.out.trans ((hr.below (Ob.nil_ _ w1.heap.size 5) (Nat.le_refl _)).mono HB1.out.size))
      clear ho hr2 hr q0 q1 q2 q3
      go_wp2_with fail
      go_ret2
      exact ⟨A2, _, c2, rfl, HR2.out, hc2, HB2.out⟩
end Go.Proofs.YtcbolbdfdapidaaDoor
