/- The walk of the statement CborAgain. -/
import Derived.Test.YtcbolbdfdapidaaDoorCborX3
namespace Go.Proofs.YtcbolbdfdapidaaDoor
open Go.RowKit

mutual
theorem hgt_right : ∀ x : Itm, right x = true → hgt x ≤ dep x + 1
  | .mk k n d l, h => by
    rw [right, Bool.and_eq_true] at h
    have hl := hgts_right l h.2
    rw [hgt, dep]
    rcases own_kind h.1 with ⟨rfl, _, rfl⟩ | ⟨rfl, _, rfl⟩ | ⟨rfl, _, rfl, _⟩ | ⟨rfl, _, _⟩ | ⟨rfl, _, _⟩
    · rw [hgts]; omega
    · rw [hgts]; omega
    · rw [hgts]; omega
    · rw [if_pos (.inl rfl)]; omega
    · rw [if_pos (.inr rfl)]; omega
theorem hgts_right : ∀ l : List Itm, rights l = true → hgts l ≤ deps l + 1
  | [], _ => by rw [hgts]; omega
  | x :: r, h => by
    rw [rights, Bool.and_eq_true] at h
    have := hgt_right x h.1
    have := hgts_right r h.2
    rw [hgts, deps]
    omega
end

set_option maxRecDepth 100000 in
set_option maxHeartbeats 4000000 in
theorem cborAgain_walk (A : Option Addr) (n c : Nat) (l : List UInt8) (w : World) (hb : Rd w w.heap.size A n l ∧ n ≤ c ∧ c ≤ 140737488351232) (hL : LaidE w) :
    Calls Tryd.prog 5 #[.slice A n c] w fun e w' => e = .returned (.bool true) ∧ Below w.heap.size w w' := by
  obtain ⟨hr, hnc, hcc⟩ := hb
  have hlen := hr.1
  have hcd := cdecode_any A n c w.heap.size l w (Nat.le_refl _) hr (by omega) hnc hL
  have CH := Lib.hid (fun W (hb : Below w.heap.size w W) => heads03_any W (hL.below hb hL.lt))
  have HLL := Lib.hid hL
  clear hL
  rcases decode_cases l with ⟨e0, he0, hd⟩ | ⟨x, r, hl, hf, hs, hd⟩
  · rw [hd] at hcd
    have HCD := Lib.hid hcd
    have hne : (e0 != 0) = true := by rw [bne_iff_ne]; omega
    clear hcd hd he0 hr hlen
    go_enter Tryd.func5, Tryd.ntmps5
    go_wp2_with fail
    refine HCD.out.mono ?_
    rintro e w1 ⟨v1, rfl, hv1, hb1⟩
    have hv1' : RdI w1 w1.heap.size v1 (.mk 0 0 [] []) := hv1
    obtain ⟨A1, nd1, cd1, AL1, cl1, rfl, -, -, -, -, -, -⟩ := hv1'.open
    have B1 := Lib.hid (hb1.alloc hb1.size (.cells #[.int .i64 0, .int .u64 ((0 : Nat) : Int), .slice A1 nd1 cd1, .slice AL1 ([] : List Itm).length cl1] 27))
    have CS := Lib.hid (rsame_n 2 (.mk 0 0 [] []) _ (.agg #[.int .i64 0, .int .u64 0, .slice none 0 0, .slice none 0 0]) (w1.alloc (.cells #[.int .i64 0, .int .u64 ((0 : Nat) : Int), .slice A1 nd1 cd1, .slice AL1 ([] : List Itm).length cl1] 27)) w1.heap.size (by decide) (le_alloc _ _) (hv1'.alloc (Nat.le_refl _) _) (RdI.mk_uint (n := 0) (by decide)))
    clear hb1 hv1 hv1'
    go_wp2_with fail
    refine CS.out.mono ?_
    rintro e w2 ⟨rfl, hb2⟩
    have B2 := Lib.hid (B1.out.trans (hb2.mono B1.out.size))
    clear hb2
    go_wp2_with fail
    refine (CH.out _ B2.out).mono ?_
    rintro e w3 ⟨rfl, hb3⟩
    have B3 := Lib.hid (B2.out.trans (hb3.mono B2.out.size))
    clear hb3
    go_wp2_with fail
    go_ret
    exact ⟨rfl, B3.out⟩
  · rw [hd] at hcd
    have hp := wr_pos x
    have hll : (wri x).length ≤ n := by rw [← hlen, hl, List.length_append]; omega
    have htk : l.take (wri x).length = wri x := by rw [hl, List.take_left' rfl]
    have HE := Lib.hid (fun v W B (hB : B ≤ W.heap.size) (hv : RdI W B v x) (hLW : LaidE W) => cencode_any x v W B (by have := hf.2.2; omega) (fun _ => by omega) hB hv hLW)
    have he := enc_ok hf
    rw [he] at HE
    obtain ⟨m, hm⟩ : ∃ m, m = (wri x).length := ⟨_, rfl⟩
    simp only at hcd
    rw [← hm] at hcd hp hll htk
    have HCD := Lib.hid hcd
    obtain ⟨A', c', hsl, hcc', _, hrr⟩ := cut_h (P := Tryd.prog) 24 5 Tryd.underlying24 size_u8 c hr (m : Int) m rfl hll hnc
    rw [htk] at hrr
    have HRR := Lib.hid hrr
    have h1 : decide ((m : Int) < 1) = false := decide_eq_false (by omega)
    have h2 : decide (n < m) = false := decide_eq_false (by omega)
    have HM := Lib.hid hm
    clear hcd hd hr hlen hl htk he hrr hs hf hm
    go_enter Tryd.func5, Tryd.ntmps5
    go_wp2_with fail
    refine HCD.out.mono ?_
    rintro e w1 ⟨v1, rfl, hv1, hb1⟩
    obtain ⟨k5, n5, A5, nd5, cd5, AL5, nl5, cl5, rfl⟩ := hv1.form
    have B1 := Lib.hid (hb1.alloc hb1.size (.cells #[.int .i64 k5, .int .u64 (n5 : Int), .slice A5 nd5 cd5, .slice AL5 nl5 cl5] 27))
    have CE := Lib.hid (HE.out _ (w1.alloc (.cells #[.int .i64 k5, .int .u64 (n5 : Int), .slice A5 nd5 cd5, .slice AL5 nl5 cl5] 27)) w1.heap.size (le_alloc _ _) (hv1.alloc (Nat.le_refl _) _) (HLL.out.below B1.out HLL.out.lt))
    clear hb1 hv1
    go_wp2_with fail
    refine CE.out.mono ?_
    rintro e w2 ⟨A2, n2, p2, rfl, hr2, hc2, hb2⟩
    have B2 := Lib.hid (B1.out.trans (hb2.mono B1.out.size))
    have CS := Lib.hid (same_true A2 A' n2 p2 m c' w2.heap.size w.heap.size (wri x) w2 hr2 (HRR.out.below B2.out))
    clear hb2 hr2
    go_wp2_with fail
    refine CS.out.mono ?_
    rintro e w3 ⟨rfl, rfl⟩
    go_wp2_with fail
    refine (CH.out _ B2.out).mono ?_
    rintro e w4 ⟨rfl, hb4⟩
    have B4 := Lib.hid (B2.out.trans (hb4.mono B2.out.size))
    clear hb4
    go_wp2_with fail
    go_ret
    exact ⟨rfl, B4.out⟩
end Go.Proofs.YtcbolbdfdapidaaDoor
