/- Layer 15's law: what must come at any rate. -/
import Derived.Test.YtahgaogmcffglaaDoorJRecL
import Derived.Test.YtahgaogmcffglaaDoorJWnA
namespace Go.Proofs.YtahgaogmcffglaaDoor
open Go.RowKit

theorem RwC.belowB {w w' : World} {B n : Nat} {A : Option Addr} {l : List Rcd} (h : RwC w B A n l) (hb : Below B w w') : RwC w' B A n l := ⟨h.1, fun h0 => by
  obtain ⟨b, o, e, hbb, hx⟩ := h.2 h0
  exact ⟨b, o, e, hbb, hx.below hbb hb⟩⟩
theorem RwC.moreB {w : World} {B B' n : Nat} {A : Option Addr} {l : List Rcd} (h : RwC w B A n l) (hB : B ≤ B') : RwC w B' A n l := ⟨h.1, fun h0 => by
  obtain ⟨b, o, e, hbb, hx⟩ := h.2 h0
  exact ⟨b, o, e, Nat.lt_of_lt_of_le hbb hB, hx.more hB⟩⟩
/-- One record in a row. -/
theorem RwC.one {w : World} {b n c : Nat} {A : Option Addr} {r : Rcd} (hg : w.heap[b]? = some (.cells #[.int .i64 r.typ, .slice A n c] 35 (0, 0))) (hr : Rd w w.heap.size A n r.dat) (hc : n ≤ c) (hn : n ≤ 140737488355328) : RwC w w.heap.size (some ⟨b, 0, none⟩) 1 [r] := ⟨rfl, fun _ => ⟨b, 0, rfl, (Array.getElem?_eq_some_iff.1 hg).1, fun i q hq => by
  match i, hq with
  | 0, hq =>
    obtain rfl : r = q := by simpa using hq
    exact ⟨A, n, c, (row2 hg).1.1, (row2 hg).1.2, hc, hn, hr⟩
  | i + 1, hq => simp at hq⟩⟩
def rH : Rcd := ⟨3, [97, 98, 99]⟩
set_option maxRecDepth 100000 in
set_option maxHeartbeats 16000000 in
theorem heads15_any (X : Snt14) (w : World) (hA : ∀ W, Below w.heap.size w W → Lds14 X W) : Calls Tryd.prog 8 #[] w fun e w' => e = .returned (.bool true) ∧ Below w.heap.size w w' := by
  have HA := Lib.hid hA
  have CN := Lib.hid (cnew_any 8 w)
  clear hA
  go_enter Tryd.func8, Tryd.ntmps8
  go_wp2_with fail
  refine CN.out.mono ?_
  rintro e w1 h1
  rcases h1 with ⟨-, -, Fd, gd, rfl, hd1, hb1⟩ | ⟨h1, -, -⟩
  case inr => exact absurd ⟨by decide, by decide⟩ h1
  have hS : (List.replicate (8 : Int).toNat z64) = List.replicate 8 z64 := rfl
  rw [hS] at hd1
  have D1 := Lib.hid hd1
  have B1 := Lib.hid hb1
  have CO := wOpen_any X w1 (B := w.heap.size) 0 8 0 0 [] (fun W hW => HA.out W (hb1.trans hW)) hb1.size hd1 (by decide) (by decide) (inz_noughts 0 8 8 (by decide))
  have CO := Lib.hid (show Calls Tryd.prog 21 #[.pointer (some ⟨gd, 0, none⟩), .int .i64 0, .int .i64 8] w1 (OpnR 0 8 0 0 [] w1 w.heap.size gd) from CO)
  clear hS hd1 hb1
  go_wp2_with fail
  refine CO.out.mono ?_
  rintro e w2 ⟨hb2, gw, v2, q2, Fw, mid, rfl, hw2, hf2, hm2, hs2, hq2⟩
  have hq0 : q2 = [] := by simpa using hq2
  subst hq0
  obtain ⟨A2, c2, rfl, -, -⟩ := hs2.rw
  have W2 := Lib.hid hw2
  have B2 := Lib.hid hb2
  have D2 := Lib.hid (D1.out.below hb2)
  have HDI : Hid (∀ k, Fd k → ¬ Fw k) := fun k h1 h2 => by
    have := (D1.out.fit k h1).2
    have := (hf2 k h2).1
    omega
  clear hb2 hw2 hf2 hm2 hs2 hq2 CO
  obtain ⟨w3, hw3⟩ : ∃ w3, w3 = (w2.alloc (.cells #[.int .u8 97, .int .u8 98, .int .u8 99] 5 (3, 4))).alloc (.cells #[.int .i64 3, .slice (some ⟨w2.heap.size, 0, none⟩) 3 3] 35) := ⟨_, rfl⟩
  have B3 : Hid (Below w2.heap.size w2 w3) := by show Below _ _ _; rw [hw3]; exact ((Below.refl _ _).alloc (Nat.le_refl _) _).alloc (by simp) _
  have R3 : Hid (w3.heap[w2.heap.size + 1]? = some (.cells #[.int .i64 3, .slice (some ⟨w2.heap.size, 0, none⟩) 3 3] 35 (0, 0))) := by show _ = _; rw [hw3]; exact heap_alloc2_new w2 _ _
  have T3 : Hid (w3.heap[w2.heap.size]? = some (.cells #[.int .u8 97, .int .u8 98, .int .u8 99] 5 (3, 4))) := by show _ = _; rw [hw3]; exact heap_alloc2_old w2 _ _
  have HW3 := Lib.hid hw3
  have HS3 : Hid (w2.heap.size + 2 ≤ w3.heap.size) := by show _ ≤ _; rw [hw3]; simp
  have RD : Hid (∀ W : World, W.heap[w2.heap.size]? = some (.cells #[.int .u8 97, .int .u8 98, .int .u8 99] 5 (3, 4)) → Rd W (w2.heap.size + 1) (some ⟨w2.heap.size, 0, none⟩) 3 rH.dat) := fun W hW => ⟨rfl, fun _ => ⟨w2.heap.size, 0, rfl, Nat.lt_succ_self _, fun i hi => by
    rw [cell_of_row W w2.heap.size _ _ _ _ hW]
    match i, hi with
    | 0, _ => rfl
    | 1, _ => rfl
    | 2, _ => rfl
    | i + 3, hi => omega⟩⟩
  have D3 := Lib.hid (D2.out.below B3.out)
  have W3 := Lib.hid (W2.out.below B3.out)
  have HNF : Hid (∀ k, w2.heap.size ≤ k → ¬ (Fd k ∨ Fw k)) := fun k hk h => by
    rcases h with h | h
    · exact D2.out.at_wide hk h
    · have := (W2.out.fit k h).2; omega
  have BW3 : Hid (Below w.heap.size w w3) := B1.out.trans ((B2.out.trans (B3.out.mono B2.out.size)).mono B1.out.size)
  have CAp := wAppendO_any X w3 (B := w.heap.size) (gd := gd) (g := gw) (some ⟨w2.heap.size, 0, none⟩) 3 3 rH (fun W hW => HA.out W (BW3.out.trans hW)) BW3.out.size D3.out W3.out HDI.out (inz_noughts 0 8 8 (by decide)) (by decide) (by decide) (fun W hW => (RD.out W ((hW.block _ (by have := HS3.out; omega) (HNF.out _ (Nat.le_refl _))).trans T3.out)).more (by have := HS3.out; omega)) (Nat.le_refl _) (by decide)
  have hz : fitZ [rH] (((hlf 8 * 64 : Nat) : Int) - ((0 : Nat) : Int)) = 0 := by decide
  rw [hz] at CAp
  unfold recV at CAp
  have CAp := Lib.hid CAp
  obtain ⟨⟨x0, x1⟩, -, -⟩ := row2 R3.out
  have kc := run_const
  clear hw3 hz
  go_upto_region 6 with fail
  rw [← HW3.out]
  go_wp2_with fail
  refine CAp.out.mono ?_
  rintro e w4 h4
  rcases h4 with ⟨h4, -, -⟩ | ⟨-, Fd4, Fw4, hdis4, hfr4, hgr4, h4⟩
  · exact absurd rfl h4
  rcases h4 with ⟨Z4, l4, hl4, rfl, hd4, hw4, hI4, hO4⟩ | ⟨h4, -⟩
  case inr => exact absurd rfl h4
  have hZ4 : Z4.length = 8 := by rw [hO4.len]; rfl
  have D4 := Lib.hid hd4
  have W4 := Lib.hid hw4
  have HDI4 := Lib.hid hdis4
  have I4 := Lib.hid hI4
  have B4 : Hid (Below w.heap.size w w4) := BW3.out.trans (hfr4.below BW3.out.size (fun k hk => by
    rcases hk with hk | hk
    · exact (D3.out.fit k hk).1
    · exact (W3.out.fit k hk).1))
  have R4 : Hid (w4.heap[w2.heap.size + 1]? = some (.cells #[.int .i64 3, .slice (some ⟨w2.heap.size, 0, none⟩) 3 3] 35 (0, 0))) := (hfr4.block _ (by have := HS3.out; omega) (HNF.out _ (Nat.le_succ _))).trans R3.out
  have T4 : Hid (w4.heap[w2.heap.size]? = some (.cells #[.int .u8 97, .int .u8 98, .int .u8 99] 5 (3, 4))) := (hfr4.block _ (by have := HS3.out; omega) (HNF.out _ (Nat.le_refl _))).trans T3.out
  have CO := wOpen_any X w4 (B := w.heap.size) 0 8 _ _ [rH] (fun W hW => HA.out W (B4.out.trans hW)) B4.out.size hd4 (by decide) (by rw [hZ4]; decide) hI4
  have CO := Lib.hid (show Calls Tryd.prog 21 #[.pointer (some ⟨gd, 0, none⟩), .int .i64 0, .int .i64 8] w4 (OpnR 0 8 _ _ [rH] w4 w.heap.size gd) from CO)
  have HL4 := Lib.hid hZ4
  clear hdis4 hfr4 hgr4 hl4 hd4 hw4 hI4 hO4 hZ4 CAp
  go_wp2_with fail
  refine CO.out.mono ?_
  rintro e w5 ⟨hb5, gw5, v5, q5, Fw5, mid5, rfl, -, -, hm5, hs5, hq5⟩
  have hl5 : q5.length = 1 := by have := congrArg List.length hq5; simpa using this
  obtain ⟨A5, c5, rfl, -, hr5⟩ := hs5.rw
  rw [hl5, hq5] at hr5
  rw [hl5]
  have B5 := Lib.hid hb5
  have R5 := Lib.hid hr5
  have CN9 := Lib.hid (wOpen_nine w5 (D4.out.below hb5) HL4.out)
  obtain ⟨⟨x0, x1⟩, -, -⟩ := row2 ((B5.out.block _ (Array.getElem?_eq_some_iff.1 R4.out).1).trans R4.out)
  clear hb5 hs5 hq5 hr5 hm5 hl5 CO
  go_wp2_with fail
  refine CN9.out.mono ?_
  rintro e wx ⟨rfl, rfl⟩
  obtain ⟨w6, hw6⟩ : ∃ w6, w6 = w5.alloc (.cells #[.int .i64 3, .slice (some ⟨w2.heap.size, 0, none⟩) 3 3] 35) := ⟨_, rfl⟩
  have B6 : Hid (Below w5.heap.size w5 w6) := by show Below _ _ _; rw [hw6]; exact (Below.refl _ _).alloc (Nat.le_refl _) _
  have hr6 : w6.heap[w5.heap.size]? = some (.cells #[.int .i64 3, .slice (some ⟨w2.heap.size, 0, none⟩) 3 3] 35 (0, 0)) := by rw [hw6]; exact heap_alloc_new w5 _
  have B46 : Hid (Below w4.heap.size w4 w6) := B5.out.trans (B6.out.mono B5.out.size)
  have hrow6 : RwC w6 w6.heap.size (some ⟨w5.heap.size, 0, none⟩) 1 [rH] := RwC.one (r := rH) hr6 ((RD.out w6 ((B46.out.block _ (Array.getElem?_eq_some_iff.1 T4.out).1).trans T4.out)).more (by have := (Array.getElem?_eq_some_iff.1 T4.out).1; have := B46.out.size; omega)) (Nat.le_refl _) (by decide)
  have CS1 := Lib.hid (rsameR_any A5 (some ⟨w5.heap.size, 0, none⟩) 1 c5 1 1 w6.heap.size [rH] [rH] w6 ((R5.out.belowB B6.out).moreB B6.out.size) hrow6 (Nat.le_refl _) (by decide))
  have HW6 := Lib.hid hw6
  clear hw6 hr6 hrow6
  go_wp2_with (first
    | (go_at_call 24; rw [← HW6.out]; refine CS1.out.mono ?_; rintro e w7 ⟨r7, rfl, hr7, hb7⟩; obtain rfl : r7 = true := (by simpa using hr7); have B7 := Lib.hid (B46.out.trans (hb7.mono B46.out.size)); have B57 := Lib.hid (B6.out.trans (hb7.mono B6.out.size)); clear hr7 hb7)
    | fail)
  have hZ : [] = (⟨0, []⟩ : Rcd).dat := rfl
  have CA7 := wAppendO_any X w7 (B := w.heap.size) (gd := gd) (g := gw) none 0 0 ⟨0, []⟩ (fun W hW => HA.out W ((B4.out.trans (B7.out.mono B4.out.size)).trans hW)) (Nat.le_trans B4.out.size B7.out.size) (D4.out.below B7.out) (W4.out.below B7.out) HDI4.out I4.out (by decide) (by rw [HL4.out]; decide) (fun W hW => Rd.nil_) (Nat.le_refl _) (Nat.zero_le _)
  have hz7 : ∀ x, fitZ [(⟨0, []⟩ : Rcd)] x = 140 := fun x => fitZ_no (r := ⟨0, []⟩) x (List.mem_singleton.2 rfl) (by decide)
  rw [hz7] at CA7
  unfold recV at CA7
  have CA7 := Lib.hid CA7
  clear hz7 hZ
  go_wp2_with fail
  refine CA7.out.mono ?_
  rintro e w8 h8
  rcases h8 with ⟨-, rfl, hb8⟩ | ⟨h8, -⟩
  case inr => exact absurd h8 (by decide)
  have B8 : Hid (Below w4.heap.size w4 w8) := B7.out.trans (hb8.mono B7.out.size)
  have B58 : Hid (Below w5.heap.size w5 w8) := B57.out.trans (hb8.mono B57.out.size)
  have CM := wRoom_any w8 (W4.out.below B8.out) (fun _ => ⟨by decide, by decide, I4.out.fit⟩)
  have hrm : (0 : Int) < Ws.room ⟨0, 8, turnN 0 0, 0 + (rH.dat.length + 7), [] ++ [rH], false⟩ := by decide
  have CM := Lib.hid CM
  obtain ⟨rm, hrm2⟩ : ∃ rm, rm = Ws.room ⟨0, 8, turnN 0 0, 0 + (rH.dat.length + 7), [] ++ [rH], false⟩ := ⟨_, rfl⟩
  rw [← hrm2] at CM hrm
  have CC := Lib.hid (fun W (hW : Below w8.heap.size w8 W) => wRecords_any W ((W4.out.below B8.out).below hW))
  unfold RcsR at CC
  clear hb8 hrm2 CA7
  go_wp2_with (first
    | (go_at_call 16; refine CM.out.mono ?_; rintro e w9 ⟨rfl, hb9⟩; have B9 := Lib.hid hb9; clear hb9)
    | (go_at_call 22; refine (CC.out _ B9.out).mono ?_; rintro e w10 ⟨hb10, v10, q10, rfl, hs10, hq10⟩; have hq11 : q10.map (·.1) = [rH] := hq10; have hl10 : q10.length = 1 := (by have := congrArg List.length hq11; simpa using this); obtain ⟨A10, c10, rfl, -, hr10⟩ := hs10.rw; rw [hl10, hq11] at hr10; rw [hl10]; have R10 := Lib.hid hr10; have B10 := Lib.hid (B9.out.trans (hb10.mono B9.out.size)); clear hb10 hs10 hq10 hq11 hr10 hl10)
    | (go_at_call 24; refine (rsameR_any A10 A5 1 c10 1 c5 w10.heap.size [rH] [rH] w10 R10.out ((R5.out.belowB (B58.out.trans (B10.out.mono B58.out.size))).moreB (Nat.le_trans B58.out.size B10.out.size)) (Nat.le_refl _) (by decide)).mono ?_; rintro e w11 ⟨r11, rfl, hr11, hb11⟩; obtain rfl : r11 = true := (by simpa using hr11); have B11 := Lib.hid (B10.out.trans (hb11.mono B10.out.size)); clear hr11 hb11)
    | fail)
  go_ret
  exact ⟨rfl, B4.out.trans ((B8.out.trans (B11.out.mono B8.out.size)).mono B4.out.size)⟩
end Go.Proofs.YtahgaogmcffglaaDoor
