/- A log that no call made (WalNobody). -/
import Derived.Test.YtahgaogmcffglaaDoorJWlG
import Derived.Test.YtahgaogmcffglaaDoorJWnB
namespace Go.Proofs.YtahgaogmcffglaaDoor
open Go.RowKit

/-- No call made it. -/
def WNob (w : World) (p : Option Addr) : Prop := p = none ∨ ∃ g, p = some ⟨g, 0, none⟩ ∧ w.cell? ⟨g, 0, none⟩ = some (.pointer none)
theorem WNob.below {w w' : World} {p : Option Addr} (h : WNob w p) (hb : Below w.heap.size w w') : WNob w' p := by
  rcases h with h | ⟨g, h, hc⟩
  · exact .inl h
  · exact .inr ⟨g, h, (hb.cell (World.block_lt_of_cell? w ⟨g, 0, none⟩ hc)).trans hc⟩
theorem nruns15_any (w : World) {p : Option Addr} (h : WNob w p) : Calls Tryd.prog 38 #[.pointer p] w fun e w' => e = .returned (.int .i64 1) ∧ w = w' := by
  rcases h with rfl | ⟨g, rfl, hc⟩
  · exact wruns_nil w
  · exact wruns_zero w hc
set_option maxRecDepth 100000 in
set_option maxHeartbeats 4000000 in
theorem nAppend_any (t : Int) (A : Option Addr) (n c : Nat) (w : World) {p : Option Addr} (h : WNob w p) : Calls Tryd.prog 17 #[.pointer p, .agg #[.int .i64 t, .slice A n c]] w fun e w' => e = .returned (.int .i64 1) ∧ Below w.heap.size w w' := by
  obtain ⟨w1, hw1⟩ : ∃ w1, w1 = w.alloc (.cells #[.int .i64 t, .slice A n c] 35) := ⟨_, rfl⟩
  have B1 : Hid (Below w.heap.size w w1) := by show Below _ _ _; rw [hw1]; exact (Below.refl _ _).alloc (Nat.le_refl _) _
  have C1 := Lib.hid (nruns15_any w1 (h.below B1.out))
  have HW1 := Lib.hid hw1
  clear h hw1
  go_enter Tryd.func17, Tryd.ntmps17
  go_upto_region 1 with fail
  rw [← HW1.out]
  go_wp2_with fail
  refine C1.out.mono ?_
  rintro e w2 ⟨rfl, rfl⟩
  go_wp2_with fail
  go_ret
  exact ⟨rfl, B1.out⟩
set_option maxRecDepth 100000 in
set_option maxHeartbeats 4000000 in
theorem nReset_any (v : Value) (w : World) {p : Option Addr} (h : WNob w p) : Calls Tryd.prog 19 #[.pointer p, v] w fun e w' => e = .returned (.int .i64 1) ∧ w = w' := by
  have C1 := Lib.hid (nruns15_any w h)
  clear h
  go_enter Tryd.func19, Tryd.ntmps19
  go_wp2_with fail
  refine C1.out.mono ?_
  rintro e w2 ⟨rfl, rfl⟩
  go_wp2_with fail
  go_ret
  exact ⟨rfl, rfl⟩
set_option maxRecDepth 100000 in
set_option maxHeartbeats 4000000 in
theorem nRoom_any (w : World) {p : Option Addr} (h : WNob w p) : Calls Tryd.prog 16 #[.pointer p] w fun e w' => e = .returned (.int .i64 0) ∧ w = w' := by
  have C1 := Lib.hid (nruns15_any w h)
  clear h
  go_enter Tryd.func16, Tryd.ntmps16
  go_wp2_with fail
  refine C1.out.mono ?_
  rintro e w2 ⟨rfl, rfl⟩
  go_wp2_with fail
  go_ret
  exact ⟨rfl, rfl⟩
set_option maxRecDepth 100000 in
set_option maxHeartbeats 4000000 in
theorem nRecords_any (w : World) {p : Option Addr} (h : WNob w p) : Calls Tryd.prog 22 #[.pointer p] w fun e w' => e = .returned (.slice none 0 0) ∧ w = w' := by
  have C1 := Lib.hid (nruns15_any w h)
  clear h
  go_enter Tryd.func22, Tryd.ntmps22
  go_wp2_with fail
  refine C1.out.mono ?_
  rintro e w2 ⟨rfl, rfl⟩
  go_wp2_with fail
  go_ret
  exact ⟨rfl, rfl⟩
set_option maxRecDepth 100000 in
set_option maxHeartbeats 16000000 in
theorem walNobody_walk (t : Int) (A : Option Addr) (n c : Nat) (d : List UInt8) (a m : Int) (w : World) (X : Snt14) (_h0 : n ≤ c ∧ n ≤ maxLen ∧ Rd w w.heap.size A n d) (_h1 : (Lit.int .i64 a).wf = true) (h2 : (Lit.int .i64 m).wf = true) (hA : Lds14 X w) :
    Calls Tryd.prog 6 #[.agg #[.int .i64 t, .slice A n c], .int .i64 a, .int .i64 m] w fun e w' => e = .returned (.bool true) ∧ Below w.heap.size w w' := by
  have LA : Hid (∀ W, Below w.heap.size w W → Lds14 X W) := fun W hW => hA.below hW (Nat.le_refl _)
  have HH := Lib.hid (fun W (hW : Below w.heap.size w W) => heads15_any X W (fun W' hW' => LA.out W' (hW.trans (hW'.mono hW.size))))
  have CO := Lib.hid (fun W => wOpen_none W a m h2)
  obtain ⟨w1, hw1⟩ : ∃ w1, w1 = w.alloc (.cells #[.int .i64 t, .slice A n c] 35) := ⟨_, rfl⟩
  have B1 : Hid (Below w.heap.size w w1) := by show Below _ _ _; rw [hw1]; exact (Below.refl _ _).alloc (Nat.le_refl _) _
  obtain ⟨w2, hw2⟩ : ∃ w2, w2 = (w1.alloc (.cells #[.pointer none, .int .i64 0, .int .i64 0, .int .u64 0, .int .i64 0, .slice none 0 0, .bool false] 63)).alloc (.cells #[.pointer none, .pointer (some ⟨w1.heap.size, 0, none⟩)] 28) := ⟨_, rfl⟩
  have B2 : Hid (Below w1.heap.size w1 w2) := by show Below _ _ _; rw [hw2]; exact ((Below.refl _ _).alloc (Nat.le_refl _) _).alloc (by simp) _
  have hr : w1.heap[w.heap.size]? = some (.cells #[.int .i64 t, .slice A n c] 35 (0, 0)) := by rw [hw1]; exact heap_alloc_new w _
  have hz : w2.heap[w1.heap.size]? = some (.cells #[.pointer none, .int .i64 0, .int .i64 0, .int .u64 0, .int .i64 0, .slice none 0 0, .bool false] 63 (0, 0)) := by rw [hw2]; exact heap_alloc2_old w1 _ _
  have hp : w2.heap[w1.heap.size + 1]? = some (.cells #[.pointer none, .pointer (some ⟨w1.heap.size, 0, none⟩)] 28 (0, 0)) := by rw [hw2]; exact heap_alloc2_new w1 _ _
  have KX : Hid (∀ W, Below w2.heap.size w2 W → (W.cell? ⟨w.heap.size, 0, none⟩ = some (.int .i64 t) ∧ W.cell? ⟨w.heap.size, 1, none⟩ = some (.slice A n c)) ∧ W.cell? ⟨w1.heap.size + 1, 0, none⟩ = some (.pointer none) ∧ W.cell? ⟨w1.heap.size + 1, 1, none⟩ = some (.pointer (some ⟨w1.heap.size, 0, none⟩))) := fun W hW => by
    have hl := (Array.getElem?_eq_some_iff.1 hr).1
    exact ⟨(row2 ((hW.block _ (Nat.lt_of_lt_of_le hl B2.out.size)).trans ((B2.out.block _ hl).trans hr))).1, (row2 ((hW.block _ (Array.getElem?_eq_some_iff.1 hp).1).trans hp)).1⟩
  have HN1 : Hid (∀ W, Below w2.heap.size w2 W → WNob W (some ⟨w1.heap.size, 0, none⟩)) := fun W hW => .inr ⟨_, rfl, by rw [cell_of_row W w1.heap.size _ _ _ _ ((hW.block _ (Array.getElem?_eq_some_iff.1 hz).1).trans hz)]; rfl⟩
  have HN0 : Hid (∀ W : World, WNob W none) := fun W => .inl rfl
  have BW2 : Hid (Below w.heap.size w w2) := B1.out.trans (B2.out.mono B1.out.size)
  have HW1 := Lib.hid hw1
  have HW2 := Lib.hid hw2
  clear _h0 _h1 h2 hA hw1 hw2 hr hz hp
  go_enter Tryd.func6, Tryd.ntmps6
  go_upto_region 1 with fail
  rw [← HW1.out]
  go_wp2_with fail
  refine (CO.out _).mono ?_
  rintro e wx ⟨rfl, rfl⟩
  go_upto_region 6 with fail
  rw [← HW2.out]
  go_upto_region 7 with fail
  go_loopw [12] (fun v12 wr => ∃ i : Nat, i ≤ 2 ∧ v12 = .int .i64 (i : Int) ∧ Hid (Below w2.heap.size w2 wr)) (fun v12 _ => 2 - (intOf v12).toNat)
  case atStart => exact ⟨0, by decide, rfl, Below.refl _ _⟩
  case round =>
    obtain ⟨i, hi, rfl, HW⟩ := hrel
    have hcase : i = 0 ∨ i = 1 ∨ i = 2 := by omega
    rcases hcase with rfl | rfl | rfl
    case inr.inr =>
      have BW : Hid (Below w.heap.size w wr) := BW2.out.trans (HW.out.mono BW2.out.size)
      go_wp2_with (first
        | (go_at_call 8; refine (HH.out wr BW.out).mono ?_; rintro e w9 ⟨rfl, hb9⟩; have B9 := Lib.hid (BW.out.trans (hb9.mono BW.out.size)); clear hb9)
        | fail)
      go_ret
      exact ⟨rfl, B9.out⟩
    case inl =>
      go_upto_region 9 with fail
      go_region_held3 (fun W => (W.cell? ⟨w.heap.size, 0, none⟩ = some (.int .i64 t) ∧ W.cell? ⟨w.heap.size, 1, none⟩ = some (.slice A n c)) ∧ W.cell? ⟨w1.heap.size + 1, 0, none⟩ = some (.pointer none) ∧ W.cell? ⟨w1.heap.size + 1, 1, none⟩ = some (.pointer (some ⟨w1.heap.size, 0, none⟩)))
        (first | (with_reducible exact KX.out _ B3.out) | (with_reducible exact KX.out _ (HW.out.trans (Below.refl _ _).drew)) | fail)
        (first
          | (go_at_call 17; refine (nAppend_any t A n c _ (HN0.out _)).mono ?_; rintro e w3 ⟨rfl, hb⟩; have B3 := Lib.hid (HW.out.trans (((Below.refl wr.heap.size wr).drew.trans hb).mono HW.out.size)); clear hb)
          | (go_at_call 19; refine (nReset_any _ _ (HN0.out _)).mono ?_; rintro e wx ⟨rfl, rfl⟩)
          | (go_at_call 16; refine (nRoom_any _ (HN0.out _)).mono ?_; rintro e wx ⟨rfl, rfl⟩)
          | (go_at_call 22; refine (nRecords_any _ (HN0.out _)).mono ?_; rintro e wx ⟨rfl, rfl⟩)
          | fail)
      go_wp2_with fail
      go_roundw
      case rel => exact ⟨1, by decide, rfl, B3.out⟩
      case measure => simp [intOf]
    case inr.inl =>
      go_upto_region 9 with fail
      go_region_held3 (fun W => (W.cell? ⟨w.heap.size, 0, none⟩ = some (.int .i64 t) ∧ W.cell? ⟨w.heap.size, 1, none⟩ = some (.slice A n c)) ∧ W.cell? ⟨w1.heap.size + 1, 0, none⟩ = some (.pointer none) ∧ W.cell? ⟨w1.heap.size + 1, 1, none⟩ = some (.pointer (some ⟨w1.heap.size, 0, none⟩)))
        (first | (with_reducible exact KX.out _ B3.out) | (with_reducible exact KX.out _ (HW.out.trans (Below.refl _ _).drew)) | fail)
        (first
          | (go_at_call 17; refine (nAppend_any t A n c _ (HN1.out _ (HW.out.trans (Below.refl _ _).drew))).mono ?_; rintro e w3 ⟨rfl, hb⟩; have B3 := Lib.hid (HW.out.trans (((Below.refl wr.heap.size wr).drew.trans hb).mono HW.out.size)); clear hb)
          | (go_at_call 19; refine (nReset_any _ _ (HN1.out _ B3.out)).mono ?_; rintro e wx ⟨rfl, rfl⟩)
          | (go_at_call 16; refine (nRoom_any _ (HN1.out _ B3.out)).mono ?_; rintro e wx ⟨rfl, rfl⟩)
          | (go_at_call 22; refine (nRecords_any _ (HN1.out _ B3.out)).mono ?_; rintro e wx ⟨rfl, rfl⟩)
          | fail)
      go_wp2_with fail
      go_roundw
      case rel => exact ⟨2, by decide, rfl, B3.out⟩
      case measure => simp [intOf]
end Go.Proofs.YtahgaogmcffglaaDoor
