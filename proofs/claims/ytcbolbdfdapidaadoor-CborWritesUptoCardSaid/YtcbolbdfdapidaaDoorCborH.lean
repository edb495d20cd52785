/- What must come at any rate ('heads' of layer 3's statements): true. -/
import Derived.Test.YtcbolbdfdapidaaDoorCborK
namespace Go.Proofs.YtcbolbdfdapidaaDoor
open Go.RowKit

def hItem : Itm := .mk 4 0 [] [.mk 0 1 [] [], .mk 3 0 [97] []]
def hEndl : Itm := .mk 5 0 [] [.mk 0 1 [] []]
theorem h_enc : enc hItem = ([0x82, 1, 0x61, 0x61], 0) := by rfl
theorem h_dec1 : decode [0x18, 0x17] = (.zero, 0, 31) := by rfl
theorem h_dec2 : decode [0x9f, 1, 0xff, 9] = (hEndl, 3, 0) := by rfl
theorem h_dec3 : decode [0x82, 1] = (.zero, 0, 30) := by rfl
theorem h_enc1 : enc (.mk 1 0 [] []) = ([], 2) := by rfl
theorem h_fit : par hItem = 3 ∧ hgt hItem = 2 ∧ (wri hItem).length = 4 := by refine ⟨?_, ?_, ?_⟩ <;> rfl

theorem RdIs.two {W : World} {a0 a1 a2 a3 b0 b1 b2 b3 : Value} {x y : Itm} {t : TypeId} (h1 : RdI W W.heap.size (.agg #[a0, a1, a2, a3]) x) (h2 : RdI W W.heap.size (.agg #[b0, b1, b2, b3]) y) :
    RdIs (W.alloc (.cells #[a0, a1, a2, a3, b0, b1, b2, b3] t)) (W.heap.size + 1) W.heap.size 0 [x, y] := by
  rw [RdIs, RdIs, RdIs]
  refine ⟨⟨a0, a1, a2, a3, by simp, by simp, by simp, by simp, (h1.alloc (Nat.le_refl _) _).more (Nat.le_succ _)⟩, ⟨b0, b1, b2, b3, by simp, by simp, by simp, by simp, (h2.alloc (Nat.le_refl _) _).more (Nat.le_succ _)⟩, trivial⟩

set_option maxRecDepth 100000 in
set_option maxHeartbeats 4000000 in
theorem heads03_any (w : World) (hL : LaidE w) : Calls Tryd.prog 9 #[] w fun e w' => e = .returned (.bool true) ∧ Below w.heap.size w w' := by
  have HLT := Lib.hid hL.lt
  have HL := Lib.hid hL
  clear hL
  go_enter Tryd.func9, Tryd.ntmps9
  go_wp2_with fail
  refine (cuint_any 1 _ (by decide)).mono ?_
  rintro e w1 ⟨v1, rfl, hv1, hb1⟩
  obtain ⟨A1, nd1, cd1, AL1, cl1, rfl, -, -, -, -, -, -⟩ := hv1.open
  have V1 := Lib.hid hv1
  have B1 := Lib.hid hb1
  clear hv1 hb1
  go_wp2_with fail
  refine (ctext_any ⟨#[97]⟩ _ (by decide)).mono ?_
  rintro e w2 ⟨v2, rfl, hv2, hb2⟩
  obtain ⟨A2, nd2, cd2, AL2, cl2, rfl, -, -, -, -, -, -⟩ := hv2.open
  have V2 := Lib.hid (RdIs.two (t := 27) ((V1.out.below hb2).more hb2.size) hv2)
  have B2 := Lib.hid (B1.out.trans (hb2.mono B1.out.size))
  clear hv2 hb2 V1 B1
  go_wp2_with fail
  refine (carray_flat _ 0 2 2 _ _ _ (Nat.le_of_eq (by simp)) (Nat.lt_succ_self _) V2.out rfl (by decide) (by decide) (Nat.le_refl _) (by intro x hx; simp at hx; rcases hx with rfl | rfl <;> rfl)).mono ?_
  rintro e w3 ⟨v3, rfl, hv3, hb3⟩
  have hv3' : RdI w3 w3.heap.size v3 hItem := hv3
  have V3 := Lib.hid hv3'
  have B3 := Lib.hid ((B2.out.alloc B2.out.size _).trans (hb3.mono (Nat.le_trans B2.out.size (le_alloc _ _))))
  clear hv3 hv3' hb3 V2 B2
  go_wp2_with fail
  refine (cencode_any hItem _ _ _ (by rw [h_fit.1]; decide) (fun _ => by rw [h_fit.2.2]; decide) (Nat.le_refl _) V3.out (HL.out.below B3.out HLT.out)).mono ?_
  rw [h_enc]
  rintro e w4 ⟨A4, n4, c4, rfl, hr4, hc4, hb4⟩
  have R4 := Lib.hid hr4
  have B4 := Lib.hid (B3.out.trans (hb4.mono B3.out.size))
  clear hr4 hb4 V3 B3
  go_wp2_with fail
  refine (cdecode_any _ 2 2 _ [24, 23] _ (le_one _ _) (Rd.lit w4 _ rfl [24, 23] 5 #[.int .u8 24, .int .u8 23] rfl 2 rfl) (by decide) (Nat.le_refl _) (HL.out.below (B4.out.alloc B4.out.size _) HLT.out)).mono ?_
  rw [h_dec1]
  rintro e w5 ⟨v5, rfl, hv5, hb5⟩
  obtain ⟨A5, nd5, cd5, AL5, cl5, rfl, -, -, -, -, -, -⟩ := hv5.open
  have B5 := Lib.hid ((B4.out.alloc B4.out.size _).trans (hb5.mono (Nat.le_trans B4.out.size (le_alloc _ _))))
  have R5 := Lib.hid (R4.out.keep (w' := w5) (fun p hp => (hb5.cell (p := p) (Nat.lt_of_lt_of_le hp (le_alloc _ _))).trans (World.cell?_alloc_lt w4 _ p hp)))
  have Z5 := Lib.hid (Nat.le_trans (le_alloc w4 (.cells #[.int .u8 24, .int .u8 23] 5)) hb5.size)
  clear hv5 hb5 R4
  go_wp2_with fail
  with_reducible refine (cdecode_any _ 4 4 (w5.heap.size + 1 + 1) [159, 1, 255, 9] _ (Nat.le_of_eq (by simp)) (Rd.lit (w5.alloc _) (w5.heap.size + 1) (by simp) [159, 1, 255, 9] 5 #[.int .u8 159, .int .u8 1, .int .u8 255, .int .u8 9] rfl 4 rfl) (by decide) (Nat.le_refl _) (HL.out.below ((B5.out.alloc B5.out.size _).alloc (Nat.le_trans B5.out.size (le_alloc _ _)) _) HLT.out)).mono ?_
  rw [h_dec2]
  rintro e w6 ⟨v6, rfl, hv6, hb6⟩
  obtain ⟨A6, nd6, cd6, AL6, cl6, rfl, -, -, -, -, -, -⟩ := (show RdI w6 w6.heap.size v6 (.mk 5 0 [] [.mk 0 1 [] []]) from hv6).open
  have B6 := Lib.hid (((B5.out.alloc B5.out.size (.cells #[.int .i64 0, .int .u64 0, .slice A5 nd5 cd5, .slice AL5 0 cl5] 27)).alloc (Nat.le_trans B5.out.size (le_alloc _ _)) _).trans (hb6.mono (Nat.le_trans B5.out.size (Nat.le_trans (le_alloc _ _) (le_alloc _ _)))))
  have R6 := Lib.hid (R5.out.keep (w' := w6) (fun p hp => (hb6.cell (p := p) (Nat.lt_of_lt_of_le hp (Nat.le_trans Z5.out (Nat.le_trans (le_alloc _ _) (le_alloc _ _))))).trans ((World.cell?_alloc_lt _ _ p (Nat.lt_of_lt_of_le hp (Nat.le_trans Z5.out (le_alloc _ _)))).trans (World.cell?_alloc_lt _ _ p (Nat.lt_of_lt_of_le hp Z5.out)))))
  have Z6 := Lib.hid (Nat.le_trans Z5.out (Nat.le_trans (Nat.le_trans (le_alloc w5 (.cells #[.int .i64 0, .int .u64 0, .slice A5 nd5 cd5, .slice AL5 0 cl5] 27)) (le_alloc _ _)) hb6.size))
  clear hv6 hb6 R5 Z5 B5
  go_wp2_with fail
  with_reducible refine (cdecode_any _ 2 2 (w6.heap.size + 1 + 1) [130, 1] _ (Nat.le_of_eq (by simp)) (Rd.lit (w6.alloc _) (w6.heap.size + 1) (by simp) [130, 1] 5 #[.int .u8 130, .int .u8 1] rfl 2 rfl) (by decide) (Nat.le_refl _) (HL.out.below ((B6.out.alloc B6.out.size _).alloc (Nat.le_trans B6.out.size (le_alloc _ _)) _) HLT.out)).mono ?_
  rw [h_dec3]
  rintro e w7 ⟨v7, rfl, hv7, hb7⟩
  obtain ⟨A7, nd7, cd7, AL7, cl7, rfl, -, -, -, -, -, -⟩ := hv7.open
  have f0 : w7.cell? ⟨w6.heap.size, 0, none⟩ = some (.int .i64 5) := (hb7.cell (p := ⟨w6.heap.size, 0, none⟩) (by simp; omega)).trans (by simp)
  have f3 : w7.cell? ⟨w6.heap.size, 3, none⟩ = some (.slice AL6 1 cl6) := (hb7.cell (p := ⟨w6.heap.size, 3, none⟩) (by simp; omega)).trans (by simp)
  have hz7 : w6.heap.size + 1 ≤ w7.heap.size := Nat.le_trans (le_one w6 _) (Nat.le_trans (le_alloc _ _) hb7.size)
  have B7 := Lib.hid (((B6.out.alloc B6.out.size _).alloc (Nat.le_trans B6.out.size (le_alloc _ _)) _).trans (hb7.mono (Nat.le_trans B6.out.size (Nat.le_trans (le_alloc _ _) (le_alloc _ _)))))
  have R7 := Lib.hid (R6.out.keep (w' := w7) (fun p hp => (hb7.cell (p := p) (Nat.lt_of_lt_of_le hp (Nat.le_trans Z6.out (Nat.le_trans (le_alloc _ _) (le_alloc _ _))))).trans ((World.cell?_alloc_lt _ _ p (Nat.lt_of_lt_of_le hp (Nat.le_trans Z6.out (le_alloc _ _)))).trans (World.cell?_alloc_lt _ _ p (Nat.lt_of_lt_of_le hp Z6.out)))))
  have HZ7 := Lib.hid hz7
  have F0 := Lib.hid f0
  have F3 := Lib.hid f3
  have Z7 := Lib.hid (Nat.le_trans Z6.out (Nat.le_trans (Nat.le_succ _) hz7))
  clear hv7 hb7 R6 Z6 B6 f0 f3 hz7
  go_wp2_with fail
  refine (cencode_any (.mk 1 0 [] []) _ _ 0 (by decide) (fun h => absurd h.1 (by decide)) (Nat.zero_le _) (RdI.mk_data (by decide) (Nat.le_refl _) (by decide) Rd.nil_) (HL.out.below (B7.out.alloc B7.out.size _) HLT.out)).mono ?_
  rw [h_enc1]
  rintro e w8 ⟨A8, n8, c8, rfl, hr8, hc8, hb8⟩
  have f0 : w8.cell? ⟨w6.heap.size, 0, none⟩ = some (.int .i64 5) := (hb8.cell (p := ⟨w6.heap.size, 0, none⟩) (Nat.lt_of_lt_of_le HZ7.out (le_alloc _ _))).trans ((World.cell?_alloc_lt w7 _ ⟨w6.heap.size, 0, none⟩ HZ7.out).trans F0.out)
  have f3 : w8.cell? ⟨w6.heap.size, 3, none⟩ = some (.slice AL6 1 cl6) := (hb8.cell (p := ⟨w6.heap.size, 3, none⟩) (Nat.lt_of_lt_of_le HZ7.out (le_alloc _ _))).trans ((World.cell?_alloc_lt w7 _ ⟨w6.heap.size, 3, none⟩ HZ7.out).trans F3.out)
  have B8 := Lib.hid ((B7.out.alloc B7.out.size _).trans (hb8.mono (Nat.le_trans B7.out.size (le_alloc _ _))))
  have R8 := Lib.hid (R7.out.keep (w' := w8) (fun p hp => (hb8.cell (p := p) (Nat.lt_of_lt_of_le hp (Nat.le_trans Z7.out (le_alloc _ _)))).trans (World.cell?_alloc_lt _ _ p (Nat.lt_of_lt_of_le hp Z7.out))))
  have Z8 := Lib.hid (Nat.le_trans Z7.out (Nat.le_trans (le_alloc _ _) hb8.size))
  have g6 : w6.heap.size < w8.heap.size := Nat.lt_of_lt_of_le HZ7.out (Nat.le_trans (le_alloc _ _) hb8.size)
  have G0 := Lib.hid f0
  have G3 := Lib.hid f3
  have G6 := Lib.hid g6
  clear hr8 hb8 R7 Z7 B7 F0 F3 f0 f3 g6
  have f0 : (w8.alloc (.cells #[.int .u8 130, .int .u8 1, .int .u8 97, .int .u8 97] 5)).cell? ⟨w6.heap.size, 0, none⟩ = some (.int .i64 5) := (World.cell?_alloc_lt _ _ _ G6.out).trans G0.out
  have f3 : (w8.alloc (.cells #[.int .u8 130, .int .u8 1, .int .u8 97, .int .u8 97] 5)).cell? ⟨w6.heap.size, 3, none⟩ = some (.slice AL6 1 cl6) := (World.cell?_alloc_lt _ _ _ G6.out).trans G3.out
  have C := Lib.hid (fun W (hW : W = w8.alloc (.cells #[.int .u8 130, .int .u8 1, .int .u8 97, .int .u8 97] 5)) => same_true A4 (some ⟨w8.heap.size, 0, none⟩) n4 c4 4 4 w4.heap.size (w8.heap.size + 1) [130, 1, 97, 97] W (hW ▸ R8.out.alloc Z8.out _) (hW ▸ Rd.lit w8 _ rfl [130, 1, 97, 97] 5 #[.int .u8 130, .int .u8 1, .int .u8 97, .int .u8 97] rfl 4 rfl))
  go_wp2_with fail
  refine (C.out _ rfl).mono ?_
  rintro e w9 ⟨rfl, rfl⟩
  go_wp2_with fail
  go_ret
  exact ⟨rfl, B8.out.alloc B8.out.size _⟩
end Go.Proofs.YtcbolbdfdapidaaDoor
