/- The walk of the statement CrcGoes. -/
import Derived.Test.YtchgghcnhhgimaaCrcH
import Derived.Test.YtchgghcnhhgimaaOwn
namespace Go.Proofs.Ytchgghcnhhgimaa
open Go.RowKit

theorem le2c (v : Nat) (h : v < 65536) : #[Value.int .u8 ((v : Int) % 256), .int .u8 ((v : Int) / 256)] = (([UInt8.ofNat v, UInt8.ofNat (v / 256)] : List UInt8).map fun x => Value.int .u8 (x.toNat : Int)).toArray := by
  rw [low8 v, show (v : Int) / 256 = ((v / 256 : Nat) : Int) from rfl, low8_of (v / 256) (by omega)]
  rfl
theorem le4c (v : Nat) (h : v < 4294967296) : #[Value.int .u8 ((v : Int) % 256), .int .u8 ((v : Int) / 256 % 256), .int .u8 ((v : Int) / 65536 % 256), .int .u8 ((v : Int) / 16777216)] =
    (([UInt8.ofNat v, UInt8.ofNat (v / 256), UInt8.ofNat (v / 65536), UInt8.ofNat (v / 16777216)] : List UInt8).map fun x => Value.int .u8 (x.toNat : Int)).toArray := by
  rw [low8 v, show (v : Int) / 256 = ((v / 256 : Nat) : Int) from rfl, show (v : Int) / 65536 = ((v / 65536 : Nat) : Int) from rfl, show (v : Int) / 16777216 = ((v / 16777216 : Nat) : Int) from rfl,
    low8 (v / 256), low8 (v / 65536), low8_of (v / 16777216) (by omega)]
  rfl

set_option maxRecDepth 100000 in
set_option maxHeartbeats 2000000 in
theorem crcGoes_walk (A : Option Addr) (n c : Nat) (l : List UInt8) (w : World) (hb : Rd w w.heap.size A n l ∧ n ≤ c ∧ c ≤ 140737488351232) :
    Calls Try.prog 6 #[.slice A n c] w fun e w' => e = .returned (.bool true) ∧ Below w.heap.size w w' := by
  obtain ⟨hr, hnc, hcc⟩ := hb
  have hlen := hr.1
  have c1 := short_any A n c _ l w hr (by omega)
  have c2 := long_any A n c _ l w hr (by omega)
  have L1 := (s16 l).isLt
  have L2 := (s32 l).isLt
  have g1 := s16_goes l
  have g2 := s32_goes l
  generalize (s16 l).toNat = x at *
  generalize (s32 l).toNat = y at *
  have HR := Lib.hid hr
  have HL := Lib.hid hlen
  have C1 := Lib.hid c1
  have C2 := Lib.hid c2
  have G1 := Lib.hid g1
  have G2 := Lib.hid g2
  have ho0 : Ob (w.alloc (.cells #[] 5)) w.heap.size 5 (.slice (some ⟨w.heap.size, 0, none⟩) 0 0) [] := Ob.lit w [] #[] rfl (Nat.le_refl _) 0 rfl (by decide)
  have hr0 : Rd (w.alloc (.cells #[] 5)) w.heap.size A n l := hr.alloc (Nat.le_refl _) _
  have hb0 : ([] : List UInt8).length + n ≤ 140737488355328 := by simp; omega
  have hz0 : w.heap.size ≤ (w.alloc (.cells #[] 5)).heap.size := by simp
  have hb1 : (([] : List UInt8) ++ l).length + 2 ≤ 140737488355328 := by simp; omega
  have HB1 := Lib.hid hb1
  have hb2 : (([] : List UInt8) ++ l).length + 4 ≤ 140737488355328 := by simp; omega
  have HB2 := Lib.hid hb2
  have HO0 := Lib.hid ho0
  have HR0 := Lib.hid hr0
  have HB0 := Lib.hid hb0
  have HZ0 := Lib.hid hz0
  clear hr hlen c1 c2 g1 g2 ho0 hr0 hb0 hz0 hb1 hb2
  go_enter Try.func6, Try.ntmps6
  go_wp2_with fail
  refine C1.out.mono ?_
  rintro e w1 ⟨rfl, rfl⟩
  go_wp2_with fail
  refine C2.out.mono ?_
  rintro e w1 ⟨rfl, rfl⟩
  go_wp2_with (first
    | (at_builtin; refine wpList_appB rfl (.tmp 11) (.tmp 12) 22 rfl w.heap.size 5 rfl info_u8 _ [] rfl HO0.out w.heap.size A n c l rfl HR0.out HB0.out HZ0.out ?_; intro v1 w1 ho1 hb1; have O1 := Lib.hid ho1; have B1 := Lib.hid hb1; clear ho1 hb1)
    | (at_builtin; refine wpList_appB rfl (.tmp 13) (.tmp 19) 22 rfl w.heap.size 5 rfl info_u8 _ ([] ++ l) rfl (O1.out.alloc _) _ _ 2 2 _ rfl (Rd.lit w1 _ rfl [UInt8.ofNat x, UInt8.ofNat (x / 256)] _ _ (le2c x L1) 2 rfl) HB1.out (Nat.le_trans (Nat.le_trans HZ0.out B1.out.size) (le_alloc _ _)) ?_; intro v2 w2 ho2 hb2; have O2 := Lib.hid ho2; have B2 : Hid (Below w.heap.size w w2) := ((((Below.refl _ w).alloc (Nat.le_refl _) _).trans B1.out).alloc (Nat.le_trans HZ0.out B1.out.size) _).trans hb2; clear ho2 hb2)
    | (at_builtin; refine wpList_appB rfl (.tmp 21) (.tmp 22) 22 rfl w2.heap.size 5 rfl info_u8 _ [] rfl (Ob.lit w2 [] #[] rfl (Nat.le_refl _) 0 rfl (by decide)) w.heap.size A n c l rfl ((HR.out.below B2.out).alloc B2.out.size _) HB0.out (le_alloc _ _) ?_; intro v3 w3 ho3 hb3; have O3 := Lib.hid ho3; have B3 := Lib.hid hb3; clear ho3 hb3)
    | (at_builtin; refine wpList_appB rfl (.tmp 23) (.tmp 35) 22 rfl w2.heap.size 5 rfl info_u8 _ ([] ++ l) rfl (O3.out.alloc _) _ _ 4 4 _ rfl (Rd.lit w3 _ rfl [UInt8.ofNat y, UInt8.ofNat (y / 256), UInt8.ofNat (y / 65536), UInt8.ofNat (y / 16777216)] _ _ (le4c y L2) 4 rfl) HB2.out (Nat.le_trans (Nat.le_trans (le_alloc _ _) B3.out.size) (le_alloc _ _)) ?_; intro v4 w4 ho4 hb4; have O4 := Lib.hid ho4; have B4 : Hid (Below w2.heap.size w2 w4) := ((((Below.refl _ w2).alloc (Nat.le_refl _) _).trans B3.out).alloc (Nat.le_trans (le_alloc _ _) B3.out.size) _).trans hb4; clear ho4 hb4)
    | fail)
  obtain ⟨A2, c2, hv2, hc2, _, hr2⟩ := O2.out.rd
  have k1 : Calls Try.prog 7 #[v2] w4 fun e w' => e = .returned (.int .u16 3911) ∧ w4 = w' := by
    rw [hv2]
    have hl2 := HB1.out
    have h := short_any A2 _ c2 _ _ w4 (hr2.below B4.out) (by simp at hl2 ⊢; omega)
    rw [List.nil_append, G1.out] at h
    exact h
  have K1 := Lib.hid k1
  clear k1 hv2 hc2 hr2
  refine K1.out.mono ?_
  rintro e w5 ⟨rfl, rfl⟩
  go_wp2_with fail
  obtain ⟨A4, c4, hv4, hc4, _, hr4⟩ := O4.out.rd
  have k2 : Calls Try.prog 9 #[v4] w4 fun e w' => e = .returned (.int .u32 1214729159) ∧ w4 = w' := by
    rw [hv4]
    have hl2 := HB2.out
    have h := long_any A4 _ c4 _ _ w4 hr4 (by simp at hl2 ⊢; omega)
    rw [List.nil_append, G2.out] at h
    exact h
  have K2 := Lib.hid k2
  clear k2 hv4 hc4 hr4
  refine K2.out.mono ?_
  rintro e w5 ⟨rfl, rfl⟩
  go_wp2_with fail
  refine (heads02_any _).mono ?_
  rintro e w5 ⟨rfl, hb5⟩
  have B5 := Lib.hid hb5
  clear hb5
  go_wp2_with fail
  go_ret
  exact ⟨rfl, (B2.out.trans (B4.out.mono B2.out.size)).trans (B5.out.mono (Nat.le_trans B2.out.size B4.out.size))⟩
end Go.Proofs.Ytchgghcnhhgimaa
