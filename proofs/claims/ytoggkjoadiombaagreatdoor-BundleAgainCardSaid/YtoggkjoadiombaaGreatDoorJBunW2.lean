/- BundleAgain of layer 6's statements, walked. (Made by gen/bun.py.) -/
import Derived.Test.YtoggkjoadiombaaGreatDoorJBunWk
namespace Go.Proofs.YtoggkjoadiombaaGreatDoor
open Go.RowKit
set_option maxRecDepth 100000 in
set_option maxHeartbeats 8000000 in
theorem bundleAgain_walk (A : Option Addr) (n c : Nat) (l : List UInt8) (w : World) (S : Snt) (hin : Rd w w.heap.size A n l ∧ n ≤ c ∧ c ≤ 140737488351232) (hS : Wd S w) :
    Calls Tryz.prog 7 #[.slice A n c] w fun e w' => e = .returned (.bool true) ∧ Below w.heap.size w w' := by
  obtain ⟨hr, hc, hcm⟩ := hin
  have HSW := Lib.hid (fun (W : World) (hb : Below w.heap.size w W) => hS.below hb (Nat.le_refl _))
  have CH := Lib.hid (fun (W : World) (hb : Below w.heap.size w W) => heads06_any S W (hS.below hb (Nat.le_refl _)))
  have HRD := Lib.hid (fun (W : World) (hb : Below w.heap.size w W) => (hr.below hb).more hb.size)
  have CD := Lib.hid (udecode_any S A n c w.heap.size l w hS (Nat.le_refl _) hr (by omega) hc)
  have HN := Lib.hid hr.1
  clear hr hc hcm hS
  go_enter Tryz.func7, Tryz.ntmps7
  go_wp2_with fail
  refine CD.out.mono ?_
  rintro e w1 ⟨hb1, ⟨h3, xs, A3, n3, c3, rfl, hbd, hrl, hc3, his⟩ | ⟨hno, z, hz, -, rfl⟩⟩
  · have T1 := Lib.hid hb1
    have R1 := Lib.hid hrl.unmask_
    have HK := Lib.hid (And.intro hbd (And.intro hc3 his))
    have HE := Lib.hid (enc_isBun his)
    clear hb1 hbd hrl hc3 his
    unfold bunV at *
    go_wp2_with (first
      | (refine wpList_st18 rfl 28 (.tmp 3) (.tmp 10) rfl _ rfl rfl _ _ (heap_alloc_new w1 _) info_bun rfl rfl ?_; intro W2 hrow2 _ _ hbel hsz2; have T2 := Lib.hid (hbel _ _ (T1.out.alloc T1.out.size _) T1.out.size); have D2 := Lib.hid (hbel _ _ ((Below.refl w1.heap.size w1).alloc (Nat.le_refl _) _) (Nat.le_refl _)); have ROW2 := Lib.hid hrow2; clear hbel hrow2 hsz2)
      | (refine wpList_ld18 rfl (.tmp 3) rfl _ rfl _ _ ROW2.out rfl ?_)
      | fail)
    refine (uencode_any S h3 xs A3 n3 c3 W2.heap.size W2 (HSW.out _ T2.out) HK.out.1 ((R1.out.below D2.out).more D2.out.size) (Nat.le_refl _) HK.out.2.1).mono ?_
    rintro e w3 ⟨hb3, v3, rfl, ho3⟩
    rw [HE.out] at ho3
    rw [HE.out]
    obtain ⟨A4, c4, rfl, hc4, -, hr4⟩ := ho3.rdn (n := l.length) rfl
    have T3 := Lib.hid (T2.out.trans (hb3.mono T2.out.size))
    have D3 := Lib.hid (D2.out.trans (hb3.mono D2.out.size))
    have ROW3 := Lib.hid ((hb3.block _ (Array.getElem?_eq_some_iff.1 ROW2.out).1).trans ROW2.out)
    have CS := Lib.hid (same_true A4 A l.length c4 n c w3.heap.size w3.heap.size l w3 hr4 (HRD.out _ T3.out))
    clear hb3 ho3 hr4 hc4 ROW2
    go_wp2_with fail
    refine CS.out.mono ?_
    rintro e w4 ⟨rfl, rfl⟩
    go_wp2_with (first
      | (refine wpList_ld18G (by rfl) (.tmp 3) rfl _ rfl _ _ ROW3.out rfl ?_)
      | fail)
    refine (ucCheck_any S h3 xs A3 n3 c3 w3.heap.size w3 (HSW.out _ T3.out) HK.out.1 ((R1.out.below D3.out).more D3.out.size) (Nat.le_refl _) HK.out.2.1).mono ?_
    rintro e w5 ⟨rfl, hb5⟩
    rw [HK.out.2.2.1]
    have T5 := Lib.hid (T3.out.trans (hb5.mono T3.out.size))
    have D5 := Lib.hid (D3.out.trans (hb5.mono D3.out.size))
    have ROW5 := Lib.hid ((hb5.block _ (Array.getElem?_eq_some_iff.1 ROW3.out).1).trans ROW3.out)
    clear hb5 ROW3
    go_wp2_with (first
      | (refine wpList_ld18G (by rfl) (.tmp 3) rfl _ rfl _ _ ROW5.out rfl ?_)
      | fail)
    refine (ukey_any S h3 xs A3 n3 c3 w5.heap.size w5 (HSW.out _ T5.out) HK.out.1 ((R1.out.below D5.out).more D5.out.size) (Nat.le_refl _) HK.out.2.1).mono ?_
    rintro e w6 ⟨rfl, hb6⟩
    have T6 := Lib.hid (T5.out.trans (hb6.mono T5.out.size))
    have hk := key_ne (b := h3.bun xs) HK.out.2.2.1
    have hk2 : (strL (keyU (h3.bun xs))).toList ≠ [] := by rw [Lib.toList_data, strL_list]; exact hk
    clear hb6 ROW5 hk
    generalize strL (keyU (h3.bun xs)) = K at *
    have hk3 : K.toList.isEmpty = false := by cases hkl : K.toList with | nil => exact absurd hkl hk2 | cons a r => rfl
    clear hk2
    go_wp2_with fail
    refine (CH.out w6 T6.out).mono ?_
    rintro e w7 ⟨rfl, hb7⟩
    have T7 := Lib.hid (T6.out.trans (hb7.mono T6.out.size))
    clear hb7
    go_wp2_with fail
    go_ret
    exact ⟨rfl, T7.out⟩
  · have T1 := Lib.hid hb1
    have e1 : (z != 0) = true := by simpa using hz
    clear hb1 hno hz
    go_wp2_with (first
      | (refine wpList_st18 rfl 28 (.tmp 3) (.tmp 10) rfl _ rfl rfl _ _ (heap_alloc_new w1 _) info_bun rfl rfl ?_; intro W2 hrow2 _ _ hbel hsz2; have T2 := Lib.hid (hbel _ _ (T1.out.alloc T1.out.size _) T1.out.size); have ROW2 := Lib.hid hrow2; clear hbel hrow2 hsz2)
      | (refine wpList_ld18 rfl (.tmp 3) rfl _ rfl _ _ ROW2.out rfl ?_)
      | fail)
    have CZ : Hid (Calls Tryz.prog 26 #[.agg #[.int .u64 0, .int .i64 0, .int .i64 0, .string ⟨#[]⟩, .int .u64 0, .int .u64 0, .int .i64 0, .string ⟨#[]⟩, .int .u64 0, .int .u64 0, .int .i64 0, .string ⟨#[]⟩, .int .u64 0, .int .u64 0, .int .u64 0, .int .u64 0, .int .u64 0, .slice none 0 0], .agg #[.int .u64 0, .int .i64 0, .int .i64 0, .string ⟨#[]⟩, .int .u64 0, .int .u64 0, .int .i64 0, .string ⟨#[]⟩, .int .u64 0, .int .u64 0, .int .i64 0, .string ⟨#[]⟩, .int .u64 0, .int .u64 0, .int .u64 0, .int .u64 0, .int .u64 0, .slice none 0 0]] W2 fun e w' => e = .returned (.bool true) ∧ Below W2.heap.size W2 w') := rsameU_true BH.zero [] none none 0 0 0 W2.heap.size W2 RdL.nil_ RdL.nil_ (Nat.le_refl _)
    refine CZ.out.mono ?_
    rintro e w3 ⟨rfl, hb3⟩
    have T3 := Lib.hid (T2.out.trans (hb3.mono T2.out.size))
    clear hb3
    go_wp2_with fail
    refine (CH.out w3 T3.out).mono ?_
    rintro e w4 ⟨rfl, hb4⟩
    have T4 := Lib.hid (T3.out.trans (hb4.mono T3.out.size))
    clear hb4
    go_wp2_with fail
    go_ret
    exact ⟨rfl, T4.out⟩
end Go.Proofs.YtoggkjoadiombaaGreatDoor
