/- BundleKeys of layer 6's statements, walked. (Made by gen/BunW3.py and gen/bun.py.) -/
import Derived.Test.YtoggkjoadiombaaGreatDoorJBunWk
import Derived.Test.YtoggkjoadiombaaGreatDoorJEidW0
namespace Go.Proofs.YtoggkjoadiombaaGreatDoor
open Go.RowKit
theorem strL_toL (a : List UInt8) : (strL a).toList = a := by rw [Lib.toList_data, strL_list]
theorem ba_inj {s t : ByteArray} (h : s.data.toList = t.data.toList) : s = t := by
  obtain ⟨⟨a⟩⟩ := s
  obtain ⟨⟨b⟩⟩ := t
  simp at h
  rw [h]
set_option maxRecDepth 100000 in
set_option maxHeartbeats 16000000 in
theorem bundleKeys_walk (h : BH) (l : List Blk) (A : Option Addr) (n c : Nat) (h' : BH) (l' : List Blk) (A' : Option Addr) (n' c' : Nat) (w : World) (S : Snt) (hin : BunIn w h l A n c) (hin' : BunIn w h' l' A' n' c') (hS : Wd S w) :
    Calls Tryz.prog 3 #[bunV h A n c, bunV h' A' n' c'] w fun e w' => e = .returned (.bool true) ∧ Below w.heap.size w w' := by
  obtain ⟨hd, hr, hc⟩ := hin
  obtain ⟨hd', hr', hc'⟩ := hin'
  have HB0 := Lib.hid (((Below.refl w.heap.size w).alloc (Nat.le_refl _) (.cells #[.int .u64 (h.flg : Int), .int .i64 h.crc, .int .i64 h.dsc, .string h.dnm, .int .u64 (h.dn : Int), .int .u64 (h.dv : Int), .int .i64 h.ssc, .string h.snm, .int .u64 (h.sn : Int), .int .u64 (h.sv : Int), .int .i64 h.rsc, .string h.rnm, .int .u64 (h.rn : Int), .int .u64 (h.rv : Int), .int .u64 (h.tim : Int), .int .u64 (h.seq : Int), .int .u64 (h.lif : Int), .slice A n c] 28)).alloc (le_alloc _ _) (.cells #[.int .u64 (h'.flg : Int), .int .i64 h'.crc, .int .i64 h'.dsc, .string h'.dnm, .int .u64 (h'.dn : Int), .int .u64 (h'.dv : Int), .int .i64 h'.ssc, .string h'.snm, .int .u64 (h'.sn : Int), .int .u64 (h'.sv : Int), .int .i64 h'.rsc, .string h'.rnm, .int .u64 (h'.rn : Int), .int .u64 (h'.rv : Int), .int .u64 (h'.tim : Int), .int .u64 (h'.seq : Int), .int .u64 (h'.lif : Int), .slice A' n' c'] 28))
  have HW0 : Hid (Below (w.heap.size + 2) ((w.alloc (.cells #[.int .u64 (h.flg : Int), .int .i64 h.crc, .int .i64 h.dsc, .string h.dnm, .int .u64 (h.dn : Int), .int .u64 (h.dv : Int), .int .i64 h.ssc, .string h.snm, .int .u64 (h.sn : Int), .int .u64 (h.sv : Int), .int .i64 h.rsc, .string h.rnm, .int .u64 (h.rn : Int), .int .u64 (h.rv : Int), .int .u64 (h.tim : Int), .int .u64 (h.seq : Int), .int .u64 (h.lif : Int), .slice A n c] 28)).alloc (.cells #[.int .u64 (h'.flg : Int), .int .i64 h'.crc, .int .i64 h'.dsc, .string h'.dnm, .int .u64 (h'.dn : Int), .int .u64 (h'.dv : Int), .int .i64 h'.ssc, .string h'.snm, .int .u64 (h'.sn : Int), .int .u64 (h'.sv : Int), .int .i64 h'.rsc, .string h'.rnm, .int .u64 (h'.rn : Int), .int .u64 (h'.rv : Int), .int .u64 (h'.tim : Int), .int .u64 (h'.seq : Int), .int .u64 (h'.lif : Int), .slice A' n' c'] 28)) ((w.alloc (.cells #[.int .u64 (h.flg : Int), .int .i64 h.crc, .int .i64 h.dsc, .string h.dnm, .int .u64 (h.dn : Int), .int .u64 (h.dv : Int), .int .i64 h.ssc, .string h.snm, .int .u64 (h.sn : Int), .int .u64 (h.sv : Int), .int .i64 h.rsc, .string h.rnm, .int .u64 (h.rn : Int), .int .u64 (h.rv : Int), .int .u64 (h.tim : Int), .int .u64 (h.seq : Int), .int .u64 (h.lif : Int), .slice A n c] 28)).alloc (.cells #[.int .u64 (h'.flg : Int), .int .i64 h'.crc, .int .i64 h'.dsc, .string h'.dnm, .int .u64 (h'.dn : Int), .int .u64 (h'.dv : Int), .int .i64 h'.ssc, .string h'.snm, .int .u64 (h'.sn : Int), .int .u64 (h'.sv : Int), .int .i64 h'.rsc, .string h'.rnm, .int .u64 (h'.rn : Int), .int .u64 (h'.rv : Int), .int .u64 (h'.tim : Int), .int .u64 (h'.seq : Int), .int .u64 (h'.lif : Int), .slice A' n' c'] 28))) := Below.refl _ _
  have HS0 : Hid (((w.alloc (.cells #[.int .u64 (h.flg : Int), .int .i64 h.crc, .int .i64 h.dsc, .string h.dnm, .int .u64 (h.dn : Int), .int .u64 (h.dv : Int), .int .i64 h.ssc, .string h.snm, .int .u64 (h.sn : Int), .int .u64 (h.sv : Int), .int .i64 h.rsc, .string h.rnm, .int .u64 (h.rn : Int), .int .u64 (h.rv : Int), .int .u64 (h.tim : Int), .int .u64 (h.seq : Int), .int .u64 (h.lif : Int), .slice A n c] 28)).alloc (.cells #[.int .u64 (h'.flg : Int), .int .i64 h'.crc, .int .i64 h'.dsc, .string h'.dnm, .int .u64 (h'.dn : Int), .int .u64 (h'.dv : Int), .int .i64 h'.ssc, .string h'.snm, .int .u64 (h'.sn : Int), .int .u64 (h'.sv : Int), .int .i64 h'.rsc, .string h'.rnm, .int .u64 (h'.rn : Int), .int .u64 (h'.rv : Int), .int .u64 (h'.tim : Int), .int .u64 (h'.seq : Int), .int .u64 (h'.lif : Int), .slice A' n' c'] 28)).heap.size = w.heap.size + 2) := by show _ = _; simp
  have HX1 := Lib.hid (fun (W : World) (hb : Below (w.heap.size + 2) ((w.alloc (.cells #[.int .u64 (h.flg : Int), .int .i64 h.crc, .int .i64 h.dsc, .string h.dnm, .int .u64 (h.dn : Int), .int .u64 (h.dv : Int), .int .i64 h.ssc, .string h.snm, .int .u64 (h.sn : Int), .int .u64 (h.sv : Int), .int .i64 h.rsc, .string h.rnm, .int .u64 (h.rn : Int), .int .u64 (h.rv : Int), .int .u64 (h.tim : Int), .int .u64 (h.seq : Int), .int .u64 (h.lif : Int), .slice A n c] 28)).alloc (.cells #[.int .u64 (h'.flg : Int), .int .i64 h'.crc, .int .i64 h'.dsc, .string h'.dnm, .int .u64 (h'.dn : Int), .int .u64 (h'.dv : Int), .int .i64 h'.ssc, .string h'.snm, .int .u64 (h'.sn : Int), .int .u64 (h'.sv : Int), .int .i64 h'.rsc, .string h'.rnm, .int .u64 (h'.rn : Int), .int .u64 (h'.rv : Int), .int .u64 (h'.tim : Int), .int .u64 (h'.seq : Int), .int .u64 (h'.lif : Int), .slice A' n' c'] 28)) W) => (row_of_box (w := w) (g := w.heap.size) rfl (((Below.refl (w.heap.size + 1) (w.alloc (.cells #[.int .u64 (h.flg : Int), .int .i64 h.crc, .int .i64 h.dsc, .string h.dnm, .int .u64 (h.dn : Int), .int .u64 (h.dv : Int), .int .i64 h.ssc, .string h.snm, .int .u64 (h.sn : Int), .int .u64 (h.sv : Int), .int .i64 h.rsc, .string h.rnm, .int .u64 (h.rn : Int), .int .u64 (h.rv : Int), .int .u64 (h.tim : Int), .int .u64 (h.seq : Int), .int .u64 (h.lif : Int), .slice A n c] 28))).alloc (by simp) (.cells #[.int .u64 (h'.flg : Int), .int .i64 h'.crc, .int .i64 h'.dsc, .string h'.dnm, .int .u64 (h'.dn : Int), .int .u64 (h'.dv : Int), .int .i64 h'.ssc, .string h'.snm, .int .u64 (h'.sn : Int), .int .u64 (h'.sv : Int), .int .i64 h'.rsc, .string h'.rnm, .int .u64 (h'.rn : Int), .int .u64 (h'.rv : Int), .int .u64 (h'.tim : Int), .int .u64 (h'.seq : Int), .int .u64 (h'.lif : Int), .slice A' n' c'] 28)).trans (hb.mono (Nat.le_succ _)))))
  have HX2 := Lib.hid (fun (W : World) (hb : Below (w.heap.size + 2) ((w.alloc (.cells #[.int .u64 (h.flg : Int), .int .i64 h.crc, .int .i64 h.dsc, .string h.dnm, .int .u64 (h.dn : Int), .int .u64 (h.dv : Int), .int .i64 h.ssc, .string h.snm, .int .u64 (h.sn : Int), .int .u64 (h.sv : Int), .int .i64 h.rsc, .string h.rnm, .int .u64 (h.rn : Int), .int .u64 (h.rv : Int), .int .u64 (h.tim : Int), .int .u64 (h.seq : Int), .int .u64 (h.lif : Int), .slice A n c] 28)).alloc (.cells #[.int .u64 (h'.flg : Int), .int .i64 h'.crc, .int .i64 h'.dsc, .string h'.dnm, .int .u64 (h'.dn : Int), .int .u64 (h'.dv : Int), .int .i64 h'.ssc, .string h'.snm, .int .u64 (h'.sn : Int), .int .u64 (h'.sv : Int), .int .i64 h'.rsc, .string h'.rnm, .int .u64 (h'.rn : Int), .int .u64 (h'.rv : Int), .int .u64 (h'.tim : Int), .int .u64 (h'.seq : Int), .int .u64 (h'.lif : Int), .slice A' n' c'] 28)) W) => (row_of_box (w := w.alloc (.cells #[.int .u64 (h.flg : Int), .int .i64 h.crc, .int .i64 h.dsc, .string h.dnm, .int .u64 (h.dn : Int), .int .u64 (h.dv : Int), .int .i64 h.ssc, .string h.snm, .int .u64 (h.sn : Int), .int .u64 (h.sv : Int), .int .i64 h.rsc, .string h.rnm, .int .u64 (h.rn : Int), .int .u64 (h.rv : Int), .int .u64 (h.tim : Int), .int .u64 (h.seq : Int), .int .u64 (h.lif : Int), .slice A n c] 28)) (g := w.heap.size + 1) (by simp) hb))
  have CH := Lib.hid (fun (W : World) (hb : Below w.heap.size w W) => heads06_any S W (hS.below hb (Nat.le_refl _)))
  have CF := Lib.hid (fun (W : World) (hb : Below w.heap.size w W) => few06_any h l A n c W.heap.size W ((hr.below hb).more hb.size) (Nat.le_refl _))
  have CF' := Lib.hid (fun (W : World) (hb : Below w.heap.size w W) => few06_any h' l' A' n' c' W.heap.size W ((hr'.below hb).more hb.size) (Nat.le_refl _))
  have CC := Lib.hid (fun (W : World) (hb : Below w.heap.size w W) => ucCheck_any S h l A n c W.heap.size W (hS.below hb (Nat.le_refl _)) hd ((hr.below hb).more hb.size) (Nat.le_refl _) hc)
  have CC' := Lib.hid (fun (W : World) (hb : Below w.heap.size w W) => ucCheck_any S h' l' A' n' c' W.heap.size W (hS.below hb (Nat.le_refl _)) hd' ((hr'.below hb).more hb.size) (Nat.le_refl _) hc')
  have CK := Lib.hid (fun (W : World) (hb : Below w.heap.size w W) => ukey_any S h l A n c W.heap.size W (hS.below hb (Nat.le_refl _)) hd ((hr.below hb).more hb.size) (Nat.le_refl _) hc)
  have CK' := Lib.hid (fun (W : World) (hb : Below w.heap.size w W) => ukey_any S h' l' A' n' c' W.heap.size W (hS.below hb (Nat.le_refl _)) hd' ((hr'.below hb).more hb.size) (Nat.le_refl _) hc')
  have ROWa := Lib.hid (HX1.out _ HW0.out)
  clear hd hr hc hS hd' hr' hc'
  unfold bunV at *
  go_enter Tryz.func3, Tryz.ntmps3
  go_wp2_with (first
    | (refine wpList_ld18 rfl (.tmp 2) rfl _ rfl _ _ ROWa.out rfl ?_)
    | fail)
  refine (CF.out _ HB0.out).mono ?_
  rintro e w1 ⟨R1, rfl, hb⟩
  have B1 := Lib.hid (Below.push HW0.out (Nat.le_of_eq HS0.out.symm) hb)
  have T1 := Lib.hid (HB0.out.trans (B1.out.mono (Nat.le_add_right _ 2)))
  have ROW1 := Lib.hid (HX2.out _ B1.out)
  clear hb ROWa
  cases R1 with
  | false =>
    go_wp2_with fail
    refine (CH.out w1 T1.out).mono ?_
    rintro e w2 ⟨rfl, hb⟩
    have T2 := Lib.hid (T1.out.trans (hb.mono T1.out.size))
    clear hb
    go_wp2_with fail
    go_ret
    exact ⟨rfl, T2.out⟩
  | true =>
  go_wp2_with (first
    | (refine wpList_ld18G (by rfl) (.tmp 3) rfl _ rfl _ _ ROW1.out rfl ?_)
    | fail)
  refine (CF'.out _ T1.out).mono ?_
  rintro e w2 ⟨R2, rfl, hb⟩
  have B2 := Lib.hid (Below.push B1.out (Nat.le_of_eq HS0.out.symm) hb)
  have T2 := Lib.hid (HB0.out.trans (B2.out.mono (Nat.le_add_right _ 2)))
  have ROW2 := Lib.hid (HX1.out _ B2.out)
  clear hb ROW1
  cases R2 with
  | false =>
    go_wp2_with fail
    refine (CH.out w2 T2.out).mono ?_
    rintro e w3 ⟨rfl, hb⟩
    have T3 := Lib.hid (T2.out.trans (hb.mono T2.out.size))
    clear hb
    go_wp2_with fail
    go_ret
    exact ⟨rfl, T3.out⟩
  | true =>
  go_wp2_with (first
    | (refine wpList_ld18G (by rfl) (.tmp 2) rfl _ rfl _ _ ROW2.out rfl ?_)
    | fail)
  refine (CC.out _ T2.out).mono ?_
  rintro e w3 ⟨rfl, hb⟩
  have B3 := Lib.hid (Below.push B2.out (Nat.le_of_eq HS0.out.symm) hb)
  have T3 := Lib.hid (HB0.out.trans (B3.out.mono (Nat.le_add_right _ 2)))
  have ROW3 := Lib.hid (HX2.out _ B3.out)
  clear hb ROW2
  by_cases hz : cauU (h.bun l) = 0
  case neg =>
    have e1 : (cauU (h.bun l) != 0) = true := by simpa using hz
    go_wp2_with fail
    refine (CH.out w3 T3.out).mono ?_
    rintro e w4 ⟨rfl, hb⟩
    have T4 := Lib.hid (T3.out.trans (hb.mono T3.out.size))
    clear hb
    go_wp2_with fail
    go_ret
    exact ⟨rfl, T4.out⟩
  have HZ1 := Lib.hid hz
  rw [hz]
  clear hz
  go_wp2_with (first
    | (refine wpList_ld18G (by rfl) (.tmp 3) rfl _ rfl _ _ ROW3.out rfl ?_)
    | fail)
  refine (CC'.out _ T3.out).mono ?_
  rintro e w4 ⟨rfl, hb⟩
  have B4 := Lib.hid (Below.push B3.out (Nat.le_of_eq HS0.out.symm) hb)
  have T4 := Lib.hid (HB0.out.trans (B4.out.mono (Nat.le_add_right _ 2)))
  have ROW4 := Lib.hid (HX1.out _ B4.out)
  have ROW4' := Lib.hid (HX2.out _ B4.out)
  clear hb ROW3
  by_cases hz : cauU (h'.bun l') = 0
  case neg =>
    have e1 : (cauU (h'.bun l') != 0) = true := by simpa using hz
    go_wp2_with fail
    refine (CH.out w4 T4.out).mono ?_
    rintro e w5 ⟨rfl, hb⟩
    have T5 := Lib.hid (T4.out.trans (hb.mono T4.out.size))
    clear hb
    go_wp2_with fail
    go_ret
    exact ⟨rfl, T5.out⟩
  have HZ2 := Lib.hid hz
  rw [hz]
  clear hz
  have HKI := Lib.hid (key_iff (a := h.bun l) (b := h'.bun l') HZ1.out HZ2.out)
  obtain ⟨be, hbe⟩ : ∃ be : Bool, be = true ↔ (h.ssc = h'.ssc ∧ h.snm = h'.snm ∧ (h.sn : Int) = (h'.sn : Int) ∧ (h.sv : Int) = (h'.sv : Int)) := ⟨decide (h.ssc = h'.ssc ∧ h.snm = h'.snm ∧ (h.sn : Int) = (h'.sn : Int) ∧ (h.sv : Int) = (h'.sv : Int)), by simp⟩
  have q := eql_eid h.ssc h'.ssc h.snm h'.snm h.sn h'.sn h.sv h'.sv be hbe
  have hsrc : be = true ↔ (h.bun l).src = (h'.bun l').src := by
    rw [hbe]
    show _ ↔ ep h.ssc h.snm h.sn h.sv = ep h'.ssc h'.snm h'.sn h'.sv
    unfold ep
    rw [Epd.mk.injEq]
    constructor
    · rintro ⟨h1, h2, h3, h4⟩; exact ⟨h1, by rw [h2], by omega, by omega⟩
    · rintro ⟨h1, h2, h3, h4⟩; exact ⟨h1, ba_inj h2, by omega, by omega⟩
  have H4 : (be = true ∧ ((h.tim : Int) == (h'.tim : Int)) = true ∧ ((h.seq : Int) == (h'.seq : Int)) = true ∧ (keyU (h.bun l) == keyU (h'.bun l')) = true) ∨ (be = true ∧ ((h.tim : Int) == (h'.tim : Int)) = true ∧ ((h.seq : Int) == (h'.seq : Int)) = false ∧ (keyU (h.bun l) == keyU (h'.bun l')) = false) ∨ (be = true ∧ ((h.tim : Int) == (h'.tim : Int)) = false ∧ ((h.seq : Int) == (h'.seq : Int)) = ((h.seq : Int) == (h'.seq : Int)) ∧ (keyU (h.bun l) == keyU (h'.bun l')) = false) ∨ (be = false ∧ ((h.tim : Int) == (h'.tim : Int)) = ((h.tim : Int) == (h'.tim : Int)) ∧ ((h.seq : Int) == (h'.seq : Int)) = ((h.seq : Int) == (h'.seq : Int)) ∧ (keyU (h.bun l) == keyU (h'.bun l')) = false) := by
    have k := HKI.out
    rw [← hsrc] at k
    have ht : (h.bun l).tim = (h'.bun l').tim ↔ h.tim = h'.tim := Iff.rfl
    have hs : (h.bun l).seq = (h'.bun l').seq ↔ h.seq = h'.seq := Iff.rfl
    rw [ht, hs] at k
    cases be with
    | false => exact .inr (.inr (.inr ⟨rfl, rfl, rfl, beq_eq_false_iff_ne.2 (fun e => by have := (k.1 e).1; cases this)⟩))
    | true =>
      by_cases h1 : h.tim = h'.tim
      · by_cases h2 : h.seq = h'.seq
        · exact .inl ⟨rfl, by simp [h1], by simp [h2], beq_iff_eq.2 (k.2 ⟨rfl, h1, h2⟩)⟩
        · exact .inr (.inl ⟨rfl, by simp [h1], by simp; omega, beq_eq_false_iff_ne.2 (fun e => h2 (k.1 e).2.2)⟩)
      · exact .inr (.inr (.inl ⟨rfl, by simp; omega, rfl, beq_eq_false_iff_ne.2 (fun e => h1 (k.1 e).2.1)⟩))
  have x6 := cell_row ROW4.out 6 rfl
  have x7 := cell_row ROW4.out 7 rfl
  have x8 := cell_row ROW4.out 8 rfl
  have x9 := cell_row ROW4.out 9 rfl
  have x14 := cell_row ROW4.out 14 rfl
  have x15 := cell_row ROW4.out 15 rfl
  have y6 := cell_row ROW4'.out 6 rfl
  have y7 := cell_row ROW4'.out 7 rfl
  have y8 := cell_row ROW4'.out 8 rfl
  have y9 := cell_row ROW4'.out 9 rfl
  have y14 := cell_row ROW4'.out 14 rfl
  have y15 := cell_row ROW4'.out 15 rfl
  have LA := strL_toL (keyU (h.bun l))
  have LB := strL_toL (keyU (h'.bun l'))
  have HLT : Hid (w.heap.size < w4.heap.size ∧ w.heap.size + 1 < w4.heap.size) := ⟨(Array.getElem?_eq_some_iff.1 ROW4.out).1, (Array.getElem?_eq_some_iff.1 ROW4'.out).1⟩
  clear hbe hsrc HKI HZ1 HZ2
  obtain ⟨K, hK⟩ : ∃ K, K = strL (keyU (h.bun l)) := ⟨_, rfl⟩
  obtain ⟨K', hK'⟩ : ∃ K', K' = strL (keyU (h'.bun l')) := ⟨_, rfl⟩
  rw [← hK] at LA CK
  rw [← hK'] at LB CK'
  clear hK hK'
  generalize keyU (h.bun l) = k1 at *
  generalize keyU (h'.bun l') = k2 at *
  rcases H4 with ⟨rfl, e1, e2, ek⟩ | ⟨rfl, e1, e2, ek⟩ | ⟨rfl, e1, e2, ek⟩ | ⟨rfl, e1, e2, ek⟩
  · go_wp2_with fail
    refine wp_region_held_drew (S := fun W => Below w4.heap.size w4 W) (by kernel_rfl) Below.drew_ (fun hHeld => ?_)
    have BC := Lib.hid hHeld
    refine takeW18 (i := 0) rfl (by kernel_rfl) (by kernel_rfl) (by kernel_rfl) (fun _ _ _ h => h) (by rfl) (fun W hW => exec_ld18 rfl rfl ((hW.block _ (Array.getElem?_eq_some_iff.1 ROW4.out).1).trans ROW4.out) rfl) (by assumption) ?_
    try simp only [Act.put, List.setIfInBounds_toArray, List.set_cons_zero, List.set_cons_succ]
    refine takeW18 (i := 2) rfl (by kernel_rfl) (by kernel_rfl) (by kernel_rfl) (fun _ _ _ h => h) (by rfl) (fun W hW => exec_ld18 rfl rfl ((hW.block _ (Array.getElem?_eq_some_iff.1 ROW4'.out).1).trans ROW4'.out) rfl) (by assumption) ?_
    try simp only [Act.put, List.setIfInBounds_toArray, List.set_cons_zero, List.set_cons_succ]
    refine takeW18 (i := 5) (v := ?v5p) rfl (by kernel_rfl) (by kernel_rfl) (by kernel_rfl) (fun _ _ _ h => h) (by rfl) ?hy5p (by assumption) ?rest5p
    case hy5p => (intro w hSw; go_simp; try with_reducible rfl)
    try simp only [Act.put, List.setIfInBounds_toArray, List.set_cons_zero, List.set_cons_succ]
    refine wpAnyH_ready (rs := [1]) (by kernel_rfl) (by simp) ?_
    refine AllReadyH.cons rfl (fun K hK => ?_) AllReadyH.nil
    rw [if_pos (by rfl)]
    go_simp
    refine (CK.out _ (T4.out.trans (BC.out.mono T4.out.size))).mono ?_
    rintro e w5 ⟨rfl, hb⟩
    replace BC := Lib.hid (BC.out.trans (hb.mono BC.out.size))
    clear hb
    go_simp
    refine hK.out _ _ BC.out (fun hHeld => ?_)
    try simp only [Act.put, List.setIfInBounds_toArray, List.set_cons_zero, List.set_cons_succ]
    clear hK K
    refine wpAnyH_ready (rs := [3]) (by kernel_rfl) (by simp) ?_
    refine AllReadyH.cons rfl (fun K hK => ?_) AllReadyH.nil
    rw [if_pos (by rfl)]
    go_simp
    refine (CK'.out _ (T4.out.trans (BC.out.mono T4.out.size))).mono ?_
    rintro e w6 ⟨rfl, hb⟩
    replace BC := Lib.hid (BC.out.trans (hb.mono BC.out.size))
    clear hb
    go_simp
    refine hK.out _ _ BC.out (fun hHeld => ?_)
    try simp only [Act.put, List.setIfInBounds_toArray, List.set_cons_zero, List.set_cons_succ]
    clear hK K
    refine takeW18 (i := 4) (v := ?v4p) rfl (by kernel_rfl) (by kernel_rfl) (by kernel_rfl) (fun _ _ _ h => h) (by rfl) ?hy4p (by assumption) ?rest4p
    case hy4p => (intro w hSw; go_simp; try with_reducible rfl)
    try simp only [Act.put, List.setIfInBounds_toArray, List.set_cons_zero, List.set_cons_succ]
    refine takeW18 (i := 6) (v := ?v6p) rfl (by kernel_rfl) (by kernel_rfl) (by kernel_rfl) (fun _ _ _ h => h) (by rfl) ?hy6p (by assumption) ?rest6p
    case hy6p => (intro w hSw; go_simp; try with_reducible rfl)
    try simp only [Act.put, List.setIfInBounds_toArray, List.set_cons_zero, List.set_cons_succ]
    refine takeW18 (i := 7) (v := ?v7p) rfl (by kernel_rfl) (by kernel_rfl) (by kernel_rfl) (fun _ _ _ h => h) (by rfl) ?hy7p (by assumption) ?rest7p
    case hy7p => (intro w hSw; go_simp; try with_reducible rfl)
    try simp only [Act.put, List.setIfInBounds_toArray, List.set_cons_zero, List.set_cons_succ]
    refine wpAnyH_ready (rs := [8]) (by kernel_rfl) (by simp) ?_
    refine AllReadyH.cons rfl (fun K hK => ?_) AllReadyH.nil
    rw [if_pos (by rfl)]
    go_simp
    refine (CH.out _ (T4.out.trans (BC.out.mono T4.out.size))).mono ?_
    rintro e w7 ⟨rfl, hb⟩
    replace BC := Lib.hid (BC.out.trans (hb.mono BC.out.size))
    clear hb
    go_simp
    refine hK.out _ _ BC.out (fun hHeld => ?_)
    try simp only [Act.put, List.setIfInBounds_toArray, List.set_cons_zero, List.set_cons_succ]
    clear hK K
    refine takeW18 (i := 9) (v := ?v9p) rfl (by kernel_rfl) (by kernel_rfl) (by kernel_rfl) (fun _ _ _ h => h) (by rfl) ?hy9p (by assumption) ?rest9p
    case hy9p => (intro w hSw; go_simp; try with_reducible rfl)
    try simp only [Act.put, List.setIfInBounds_toArray, List.set_cons_zero, List.set_cons_succ]
    refine takeW18 (i := 10) (v := ?v10p) rfl (by kernel_rfl) (by kernel_rfl) (by kernel_rfl) (fun _ _ _ h => h) (by rfl) ?hy10p (by assumption) ?rest10p
    case hy10p => (intro w hSw; go_simp; try with_reducible rfl)
    try simp only [Act.put, List.setIfInBounds_toArray, List.set_cons_zero, List.set_cons_succ]
    refine wpAnyH_done (by kernel_rfl) ?_ _
    go_wp2_with fail
    go_ret
    exact ⟨rfl, T4.out.trans (BC.out.mono T4.out.size)⟩
  · go_wp2_with fail
    refine wp_region_held_drew (S := fun W => Below w4.heap.size w4 W) (by kernel_rfl) Below.drew_ (fun hHeld => ?_)
    have BC := Lib.hid hHeld
    refine takeW18 (i := 0) rfl (by kernel_rfl) (by kernel_rfl) (by kernel_rfl) (fun _ _ _ h => h) (by rfl) (fun W hW => exec_ld18 rfl rfl ((hW.block _ (Array.getElem?_eq_some_iff.1 ROW4.out).1).trans ROW4.out) rfl) (by assumption) ?_
    try simp only [Act.put, List.setIfInBounds_toArray, List.set_cons_zero, List.set_cons_succ]
    refine takeW18 (i := 2) rfl (by kernel_rfl) (by kernel_rfl) (by kernel_rfl) (fun _ _ _ h => h) (by rfl) (fun W hW => exec_ld18 rfl rfl ((hW.block _ (Array.getElem?_eq_some_iff.1 ROW4'.out).1).trans ROW4'.out) rfl) (by assumption) ?_
    try simp only [Act.put, List.setIfInBounds_toArray, List.set_cons_zero, List.set_cons_succ]
    refine takeW18 (i := 5) (v := ?v5q) rfl (by kernel_rfl) (by kernel_rfl) (by kernel_rfl) (fun _ _ _ h => h) (by rfl) ?hy5q (by assumption) ?rest5q
    case hy5q => (intro w hSw; go_simp; try with_reducible rfl)
    try simp only [Act.put, List.setIfInBounds_toArray, List.set_cons_zero, List.set_cons_succ]
    refine wpAnyH_ready (rs := [1]) (by kernel_rfl) (by simp) ?_
    refine AllReadyH.cons rfl (fun K hK => ?_) AllReadyH.nil
    rw [if_pos (by rfl)]
    go_simp
    refine (CK.out _ (T4.out.trans (BC.out.mono T4.out.size))).mono ?_
    rintro e w5 ⟨rfl, hb⟩
    replace BC := Lib.hid (BC.out.trans (hb.mono BC.out.size))
    clear hb
    go_simp
    refine hK.out _ _ BC.out (fun hHeld => ?_)
    try simp only [Act.put, List.setIfInBounds_toArray, List.set_cons_zero, List.set_cons_succ]
    clear hK K
    refine wpAnyH_ready (rs := [3]) (by kernel_rfl) (by simp) ?_
    refine AllReadyH.cons rfl (fun K hK => ?_) AllReadyH.nil
    rw [if_pos (by rfl)]
    go_simp
    refine (CK'.out _ (T4.out.trans (BC.out.mono T4.out.size))).mono ?_
    rintro e w6 ⟨rfl, hb⟩
    replace BC := Lib.hid (BC.out.trans (hb.mono BC.out.size))
    clear hb
    go_simp
    refine hK.out _ _ BC.out (fun hHeld => ?_)
    try simp only [Act.put, List.setIfInBounds_toArray, List.set_cons_zero, List.set_cons_succ]
    clear hK K
    refine takeW18 (i := 4) (v := ?v4q) rfl (by kernel_rfl) (by kernel_rfl) (by kernel_rfl) (fun _ _ _ h => h) (by rfl) ?hy4q (by assumption) ?rest4q
    case hy4q => (intro w hSw; go_simp; try with_reducible rfl)
    try simp only [Act.put, List.setIfInBounds_toArray, List.set_cons_zero, List.set_cons_succ]
    refine takeW18 (i := 6) (v := ?v6q) rfl (by kernel_rfl) (by kernel_rfl) (by kernel_rfl) (fun _ _ _ h => h) (by rfl) ?hy6q (by assumption) ?rest6q
    case hy6q => (intro w hSw; go_simp; try with_reducible rfl)
    try simp only [Act.put, List.setIfInBounds_toArray, List.set_cons_zero, List.set_cons_succ]
    refine takeW18 (i := 7) (v := ?v7q) rfl (by kernel_rfl) (by kernel_rfl) (by kernel_rfl) (fun _ _ _ h => h) (by rfl) ?hy7q (by assumption) ?rest7q
    case hy7q => (intro w hSw; go_simp; try with_reducible rfl)
    try simp only [Act.put, List.setIfInBounds_toArray, List.set_cons_zero, List.set_cons_succ]
    refine wpAnyH_ready (rs := [8]) (by kernel_rfl) (by simp) ?_
    refine AllReadyH.cons rfl (fun K hK => ?_) AllReadyH.nil
    rw [if_pos (by rfl)]
    go_simp
    refine (CH.out _ (T4.out.trans (BC.out.mono T4.out.size))).mono ?_
    rintro e w7 ⟨rfl, hb⟩
    replace BC := Lib.hid (BC.out.trans (hb.mono BC.out.size))
    clear hb
    go_simp
    refine hK.out _ _ BC.out (fun hHeld => ?_)
    try simp only [Act.put, List.setIfInBounds_toArray, List.set_cons_zero, List.set_cons_succ]
    clear hK K
    refine takeW18 (i := 9) (v := ?v9q) rfl (by kernel_rfl) (by kernel_rfl) (by kernel_rfl) (fun _ _ _ h => h) (by rfl) ?hy9q (by assumption) ?rest9q
    case hy9q => (intro w hSw; go_simp; try with_reducible rfl)
    try simp only [Act.put, List.setIfInBounds_toArray, List.set_cons_zero, List.set_cons_succ]
    refine takeW18 (i := 10) (v := ?v10q) rfl (by kernel_rfl) (by kernel_rfl) (by kernel_rfl) (fun _ _ _ h => h) (by rfl) ?hy10q (by assumption) ?rest10q
    case hy10q => (intro w hSw; go_simp; try with_reducible rfl)
    try simp only [Act.put, List.setIfInBounds_toArray, List.set_cons_zero, List.set_cons_succ]
    refine wpAnyH_done (by kernel_rfl) ?_ _
    go_wp2_with fail
    go_ret
    exact ⟨rfl, T4.out.trans (BC.out.mono T4.out.size)⟩
  · go_wp2_with fail
    refine wp_region_held_drew (S := fun W => Below w4.heap.size w4 W) (by kernel_rfl) Below.drew_ (fun hHeld => ?_)
    have BC := Lib.hid hHeld
    refine takeW18 (i := 0) rfl (by kernel_rfl) (by kernel_rfl) (by kernel_rfl) (fun _ _ _ h => h) (by rfl) (fun W hW => exec_ld18 rfl rfl ((hW.block _ (Array.getElem?_eq_some_iff.1 ROW4.out).1).trans ROW4.out) rfl) (by assumption) ?_
    try simp only [Act.put, List.setIfInBounds_toArray, List.set_cons_zero, List.set_cons_succ]
    refine takeW18 (i := 2) rfl (by kernel_rfl) (by kernel_rfl) (by kernel_rfl) (fun _ _ _ h => h) (by rfl) (fun W hW => exec_ld18 rfl rfl ((hW.block _ (Array.getElem?_eq_some_iff.1 ROW4'.out).1).trans ROW4'.out) rfl) (by assumption) ?_
    try simp only [Act.put, List.setIfInBounds_toArray, List.set_cons_zero, List.set_cons_succ]
    refine takeW18 (i := 5) (v := ?v5r) rfl (by kernel_rfl) (by kernel_rfl) (by kernel_rfl) (fun _ _ _ h => h) (by rfl) ?hy5r (by assumption) ?rest5r
    case hy5r => (intro w hSw; go_simp; try with_reducible rfl)
    try simp only [Act.put, List.setIfInBounds_toArray, List.set_cons_zero, List.set_cons_succ]
    refine wpAnyH_ready (rs := [1]) (by kernel_rfl) (by simp) ?_
    refine AllReadyH.cons rfl (fun K hK => ?_) AllReadyH.nil
    rw [if_pos (by rfl)]
    go_simp
    refine (CK.out _ (T4.out.trans (BC.out.mono T4.out.size))).mono ?_
    rintro e w5 ⟨rfl, hb⟩
    replace BC := Lib.hid (BC.out.trans (hb.mono BC.out.size))
    clear hb
    go_simp
    refine hK.out _ _ BC.out (fun hHeld => ?_)
    try simp only [Act.put, List.setIfInBounds_toArray, List.set_cons_zero, List.set_cons_succ]
    clear hK K
    refine wpAnyH_ready (rs := [3]) (by kernel_rfl) (by simp) ?_
    refine AllReadyH.cons rfl (fun K hK => ?_) AllReadyH.nil
    rw [if_pos (by rfl)]
    go_simp
    refine (CK'.out _ (T4.out.trans (BC.out.mono T4.out.size))).mono ?_
    rintro e w6 ⟨rfl, hb⟩
    replace BC := Lib.hid (BC.out.trans (hb.mono BC.out.size))
    clear hb
    go_simp
    refine hK.out _ _ BC.out (fun hHeld => ?_)
    try simp only [Act.put, List.setIfInBounds_toArray, List.set_cons_zero, List.set_cons_succ]
    clear hK K
    refine takeW18 (i := 4) (v := ?v4r) rfl (by kernel_rfl) (by kernel_rfl) (by kernel_rfl) (fun _ _ _ h => h) (by rfl) ?hy4r (by assumption) ?rest4r
    case hy4r => (intro w hSw; go_simp; try with_reducible rfl)
    try simp only [Act.put, List.setIfInBounds_toArray, List.set_cons_zero, List.set_cons_succ]
    refine takeW18 (i := 6) (v := ?v6r) rfl (by kernel_rfl) (by kernel_rfl) (by kernel_rfl) (fun _ _ _ h => h) (by rfl) ?hy6r (by assumption) ?rest6r
    case hy6r => (intro w hSw; go_simp; try with_reducible rfl)
    try simp only [Act.put, List.setIfInBounds_toArray, List.set_cons_zero, List.set_cons_succ]
    refine takeW18 (i := 7) (v := ?v7r) rfl (by kernel_rfl) (by kernel_rfl) (by kernel_rfl) (fun _ _ _ h => h) (by rfl) ?hy7r (by assumption) ?rest7r
    case hy7r => (intro w hSw; go_simp; try with_reducible rfl)
    try simp only [Act.put, List.setIfInBounds_toArray, List.set_cons_zero, List.set_cons_succ]
    refine wpAnyH_ready (rs := [8]) (by kernel_rfl) (by simp) ?_
    refine AllReadyH.cons rfl (fun K hK => ?_) AllReadyH.nil
    rw [if_pos (by rfl)]
    go_simp
    refine (CH.out _ (T4.out.trans (BC.out.mono T4.out.size))).mono ?_
    rintro e w7 ⟨rfl, hb⟩
    replace BC := Lib.hid (BC.out.trans (hb.mono BC.out.size))
    clear hb
    go_simp
    refine hK.out _ _ BC.out (fun hHeld => ?_)
    try simp only [Act.put, List.setIfInBounds_toArray, List.set_cons_zero, List.set_cons_succ]
    clear hK K
    refine takeW18 (i := 9) (v := ?v9r) rfl (by kernel_rfl) (by kernel_rfl) (by kernel_rfl) (fun _ _ _ h => h) (by rfl) ?hy9r (by assumption) ?rest9r
    case hy9r => (intro w hSw; go_simp; try with_reducible rfl)
    try simp only [Act.put, List.setIfInBounds_toArray, List.set_cons_zero, List.set_cons_succ]
    refine takeW18 (i := 10) (v := ?v10r) rfl (by kernel_rfl) (by kernel_rfl) (by kernel_rfl) (fun _ _ _ h => h) (by rfl) ?hy10r (by assumption) ?rest10r
    case hy10r => (intro w hSw; go_simp; try with_reducible rfl)
    try simp only [Act.put, List.setIfInBounds_toArray, List.set_cons_zero, List.set_cons_succ]
    refine wpAnyH_done (by kernel_rfl) ?_ _
    go_wp2_with fail
    go_ret
    exact ⟨rfl, T4.out.trans (BC.out.mono T4.out.size)⟩
  · go_wp2_with fail
    refine wp_region_held_drew (S := fun W => Below w4.heap.size w4 W) (by kernel_rfl) Below.drew_ (fun hHeld => ?_)
    have BC := Lib.hid hHeld
    refine takeW18 (i := 0) rfl (by kernel_rfl) (by kernel_rfl) (by kernel_rfl) (fun _ _ _ h => h) (by rfl) (fun W hW => exec_ld18 rfl rfl ((hW.block _ (Array.getElem?_eq_some_iff.1 ROW4.out).1).trans ROW4.out) rfl) (by assumption) ?_
    try simp only [Act.put, List.setIfInBounds_toArray, List.set_cons_zero, List.set_cons_succ]
    refine takeW18 (i := 2) rfl (by kernel_rfl) (by kernel_rfl) (by kernel_rfl) (fun _ _ _ h => h) (by rfl) (fun W hW => exec_ld18 rfl rfl ((hW.block _ (Array.getElem?_eq_some_iff.1 ROW4'.out).1).trans ROW4'.out) rfl) (by assumption) ?_
    try simp only [Act.put, List.setIfInBounds_toArray, List.set_cons_zero, List.set_cons_succ]
    refine takeW18 (i := 5) (v := ?v5s) rfl (by kernel_rfl) (by kernel_rfl) (by kernel_rfl) (fun _ _ _ h => h) (by rfl) ?hy5s (by assumption) ?rest5s
    case hy5s => (intro w hSw; go_simp; try with_reducible rfl)
    try simp only [Act.put, List.setIfInBounds_toArray, List.set_cons_zero, List.set_cons_succ]
    refine wpAnyH_ready (rs := [1]) (by kernel_rfl) (by simp) ?_
    refine AllReadyH.cons rfl (fun K hK => ?_) AllReadyH.nil
    rw [if_pos (by rfl)]
    go_simp
    refine (CK.out _ (T4.out.trans (BC.out.mono T4.out.size))).mono ?_
    rintro e w5 ⟨rfl, hb⟩
    replace BC := Lib.hid (BC.out.trans (hb.mono BC.out.size))
    clear hb
    go_simp
    refine hK.out _ _ BC.out (fun hHeld => ?_)
    try simp only [Act.put, List.setIfInBounds_toArray, List.set_cons_zero, List.set_cons_succ]
    clear hK K
    refine wpAnyH_ready (rs := [3]) (by kernel_rfl) (by simp) ?_
    refine AllReadyH.cons rfl (fun K hK => ?_) AllReadyH.nil
    rw [if_pos (by rfl)]
    go_simp
    refine (CK'.out _ (T4.out.trans (BC.out.mono T4.out.size))).mono ?_
    rintro e w6 ⟨rfl, hb⟩
    replace BC := Lib.hid (BC.out.trans (hb.mono BC.out.size))
    clear hb
    go_simp
    refine hK.out _ _ BC.out (fun hHeld => ?_)
    try simp only [Act.put, List.setIfInBounds_toArray, List.set_cons_zero, List.set_cons_succ]
    clear hK K
    refine takeW18 (i := 4) (v := ?v4s) rfl (by kernel_rfl) (by kernel_rfl) (by kernel_rfl) (fun _ _ _ h => h) (by rfl) ?hy4s (by assumption) ?rest4s
    case hy4s => (intro w hSw; go_simp; try with_reducible rfl)
    try simp only [Act.put, List.setIfInBounds_toArray, List.set_cons_zero, List.set_cons_succ]
    refine takeW18 (i := 6) (v := ?v6s) rfl (by kernel_rfl) (by kernel_rfl) (by kernel_rfl) (fun _ _ _ h => h) (by rfl) ?hy6s (by assumption) ?rest6s
    case hy6s => (intro w hSw; go_simp; try with_reducible rfl)
    try simp only [Act.put, List.setIfInBounds_toArray, List.set_cons_zero, List.set_cons_succ]
    refine takeW18 (i := 7) (v := ?v7s) rfl (by kernel_rfl) (by kernel_rfl) (by kernel_rfl) (fun _ _ _ h => h) (by rfl) ?hy7s (by assumption) ?rest7s
    case hy7s => (intro w hSw; go_simp; try with_reducible rfl)
    try simp only [Act.put, List.setIfInBounds_toArray, List.set_cons_zero, List.set_cons_succ]
    refine wpAnyH_ready (rs := [8]) (by kernel_rfl) (by simp) ?_
    refine AllReadyH.cons rfl (fun K hK => ?_) AllReadyH.nil
    rw [if_pos (by rfl)]
    go_simp
    refine (CH.out _ (T4.out.trans (BC.out.mono T4.out.size))).mono ?_
    rintro e w7 ⟨rfl, hb⟩
    replace BC := Lib.hid (BC.out.trans (hb.mono BC.out.size))
    clear hb
    go_simp
    refine hK.out _ _ BC.out (fun hHeld => ?_)
    try simp only [Act.put, List.setIfInBounds_toArray, List.set_cons_zero, List.set_cons_succ]
    clear hK K
    refine takeW18 (i := 9) (v := ?v9s) rfl (by kernel_rfl) (by kernel_rfl) (by kernel_rfl) (fun _ _ _ h => h) (by rfl) ?hy9s (by assumption) ?rest9s
    case hy9s => (intro w hSw; go_simp; try with_reducible rfl)
    try simp only [Act.put, List.setIfInBounds_toArray, List.set_cons_zero, List.set_cons_succ]
    refine takeW18 (i := 10) (v := ?v10s) rfl (by kernel_rfl) (by kernel_rfl) (by kernel_rfl) (fun _ _ _ h => h) (by rfl) ?hy10s (by assumption) ?rest10s
    case hy10s => (intro w hSw; go_simp; try with_reducible rfl)
    try simp only [Act.put, List.setIfInBounds_toArray, List.set_cons_zero, List.set_cons_succ]
    refine wpAnyH_done (by kernel_rfl) ?_ _
    go_wp2_with fail
    go_ret
    exact ⟨rfl, T4.out.trans (BC.out.mono T4.out.size)⟩
end Go.Proofs.YtoggkjoadiombaaGreatDoor
