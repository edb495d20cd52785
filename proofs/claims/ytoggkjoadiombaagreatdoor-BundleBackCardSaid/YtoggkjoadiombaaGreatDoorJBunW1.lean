/- BundleBack of layer 6's statements, walked. (Made by gen/bun.py.) -/
import Derived.Test.YtoggkjoadiombaaGreatDoorJBunWk
namespace Go.Proofs.YtoggkjoadiombaaGreatDoor
open Go.RowKit
set_option maxRecDepth 100000 in
set_option maxHeartbeats 8000000 in
theorem bundleBack_walk (h : BH) (l : List Blk) (A : Option Addr) (n c : Nat) (w : World) (S : Snt) (hin : BunIn w h l A n c) (hS : Wd S w) :
    Calls Tryz.prog 6 #[bunV h A n c] w fun e w' => e = .returned (.bool true) ∧ Below w.heap.size w w' := by
  obtain ⟨hd, hr, hc⟩ := hin
  have HB0 := Lib.hid ((Below.refl w.heap.size w).alloc (Nat.le_refl _) (.cells #[.int .u64 (h.flg : Int), .int .i64 h.crc, .int .i64 h.dsc, .string h.dnm, .int .u64 (h.dn : Int), .int .u64 (h.dv : Int), .int .i64 h.ssc, .string h.snm, .int .u64 (h.sn : Int), .int .u64 (h.sv : Int), .int .i64 h.rsc, .string h.rnm, .int .u64 (h.rn : Int), .int .u64 (h.rv : Int), .int .u64 (h.tim : Int), .int .u64 (h.seq : Int), .int .u64 (h.lif : Int), .slice A n c] 28))
  have HRW := Lib.hid (fun (W : World) (hb : Below (w.heap.size + 1) (w.alloc (.cells #[.int .u64 (h.flg : Int), .int .i64 h.crc, .int .i64 h.dsc, .string h.dnm, .int .u64 (h.dn : Int), .int .u64 (h.dv : Int), .int .i64 h.ssc, .string h.snm, .int .u64 (h.sn : Int), .int .u64 (h.sv : Int), .int .i64 h.rsc, .string h.rnm, .int .u64 (h.rn : Int), .int .u64 (h.rv : Int), .int .u64 (h.tim : Int), .int .u64 (h.seq : Int), .int .u64 (h.lif : Int), .slice A n c] 28)) W) => row_of_box rfl hb)
  have HW0 : Hid (Below (w.heap.size + 1) (w.alloc (.cells #[.int .u64 (h.flg : Int), .int .i64 h.crc, .int .i64 h.dsc, .string h.dnm, .int .u64 (h.dn : Int), .int .u64 (h.dv : Int), .int .i64 h.ssc, .string h.snm, .int .u64 (h.sn : Int), .int .u64 (h.sv : Int), .int .i64 h.rsc, .string h.rnm, .int .u64 (h.rn : Int), .int .u64 (h.rv : Int), .int .u64 (h.tim : Int), .int .u64 (h.seq : Int), .int .u64 (h.lif : Int), .slice A n c] 28)) (w.alloc (.cells #[.int .u64 (h.flg : Int), .int .i64 h.crc, .int .i64 h.dsc, .string h.dnm, .int .u64 (h.dn : Int), .int .u64 (h.dv : Int), .int .i64 h.ssc, .string h.snm, .int .u64 (h.sn : Int), .int .u64 (h.sv : Int), .int .i64 h.rsc, .string h.rnm, .int .u64 (h.rn : Int), .int .u64 (h.rv : Int), .int .u64 (h.tim : Int), .int .u64 (h.seq : Int), .int .u64 (h.lif : Int), .slice A n c] 28))) := Below.refl _ _
  have HS0 : Hid ((w.alloc (.cells #[.int .u64 (h.flg : Int), .int .i64 h.crc, .int .i64 h.dsc, .string h.dnm, .int .u64 (h.dn : Int), .int .u64 (h.dv : Int), .int .i64 h.ssc, .string h.snm, .int .u64 (h.sn : Int), .int .u64 (h.sv : Int), .int .i64 h.rsc, .string h.rnm, .int .u64 (h.rn : Int), .int .u64 (h.rv : Int), .int .u64 (h.tim : Int), .int .u64 (h.seq : Int), .int .u64 (h.lif : Int), .slice A n c] 28)).heap.size = w.heap.size + 1) := by show _ = _; simp
  have HSW := Lib.hid (fun (W : World) (hb : Below w.heap.size w W) => hS.below hb (Nat.le_refl _))
  have CH := Lib.hid (fun (W : World) (hb : Below w.heap.size w W) => heads06_any S W (hS.below hb (Nat.le_refl _)))
  have HRL := Lib.hid (fun (W : World) (hb : Below w.heap.size w W) => (hr.below hb).more hb.size)
  have CF := Lib.hid (few06_any h l A n c (w.alloc (.cells #[.int .u64 (h.flg : Int), .int .i64 h.crc, .int .i64 h.dsc, .string h.dnm, .int .u64 (h.dn : Int), .int .u64 (h.dv : Int), .int .i64 h.ssc, .string h.snm, .int .u64 (h.sn : Int), .int .u64 (h.sv : Int), .int .i64 h.rsc, .string h.rnm, .int .u64 (h.rn : Int), .int .u64 (h.rv : Int), .int .u64 (h.tim : Int), .int .u64 (h.seq : Int), .int .u64 (h.lif : Int), .slice A n c] 28)).heap.size (w.alloc (.cells #[.int .u64 (h.flg : Int), .int .i64 h.crc, .int .i64 h.dsc, .string h.dnm, .int .u64 (h.dn : Int), .int .u64 (h.dv : Int), .int .i64 h.ssc, .string h.snm, .int .u64 (h.sn : Int), .int .u64 (h.sv : Int), .int .i64 h.rsc, .string h.rnm, .int .u64 (h.rn : Int), .int .u64 (h.rv : Int), .int .u64 (h.tim : Int), .int .u64 (h.seq : Int), .int .u64 (h.lif : Int), .slice A n c] 28)) (HRL.out _ HB0.out) (Nat.le_refl _))
  have CE := Lib.hid (fun (W : World) (hb : Below w.heap.size w W) => uencode_any S h l A n c W.heap.size W (hS.below hb (Nat.le_refl _)) hd ((hr.below hb).more hb.size) (Nat.le_refl _) hc)
  have HZ := Lib.hid (show ((encU (h.bun l)).2 = 0 → IsBun (encU (h.bun l)).1 (h.bun l)) ∧ ((encU (h.bun l)).2 ≠ 0 → (encU (h.bun l)).1 = []) from ⟨fun h0 => (isBun_enc hd hr.bd h0).1, enc_no⟩)
  have HN := Lib.hid hr.1
  have ROW0 := Lib.hid (HRW.out _ HW0.out)
  clear hd hr hc hS
  generalize (encU (h.bun l)).2 = z at *
  generalize (encU (h.bun l)).1 = L at *
  unfold bunV at *
  go_enter Tryz.func6, Tryz.ntmps6
  go_wp2_with (first
    | (refine wpList_ld18 rfl (.tmp 1) rfl _ rfl _ _ ROW0.out rfl ?_)
    | fail)
  refine CF.out.mono ?_
  rintro e w1 ⟨R, rfl, hb1⟩
  have B1 := Lib.hid (Below.push HW0.out (Nat.le_of_eq HS0.out.symm) hb1)
  have T1 := Lib.hid (HB0.out.trans (B1.out.mono (Nat.le_succ _)))
  have ROW1 := Lib.hid (HRW.out _ B1.out)
  clear hb1 ROW0
  cases R with
  | false =>
    go_wp2_with fail
    refine (CH.out w1 T1.out).mono ?_
    rintro e w2 ⟨rfl, hb2⟩
    have T2 := Lib.hid (T1.out.trans (hb2.mono T1.out.size))
    clear hb2
    go_wp2_with fail
    go_ret
    exact ⟨rfl, T2.out⟩
  | true =>
    go_wp2_with (first
      | (refine wpList_ld18 rfl (.tmp 1) rfl _ rfl _ _ ROW1.out rfl ?_)
      | fail)
    refine (CE.out w1 T1.out).mono ?_
    rintro e w2 ⟨hb2, v2, rfl, ho2⟩
    have B2 := Lib.hid (Below.push B1.out (Nat.le_of_eq HS0.out.symm) hb2)
    have T2 := Lib.hid (T1.out.trans (hb2.mono T1.out.size))
    have ROW2 := Lib.hid (HRW.out _ B2.out)
    clear hb2 ROW1
    by_cases hz : z = 0
    · subst hz
      have HIS := Lib.hid (HZ.out.1 rfl)
      have e4 : (L.length : Int) ≤ 4096 := by have := HIS.out.2.2.2.2; omega
      have e5 : decide ((L.length : Int) ≤ 4096) = true := decide_eq_true e4
      obtain ⟨A2, c2, rfl, hc2, -, hr2⟩ := ho2.rdn rfl
      have CD := Lib.hid (udecode_any S A2 L.length c2 w2.heap.size L w2 (HSW.out _ T2.out) (Nat.le_refl _) hr2 (by have := HIS.out.2.2.2.2; omega) hc2)
      clear ho2 hc2 hr2
      go_wp2_with fail
      refine CD.out.mono ?_
      rintro e w3 ⟨hb3, ⟨h3, xs, A3, n3, c3, rfl, hbd, hrl, hc3, his⟩ | ⟨hno, -⟩⟩
      case inr => exact absurd HIS.out (hno _)
      obtain ⟨eh, el⟩ := BH.bun_inj (HIS.out.uniq his)
      subst eh el
      have en : n = n3 := HN.out.symm.trans hrl.1
      subst en
      have B3 := Lib.hid (Below.push B2.out (Nat.le_of_eq HS0.out.symm) hb3)
      have R3 := Lib.hid hrl.unmask_
      clear hb3 hbd hrl hc3 his
      unfold bunV at *
      go_wp2_with (first
        | (refine wpList_st18 rfl 28 (.tmp 5) (.tmp 27) rfl _ rfl rfl _ _ (heap_alloc_new w3 _) info_bun rfl rfl ?_; intro W4 hrow4 _ _ hbel hsz4; have B4 := Lib.hid (hbel _ _ (B3.out.alloc (by have := B3.out.size; have := HS0.out; omega) _) (by have := B3.out.size; have := HS0.out; omega)); have D4 := Lib.hid (hbel _ _ ((Below.refl w3.heap.size w3).alloc (Nat.le_refl _) _) (Nat.le_refl _)); have ROW4 := Lib.hid hrow4; have ROWB := Lib.hid (HRW.out _ B4.out); clear hbel hrow4 hsz4)
        | (refine wpList_ld18G (by rfl) (.tmp 1) rfl _ rfl _ _ ROWB.out rfl ?_)
        | (refine wpList_ld18G (by rfl) (.tmp 5) rfl _ rfl _ _ ROW4.out rfl ?_)
        | fail)
      have T4 := Lib.hid (HB0.out.trans (B4.out.mono (Nat.le_succ _)))
      refine (rsameU_true h l A A3 n c c3 W4.heap.size W4 (HRL.out _ T4.out) ((R3.out.below D4.out).more D4.out.size) (Nat.le_refl _)).mono ?_
      rintro e w5 ⟨rfl, hb5⟩
      have T5 := Lib.hid (T4.out.trans (hb5.mono T4.out.size))
      clear hb5
      go_wp2_with fail
      refine (CH.out w5 T5.out).mono ?_
      rintro e w6 ⟨rfl, hb6⟩
      have T6 := Lib.hid (T5.out.trans (hb6.mono T5.out.size))
      clear hb6
      go_wp2_with fail
      go_ret
      exact ⟨rfl, T6.out⟩
    · have e1 : (z != 0) = true := by simpa using hz
      obtain rfl : L = [] := HZ.out.2 hz
      obtain ⟨A2, c2, rfl, -, -, -⟩ := ho2.rdn (n := 0) rfl
      clear ho2
      go_wp2_with fail
      refine (CH.out w2 T2.out).mono ?_
      rintro e w3 ⟨rfl, hb3⟩
      have T3 := Lib.hid (T2.out.trans (hb3.mono T2.out.size))
      clear hb3
      go_wp2_with fail
      go_ret
      exact ⟨rfl, T3.out⟩
end Go.Proofs.YtoggkjoadiombaaGreatDoor
