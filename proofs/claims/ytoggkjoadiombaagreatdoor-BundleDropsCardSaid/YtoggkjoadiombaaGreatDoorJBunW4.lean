/- BundleDrops of layer 6's statements, walked. (Made by gen/BunW4.py and gen/bun.py.) -/
import Derived.Test.YtoggkjoadiombaaGreatDoorJBunWk
namespace Go.Proofs.YtoggkjoadiombaaGreatDoor
open Go.RowKit
theorem put_at {l : List Blk} {x : Blk} {N : Nat} (hl : l.length = N + 1) (hi : N < (putB l x).length) : (putB l x)[N]'hi = x := by
  have h : (putB l x)[N]? = some x := by
    unfold putB
    rw [List.getElem?_append_right (by rw [List.length_take]; omega)]
    have e : N - (l.take (l.length - 1)).length = 0 := by rw [List.length_take]; omega
    rw [e]
    rfl
  exact (List.getElem?_eq_some_iff.1 h).2
theorem length_of_cau {h : BH} {l : List Blk} (hz : cauU (h.bun l) = 0) : 1 ≤ l.length := by
  have hf := (cauU_0.1 hz).2.2
  unfold blksOk at hf
  simp only [Bool.and_eq_true, decide_eq_true_eq] at hf
  have e : (h.bun l).blks = l := rfl
  rw [e] at hf
  omega
set_option maxRecDepth 100000 in
set_option maxHeartbeats 16000000 in
theorem bundleDrops_walk (h : BH) (l : List Blk) (A : Option Addr) (n c : Nat) (x : Blk) (Ax : Option Addr) (nx cx : Nat) (w : World) (S : Snt) (hin : BunIn w h l A n c) (hxin : BlkIn2 w x Ax nx cx) (hS : Wd S w) :
    Calls Tryz.prog 8 #[bunV h A n c, blkV x.typ x.num x.flg x.crc Ax nx cx] w fun e w' => e = .returned (.bool true) ∧ Below w.heap.size w w' := by
  obtain ⟨hd, hr, hc⟩ := hin
  obtain ⟨hbx, hnx, hrx⟩ := hxin
  have HB0 := Lib.hid (((Below.refl w.heap.size w).alloc (Nat.le_refl _) (.cells #[.int .u64 (h.flg : Int), .int .i64 h.crc, .int .i64 h.dsc, .string h.dnm, .int .u64 (h.dn : Int), .int .u64 (h.dv : Int), .int .i64 h.ssc, .string h.snm, .int .u64 (h.sn : Int), .int .u64 (h.sv : Int), .int .i64 h.rsc, .string h.rnm, .int .u64 (h.rn : Int), .int .u64 (h.rv : Int), .int .u64 (h.tim : Int), .int .u64 (h.seq : Int), .int .u64 (h.lif : Int), .slice A n c] 28)).alloc (le_alloc _ _) (.cells #[.int .u64 (x.typ : Int), .int .u64 (x.num : Int), .int .u64 (x.flg : Int), .int .i64 x.crc, .slice Ax nx cx] 44))
  have HW0 : Hid (Below (w.heap.size + 2) ((w.alloc (.cells #[.int .u64 (h.flg : Int), .int .i64 h.crc, .int .i64 h.dsc, .string h.dnm, .int .u64 (h.dn : Int), .int .u64 (h.dv : Int), .int .i64 h.ssc, .string h.snm, .int .u64 (h.sn : Int), .int .u64 (h.sv : Int), .int .i64 h.rsc, .string h.rnm, .int .u64 (h.rn : Int), .int .u64 (h.rv : Int), .int .u64 (h.tim : Int), .int .u64 (h.seq : Int), .int .u64 (h.lif : Int), .slice A n c] 28)).alloc (.cells #[.int .u64 (x.typ : Int), .int .u64 (x.num : Int), .int .u64 (x.flg : Int), .int .i64 x.crc, .slice Ax nx cx] 44)) ((w.alloc (.cells #[.int .u64 (h.flg : Int), .int .i64 h.crc, .int .i64 h.dsc, .string h.dnm, .int .u64 (h.dn : Int), .int .u64 (h.dv : Int), .int .i64 h.ssc, .string h.snm, .int .u64 (h.sn : Int), .int .u64 (h.sv : Int), .int .i64 h.rsc, .string h.rnm, .int .u64 (h.rn : Int), .int .u64 (h.rv : Int), .int .u64 (h.tim : Int), .int .u64 (h.seq : Int), .int .u64 (h.lif : Int), .slice A n c] 28)).alloc (.cells #[.int .u64 (x.typ : Int), .int .u64 (x.num : Int), .int .u64 (x.flg : Int), .int .i64 x.crc, .slice Ax nx cx] 44))) := Below.refl _ _
  have HS0 : Hid (((w.alloc (.cells #[.int .u64 (h.flg : Int), .int .i64 h.crc, .int .i64 h.dsc, .string h.dnm, .int .u64 (h.dn : Int), .int .u64 (h.dv : Int), .int .i64 h.ssc, .string h.snm, .int .u64 (h.sn : Int), .int .u64 (h.sv : Int), .int .i64 h.rsc, .string h.rnm, .int .u64 (h.rn : Int), .int .u64 (h.rv : Int), .int .u64 (h.tim : Int), .int .u64 (h.seq : Int), .int .u64 (h.lif : Int), .slice A n c] 28)).alloc (.cells #[.int .u64 (x.typ : Int), .int .u64 (x.num : Int), .int .u64 (x.flg : Int), .int .i64 x.crc, .slice Ax nx cx] 44)).heap.size = w.heap.size + 2) := by show _ = _; simp
  have HX1 := Lib.hid (fun (W : World) (hb : Below (w.heap.size + 2) ((w.alloc (.cells #[.int .u64 (h.flg : Int), .int .i64 h.crc, .int .i64 h.dsc, .string h.dnm, .int .u64 (h.dn : Int), .int .u64 (h.dv : Int), .int .i64 h.ssc, .string h.snm, .int .u64 (h.sn : Int), .int .u64 (h.sv : Int), .int .i64 h.rsc, .string h.rnm, .int .u64 (h.rn : Int), .int .u64 (h.rv : Int), .int .u64 (h.tim : Int), .int .u64 (h.seq : Int), .int .u64 (h.lif : Int), .slice A n c] 28)).alloc (.cells #[.int .u64 (x.typ : Int), .int .u64 (x.num : Int), .int .u64 (x.flg : Int), .int .i64 x.crc, .slice Ax nx cx] 44)) W) => (row_of_box (w := w) (g := w.heap.size) rfl (((Below.refl (w.heap.size + 1) (w.alloc (.cells #[.int .u64 (h.flg : Int), .int .i64 h.crc, .int .i64 h.dsc, .string h.dnm, .int .u64 (h.dn : Int), .int .u64 (h.dv : Int), .int .i64 h.ssc, .string h.snm, .int .u64 (h.sn : Int), .int .u64 (h.sv : Int), .int .i64 h.rsc, .string h.rnm, .int .u64 (h.rn : Int), .int .u64 (h.rv : Int), .int .u64 (h.tim : Int), .int .u64 (h.seq : Int), .int .u64 (h.lif : Int), .slice A n c] 28))).alloc (by simp) (.cells #[.int .u64 (x.typ : Int), .int .u64 (x.num : Int), .int .u64 (x.flg : Int), .int .i64 x.crc, .slice Ax nx cx] 44)).trans (hb.mono (Nat.le_succ _)))))
  have HX2 := Lib.hid (fun (W : World) (hb : Below (w.heap.size + 2) ((w.alloc (.cells #[.int .u64 (h.flg : Int), .int .i64 h.crc, .int .i64 h.dsc, .string h.dnm, .int .u64 (h.dn : Int), .int .u64 (h.dv : Int), .int .i64 h.ssc, .string h.snm, .int .u64 (h.sn : Int), .int .u64 (h.sv : Int), .int .i64 h.rsc, .string h.rnm, .int .u64 (h.rn : Int), .int .u64 (h.rv : Int), .int .u64 (h.tim : Int), .int .u64 (h.seq : Int), .int .u64 (h.lif : Int), .slice A n c] 28)).alloc (.cells #[.int .u64 (x.typ : Int), .int .u64 (x.num : Int), .int .u64 (x.flg : Int), .int .i64 x.crc, .slice Ax nx cx] 44)) W) => (row_of_box (w := w.alloc (.cells #[.int .u64 (h.flg : Int), .int .i64 h.crc, .int .i64 h.dsc, .string h.dnm, .int .u64 (h.dn : Int), .int .u64 (h.dv : Int), .int .i64 h.ssc, .string h.snm, .int .u64 (h.sn : Int), .int .u64 (h.sv : Int), .int .i64 h.rsc, .string h.rnm, .int .u64 (h.rn : Int), .int .u64 (h.rv : Int), .int .u64 (h.tim : Int), .int .u64 (h.seq : Int), .int .u64 (h.lif : Int), .slice A n c] 28)) (g := w.heap.size + 1) (by simp) hb))
  have CH := Lib.hid (fun (W : World) (hb : Below w.heap.size w W) => heads06_any S W (hS.below hb (Nat.le_refl _)))
  have HSW := Lib.hid (fun (W : World) (hb : Below w.heap.size w W) => hS.below hb (Nat.le_refl _))
  have HRL := Lib.hid (fun (W : World) (hb : Below w.heap.size w W) => (hr.below hb).more hb.size)
  have HRX := Lib.hid (fun (W : World) (hb : Below w.heap.size w W) => (hrx.below hb).more hb.size)
  have CF := Lib.hid (fun (W : World) (hb : Below w.heap.size w W) => few06_any h l A n c W.heap.size W ((hr.below hb).more hb.size) (Nat.le_refl _))
  have CP := Lib.hid (fun (W : World) (hb : Below w.heap.size w W) => uput_any S h l A n c W.heap.size x Ax nx cx W (hS.below hb (Nat.le_refl _)) hd ((hr.below hb).more hb.size) (Nat.le_refl _) hc hbx hnx ((hrx.below hb).more hb.size))
  have HN : Hid (l.length = n ∧ x.dat.length = nx ∧ h.Bd) := ⟨hr.1, hrx.1, hd⟩
  have ROWa := Lib.hid (HX1.out _ HW0.out)
  have ROWb := Lib.hid (HX2.out _ HW0.out)
  have HNX : Hid (nx ≤ 140737488355328) := hnx.2
  clear hd hr hc hS hbx hnx hrx
  unfold bunV blkV at *
  go_enter Tryz.func8, Tryz.ntmps8
  go_wp2_with (first
    | (refine wpList_ld18 rfl (.tmp 2) rfl _ rfl _ _ ROWa.out rfl ?_)
    | fail)
  refine (CF.out _ HB0.out).mono ?_
  rintro e w1 ⟨R1, rfl, hb⟩
  have B1 := Lib.hid (Below.push HW0.out (Nat.le_of_eq HS0.out.symm) hb)
  have T1 := Lib.hid (HB0.out.trans (B1.out.mono (Nat.le_add_right _ 2)))
  have ROW1 := Lib.hid (HX1.out _ B1.out)
  have z4 := cell_row (HX2.out _ B1.out) 4 rfl
  clear hb ROWa ROWb
  cases R1 with
  | false =>
    go_wp2_with fail
    refine (CH.out w1 T1.out).mono ?_
    rintro e w2 ⟨rfl, hb⟩
    have T2 := Lib.hid (T1.out.trans (hb.mono T1.out.size))
    clear hb
    go_wp2_with fail
    go_ret
    exact ⟨rfl, T2.out⟩
  | true =>
  by_cases h5 : 5000 < nx
  · have e1 : (5000 : Int) < (nx : Int) := by omega
    have e2 : decide ((5000 : Int) < (nx : Int)) = true := decide_eq_true e1
    go_wp2_with fail
    refine (CH.out w1 T1.out).mono ?_
    rintro e w2 ⟨rfl, hb⟩
    have T2 := Lib.hid (T1.out.trans (hb.mono T1.out.size))
    clear hb
    go_wp2_with fail
    go_ret
    exact ⟨rfl, T2.out⟩
  have e1 : ¬ (5000 : Int) < (nx : Int) := by omega
  have e2 : decide ((5000 : Int) < (nx : Int)) = false := decide_eq_false e1
  have z0 := cell_row (HX2.out _ B1.out) 0 rfl
  have z1 := cell_row (HX2.out _ B1.out) 1 rfl
  have z2 := cell_row (HX2.out _ B1.out) 2 rfl
  have z3 := cell_row (HX2.out _ B1.out) 3 rfl
  go_wp2_with (first
    | (refine wpList_ld18 rfl (.tmp 2) rfl _ rfl _ _ ROW1.out rfl ?_)
    | fail)
  refine (CP.out _ T1.out).mono ?_
  clear z0 z1 z2 z3 z4 e1 e2 h5
  rintro e w2 ⟨hb, ⟨hz, hz2, A4, n4, c4, rfl, hr4, hc4⟩ | ⟨-, z, hz, rfl⟩⟩
  case inr =>
    have e1 : (z != 0) = true := by simpa using hz
    have T2 := Lib.hid (T1.out.trans (hb.mono T1.out.size))
    clear hb hz
    go_wp2_with (first
      | (refine wpList_st18 rfl 28 (.tmp 5) (.tmp 24) rfl _ rfl rfl _ _ (heap_alloc_new w2 _) info_bun rfl rfl ?_; intro W3 hrow3 _ _ hbel hsz3; have T3 := Lib.hid (hbel _ _ (T2.out.alloc T2.out.size _) T2.out.size); clear hbel hrow3 hsz3)
      | fail)
    refine (CH.out W3 T3.out).mono ?_
    rintro e w4 ⟨rfl, hb⟩
    have T4 := Lib.hid (T3.out.trans (hb.mono T3.out.size))
    clear hb
    go_wp2_with fail
    go_ret
    exact ⟨rfl, T4.out⟩
  have B2 := Lib.hid (Below.push B1.out (Nat.le_of_eq HS0.out.symm) hb)
  have R4 := Lib.hid hr4.unmask_
  have HC4 : Hid (n4 ≤ c4) := hc4
  have hl1 := length_of_cau hz
  obtain ⟨N, hN⟩ : ∃ N, l.length = N + 1 := ⟨l.length - 1, by omega⟩
  have HL : Hid (l.length = N + 1) := hN
  have HZ : Hid (cauU (h.bun (putB l x)) = 0) := hz2
  have hplc : plc (pNum x.num) (putB l x) 0 = (N : Int) := by rw [put_plc hz2 hl1]; congr 1; omega
  have HPL := Lib.hid hplc
  have HPD : Hid ((putB l x).take N ++ (putB l x).drop (N + 1) = l) := by
    have := put_drop (l := l) (x := x) hl1
    rw [show l.length - 1 = N by omega] at this
    exact this
  have HN4 : Hid (n4 = N + 2) := by show _ = _; rw [← hr4.1, put_len, hN]
  clear hb hr4 hc4 hz hz2 hl1 hN hplc ROW1
  unfold bunV at *
  go_wp2_with (first
    | (refine wpList_st18 rfl 28 (.tmp 5) (.tmp 24) rfl _ rfl rfl _ _ (heap_alloc_new w2 _) info_bun rfl rfl ?_; intro W3 hrow3 _ _ hbel hsz3; have B3 := Lib.hid (hbel _ _ (B2.out.alloc (by have := B2.out.size; have := HS0.out; omega) _) (by have := B2.out.size; have := HS0.out; omega)); have D3 := Lib.hid (hbel _ _ ((Below.refl w2.heap.size w2).alloc (Nat.le_refl _) _) (Nat.le_refl _)); have ROW3 := Lib.hid hrow3; have z1 := cell_row (HX2.out _ B3.out) 1 rfl; have HZ3 : Hid (W3.heap.size = w2.heap.size + 1) := (by show _ = _; rw [hsz3]; simp); clear hbel hrow3 hsz3)
    | (refine wpList_ld18 rfl (.tmp 5) rfl _ rfl _ _ ROW3.out rfl ?_)
    | fail)
  have T3 := Lib.hid (HB0.out.trans (B3.out.mono (Nat.le_add_right _ 2)))
  refine (ufind_any h (putB l x) A4 n4 c4 W3.heap.size x.num W3 ((R4.out.below D3.out).more D3.out.size) (Nat.le_refl _)).mono ?_
  rintro e w4 ⟨rfl, hb⟩
  rw [HPL.out]
  have B4 := Lib.hid (Below.push B3.out (Nat.le_of_eq HS0.out.symm) hb)
  have T4 := Lib.hid (HB0.out.trans (B4.out.mono (Nat.le_add_right _ 2)))
  have D4 := Lib.hid (D3.out.trans (hb.mono D3.out.size))
  have ROW4 := Lib.hid ((hb.block _ (Array.getElem?_eq_some_iff.1 ROW3.out).1).trans ROW3.out)
  clear hb ROW3 z1
  have z1 := cell_row (HX2.out _ B4.out) 1 rfl
  go_wp2_with (first
    | (refine wpList_ld18 rfl (.tmp 5) rfl _ rfl _ _ ROW4.out rfl ?_)
    | fail)
  refine (udrop_any S h (putB l x) A4 n4 c4 w4.heap.size x.num w4 (HSW.out _ T4.out) HN.out.2.2 ((R4.out.below D4.out).more D4.out.size) (Nat.le_refl _) HC4.out).mono ?_
  rintro e w5 ⟨hb, ⟨k, -, hk, -, A5, n5, c5, rfl, hr5, hc5⟩ | ⟨hno, -⟩⟩
  case inr => exact absurd ⟨HZ.out, by rw [HPL.out]; omega, by rw [HPL.out, put_len, HL.out]; omega⟩ hno
  obtain rfl : N = k := by rw [HPL.out] at hk; omega
  rw [HPD.out] at hr5
  have e5 : n = n5 := HN.out.1.symm.trans hr5.1
  subst e5
  have B5 := Lib.hid (Below.push B4.out (Nat.le_of_eq HS0.out.symm) hb)
  have D5 := Lib.hid (D4.out.trans (hb.mono D4.out.size))
  have R5 := Lib.hid hr5.unmask_
  have ROW5 := Lib.hid ((hb.block _ (Array.getElem?_eq_some_iff.1 ROW4.out).1).trans ROW4.out)
  clear hb hr5 hc5 hk ROW4 z1
  unfold bunV at *
  go_wp2_with (first
    | (refine wpList_st18 rfl 28 (.tmp 8) (.tmp 38) rfl _ rfl rfl _ _ (heap_alloc_new w5 _) info_bun rfl rfl ?_; intro W6 hrow6 _ _ hbel hsz6; have B6 := Lib.hid (hbel _ _ (B5.out.alloc (by have := B5.out.size; have := HS0.out; omega) _) (by have := B5.out.size; have := HS0.out; omega)); have D6 := Lib.hid (hbel _ _ ((Below.refl w5.heap.size w5).alloc (Nat.le_refl _) _) (Nat.le_refl _)); have ROW6 := Lib.hid hrow6; clear hbel hrow6 hsz6)
    | fail)
  have T6 := Lib.hid (HB0.out.trans (B6.out.mono (Nat.le_add_right _ 2)))
  have E6 := Lib.hid (D5.out.trans (D6.out.mono D5.out.size))
  have HG1 := Lib.hid (HX1.out _ B6.out)
  have HG2 := Lib.hid (HX2.out _ B6.out)
  have HG5 := Lib.hid ((D6.out.block _ (Array.getElem?_eq_some_iff.1 ROW5.out).1).trans ROW5.out)
  have HR4 := Lib.hid ((R4.out.below E6.out).more E6.out.size)
  have HR5 := Lib.hid ((R5.out.below D6.out).more D6.out.size)
  clear R4 R5 ROW5
  obtain ⟨b4, o4, rfl, hb4, hks⟩ := HR4.out.2.1 (by have := HN4.out; omega)
  obtain ⟨Aq, nq, cq, hq⟩ := hks.get N (by rw [put_len, HL.out]; omega)
  rw [put_at HL.out] at hq
  have eq : nx = nq := HN.out.2.1.symm.trans hq.rd.1
  subst eq
  have HQ := Lib.hid (And.intro hb4 hq)
  have hn1 : (n : Int) = (N : Int) + 1 := by have h1 := HN.out.1; have h2 := HL.out; omega
  have hw1 : IntKind.i64.wrap ((n : Int) - 1) = (N : Int) := by rw [IntKind.wrap_i64, hn1]; have := HR5.out.2.2; omega
  have hw2 : wrap64 ((n : Int) - 1) = (N : Int) := by unfold wrap64; have := HR5.out.2.2; omega
  have i0 : (0 : Int) ≤ (N : Int) := by omega
  have i1 : (N : Int) < (n4 : Int) := by have := HN4.out; omega
  have HNN := Lib.hid hn1
  clear hb4 hks hq hn1 HR4
  refine wp_region_held_drew (S := fun W => Below W6.heap.size W6 W) (by kernel_rfl) Below.drew_ (fun hHeld => ?_)
  have BC := Lib.hid hHeld
  refine takeW18 (i := 0) (v := ?v0) rfl (by kernel_rfl) (by kernel_rfl) (by kernel_rfl) (fun _ _ _ h => h) (by rfl) ?hy0 (by assumption) ?rest0
  case hy0 => (intro W hW; go_simp; try with_reducible rfl)
  try simp only [Act.put, List.setIfInBounds_toArray, List.set_cons_zero, List.set_cons_succ]
  refine takeW18 (i := 1) (v := ?v1) rfl (by kernel_rfl) (by kernel_rfl) (by kernel_rfl) (fun _ _ _ h => h) (by rfl) ?hy1 (by assumption) ?rest1
  case hy1 => (intro W hW; go_simp; try with_reducible rfl)
  try simp only [Act.put, List.setIfInBounds_toArray, List.set_cons_zero, List.set_cons_succ]
  refine takeW18 (i := 2) (v := ?v2) rfl (by kernel_rfl) (by kernel_rfl) (by kernel_rfl) (fun _ _ _ h => h) (by rfl) ?hy2 (by assumption) ?rest2
  case hy2 => (intro W hW; have f17 := cell_row ((hW.block _ (Array.getElem?_eq_some_iff.1 HG1.out).1).trans HG1.out) 17 rfl; go_simp; try with_reducible rfl)
  try simp only [Act.put, List.setIfInBounds_toArray, List.set_cons_zero, List.set_cons_succ]
  refine takeW18 (i := 3) (v := ?v3) rfl (by kernel_rfl) (by kernel_rfl) (by kernel_rfl) (fun _ _ _ h => h) (by rfl) ?hy3 (by assumption) ?rest3
  case hy3 => (intro W hW; go_simp; try with_reducible rfl)
  try simp only [Act.put, List.setIfInBounds_toArray, List.set_cons_zero, List.set_cons_succ]
  refine takeW18 (i := 4) (v := ?v4) rfl (by kernel_rfl) (by kernel_rfl) (by kernel_rfl) (fun _ _ _ h => h) (by rfl) ?hy4 (by assumption) ?rest4
  case hy4 => (intro W hW; go_simp; try with_reducible rfl)
  try simp only [Act.put, List.setIfInBounds_toArray, List.set_cons_zero, List.set_cons_succ]
  refine takeW18 (i := 5) (v := ?v5) rfl (by kernel_rfl) (by kernel_rfl) (by kernel_rfl) (fun _ _ _ h => h) (by rfl) ?hy5 (by assumption) ?rest5
  case hy5 => (intro W hW; go_simp; try with_reducible rfl)
  try simp only [Act.put, List.setIfInBounds_toArray, List.set_cons_zero, List.set_cons_succ]
  refine takeW18 (i := 6) (v := ?v6) rfl (by kernel_rfl) (by kernel_rfl) (by kernel_rfl) (fun _ _ _ h => h) (by rfl) ?hy6 (by assumption) ?rest6
  case hy6 => (intro W hW; go_simp; try with_reducible rfl)
  try simp only [Act.put, List.setIfInBounds_toArray, List.set_cons_zero, List.set_cons_succ]
  refine takeW18 (i := 7) (v := ?v7) rfl (by kernel_rfl) (by kernel_rfl) (by kernel_rfl) (fun _ _ _ h => h) (by rfl) ?hy7 (by assumption) ?rest7
  case hy7 => (intro W hW; go_simp; try with_reducible rfl)
  try simp only [Act.put, List.setIfInBounds_toArray, List.set_cons_zero, List.set_cons_succ]
  refine takeW18 (i := 8) (v := ?v8) rfl (by kernel_rfl) (by kernel_rfl) (by kernel_rfl) (fun _ _ _ h => h) (by rfl) ?hy8 (by assumption) ?rest8
  case hy8 => (intro W hW; have f17 := cell_row ((hW.block _ (Array.getElem?_eq_some_iff.1 HG5.out).1).trans HG5.out) 17 rfl; go_simp; try with_reducible rfl)
  try simp only [Act.put, List.setIfInBounds_toArray, List.set_cons_zero, List.set_cons_succ]
  refine takeW18 (i := 9) (v := ?v9) rfl (by kernel_rfl) (by kernel_rfl) (by kernel_rfl) (fun _ _ _ h => h) (by rfl) ?hy9 (by assumption) ?rest9
  case hy9 => (intro W hW; go_simp; try with_reducible rfl)
  try simp only [Act.put, List.setIfInBounds_toArray, List.set_cons_zero, List.set_cons_succ]
  refine takeW18 (i := 10) (v := ?v10) rfl (by kernel_rfl) (by kernel_rfl) (by kernel_rfl) (fun _ _ _ h => h) (by rfl) ?hy10 (by assumption) ?rest10
  case hy10 => (intro W hW; go_simp; try with_reducible rfl)
  try simp only [Act.put, List.setIfInBounds_toArray, List.set_cons_zero, List.set_cons_succ]
  refine takeW18 (i := 11) (v := ?v11) rfl (by kernel_rfl) (by kernel_rfl) (by kernel_rfl) (fun _ _ _ h => h) (by rfl) ?hy11 (by assumption) ?rest11
  case hy11 => (intro W hW; have f0 := (hW.cell (p := ⟨b4, o4 + N * 5, none⟩) HQ.out.1).trans HQ.out.2.k0; have f1 := (hW.cell (p := ⟨b4, o4 + N * 5 + 1, none⟩) HQ.out.1).trans HQ.out.2.k1; have f2 := (hW.cell (p := ⟨b4, o4 + N * 5 + 2, none⟩) HQ.out.1).trans HQ.out.2.k2; have f3 := (hW.cell (p := ⟨b4, o4 + N * 5 + 3, none⟩) HQ.out.1).trans HQ.out.2.k3; have f4 := (hW.cell (p := ⟨b4, o4 + N * 5 + 4, none⟩) HQ.out.1).trans HQ.out.2.k4; go_simp; try with_reducible rfl)
  try simp only [Act.put, List.setIfInBounds_toArray, List.set_cons_zero, List.set_cons_succ]
  refine takeW18 (i := 12) (v := ?v12) rfl (by kernel_rfl) (by kernel_rfl) (by kernel_rfl) (fun _ _ _ h => h) (by rfl) ?hy12 (by assumption) ?rest12
  case hy12 => (intro W hW; have f0 := cell_row ((hW.block _ (Array.getElem?_eq_some_iff.1 HG2.out).1).trans HG2.out) 0 rfl; have f1 := cell_row ((hW.block _ (Array.getElem?_eq_some_iff.1 HG2.out).1).trans HG2.out) 1 rfl; have f2 := cell_row ((hW.block _ (Array.getElem?_eq_some_iff.1 HG2.out).1).trans HG2.out) 2 rfl; have f3 := cell_row ((hW.block _ (Array.getElem?_eq_some_iff.1 HG2.out).1).trans HG2.out) 3 rfl; have f4 := cell_row ((hW.block _ (Array.getElem?_eq_some_iff.1 HG2.out).1).trans HG2.out) 4 rfl; go_simp; try with_reducible rfl)
  try simp only [Act.put, List.setIfInBounds_toArray, List.set_cons_zero, List.set_cons_succ]
  refine wpAnyH_ready (rs := [13]) (by kernel_rfl) (by simp) ?_
  refine AllReadyH.cons rfl (fun K hK => ?_) AllReadyH.nil
  rw [if_pos (by rfl)]
  go_simp
  refine (rsameB_true x.typ x.num x.flg x.crc Aq Ax nx cq cx _ x.dat _ (Nat.le_refl _) ((HQ.out.2.rd.below BC.out).more BC.out.size) (HRX.out _ (T6.out.trans (BC.out.mono T6.out.size)))).mono ?_
  rintro e w7 ⟨rfl, hb⟩
  replace BC := Lib.hid (BC.out.trans (hb.mono BC.out.size))
  clear hb
  go_simp
  refine hK.out _ _ BC.out (fun hHeld => ?_)
  try simp only [Act.put, List.setIfInBounds_toArray, List.set_cons_zero, List.set_cons_succ]
  clear hK K
  refine takeW18 (i := 14) (v := ?v14) rfl (by kernel_rfl) (by kernel_rfl) (by kernel_rfl) (fun _ _ _ h => h) (by rfl) ?hy14 (by assumption) ?rest14
  case hy14 => (intro W hW; go_simp; try with_reducible rfl)
  try simp only [Act.put, List.setIfInBounds_toArray, List.set_cons_zero, List.set_cons_succ]
  refine takeW18 (i := 15) (v := ?v15) rfl (by kernel_rfl) (by kernel_rfl) (by kernel_rfl) (fun _ _ _ h => h) (by rfl) ?hy15 (by assumption) ?rest15
  case hy15 => (intro W hW; go_simp; try with_reducible rfl)
  try simp only [Act.put, List.setIfInBounds_toArray, List.set_cons_zero, List.set_cons_succ]
  refine takeW18 (i := 16) (v := ?v16) rfl (by kernel_rfl) (by kernel_rfl) (by kernel_rfl) (fun _ _ _ h => h) (by rfl) ?hy16 (by assumption) ?rest16
  case hy16 => (intro W hW; go_simp; try with_reducible rfl)
  try simp only [Act.put, List.setIfInBounds_toArray, List.set_cons_zero, List.set_cons_succ]
  refine takeW18 (i := 17) (v := ?v17) rfl (by kernel_rfl) (by kernel_rfl) (by kernel_rfl) (fun _ _ _ h => h) (by rfl) ?hy17 (by assumption) ?rest17
  case hy17 => (intro W hW; go_simp; try with_reducible rfl)
  try simp only [Act.put, List.setIfInBounds_toArray, List.set_cons_zero, List.set_cons_succ]
  refine takeW18 (i := 18) (v := ?v18) rfl (by kernel_rfl) (by kernel_rfl) (by kernel_rfl) (fun _ _ _ h => h) (by rfl) ?hy18 (by assumption) ?rest18
  case hy18 => (intro W hW; go_simp; try with_reducible rfl)
  try simp only [Act.put, List.setIfInBounds_toArray, List.set_cons_zero, List.set_cons_succ]
  refine takeW18 (i := 19) (v := ?v19) rfl (by kernel_rfl) (by kernel_rfl) (by kernel_rfl) (fun _ _ _ h => h) (by rfl) ?hy19 (by assumption) ?rest19
  case hy19 => (intro W hW; go_simp; try with_reducible rfl)
  try simp only [Act.put, List.setIfInBounds_toArray, List.set_cons_zero, List.set_cons_succ]
  refine takeW18 (i := 20) rfl (by kernel_rfl) (by kernel_rfl) (by kernel_rfl) (fun _ _ _ h => h) (by rfl) (fun W hW => exec_ld18 rfl rfl ((hW.block _ (Array.getElem?_eq_some_iff.1 ROW6.out).1).trans ROW6.out) rfl) (by assumption) ?_
  try simp only [Act.put, List.setIfInBounds_toArray, List.set_cons_zero, List.set_cons_succ]
  refine takeW18 (i := 21) rfl (by kernel_rfl) (by kernel_rfl) (by kernel_rfl) (fun _ _ _ h => h) (by rfl) (fun W hW => exec_ld18 rfl rfl ((hW.block _ (Array.getElem?_eq_some_iff.1 HG1.out).1).trans HG1.out) rfl) (by assumption) ?_
  try simp only [Act.put, List.setIfInBounds_toArray, List.set_cons_zero, List.set_cons_succ]
  refine wpAnyH_ready (rs := [22]) (by kernel_rfl) (by simp) ?_
  refine AllReadyH.cons rfl (fun K hK => ?_) AllReadyH.nil
  rw [if_pos (by rfl)]
  go_simp
  refine (rsameU_true h l A5 A n c5 c _ _ ((HR5.out.below BC.out).more BC.out.size) (HRL.out _ (T6.out.trans (BC.out.mono T6.out.size))) (Nat.le_refl _)).mono ?_
  rintro e w8 ⟨rfl, hb⟩
  replace BC := Lib.hid (BC.out.trans (hb.mono BC.out.size))
  clear hb
  go_simp
  refine hK.out _ _ BC.out (fun hHeld => ?_)
  try simp only [Act.put, List.setIfInBounds_toArray, List.set_cons_zero, List.set_cons_succ]
  clear hK K
  refine takeW18 (i := 23) (v := ?v23) rfl (by kernel_rfl) (by kernel_rfl) (by kernel_rfl) (fun _ _ _ h => h) (by rfl) ?hy23 (by assumption) ?rest23
  case hy23 => (intro W hW; go_simp; try with_reducible rfl)
  try simp only [Act.put, List.setIfInBounds_toArray, List.set_cons_zero, List.set_cons_succ]
  refine takeW18 (i := 24) (v := ?v24) rfl (by kernel_rfl) (by kernel_rfl) (by kernel_rfl) (fun _ _ _ h => h) (by rfl) ?hy24 (by assumption) ?rest24
  case hy24 => (intro W hW; go_simp; try with_reducible rfl)
  try simp only [Act.put, List.setIfInBounds_toArray, List.set_cons_zero, List.set_cons_succ]
  refine wpAnyH_ready (rs := [25]) (by kernel_rfl) (by simp) ?_
  refine AllReadyH.cons rfl (fun K hK => ?_) AllReadyH.nil
  rw [if_pos (by rfl)]
  go_simp
  refine (CH.out _ (T6.out.trans (BC.out.mono T6.out.size))).mono ?_
  rintro e w9 ⟨rfl, hb⟩
  replace BC := Lib.hid (BC.out.trans (hb.mono BC.out.size))
  clear hb
  go_simp
  refine hK.out _ _ BC.out (fun hHeld => ?_)
  try simp only [Act.put, List.setIfInBounds_toArray, List.set_cons_zero, List.set_cons_succ]
  clear hK K
  refine takeW18 (i := 26) (v := ?v26) rfl (by kernel_rfl) (by kernel_rfl) (by kernel_rfl) (fun _ _ _ h => h) (by rfl) ?hy26 (by assumption) ?rest26
  case hy26 => (intro W hW; go_simp; try with_reducible rfl)
  try simp only [Act.put, List.setIfInBounds_toArray, List.set_cons_zero, List.set_cons_succ]
  refine takeW18 (i := 27) (v := ?v27) rfl (by kernel_rfl) (by kernel_rfl) (by kernel_rfl) (fun _ _ _ h => h) (by rfl) ?hy27 (by assumption) ?rest27
  case hy27 => (intro W hW; go_simp; try with_reducible rfl)
  try simp only [Act.put, List.setIfInBounds_toArray, List.set_cons_zero, List.set_cons_succ]
  refine wpAnyH_done (by kernel_rfl) ?_ _
  go_wp2_with fail
  go_ret
  exact ⟨rfl, T6.out.trans (BC.out.mono T6.out.size)⟩
end Go.Proofs.YtoggkjoadiombaaGreatDoor
