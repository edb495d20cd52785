/- What Check of layer 5 returns. -/
import Derived.Test.YtldnokgdgafphaaDoorJBlkC
import Derived.Test.YtldnokgdgafphaaDoorJBlkD
import Derived.Test.YtldnokgdgafphaaDoorJBlkFr
import Derived.Test.YtldnokgdgafphaaDoorJBlkO
import Derived.Test.YtldnokgdgafphaaDoorJBlkW4
namespace Go.Proofs.YtldnokgdgafphaaDoor
open Go.RowKit

set_option maxRecDepth 100000 in
set_option maxHeartbeats 1000000 in
theorem bccheck_any (t n f : Nat) (c : Int) (A : Option Addr) (nd cd : Nat) (d : List UInt8) (w : World) (hd : d.length = nd) :
    Calls Tryd.prog 9 #[blkV t n f c A nd cd] w fun e w' => e = .returned (.bool (blkOk ⟨t, n, f, c, d⟩)) ∧ Below w.heap.size w w' := by
  have C1 := Lib.hid (fun W => bcheck_any t n f c A nd cd d W hd)
  have q2 := fun (W : World) (u : TypeId) (x : Value) => run_eql_iface_nil (P := Tryd.prog) (w := W) 47 (by kernel_rfl) u x
  clear hd
  generalize blkOk ⟨t, n, f, c, d⟩ = R at *
  unfold blkV at *
  go_enter Tryd.func9, Tryd.ntmps9
  go_wp2_with fail
  refine (C1.out _).mono ?_
  rintro e w1 ⟨hb, ⟨rfl, rfl⟩ | ⟨rfl, s, rfl⟩⟩
  · have HB := Lib.hid (((Below.refl _ _).alloc (Nat.le_refl _) _).trans (hb.mono (le_alloc _ _)))
    clear hb
    go_wp2_with fail
    go_ret
    exact ⟨rfl, HB.out⟩
  · have HB := Lib.hid (((Below.refl _ _).alloc (Nat.le_refl _) _).trans (hb.mono (le_alloc _ _)))
    clear hb
    unfold bfl at *
    go_wp2_with fail
    go_ret
    exact ⟨rfl, HB.out⟩

end Go.Proofs.YtldnokgdgafphaaDoor
/- What few of layer 5's statements returns. -/
namespace Go.Proofs.YtldnokgdgafphaaDoor
open Go.RowKit

set_option maxRecDepth 100000 in
set_option maxHeartbeats 1000000 in
theorem few_any (t n f : Nat) (c : Int) (A : Option Addr) (nd cd : Nat) (R : Bool) (w : World) (hR : R = decide (nd ≤ 5000)) :
    Calls Tryd.prog 4 #[blkV t n f c A nd cd] w fun e w' => e = .returned (.bool R) ∧ Below w.heap.size w w' := by
  have HB := Lib.hid ((Below.refl w.heap.size w).alloc (Nat.le_refl _) (.cells #[.int .u64 (t : Int), .int .u64 (n : Int), .int .u64 (f : Int), .int .i64 c, .slice A nd cd] 25))
  have h2 : decide ((nd : Int) ≤ 5000) = R := by rw [hR, Bool.eq_iff_iff]; simp; omega
  have HRR := Lib.hid hR
  clear hR
  unfold blkV
  go_enter Tryd.func4, Tryd.ntmps4
  go_wp2_with fail
  go_ret
  exact ⟨by first | (rw [HRR.out]; done) | (rw [HRR.out]; rfl) | (rw [HRR.out]; simp), HB.out⟩

end Go.Proofs.YtldnokgdgafphaaDoor
/- BlockWrites of layer 5's statements, walked. (Made by gen/BlkX6.py.) -/
namespace Go.Proofs.YtldnokgdgafphaaDoor
open Go.RowKit

set_option maxRecDepth 100000 in
set_option maxHeartbeats 8000000 in
theorem blockWrites_walk (b : Blk) (A : Option Addr) (nd cd : Nat) (w : World) (hb : BlkIn w b A nd cd) (hL : LaidE w) :
    Calls Tryd.prog 3 #[blkV b.typ b.num b.flg b.crc A nd cd] w fun e w' => e = .returned (.bool true) ∧ Below w.heap.size w w' := by
  obtain ⟨hbd, -, hnd, hr⟩ := hb
  obtain ⟨R, hR⟩ : ∃ R, R = decide (nd ≤ 5000) := ⟨_, rfl⟩
  have HLT := Lib.hid hL.lt
  have HH := Lib.hid (fun W (hb : Below w.heap.size w W) => heads05_any W (hL.below hb hL.lt))
  have B0 := Lib.hid ((Below.refl w.heap.size w).alloc (Nat.le_refl _) (.cells #[.int .u64 (b.typ : Int), .int .u64 (b.num : Int), .int .u64 (b.flg : Int), .int .i64 b.crc, .slice A nd cd] 25))
  have G0 := Lib.hid (fun (W : World) (hb : Below (w.heap.size + 1) (w.alloc (.cells #[.int .u64 (b.typ : Int), .int .u64 (b.num : Int), .int .u64 (b.flg : Int), .int .i64 b.crc, .slice A nd cd] 25)) W) => box5 (g := w.heap.size) rfl hb)
  have HW0 : Hid (Below (w.heap.size + 1) (w.alloc (.cells #[.int .u64 (b.typ : Int), .int .u64 (b.num : Int), .int .u64 (b.flg : Int), .int .i64 b.crc, .slice A nd cd] 25)) (w.alloc (.cells #[.int .u64 (b.typ : Int), .int .u64 (b.num : Int), .int .u64 (b.flg : Int), .int .i64 b.crc, .slice A nd cd] 25))) := Below.refl _ _
  have HS0 : Hid ((w.alloc (.cells #[.int .u64 (b.typ : Int), .int .u64 (b.num : Int), .int .u64 (b.flg : Int), .int .i64 b.crc, .slice A nd cd] 25)).heap.size = w.heap.size + 1) := by show _ = _; simp
  have C1 := Lib.hid (fun W => few_any b.typ b.num b.flg b.crc A nd cd R W hR)
  have C2 := Lib.hid (fun W (hb : Below w.heap.size w W) => bencode_any b A nd cd w.heap.size W hbd hb.size (hr.below hb) (hL.below hb hL.lt))
  have C3 := Lib.hid (fun W (hb : Below w.heap.size w W) => rencodeB_any b A nd cd w.heap.size W hbd hb.size (hr.below hb))
  have C4 := Lib.hid (fun W => bccheck_any b.typ b.num b.flg b.crc A nd cd b.dat W hr.1)
  have C5 := Lib.hid (fun W => rcheckB_any b.typ b.num b.flg b.crc A nd cd b.dat W hr.1)
  have e1 : (⟨b.typ, b.num, b.flg, b.crc, b.dat⟩ : Blk) = b := rfl
  rw [e1] at C4 C5
  generalize (if blkOk b = true then (0 : Int) else 50) = z at *
  generalize (if blkOk b = true then blkW b else []) = L at *
  generalize blkOk b = K0 at *
  clear hL hbd hnd hr hR e1
  unfold blkV at *
  go_enter Tryd.func3, Tryd.ntmps3
  go_wp2_with fail
  refine (C1.out _).mono ?_
  rintro e w1 ⟨rfl, hb⟩
  have X1 := Lib.hid (pushB HW0.out (Nat.le_of_eq HS0.out.symm) hb)
  have B1 := Lib.hid (B0.out.trans (X1.out.mono (Nat.le_succ _)))
  clear hb
  obtain ⟨x0, x1, x2, x3, x4⟩ := G0.out _ X1.out
  cases R with
  | false =>
    go_wp2_with fail
    refine (HH.out _ B1.out).mono ?_
    rintro e w2 ⟨rfl, hb2⟩
    have B2 := Lib.hid (B1.out.trans (hb2.mono B1.out.size))
    clear hb2
    go_wp2_with fail
    go_ret
    exact ⟨rfl, B2.out⟩
  | true =>
  go_wp2_with fail
  refine (C2.out _ B1.out).mono ?_
  rintro e w2 ⟨v2, rfl, ho2, hb⟩
  have X2 := Lib.hid (pushB X1.out (Nat.le_of_eq HS0.out.symm) hb)
  have B2 := Lib.hid (B1.out.trans (hb.mono B1.out.size))
  obtain ⟨A2, c2, rfl, hc2, -, hr2⟩ := ho2.rd
  have R2 := Lib.hid hr2
  clear hb ho2 hr2 hc2 x0 x1 x2 x3 x4
  obtain ⟨x0, x1, x2, x3, x4⟩ := G0.out _ X2.out
  go_wp2_with fail
  refine (C3.out _ B2.out).mono ?_
  rintro e w3 ⟨hb, A3, n3, c3, rfl, hc3, hr3⟩
  have X3 := Lib.hid (pushB X2.out (Nat.le_of_eq HS0.out.symm) hb)
  have B3 := Lib.hid (B2.out.trans (hb.mono B2.out.size))
  have R3 := Lib.hid hr3
  have Q2 := Lib.hid ((R2.out.below hb).more hb.size)
  clear hb hr3 hc3 x0 x1 x2 x3 x4 R2
  go_wp2_with fail
  refine wp_region_held_drew (S := fun W => Below w3.heap.size w3 W) (by kernel_rfl) Below.drew_ (fun hHeld => ?_)
  have BC := Lib.hid hHeld
  refine takeSl (i := 0) (v := ?v0_1) rfl (by kernel_rfl) (by kernel_rfl) (by kernel_rfl) (fun _ _ _ h => h) (by rfl) ?hy0_1 (by assumption) ?rest0_1
  case hy0_1 => (intro W hSw; go_simp; try with_reducible rfl)
  try simp only [Act.put]
  try simp only [List.setIfInBounds_toArray]
  try simp only [List.set_cons_succ]
  try simp only [List.set_cons_zero]
  refine takeSl (i := 1) (v := ?v1_2) rfl (by kernel_rfl) (by kernel_rfl) (by kernel_rfl) (fun _ _ _ h => h) (by rfl) ?hy1_2 (by assumption) ?rest1_2
  case hy1_2 => (intro W hSw; go_simp; try with_reducible rfl)
  try simp only [Act.put]
  try simp only [List.setIfInBounds_toArray]
  try simp only [List.set_cons_succ]
  try simp only [List.set_cons_zero]
  refine wpAnyH_ready (rs := [2]) (by kernel_rfl) (by simp) ?_
  refine AllReadyH.cons rfl (fun K hK => ?_) AllReadyH.nil
  rw [if_pos (by rfl)]
  go_simp
  refine (same_true A2 A3 _ c2 _ c3 w3.heap.size w3.heap.size L w3.drew Q2.out R3.out).mono ?_
  rintro e wa ⟨rfl, rfl⟩
  go_simp
  refine hK.out _ _ BC.out (fun hHeld => ?_)
  try simp only [Act.put]
  try simp only [List.setIfInBounds_toArray]
  try simp only [List.set_cons_succ]
  try simp only [List.set_cons_zero]
  clear hK K
  refine takeSl (i := 3) (v := ?v3_3) rfl (by kernel_rfl) (by kernel_rfl) (by kernel_rfl) (fun _ _ _ h => h) (by rfl) ?hy3_3 (by assumption) ?rest3_3
  case hy3_3 => (intro W hSw; go_simp; try with_reducible rfl)
  try simp only [Act.put]
  try simp only [List.setIfInBounds_toArray]
  try simp only [List.set_cons_succ]
  try simp only [List.set_cons_zero]
  refine takeSl (i := 4) (v := ?v4_4) rfl (by kernel_rfl) (by kernel_rfl) (by kernel_rfl) (fun _ _ _ h => h) (by rfl) ?hy4_4 (by assumption) ?rest4_4
  case hy4_4 => (intro W hSw; go_simp; try with_reducible rfl)
  try simp only [Act.put]
  try simp only [List.setIfInBounds_toArray]
  try simp only [List.set_cons_succ]
  try simp only [List.set_cons_zero]
  refine takeSl (i := 5) (v := ?v5_5) rfl (by kernel_rfl) (by kernel_rfl) (by kernel_rfl) (fun _ _ _ h => h) (by rfl) ?hy5_5 (by assumption) ?rest5_5
  case hy5_5 => (intro W hSw; go_simp; try with_reducible rfl)
  try simp only [Act.put]
  try simp only [List.setIfInBounds_toArray]
  try simp only [List.set_cons_succ]
  try simp only [List.set_cons_zero]
  refine takeSl (i := 6) (v := ?v6_6) rfl (by kernel_rfl) (by kernel_rfl) (by kernel_rfl) (fun _ _ _ h => h) (by rfl) ?hy6_6 (by assumption) ?rest6_6
  case hy6_6 => (intro W hSw; go_simp; try with_reducible rfl)
  try simp only [Act.put]
  try simp only [List.setIfInBounds_toArray]
  try simp only [List.set_cons_succ]
  try simp only [List.set_cons_zero]
  refine takeSl (i := 7) (v := ?v7_7) rfl (by kernel_rfl) (by kernel_rfl) (by kernel_rfl) (fun _ _ _ h => h) (by rfl) ?hy7_7 (by assumption) ?rest7_7
  case hy7_7 => (intro W hSw; go_simp; try with_reducible rfl)
  try simp only [Act.put]
  try simp only [List.setIfInBounds_toArray]
  try simp only [List.set_cons_succ]
  try simp only [List.set_cons_zero]
  refine takeSl (i := 8) (v := ?v8_8) rfl (by kernel_rfl) (by kernel_rfl) (by kernel_rfl) (fun _ _ _ h => h) (by rfl) ?hy8_8 (by assumption) ?rest8_8
  case hy8_8 => (intro W hSw; go_simp; try with_reducible rfl)
  try simp only [Act.put]
  try simp only [List.setIfInBounds_toArray]
  try simp only [List.set_cons_succ]
  try simp only [List.set_cons_zero]
  refine takeSl (i := 9) (v := ?v9_9) rfl (by kernel_rfl) (by kernel_rfl) (by kernel_rfl) (fun _ _ _ h => h) (by rfl) ?hy9_9 (by assumption) ?rest9_9
  case hy9_9 => (intro W hSw; obtain ⟨x0, x1, x2, x3, x4⟩ := G0.out _ (X3.out.trans (hSw.mono (Nat.le_trans (Nat.le_of_eq HS0.out.symm) X3.out.size))); go_simp; try with_reducible rfl)
  try simp only [Act.put]
  try simp only [List.setIfInBounds_toArray]
  try simp only [List.set_cons_succ]
  try simp only [List.set_cons_zero]
  refine takeSl (i := 11) (v := ?v11_10) rfl (by kernel_rfl) (by kernel_rfl) (by kernel_rfl) (fun _ _ _ h => h) (by rfl) ?hy11_10 (by assumption) ?rest11_10
  case hy11_10 => (intro W hSw; obtain ⟨x0, x1, x2, x3, x4⟩ := G0.out _ (X3.out.trans (hSw.mono (Nat.le_trans (Nat.le_of_eq HS0.out.symm) X3.out.size))); go_simp; try with_reducible rfl)
  try simp only [Act.put]
  try simp only [List.setIfInBounds_toArray]
  try simp only [List.set_cons_succ]
  try simp only [List.set_cons_zero]
  refine wpAnyH_ready (rs := [10]) (by kernel_rfl) (by simp) ?_
  refine AllReadyH.cons rfl (fun K hK => ?_) AllReadyH.nil
  rw [if_pos (by rfl)]
  go_simp
  refine (C4.out _).mono ?_
  rintro e wb ⟨rfl, hb⟩
  replace BC := Lib.hid (BC.out.trans (hb.mono BC.out.size))
  clear hb
  go_simp
  refine hK.out _ _ BC.out (fun hHeld => ?_)
  try simp only [Act.put]
  try simp only [List.setIfInBounds_toArray]
  try simp only [List.set_cons_succ]
  try simp only [List.set_cons_zero]
  clear hK K
  refine wpAnyH_ready (rs := [12]) (by kernel_rfl) (by simp) ?_
  refine AllReadyH.cons rfl (fun K hK => ?_) AllReadyH.nil
  rw [if_pos (by rfl)]
  go_simp
  refine (C5.out _).mono ?_
  rintro e wc ⟨rfl, hb⟩
  replace BC := Lib.hid (BC.out.trans (hb.mono BC.out.size))
  clear hb
  go_simp
  refine hK.out _ _ BC.out (fun hHeld => ?_)
  try simp only [Act.put]
  try simp only [List.setIfInBounds_toArray]
  try simp only [List.set_cons_succ]
  try simp only [List.set_cons_zero]
  clear hK K
  refine takeSl (i := 13) (v := ?v13_11) rfl (by kernel_rfl) (by kernel_rfl) (by kernel_rfl) (fun _ _ _ h => h) (by rfl) ?hy13_11 (by assumption) ?rest13_11
  case hy13_11 => (intro W hSw; go_simp; try with_reducible rfl)
  try simp only [Act.put]
  try simp only [List.setIfInBounds_toArray]
  try simp only [List.set_cons_succ]
  try simp only [List.set_cons_zero]
  refine takeSl (i := 14) (v := ?v14_12) rfl (by kernel_rfl) (by kernel_rfl) (by kernel_rfl) (fun _ _ _ h => h) (by rfl) ?hy14_12 (by assumption) ?rest14_12
  case hy14_12 => (intro W hSw; go_simp; try with_reducible rfl)
  try simp only [Act.put]
  try simp only [List.setIfInBounds_toArray]
  try simp only [List.set_cons_succ]
  try simp only [List.set_cons_zero]
  refine takeSl (i := 15) (v := ?v15_13) rfl (by kernel_rfl) (by kernel_rfl) (by kernel_rfl) (fun _ _ _ h => h) (by rfl) ?hy15_13 (by assumption) ?rest15_13
  case hy15_13 => (intro W hSw; go_simp; try with_reducible rfl)
  try simp only [Act.put]
  try simp only [List.setIfInBounds_toArray]
  try simp only [List.set_cons_succ]
  try simp only [List.set_cons_zero]
  refine wpAnyH_ready (rs := [16]) (by kernel_rfl) (by simp) ?_
  refine AllReadyH.cons rfl (fun K hK => ?_) AllReadyH.nil
  rw [if_pos (by rfl)]
  go_simp
  refine (HH.out _ (B3.out.trans (BC.out.mono B3.out.size))).mono ?_
  rintro e wd ⟨rfl, hb⟩
  replace BC := Lib.hid (BC.out.trans (hb.mono BC.out.size))
  clear hb
  go_simp
  refine hK.out _ _ BC.out (fun hHeld => ?_)
  try simp only [Act.put]
  try simp only [List.setIfInBounds_toArray]
  try simp only [List.set_cons_succ]
  try simp only [List.set_cons_zero]
  clear hK K
  refine takeSl (i := 17) (v := ?v17_14) rfl (by kernel_rfl) (by kernel_rfl) (by kernel_rfl) (fun _ _ _ h => h) (by rfl) ?hy17_14 (by assumption) ?rest17_14
  case hy17_14 => (intro W hSw; go_simp; try with_reducible rfl)
  try simp only [Act.put]
  try simp only [List.setIfInBounds_toArray]
  try simp only [List.set_cons_succ]
  try simp only [List.set_cons_zero]
  refine takeSl (i := 18) (v := ?v18_15) rfl (by kernel_rfl) (by kernel_rfl) (by kernel_rfl) (fun _ _ _ h => h) (by rfl) ?hy18_15 (by assumption) ?rest18_15
  case hy18_15 => (intro W hSw; go_simp; try with_reducible rfl)
  try simp only [Act.put]
  try simp only [List.setIfInBounds_toArray]
  try simp only [List.set_cons_succ]
  try simp only [List.set_cons_zero]
  refine wpAnyH_done (by kernel_rfl) ?_ _
  go_wp2_with fail
  go_ret
  exact ⟨rfl, (B3.out.trans (BC.out.mono B3.out.size))⟩
end Go.Proofs.YtldnokgdgafphaaDoor
