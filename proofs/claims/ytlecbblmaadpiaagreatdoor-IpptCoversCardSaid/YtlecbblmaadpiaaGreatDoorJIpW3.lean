/- IpptGrows of layer 9's statements, walked. (Made by gen/IpW3.py, gen/bun.py.) -/
import Derived.Test.YtlecbblmaadpiaaGreatDoorJLawIpptPlain
import Derived.Deep.CutRange
import Derived.Deep.DeepCutAuto
namespace Go.Proofs.YtlecbblmaadpiaaGreatDoor
open Go.RowKit
theorem put5_row {W : World} {g : Nat} {t : TypeId} {c0 c1 c2 c3 c4 v0 v1 v2 v3 v4 : Value} (h : W.heap[g]? = some (.cells #[c0, c1, c2, c3, c4] t (0, 0))) :
    (((((W.setCell ⟨g, 0, none⟩ v0).setCell ⟨g, 1, none⟩ v1).setCell ⟨g, 2, none⟩ v2).setCell ⟨g, 3, none⟩ v3).setCell ⟨g, 4, none⟩ v4).heap[g]? = some (.cells #[v0, v1, v2, v3, v4] t (0, 0)) := by
  have k1 : (W.setCell ⟨g, 0, none⟩ v0).heap[g]? = some (.cells #[v0, c1, c2, c3, c4] t (0, 0)) := by
    rw [setCell_eq_setRow W g 0 #[c0, c1, c2, c3, c4] t (0, 0) v0 h]; exact setRow_heap W g _ _ t _ h
  have k2 : ((W.setCell ⟨g, 0, none⟩ v0).setCell ⟨g, 1, none⟩ v1).heap[g]? = some (.cells #[v0, v1, c2, c3, c4] t (0, 0)) := by
    rw [setCell_eq_setRow _ g 1 #[v0, c1, c2, c3, c4] t (0, 0) v1 k1]; exact setRow_heap _ g _ _ t _ k1
  have k3 : (((W.setCell ⟨g, 0, none⟩ v0).setCell ⟨g, 1, none⟩ v1).setCell ⟨g, 2, none⟩ v2).heap[g]? = some (.cells #[v0, v1, v2, c3, c4] t (0, 0)) := by
    rw [setCell_eq_setRow _ g 2 #[v0, v1, c2, c3, c4] t (0, 0) v2 k2]; exact setRow_heap _ g _ _ t _ k2
  have k4 : ((((W.setCell ⟨g, 0, none⟩ v0).setCell ⟨g, 1, none⟩ v1).setCell ⟨g, 2, none⟩ v2).setCell ⟨g, 3, none⟩ v3).heap[g]? = some (.cells #[v0, v1, v2, v3, c4] t (0, 0)) := by
    rw [setCell_eq_setRow _ g 3 #[v0, v1, v2, c3, c4] t (0, 0) v3 k3]; exact setRow_heap _ g _ _ t _ k3
  rw [setCell_eq_setRow _ g 4 #[v0, v1, v2, v3, c4] t (0, 0) v4 k4]; exact setRow_heap _ g _ _ t _ k4
theorem bitn_1 (s : Nat) (h : s ≤ 7) : (bits BinOp.and IntKind.i64 (s : Int) 1 != 0) = decide (s % 2 = 1) := by
  have : s = 0 ∨ s = 1 ∨ s = 2 ∨ s = 3 ∨ s = 4 ∨ s = 5 ∨ s = 6 ∨ s = 7 := by omega
  rcases this with rfl | rfl | rfl | rfl | rfl | rfl | rfl | rfl <;> rfl
theorem bitn_2 (s : Nat) (h : s ≤ 7) : (bits BinOp.and IntKind.i64 (s : Int) 2 != 0) = decide (s / 2 % 2 = 1) := by
  have : s = 0 ∨ s = 1 ∨ s = 2 ∨ s = 3 ∨ s = 4 ∨ s = 5 ∨ s = 6 ∨ s = 7 := by omega
  rcases this with rfl | rfl | rfl | rfl | rfl | rfl | rfl | rfl <;> rfl
theorem bitn_4 (s : Nat) (h : s ≤ 7) : (bits BinOp.and IntKind.i64 (s : Int) 4 != 0) = decide (s / 4 = 1) := by
  have : s = 0 ∨ s = 1 ∨ s = 2 ∨ s = 3 ∨ s = 4 ∨ s = 5 ∨ s = 6 ∨ s = 7 := by omega
  rcases this with rfl | rfl | rfl | rfl | rfl | rfl | rfl | rfl <;> rfl
theorem iplU_err (b : Bun) (q : Nat) (s s' : Int) (k n f : Nat) (h0 : 0 ≤ s ∧ s ≤ 7) (h1 : 0 ≤ s' ∧ s' ≤ 7) : (iplU b q s k n f).2 = (iplU b q s' k n f).2 := by
  unfold iplU
  by_cases hz : cauU b = 0
  · have e0 : ¬ cauU b ≠ 0 := by simpa using hz
    have e1 : ¬ (s < 0 ∨ 7 < s) := by omega
    have e2 : ¬ (s' < 0 ∨ 7 < s') := by omega
    simp only [if_neg e0, if_neg e1, if_neg e2]
    split
    · rfl
    · split
      · rfl
      · split <;> rfl
  · rw [if_pos hz, if_pos hz]
theorem iplU_ok {b : Bun} {q : Nat} {s : Nat} {k n f : Nat} (hs : s ≤ 7) (hq : q ≠ 0) (h : (iplU b q (s : Int) k n f).2 = 0) : cauU b = 0 ∧ ∃ x, b.blks.find? (pNum q) = some x ∧ x.typ ≠ 11 ∧ (iplU b q (s : Int) k n f).1 = iplB (primW b) s (some x) k n f := by
  unfold iplU at h ⊢
  by_cases hz : cauU b = 0
  · rw [if_neg (by simpa using hz), if_neg (by omega), if_neg hq] at h ⊢
    cases hf : b.blks.find? (pNum q) with
    | none => rw [hf] at h; cases h
    | some x =>
      rw [hf] at h
      by_cases h11 : x.typ = 11
      · simp [h11] at h
      · refine ⟨hz, x, rfl, h11, ?_⟩
        simp [h11]
  · rw [if_pos hz] at h
    exact absurd h hz
theorem iplB_len (p : List UInt8) (s : Nat) (x : Blk) (hs : s ≤ 7) : (iplB p s (some x) 11 9 3).length = (if s / 4 = 1 then 3 else 0) + ((if s / 2 % 2 = 1 then (hd 0 x.typ).length + (hd 0 x.num).length + (hd 0 x.flg).length else 0) + ((if s % 2 = 1 then p.length else 0) + (1 + (hd 2 x.dat.length).length + x.dat.length))) := by
  have e : (hd 0 s).length = 1 := by rw [hd_len]; have : hsz s = 0 := by unfold hsz; rw [if_pos (by omega)]
                                     omega
  have e3 : (hd 0 11).length = 1 ∧ (hd 0 9).length = 1 ∧ (hd 0 3).length = 1 := by decide
  unfold iplB
  simp only [Option.isSome_some, and_true, List.length_append]
  split <;> split <;> split <;> simp only [List.length_append, List.length_nil, e, e3.1, e3.2.1, e3.2.2] <;> omega
theorem iplB_first (p : List UInt8) (s : Nat) (x : Blk) (hs : s ≤ 7) (k n f : Nat) : ((iplB p s (some x) k n f).getD 0 0).toNat = s := by
  have e : hd 0 s = [UInt8.ofNat s] := by
    have h0 : hsz s = 0 := by unfold hsz; rw [if_pos (by omega)]
    have h1 : hlow s = s := by unfold hlow; rw [if_pos (by omega)]
    unfold hd
    rw [h0, h1, Nat.mul_zero, Nat.zero_add]
    rfl
  unfold iplB
  rw [e]
  simp
  omega
set_option maxRecDepth 100000 in
set_option maxHeartbeats 16000000 in
theorem ipptGrows_walk (h : BH) (l : List Blk) (A : Option Addr) (n c : Nat) (a1 a2 : Int) (w : World) (S : Snt) (hin : BunIn w h l A n c) (h1 : (Lit.int .u64 a1).wf = true) (_h2 : (Lit.int .i64 a2).wf = true) (hS : Wd S w) :
    Calls Tryz.prog 9 #[bunV h A n c, .int .u64 a1, .int .i64 a2] w fun e w' => e = .returned (.bool true) ∧ Below w.heap.size w w' := by
  obtain ⟨q, -, rfl⟩ := nat_u64 h1
  obtain ⟨hBd, hr, hc⟩ := hin
  have HB0 := Lib.hid ((Below.refl w.heap.size w).alloc (Nat.le_refl _) (.cells #[.int .u64 (h.flg : Int), .int .i64 h.crc, .int .i64 h.dsc, .string h.dnm, .int .u64 (h.dn : Int), .int .u64 (h.dv : Int), .int .i64 h.ssc, .string h.snm, .int .u64 (h.sn : Int), .int .u64 (h.sv : Int), .int .i64 h.rsc, .string h.rnm, .int .u64 (h.rn : Int), .int .u64 (h.rv : Int), .int .u64 (h.tim : Int), .int .u64 (h.seq : Int), .int .u64 (h.lif : Int), .slice A n c] 73))
  have HRW := Lib.hid (fun (W : World) (hb : Below (w.heap.size + 1) (w.alloc (.cells #[.int .u64 (h.flg : Int), .int .i64 h.crc, .int .i64 h.dsc, .string h.dnm, .int .u64 (h.dn : Int), .int .u64 (h.dv : Int), .int .i64 h.ssc, .string h.snm, .int .u64 (h.sn : Int), .int .u64 (h.sv : Int), .int .i64 h.rsc, .string h.rnm, .int .u64 (h.rn : Int), .int .u64 (h.rv : Int), .int .u64 (h.tim : Int), .int .u64 (h.seq : Int), .int .u64 (h.lif : Int), .slice A n c] 73)) W) => row_of_box (w := w) rfl hb)
  have HW0 : Hid (Below (w.heap.size + 1) (w.alloc (.cells #[.int .u64 (h.flg : Int), .int .i64 h.crc, .int .i64 h.dsc, .string h.dnm, .int .u64 (h.dn : Int), .int .u64 (h.dv : Int), .int .i64 h.ssc, .string h.snm, .int .u64 (h.sn : Int), .int .u64 (h.sv : Int), .int .i64 h.rsc, .string h.rnm, .int .u64 (h.rn : Int), .int .u64 (h.rv : Int), .int .u64 (h.tim : Int), .int .u64 (h.seq : Int), .int .u64 (h.lif : Int), .slice A n c] 73)) (w.alloc (.cells #[.int .u64 (h.flg : Int), .int .i64 h.crc, .int .i64 h.dsc, .string h.dnm, .int .u64 (h.dn : Int), .int .u64 (h.dv : Int), .int .i64 h.ssc, .string h.snm, .int .u64 (h.sn : Int), .int .u64 (h.sv : Int), .int .i64 h.rsc, .string h.rnm, .int .u64 (h.rn : Int), .int .u64 (h.rv : Int), .int .u64 (h.tim : Int), .int .u64 (h.seq : Int), .int .u64 (h.lif : Int), .slice A n c] 73))) := Below.refl _ _
  have HS0 : Hid ((w.alloc (.cells #[.int .u64 (h.flg : Int), .int .i64 h.crc, .int .i64 h.dsc, .string h.dnm, .int .u64 (h.dn : Int), .int .u64 (h.dv : Int), .int .i64 h.ssc, .string h.snm, .int .u64 (h.sn : Int), .int .u64 (h.sv : Int), .int .i64 h.rsc, .string h.rnm, .int .u64 (h.rn : Int), .int .u64 (h.rv : Int), .int .u64 (h.tim : Int), .int .u64 (h.seq : Int), .int .u64 (h.lif : Int), .slice A n c] 73)).heap.size = w.heap.size + 1) := by show _ = _; simp
  have CH := Lib.hid (fun (W : World) (hb : Below w.heap.size w W) => heads09_any S W (hS.below hb (Nat.le_refl _)))
  have CF := Lib.hid (fun (W : World) (hb : Below w.heap.size w W) => few09_any h l A n c W.heap.size W ((hr.below hb).more hb.size) (Nat.le_refl _))
  have CP := Lib.hid (fun (s : Int) (hdat : ∀ x ∈ l, x.dat.length ≤ 5000) (W : World) (hb : Below w.heap.size w W) => ipplain_any S h l A n c W.heap.size q s 11 9 3 W (hS.below hb (Nat.le_refl _)) hBd ((hr.below hb).more hb.size) (Nat.le_refl _) hc ⟨by decide, by decide, by decide⟩ hdat)
  have CR := Lib.hid (fun (W : World) (hb : Below w.heap.size w W) => rprimary_any h l A n c W.heap.size W hBd ((hr.below hb).more hb.size) (Nat.le_refl _))
  have CFI := Lib.hid (fun (W : World) (hb : Below w.heap.size w W) => rfindU_any h l A n c W.heap.size q W ((hr.below hb).more hb.size) (Nat.le_refl _))
  have HR := Lib.hid hr
  clear h1 _h2 hBd hr hc hS
  unfold bunV at *
  go_enter Tryz.func9, Tryz.ntmps9
  go_wp2_with (first
    | (refine wpList_ld18 rfl (.tmp 3) rfl _ rfl _ _ (HRW.out _ HW0.out) rfl ?_)
    | fail)
  refine (CF.out _ HB0.out).mono ?_
  rintro e w1 ⟨R, rfl, hR, hb⟩
  have B1 := Lib.hid (Below.push HW0.out (Nat.le_of_eq HS0.out.symm) hb)
  have T1 := Lib.hid (HB0.out.trans (B1.out.mono (Nat.le_succ _)))
  have ROW1 := Lib.hid (HRW.out _ B1.out)
  have HRR := Lib.hid hR
  clear hb hR
  cases R with
  | false =>
    go_wp2_with fail
    refine (CH.out w1 T1.out).mono ?_
    rintro e wh ⟨rfl, hb2⟩
    have TH := Lib.hid (T1.out.trans (hb2.mono T1.out.size))
    clear hb2
    go_wp2_with fail
    go_ret
    exact ⟨rfl, TH.out⟩
  | true =>
  have HDT := Lib.hid (HRR.out rfl).2
  by_cases hq : q = 0
  · have tq : ((q : Int) == 0) = true := by simp [hq]
    clear hq
    go_wp2_with fail
    refine (CH.out w1 T1.out).mono ?_
    rintro e wh ⟨rfl, hb2⟩
    have TH := Lib.hid (T1.out.trans (hb2.mono T1.out.size))
    clear hb2
    go_wp2_with fail
    go_ret
    exact ⟨rfl, TH.out⟩
  have tq : ((q : Int) == 0) = false := by simp [hq]
  by_cases hlo : a2 < 0
  · have tl : decide (a2 < 0) = true := decide_eq_true hlo
    clear hlo hq
    go_wp2_with fail
    refine (CH.out w1 T1.out).mono ?_
    rintro e wh ⟨rfl, hb2⟩
    have TH := Lib.hid (T1.out.trans (hb2.mono T1.out.size))
    clear hb2
    go_wp2_with fail
    go_ret
    exact ⟨rfl, TH.out⟩
  have tl : decide (a2 < 0) = false := decide_eq_false hlo
  by_cases hhi : 7 < a2
  · have th : decide (7 < a2) = true := decide_eq_true hhi
    clear hlo hhi hq
    go_wp2_with fail
    refine (CH.out w1 T1.out).mono ?_
    rintro e wh ⟨rfl, hb2⟩
    have TH := Lib.hid (T1.out.trans (hb2.mono T1.out.size))
    clear hb2
    go_wp2_with fail
    go_ret
    exact ⟨rfl, TH.out⟩
  have th : decide (7 < a2) = false := decide_eq_false hhi
  obtain ⟨s, rfl⟩ : ∃ s : Nat, a2 = (s : Int) := ⟨a2.toNat, by omega⟩
  have hs7 : s ≤ 7 := by omega
  have HS7 := Lib.hid hs7
  have HQ := Lib.hid hq
  obtain ⟨IP, hIP⟩ : ∃ IP, IP = iplU (h.bun l) q (s : Int) 11 9 3 := ⟨_, rfl⟩
  obtain ⟨IQ, hIQ⟩ : ∃ IQ, IQ = iplU (h.bun l) q ((7 : Nat) : Int) 11 9 3 := ⟨_, rfl⟩
  have C3 := Lib.hid (CP.out (s : Int))
  have C4 := Lib.hid (CP.out ((7 : Nat) : Int))
  rw [← hIP] at C3
  rw [← hIQ] at C4
  have HE2 : Hid (IQ.2 = IP.2) := by show _ = _; rw [hIP, hIQ]; exact iplU_err _ _ _ _ _ _ _ (by omega) (by omega)
  have HOK : Hid (IP.2 = 0 → cauU (h.bun l) = 0 ∧ ∃ x, l.find? (pNum q) = some x ∧ x.typ ≠ 11 ∧ IP.1 = iplB (primW (h.bun l)) s (some x) 11 9 3 ∧ IQ.1 = iplB (primW (h.bun l)) 7 (some x) 11 9 3) := fun h0 => by
    have h7 : (iplU (h.bun l) q ((7 : Nat) : Int) 11 9 3).2 = 0 := by rw [← hIQ, HE2.out, h0]
    obtain ⟨e1, x, e2, e3, e4⟩ := iplU_ok hs7 hq (by rw [← hIP]; exact h0)
    obtain ⟨-, y, f2, -, f4⟩ := iplU_ok (by decide) hq h7
    rw [e2] at f2
    injection f2 with f2
    subst f2
    exact ⟨e1, x, e2, e3, by rw [hIP]; exact e4, by rw [hIQ]; exact f4⟩
  obtain ⟨L, z⟩ := IP
  obtain ⟨L7, z7⟩ := IQ
  have hz7 : z = z7 := HE2.out.symm
  subst hz7
  clear hIP hIQ hlo hhi hs7 hq HE2 CP
  go_wp2_with (first
    | (refine wpList_ld18 rfl (.tmp 3) rfl _ rfl _ _ ROW1.out rfl ?_)
    | fail)
  refine (C3.out HDT.out w1 T1.out).mono ?_
  rintro e w2 ⟨hb, A2, n2, c2, rfl, hc2, hr2⟩
  have B2 := Lib.hid (Below.push B1.out (Nat.le_of_eq HS0.out.symm) hb)
  have T2 := Lib.hid (HB0.out.trans (B2.out.mono (Nat.le_succ _)))
  have ROW2 := Lib.hid (HRW.out _ B2.out)
  have R2 := Lib.hid hr2
  clear hb hr2 hc2 ROW1 tq tl th
  go_wp2_with (first
    | (refine wpList_ld18 rfl (.tmp 3) rfl _ rfl _ _ ROW2.out rfl ?_)
    | fail)
  refine (C4.out HDT.out w2 T2.out).mono ?_
  rintro e w3 ⟨hb, A3, n3, c3, rfl, hc3, hr3⟩
  have B3 := Lib.hid (Below.push B2.out (Nat.le_of_eq HS0.out.symm) hb)
  have T3 := Lib.hid (HB0.out.trans (B3.out.mono (Nat.le_succ _)))
  have ROW3 := Lib.hid (HRW.out _ B3.out)
  have R23 := Lib.hid ((R2.out.below hb).more hb.size)
  have HN3' : Hid (L7.length = n3) := hr3.1
  clear hb hr3 hc3 ROW2 R2 C3 C4
  by_cases hz : z = 0
  case neg =>
    have hz1 : (z != 0) = true := by simp [hz]
    have hz2 : (z == z) = true := by simp
    clear hz
    go_wp2_with fail
    refine (CH.out w3 T3.out).mono ?_
    rintro e wh ⟨rfl, hb2⟩
    have TH := Lib.hid (T3.out.trans (hb2.mono T3.out.size))
    clear hb2
    go_wp2_with fail
    go_ret
    exact ⟨rfl, TH.out⟩
  subst hz
  obtain ⟨hcz, x, hfx, h11, hL, hL7⟩ := HOK.out rfl
  have HL : Hid (L = iplB (primW (h.bun l)) s (some x) 11 9 3) := hL
  have HL7 : Hid (L7 = iplB (primW (h.bun l)) 7 (some x) 11 9 3) := hL7
  rw [if_pos hcz, hcz] at CR
  have HPL : Hid ((primW (h.bun l)).length ≤ 454) := primW_len (primOk_iff.1 (cauU_0.1 hcz).2.1).1
  generalize primW (h.bun l) = PW at *
  rcases plc_find (pNum q) l 0 with ⟨-, hno⟩ | ⟨k, hk, hp, hfk⟩
  · rw [hno] at hfx; cases hfx
  rw [hfk] at hfx
  injection hfx with hfx
  rw [Nat.zero_add] at hp
  rw [hp] at CFI
  have hkn : k < n := by rw [← HR.out.1]; exact hk
  have hk1 : (k : Int) < (n : Int) := by omega
  obtain ⟨b, o, rfl, hbB, hks⟩ := HR.out.2.1 (by omega)
  obtain ⟨Ax, nd, cd, hkk⟩ := hks.get k hk
  rw [hfx] at hkk
  have HKK := Lib.hid hkk
  have HBL := Lib.hid hbB
  have HND : Hid (x.dat.length = nd) := hkk.rd.1
  have HX5 : Hid (x.dat.length ≤ 5000) := HDT.out x (by rw [← hfx]; exact List.getElem_mem hk)
  clear hks hkk hbB hp hfk hfx hcz h11 hL hL7 hk HOK
  go_wp2_with (first
    | (refine wpList_ld18 rfl (.tmp 3) rfl _ rfl _ _ ROW3.out rfl ?_)
    | fail)
  refine (CR.out w3 T3.out).mono ?_
  rintro e w4 ⟨hb, A4, n4, c4, rfl, hc4, hr4⟩
  have B4 := Lib.hid (Below.push B3.out (Nat.le_of_eq HS0.out.symm) hb)
  have T4 := Lib.hid (HB0.out.trans (B4.out.mono (Nat.le_succ _)))
  have R24 := Lib.hid ((R23.out.below hb).more hb.size)
  have HN4 : Hid (PW.length = n4) := hr4.1
  clear hb hr4 hc4 ROW3 R23 CR
  go_upto_region 8 with fail
  go_cut [13] (fun p wx => Hid (∃ gx : Nat, p = .pointer (some ⟨gx, 0, none⟩) ∧ wx.heap[gx]? = some (.cells #[.int .u64 (x.typ : Int), .int .u64 (x.num : Int), .int .u64 (x.flg : Int), .int .i64 x.crc, .slice Ax nd cd] 48 (0, 0)) ∧ Below w4.heap.size w4 wx))
  case first =>
    go_wp2_with fail
    refine wp_region_held_drew (S := fun W => Below w4.heap.size w4 W) (by kernel_rfl) Below.drew_ (fun hHeld => ?_)
    have BC := Lib.hid hHeld
    refine takeR (i := 0) (v := ?v0_1) rfl (by kernel_rfl) (by kernel_rfl) (by kernel_rfl) (fun _ _ _ h => h) (by rfl) ?hy0_1 (by assumption) ?rest0_1
    case hy0_1 => (intro W hSw; go_simp; try with_reducible rfl)
    try simp only [Act.put]
    try simp only [List.setIfInBounds_toArray]
    try simp only [List.set_cons_succ]
    try simp only [List.set_cons_zero]
    refine takeR (i := 1) (v := ?v1_2) rfl (by kernel_rfl) (by kernel_rfl) (by kernel_rfl) (fun _ _ _ h => h) (by rfl) ?hy1_2 (by assumption) ?rest1_2
    case hy1_2 => (intro W hSw; have x17 := cell_row (HRW.out W (B4.out.trans (hSw.mono (Nat.le_trans (Nat.le_of_eq HS0.out.symm) B4.out.size)))) 17 rfl; go_simp; try with_reducible rfl)
    try simp only [Act.put]
    try simp only [List.setIfInBounds_toArray]
    try simp only [List.set_cons_succ]
    try simp only [List.set_cons_zero]
    refine takeR (i := 2) rfl (by kernel_rfl) (by kernel_rfl) (by kernel_rfl) (fun _ _ _ h => h) (by rfl) (fun W hW => exec_ld18 rfl rfl (HRW.out W (B4.out.trans (hW.mono (Nat.le_trans (Nat.le_of_eq HS0.out.symm) B4.out.size)))) rfl) (by assumption) ?_
    try simp only [Act.put]
    try simp only [List.setIfInBounds_toArray]
    try simp only [List.set_cons_succ]
    try simp only [List.set_cons_zero]
    refine takeR (i := 3) (v := ?v3_3) rfl (by kernel_rfl) (by kernel_rfl) (by kernel_rfl) (fun _ _ _ h => h) (by rfl) ?hy3_3 (by assumption) ?rest3_3
    case hy3_3 => (intro W hSw; go_simp; try with_reducible rfl)
    try simp only [Act.put]
    try simp only [List.setIfInBounds_toArray]
    try simp only [List.set_cons_succ]
    try simp only [List.set_cons_zero]
    refine wpAnyH_ready (rs := [4, 7]) (by kernel_rfl) (by simp) ?_
    refine AllReadyH.cons rfl (fun K hK => ?_) ?_
    · skip
      rw [if_pos (by rfl)]
      go_simp
      refine (CFI.out _ (T4.out.trans (BC.out.mono T4.out.size))).mono ?_
      rintro e w5 ⟨rfl, hb⟩
      replace BC := Lib.hid (BC.out.trans (hb.mono BC.out.size))
      clear hb
      go_simp
      refine hK.out _ _ (BC.out) (fun hHeld => ?_)
      try simp only [Act.put]
      try simp only [List.setIfInBounds_toArray]
      try simp only [List.set_cons_succ]
      try simp only [List.set_cons_zero]
      clear hK K
      refine takeR (i := 5) (v := ?v5_4) rfl (by kernel_rfl) (by kernel_rfl) (by kernel_rfl) (fun _ _ _ h => h) (by rfl) ?hy5_4 (by assumption) ?rest5_4
      case hy5_4 => (intro W hSw; go_simp; try with_reducible rfl)
      try simp only [Act.put]
      try simp only [List.setIfInBounds_toArray]
      try simp only [List.set_cons_succ]
      try simp only [List.set_cons_zero]
      refine takeR (i := 6) (v := ?v6_5) rfl (by kernel_rfl) (by kernel_rfl) (by kernel_rfl) (fun _ _ _ h => h) (by rfl) ?hy6_5 (by assumption) ?rest6_5
      case hy6_5 => (intro W hSw; have hKK := HKK.out.below ((T4.out.trans (hSw.mono T4.out.size))) HBL.out; have g0 := hKK.k0; have g1 := hKK.k1; have g2 := hKK.k2; have g3 := hKK.k3; have g4 := hKK.k4; clear hKK; go_simp; try with_reducible rfl)
      try simp only [Act.put]
      try simp only [List.setIfInBounds_toArray]
      try simp only [List.set_cons_succ]
      try simp only [List.set_cons_zero]
      have BD := Lib.hid BC.out
      refine wpAnyH_ready (rs := [7]) (by kernel_rfl) (by simp) ?_
      refine AllReadyH.cons rfl (fun K hK => ?_) AllReadyH.nil
      rw [if_pos (by rfl)]
      go_simp
      replace BC := Lib.hid (BC.out.alloc BC.out.size (.cells #[.int .u64 0, .int .u64 0, .int .u64 0, .int .i64 0, .slice none 0 0] 48))
      refine hK.out _ _ (BC.out) (fun hHeld => ?_)
      try simp only [Act.put]
      try simp only [List.setIfInBounds_toArray]
      try simp only [List.set_cons_succ]
      try simp only [List.set_cons_zero]
      clear hK K
      refine wpAnyH_ready (rs := [8]) (by kernel_rfl) (by simp) ?_
      refine AllReadyH.cons rfl (fun K hK => ?_) AllReadyH.nil
      rw [if_pos (by rfl)]
      go_simp
      clear BC
      have BC := Lib.hid (BD.out.alloc BD.out.size (.cells #[.int .u64 (x.typ : Int), .int .u64 (x.num : Int), .int .u64 (x.flg : Int), .int .i64 x.crc, .slice Ax nd cd] 48))
      refine hK.out _ _ (BC.out) (fun hHeld => ?_)
      try simp only [Act.put]
      try simp only [List.setIfInBounds_toArray]
      try simp only [List.set_cons_succ]
      try simp only [List.set_cons_zero]
      clear hK K
      refine wpAnyH_done (by kernel_rfl) ?_ _
      go_wp2_with fail
      go_meet
      exact ⟨_, rfl, heap_alloc_new w5 _, BC.out⟩
    refine AllReadyH.cons rfl (fun K hK => ?_) AllReadyH.nil
    · skip
      rw [if_pos (by rfl)]
      go_simp
      have BN := Lib.hid (BC.out.alloc BC.out.size (.cells #[.int .u64 0, .int .u64 0, .int .u64 0, .int .i64 0, .slice none 0 0] 48))
      have ZR := Lib.hid (heap_alloc_new w4.drew (.cells #[.int .u64 0, .int .u64 0, .int .u64 0, .int .i64 0, .slice none 0 0] 48))
      clear BC
      refine hK.out _ _ (BN.out) (fun hHeld => ?_)
      try simp only [Act.put]
      try simp only [List.setIfInBounds_toArray]
      try simp only [List.set_cons_succ]
      try simp only [List.set_cons_zero]
      clear hK K
      refine wpAnyH_ready (rs := [4]) (by kernel_rfl) (by simp) ?_
      refine AllReadyH.cons rfl (fun K hK => ?_) AllReadyH.nil
      rw [if_pos (by rfl)]
      go_simp
      refine (CFI.out _ (T4.out.trans (BN.out.mono T4.out.size))).mono ?_
      rintro e w5 ⟨rfl, hb⟩
      have Z5 : Hid (w5.heap[w4.heap.size]? = some (.cells #[.int .u64 0, .int .u64 0, .int .u64 0, .int .i64 0, .slice none 0 0] 48)) := (hb.block w4.heap.size (by simp)).trans ZR.out
      have BC := Lib.hid (BN.out.trans (hb.mono BN.out.size))
      clear hb BN ZR
      go_simp
      refine hK.out _ _ (BC.out) (fun hHeld => ?_)
      try simp only [Act.put]
      try simp only [List.setIfInBounds_toArray]
      try simp only [List.set_cons_succ]
      try simp only [List.set_cons_zero]
      clear hK K
      refine takeR (i := 5) (v := ?v5_6) rfl (by kernel_rfl) (by kernel_rfl) (by kernel_rfl) (fun _ _ _ h => h) (by rfl) ?hy5_6 (by assumption) ?rest5_6
      case hy5_6 => (intro W hSw; go_simp; try with_reducible rfl)
      try simp only [Act.put]
      try simp only [List.setIfInBounds_toArray]
      try simp only [List.set_cons_succ]
      try simp only [List.set_cons_zero]
      refine takeR (i := 6) (v := ?v6_7) rfl (by kernel_rfl) (by kernel_rfl) (by kernel_rfl) (fun _ _ _ h => h) (by rfl) ?hy6_7 (by assumption) ?rest6_7
      case hy6_7 => (intro W hSw; have hKK := HKK.out.below ((T4.out.trans (hSw.mono T4.out.size))) HBL.out; have g0 := hKK.k0; have g1 := hKK.k1; have g2 := hKK.k2; have g3 := hKK.k3; have g4 := hKK.k4; clear hKK; go_simp; try with_reducible rfl)
      try simp only [Act.put]
      try simp only [List.setIfInBounds_toArray]
      try simp only [List.set_cons_succ]
      try simp only [List.set_cons_zero]
      have z0 := cell_row Z5.out 0 rfl
      have z1 := cell_row Z5.out 1 rfl
      have z2 := cell_row Z5.out 2 rfl
      have z3 := cell_row Z5.out 3 rfl
      have z4 := cell_row Z5.out 4 rfl
      have f0 := row_free Z5.out 0
      have f1 := row_free Z5.out 1
      have f2 := row_free Z5.out 2
      have f3 := row_free Z5.out 3
      have f4 := row_free Z5.out 4
      refine wpAnyH_ready (rs := [8]) (by kernel_rfl) (by simp) ?_
      refine AllReadyH.cons rfl (fun K hK => ?_) AllReadyH.nil
      rw [if_pos (by rfl)]
      go_simp
      refine hK.out _ _ (below_put5 BC.out (Nat.le_refl _)) (fun hHeld => ?_)
      try simp only [Act.put]
      try simp only [List.setIfInBounds_toArray]
      try simp only [List.set_cons_succ]
      try simp only [List.set_cons_zero]
      clear hK K
      clear z0 z1 z2 z3 z4 f0 f1 f2 f3 f4
      refine wpAnyH_done (by kernel_rfl) ?_ _
      go_wp2_with fail
      go_meet
      exact ⟨_, rfl, put5_row Z5.out, below_put5 BC.out (Nat.le_refl _)⟩
  case rest =>
    obtain ⟨gx, rfl, hrow, hb⟩ := hcut.out
    clear hcut
    obtain ⟨w5, hw⟩ : ∃ w', w' = wc := ⟨_, rfl⟩
    subst hw
    have T5 := Lib.hid (T4.out.trans (hb.mono T4.out.size))
    have R25 := Lib.hid ((R24.out.below hb).more hb.size)
    have ROWX := Lib.hid hrow
    have ZX : Hid (gx < w5.heap.size) := row_lt hrow
    clear hb hrow R24 HRW CFI CF
    have CHD := Lib.hid (fun (m : Nat) (hm : m ≤ 7) (k : Nat) (W : World) (hk : k < 18446744073709551616) => (show Calls Tryz.prog 62 #[.int .i64 (m : Int), .int .u64 (k : Int)] W (GivesO 5 (hd m k) W) from by
      have := rhead_any (m : Int) k W (by have e : m = 0 ∨ m = 1 ∨ m = 2 ∨ m = 3 ∨ m = 4 ∨ m = 5 ∨ m = 6 ∨ m = 7 := by omega
                                          rcases e with rfl | rfl | rfl | rfl | rfl | rfl | rfl | rfl <;> decide) hk
      have e : headB (m : Int) k = hd m k := by unfold headB; rw [if_neg (by omega), Int.toNat_natCast]
      rw [e] at this
      exact this))
    obtain ⟨H2, hH2⟩ : ∃ H2, H2 = (hd 2 nd).length := ⟨_, rfl⟩
    obtain ⟨HT, hHT⟩ : ∃ H, H = (hd 0 x.typ).length := ⟨_, rfl⟩
    obtain ⟨HN, hHN⟩ : ∃ H, H = (hd 0 x.num).length := ⟨_, rfl⟩
    obtain ⟨HF, hHF⟩ : ∃ H, H = (hd 0 x.flg).length := ⟨_, rfl⟩
    have LEN : Hid (L.length = (if s / 4 = 1 then 3 else 0) + ((if s / 2 % 2 = 1 then HT + HN + HF else 0) + ((if s % 2 = 1 then n4 else 0) + (1 + H2 + nd)))) := by show _ = _; rw [HL.out, iplB_len PW s x HS7.out, hHT, hHN, hHF, hH2, HN4.out, HND.out]
    have LEN7 : Hid (L7.length = 3 + (HT + HN + HF + (n4 + (1 + H2 + nd)))) := by show _ = _; rw [HL7.out, iplB_len PW 7 x (by decide), hHT, hHN, hHF, hH2, HN4.out, HND.out]; rfl
    have FIRST : Hid (((L.getD 0 0).toNat : Int) = (s : Int)) := by show _ = _; rw [HL.out, iplB_first PW s x HS7.out]
    have SZ : Hid (H2 ≤ 9 ∧ HT ≤ 9 ∧ HN ≤ 9 ∧ HF ≤ 9 ∧ n4 ≤ 454 ∧ nd ≤ 5000) := by
      refine ⟨?_, ?_, ?_, ?_, by rw [← HN4.out]; exact HPL.out, by rw [← HND.out]; exact HX5.out⟩
      · rw [hH2, hd_len]; have := hsz_le nd; omega
      · rw [hHT, hd_len]; have := hsz_le x.typ; omega
      · rw [hHN, hd_len]; have := hsz_le x.num; omega
      · rw [hHF, hd_len]; have := hsz_le x.flg; omega
    have HH2 := Lib.hid hH2.symm
    have HHT := Lib.hid hHT.symm
    have HHN := Lib.hid hHN.symm
    have HHF := Lib.hid hHF.symm
    obtain ⟨M1, hM1⟩ : ∃ M, M = 1 + H2 := ⟨_, rfl⟩
    obtain ⟨N0, hN0⟩ : ∃ M, M = M1 + nd := ⟨_, rfl⟩
    have HM1 := Lib.hid hM1
    have HN0 := Lib.hid hN0
    have wa : IntKind.i64.wrap (1 + (H2 : Int)) = (M1 : Int) := by rw [i64eq]; have := SZ.out; unfold wrap64; omega
    have wb : IntKind.i64.wrap ((M1 : Int) + (nd : Int)) = (N0 : Int) := by rw [i64eq]; have := SZ.out; unfold wrap64; omega
    have wu : IntKind.u64.wrap (nd : Int) = (nd : Int) := by rw [IntKind.wrap_u64]; have := SZ.out; omega
    clear hH2 hHT hHN hHF hM1 hN0
    go_upto_region 9 with fail
    go_cut [14] (fun v wx => v = .int .i64 (N0 : Int) ∧ Hid (Below w5.heap.size w5 wx))
    case first =>
      refine wp_region_held_drew (S := fun W => Below w5.heap.size w5 W) (by kernel_rfl) Below.drew_ (fun hHeld => ?_)
      have BC := Lib.hid hHeld
      refine takeR (i := 0) (v := ?v0_8) rfl (by kernel_rfl) (by kernel_rfl) (by kernel_rfl) (fun _ _ _ h => h) (by rfl) ?hy0_8 (by assumption) ?rest0_8
      case hy0_8 => (intro W hSw; go_simp; try with_reducible rfl)
      try simp only [Act.put]
      try simp only [List.setIfInBounds_toArray]
      try simp only [List.set_cons_succ]
      try simp only [List.set_cons_zero]
      refine takeR (i := 1) (v := ?v1_9) rfl (by kernel_rfl) (by kernel_rfl) (by kernel_rfl) (fun _ _ _ h => h) (by rfl) ?hy1_9 (by assumption) ?rest1_9
      case hy1_9 => (intro W hSw; have y4 := cell_row (rowBelow ROWX.out hSw ZX.out) 4 rfl; go_simp; try with_reducible rfl)
      try simp only [Act.put]
      try simp only [List.setIfInBounds_toArray]
      try simp only [List.set_cons_succ]
      try simp only [List.set_cons_zero]
      refine takeR (i := 2) (v := ?v2_10) rfl (by kernel_rfl) (by kernel_rfl) (by kernel_rfl) (fun _ _ _ h => h) (by rfl) ?hy2_10 (by assumption) ?rest2_10
      case hy2_10 => (intro W hSw; go_simp; try with_reducible rfl)
      try simp only [Act.put]
      try simp only [List.setIfInBounds_toArray]
      try simp only [List.set_cons_succ]
      try simp only [List.set_cons_zero]
      refine takeR (i := 3) (v := ?v3_11) rfl (by kernel_rfl) (by kernel_rfl) (by kernel_rfl) (fun _ _ _ h => h) (by rfl) ?hy3_11 (by assumption) ?rest3_11
      case hy3_11 => (intro W hSw; go_simp; try with_reducible rfl)
      try simp only [Act.put]
      try simp only [List.setIfInBounds_toArray]
      try simp only [List.set_cons_succ]
      try simp only [List.set_cons_zero]
      refine takeR (i := 7) (v := ?v7_12) rfl (by kernel_rfl) (by kernel_rfl) (by kernel_rfl) (fun _ _ _ h => h) (by rfl) ?hy7_12 (by assumption) ?rest7_12
      case hy7_12 => (intro W hSw; go_simp; try with_reducible rfl)
      try simp only [Act.put]
      try simp only [List.setIfInBounds_toArray]
      try simp only [List.set_cons_succ]
      try simp only [List.set_cons_zero]
      refine takeR (i := 8) (v := ?v8_13) rfl (by kernel_rfl) (by kernel_rfl) (by kernel_rfl) (fun _ _ _ h => h) (by rfl) ?hy8_13 (by assumption) ?rest8_13
      case hy8_13 => (intro W hSw; have y4 := cell_row (rowBelow ROWX.out hSw ZX.out) 4 rfl; go_simp; try with_reducible rfl)
      try simp only [Act.put]
      try simp only [List.setIfInBounds_toArray]
      try simp only [List.set_cons_succ]
      try simp only [List.set_cons_zero]
      refine takeR (i := 9) (v := ?v9_14) rfl (by kernel_rfl) (by kernel_rfl) (by kernel_rfl) (fun _ _ _ h => h) (by rfl) ?hy9_14 (by assumption) ?rest9_14
      case hy9_14 => (intro W hSw; go_simp; try with_reducible rfl)
      try simp only [Act.put]
      try simp only [List.setIfInBounds_toArray]
      try simp only [List.set_cons_succ]
      try simp only [List.set_cons_zero]
      refine wpAnyH_ready (rs := [4]) (by kernel_rfl) (by simp) ?_
      refine AllReadyH.cons rfl (fun K hK => ?_) AllReadyH.nil
      rw [if_pos (by rfl)]
      go_simp
      refine (CHD.out 2 (by decide) nd _ (by have := SZ.out; omega)).mono ?_
      rintro e wh ⟨vh, rfl, ho, hb⟩
      obtain ⟨Ah, ch, rfl, -, -, -⟩ := ho.rdn HH2.out
      replace BC := Lib.hid (BC.out.trans (hb.mono BC.out.size))
      clear ho hb
      go_simp
      refine hK.out _ _ (BC.out) (fun hHeld => ?_)
      try simp only [Act.put]
      try simp only [List.setIfInBounds_toArray]
      try simp only [List.set_cons_succ]
      try simp only [List.set_cons_zero]
      clear hK K
      refine takeR (i := 5) (v := ?v5_15) rfl (by kernel_rfl) (by kernel_rfl) (by kernel_rfl) (fun _ _ _ h => h) (by rfl) ?hy5_15 (by assumption) ?rest5_15
      case hy5_15 => (intro W hSw; go_simp; try with_reducible rfl)
      try simp only [Act.put]
      try simp only [List.setIfInBounds_toArray]
      try simp only [List.set_cons_succ]
      try simp only [List.set_cons_zero]
      refine takeR (i := 6) (v := ?v6_16) rfl (by kernel_rfl) (by kernel_rfl) (by kernel_rfl) (fun _ _ _ h => h) (by rfl) ?hy6_16 (by assumption) ?rest6_16
      case hy6_16 => (intro W hSw; go_simp; try with_reducible rfl)
      try simp only [Act.put]
      try simp only [List.setIfInBounds_toArray]
      try simp only [List.set_cons_succ]
      try simp only [List.set_cons_zero]
      refine takeR (i := 10) (v := ?v10_17) rfl (by kernel_rfl) (by kernel_rfl) (by kernel_rfl) (fun _ _ _ h => h) (by rfl) ?hy10_17 (by assumption) ?rest10_17
      case hy10_17 => (intro W hSw; go_simp; try with_reducible rfl)
      try simp only [Act.put]
      try simp only [List.setIfInBounds_toArray]
      try simp only [List.set_cons_succ]
      try simp only [List.set_cons_zero]
      refine takeR (i := 11) (v := ?v11_18) rfl (by kernel_rfl) (by kernel_rfl) (by kernel_rfl) (fun _ _ _ h => h) (by rfl) ?hy11_18 (by assumption) ?rest11_18
      case hy11_18 => (intro W hSw; go_simp; try with_reducible rfl)
      try simp only [Act.put]
      try simp only [List.setIfInBounds_toArray]
      try simp only [List.set_cons_succ]
      try simp only [List.set_cons_zero]
      refine wpAnyH_done (by kernel_rfl) ?_ _
      go_wp2_with fail
      go_meet
      exact ⟨rfl, BC.out⟩
    case rest =>
      obtain ⟨rfl, D6⟩ := hcut
      obtain ⟨w6, hw⟩ : ∃ w', w' = wc := ⟨_, rfl⟩
      subst hw
      have T6 := Lib.hid (T5.out.trans (D6.out.mono T5.out.size))
      have ROWX6 := Lib.hid (rowBelow ROWX.out D6.out ZX.out)
      have ZX6 : Hid (gx < w6.heap.size) := row_lt ROWX6.out
      have R26 := Lib.hid ((R25.out.below D6.out).more D6.out.size)
      have LN0 : Hid (N0 = 1 + H2 + nd) := by show _ = _; have h1 := HM1.out; have h2 := HN0.out; omega
      obtain ⟨R1v, hR1⟩ : ∃ R, R = decide (s % 2 = 1) := ⟨_, rfl⟩
      obtain ⟨R2v, hR2⟩ : ∃ R, R = decide (s / 2 % 2 = 1) := ⟨_, rfl⟩
      obtain ⟨R4v, hR4⟩ : ∃ R, R = decide (s / 4 = 1) := ⟨_, rfl⟩
      have b1 : (bits BinOp.and IntKind.i64 (s : Int) 1 != 0) = R1v := by rw [hR1]; exact bitn_1 s HS7.out
      have b2 : (bits BinOp.and IntKind.i64 (s : Int) 2 != 0) = R2v := by rw [hR2]; exact bitn_2 s HS7.out
      have b4 : (bits BinOp.and IntKind.i64 (s : Int) 4 != 0) = R4v := by rw [hR4]; exact bitn_4 s HS7.out
      have HR1 := Lib.hid hR1
      have HR2 := Lib.hid hR2
      have HR4 := Lib.hid hR4
      clear hR1 hR2 hR4 D6 ROWX ZX R25 T5 wa wb wu HM1 HN0 HH2
      obtain ⟨N1, hN1⟩ : ∃ N, N = (if R1v = true then N0 + n4 else N0) := ⟨_, rfl⟩
      have HN1 := Lib.hid hN1
      clear hN1
      go_upto_if 81 with fail
      go_cut [14] (fun v wx => v = .int .i64 (N1 : Int) ∧ w6 = wx)
      case first =>
        cases R1v with
        | true =>
          have w1 : wrap64 ((N0 : Int) + (n4 : Int)) = (N1 : Int) := by have h1 := HN1.out; rw [if_pos rfl] at h1; have := SZ.out; have := LN0.out; unfold wrap64; omega
          go_wp2_with fail
          go_meet
          exact ⟨rfl, rfl⟩
        | false =>
          have h1 : N1 = N0 := by have h1 := HN1.out; rw [if_neg (by decide)] at h1; exact h1
          subst h1
          go_wp2_with fail
          go_meet
          exact ⟨rfl, rfl⟩
      case rest =>
        obtain ⟨rfl, rfl⟩ := hcut
        have LN1 : Hid (N1 ≤ 6000) := by show _ ≤ _; have h1 := HN1.out; have := SZ.out; have := LN0.out; cases R1v <;> simp at h1 <;> omega
        obtain ⟨N2, hN2⟩ : ∃ N, N = (if R2v = true then N1 + HT + HN + HF else N1) := ⟨_, rfl⟩
        have HN2 := Lib.hid hN2
        clear hN2
        go_upto_if 88 with fail
        go_cut [14] (fun v wx => v = .int .i64 (N2 : Int) ∧ Hid (Below w6.heap.size w6 wx))
        case first =>
          cases R2v with
          | true =>
            have h1 := HN2.out
            rw [if_pos rfl] at h1
            obtain ⟨P1, hP1⟩ : ∃ P, P = N1 + HT := ⟨_, rfl⟩
            obtain ⟨P2, hP2⟩ : ∃ P, P = P1 + HN := ⟨_, rfl⟩
            have w1 : IntKind.i64.wrap ((N1 : Int) + (HT : Int)) = (P1 : Int) := by rw [i64eq]; have := SZ.out; have := LN1.out; unfold wrap64; omega
            have w2' : IntKind.i64.wrap ((P1 : Int) + (HN : Int)) = (P2 : Int) := by rw [i64eq]; have := SZ.out; have := LN1.out; unfold wrap64; omega
            have w3' : IntKind.i64.wrap ((P2 : Int) + (HF : Int)) = (N2 : Int) := by rw [i64eq]; have := SZ.out; have := LN1.out; unfold wrap64; omega
            clear h1 hP1 hP2
            go_wp2_with fail
            refine wp_region_held_drew (S := fun W => Below w6.heap.size w6 W) (by kernel_rfl) Below.drew_ (fun hHeld => ?_)
            have BC := Lib.hid hHeld
            refine takeR (i := 0) (v := ?v0_19) rfl (by kernel_rfl) (by kernel_rfl) (by kernel_rfl) (fun _ _ _ h => h) (by rfl) ?hy0_19 (by assumption) ?rest0_19
            case hy0_19 => (intro W hSw; go_simp; try with_reducible rfl)
            try simp only [Act.put]
            try simp only [List.setIfInBounds_toArray]
            try simp only [List.set_cons_succ]
            try simp only [List.set_cons_zero]
            refine takeR (i := 1) (v := ?v1_20) rfl (by kernel_rfl) (by kernel_rfl) (by kernel_rfl) (fun _ _ _ h => h) (by rfl) ?hy1_20 (by assumption) ?rest1_20
            case hy1_20 => (intro W hSw; go_simp; try with_reducible rfl)
            try simp only [Act.put]
            try simp only [List.setIfInBounds_toArray]
            try simp only [List.set_cons_succ]
            try simp only [List.set_cons_zero]
            refine takeR (i := 2) (v := ?v2_21) rfl (by kernel_rfl) (by kernel_rfl) (by kernel_rfl) (fun _ _ _ h => h) (by rfl) ?hy2_21 (by assumption) ?rest2_21
            case hy2_21 => (intro W hSw; have y0 := cell_row (rowBelow ROWX6.out hSw ZX6.out) 0 rfl; go_simp; try with_reducible rfl)
            try simp only [Act.put]
            try simp only [List.setIfInBounds_toArray]
            try simp only [List.set_cons_succ]
            try simp only [List.set_cons_zero]
            refine takeR (i := 6) (v := ?v6_22) rfl (by kernel_rfl) (by kernel_rfl) (by kernel_rfl) (fun _ _ _ h => h) (by rfl) ?hy6_22 (by assumption) ?rest6_22
            case hy6_22 => (intro W hSw; go_simp; try with_reducible rfl)
            try simp only [Act.put]
            try simp only [List.setIfInBounds_toArray]
            try simp only [List.set_cons_succ]
            try simp only [List.set_cons_zero]
            refine takeR (i := 7) (v := ?v7_23) rfl (by kernel_rfl) (by kernel_rfl) (by kernel_rfl) (fun _ _ _ h => h) (by rfl) ?hy7_23 (by assumption) ?rest7_23
            case hy7_23 => (intro W hSw; have y1 := cell_row (rowBelow ROWX6.out hSw ZX6.out) 1 rfl; go_simp; try with_reducible rfl)
            try simp only [Act.put]
            try simp only [List.setIfInBounds_toArray]
            try simp only [List.set_cons_succ]
            try simp only [List.set_cons_zero]
            refine takeR (i := 11) (v := ?v11_24) rfl (by kernel_rfl) (by kernel_rfl) (by kernel_rfl) (fun _ _ _ h => h) (by rfl) ?hy11_24 (by assumption) ?rest11_24
            case hy11_24 => (intro W hSw; go_simp; try with_reducible rfl)
            try simp only [Act.put]
            try simp only [List.setIfInBounds_toArray]
            try simp only [List.set_cons_succ]
            try simp only [List.set_cons_zero]
            refine takeR (i := 12) (v := ?v12_25) rfl (by kernel_rfl) (by kernel_rfl) (by kernel_rfl) (fun _ _ _ h => h) (by rfl) ?hy12_25 (by assumption) ?rest12_25
            case hy12_25 => (intro W hSw; have y2 := cell_row (rowBelow ROWX6.out hSw ZX6.out) 2 rfl; go_simp; try with_reducible rfl)
            try simp only [Act.put]
            try simp only [List.setIfInBounds_toArray]
            try simp only [List.set_cons_succ]
            try simp only [List.set_cons_zero]
            refine wpAnyH_ready (rs := [3]) (by kernel_rfl) (by simp) ?_
            refine AllReadyH.cons rfl (fun K hK => ?_) AllReadyH.nil
            rw [if_pos (by rfl)]
            go_simp
            refine (CHD.out 0 (by decide) x.typ _ (HKK.out.bd.1)).mono ?_
            rintro e wh ⟨vh, rfl, ho, hb⟩
            obtain ⟨Ah, ch, rfl, -, -, -⟩ := ho.rdn HHT.out
            replace BC := Lib.hid (BC.out.trans (hb.mono BC.out.size))
            clear ho hb
            go_simp
            refine hK.out _ _ (BC.out) (fun hHeld => ?_)
            try simp only [Act.put]
            try simp only [List.setIfInBounds_toArray]
            try simp only [List.set_cons_succ]
            try simp only [List.set_cons_zero]
            clear hK K
            refine takeR (i := 4) (v := ?v4_26) rfl (by kernel_rfl) (by kernel_rfl) (by kernel_rfl) (fun _ _ _ h => h) (by rfl) ?hy4_26 (by assumption) ?rest4_26
            case hy4_26 => (intro W hSw; go_simp; try with_reducible rfl)
            try simp only [Act.put]
            try simp only [List.setIfInBounds_toArray]
            try simp only [List.set_cons_succ]
            try simp only [List.set_cons_zero]
            refine takeR (i := 5) (v := ?v5_27) rfl (by kernel_rfl) (by kernel_rfl) (by kernel_rfl) (fun _ _ _ h => h) (by rfl) ?hy5_27 (by assumption) ?rest5_27
            case hy5_27 => (intro W hSw; go_simp; try with_reducible rfl)
            try simp only [Act.put]
            try simp only [List.setIfInBounds_toArray]
            try simp only [List.set_cons_succ]
            try simp only [List.set_cons_zero]
            refine wpAnyH_ready (rs := [8]) (by kernel_rfl) (by simp) ?_
            refine AllReadyH.cons rfl (fun K hK => ?_) AllReadyH.nil
            rw [if_pos (by rfl)]
            go_simp
            refine (CHD.out 0 (by decide) x.num _ (HKK.out.bd.2.1)).mono ?_
            rintro e wh ⟨vh, rfl, ho, hb⟩
            obtain ⟨Ah, ch, rfl, -, -, -⟩ := ho.rdn HHN.out
            replace BC := Lib.hid (BC.out.trans (hb.mono BC.out.size))
            clear ho hb
            go_simp
            refine hK.out _ _ (BC.out) (fun hHeld => ?_)
            try simp only [Act.put]
            try simp only [List.setIfInBounds_toArray]
            try simp only [List.set_cons_succ]
            try simp only [List.set_cons_zero]
            clear hK K
            refine takeR (i := 9) (v := ?v9_28) rfl (by kernel_rfl) (by kernel_rfl) (by kernel_rfl) (fun _ _ _ h => h) (by rfl) ?hy9_28 (by assumption) ?rest9_28
            case hy9_28 => (intro W hSw; go_simp; try with_reducible rfl)
            try simp only [Act.put]
            try simp only [List.setIfInBounds_toArray]
            try simp only [List.set_cons_succ]
            try simp only [List.set_cons_zero]
            refine takeR (i := 10) (v := ?v10_29) rfl (by kernel_rfl) (by kernel_rfl) (by kernel_rfl) (fun _ _ _ h => h) (by rfl) ?hy10_29 (by assumption) ?rest10_29
            case hy10_29 => (intro W hSw; go_simp; try with_reducible rfl)
            try simp only [Act.put]
            try simp only [List.setIfInBounds_toArray]
            try simp only [List.set_cons_succ]
            try simp only [List.set_cons_zero]
            refine wpAnyH_ready (rs := [13]) (by kernel_rfl) (by simp) ?_
            refine AllReadyH.cons rfl (fun K hK => ?_) AllReadyH.nil
            rw [if_pos (by rfl)]
            go_simp
            refine (CHD.out 0 (by decide) x.flg _ (HKK.out.bd.2.2)).mono ?_
            rintro e wh ⟨vh, rfl, ho, hb⟩
            obtain ⟨Ah, ch, rfl, -, -, -⟩ := ho.rdn HHF.out
            replace BC := Lib.hid (BC.out.trans (hb.mono BC.out.size))
            clear ho hb
            go_simp
            refine hK.out _ _ (BC.out) (fun hHeld => ?_)
            try simp only [Act.put]
            try simp only [List.setIfInBounds_toArray]
            try simp only [List.set_cons_succ]
            try simp only [List.set_cons_zero]
            clear hK K
            refine takeR (i := 14) (v := ?v14_30) rfl (by kernel_rfl) (by kernel_rfl) (by kernel_rfl) (fun _ _ _ h => h) (by rfl) ?hy14_30 (by assumption) ?rest14_30
            case hy14_30 => (intro W hSw; go_simp; try with_reducible rfl)
            try simp only [Act.put]
            try simp only [List.setIfInBounds_toArray]
            try simp only [List.set_cons_succ]
            try simp only [List.set_cons_zero]
            refine takeR (i := 15) (v := ?v15_31) rfl (by kernel_rfl) (by kernel_rfl) (by kernel_rfl) (fun _ _ _ h => h) (by rfl) ?hy15_31 (by assumption) ?rest15_31
            case hy15_31 => (intro W hSw; go_simp; try with_reducible rfl)
            try simp only [Act.put]
            try simp only [List.setIfInBounds_toArray]
            try simp only [List.set_cons_succ]
            try simp only [List.set_cons_zero]
            refine takeR (i := 16) (v := ?v16_32) rfl (by kernel_rfl) (by kernel_rfl) (by kernel_rfl) (fun _ _ _ h => h) (by rfl) ?hy16_32 (by assumption) ?rest16_32
            case hy16_32 => (intro W hSw; go_simp; try with_reducible rfl)
            try simp only [Act.put]
            try simp only [List.setIfInBounds_toArray]
            try simp only [List.set_cons_succ]
            try simp only [List.set_cons_zero]
            refine wpAnyH_done (by kernel_rfl) ?_ _
            go_wp2_with fail
            go_meet
            exact ⟨rfl, BC.out⟩
          | false =>
            have h1 : N2 = N1 := by have h1 := HN2.out; rw [if_neg (by decide)] at h1; exact h1
            subst h1
            go_wp2_with fail
            go_meet
            exact ⟨rfl, Below.refl _ _⟩
        case rest =>
          obtain ⟨rfl, D7⟩ := hcut
          obtain ⟨w7, hw⟩ : ∃ w', w' = wc := ⟨_, rfl⟩
          subst hw
          have T7 := Lib.hid (T6.out.trans (D7.out.mono T6.out.size))
          have R27 := (R26.out.below D7.out).more D7.out.size
          have LN2 : Hid (N2 ≤ 6100) := by show _ ≤ _; have h1 := HN2.out; have := SZ.out; have := LN1.out; cases R2v <;> simp at h1 <;> omega
          have hn2 : n2 = L.length := R27.1.symm
          have hpos : 0 < n2 := by rw [hn2, LEN.out]; omega
          obtain ⟨b2', o2, rfl, -, hcell⟩ := R27.2 hpos
          have k0 := hcell 0 hpos
          rw [FIRST.out, Nat.add_zero] at k0
          have i0 : (0 : Int) < (n2 : Int) := by omega
          have w8' : IntKind.u8.wrap (s : Int) = (s : Int) := by
            have h7 := HS7.out
            have e : s = 0 ∨ s = 1 ∨ s = 2 ∨ s = 3 ∨ s = 4 ∨ s = 5 ∨ s = 6 ∨ s = 7 := by omega
            rcases e with rfl | rfl | rfl | rfl | rfl | rfl | rfl | rfl <;> rfl
          have hss : ((s : Int) == (s : Int)) = true := by simp
          have HN2L := Lib.hid hn2
          clear hn2 hpos hcell R27 D7 ROWX6 ZX6 R26
          obtain ⟨N3, hN3⟩ : ∃ N, N = (if R4v = true then N2 + 3 else N2) := ⟨_, rfl⟩
          have HN3 := Lib.hid hN3
          clear hN3
          have t1 : ((n2 : Int) == (N3 : Int)) = true := by
            have e1 := LEN.out
            have e2 := HN3.out
            have e3 := HN2.out
            have e4 := HN1.out
            rw [HR1.out] at e4
            rw [HR2.out] at e3
            rw [HR4.out] at e2
            have e5 := HN2L.out
            have e6 := LN0.out
            simp only [decide_eq_true_eq] at e2 e3 e4
            have : n2 = N3 := by
              rw [e5, e1, e2, e3, e4, e6]
              split <;> split <;> split <;> omega
            simp [this]
          have t2 : n2 ≤ n3 := by
            have e1 := LEN.out
            have e2 := LEN7.out
            have e3 := HN2L.out
            have e4 := HN3'.out
            have : n2 ≤ n3 := by
              rw [e3, ← e4, e1, e2]
              split <;> split <;> split <;> omega
            exact this
          go_upto_if 107 with fail
          go_cut [14] (fun v wx => v = .int .i64 (N3 : Int) ∧ w7 = wx)
          case first =>
            cases R4v with
            | true =>
              have w1 : wrap64 ((N2 : Int) + 3) = (N3 : Int) := by have h1 := HN3.out; rw [if_pos rfl] at h1; have := LN2.out; unfold wrap64; omega
              go_wp2_with fail
              go_meet
              exact ⟨rfl, rfl⟩
            | false =>
              have h1 : N3 = N2 := by have h1 := HN3.out; rw [if_neg (by decide)] at h1; exact h1
              subst h1
              go_wp2_with fail
              go_meet
              exact ⟨rfl, rfl⟩
          case rest =>
            obtain ⟨rfl, rfl⟩ := hcut
            go_wp2_with fail
            refine (CH.out w7 T7.out).mono ?_
            rintro e wh ⟨rfl, hb2⟩
            have TH := Lib.hid (T7.out.trans (hb2.mono T7.out.size))
            clear hb2
            go_wp2_with fail
            go_ret
            exact ⟨rfl, TH.out⟩
end Go.Proofs.YtlecbblmaadpiaaGreatDoor
