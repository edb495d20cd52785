/- What a digest on its way is behind the parts that it took (layer 7). -/
import Derived.Test.YtllodapnbdbpeaaShaI
import Derived.StillTailTactics
import Derived.RegionTactic
import Derived.Deep.RegionHeld3
import Derived.Deep.RegionLawGrows
namespace Go.Proofs.Ytllodapnbdbpeaa
open Go.RowKit

/-- How long a slice is. -/
def lenV : Value → Nat
  | .slice _ n _ => n
  | _ => 0

def TkSt (w wr : World) (g : Nat) (v0 v : Value) (T : List UInt8) (Z : Nat) : Prop := TkS w wr g v0 v (stL T) (wtL T) Z

set_option maxRecDepth 100000 in
set_option maxHeartbeats 4000000 in
theorem take_any (g : Nat) (v0 : Value) (T0 : List UInt8) (Ap : Option Addr) (np cp : Nat) (ps : List Pt) (w : World) (hd : Dg w g (stL T0) v0 T0.length) (ho : Ob w (g + 1) 5 v0 (wtL T0))
    (hp : PtsF w (Fr w g v0) Ap np ps) (hz : (T0 ++ catP ps).length ≤ 1099511627776) (hnp : np ≤ 1099511627776) :
    Calls Try.prog 32 #[.pointer (some ⟨g, 0, none⟩), .slice Ap np cp] w fun e w' => e = .returned (.tuple #[]) ∧ ∃ v, TkSt w w' g v0 v (T0 ++ catP ps) (T0 ++ catP ps).length := by
  have HP := Lib.hid hp
  have HZ := Lib.hid hz
  have H0 := Lib.hid ({ dg := hd, ob := ho, bl := Below.refl _ _, fr := fun _ _ => rfl, ow := fun k hk => .inl hk, sz := Nat.le_refl _ } : TkS w w g v0 v0 (stL T0) (wtL T0) T0.length)
  clear hd ho hp hz
  go_enter Try.func32, Try.ntmps32
  go_wp2_with fail
  go_loopw [9] (fun i wr => ∃ (k : Nat) (v : Value), k ≤ np ∧ i = .int .i64 k ∧ Hid (TkSt w wr g v0 v (T0 ++ catP (ps.take k)) (T0 ++ catP (ps.take k)).length)) (fun i _ => np - (intOf i).toNat)
  case atStart => exact ⟨0, v0, Nat.zero_le _, rfl, by rw [List.take_zero, show catP [] = [] from rfl, List.append_nil]; exact H0.out⟩
  case round =>
    obtain ⟨k, v, hk, rfl, hst⟩ := hrel
    by_cases hlt : k < np
    · obtain ⟨p, hpk⟩ : ∃ p, ps[k]? = some p := ⟨_, List.getElem?_eq_getElem (by rw [HP.out.1]; exact hlt)⟩
      obtain ⟨bp, op, rfl, hFp, hcp⟩ := HP.out.2.1 (by omega)
      obtain ⟨hpr, hpc, hpm⟩ := HP.out.2.2 p (List.mem_of_getElem? hpk)
      have hcell : wr.cell? ⟨bp, op + k, none⟩ = some (.slice p.A p.n p.c) := by
        rw [← hcp k p hpk]
        simp only [World.cell?]
        rw [(TkS.fr hst.out) bp hFp]
      obtain ⟨T, hT⟩ : ∃ T, T = T0 ++ catP (ps.take k) := ⟨_, rfl⟩
      have hT2 : T0 ++ catP (ps.take (k + 1)) = T ++ p.l := by rw [catP_step hpk, ← List.append_assoc, hT]
      have hst2 := hst.out
      rw [← hT] at hst2
      have hlen9 := (TkS.dg hst2).len
      have hf9 := (TkS.dg hst2).free 9
      have hsum : (T ++ p.l).length ≤ 1099511627776 := by
        rw [← hT2]
        have e : T0 ++ catP ps = (T0 ++ catP (ps.take (k + 1))) ++ catP (ps.drop (k + 1)) := by
          rw [List.append_assoc]
          congr 1
          conv => lhs; rw [← List.take_append_drop (k + 1) ps]
          exact List.flatMap_append ..
        have := HZ.out
        rw [e, List.length_append] at this
        omega
      have hnl := hpr.1
      have hlT : (T ++ p.l).length = T.length + p.n := by rw [List.length_append, hnl]
      have hs1 : (T.length : Int) + (p.n : Int) ≤ 1099511627776 := by omega
      have ST := Lib.hid hst2
      have HTT := Lib.hid hT2
      have HPR := Lib.hid hpr
      have HSUM := Lib.hid hsum
      have HLT := Lib.hid hlT
      obtain ⟨L0, hL0⟩ : ∃ L, L = T.length := ⟨_, rfl⟩
      rw [← hL0] at hlen9 hs1
      have HL0 := Lib.hid hL0
      have HFP := Lib.hid hFp
      clear hst hT hT2 hst2 hpk hcp hFp hpr hsum hlT hL0 hnl
      obtain ⟨wq, hwq⟩ : ∃ W, W = wr := ⟨_, rfl⟩
      subst hwq
      have ST9 := Lib.hid (TkS.set9 ST.out (T ++ p.l).length)
      rw [HLT.out, ← HL0.out] at ST9
      have HPR9 : Hid (RdF (wq.setCell ⟨g, 9, none⟩ (.int .i64 ((L0 + p.n : Nat) : Int))) (Fr w g v0) p.A p.n p.l) := HPR.out.keep fun b hb => (TkS.fr ST9.out) b hb
      go_wp2_with fail
      go_loopw [5] (fun q wy => ∃ (A' : Option Addr) (n' c' : Nat) (v : Value) (T' rest : List UInt8), q = .slice A' n' c' ∧ n' ≤ c' ∧ c' ≤ 9223372036854775807 ∧ Hid (RdF wy (Fr w g v0) A' n' rest) ∧ Hid (T' ++ rest = T ++ p.l) ∧ Hid (TkSt w wy g v0 v T' (L0 + p.n)))
        (fun q _ => lenV q)
      case atStart => exact ⟨p.A, p.n, p.c, v, T, p.l, rfl, hpc, hpm, HPR9.out, rfl, ST9.out⟩
      case round =>
        obtain ⟨A', n', c', v, T', rest, rfl, hc', hcm, hrd, hcat, hst⟩ := hrel
        by_cases h0 : 0 < n'
        · have hlr := hrd.out.1
          have hwl := wtL_length T'
          obtain ⟨nW, hnW⟩ : ∃ n, n = (wtL T').length := ⟨_, rfl⟩
          have hnW64 : nW < 64 := by omega
          obtain ⟨Av, cv, rfl, hvc, hvm, hvr⟩ := Ob.rd_n (TkS.ob hst.out) hnW.symm
          obtain ⟨m, hm⟩ : ∃ m, m = min (64 - nW) n' := ⟨_, rfl⟩
          have hmin : min (64 - (nW : Int)) (n' : Int) = (m : Int) := by omega
          have hm1 : m ≤ n' := by omega
          have hm2 : 0 < m := by omega
          have hm3 : nW + m ≤ 64 := by omega
          have hc8 := (TkS.dg hst.out).wait
          have hf8 := (TkS.dg hst.out).free 8
          obtain ⟨A1, c1, hs1, hc1, hc1', hr1⟩ := cutF_h (P := Try.prog) 22 5 rfl size_u8 c' hrd.out (m : Int) m rfl hm1 hc'
          obtain ⟨A2, c2, hs2, hc2, hc2', hr2⟩ := cutF_l (P := Try.prog) 22 5 rfl size_u8 c' hrd.out (m : Int) m rfl hm1 hc'
          have HR1 := Lib.hid hr1
          have HR2 := Lib.hid hr2
          have HNW := Lib.hid hnW
          have HM := Lib.hid hm
          have n0 : (0 : Int) < (n' : Int) := by omega
          have w0 : (nW : Int) < 64 := by omega
          obtain ⟨X, hX⟩ : ∃ X, X = rest.take m := ⟨_, rfl⟩
          obtain ⟨W, hW⟩ : ∃ W, W = wtL T' := ⟨_, rfl⟩
          obtain ⟨S, hS⟩ : ∃ S, S = stL T' := ⟨_, rfl⟩
          have hst2 : TkS w wr g v0 (.slice Av nW cv) S W (L0 + p.n) := by rw [hW, hS]; exact hst.out
          have hXl : X.length = m := by rw [hX, List.length_take, hlr]; omega
          have hWl : W.length = nW := by rw [hW, hnW]
          rw [← hX] at hr1
          have hrd1 : Rd wr wr.heap.size A1 m X := hr1.rd (fun b hb => Nat.lt_of_lt_of_le hb.1 hst2.sz)
          have hbn : W.length + m ≤ 140737488355328 := by rw [hWl]; omega
          have HST2 := Lib.hid hst2
          have HRD1 := Lib.hid hrd1
          have HBN := Lib.hid hbn
          have HX := Lib.hid hX
          have HW := Lib.hid hW
          have HS := Lib.hid hS
          have HGL := Lib.hid (show g + 1 ≤ wr.heap.size from hst2.dg.lt)
          obtain ⟨nx, hnx⟩ : ∃ n, n = nW + m := ⟨_, rfl⟩
          have hlx : (W ++ X).length = nx := by rw [List.length_append, hWl, hXl, hnx]
          have HLX := Lib.hid hlx
          have HNX := Lib.hid hnx
          clear hlr hwl hnW hvr hm hr1 hr2 hX hW hS hst2 hXl hWl hrd1 hbn hlx hnx
          go_wp2_with fail
          go_region_law (first
            | (refine step_appH rfl (.tmp 38) (.tmp 41) 22 rfl (g + 1) 5 Try.underlying22 info_u8 _ W rfl (TkS.ob HST2.out).drew wr.heap.size A1 m c1 X rfl HRD1.out.drew HBN.out HGL.out ?_; intro v2 w2 ho2 hb2 hv2; have T2 := Lib.hid (TkS.app HST2.out ⟨hb2.os, hb2.tape, hb2.output, hb2.size, hb2.block⟩ ho2 hv2); have d2 := (TkS.dg HST2.out).of_block (hb2.block g (TkS.dg HST2.out).lt (fun e => by have := (TkS.own HST2.out g e.symm).1; omega)); have cz := d2.wait; have fz := d2.free 8; obtain ⟨Ax, cx, rfl, hxc, hxm, hxr⟩ := Ob.rd_n ho2 HLX.out; have O2 := Lib.hid ho2; clear ho2 hb2 hv2 d2 hxr)
            | fail)
          clear cz fz
          generalize w2.setCell ⟨g, 8, none⟩ (.slice Ax nx cx) = wz at *
          have HKR : Hid (RdF wr (Fr w g v0) A2 (n' - m) (rest.drop m)) := HR2.out
          have HFR := Lib.hid (fun (W3 : World) (hf : ∀ k, Fr w g v0 k → W3.heap[k]? = w.heap[k]?) => HR2.out.keep fun b hb => (hf b hb).trans ((TkS.fr HST2.out) b hb).symm)
          have HCAT2 : Hid ((T' ++ X) ++ rest.drop m = T ++ p.l) := by
            show _ = _
            rw [List.append_assoc, HX.out, List.take_append_drop]; exact hcat.out
          have hc8 := (TkS.dg T2.out).wait
          by_cases hfull : nx = 64
          · obtain rfl : 64 = nx := hfull.symm
            have hx64 : (wtL T').length + X.length = 64 := by rw [← HW.out, ← List.length_append]; exact HLX.out
            obtain ⟨hst3, hwt3⟩ := stL_full T' X hx64
            rw [← HS.out, ← HW.out] at hst3
            obtain ⟨q, rfl⟩ : ∃ q, Ax = some ⟨q, 0, none⟩ := by
              obtain ⟨q, cap, hv, _⟩ := (TkS.ob T2.out).form (by rw [HLX.out]; decide)
              injection hv with hv
              exact ⟨q, hv⟩
            obtain ⟨_, hrdW, _, _⟩ := (TkS.ob T2.out).rd_
            have e0 := (TkS.dg T2.out).word 0 (by decide)
            have e1 := (TkS.dg T2.out).word 1 (by decide)
            have e2 := (TkS.dg T2.out).word 2 (by decide)
            have e3 := (TkS.dg T2.out).word 3 (by decide)
            have e4 := (TkS.dg T2.out).word 4 (by decide)
            have e5 := (TkS.dg T2.out).word 5 (by decide)
            have e6 := (TkS.dg T2.out).word 6 (by decide)
            have e7 := (TkS.dg T2.out).word 7 (by decide)
            have C := Lib.hid (show Calls Try.prog 36 #[.agg #[.int .u32 ((S.list.getD 0 0).toNat : Int), .int .u32 ((S.list.getD 1 0).toNat : Int), .int .u32 ((S.list.getD 2 0).toNat : Int), .int .u32 ((S.list.getD 3 0).toNat : Int), .int .u32 ((S.list.getD 4 0).toNat : Int), .int .u32 ((S.list.getD 5 0).toNat : Int), .int .u32 ((S.list.getD 6 0).toNat : Int), .int .u32 ((S.list.getD 7 0).toNat : Int)], .slice (some ⟨q, 0, none⟩) 64 cx] wz.drew _ from next_any S _ cx wz.heap.size (W ++ X) wz.drew hrdW.drew (Nat.le_refl _) hxc (by unfold maxLen at hxm; omega))
            obtain ⟨KK, hKK⟩ : ∃ K, K = (wc (nxt S (W ++ X)).list).toArray := ⟨_, rfl⟩
            have c := C.out
            rw [← hKK] at c
            have C := Lib.hid c
            have HKK := Lib.hid hKK
            clear c hKK
            have HW3 := Lib.hid hwt3
            have HS3 := Lib.hid hst3
            clear hx64 hst3 hwt3 hrdW
            generalize S.list.getD 0 0 = s0 at *
            generalize S.list.getD 1 0 = s1 at *
            generalize S.list.getD 2 0 = s2 at *
            generalize S.list.getD 3 0 = s3 at *
            generalize S.list.getD 4 0 = s4 at *
            generalize S.list.getD 5 0 = s5 at *
            generalize S.list.getD 6 0 = s6 at *
            generalize S.list.getD 7 0 = s7 at *
            go_wp2_with fail
            refine wp_region_held_drew (S := fun W => W.cell? ⟨g, 8, none⟩ = some (.slice (some ⟨q, 0, none⟩) 64 cx)) (by kernel_rfl) hc8 (fun hHeld => ?_)
            refine takeWS (i := 0) (v := ?v0) rfl (by kernel_rfl) (by kernel_rfl) (by kernel_rfl) (fun _ _ _ h => h) (by rfl) ?hy0 (by assumption) ?rest0
            case hy0 => (intro w hSw; go_simp; try with_reducible rfl)
            try simp only [Act.put, List.setIfInBounds_toArray, List.set_cons_zero, List.set_cons_succ]
            refine takeWS (i := 1) (v := ?v1) rfl (by kernel_rfl) (by kernel_rfl) (by kernel_rfl) (fun _ _ _ h => h) (by rfl) ?hy1 (by assumption) ?rest1
            case hy1 => (intro w hSw; go_simp; try with_reducible rfl)
            try simp only [Act.put, List.setIfInBounds_toArray, List.set_cons_zero, List.set_cons_succ]
            refine takeWS (i := 2) (v := ?v2) rfl (by kernel_rfl) (by kernel_rfl) (by kernel_rfl) (fun _ _ _ h => h) (by rfl) ?hy2 (by assumption) ?rest2
            case hy2 => (intro w hSw; go_simp; try with_reducible rfl)
            try simp only [Act.put, List.setIfInBounds_toArray, List.set_cons_zero, List.set_cons_succ]
            refine takeWS (i := 3) (v := ?v3) rfl (by kernel_rfl) (by kernel_rfl) (by kernel_rfl) (fun _ _ _ h => h) (by rfl) ?hy3 (by assumption) ?rest3
            case hy3 => (intro w hSw; go_simp; try with_reducible rfl)
            try simp only [Act.put, List.setIfInBounds_toArray, List.set_cons_zero, List.set_cons_succ]
            refine takeWS (i := 5) (v := ?v5) rfl (by kernel_rfl) (by kernel_rfl) (by kernel_rfl) (fun _ _ _ h => h) (by rfl) ?hy5 (by assumption) ?rest5
            case hy5 => (intro w hSw; go_simp; try with_reducible rfl)
            try simp only [Act.put, List.setIfInBounds_toArray, List.set_cons_zero, List.set_cons_succ]
            refine takeWS (i := 6) (v := ?v6) rfl (by kernel_rfl) (by kernel_rfl) (by kernel_rfl) (fun _ _ _ h => h) (by rfl) ?hy6 (by assumption) ?rest6
            case hy6 => (intro w hSw; go_simp; try with_reducible rfl)
            try simp only [Act.put, List.setIfInBounds_toArray, List.set_cons_zero, List.set_cons_succ]
            refine takeWS (i := 7) (v := ?v7) rfl (by kernel_rfl) (by kernel_rfl) (by kernel_rfl) (fun _ _ _ h => h) (by rfl) ?hy7 (by assumption) ?rest7
            case hy7 => (intro w hSw; go_simp; try with_reducible rfl)
            try simp only [Act.put, List.setIfInBounds_toArray, List.set_cons_zero, List.set_cons_succ]
            refine takeWS (i := 8) (v := ?v8) rfl (by kernel_rfl) (by kernel_rfl) (by kernel_rfl) (fun _ _ _ h => h) (by rfl) ?hy8 (by assumption) ?rest8
            case hy8 => (intro w hSw; go_simp; try with_reducible rfl)
            try simp only [Act.put, List.setIfInBounds_toArray, List.set_cons_zero, List.set_cons_succ]
            refine wpAnyH_ready (rs := [4]) (by kernel_rfl) (by simp) ?_
            refine AllReadyH.cons rfl (fun K hK => ?_) AllReadyH.nil
            go_simp
            refine hK.out _ _ hc8 (fun hHeld => ?_)
            try simp only [Act.put, List.setIfInBounds_toArray, List.set_cons_zero, List.set_cons_succ]
            clear hK K
            refine wpAnyH_ready (rs := [9]) (by kernel_rfl) (by simp) ?_
            refine AllReadyH.cons rfl (fun K hK => ?_) AllReadyH.nil
            go_simp
            refine C.out.mono ?_
            rintro e w3 ⟨rfl, hb3⟩
            have B3 := Lib.hid hb3
            have D3 := Lib.hid ((TkS.dg T2.out).of_block (hb3.block g (TkS.dg T2.out).lt))
            clear hb3
            go_simp
            refine hK.out _ _ D3.out.wait (fun hHeld => ?_)
            try simp only [Act.put, List.setIfInBounds_toArray, List.set_cons_zero, List.set_cons_succ]
            clear hK K
            refine takeWS (i := 10) (v := ?v10) rfl (by kernel_rfl) (by kernel_rfl) (by kernel_rfl) (fun _ _ _ h => h) (by rfl) ?hy10 (by assumption) ?rest10
            case hy10 => (intro w hSw; go_simp; try with_reducible rfl)
            try simp only [Act.put, List.setIfInBounds_toArray, List.set_cons_zero, List.set_cons_succ]
            refine takeWS (i := 11) (v := ?v11) rfl (by kernel_rfl) (by kernel_rfl) (by kernel_rfl) (fun _ _ _ h => h) (by rfl) ?hy11 (by assumption) ?rest11
            case hy11 => (intro w hSw; go_simp; try with_reducible rfl)
            try simp only [Act.put, List.setIfInBounds_toArray, List.set_cons_zero, List.set_cons_succ]
            refine wpAnyH_ready (rs := [12]) (by kernel_rfl) (by simp) ?_
            refine AllReadyH.cons rfl (fun K hK => ?_) AllReadyH.nil
            refine step_stHead rfl (.tmp 65) (.tmp 63) rfl g S (nxt S (W ++ X)) _ _ rfl (congrArg Value.agg HKK.out) D3.out ?_
            intro w4 d4 o4 b4 z4
            have T4 := Lib.hid (TkS.head T2.out ⟨B3.out.os, B3.out.tape, B3.out.output, B3.out.size, B3.out.block⟩ d4 o4 b4 z4)
            clear d4 o4 b4 z4
            refine hK.out _ _ T4.out.dg.wait (fun hHeld => ?_)
            try simp only [Act.put]
            clear hK K
            refine wpAnyH_done (by kernel_rfl) ?_ _
            have hfin : TkSt w (w4.setCell ⟨g, 8, none⟩ (.slice (some ⟨q, 0, none⟩) 0 cx)) g v0 (.slice (some ⟨q, 0, none⟩) 0 cx) (T' ++ X) (L0 + p.n) := by
              unfold TkSt
              rw [HS3.out, HW3.out]
              exact TkS.empty T4.out
            have HFIN := Lib.hid hfin
            have hc9 := T4.out.dg.wait
            have hf9 := T4.out.dg.free 8
            clear hfin e0 e1 e2 e3 e4 e5 e6 e7 hc8
            go_wp2_with fail
            go_roundw
            case rel => exact ⟨A2, n' - m, c2, _, T' ++ X, rest.drop m, rfl, hc2, Nat.le_trans hc2' hcm, HFR.out _ (TkS.fr HFIN.out), HCAT2.out, HFIN.out⟩
            case measure => show n' - m < n'; omega
          · have hne : ((nx : Int) == 64) = false := by simp; omega
            have hx64 : (wtL T').length + X.length < 64 := by
              have h := HLX.out
              rw [List.length_append, HW.out] at h
              have := HNX.out
              omega
            obtain ⟨hst3, hwt3⟩ := stL_more T' X hx64
            have hfin : TkSt w wz g v0 (.slice Ax nx cx) (T' ++ X) (L0 + p.n) := by
              unfold TkSt
              rw [hst3, hwt3, ← HS.out, ← HW.out]
              exact T2.out
            have HFIN := Lib.hid hfin
            clear hx64 hst3 hwt3 hfin
            go_wp2_with fail
            go_roundw
            case rel => exact ⟨A2, n' - m, c2, _, T' ++ X, rest.drop m, rfl, hc2, Nat.le_trans hc2' hcm, HFR.out _ (TkS.fr HFIN.out), HCAT2.out, HFIN.out⟩
            case measure => show n' - m < n'; omega
        · obtain rfl : n' = 0 := by omega
          have hr0 : rest = [] := List.eq_nil_of_length_eq_zero hrd.out.1
          have hend := hst.out
          have hcc := hcat.out
          rw [hr0, List.append_nil] at hcc
          rw [hcc, ← HTT.out] at hend
          have hz2 : L0 + p.n = (T0 ++ catP (ps.take (k + 1))).length := by rw [HTT.out, HLT.out, ← HL0.out]
          rw [hz2] at hend
          have HEND := Lib.hid hend
          clear hend hcc hz2 hr0
          go_wp2_with fail
          go_roundw
          case rel => exact ⟨k + 1, v, by omega, by go_num, HEND.out⟩
          case measure => simp [intOf]; omega
    · obtain rfl : k = np := by omega
      have hs := hst.out
      rw [List.take_of_length_le (by rw [HP.out.1]; exact Nat.le_refl _)] at hs
      have HS := Lib.hid hs
      clear hs
      go_wp2_with fail
      go_end0
      exact ⟨rfl, v, HS.out⟩
end Go.Proofs.Ytllodapnbdbpeaa
