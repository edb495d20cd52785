/- BlockMakes of layer 5's statements, walked. -/
import Derived.Test.YtanbjifdcplmnaaGreatDoorTBunS
import Derived.Test.YtanbjifdcplmnaaGreatDoorTBunT
import Derived.Test.YtanbjifdcplmnaaGreatDoorTBunVr
import Derived.Test.YtanbjifdcplmnaaGreatDoorTCfBlockTells
import Derived.Test.YtanbjifdcplmnaaGreatDoorTRfN
namespace Go.Proofs.YtanbjifdcplmnaaGreatDoor
open Go.RowKit

theorem ruintN (l : Nat) (w : World) (h : l < 18446744073709551616) : Calls Tryz.prog 21 #[.int .u64 (l : Int)] w (GivesI (.mk 0 l [] []) w) := by
  have := ruint_any (l : Int) w (by omega) (by omega)
  rwa [Int.toNat_natCast] at this

theorem ep_injM {sc sc' : Int} {s s' : ByteArray} {n n' v v' : Nat} (h : ep sc s n v = ep sc' s' n' v') : sc = sc' ∧ s = s' ∧ n = n' ∧ v = v' := by
  unfold ep at h
  injection h with h1 h2 h3 h4
  refine ⟨h1, ?_, h3, h4⟩
  rw [← strL_data s, h2, strL_data]
theorem row4_box {W : World} {g : Nat} {t : TypeId} {c0 c1 c2 c3 : Value} (h : W.heap[g]? = some (.cells #[c0, c1, c2, c3] t (0, 0))) : W.cell? ⟨g, 0, none⟩ = some c0 ∧ W.cell? ⟨g, 1, none⟩ = some c1 ∧ W.cell? ⟨g, 2, none⟩ = some c2 ∧ W.cell? ⟨g, 3, none⟩ = some c3 := ⟨cell_row h 0 rfl, cell_row h 1 rfl, cell_row h 2 rfl, cell_row h 3 rfl⟩

set_option maxRecDepth 100000 in
set_option maxHeartbeats 32000000 in
theorem blockMakes_walk (a0 a1 : Int) (sc : Int) (s : ByteArray) (n v : Nat) (w : World) (S : Snt) (w0 : (Lit.int .u64 a0).wf = true) (w1 : (Lit.int .u64 a1).wf = true) (hs : s.size ≤ 140737488355328) (hn : n < 18446744073709551616) (hv : v < 18446744073709551616) (hA : Wd S w) :
    Calls Tryz.prog 5 #[.int .u64 a0, .int .u64 a1, epdV sc s n v] w fun e w' => e = .returned (.bool true) ∧ Below w.heap.size w w' := by
  obtain ⟨hS, hL⟩ := hA
  obtain ⟨l0, l1⟩ := wfU w0
  obtain ⟨q0, q1⟩ := wfU w1
  obtain ⟨l, rfl⟩ : ∃ l : Nat, a0 = (l : Int) := ⟨a0.toNat, by omega⟩
  obtain ⟨q, rfl⟩ : ∃ q : Nat, a1 = (q : Int) := ⟨a1.toNat, by omega⟩
  have hl : l < 18446744073709551616 := by omega
  have hq : q < 18446744073709551616 := by omega
  have HL := Lib.hid (fun W (hb : Below w.heap.size w W) => hL.below hb hL.lt)
  have HS := Lib.hid (fun W (hb : Below w.heap.size w W) => hS.below hb (Nat.le_refl _))
  have HH := Lib.hid (fun W (hb : Below w.heap.size w W) => heads05_any W (hL.below hb hL.lt))
  have CL := Lib.hid (fun W => ruintN l W hl)
  have CQ := Lib.hid (fun W => ruintN q W hq)
  have M1 := Lib.hid (makeB_of 10 3 (fitsH l q) (by decide) (by decide) (Nat.le_trans (lenH l q) (by decide)))
  have M2 := Lib.hid (makeB_of 7 3 (fitsU q) (by decide) (by decide) (Nat.le_trans (lenU q) (by decide)))
  have P1 : Hid (par (hopI l q) ≤ 1000000) := by show _ ≤ _; simp [hopI, par, pars]
  have P2 : Hid (par (.mk 0 q [] []) ≤ 1000000) := by show _ ≤ _; simp [par, pars]
  have L1 := Lib.hid (Nat.le_trans (lenH l q) (by decide : 19 ≤ 140737488355328))
  have L2 := Lib.hid (Nat.le_trans (lenU q) (by decide : 9 ≤ 140737488355328))
  have A1 : Hid (ageI (contB 7 7 (wri (.mk 0 q [] []))) = (q, true)) := by show _ = _; rw [contB_of 7 (fitsU q) (sizU hq)]; rfl
  have HC := Lib.hid (contB_of 10 (fitsH l q) (sizH hl hq))
  have HE := Lib.hid (And.intro hs (And.intro hn hv))
  obtain ⟨x1, x2, R, HX, h3⟩ : ∃ (x1 x2 : Nat) (R : Bool), Hid (hopsI (contB 10 10 (wri (hopI l q))) = (x1, x2, R)) ∧ ((R = true ∧ l = x1 ∧ q = x2 ∧ 1 ≤ (l : Int) ∧ (l : Int) ≤ 255) ∨ (R = false ∧ (l : Int) < 1) ∨ (R = false ∧ 1 ≤ (l : Int) ∧ 255 < (l : Int))) := by
    by_cases h : 1 ≤ l ∧ l ≤ 255
    · exact ⟨l, q, true, by show _ = _; rw [HC.out, hopsI_hop, if_pos h], .inl ⟨rfl, rfl, rfl, by omega, by omega⟩⟩
    · refine ⟨0, 0, false, by show _ = _; rw [HC.out, hopsI_hop, if_neg h], .inr ?_⟩
      by_cases h1 : (l : Int) < 1
      · exact .inl ⟨rfl, h1⟩
      · exact .inr ⟨rfl, by omega, by omega⟩
  have B0 := Lib.hid ((Below.refl w.heap.size w).alloc (Nat.le_refl _) (.cells #[.int .i64 sc, .string s, .int .u64 (n : Int), .int .u64 (v : Int)] 46))
  have R0 := Lib.hid (heap_alloc_new w (.cells #[.int .i64 sc, .string s, .int .u64 (n : Int), .int .u64 (v : Int)] 46))
  have e2 : ((q : Int) != (q : Int)) = false := by simp
  have H3 := Lib.hid h3
  clear h3 hS hL l0 l1 q0 q1 w0 w1 hl hq hs hn hv HC
  unfold epdV at *
  go_enter Tryz.func5, Tryz.ntmps5
  go_wp2_with fail
  refine (CL.out _).mono ?_
  rintro e u1 ⟨v1, rfl, hv1, hb1⟩
  obtain ⟨k1, n1, D1, nd1, cd1, AL1, nl1, cl1, rfl⟩ := hv1.form
  have V1 := Lib.hid hv1
  have B1 := Lib.hid (B0.out.trans (hb1.mono B0.out.size))
  have R1 := Lib.hid (rowBelow R0.out hb1 (row_lt R0.out))
  clear hv1 hb1
  go_wp2_with fail
  refine (CQ.out _).mono ?_
  rintro e u2 ⟨v2, rfl, hv2, hb2⟩
  obtain ⟨k2, n2, D2, nd2, cd2, AL2, nl2, cl2, rfl⟩ := hv2.form
  have V2 := Lib.hid (RdIs.twoB (t := 37) ((V1.out.below hb2).more hb2.size) hv2)
  have B2 := Lib.hid (B1.out.trans (hb2.mono B1.out.size))
  have R2 := Lib.hid (rowBelow R1.out hb2 (row_lt R1.out))
  clear hv2 hb2
  go_wp2_with fail
  refine (rarray_any u2.heap.size 0 2 2 (u2.heap.size + 1) _ _ (Nat.le_of_eq (by simp)) (Nat.lt_succ_self _) V2.out rfl (by decide) (by decide) (Nat.le_refl _)).mono ?_
  rintro e u3 ⟨v3, rfl, hv3, hb3⟩
  have hv3' : RdI u3 u3.heap.size v3 (hopI l q) := hv3
  obtain ⟨k3, n3, D3, nd3, cd3, AL3, nl3, cl3, rfl⟩ := hv3'.form
  have hb3' := ((Below.refl u2.heap.size u2).alloc (Nat.le_refl _) _).trans (hb3.mono (le_alloc _ _))
  have V3 := Lib.hid hv3'
  have B3 := Lib.hid (B2.out.trans (hb3'.mono B2.out.size))
  have R3 := Lib.hid (rowBelow R2.out hb3' (row_lt R2.out))
  clear hv3 hv3' hb3 hb3'
  go_wp2_with fail
  refine (bmake_any 10 3 (hopI l q) _ u3 u3.heap.size P1.out (fun _ => L1.out) (Nat.le_refl _) V3.out (HL.out _ B3.out)).mono ?_
  rintro e u4 ⟨hb4, b4, D4, nd4, cd4, z4, rfl, hm4, hnd4, hr4⟩
  rw [M1.out] at hm4
  injection hm4 with h41 h42
  subst h41 h42
  have B4 := Lib.hid (B3.out.trans (hb4.mono B3.out.size))
  have R4 := Lib.hid (rowBelow R3.out hb4 (row_lt R3.out))
  have CH : Hid (Calls Tryz.prog 12 #[.agg #[.int .u64 10, .int .u64 3, .int .u64 0, .int .i64 2, .slice D4 nd4 cd4]] (u4.alloc (.cells #[.int .u64 10, .int .u64 3, .int .u64 0, .int .i64 2, .slice D4 nd4 cd4] 25)) fun e w' => e = .returned (.tuple #[.int .u64 (x1 : Int), .int .u64 (x2 : Int), .bool R]) ∧ Below (u4.alloc (.cells #[.int .u64 10, .int .u64 3, .int .u64 0, .int .i64 2, .slice D4 nd4 cd4] 25)).heap.size (u4.alloc (.cells #[.int .u64 10, .int .u64 3, .int .u64 0, .int .i64 2, .slice D4 nd4 cd4] 25)) w') := by
    have h := hops_any 10 3 0 2 D4 nd4 cd4 u4.heap.size (wri (hopI l q)) (u4.alloc (.cells #[.int .u64 10, .int .u64 3, .int .u64 0, .int .i64 2, .slice D4 nd4 cd4] 25)) (by simp) (hr4.alloc (Nat.le_refl _) _) hnd4.2 hnd4.1 (HL.out _ (B4.out.alloc B4.out.size _))
    rw [HX.out] at h
    exact h
  have B5 := Lib.hid (B4.out.alloc B4.out.size (.cells #[.int .u64 10, .int .u64 3, .int .u64 0, .int .i64 2, .slice D4 nd4 cd4] 25))
  have R5 := Lib.hid (rowBelow R4.out ((Below.refl u4.heap.size u4).alloc (Nat.le_refl _) (.cells #[.int .u64 10, .int .u64 3, .int .u64 0, .int .i64 2, .slice D4 nd4 cd4] 25)) (row_lt R4.out))
  clear hb4 hr4 hnd4
  unfold blkV at *
  go_wp2_with fail
  refine CH.out.mono ?_
  rintro e u5 ⟨rfl, hb5⟩
  have B6 := Lib.hid (B5.out.trans (hb5.mono B5.out.size))
  have R6 := Lib.hid (rowBelow R5.out hb5 (row_lt R5.out))
  clear hb5 CH
  rcases H3.out with ⟨hr, hx1, hx2, g1, g2⟩ | ⟨hr, g1⟩ | ⟨hr, g1, g2⟩
  case' inl => (have t1 : ((x1 : Int) != (l : Int)) = false := by simp [hx1]); (have t2 : ((x2 : Int) != (q : Int)) = false := by simp [hx2]); clear hx1 hx2
  all_goals
    subst hr
    clear H3 HX
    go_wp2_with fail
    refine (CQ.out _).mono ?_
    rintro e u6 ⟨v6, rfl, hv6, hb6⟩
    obtain ⟨k6, n6, D6, nd6, cd6, AL6, nl6, cl6, rfl⟩ := hv6.form
    have V6 := Lib.hid hv6
    have B7 := Lib.hid (B6.out.trans (hb6.mono B6.out.size))
    have R7 := Lib.hid (rowBelow R6.out hb6 (row_lt R6.out))
    clear hv6 hb6
    go_wp2_with fail
    refine (bmake_any 7 3 (.mk 0 q [] []) _ u6 u6.heap.size P2.out (fun _ => L2.out) (Nat.le_refl _) V6.out (HL.out _ B7.out)).mono ?_
    rintro e u7 ⟨hb7, b7, D7, nd7, cd7, z7, rfl, hm7, hnd7, hr7⟩
    rw [M2.out] at hm7
    injection hm7 with h71 h72
    subst h71 h72
    have B8 := Lib.hid (B7.out.trans (hb7.mono B7.out.size))
    have R8 := Lib.hid (rowBelow R7.out hb7 (row_lt R7.out))
    have CH : Hid (Calls Tryz.prog 14 #[.agg #[.int .u64 7, .int .u64 3, .int .u64 0, .int .i64 2, .slice D7 nd7 cd7]] (u7.alloc (.cells #[.int .u64 7, .int .u64 3, .int .u64 0, .int .i64 2, .slice D7 nd7 cd7] 25)) fun e w' => e = .returned (.tuple #[.int .u64 (q : Int), .bool true]) ∧ Below (u7.alloc (.cells #[.int .u64 7, .int .u64 3, .int .u64 0, .int .i64 2, .slice D7 nd7 cd7] 25)).heap.size (u7.alloc (.cells #[.int .u64 7, .int .u64 3, .int .u64 0, .int .i64 2, .slice D7 nd7 cd7] 25)) w') := by
      have h := age_any 7 3 0 2 D7 nd7 cd7 u7.heap.size (wri (.mk 0 q [] [])) (u7.alloc (.cells #[.int .u64 7, .int .u64 3, .int .u64 0, .int .i64 2, .slice D7 nd7 cd7] 25)) (by simp) (hr7.alloc (Nat.le_refl _) _) hnd7.2 hnd7.1 (HL.out _ (B8.out.alloc B8.out.size _))
      rw [A1.out] at h
      exact h
    have B9 := Lib.hid (B8.out.alloc B8.out.size (.cells #[.int .u64 7, .int .u64 3, .int .u64 0, .int .i64 2, .slice D7 nd7 cd7] 25))
    have R9 := Lib.hid (rowBelow R8.out ((Below.refl u7.heap.size u7).alloc (Nat.le_refl _) (.cells #[.int .u64 7, .int .u64 3, .int .u64 0, .int .i64 2, .slice D7 nd7 cd7] 25)) (row_lt R8.out))
    clear hb7 hr7 hnd7
    unfold blkV at *
    go_wp2_with fail
    refine CH.out.mono ?_
    rintro e u8 ⟨rfl, hb8⟩
    have BA := Lib.hid (B9.out.trans (hb8.mono B9.out.size))
    have hRA := rowBelow R9.out hb8 (row_lt R9.out)
    obtain ⟨y0, y1, y2, y3⟩ := row4_box hRA
    have RA := Lib.hid hRA
    clear hb8 CH hRA
    go_wp2_with fail
    clear y0 y1 y2 y3
    cases hc : checkB (ep sc s n v) with
    | false =>
      refine (ritem_no sc s n v u8 HE.out.1 hc).mono ?_
      rintro e u9 ⟨rfl, hb9⟩
      have BB := Lib.hid ((BA.out.trans (hb9.mono BA.out.size)).alloc (BA.out.trans (hb9.mono BA.out.size)).size (.cells #[.int .i64 0, .int .u64 0, .slice none 0 0, .slice none 0 0] 37))
      clear hb9 hc
      unfold zeroItem at *
      go_wp2_with fail
      refine (HH.out _ BB.out).mono ?_
      rintro e u10 ⟨rfl, hb10⟩
      have BC := Lib.hid (BB.out.trans (hb10.mono BB.out.size))
      clear hb10
      go_wp2_with fail
      go_ret
      exact ⟨rfl, BC.out⟩
    | true =>
      have HCK := Lib.hid hc
      refine (ritem_any u8.heap.size sc s n v u8 (Nat.le_refl _) HE.out.1 HE.out.2.1 HE.out.2.2 hc).mono ?_
      rintro e u9 ⟨v9, rfl, hv9, hb9⟩
      have hv9' := hv9.unmask
      obtain ⟨k9, n9, D9, nd9, cd9, AL9, nl9, cl9, rfl⟩ := hv9'.form
      have V9 := Lib.hid (hv9'.alloc (Nat.le_refl _) (.cells #[.int .i64 k9, .int .u64 (n9 : Int), .slice D9 nd9 cd9, .slice AL9 nl9 cl9] 37))
      have BB := Lib.hid ((BA.out.trans (hb9.mono BA.out.size)).alloc (BA.out.trans (hb9.mono BA.out.size)).size (.cells #[.int .i64 k9, .int .u64 (n9 : Int), .slice D9 nd9 cd9, .slice AL9 nl9 cl9] 37))
      have RB := Lib.hid (rowBelow (rowBelow RA.out hb9 (row_lt RA.out)) ((Below.refl u9.heap.size u9).alloc (Nat.le_refl _) (.cells #[.int .i64 k9, .int .u64 (n9 : Int), .slice D9 nd9 cd9, .slice AL9 nl9 cl9] 37)) (row_lt (rowBelow RA.out hb9 (row_lt RA.out))))
      have HF := Lib.hid (And.intro (itemE_f hc) (And.intro (itemE_siz hc) (wri_itemE_len hc)))
      clear hv9 hv9' hb9 hc
      go_wp2_with fail
      refine (bmake_any 6 3 (itemE (ep sc s n v)) _ _ u9.heap.size (by have := HF.out.1.2.2; omega) (fun _ => Nat.le_trans HF.out.2.2 (by decide)) (le_alloc _ _) V9.out (HL.out _ BB.out)).mono ?_
      rintro e u10 ⟨hb10, b10, D10, nd10, cd10, z10, rfl, hm10, hnd10, hr10⟩
      rw [makeB_of 6 3 HF.out.1 (by decide) (by decide) (Nat.le_trans HF.out.2.2 (by decide))] at hm10
      injection hm10 with h101 h102
      subst h101 h102
      have BC := Lib.hid (BB.out.trans (hb10.mono BB.out.size))
      have RC := Lib.hid (rowBelow RB.out hb10 (row_lt RB.out))
      have CH : Hid (Calls Tryz.prog 16 #[.agg #[.int .u64 6, .int .u64 3, .int .u64 0, .int .i64 2, .slice D10 nd10 cd10]] (u10.alloc (.cells #[.int .u64 6, .int .u64 3, .int .u64 0, .int .i64 2, .slice D10 nd10 cd10] 25)) fun e w' => e = .returned (.tuple #[epdV sc s n v, .bool true]) ∧ Below (u10.alloc (.cells #[.int .u64 6, .int .u64 3, .int .u64 0, .int .i64 2, .slice D10 nd10 cd10] 25)).heap.size (u10.alloc (.cells #[.int .u64 6, .int .u64 3, .int .u64 0, .int .i64 2, .slice D10 nd10 cd10] 25)) w') := by
        refine (prev_any S 6 3 0 2 D10 nd10 cd10 u10.heap.size (wri (itemE (ep sc s n v))) (u10.alloc (.cells #[.int .u64 6, .int .u64 3, .int .u64 0, .int .i64 2, .slice D10 nd10 cd10] 25)) (by simp) (hr10.alloc (Nat.le_refl _) _) hnd10.2 hnd10.1 (HL.out _ (BC.out.alloc BC.out.size _)) (HS.out _ (BC.out.alloc BC.out.size _))).mono ?_
        rintro e u11 ⟨hb11, ⟨x', sc', s', n', v', hx, rfl, hck, hit⟩ | ⟨hno, -⟩⟩
        · rw [contB_of 6 HF.out.1 HF.out.2.1] at hx
          injection hx with hx
          subst hx
          obtain ⟨e1, e2, e3, e4⟩ := ep_injM (item_inj hck HCK.out hit)
          subst e1 e2 e3 e4
          exact ⟨rfl, hb11⟩
        · exact absurd rfl (hno _ (contB_of 6 HF.out.1 HF.out.2.1) _ HCK.out)
      have BD := Lib.hid (BC.out.alloc BC.out.size (.cells #[.int .u64 6, .int .u64 3, .int .u64 0, .int .i64 2, .slice D10 nd10 cd10] 25))
      have RD := Lib.hid (rowBelow RC.out ((Below.refl u10.heap.size u10).alloc (Nat.le_refl _) (.cells #[.int .u64 6, .int .u64 3, .int .u64 0, .int .i64 2, .slice D10 nd10 cd10] 25)) (row_lt RC.out))
      clear hb10 hr10 hnd10
      unfold blkV at *
      go_wp2_with fail
      unfold epdV at CH
      refine CH.out.mono ?_
      rintro e u11 ⟨rfl, hb11⟩
      have BE := Lib.hid ((BD.out.trans (hb11.mono BD.out.size)).alloc (BD.out.trans (hb11.mono BD.out.size)).size (.cells #[.int .i64 sc, .string s, .int .u64 (n : Int), .int .u64 (v : Int)] 46))
      have hRE := rowBelow (rowBelow RD.out hb11 (row_lt RD.out)) ((Below.refl u11.heap.size u11).alloc (Nat.le_refl _) (.cells #[.int .i64 sc, .string s, .int .u64 (n : Int), .int .u64 (v : Int)] 46)) (row_lt (rowBelow RD.out hb11 (row_lt RD.out)))
      obtain ⟨y0, y1, y2, y3⟩ := row4_box hRE
      obtain ⟨p0, p1, p2, p3⟩ := box_cells4 (Below.refl _ (u11.alloc (.cells #[.int .i64 sc, .string s, .int .u64 (n : Int), .int .u64 (v : Int)] 46)))
      have t1 := fun W => eql_eid sc sc s s (n : Int) (n : Int) (v : Int) (v : Int) true (by simp) W
      clear hb11 CH hRE
      go_wp2_with fail
      refine (HH.out _ BE.out).mono ?_
      rintro e u12 ⟨rfl, hb12⟩
      have BF := Lib.hid (BE.out.trans (hb12.mono BE.out.size))
      clear hb12
      go_wp2_with fail
      go_ret
      exact ⟨rfl, BF.out⟩
end Go.Proofs.YtanbjifdcplmnaaGreatDoor
