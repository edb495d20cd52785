/- The closed facts that IpptPlain's row asks of the program. (Made by cf.py.) -/
import Derived.Test.YtlecbblmaadpiaaGreatDoorJBunFr
import Derived.Test.YtlecbblmaadpiaaGreatDoorJBunVr
import Derived.Test.YtlecbblmaadpiaaGreatDoorJBunW6
import Derived.Test.YtlecbblmaadpiaaGreatDoorJIpC
import Derived.Test.YtlecbblmaadpiaaGreatDoorJIpR
import Derived.Test.YtlecbblmaadpiaaGreatDoorJIpX
import Derived.Test.YtlecbblmaadpiaaGreatDoorJRfC
import Derived.Test.YtlecbblmaadpiaaGreatDoorRows
import Derived.Test.YtlecbblmaadpiaaGreatDoorChecked
import Derived.JoinedCond
import Derived.Deep.DeepHandedRow
import Derived.KernelRfl
import Derived.Lib.SmallJoins
import Derived.ChangeArms
import Derived.WalkKit
import Derived.ProofKit
import Derived.OpenShut
import Derived.ShutString
import Derived.ChangeOld
import Derived.Below
import Derived.SizedLaws
namespace Go.Proofs.YtlecbblmaadpiaaGreatDoor
set_option maxRecDepth 100000 in
set_option maxHeartbeats 8000000 in
theorem ipptPlain_closed : joinedFacts Tryz.pinned.checked.prog 10 Tryz.f10 (OpenSpec.ofChange Rows.ipptPlainSpec).bare Rows.ipptPlainRow = true := by
  unfold joinedFacts
  repeat' (with_reducible refine Bool.and_eq_true_iff.2 ⟨?_, ?_⟩)
  all_goals (as_aux_lemma => kernel_rfl)
end Go.Proofs.YtlecbblmaadpiaaGreatDoor
/- What the heads of layer 9's statements return. (Made by gen/bun.py.) -/
namespace Go.Proofs.YtlecbblmaadpiaaGreatDoor
open Go.RowKit
theorem ip9_1 : iplU (hP9.bun [bP9]) 1 0 11 2 0 = ([0, 65, 5], 0) := by decide +kernel
theorem ip9_2 : (iplU (hP9.bun [bP9]) 0 7 11 2 0).2 = 0 := by decide +kernel
theorem ip9_2a : 5 < (iplU (hP9.bun [bP9]) 0 7 11 2 0).1.length := by decide +kernel
theorem ip9_2b : (iplU (hP9.bun [bP9]) 0 7 11 2 0).1.getD 0 0 = 7 := by decide +kernel
theorem ip9_2c : (iplU (hP9.bun [bP9]) 0 7 11 2 0).1.getD 1 0 = 11 := by decide +kernel
theorem ip9_3 : (iplU (hP9.bun [bP9]) 5 0 11 2 0).2 = 100 := by decide +kernel
theorem ip9_4 : (iplU (BH.zero.bun []) 1 0 11 2 0).2 = 60 := by decide +kernel
theorem bh_zero_bd : BH.zero.Bd := ⟨by decide, by decide, by decide, by decide, by decide, by decide, by decide, by decide, by decide, by decide, by decide, by decide, by decide⟩
set_option maxRecDepth 100000 in
set_option maxHeartbeats 16000000 in
theorem heads09_any (S : Snt) (w : World) (hS : Wd S w) :
    Calls Tryz.prog 59 #[] w fun e w' => e = .returned (.bool true) ∧ Below w.heap.size w w' := by
  have HSW := Lib.hid (fun (W : World) (hb : Below w.heap.size w W) => hS.below hb (Nat.le_refl _))
  have C1 := Lib.hid (fun W => plain09_any W)
  have C2 := Lib.hid (fun (q : Nat) (sc : Int) (W : World) (hb : Below w.heap.size w W) (A : Option Addr) (hr : RdL W W.heap.size A 1 [bP9]) => ipplain_any S hP9 [bP9] A 1 1 W.heap.size q sc 11 2 0 W (HSW.out W hb) hP9_bd hr (Nat.le_refl _) (Nat.le_refl _) ⟨by decide, by decide, by decide⟩ (fun x hx => by have hx2 : x = bP9 := List.mem_singleton.1 hx; rw [hx2]; decide))
  have C3 := Lib.hid (fun (W : World) (hb : Below w.heap.size w W) => ipplain_any S BH.zero [] none 0 0 W.heap.size 1 0 11 2 0 W (HSW.out W hb) bh_zero_bd RdL.nil_ (Nat.le_refl _) (Nat.le_refl _) ⟨by decide, by decide, by decide⟩ (fun x hx => by cases hx))
  clear hS
  go_enter Tryz.func59, Tryz.ntmps59
  go_wp2_with fail
  refine (C1.out _).mono ?_
  rintro e w1 ⟨hb, A1, rfl, hr⟩
  have B1 := Lib.hid hb
  have R1 := Lib.hid hr.unmask_
  clear hb hr
  go_wp2_with fail
  refine (C2.out 1 0 w1 B1.out A1 R1.out).mono ?_
  rintro e w2 ⟨hb, A2, n2, c2, he, hc2, hr2⟩
  rw [ip9_1] at he hr2
  subst he
  have B2 := Lib.hid (B1.out.trans (hb.mono B1.out.size))
  have R2 := Lib.hid hr2
  clear hb hc2 hr2
  go_wp2_with fail
  refine (C1.out _).mono ?_
  rintro e w3 ⟨hb, A3, rfl, hr⟩
  have B3 := Lib.hid (B2.out.trans (hb.mono B2.out.size))
  have R2' := Lib.hid ((R2.out.below hb).more hb.size)
  have R3 := Lib.hid hr.unmask_
  clear hb hr R2 R1
  go_wp2_with fail
  refine (C2.out 0 7 w3 B3.out A3 R3.out).mono ?_
  rintro e w4 ⟨hb, A4, n4, c4, he, hc4, hr4⟩
  rw [ip9_2] at he
  subst he
  have B4 := Lib.hid (B3.out.trans (hb.mono B3.out.size))
  have R2a := Lib.hid ((R2'.out.below hb).more hb.size)
  have R4 := Lib.hid hr4
  clear hb hr4 R2' R3 hc4
  go_wp2_with fail
  refine (C1.out _).mono ?_
  rintro e w5 ⟨hb, A5, rfl, hr⟩
  have B5 := Lib.hid (B4.out.trans (hb.mono B4.out.size))
  have R2b := Lib.hid ((R2a.out.below hb).more hb.size)
  have R4b := Lib.hid ((R4.out.below hb).more hb.size)
  have R5 := Lib.hid hr.unmask_
  clear hb hr R2a R4
  go_wp2_with fail
  refine (C2.out 5 0 w5 B5.out A5 R5.out).mono ?_
  rintro e w6 ⟨hb, A6, n6, c6, he, hc6, hr6⟩
  rw [ip9_3] at he
  subst he
  have B6 := Lib.hid (B5.out.trans (hb.mono B5.out.size))
  have R2c := Lib.hid ((R2b.out.below hb).more hb.size)
  have R4c := Lib.hid ((R4b.out.below hb).more hb.size)
  clear hb hr6 hc6 R2b R4b R5
  unfold bunV BH.zero at *
  go_wp2_with fail
  refine (C3.out w6 B6.out).mono ?_
  rintro e w7 ⟨hb, A7, n7, c7, he, hc7, hr7⟩
  have h4 := ip9_4
  unfold BH.zero at h4
  rw [h4] at he
  subst he
  have B7 := Lib.hid (B6.out.trans (hb.mono B6.out.size))
  have R2d := Lib.hid ((R2c.out.below hb).more hb.size)
  have hR4 := (R4c.out.below hb).more hb.size
  have hl4 : (iplU (hP9.bun [bP9]) 0 7 11 2 0).1.length = n4 := hR4.1
  have hn4 : 5 < n4 := by rw [← hl4]; exact ip9_2a
  have t5 : decide ((5 : Int) < (n4 : Int)) = true := decide_eq_true (by omega)
  obtain ⟨b4, o4, rfl, hb4, hc4⟩ := hR4.2 (by omega)
  have k0 := hc4 0 (by omega)
  have k1 := hc4 1 (by omega)
  rw [ip9_2b, Nat.add_zero] at k0
  rw [ip9_2c] at k1
  have i0 : (0 : Int) < (n4 : Int) := by omega
  have i1 : (1 : Int) < (n4 : Int) := by omega
  have HB4 := Lib.hid hb4
  clear hb hr7 hc7 R2c R4c h4 hR4 hl4 hn4 hb4 hc4
  go_wp2_with fail
  have r8 : Rd (w7.alloc (.cells #[.int .u8 0, .int .u8 65, .int .u8 5] 5)) (w7.heap.size + 1) (some ⟨w7.heap.size, 0, none⟩) 3 [0, 65, 5] := Rd.lit w7 _ rfl [0, 65, 5] 5 #[.int .u8 0, .int .u8 65, .int .u8 5] rfl 3 rfl
  have B8 := Lib.hid (B7.out.alloc B7.out.size (.cells #[.int .u8 0, .int .u8 65, .int .u8 5] 5))
  refine (same_true A2 (some ⟨w7.heap.size, 0, none⟩) n2 c2 3 3 w7.heap.size (w7.heap.size + 1) [0, 65, 5] _ (R2d.out.alloc (Nat.le_refl _) _) r8).mono ?_
  rintro e w8 ⟨rfl, rfl⟩
  have m0 := (World.cell?_alloc_lt w7 (.cells #[.int .u8 0, .int .u8 65, .int .u8 5] 5) ⟨b4, o4, none⟩ HB4.out).trans k0
  have m1 := (World.cell?_alloc_lt w7 (.cells #[.int .u8 0, .int .u8 65, .int .u8 5] 5) ⟨b4, o4 + 1, none⟩ HB4.out).trans k1
  clear k0 k1 r8
  go_wp2_with fail
  go_ret
  exact ⟨rfl, B8.out⟩
end Go.Proofs.YtlecbblmaadpiaaGreatDoor
/- IpptPlain of layer 9's statements, walked. (Made by gen/bun.py.) -/
namespace Go.Proofs.YtlecbblmaadpiaaGreatDoor
open Go.RowKit
theorem nat_u64 {a : Int} (h : (Lit.int .u64 a).wf = true) : ∃ q : Nat, q < 18446744073709551616 ∧ a = (q : Int) := ⟨a.toNat, by have h := wfU h; omega, by have h := wfU h; omega⟩
set_option maxRecDepth 100000 in
set_option maxHeartbeats 16000000 in
theorem ipptPlain_walk (h : BH) (l : List Blk) (A : Option Addr) (n c : Nat) (a1 a2 a3 a4 a5 : Int) (w : World) (S : Snt) (hin : BunIn w h l A n c) (h1 : (Lit.int .u64 a1).wf = true) (_h2 : (Lit.int .i64 a2).wf = true) (h3 : (Lit.int .u64 a3).wf = true) (h4 : (Lit.int .u64 a4).wf = true) (h5 : (Lit.int .u64 a5).wf = true) (hS : Wd S w) :
    Calls Tryz.prog 10 #[bunV h A n c, .int .u64 a1, .int .i64 a2, .int .u64 a3, .int .u64 a4, .int .u64 a5] w fun e w' => e = .returned (.bool true) ∧ Below w.heap.size w w' := by
  obtain ⟨q, -, rfl⟩ := nat_u64 h1
  obtain ⟨kind, hk1, rfl⟩ := nat_u64 h3
  obtain ⟨num, hk2, rfl⟩ := nat_u64 h4
  obtain ⟨flags, hk3, rfl⟩ := nat_u64 h5
  obtain ⟨hBd, hr, hc⟩ := hin
  have HB0 := Lib.hid ((Below.refl w.heap.size w).alloc (Nat.le_refl _) (.cells #[.int .u64 (h.flg : Int), .int .i64 h.crc, .int .i64 h.dsc, .string h.dnm, .int .u64 (h.dn : Int), .int .u64 (h.dv : Int), .int .i64 h.ssc, .string h.snm, .int .u64 (h.sn : Int), .int .u64 (h.sv : Int), .int .i64 h.rsc, .string h.rnm, .int .u64 (h.rn : Int), .int .u64 (h.rv : Int), .int .u64 (h.tim : Int), .int .u64 (h.seq : Int), .int .u64 (h.lif : Int), .slice A n c] 73))
  have HRW := Lib.hid (fun (W : World) (hb : Below (w.heap.size + 1) (w.alloc (.cells #[.int .u64 (h.flg : Int), .int .i64 h.crc, .int .i64 h.dsc, .string h.dnm, .int .u64 (h.dn : Int), .int .u64 (h.dv : Int), .int .i64 h.ssc, .string h.snm, .int .u64 (h.sn : Int), .int .u64 (h.sv : Int), .int .i64 h.rsc, .string h.rnm, .int .u64 (h.rn : Int), .int .u64 (h.rv : Int), .int .u64 (h.tim : Int), .int .u64 (h.seq : Int), .int .u64 (h.lif : Int), .slice A n c] 73)) W) => row_of_box (w := w) rfl hb)
  have HW0 : Hid (Below (w.heap.size + 1) (w.alloc (.cells #[.int .u64 (h.flg : Int), .int .i64 h.crc, .int .i64 h.dsc, .string h.dnm, .int .u64 (h.dn : Int), .int .u64 (h.dv : Int), .int .i64 h.ssc, .string h.snm, .int .u64 (h.sn : Int), .int .u64 (h.sv : Int), .int .i64 h.rsc, .string h.rnm, .int .u64 (h.rn : Int), .int .u64 (h.rv : Int), .int .u64 (h.tim : Int), .int .u64 (h.seq : Int), .int .u64 (h.lif : Int), .slice A n c] 73)) (w.alloc (.cells #[.int .u64 (h.flg : Int), .int .i64 h.crc, .int .i64 h.dsc, .string h.dnm, .int .u64 (h.dn : Int), .int .u64 (h.dv : Int), .int .i64 h.ssc, .string h.snm, .int .u64 (h.sn : Int), .int .u64 (h.sv : Int), .int .i64 h.rsc, .string h.rnm, .int .u64 (h.rn : Int), .int .u64 (h.rv : Int), .int .u64 (h.tim : Int), .int .u64 (h.seq : Int), .int .u64 (h.lif : Int), .slice A n c] 73))) := Below.refl _ _
  have HS0 : Hid ((w.alloc (.cells #[.int .u64 (h.flg : Int), .int .i64 h.crc, .int .i64 h.dsc, .string h.dnm, .int .u64 (h.dn : Int), .int .u64 (h.dv : Int), .int .i64 h.ssc, .string h.snm, .int .u64 (h.sn : Int), .int .u64 (h.sv : Int), .int .i64 h.rsc, .string h.rnm, .int .u64 (h.rn : Int), .int .u64 (h.rv : Int), .int .u64 (h.tim : Int), .int .u64 (h.seq : Int), .int .u64 (h.lif : Int), .slice A n c] 73)).heap.size = w.heap.size + 1) := by show _ = _; simp
  have CH := Lib.hid (fun (W : World) (hb : Below w.heap.size w W) => heads09_any S W (hS.below hb (Nat.le_refl _)))
  have CF := Lib.hid (fun (W : World) (hb : Below w.heap.size w W) => few09_any h l A n c W.heap.size W ((hr.below hb).more hb.size) (Nat.le_refl _))
  have CP := Lib.hid (fun (hdat : ∀ x ∈ l, x.dat.length ≤ 5000) (W : World) (hb : Below w.heap.size w W) => ipplain_any S h l A n c W.heap.size q a2 kind num flags W (hS.below hb (Nat.le_refl _)) hBd ((hr.below hb).more hb.size) (Nat.le_refl _) hc ⟨hk1, hk2, hk3⟩ hdat)
  have CR := Lib.hid (fun (hdat : ∀ x ∈ l, x.dat.length ≤ 5000) (W : World) (hb : Below w.heap.size w W) => rplain9_any h l A n c W.heap.size q a2 kind num flags W hBd ((hr.below hb).more hb.size) (Nat.le_refl _) ⟨hk1, hk2, hk3⟩ hdat)
  clear h1 _h2 h3 h4 h5 hk1 hk2 hk3 hBd hr hc hS
  generalize iplU (h.bun l) q a2 kind num flags = IP at *
  obtain ⟨L, z⟩ := IP
  unfold bunV at *
  go_enter Tryz.func10, Tryz.ntmps10
  go_wp2_with (first
    | (refine wpList_ld18 rfl (.tmp 6) rfl _ rfl _ _ (HRW.out _ HW0.out) rfl ?_)
    | fail)
  refine (CF.out _ HB0.out).mono ?_
  rintro e w1 ⟨R, rfl, hR, hb⟩
  have B1 := Lib.hid (Below.push HW0.out (Nat.le_of_eq HS0.out.symm) hb)
  have T1 := Lib.hid (HB0.out.trans (B1.out.mono (Nat.le_succ _)))
  have ROW1 := Lib.hid (HRW.out _ B1.out)
  have HRR := Lib.hid hR
  clear hb hR
  cases R with
  | false =>
    go_wp2_with fail
    refine (CH.out w1 T1.out).mono ?_
    rintro e w2 ⟨rfl, hb2⟩
    have T2 := Lib.hid (T1.out.trans (hb2.mono T1.out.size))
    clear hb2
    go_wp2_with fail
    go_ret
    exact ⟨rfl, T2.out⟩
  | true =>
    have HDT := Lib.hid (HRR.out rfl).2
    go_wp2_with (first
      | (refine wpList_ld18 rfl (.tmp 6) rfl _ rfl _ _ ROW1.out rfl ?_)
      | fail)
    refine (CP.out HDT.out w1 T1.out).mono ?_
    rintro e w2 ⟨hb, A2, n2, c2, rfl, hc2, hr2⟩
    have B2 := Lib.hid (Below.push B1.out (Nat.le_of_eq HS0.out.symm) hb)
    have T2 := Lib.hid (HB0.out.trans (B2.out.mono (Nat.le_succ _)))
    have ROW2 := Lib.hid (HRW.out _ B2.out)
    have R2 := Lib.hid hr2
    clear hb hr2 hc2 ROW1
    go_wp2_with (first
      | (refine wpList_ld18 rfl (.tmp 6) rfl _ rfl _ _ ROW2.out rfl ?_)
      | fail)
    refine (CR.out HDT.out w2 T2.out).mono ?_
    rintro e w3 ⟨hb, A3, n3, c3, rfl, hc3, hr3⟩
    have T3 := Lib.hid (T2.out.trans (hb.mono T2.out.size))
    have R2b := Lib.hid ((R2.out.below hb).more hb.size)
    have R3 := Lib.hid hr3
    have hzz : (z == z) = true := by simp
    clear hb hr3 hc3 R2 ROW2
    go_wp2_with fail
    refine (same_true A2 A3 n2 c2 n3 c3 _ _ L w3 R2b.out R3.out).mono ?_
    rintro e w4 ⟨rfl, rfl⟩
    go_wp2_with fail
    refine (CH.out w3 T3.out).mono ?_
    rintro e w5 ⟨rfl, hb⟩
    have T5 := Lib.hid (T3.out.trans (hb.mono T3.out.size))
    clear hb
    go_wp2_with fail
    go_ret
    exact ⟨rfl, T5.out⟩
end Go.Proofs.YtlecbblmaadpiaaGreatDoor
/- IpptPlain returns true for every input, and leaves each argument as it was. No condition. -/
namespace Go.Proofs.YtlecbblmaadpiaaGreatDoor.ipptPlain
open Go.ChangeShapes Go.WideShapes Go.ChangeAt Go.RowKit
open Go.ChangeMaps (open_string shut_string)
set_option linter.unusedVariables false
theorem own : ownKnob Tryz.prog.godebug = none := by kernel_rfl
theorem laidOut : laidOutB Tryz.prog = true := by kernel_rfl
set_option maxRecDepth 100000 in
theorem contract (H : Type) (enc : TypeId × Value → H) (W : World) (base : Nat) (args : Array Value) (ds gs : List (DataW H)) (before : List MemPlace)
    (hval0 : ∀ (j : Nat) t v, Tryz.f10.params[j]? = some t → args[j]? = some v → Value.okWide Tryz.prog W .any base t v)
    (hW : DataW.Whole enc Tryz.prog Tryz.f10.params.toList Rows.ipptPlainSpec.vars false W args.toList ds gs before)
    (hsz0 : (DataW.weightsEach Tryz.prog (Tryz.f10.params.toList ++ Rows.ipptPlainSpec.plain.varTypes Tryz.prog) (ds ++ gs)).all (· ≤ reachBytes) = true)
    (hL : laidMetH Tryz.prog laidU W) :
    Calls Tryz.prog 10 args W fun e W' => ∃ v, e = .returned v ∧ Rows.ipptPlainSpec.post enc Tryz.prog Tryz.f10 false true false false W args v W' := by
  have hsz := hsz0
  have hval := hval0
  have hW' := hW
  obtain ⟨p, q, hA0, hV, rfl, hfz, hnd⟩ := hW
  have hA : DataW.TrodAll enc Tryz.prog W 0 (fun _ => true) true Tryz.f10.params.toList args.toList ds p := hA0
  rw [Tryz.params10] at hA hval hsz
  obtain ⟨v0, vs0, d0, ds0, p0, q0, hargs, rfl, rfl, h0, r0⟩ := trodAll_cons hA
  obtain ⟨v1, vs1, d1, ds1, p1, q1, rfl, rfl, rfl, h1, r1⟩ := trodAll_cons r0
  obtain ⟨v2, vs2, d2, ds2, p2, q2, rfl, rfl, rfl, h2, r2⟩ := trodAll_cons r1
  obtain ⟨v3, vs3, d3, ds3, p3, q3, rfl, rfl, rfl, h3, r3⟩ := trodAll_cons r2
  obtain ⟨v4, vs4, d4, ds4, p4, q4, rfl, rfl, rfl, h4, r4⟩ := trodAll_cons r3
  obtain ⟨v5, vs5, d5, ds5, p5, q5, rfl, rfl, rfl, h5, r5⟩ := trodAll_cons r4
  obtain ⟨rfl, rfl, rfl⟩ := trodAll_nil r5
  obtain rfl : args = #[v0, v1, v2, v3, v4, v5] := by cases args; simp_all
  obtain ⟨rfl, rfl⟩ := trodVars_none hV
  obtain ⟨A, hAA⟩ := wd_of hL
  have k0 := h0
  have lt0 : ∀ x ∈ p0, x.block < W.heap.size := by obtain ⟨m, hm⟩ := k0; exact DataW.trod_lt m _ _ _ hm
  have y0 : ∀ x ∈ DataW.weights Tryz.prog 73 d0, x ≤ reachBytes := fun x hx => by have h := List.all_eq_true.1 hsz _ (DataW.weights_mem_each (j := 0) (t := 73) (d := d0) rfl rfl x hx); simpa using h
  obtain ⟨b0, l0, a0, n0, c0, rfl, z0⟩ := open_bun (hval 0 73 v0 rfl rfl) h0 y0
  obtain ⟨a1, rfl, rfl, rfl, w1⟩ := open_int Tryz.underlying23 (hval 1 23 v1 rfl rfl) h1
  obtain ⟨a2, rfl, rfl, rfl, w2⟩ := open_int Tryz.underlying3 (hval 2 3 v2 rfl rfl) h2
  obtain ⟨a3, rfl, rfl, rfl, w3⟩ := open_int Tryz.underlying23 (hval 3 23 v3 rfl rfl) h3
  obtain ⟨a4, rfl, rfl, rfl, w4⟩ := open_int Tryz.underlying23 (hval 4 23 v4 rfl rfl) h4
  obtain ⟨a5, rfl, rfl, rfl, w5⟩ := open_int Tryz.underlying23 (hval 5 23 v5 rfl rfl) h5
  clear hA0 hval0
  refine (ipptPlain_walk b0 l0 a0 n0 c0 a1 a2 a3 a4 a5 W A z0 w1 w2 w3 w4 w5 hAA).mono fun e W' ⟨he, bel⟩ => ?_
  subst he
  exact ⟨_, rfl, _, _, _, [], _, [], hW', trodAll_mk1 (shut_bool Tryz.underlying4 _), (trodAll_cons_mk (Below.trod laidOut (by kernel_rfl) (of_decide_eq_true (by kernel_rfl)) k0 bel lt0) (trodAll_cons_mk (shut_int Tryz.underlying23 w1) (trodAll_cons_mk (shut_int Tryz.underlying3 w2) (trodAll_cons_mk (shut_int Tryz.underlying23 w3) (trodAll_cons_mk (shut_int Tryz.underlying23 w4) (trodAll_cons_mk (shut_int Tryz.underlying23 w5) trodAll_mk0)))))), rfl, bel.frame _, fun h => by cases h⟩
theorem reads (os : Os) {H : Type} (enc : TypeId × Value → H) : ∃ places, DataW.whole enc Tryz.prog ((laidW os).forCall (fun _ _ => 0) ⟨#[], #[.agg #[.int .u64 0, .int .i64 0, .int .i64 0, .string ByteArray.empty, .int .u64 0, .int .u64 0, .int .i64 0, .string ByteArray.empty, .int .u64 0, .int .u64 0, .int .i64 0, .string ByteArray.empty, .int .u64 0, .int .u64 0, .int .u64 0, .int .u64 0, .int .u64 0, .slice none 0 0], .int .u64 0, .int .i64 0, .int .u64 0, .int .u64 0, .int .u64 0], []⟩).memory Tryz.f10.params.toList Rows.ipptPlainSpec.vars false (#[.agg #[.int .u64 0, .int .i64 0, .int .i64 0, .string ByteArray.empty, .int .u64 0, .int .u64 0, .int .i64 0, .string ByteArray.empty, .int .u64 0, .int .u64 0, .int .i64 0, .string ByteArray.empty, .int .u64 0, .int .u64 0, .int .u64 0, .int .u64 0, .int .u64 0, .slice none 0 0], .int .u64 0, .int .i64 0, .int .u64 0, .int .u64 0, .int .u64 0] : Array Value).toList 8 = some ([.agg [.lit (.int .u64 0), .lit (.int .i64 0), .agg [.lit (.int .i64 0), .lit (.string []), .lit (.int .u64 0), .lit (.int .u64 0)], .agg [.lit (.int .i64 0), .lit (.string []), .lit (.int .u64 0), .lit (.int .u64 0)], .agg [.lit (.int .i64 0), .lit (.string []), .lit (.int .u64 0), .lit (.int .u64 0)], .lit (.int .u64 0), .lit (.int .u64 0), .lit (.int .u64 0), .nil], .lit (.int .u64 0), .lit (.int .i64 0), .lit (.int .u64 0), .lit (.int .u64 0), .lit (.int .u64 0)], [], places) :=
  ⟨[], by kernel_rfl⟩
set_option maxRecDepth 100000 in
theorem lifted (os : Os) (started : os.Started) (H : Type) (enc : TypeId × Value → H) (F : Stop.Interp) :
    ReturnsInHanded {} Tryz.checked os 10 .any ((OpenSpec.ofChange Rows.ipptPlainSpec).preRow enc Tryz.prog Tryz.f10 Rows.ipptPlainRow.domain false Rows.ipptPlainRow.laid) (((OpenSpec.ofChange Rows.ipptPlainSpec).at F).post enc Tryz.prog Tryz.f10 false true false false) := by
  obtain ⟨places, hx⟩ := reads os enc
  refine returnsInHanded_of_row (C := Tryz.checked) (s := OpenSpec.ofChange Rows.ipptPlainSpec) own started (by kernel_rfl) Tryz.func10
    (witness_row_at (enc := enc) (C := Tryz.checked) false (laidW os) #[.agg #[.int .u64 0, .int .i64 0, .int .i64 0, .string ByteArray.empty, .int .u64 0, .int .u64 0, .int .i64 0, .string ByteArray.empty, .int .u64 0, .int .u64 0, .int .i64 0, .string ByteArray.empty, .int .u64 0, .int .u64 0, .int .u64 0, .int .u64 0, .int .u64 0, .slice none 0 0], .int .u64 0, .int .i64 0, .int .u64 0, .int .u64 0, .int .u64 0] rfl (by kernel_rfl) (by kernel_rfl) (by kernel_rfl)
      (OpenSpec.preRow_of_cond 8 hx (by kernel_rfl) (fun k hk => by cases hk) (by kernel_rfl) (laidW_metH os _))) ?_
  intro W base args ds gs before hval hW _ _ hsz hL _ _
  exact contract H enc W base args ds gs before hval hW hsz hL
theorem said : Rows.IpptPlainSaid :=
  OpenClaim.holds_of_cond 10 Tryz.f10 rfl rfl rfl rfl rfl rfl rfl ⟨rfl, rfl, rfl, rfl, rfl⟩ rfl rfl rfl rfl rfl (by kernel_rfl) Tryz.func10 ipptPlain_closed
    (of_decide_eq_true (by kernel_rfl)) (by unfold Func.isWrapper; first | (rw [if_pos (by decide +kernel)]; kernel_rfl) | (rw [if_neg (by decide +kernel)]; exact ⟨rfl, rfl⟩))
    (fun os started H enc _ F => by rw [OpenClaim.pre_eq_preRow]; exact lifted os started H enc F)
theorem plainParams (f : FuncId) (fn : Func) (hf : Tryz.pinned.checked.prog.funcNamed "fairlead/fairleadlaw09.IpptPlain" = some f) (hfn : Tryz.pinned.checked.prog.funcs[f]? = some fn) :
    true = Tryz.pinned.checked.prog.looks [] ∧ ∀ (j : Nat) t, fn.params[j]? = some t → Tryz.pinned.checked.prog.wantsStandIn t = false := by
  obtain rfl : f = 10 := Option.some.inj ((show Tryz.prog.funcNamed "fairlead/fairleadlaw09.IpptPlain" = some 10 by kernel_rfl).symm.trans hf) |>.symm
  obtain rfl : fn = Tryz.f10 := (Option.some.inj (Tryz.func10.symm.trans hfn)).symm
  refine ⟨by kernel_rfl, fun j t ht => ?_⟩
  rw [Tryz.params10] at ht
  have hm := Array.mem_of_getElem? ht
  have hor : t = 73 ∨ t = 23 ∨ t = 3 ∨ t = 23 ∨ t = 23 ∨ t = 23 := by simpa using hm
  rcases hor with rfl | rfl | rfl | rfl | rfl | rfl
  · exact (show Tryz.prog.wantsStandIn 73 = false by kernel_rfl)
  · exact (show Tryz.prog.wantsStandIn 23 = false by kernel_rfl)
  · exact (show Tryz.prog.wantsStandIn 3 = false by kernel_rfl)
  · exact (show Tryz.prog.wantsStandIn 23 = false by kernel_rfl)
  · exact (show Tryz.prog.wantsStandIn 23 = false by kernel_rfl)
  · exact (show Tryz.prog.wantsStandIn 23 = false by kernel_rfl)
theorem proved : Rows.IpptPlainCardSaid :=
  Claim7.holds_tied_plain_at .later [] _ _ _ _ said (fun _ h => by cases h) (by kernel_rfl) (fun _ h => by cases h) ipptPlain_row_tie rfl ⟨rfl, rfl⟩ (by kernel_rfl) rfl plainParams (by kernel_rfl)
#print axioms proved
end Go.Proofs.YtlecbblmaadpiaaGreatDoor.ipptPlain
