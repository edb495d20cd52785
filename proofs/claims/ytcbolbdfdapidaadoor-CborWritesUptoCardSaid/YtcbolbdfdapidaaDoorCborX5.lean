/- The walk of the statement CborWrites. -/
import Derived.Test.YtcbolbdfdapidaaDoorCborX2
import Derived.Test.YtcbolbdfdapidaaDoorKArrH
import Derived.Test.YtcbolbdfdapidaaDoorCborD2
namespace Go.Proofs.YtcbolbdfdapidaaDoor
open Go.RowKit

set_option maxRecDepth 100000 in
set_option maxHeartbeats 4000000 in
theorem cborWrites_small (v : Value) (x : Itm) (mj y : Int) (s : ByteArray) (w : World) (hx : RdI w w.heap.size v x) (hm : mass x ≤ 1048576) (hmj : (Lit.int .i64 mj).wf = true) (hy0 : 0 ≤ y) (hy1 : y < 18446744073709551616) (hs : s.size ≤ 1048576) (hL : LaidE w) (hsm : Small x) :
    Calls Tryd.prog 3 #[v, .int .i64 mj, .int .u64 y, .string s] w fun e w' => e = .returned (.bool true) ∧ Below w.heap.size w w' := by
  have HI := ItemIn.mk_ hx hm hL
  have HPX : Hid (pars [x, .mk 0 y.toNat [] []] ≤ 1000000) := by
    show _ ≤ _
    have h1 := hsm.2
    rw [pars, pars, pars, par, pars]
    omega
  have HXR := Lib.hid hx
  obtain ⟨k, n, A, nd, cd, AL, N, cl, rfl⟩ := hx.form
  have B0 := Lib.hid ((Below.refl w.heap.size w).alloc (Nat.le_refl _) (.cells #[.int .i64 k, .int .u64 (n : Int), .slice A nd cd, .slice AL N cl] 27))
  have D1 := Lib.hid (fun W hb => HI.small W hb true ⟨fun _ => hsm, fun _ => rfl⟩)
  have D2 := Lib.hid (fun W hb => HI.enc W hb hsm)
  have hwl := HI.len
  have hg := hgt_small hsm
  have D3 := Lib.hid (fun W (hb : Below w.heap.size w W) => rencode_any x _ W w.heap.size hg.2 hg.1 (fun _ => by omega) hb.size (hx.below hb))
  have CH := Lib.hid (fun W (hb : Below w.heap.size w W) => heads03_any W (hL.below hb hL.lt))
  have DU := Lib.hid (fun W => ruint_any y W hy0 hy1)
  have cu := fun W => cuint_any y.toNat W (by omega)
  rw [show ((y.toNat : Nat) : Int) = y by omega] at cu
  have CU := Lib.hid cu
  have ch := fun W => chead_any mj y.toNat W hmj (by omega)
  have rh := fun W => rhead_any mj y.toNat W hmj (by omega)
  rw [show ((y.toNat : Nat) : Int) = y by omega] at ch rh
  have CHD := Lib.hid ch
  have RHD := Lib.hid rh
  have CT := Lib.hid (fun W => ctext_any s W (by omega))
  have RT := Lib.hid (fun W => rtext_any s W (by omega))
  have HSZ := Lib.hid hs
  clear HI hg hwl hL hm hsm cu ch rh hmj hx hs
  go_enter Tryd.func3, Tryd.ntmps3
  go_wp2_with fail
  refine (D1.out _ B0.out).mono ?_
  rintro e w1 ⟨rfl, hb1⟩
  have B1 := Lib.hid (B0.out.trans (hb1.mono B0.out.size))
  have X1 := Lib.hid (to_box hb1)
  obtain ⟨q0, q1, q2, q3⟩ := box_cells X1.out
  clear hb1
  go_wp2_with fail
  refine (D2.out _ B1.out).mono ?_
  rintro e w2 ⟨A2, n2, p2, rfl, hr2, hc2, hb2⟩
  have Z1 : Hid (w.heap.size + 1 ≤ w1.heap.size) := by show _ ≤ _; have := X1.out.size; simpa using this
  have B2 := Lib.hid (B1.out.trans (hb2.mono B1.out.size))
  have X2 := Lib.hid (X1.out.trans (hb2.mono Z1.out))
  have R2 := Lib.hid hr2
  clear hb2 hr2 q0 q1 q2 q3
  obtain ⟨q0, q1, q2, q3⟩ := box_cells X2.out
  go_wp2_with fail
  refine (D3.out _ B2.out).mono ?_
  rintro e w3 ⟨v3, rfl, ho3, hb3⟩
  obtain ⟨A3, p3, rfl, hc3, _, hr3⟩ := ho3.rd
  have Z2 : Hid (w.heap.size + 1 ≤ w2.heap.size) := by show _ ≤ _; have := X2.out.size; simpa using this
  have B3 := Lib.hid (B2.out.trans (hb3.mono B2.out.size))
  have X3 := Lib.hid (X2.out.trans (hb3.mono Z2.out))
  have S3 := Lib.hid (fun W (hb : Below w3.heap.size w3 W) => same_true A2 A3 n2 p2 _ p3 w2.heap.size w3.heap.size _ W ((R2.out.below hb3).below (hb.mono hb3.size)) (hr3.below hb))
  have Z3 : Hid (w.heap.size + 1 ≤ w3.heap.size) := by show _ ≤ _; have := X3.out.size; simpa using this
  clear ho3 hr3 hc3 hb3 q0 q1 q2 q3
  obtain ⟨q0, q1, q2, q3⟩ := box_cells X3.out
  have hh3 : w.heap.size < w3.heap.size := Z3.out
  go_wp2_with fail
  go_region_held3 (fun W => W.cell? ⟨w.heap.size, 0, none⟩ = some (.int .i64 k) ∧ W.cell? ⟨w.heap.size, 1, none⟩ = some (.int .u64 (n : Int)) ∧ W.cell? ⟨w.heap.size, 2, none⟩ = some (.slice A nd cd) ∧ W.cell? ⟨w.heap.size, 3, none⟩ = some (.slice AL N cl))
    (first | (exact ⟨q0, q1, q2, q3⟩) | (exact ⟨t0, t1, t2, t3⟩) | (exact ⟨(World.cell?_alloc_lt w4 _ ⟨w.heap.size, 0, none⟩ H4.out).trans t0, (World.cell?_alloc_lt w4 _ ⟨w.heap.size, 1, none⟩ H4.out).trans t1, (World.cell?_alloc_lt w4 _ ⟨w.heap.size, 2, none⟩ H4.out).trans t2, (World.cell?_alloc_lt w4 _ ⟨w.heap.size, 3, none⟩ H4.out).trans t3⟩) | go_keep | fail)
    (first
      | (go_at_call 12; refine (DU.out _).mono ?_; rintro e w4 ⟨v4, rfl, hv4, hb4⟩; have hb4' : Below w3.heap.size w3 w4 := ((Below.refl w3.heap.size w3).drew).trans hb4; have t0 := (hb4'.cell (p := ⟨w.heap.size, 0, none⟩) hh3).trans q0; have t1 := (hb4'.cell (p := ⟨w.heap.size, 1, none⟩) hh3).trans q1; have t2 := (hb4'.cell (p := ⟨w.heap.size, 2, none⟩) hh3).trans q2; have t3 := (hb4'.cell (p := ⟨w.heap.size, 3, none⟩) hh3).trans q3; have H4 : Hid (w.heap.size < w4.heap.size) := Nat.lt_of_lt_of_le hh3 hb4'.size; obtain ⟨k4, n4, A4, nd4, cd4, AL4, nl4, cl4, rfl⟩ := hv4.form; have V4 := Lib.hid hv4; have BB4 := Lib.hid hb4'; clear hv4 hb4 hb4')
      | fail)
  have hb34 := BB4.out.trans ((Below.refl w3.heap.size w4).alloc BB4.out.size (.cells #[.int .i64 k, .int .u64 (n : Int), .slice A nd cd, .slice AL N cl, .int .i64 k4, .int .u64 (n4 : Int), .slice A4 nd4 cd4, .slice AL4 nl4 cl4] 27))
  have B5 := Lib.hid (B3.out.trans (hb34.mono B3.out.size))
  have S5 := Lib.hid (S3.out _ hb34)
  have V5 := Lib.hid (RdIs.two (t := 27) ((HXR.out.below (B3.out.trans (BB4.out.mono B3.out.size))).more (Nat.le_trans B3.out.size BB4.out.size)) V4.out)
  have G5 : Hid (w4.heap.size < (w4.alloc (.cells #[.int .i64 k, .int .u64 (n : Int), .slice A nd cd, .slice AL N cl, .int .i64 k4, .int .u64 (n4 : Int), .slice A4 nd4 cd4, .slice AL4 nl4 cl4] 27)).heap.size) := by show _ < _; simp
  have G5' : Hid (w4.heap.size + 1 ≤ (w4.alloc (.cells #[.int .i64 k, .int .u64 (n : Int), .slice A nd cd, .slice AL N cl, .int .i64 k4, .int .u64 (n4 : Int), .slice A4 nd4 cd4, .slice AL4 nl4 cl4] 27)).heap.size) := by show _ ≤ _; simp
  generalize (w4.alloc (.cells #[.int .i64 k, .int .u64 (n : Int), .slice A nd cd, .slice AL N cl, .int .i64 k4, .int .u64 (n4 : Int), .slice A4 nd4 cd4, .slice AL4 nl4 cl4] 27)) = W5 at *
  generalize (enc x).1 = E1 at *
  generalize (enc x).2 = E2 at *
  clear hb34 BB4 V4 H4 t0 t1 t2 t3 hh3 Z3 S3 X3 q0 q1 q2 q3 B3 Z2 B2 X2 Z1 B1 X1 R2 hc2 B0 D1 D2 D3 DU
  have RU := Lib.hid (fun W => ruint_any y W hy0 hy1)
  go_wp2_with fail
  refine S5.out.mono ?_
  rintro e w6 ⟨rfl, rfl⟩
  go_wp2_with fail
  refine (CHD.out _).mono ?_
  rintro e w6 ⟨A6, n6, p6, rfl, hr6, hc6, hb6⟩
  have R6 := Lib.hid hr6
  have Y6 := Lib.hid hb6
  clear hr6 hb6
  go_wp2_with fail
  refine (RHD.out _).mono ?_
  rintro e w7 ⟨v7, rfl, ho7, hb7⟩
  obtain ⟨A7, p7, rfl, hc7, _, hr7⟩ := ho7.rd
  have Y7 := Lib.hid (Y6.out.trans (hb7.mono Y6.out.size))
  have S7 := Lib.hid (same_true A6 A7 n6 p6 _ p7 w6.heap.size w7.heap.size _ w7 (R6.out.below hb7) hr7)
  clear ho7 hc7 hr7 hb7 R6 Y6
  go_wp2_with fail
  refine S7.out.mono ?_
  rintro e w8 ⟨rfl, rfl⟩
  go_wp2_with fail
  refine (CU.out _).mono ?_
  rintro e w8 ⟨v8, rfl, hv8, hb8⟩
  have V8 := Lib.hid hv8
  have Y8 := Lib.hid (Y7.out.trans (hb8.mono Y7.out.size))
  clear hv8 hb8 Y7
  go_wp2_with fail
  refine (RU.out _).mono ?_
  rintro e w9 ⟨v9, rfl, hv9, hb9⟩
  have Y9 := Lib.hid (Y8.out.trans (hb9.mono Y8.out.size))
  have S9 := Lib.hid (rsame_n _ _ v8 v9 w9 w9.heap.size (Nat.lt_succ_self _) (Nat.le_refl _) ((V8.out.below hb9).more hb9.size) hv9)
  clear hv9 hb9 Y8 V8
  go_wp2_with fail
  refine S9.out.mono ?_
  rintro e w10 ⟨rfl, hb10⟩
  have Y10 := Lib.hid (Y9.out.trans (hb10.mono Y9.out.size))
  clear hb10 Y9
  go_wp2_with fail
  refine (CT.out _).mono ?_
  rintro e w11 ⟨v11, rfl, hv11, hb11⟩
  have V11 := Lib.hid hv11
  have Y11 := Lib.hid (Y10.out.trans (hb11.mono Y10.out.size))
  clear hv11 hb11 Y10
  go_wp2_with fail
  refine (RT.out _).mono ?_
  rintro e w12 ⟨v12, rfl, hv12, hb12⟩
  have Y12 := Lib.hid (Y11.out.trans (hb12.mono Y11.out.size))
  have S12 := Lib.hid (rsame_n _ _ v11 v12 w12 w12.heap.size (Nat.lt_succ_self _) (Nat.le_refl _) ((V11.out.below hb12).more hb12.size) hv12)
  clear hv12 hb12 Y11 V11
  go_wp2_with fail
  refine S12.out.mono ?_
  rintro e w13 ⟨rfl, hb13⟩
  have Y13 := Lib.hid (Y12.out.trans (hb13.mono Y12.out.size))
  obtain ⟨c14, w14, run14, hr14, hc14, hb14, hz14⟩ := conv_bytes w13 s
  have Y14 := Lib.hid (Y13.out.trans (hb14.mono Y13.out.size))
  have C14 := Lib.hid (cbytes_any _ s.size c14 (w13.heap.size + 1) _ w14 (Nat.le_of_eq hz14.symm) hr14 (by have := HSZ.out; omega) hc14)
  clear hb13 Y12 hr14 hc14 hb14 hz14
  go_wp2_with fail
  refine C14.out.mono ?_
  rintro e w15 ⟨v15, rfl, hv15, hb15⟩
  have V15 := Lib.hid hv15
  have Y15 := Lib.hid (Y14.out.trans (hb15.mono Y14.out.size))
  clear run14 hv15 hb15 Y13 Y14
  obtain ⟨c16, w16, run16, hr16, hc16, hb16, hz16⟩ := conv_bytes w15 s
  have Y16 := Lib.hid (Y15.out.trans (hb16.mono Y15.out.size))
  have V16 := Lib.hid ((V15.out.below hb16).more hb16.size)
  have C16 := Lib.hid (rbytes_any _ s.size c16 (w15.heap.size + 1) _ w16 (Nat.le_of_eq hz16.symm) hr16 (by have := HSZ.out; omega))
  clear hr16 hc16 hb16 hz16 V15 Y15
  go_wp2_with fail
  refine C16.out.mono ?_
  rintro e w17 ⟨v17, rfl, hv17, hb17⟩
  have Y17 := Lib.hid (Y16.out.trans (hb17.mono Y16.out.size))
  have S17 := Lib.hid (rsame_n _ _ v15 v17 w17 w17.heap.size (Nat.lt_succ_self _) (Nat.le_refl _) ((V16.out.below hb17).more hb17.size) hv17)
  clear run16 hv17 hb17 Y16 V16
  go_wp2_with fail
  refine S17.out.mono ?_
  rintro e w18 ⟨rfl, hb18⟩
  have Y18 := Lib.hid (Y17.out.trans (hb18.mono Y17.out.size))
  have C18 := Lib.hid (carray_any w4.heap.size 0 2 2 W5.heap.size _ w18 Y18.out.size G5.out ((V5.out.more G5'.out).below G5.out Y18.out) rfl (by decide) HPX.out (Nat.le_refl _))
  clear hb18 Y17
  go_wp2_with fail
  refine C18.out.mono ?_
  rintro e w19 ⟨v19, rfl, hv19, hb19⟩
  have V19 := Lib.hid hv19
  have Y19 := Lib.hid (Y18.out.trans (hb19.mono Y18.out.size))
  have C19 := Lib.hid (rarray_any w4.heap.size 0 2 2 W5.heap.size _ w19 Y19.out.size G5.out ((V5.out.more G5'.out).below G5.out Y19.out) rfl (by decide) (by decide) (Nat.le_refl _))
  clear hv19 hb19 Y18
  go_wp2_with fail
  refine C19.out.mono ?_
  rintro e w20 ⟨v20, rfl, hv20, hb20⟩
  have Y20 := Lib.hid (Y19.out.trans (hb20.mono Y19.out.size))
  have S20 := Lib.hid (rsame_n _ _ v19 v20 w20 w20.heap.size (Nat.lt_succ_self _) (Nat.le_refl _) ((V19.out.below hb20).more hb20.size) hv20)
  clear hv20 hb20 Y19 V19
  go_wp2_with fail
  refine S20.out.mono ?_
  rintro e w21 ⟨rfl, hb21⟩
  have B21 := Lib.hid (B5.out.trans ((Y20.out.trans (hb21.mono Y20.out.size)).mono B5.out.size))
  clear hb21 Y20
  go_wp2_with fail
  refine (CH.out _ B21.out).mono ?_
  rintro e w22 ⟨rfl, hb22⟩
  have B22 := Lib.hid (B21.out.trans (hb22.mono B21.out.size))
  clear hb22
  go_wp2_with fail
  go_ret
  exact ⟨rfl, B22.out⟩

set_option maxRecDepth 100000 in
set_option maxHeartbeats 2000000 in
theorem cborWrites_walk (v : Value) (x : Itm) (mj y : Int) (s : ByteArray) (w : World) (hx : RdI w w.heap.size v x ∧ mass x ≤ 1048576) (hmj : (Lit.int .i64 mj).wf = true) (hy : (Lit.int .u64 y).wf = true) (hs : s.size ≤ 1048576) (hL : LaidE w) :
    Calls Tryd.prog 3 #[v, .int .i64 mj, .int .u64 y, .string s] w fun e w' => e = .returned (.bool true) ∧ Below w.heap.size w w' := by
  by_cases hsm : Small x
  · exact cborWrites_small v x mj y s w hx.1 hx.2 hmj (wf_u64_ hy).1 (wf_u64_ hy).2 hs hL hsm
  have HI := ItemIn.mk_ hx.1 hx.2 hL
  obtain ⟨k, n, A, nd, cd, AL, N, cl, rfl⟩ := hx.1.form
  have B0 := Lib.hid ((Below.refl w.heap.size w).alloc (Nat.le_refl _) (.cells #[.int .i64 k, .int .u64 (n : Int), .slice A nd cd, .slice AL N cl] 27))
  have D1 := Lib.hid (fun W hb => HI.small W hb false ⟨fun h => (by cases h), fun h => absurd h hsm⟩)
  have CH := Lib.hid (fun W (hb : Below w.heap.size w W) => heads03_any W (hL.below hb hL.lt))
  clear HI hx hmj hy hs hL hsm
  go_enter Tryd.func3, Tryd.ntmps3
  go_wp2_with fail
  refine (D1.out _ B0.out).mono ?_
  rintro e w1 ⟨rfl, hb1⟩
  have B1 := Lib.hid (B0.out.trans (hb1.mono B0.out.size))
  clear hb1
  go_wp2_with fail
  refine (CH.out _ B1.out).mono ?_
  rintro e w3 ⟨rfl, hb3⟩
  have B3 := Lib.hid (B1.out.trans (hb3.mono B1.out.size))
  clear hb3
  go_wp2_with fail
  go_ret
  exact ⟨rfl, B3.out⟩
end Go.Proofs.YtcbolbdfdapidaaDoor
