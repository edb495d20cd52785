/- Layer 15's law: do, whole; WalKeeps. -/
import Derived.Test.YtahgaogmcffglaaDoorJWlG
import Derived.Test.YtahgaogmcffglaaDoorJWnK
import Derived.Test.YtahgaogmcffglaaDoorJWnM
import Derived.Test.YtahgaogmcffglaaDoorJWnO
import Derived.Test.YtahgaogmcffglaaDoorJWnP
import Derived.Lib.SmallJoins
import Derived.ChangeArms
import Derived.WalkKit
import Derived.ProofKit
import Derived.OpenShut
import Derived.ShutString
import Derived.ChangeOld
import Derived.Below
import Derived.SizedLaws
import Derived.Deep.DeepHandedRow
namespace Go.Proofs.YtahgaogmcffglaaDoor
open Go.RowKit

theorem RwA.below14 {w w' : World} {A : Option Addr} {n : Nat} {l : List Rcd} (h : RwA w A n l) (hb : Below w.heap.size w w') : RwA w' A n l := ⟨h.1, fun h0 => by
  obtain ⟨b, o, hA, hbb, hx⟩ := h.2 h0
  refine ⟨b, o, hA, Nat.lt_of_lt_of_le hbb hb.size, fun i r hi => ?_⟩
  obtain ⟨Ad, nd, cd, h1, h2, h3, h4⟩ := hx i r hi
  exact ⟨Ad, nd, cd, (hb.cell (p := ⟨b, o + i * 2, none⟩) hbb).trans h1, (hb.cell (p := ⟨b, o + i * 2 + 1, none⟩) hbb).trans h2, h3, (h4.below hb).more hb.size⟩⟩
theorem OpW.ok.below15 {w w' : World} {x : OpW} (h : x.ok w) (hb : Below w.heap.size w w') : x.ok w' :=
  ⟨h.1, ⟨h.2.1.1, (h.2.1.2.below hb).more hb.size⟩, ⟨h.2.2.1.1, h.2.2.1.2.below14 hb⟩, h.2.2.2.1, h.2.2.2.2.below hb⟩
theorem RdO15.below15 {w w' : World} {A : Option Addr} {n : Nat} {l : List OpW} (h : RdO15 w A n l) (hb : Below w.heap.size w w') : RdO15 w' A n l :=
  ⟨h.1, fun x hx => (h.2.1 x hx).below15 hb, fun h0 => by
    obtain ⟨b, o, hA, hbb, hx⟩ := h.2.2 h0
    exact ⟨b, o, hA, Nat.lt_of_lt_of_le hbb hb.size, fun i x hi j v hv => (hb.cell (p := ⟨b, o + i * 6 + j, none⟩) hbb).trans (hx i x hi j v hv)⟩⟩
theorem do_any (X : Snt14) {w0 w : World} {gp a n : Nat} {Z : List (List UInt8)} {lf : Int} {t len : Nat} {K : List Rcd} {N : Nat → Prop} (x : OpW) (hA : ∀ W, Below w0.heap.size w0 W → Lds14 X W) (hP : Ply w0 w gp a n Z lf t len K N) (hx : x.ok w0) (hs : SmO x) :
    Calls Tryd.prog 10 #[.pointer (some ⟨gp, 0, none⟩), opV x] w (DoR w0 w gp a n Z N) := by
  by_cases h0 : x.kind = 0
  · have hdl : x.r.dat.length = x.rn := hx.2.1.2.1
    cases hrk : rokR x.r with
    | false => exact do_app_rec x X hA hP hx h0 hs.1 hrk
    | true =>
      by_cases hf : ((hlf n * 64 : Nat) : Int) - (len : Int) < (x.rn : Int) + 7
      · exact do_app_full x X hA hP hx h0 hs.1 hrk hf
      · exact do_app_yes x X hA hP hx h0 hs.1 hrk hf
  by_cases h1 : x.kind = 1
  · have hsm : x.l.length ≤ 20 ∧ ∀ r ∈ x.l, r.dat.length ≤ 500 := ⟨hs.2.1, hs.2.2.2⟩
    by_cases hrk : ∀ r ∈ x.l, rokR r = true
    · by_cases hf : sumL x.l ≤ hlf n * 64
      · exact do_res_yes x X hA hP hx h1 hsm hrk hf
      · exact do_res_full x X hA hP hx h1 hsm hrk (by omega)
    · have hr : szL x.l = -1 := by
        unfold szL
        rw [if_neg]
        intro h
        exact hrk (List.all_eq_true.1 h)
      exact do_res_rec x X hA hP hx h1 hsm hr
  by_cases h2 : x.kind = 2
  · exact do_crash x X hA hP hx h2
  by_cases h3 : x.kind = 3
  · exact do_arm x X hA hP hx h3
  · exact do_other x X hA hP hx h0 h1 h2 h3
set_option maxRecDepth 100000 in
set_option maxHeartbeats 16000000 in
theorem walKeeps_walk (a0 n0 : Int) (A : Option Addr) (m c : Nat) (l : List OpW) (w : World) (X : Snt14) (wa : (Lit.int .i64 a0).wf = true) (wn : (Lit.int .i64 n0).wf = true) (hl : m ≤ c ∧ c ≤ maxLen ∧ RdO15 w A m l) (hA : Lds14 X w) :
    Calls Tryd.prog 3 #[.int .i64 a0, .int .i64 n0, .slice A m c] w fun e w' => e = .returned (.bool true) ∧ Below w.heap.size w w' := by
  have LA : Hid (∀ W, Below w.heap.size w W → Lds14 X W) := fun W hW => hA.below hW (Nat.le_refl _)
  have HH := Lib.hid (fun W (hW : Below w.heap.size w W) => heads15_any X W (fun W' hW' => LA.out W' (hW.trans (hW'.mono hW.size))))
  have HL := Lib.hid hl.2.2
  have CS := Lib.hid (small15_any A m c l w hl.2.2 (Nat.le_trans hl.1 (Nat.le_trans hl.2.1 (by decide))))
  unfold SmR at CS
  clear hl hA
  by_cases h1 : a0 < 0
  · clear wa wn
    go_enter Tryd.func3, Tryd.ntmps3
    go_wp2_with (first
      | (go_at_call 8; refine (HH.out w (Below.refl _ _)).mono ?_; rintro e w9 ⟨rfl, hb9⟩; have B9 := Lib.hid hb9; clear hb9)
      | fail)
    go_ret
    exact ⟨rfl, B9.out⟩
  by_cases h2 : 20 < a0
  · clear wa wn
    go_enter Tryd.func3, Tryd.ntmps3
    go_wp2_with (first
      | (go_at_call 8; refine (HH.out w (Below.refl _ _)).mono ?_; rintro e w9 ⟨rfl, hb9⟩; have B9 := Lib.hid hb9; clear hb9)
      | fail)
    go_ret
    exact ⟨rfl, B9.out⟩
  by_cases h3 : n0 < 4
  · clear wa wn
    go_enter Tryd.func3, Tryd.ntmps3
    go_wp2_with (first
      | (go_at_call 8; refine (HH.out w (Below.refl _ _)).mono ?_; rintro e w9 ⟨rfl, hb9⟩; have B9 := Lib.hid hb9; clear hb9)
      | fail)
    go_ret
    exact ⟨rfl, B9.out⟩
  by_cases h4 : 60 < n0
  · clear wa wn
    go_enter Tryd.func3, Tryd.ntmps3
    go_wp2_with (first
      | (go_at_call 8; refine (HH.out w (Below.refl _ _)).mono ?_; rintro e w9 ⟨rfl, hb9⟩; have B9 := Lib.hid hb9; clear hb9)
      | fail)
    go_ret
    exact ⟨rfl, B9.out⟩
  obtain ⟨a, rfl⟩ : ∃ a : Nat, a0 = (a : Int) := ⟨a0.toNat, by omega⟩
  obtain ⟨n, rfl⟩ : ∃ n : Nat, n0 = (n : Int) := ⟨n0.toNat, by omega⟩
  have hn4 : 4 ≤ n := by omega
  have hn60 : n ≤ 60 := by omega
  have ha20 : a ≤ 20 := by omega
  have CB := Lib.hid (fun W (hW : Below w.heap.size w W) => begin_any X a n W (fun W' hW' => LA.out W' (hW.trans (hW'.mono hW.size))) ha20 hn4 hn60)
  clear wa wn hn4 hn60 ha20
  go_enter Tryd.func3, Tryd.ntmps3
  go_wp2_with fail
  refine CS.out.mono ?_
  rintro e w1 ⟨⟨sm, rfl, hsm⟩, hb1⟩
  have B1 := Lib.hid hb1
  cases sm with
  | false =>
    clear hsm hb1
    go_wp2_with (first
      | (go_at_call 8; refine (HH.out w1 B1.out).mono ?_; rintro e w9 ⟨rfl, hb9⟩; have B9 := Lib.hid (B1.out.trans (hb9.mono B1.out.size)); clear hb9)
      | fail)
    go_ret
    exact ⟨rfl, B9.out⟩
  | true =>
    have HSM := Lib.hid (hsm rfl)
    have HL1 : Hid (RdO15 w1 A m l) := HL.out.below15 hb1
    have LA1 : Hid (∀ W, Below w1.heap.size w1 W → Lds14 X W) := fun W hW => LA.out W (B1.out.trans (hW.mono B1.out.size))
    clear hsm hb1
    go_wp2_with fail
    refine (CB.out _ B1.out).mono ?_
    rintro e w2 ⟨gp, N2, rfl, hp⟩
    have HP := Lib.hid hp
    clear hp
    go_upto_region 7 with fail
    go_loopw [8] (fun v8 wr => ∃ i : Nat, i ≤ m ∧ v8 = .int .i64 (i : Int) ∧ Hid (∃ Z lf t len K N, Ply w1 wr gp a n Z lf t len K N)) (fun v8 _ => m - (intOf v8).toNat)
    case atStart => exact ⟨0, Nat.zero_le _, rfl, _, _, _, _, _, _, HP.out⟩
    case round =>
      obtain ⟨i, hi, rfl, HZ⟩ := hrel
      obtain ⟨Z, lf, t, len, K, N, hPl⟩ := HZ.out
      have HPL := Lib.hid hPl
      obtain ⟨gd, gw, Fd, Fw, vk, hb, -, -, -, hrow, -⟩ := hPl
      have HBR := Lib.hid hb
      have HRW : Hid (wr.heap[gp]? = some (.cells (plyC gd gw a n vk true) 31 (0, 0))) := hrow
      obtain ⟨⟨p0, p1, p2, p3, p4, p5⟩, -⟩ := play_at HRW.out
      clear hb hrow
      by_cases hlt : i < m
      · have HI : (i : Int) < (m : Int) := by omega
        obtain ⟨b, o, rfl, hbb, hcell⟩ := HL1.out.2.2 (by omega)
        have hil : i < l.length := by rw [← HL1.out.1]; exact hlt
        obtain ⟨x, hxe⟩ : ∃ x, x = l[i] := ⟨_, rfl⟩
        have hxi : l[i]? = some x := by rw [hxe]; exact List.getElem?_eq_getElem hil
        have hxo : x.ok w1 := HL1.out.2.1 x (List.mem_of_getElem? hxi)
        have kx := hcell i x hxi
        have hkk : ∀ j v, x.cs[j]? = some v → wr.cell? ⟨b, o + i * 6 + j, none⟩ = some v := fun j v hv => (HBR.out.cell (p := ⟨b, o + i * 6 + j, none⟩) hbb).trans (kx j v hv)
        have k0 : wr.cell? ⟨b, o + i * 6, none⟩ = some (.int .i64 x.kind) := hkk 0 _ rfl
        have k1 : wr.cell? ⟨b, o + i * 6 + 1, none⟩ = some (.int .i64 x.r.typ) := hkk 1 _ rfl
        have k2 : wr.cell? ⟨b, o + i * 6 + 2, none⟩ = some (.slice x.ra x.rn x.rc) := hkk 2 _ rfl
        have k3 : wr.cell? ⟨b, o + i * 6 + 3, none⟩ = some (.slice x.la x.ln x.lc) := hkk 3 _ rfl
        have k4 : wr.cell? ⟨b, o + i * 6 + 4, none⟩ = some (.int .i64 x.at_) := hkk 4 _ rfl
        have k5 : wr.cell? ⟨b, o + i * 6 + 5, none⟩ = some (.slice x.ka x.kn x.kc) := hkk 5 _ rfl
        have CD := Lib.hid (do_any X x LA1.out HPL.out hxo (HSM.out.2 x (List.mem_of_getElem? hxi)))
        unfold opV DoR at CD
        have w9 : IntKind.i64.wrap ((i : Int) + 1) = (i : Int) + 1 := by rw [IntKind.wrap_i64]; have := HSM.out.1; omega
        clear hcell hxe hxi hil kx hkk hxo
        go_wp2_with (first
          | (go_at_call 10; refine CD.out.mono ?_; rintro e w3 ⟨rfl, Z3, lf3, t3, len3, K3, N3, hP3, hO3, hF3, hG3⟩; have HP3 := Lib.hid hP3; clear hP3 hO3 hF3 hG3)
          | fail)
        go_roundw
        case rel => exact ⟨i + 1, by omega, by simp, _, _, _, _, _, _, HP3.out⟩
        case measure => simp [intOf]; omega
      · have hin : ¬ (i : Int) < (m : Int) := by omega
        obtain ⟨gd', gw', Fd', Fw', vk', q1, q2, q3, q4, q5, q6, q7, q8, q9, q10, q11, q12, q13, q14⟩ := HPL.out
        have hvk : vk' = vk := by
          have h5 := HRW.out
          rw [q5] at h5
          have h6 := congrArg (fun o => match o with | some (Obj.cells cs _ _) => cs[4]? | _ => none) h5
          simpa [plyC] using h6
        rw [hvk] at q5 q9
        have hT0 : tornW Z [] [] = Z := by unfold tornW; rfl
        have CG := again_any X w1 wr (gp := gp) (gd := gd') (gw := gw') (a := a) (n := n) (A := none) (m := 0) (c := 0) (ks := []) (N := N) (D := ⟨Z, [], true, lf⟩) (vk := vk) (vo := vk) (K := K) (Ko := K) (t0 := t) (len0 := len) (t1 := t) (len1 := len) LA1.out q1 q2 (Nat.zero_le _) q5 q7 (fun k h => q13 k (h.elim .inl fun h => .inr (.inr h))) q14 q9 q9 rfl (fun h => absurd h (Nat.lt_irrefl 0)) (.inl (by show InZ a n (tornW Z [] []) t len K; rw [hT0]; exact q10)) q11 q12
        have CG := Lib.hid CG
        unfold AgnR at CG
        clear q1 q2 q3 q4 q5 q6 q7 q8 q9 q10 q11 q12 q13 q14 hvk hT0
        go_upto_region 12 with (first
          | (go_at_call 11; refine CG.out.mono ?_; rintro e w3 ⟨rfl, t3, len3, K3, N3, hP3, hF3, hG3⟩; obtain ⟨gd3, gw3, Fd3, Fw3, vk3, hb3, -, -, -, hrow3, -⟩ := hP3; have B3 := Lib.hid hb3; have R3 := Lib.hid (play_at hrow3).1; clear hb3 hrow3 hF3 hG3)
          | fail)
        obtain ⟨-, -, -, -, -, z5⟩ := R3.out
        have BW3 : Hid (Below w.heap.size w w3) := B1.out.trans (B3.out.mono B1.out.size)
        clear p0 p1 p2 p3 p4 p5
        go_wp2_with (first
          | (go_at_call 8; refine (HH.out w3 BW3.out).mono ?_; rintro e w9 ⟨rfl, hb9⟩; have B9 := Lib.hid (BW3.out.trans (hb9.mono BW3.out.size)); clear hb9)
          | fail)
        go_ret
        exact ⟨rfl, B9.out⟩
end Go.Proofs.YtahgaogmcffglaaDoor
/- WalKeeps returns true for every input, and leaves each argument as it was. No condition. -/
namespace Go.Proofs.YtahgaogmcffglaaDoor.walKeeps
open Go.ChangeShapes Go.WideShapes Go.ChangeAt Go.RowKit
open Go.ChangeMaps (open_string shut_string)
set_option linter.unusedVariables false

theorem own : ownKnob Tryd.prog.godebug = none := by kernel_rfl
theorem laidOut : laidOutB Tryd.prog = true := by kernel_rfl

set_option maxRecDepth 100000 in
theorem contract (H : Type) (enc : TypeId × Value → H) (W : World) (base : Nat) (args : Array Value) (ds gs : List (DataW H)) (before : List MemPlace)
    (hval0 : ∀ (j : Nat) t v, Tryd.f3.params[j]? = some t → args[j]? = some v → Value.okWide Tryd.prog W .any base t v)
    (hW : DataW.Whole enc Tryd.prog Tryd.f3.params.toList Rows.walKeepsSpec.vars false W args.toList ds gs before)
    (hsz0 : (DataW.weightsEach Tryd.prog (Tryd.f3.params.toList ++ Rows.walKeepsSpec.plain.varTypes Tryd.prog) (ds ++ gs)).all (· ≤ reachBytes) = true)
    (hL : laidMet Tryd.prog laidL W) :
    Calls Tryd.prog 3 args W fun e W' => ∃ v, e = .returned v ∧ Rows.walKeepsSpec.post enc Tryd.prog Tryd.f3 false true false false W args v W' := by
  have hsz := hsz0
  have hval := hval0
  have hW' := hW
  obtain ⟨p, q, hA0, hV, rfl, hfz, hnd⟩ := hW
  have hA : DataW.TrodAll enc Tryd.prog W 0 (fun _ => true) true Tryd.f3.params.toList args.toList ds p := hA0
  rw [Tryd.params3] at hA hval hsz
  obtain ⟨v0, vs0, d0, ds0, p0, q0, hargs, rfl, rfl, h0, r0⟩ := trodAll_cons hA
  obtain ⟨v1, vs1, d1, ds1, p1, q1, rfl, rfl, rfl, h1, r1⟩ := trodAll_cons r0
  obtain ⟨v2, vs2, d2, ds2, p2, q2, rfl, rfl, rfl, h2, r2⟩ := trodAll_cons r1
  obtain ⟨rfl, rfl, rfl⟩ := trodAll_nil r2
  obtain rfl : args = #[v0, v1, v2] := by cases args; simp_all
  obtain ⟨rfl, rfl⟩ := trodVars_none hV
  obtain ⟨A, hAA⟩ := lds14_of hL
  obtain ⟨a0, rfl, rfl, rfl, w0⟩ := open_int Tryd.underlying3 (hval 0 3 v0 rfl rfl) h0
  obtain ⟨a1, rfl, rfl, rfl, w1⟩ := open_int Tryd.underlying3 (hval 1 3 v1 rfl rfl) h1
  obtain ⟨a2, len2, cap2, rfl⟩ := okWide_slice Tryd.underlying22 (hval 2 22 v2 rfl rfl)
  have k2 := h2
  have lt2 : ∀ x ∈ p2, x.block < W.heap.size := by obtain ⟨m, hm⟩ := k2; exact DataW.trod_lt m _ _ _ hm
  obtain ⟨l2, z2⟩ : ∃ l, len2 ≤ cap2 ∧ cap2 ≤ maxLen ∧ RdO15 W a2 len2 l := by
    obtain ⟨fuel, hf⟩ := h2
    obtain ⟨h1, l, h2⟩ := open_ops15 hf
    refine ⟨l, h1, ?_, h2⟩
    rcases Deep.open_slice Tryd.underlying22 hf with ⟨hcs, -⟩ | ⟨x, len, cap, m, k, D, Pl, hcs, -, hl, hm, -⟩
    · simp [Value.cells] at hcs
      obtain ⟨rfl, rfl, rfl⟩ := hcs
      exact Nat.zero_le _
    · simp [Value.cells] at hcs
      obtain ⟨rfl, rfl, rfl⟩ := hcs
      exact hm
  clear hA0 hval0
  refine (walKeeps_walk a0 a1 a2 len2 cap2 l2 W A w0 w1 z2 hAA).mono fun e W' ⟨he, bel⟩ => ?_
  subst he
  exact ⟨_, rfl, _, _, _, [], _, [], hW', trodAll_mk1 (shut_bool Tryd.underlying4 _), (trodAll_cons_mk (shut_int Tryd.underlying3 w0) (trodAll_cons_mk (shut_int Tryd.underlying3 w1) (trodAll_cons_mk (Below.trod laidOut (by kernel_rfl) (of_decide_eq_true (by kernel_rfl)) k2 bel lt2) trodAll_mk0))), rfl, bel.frame _, fun h => by cases h⟩

theorem reads (os : Os) {H : Type} (enc : TypeId × Value → H) : ∃ places, DataW.whole enc Tryd.prog ((laidW os).forCall (fun _ _ => 0) ⟨#[], #[.int .i64 0, .int .i64 0, .slice none 0 0], []⟩).memory Tryd.f3.params.toList Rows.walKeepsSpec.vars false (#[.int .i64 0, .int .i64 0, .slice none 0 0] : Array Value).toList 8 = some ([.lit (.int .i64 0), .lit (.int .i64 0), .nil], [], places) :=
  ⟨[], by kernel_rfl⟩

set_option maxRecDepth 100000 in
theorem lifted (os : Os) (started : os.Started) (H : Type) (enc : TypeId × Value → H) (F : Stop.Interp) :
    ReturnsInHanded {} Tryd.checked os 3 .any ((OpenSpec.ofChange Rows.walKeepsSpec).preRow enc Tryd.prog Tryd.f3 Rows.walKeepsRow.domain false Rows.walKeepsRow.laid) (((OpenSpec.ofChange Rows.walKeepsSpec).at F).post enc Tryd.prog Tryd.f3 false true false false) := by
  obtain ⟨places, hx⟩ := reads os enc
  refine returnsInHanded_of_row (C := Tryd.checked) (s := OpenSpec.ofChange Rows.walKeepsSpec) own started (by kernel_rfl) Tryd.func3
    (witness_row_at (enc := enc) (C := Tryd.checked) false (laidW os) #[.int .i64 0, .int .i64 0, .slice none 0 0] rfl (by kernel_rfl) (by kernel_rfl) (by kernel_rfl)
      (OpenSpec.preRow_of_cond 8 hx (by kernel_rfl) (fun k hk => by cases hk) (by kernel_rfl) (laidW_metH os _))) ?_
  intro W base args ds gs before hval hW _ _ hsz hL _ _
  exact contract H enc W base args ds gs before hval hW hsz (laidH hL)

theorem said : Rows.WalKeepsSaid :=
  OpenClaim.holds_of_cond 3 Tryd.f3 rfl rfl rfl rfl rfl rfl rfl ⟨rfl, rfl, rfl, rfl, rfl⟩ rfl rfl rfl rfl rfl (by kernel_rfl) Tryd.func3 (by kernel_rfl)
    (of_decide_eq_true (by kernel_rfl)) (by unfold Func.isWrapper; first | (rw [if_pos (by decide +kernel)]; kernel_rfl) | (rw [if_neg (by decide +kernel)]; exact ⟨rfl, rfl⟩))
    (fun os started H enc _ F => by rw [OpenClaim.pre_eq_preRow]; exact lifted os started H enc F)

theorem plainParams (f : FuncId) (fn : Func) (hf : Tryd.pinned.checked.prog.funcNamed "fairlead/fairleadlaw15.WalKeeps" = some f) (hfn : Tryd.pinned.checked.prog.funcs[f]? = some fn) :
    true = Tryd.pinned.checked.prog.looks [] ∧ ∀ (j : Nat) t, fn.params[j]? = some t → Tryd.pinned.checked.prog.wantsStandIn t = false := by
  obtain rfl : f = 3 := Option.some.inj ((show Tryd.prog.funcNamed "fairlead/fairleadlaw15.WalKeeps" = some 3 by kernel_rfl).symm.trans hf) |>.symm
  obtain rfl : fn = Tryd.f3 := (Option.some.inj (Tryd.func3.symm.trans hfn)).symm
  refine ⟨by kernel_rfl, fun j t ht => ?_⟩
  rw [Tryd.params3] at ht
  have hm := Array.mem_of_getElem? ht
  have hor : t = 3 ∨ t = 3 ∨ t = 22 := by simpa using hm
  rcases hor with rfl | rfl | rfl
  · exact (show Tryd.prog.wantsStandIn 3 = false by kernel_rfl)
  · exact (show Tryd.prog.wantsStandIn 3 = false by kernel_rfl)
  · exact (show Tryd.prog.wantsStandIn 22 = false by kernel_rfl)

/-- The statement: the card. -/
theorem proved : Rows.WalKeepsCardSaid :=
  Claim7.holds_tied_plain_at .later [] _ _ _ _ said (fun _ h => by cases h) (by kernel_rfl) (fun _ h => by cases h) walKeeps_row_tie rfl ⟨rfl, rfl⟩ (by kernel_rfl) rfl plainParams (by kernel_rfl)
#print axioms proved
end Go.Proofs.YtahgaogmcffglaaDoor.walKeeps
