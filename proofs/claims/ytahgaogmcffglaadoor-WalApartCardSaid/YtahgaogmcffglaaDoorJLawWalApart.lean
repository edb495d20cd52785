/- Layer 15's law: two logs side by side; WalApart. -/
import Derived.Test.YtahgaogmcffglaaDoorJCrcR
import Derived.Test.YtahgaogmcffglaaDoorJLawWalKeeps
import Derived.Test.YtahgaogmcffglaaDoorJWlG
import Derived.Test.YtahgaogmcffglaaDoorJWnI
import Derived.Lib.SmallJoins
import Derived.ChangeArms
import Derived.WalkKit
import Derived.ProofKit
import Derived.OpenShut
import Derived.ShutString
import Derived.ChangeOld
import Derived.Below
import Derived.SizedLaws
import Derived.Deep.DeepHandedRow
namespace Go.Proofs.YtahgaogmcffglaaDoor
open Go.RowKit

theorem inz_z64 {Z : List (List UInt8)} (hw : ∀ s ∈ Z, s.length = 64) (a n : Nat) (hs : Z[a]? = some z64) : InZ a n Z 0 0 [] := by
  have e : rdZ Z a 32 = List.replicate 32 0 := by
    rw [rdZ_head hw hs]
    rfl
  refine ⟨?_, by rw [rdZ_zero]; rfl, fun r hr => absurd hr (by simp), rfl, Nat.zero_le _, by decide⟩
  unfold hdW rhW
  rw [e, if_neg (fun h => next_noughts _ _ h.1)]
  rfl
theorem write_ok {Z : List (List UInt8)} {ws : List (Nat × List UInt8)} {at_ : Nat} {b : List UInt8} (h : at_ < Z.length) (hb : b.length = 64) : Cd.write ⟨Z, ws, true, -1⟩ (at_ : Int) b = (⟨Z, ws ++ [(at_, b)], true, -1⟩, 0) := by
  unfold Cd.write Cd.fp
  rw [if_neg (by simp), if_neg (by show ¬ ((at_ : Int) < 0 ∨ (Z.length : Int) ≤ at_); omega), if_neg (by rw [hb]; decide)]
  simp
theorem flush_ok {Z : List (List UInt8)} {ws : List (Nat × List UInt8)} : Cd.flush ⟨Z, ws, true, -1⟩ = (⟨layW Z ws, [], true, -1⟩, 0) := by
  unfold Cd.flush Cd.fp
  simp
theorem apart_wide {N i j : Nat} {b : List UInt8} (hb : b.length = 64) : ∀ s ∈ ((List.replicate N z64).set i b).set j b, s.length = 64 := fun s hs => by
  rcases List.mem_or_eq_of_mem_set hs with hs | rfl
  · rcases List.mem_or_eq_of_mem_set hs with hs | rfl
    · rw [(List.mem_replicate.1 hs).2]; rfl
    · exact hb
  · exact hb
/-- Ply with its two other sectors written. -/
theorem Ply.apart {w0 w w' : World} {gp n : Nat} {b : List UInt8} {Fd F' Fw N : Nat → Prop} {gd gw : Nat} {vk : Value} (hbl : Below w0.heap.size w0 w) (hb : b.length = 64) (hd : CDk w Fd w0.heap.size gd ⟨List.replicate (5 + n + 2) z64, [], true, -1⟩) (hw : WlK w Fw w0.heap.size gw gd ⟨5, n, 0, 0, [], false⟩) (hdis : ∀ k, Fd k → ¬ Fw k)
    (hrow : w.heap[gp]? = some (.cells (plyC gd gw 5 n vk true) 31 (0, 0))) (hgp : w0.heap.size ≤ gp) (h1 : ¬ Fd gp) (h2 : ¬ Fw gp) (hk : KpR w N vk []) (hn : 4 ≤ n) (hN : ∀ k, Fd k ∨ Fw k ∨ k = gp → N k)
    (hd' : CDk w' F' w0.heap.size gd ⟨((List.replicate (5 + n + 2) z64).set 4 b).set (5 + n) b, [], true, -1⟩) (hf : Fr Fd w w') (hg : Grew w Fd F') : Ply w0 w' gp 5 n (((List.replicate (5 + n + 2) z64).set 4 b).set (5 + n) b) (-1) 0 0 [] (fun k => F' k ∨ Fw k ∨ k = gp) ∧ Grew w N (fun k => F' k ∨ Fw k ∨ k = gp) := by
  have hlt : gp < w.heap.size := (Array.getElem?_eq_some_iff.1 hrow).1
  have hG : Grew w N (fun k => F' k ∨ Fw k ∨ k = gp) := fun k h => by
    rcases h with h | h | h
    · exact (hg k h).imp (fun h => hN k (.inl h)) id
    · exact .inl (hN k (.inr (.inl h)))
    · exact .inl (hN k (.inr (.inr h)))
  refine ⟨⟨gd, gw, F', Fw, vk, hbl.trans (hf.below hbl.size (fun k h => (hd.fit k h).1)), hd', hw.fr hf (fun k h h' => hdis k h' h), fun k h h' => ?_, (hf.block gp hlt h1).trans hrow, hgp, fun h => ?_, h2, hk.go (hf.mono fun k h => hN k (.inl h)) hG, inz_z64 (apart_wide hb) 5 n ?_, ?_, hn, fun k h => h, fun k h => ?_⟩, hG⟩
  · rcases hg k h with h | h
    · exact hdis k h h'
    · have := (hw.fit k h').2; omega
  · rcases hg gp h with h | h
    · exact h1 h
    · omega
  · rw [List.getElem?_set_ne (by omega), List.getElem?_set_ne (by omega), List.getElem?_replicate_of_lt (by omega)]
  · simp
  · rcases h with h | h | h
    · exact hd'.fit k h
    · exact ⟨(hw.fit k h).1, Nat.lt_of_lt_of_le (hw.fit k h).2 hf.size⟩
    · rw [h]; exact ⟨hgp, Nat.lt_of_lt_of_le hlt hf.size⟩
end Go.Proofs.YtahgaogmcffglaaDoor
/- Layer 15's law: WalApart. -/
namespace Go.Proofs.YtahgaogmcffglaaDoor
open Go.RowKit

set_option maxRecDepth 100000 in
set_option maxHeartbeats 16000000 in
theorem walApart_walk8 (n0 : Int) (A : Option Addr) (m c : Nat) (l : List OpW) (fill : UInt8) (w : World) (X : Snt14) (wn : (Lit.int .i64 n0).wf = true) (hl : m ≤ c ∧ c ≤ maxLen ∧ RdO15 w A m l) (hA : Lds14 X w) :
    Calls Tryd.prog 4 #[.int .i64 n0, .slice A m c, .int .u8 (fill.toNat : Int)] w fun e w' => e = .returned (.bool true) ∧ Below w.heap.size w w' := by
  have LA : Hid (∀ W, Below w.heap.size w W → Lds14 X W) := fun W hW => hA.below hW (Nat.le_refl _)
  have HH := Lib.hid (fun W (hW : Below w.heap.size w W) => heads15_any X W (fun W' hW' => LA.out W' (hW.trans (hW'.mono hW.size))))
  have HL := Lib.hid hl.2.2
  have CS := Lib.hid (small15_any A m c l w hl.2.2 (Nat.le_trans hl.1 (Nat.le_trans hl.2.1 (by decide))))
  unfold SmR at CS
  clear hl hA
  by_cases h3 : n0 < 4
  · clear wn
    go_enter Tryd.func4, Tryd.ntmps4
    go_wp2_with (first
      | (go_at_call 8; refine (HH.out w (Below.refl _ _)).mono ?_; rintro e w9 ⟨rfl, hb9⟩; have B9 := Lib.hid hb9; clear hb9)
      | fail)
    go_ret
    exact ⟨rfl, B9.out⟩
  by_cases h4 : 40 < n0
  · clear wn
    go_enter Tryd.func4, Tryd.ntmps4
    go_wp2_with (first
      | (go_at_call 8; refine (HH.out w (Below.refl _ _)).mono ?_; rintro e w9 ⟨rfl, hb9⟩; have B9 := Lib.hid hb9; clear hb9)
      | fail)
    go_ret
    exact ⟨rfl, B9.out⟩
  obtain ⟨n, rfl⟩ : ∃ n : Nat, n0 = (n : Int) := ⟨n0.toNat, by omega⟩
  have hn4 : 4 ≤ n := by omega
  have hn60 : n ≤ 40 := by omega
  have HN := Lib.hid (And.intro hn4 hn60)
  have CB := Lib.hid (fun W (hW : Below w.heap.size w W) => begin_any X 5 n W (fun W' hW' => LA.out W' (hW.trans (hW'.mono hW.size))) (by decide) hn4 (Nat.le_trans hn60 (by decide)))
  clear wn hn4 hn60
  go_enter Tryd.func4, Tryd.ntmps4
  go_wp2_with fail
  refine CS.out.mono ?_
  rintro e w1 ⟨⟨sm, rfl, hsm⟩, hb1⟩
  have B1 := Lib.hid hb1
  cases sm with
  | false =>
    clear hsm hb1
    go_wp2_with (first
      | (go_at_call 8; refine (HH.out w1 B1.out).mono ?_; rintro e w9 ⟨rfl, hb9⟩; have B9 := Lib.hid (B1.out.trans (hb9.mono B1.out.size)); clear hb9)
      | fail)
    go_ret
    exact ⟨rfl, B9.out⟩
  | true =>
    have HSM := Lib.hid (hsm rfl)
    have HL1 : Hid (RdO15 w1 A m l) := HL.out.below15 hb1
    have LA1 : Hid (∀ W, Below w1.heap.size w1 W → Lds14 X W) := fun W hW => LA.out W (B1.out.trans (hW.mono B1.out.size))
    clear hsm hb1
    go_wp2_with fail
    refine (CB.out _ B1.out).mono ?_
    rintro e w2 ⟨gp, N2, rfl, hp⟩
    have HP := Lib.hid hp
    clear hp

    go_upto_region 8 with fail
    go_loopw [8, 9] (fun v8 v9 wr => ∃ i : Nat, i ≤ 64 ∧ v9 = .int .i64 (i : Int) ∧ Hid (Ob wr w2.heap.size 5 v8 (List.replicate i fill)) ∧ Hid (Below w2.heap.size w2 wr)) (fun _ v9 _ => 64 - (intOf v9).toNat)
    case atStart => exact ⟨0, Nat.zero_le _, rfl, Ob.nil_ _ _ _, Below.refl _ _⟩
    case round =>
      obtain ⟨i, hi, rfl, HO, HW⟩ := hrel
      by_cases hlt : i < 64
      · have HI : (i : Int) < 64 := by omega
        have HLEN : Hid ((List.replicate i fill).length = i) := by show _ = _; simp
        obtain ⟨Ab, cb, hv, -, -, -⟩ := HO.out.rd
        rw [HLEN.out] at hv
        subst hv
        have w9 : IntKind.i64.wrap ((i : Int) + 1) = (i : Int) + 1 := by rw [IntKind.wrap_i64]; omega
        have HLT := Lib.hid hlt
        clear hlt
        go_wp2_with (first
          | (at_builtin; refine wpList_appB rfl (.tmp 35) (.tmp 37) 33 rfl w2.heap.size 5 Tryd.underlying33 info_u8 _ _ rfl (HO.out.alloc _) (wr.heap.size + 1) (some ⟨wr.heap.size, 0, none⟩) 1 1 [fill] rfl (Rd.lit wr _ rfl [fill] 5 _ rfl 1 rfl) (by rw [HLEN.out]; have := HLT.out; omega) (Nat.le_trans HW.out.size (le_alloc _ _)) ?_; intro v3 w3 ho3 hb3; have O3 := Lib.hid ho3; have B3 := Lib.hid hb3; clear ho3 hb3)
          | fail)
        go_roundw
        case rel =>
          refine ⟨i + 1, by have := HLT.out; omega, by simp, ?_, (HW.out.alloc HW.out.size _).trans B3.out⟩
          show Ob _ _ _ _ _
          rw [List.replicate_succ']
          exact O3.out
        case measure => simp [intOf]; have := HLT.out; omega
      · obtain rfl : i = 64 := by omega
        have hi2 : ¬ ((64 : Nat) : Int) < 64 := by omega
        obtain ⟨L, hL⟩ : ∃ L, L = List.replicate 64 fill := ⟨_, rfl⟩
        rw [← hL] at HO
        have HLL : Hid (L.length = 64) := by show _ = _; rw [hL]; simp
        clear hL hlt hi
        obtain ⟨Z0, hZ0⟩ : ∃ Z0, Z0 = List.replicate (5 + n + 2) z64 := ⟨_, rfl⟩
        obtain ⟨gd, gw, Fd, Fw, vk, q1, q2, q3, q4, q5, q6, q7, q8, q9, -, -, q12, q13, q14⟩ := HP.out
        have HNLT : Hid (∀ k, N2 k → w1.heap.size ≤ k ∧ k < w2.heap.size) := q14
        have hgpn : N2 gp := q13 gp (.inr (.inr rfl))
        have hgpl : gp < w2.heap.size := (q14 gp hgpn).2
        have r2 := q2.below HW.out
        have r3 := q3.below HW.out
        have r5 := (HW.out.block gp hgpl).trans q5
        have r9 := q9.below HW.out
        have r1 : Below w1.heap.size w1 wr := q1.trans (HW.out.mono q1.size)
        have hFN : ∀ k, Fd k → N2 k := fun k h => q13 k (.inl h)
        obtain ⟨gb, cb, hv, hgb, hgb2, -⟩ := HO.out.form (by rw [HLL.out]; decide)
        rw [HLL.out] at hv
        subst hv
        have hgbn : ¬ N2 gb := fun h => by have := (q14 gb h).2; omega
        have HRW : Hid (∀ W, Fr N2 wr W → Ob W w2.heap.size 5 (.slice (some ⟨gb, 0, none⟩) 64 cb) L) := fun W hW => HO.out.same fun b hb => by
          have hb' : some gb = some b := hb
          injection hb' with hb'
          subst hb'
          exact hW.block gb hgb2 hgbn
        have HPR : Hid (∀ W, Fr Fd wr W → W.cell? ⟨gp, 0, none⟩ = some (.pointer (some ⟨gd, 0, none⟩))) := fun W hW => (play_at ((hW.block gp (Nat.lt_of_lt_of_le hgpl HW.out.size) q7).trans r5)).1.1
        have hzl : Z0.length = 5 + n + 2 := by rw [hZ0]; simp
        have e4 : Cd.write ⟨Z0, [], true, -1⟩ 4 L = (⟨Z0, [(4, L)], true, -1⟩, 0) := write_ok (at_ := 4) (by omega) HLL.out
        have e5 : Cd.write ⟨Z0, [(4, L)], true, -1⟩ (5 + (n : Int)) L = (⟨Z0, [(4, L), (5 + n, L)], true, -1⟩, 0) := by
          have h := write_ok (Z := Z0) (ws := [(4, L)]) (at_ := 5 + n) (b := L) (by omega) HLL.out
          rw [show ((5 + n : Nat) : Int) = 5 + (n : Int) by omega] at h
          exact h
        have CW1 : Hid (Calls Tryd.prog 12 #[.pointer (some ⟨gd, 0, none⟩), .int .i64 4, .slice (some ⟨gb, 0, none⟩) 64 cb] wr fun e w' => ∃ F', CDk w' F' w1.heap.size gd ⟨Z0, [(4, L)], true, -1⟩ ∧ e = .returned (.int .i64 0) ∧ Fr Fd wr w' ∧ Grew wr Fd F') := by
          have h := cwrite_any wr (n := 64) (c := cb) (b := L) 4 (by rw [← hZ0] at r2; exact r2) ((HO.out.rd_).2.1) (Nat.le_refl _) (fun ad h => by injection h with h; subst h; exact fun h2 => hgbn (hFN _ h2)) (Nat.zero_le _)
          rw [e4] at h
          exact h
        have CW2 : Hid (∀ W F4, CDk W F4 w1.heap.size gd ⟨Z0, [(4, L)], true, -1⟩ → Fr Fd wr W → Grew wr Fd F4 → Calls Tryd.prog 12 #[.pointer (some ⟨gd, 0, none⟩), .int .i64 (5 + (n : Int)), .slice (some ⟨gb, 0, none⟩) 64 cb] W fun e w' => ∃ F', CDk w' F' w1.heap.size gd ⟨Z0, [(4, L), (5 + n, L)], true, -1⟩ ∧ e = .returned (.int .i64 0) ∧ Fr F4 W w' ∧ Grew W F4 F') := fun W F4 hd hf hg => by
          have h := cwrite_any W (n := 64) (c := cb) (b := L) (5 + (n : Int)) hd ((HRW.out W (hf.mono hFN)).rd_.2.1) (Nat.le_refl _) (fun ad h => by
            injection h with h
            subst h
            intro h2
            rcases hg _ h2 with h3 | h3
            · exact hgbn (hFN _ h3)
            · exact absurd h3 (by show ¬ wr.heap.size ≤ gb; omega)) (by show (1 : Nat) ≤ _; decide)
          rw [e5] at h
          exact h
        have CW3 : Hid (∀ W F5, CDk W F5 w1.heap.size gd ⟨Z0, [(4, L), (5 + n, L)], true, -1⟩ → Calls Tryd.prog 13 #[.pointer (some ⟨gd, 0, none⟩)] W fun e w' => ∃ F', CDk w' F' w1.heap.size gd ⟨(Z0.set 4 L).set (5 + n) L, [], true, -1⟩ ∧ e = .returned (.int .i64 0) ∧ Fr F5 W w' ∧ Grew W F5 F') := fun W F5 hd => by
          have h := cflush_any W hd (by show (2 : Nat) ≤ _; decide)
          rw [flush_ok] at h
          exact h
        have HPA : Hid (∀ W F', CDk W F' w1.heap.size gd ⟨(Z0.set 4 L).set (5 + n) L, [], true, -1⟩ → Fr Fd wr W → Grew wr Fd F' → Ply w1 W gp 5 n ((Z0.set 4 L).set (5 + n) L) (-1) 0 0 [] (fun k => F' k ∨ Fw k ∨ k = gp) ∧ Grew wr N2 (fun k => F' k ∨ Fw k ∨ k = gp)) := fun W F' hd hf hg => by
          rw [hZ0] at hd ⊢
          exact Ply.apart r1 HLL.out r2 r3 q4 r5 q6 q7 q8 r9 q12 q13 hd hf hg
        have HFN := Lib.hid hFN
        have HGB : Hid (gb < wr.heap.size ∧ ¬ N2 gb) := ⟨hgb2, hgbn⟩
        have HB1R := Lib.hid r1
        have p0 := HPR.out wr (Fr.refl _ _)
        have w5 : IntKind.i64.wrap (5 + (n : Int)) = 5 + (n : Int) := by rw [IntKind.wrap_i64]; have := HN.out; omega
        clear q1 q2 q3 q4 q5 q6 q7 q8 q9 q12 q13 q14 hgpn hgpl r1 r2 r3 r5 r9 hFN hgb hgb2 hgbn e4 e5
        go_upto_region 11 with fail
        go_wp2_with fail
        refine CW1.out.mono ?_
        rintro e w4 ⟨F4, hd4, rfl, hf4, hg4⟩
        have D4 := Lib.hid hd4
        have R4 := Lib.hid (And.intro hf4 hg4)
        clear hd4 hf4 hg4 p0
        have p4 := HPR.out w4 R4.out.1
        go_wp2_with fail
        refine (CW2.out _ _ D4.out R4.out.1 R4.out.2).mono ?_
        rintro e w5x ⟨F5, hd5, rfl, hf5, hg5⟩
        have D5 := Lib.hid hd5
        have R5 := Lib.hid (And.intro (R4.out.1.trans hf5 R4.out.2) (R4.out.2.trans hg5 R4.out.1.size))
        clear hd5 hf5 hg5 p4
        have p5 := HPR.out w5x R5.out.1
        go_wp2_with fail
        refine (CW3.out _ _ D5.out).mono ?_
        rintro e w6 ⟨F6, hd6, rfl, hf6, hg6⟩
        have R6 := Lib.hid (And.intro (R5.out.1.trans hf6 R5.out.2) (R5.out.2.trans hg6 R5.out.1.size))
        have P6 := Lib.hid (HPA.out _ _ hd6 R6.out.1 R6.out.2)
        clear hd6 hf6 hg6 p5
        obtain ⟨Z1, hZ1⟩ : ∃ Z1, Z1 = (Z0.set 4 L).set (5 + n) L := ⟨_, rfl⟩
        rw [← hZ1] at P6
        have HZW : Hid (∀ s ∈ Z1, s.length = 64) := by show ∀ s ∈ Z1, _; rw [hZ1, hZ0]; exact apart_wide HLL.out
        have HZ4 : Hid (Z1.length = 5 + n + 2 ∧ Z1[4]? = some L ∧ Z1[5 + n]? = some L) := by
          refine ⟨by rw [hZ1, List.length_set, List.length_set, hzl], ?_, ?_⟩
          · rw [hZ1, List.getElem?_set_ne (by omega), List.getElem?_set_self (by omega)]
          · rw [hZ1, List.getElem?_set_self (by rw [List.length_set]; omega)]
        obtain ⟨N6, hN6⟩ : ∃ N6 : Nat → Prop, N6 = fun k => F6 k ∨ Fw k ∨ k = gp := ⟨_, rfl⟩
        rw [← hN6] at P6
        have HRO : Hid (∀ W, Fr N6 w6 W → Ob W w2.heap.size 5 (.slice (some ⟨gb, 0, none⟩) 64 cb) L) := fun W hW => HRW.out W ((R6.out.1.mono HFN.out).trans hW P6.out.2)
        have HW2B : Hid (w2.heap.size ≤ w6.heap.size) := Nat.le_trans HW.out.size R6.out.1.size
        clear hZ1 hN6 hZ0 hzl CW1 CW2 CW3 HPA D4 D5 R4 R5
        go_upto_region 14 with fail
        go_loopw [10] (fun v10 wv => ∃ i : Nat, i ≤ m ∧ v10 = .int .i64 (i : Int) ∧ Hid (∃ Z lf t len K N, Ply w1 wv gp 5 n Z lf t len K N ∧ OutZ 5 n Z1 Z ∧ Fr N6 w6 wv ∧ Grew w6 N6 N)) (fun v10 _ => m - (intOf v10).toNat)
        case atStart => exact ⟨0, Nat.zero_le _, rfl, Z1, _, _, _, _, N6, P6.out.1, OutZ.refl HZW.out, Fr.refl _ _, Grew.refl _ _⟩
        case round =>
          obtain ⟨i, hi, rfl, HZ⟩ := hrel
          obtain ⟨Z, lf, t, len, K, N, hPl, hOz, hFz, hGz⟩ := HZ.out
          have HPL := Lib.hid hPl
          have HOZ := Lib.hid hOz
          have HFG := Lib.hid (And.intro hFz hGz)
          obtain ⟨gd2, gw2, Fd2, Fw2, vk2, hb, -, -, -, hrow, -⟩ := hPl
          have HBR := Lib.hid hb
          have HRW2 : Hid (wr.heap[gp]? = some (.cells (plyC gd2 gw2 5 n vk2 true) 31 (0, 0))) := hrow
          obtain ⟨⟨p0, p1, p2, p3, p4, p5⟩, -⟩ := play_at HRW2.out
          clear hb hrow hOz hFz hGz
          by_cases hlt : i < m
          · have HI : (i : Int) < (m : Int) := by omega
            obtain ⟨b, o, rfl, hbb, hcell⟩ := HL1.out.2.2 (by omega)
            have hil : i < l.length := by rw [← HL1.out.1]; exact hlt
            obtain ⟨x, hxe⟩ : ∃ x, x = l[i] := ⟨_, rfl⟩
            have hxi : l[i]? = some x := by rw [hxe]; exact List.getElem?_eq_getElem hil
            have hxo : x.ok w1 := HL1.out.2.1 x (List.mem_of_getElem? hxi)
            have kx := hcell i x hxi
            have hkk : ∀ j v, x.cs[j]? = some v → wr.cell? ⟨b, o + i * 6 + j, none⟩ = some v := fun j v hv => (HBR.out.cell (p := ⟨b, o + i * 6 + j, none⟩) hbb).trans (kx j v hv)
            have k0 : wr.cell? ⟨b, o + i * 6, none⟩ = some (.int .i64 x.kind) := hkk 0 _ rfl
            have k1 : wr.cell? ⟨b, o + i * 6 + 1, none⟩ = some (.int .i64 x.r.typ) := hkk 1 _ rfl
            have k2 : wr.cell? ⟨b, o + i * 6 + 2, none⟩ = some (.slice x.ra x.rn x.rc) := hkk 2 _ rfl
            have k3 : wr.cell? ⟨b, o + i * 6 + 3, none⟩ = some (.slice x.la x.ln x.lc) := hkk 3 _ rfl
            have k4 : wr.cell? ⟨b, o + i * 6 + 4, none⟩ = some (.int .i64 x.at_) := hkk 4 _ rfl
            have k5 : wr.cell? ⟨b, o + i * 6 + 5, none⟩ = some (.slice x.ka x.kn x.kc) := hkk 5 _ rfl
            have CD := Lib.hid (do_any X x LA1.out HPL.out hxo (HSM.out.2 x (List.mem_of_getElem? hxi)))
            unfold opV DoR at CD
            have w9 : IntKind.i64.wrap ((i : Int) + 1) = (i : Int) + 1 := by rw [IntKind.wrap_i64]; have := HSM.out.1; omega
            clear hcell hxe hxi hil kx hkk hxo
            go_wp2_with (first
              | (go_at_call 10; refine CD.out.mono ?_; rintro e w3 ⟨rfl, Z3, lf3, t3, len3, K3, N3, hP3, hO3, hF3, hG3⟩; have HP3 := Lib.hid hP3; have HO3 := Lib.hid hO3; have HF3 := Lib.hid (And.intro hF3 hG3); clear hP3 hO3 hF3 hG3)
              | fail)
            go_roundw
            case rel => exact ⟨i + 1, by omega, by simp, Z3, _, _, _, _, N3, HP3.out, HOZ.out.trans HO3.out, HFG.out.1.trans HF3.out.1 HFG.out.2, HFG.out.2.trans HF3.out.2 HFG.out.1.size⟩
            case measure => simp [intOf]; omega
          · have hin : ¬ (i : Int) < (m : Int) := by omega
            obtain ⟨gd', gw', Fd', Fw', vk', q1, q2, q3, q4, q5, q6, q7, q8, q9, q10, q11, q12, q13, q14⟩ := HPL.out
            have hvk : vk' = vk2 := by
              have h5 := HRW2.out
              rw [q5] at h5
              have h6 := congrArg (fun o => match o with | some (Obj.cells cs _ _) => cs[4]? | _ => none) h5
              simpa [plyC] using h6
            rw [hvk] at q5 q9
            have hT0 : tornW Z [] [] = Z := by unfold tornW; rfl
            have CG := again_any X w1 wr (gp := gp) (gd := gd') (gw := gw') (a := 5) (n := n) (A := none) (m := 0) (c := 0) (ks := []) (N := N) (D := ⟨Z, [], true, lf⟩) (vk := vk2) (vo := vk2) (K := K) (Ko := K) (t0 := t) (len0 := len) (t1 := t) (len1 := len) LA1.out q1 q2 (Nat.zero_le _) q5 q7 (fun k h => q13 k (h.elim .inl fun h => .inr (.inr h))) q14 q9 q9 rfl (fun h => absurd h (Nat.lt_irrefl 0)) (.inl (by show InZ 5 n (tornW Z [] []) t len K; rw [hT0]; exact q10)) q11 q12
            unfold AgnR at CG
            simp only [hT0] at CG
            have CG := Lib.hid CG
            clear q1 q2 q3 q4 q5 q6 q7 q8 q9 q10 q11 q12 q13 q14 hvk hT0
            go_upto_region 19 with fail
            go_wp2_with fail
            refine CG.out.mono ?_
            rintro e w3 ⟨rfl, t3, len3, K3, N3, hP3, hF3, hG3⟩
            obtain ⟨gd3, gw3, Fd3, Fw3, vk3, hb3, hd3, -, -, hrow3, -⟩ := hP3
            have HD3 := Lib.hid hd3
            have HB3 := Lib.hid hb3
            have HOB : Hid (Ob w3 w2.heap.size 5 (.slice (some ⟨gb, 0, none⟩) 64 cb) L) := HRO.out w3 (HFG.out.1.trans hF3 HFG.out.2)
            have R3 : Hid (∀ W, Below w3.heap.size w3 W → W.cell? ⟨gp, 0, none⟩ = some (.pointer (some ⟨gd3, 0, none⟩)) ∧ W.cell? ⟨gp, 5, none⟩ = some (.bool true)) := fun W hW => by
              obtain ⟨⟨z0, -, -, -, -, z5⟩, -⟩ := play_at ((hW.block gp (Array.getElem?_eq_some_iff.1 hrow3).1).trans hrow3)
              exact ⟨z0, z5⟩
            clear hb3 hd3 hrow3 hF3 hG3 p0 p1 p2 p3 p4 p5
            obtain ⟨p0, p5⟩ := R3.out w3 (Below.refl _ _)
            have HZ3 : Hid (Z.length = 5 + n + 2 ∧ Z[4]? = some L ∧ Z[5 + n]? = some L) := ⟨HOZ.out.len.trans HZ4.out.1, (HOZ.out.out 4 (.inl (by decide))).trans HZ4.out.2.1, (HOZ.out.out (5 + n) (.inr (Nat.le_refl _))).trans HZ4.out.2.2⟩
            have CR : Hid (∀ W, Below w3.heap.size w3 W → ∀ k : Nat, Z[k]? = some L → Calls Tryd.prog 14 #[.pointer (some ⟨gd3, 0, none⟩), .int .i64 (k : Int)] W fun e w' => ∃ A c, e = .returned (.tuple #[.slice A 64 c, .int .i64 0]) ∧ Below W.heap.size W w' ∧ ∀ V, Below w'.heap.size w' V → Rd V V.heap.size A 64 L) := fun W hW k hk => by
              refine (dread_any W (k : Int) (HD3.out.below hW) (Nat.zero_le _)).mono ?_
              rintro e w' ⟨hb, h⟩
              have hkl : k < Z.length := (List.getElem?_eq_some_iff.1 hk).1
              rcases h with ⟨h, -⟩ | ⟨-, h, -⟩ | ⟨-, -, -, v, lx, hlx, he, ho⟩
              · cases h
              · exact absurd h (by show ¬ ((k : Int) < 0 ∨ (Z.length : Int) ≤ k); omega)
              · have hlx2 : Z[k]? = some lx := hlx
                rw [hk] at hlx2
                injection hlx2 with hlx2
                subst hlx2
                obtain ⟨g9, c9, hv9, -⟩ := ho.form (by rw [HLL.out]; decide)
                rw [HLL.out] at hv9
                subst hv9
                exact ⟨_, _, he, hb, fun V hV => (ho.below hV).rd_.2.1⟩
            have CR4 : Hid (Calls Tryd.prog 14 #[.pointer (some ⟨gd3, 0, none⟩), .int .i64 4] w3 fun e w' => ∃ A c, e = .returned (.tuple #[.slice A 64 c, .int .i64 0]) ∧ Below w3.heap.size w3 w' ∧ ∀ V, Below w'.heap.size w' V → Rd V V.heap.size A 64 L) := CR.out w3 (Below.refl _ _) 4 HZ3.out.2.1
            have CR5 : Hid (∀ W, Below w3.heap.size w3 W → Calls Tryd.prog 14 #[.pointer (some ⟨gd3, 0, none⟩), .int .i64 (5 + (n : Int))] W fun e w' => ∃ A c, e = .returned (.tuple #[.slice A 64 c, .int .i64 0]) ∧ Below W.heap.size W w' ∧ ∀ V, Below w'.heap.size w' V → Rd V V.heap.size A 64 L) := fun W hW => by
              have h := CR.out W hW (5 + n) HZ3.out.2.2
              rw [show ((5 + n : Nat) : Int) = 5 + (n : Int) by omega] at h
              exact h
            go_wp2_with fail
            refine CR4.out.mono ?_
            rintro e w7 ⟨A7, c7, rfl, hb7, hr7⟩
            have E7 := Lib.hid hb7
            have X7 := Lib.hid hr7
            clear hb7 hr7 p0 p5
            obtain ⟨p0, p5⟩ := R3.out w7 E7.out
            go_wp2_with fail
            refine (CR5.out w7 E7.out).mono ?_
            rintro e w8 ⟨A8, c8, rfl, hb8, hr8⟩
            have E78 := Lib.hid hb8
            have E8 : Hid (Below w3.heap.size w3 w8) := E7.out.trans (hb8.mono E7.out.size)
            have X8 := Lib.hid hr8
            clear hb8 hr8 p0 p5
            obtain ⟨p0, p5⟩ := R3.out w8 E8.out
            have S7 := Lib.hid (same_true A7 (some ⟨gb, 0, none⟩) 64 c7 64 cb w8.heap.size w8.heap.size L w8 (X7.out w8 E78.out) ((HOB.out.below E8.out).rd_.2.1))
            have S8 := Lib.hid (same_true A8 (some ⟨gb, 0, none⟩) 64 c8 64 cb w8.heap.size w8.heap.size L w8 (X8.out w8 (Below.refl _ _)) ((HOB.out.below E8.out).rd_.2.1))
            have BW8 : Hid (Below w.heap.size w w8) := B1.out.trans ((HB3.out.trans (E8.out.mono HB3.out.size)).mono B1.out.size)
            go_wp2_with fail
            refine S7.out.mono ?_
            rintro e wx ⟨rfl, rfl⟩
            go_wp2_with fail
            refine S8.out.mono ?_
            rintro e wx ⟨rfl, rfl⟩
            go_wp2_with fail
            refine (HH.out w8 BW8.out).mono ?_
            rintro e w9 ⟨rfl, hb9⟩
            have B9 := Lib.hid (BW8.out.trans (hb9.mono BW8.out.size))
            clear hb9
            go_wp2_with fail
            go_ret
            exact ⟨rfl, B9.out⟩
theorem walApart_walk (n0 : Int) (A : Option Addr) (m c : Nat) (l : List OpW) (f0 : Int) (w : World) (X : Snt14) (wn : (Lit.int .i64 n0).wf = true) (hl : m ≤ c ∧ c ≤ maxLen ∧ RdO15 w A m l) (wf : (Lit.int .u8 f0).wf = true) (hA : Lds14 X w) :
    Calls Tryd.prog 4 #[.int .i64 n0, .slice A m c, .int .u8 f0] w fun e w' => e = .returned (.bool true) ∧ Below w.heap.size w w' := by
  have h := wf_u8 wf
  have e : f0 = ((UInt8.ofNat f0.toNat).toNat : Int) := by
    rw [UInt8.toNat_ofNat']
    omega
  rw [e]
  exact walApart_walk8 n0 A m c l _ w X wn hl hA
end Go.Proofs.YtahgaogmcffglaaDoor
/- WalApart returns true for every input, and leaves each argument as it was. No condition. -/
namespace Go.Proofs.YtahgaogmcffglaaDoor.walApart
open Go.ChangeShapes Go.WideShapes Go.ChangeAt Go.RowKit
open Go.ChangeMaps (open_string shut_string)
set_option linter.unusedVariables false

theorem own : ownKnob Tryd.prog.godebug = none := by kernel_rfl
theorem laidOut : laidOutB Tryd.prog = true := by kernel_rfl

set_option maxRecDepth 100000 in
theorem contract (H : Type) (enc : TypeId × Value → H) (W : World) (base : Nat) (args : Array Value) (ds gs : List (DataW H)) (before : List MemPlace)
    (hval0 : ∀ (j : Nat) t v, Tryd.f4.params[j]? = some t → args[j]? = some v → Value.okWide Tryd.prog W .any base t v)
    (hW : DataW.Whole enc Tryd.prog Tryd.f4.params.toList Rows.walApartSpec.vars false W args.toList ds gs before)
    (hsz0 : (DataW.weightsEach Tryd.prog (Tryd.f4.params.toList ++ Rows.walApartSpec.plain.varTypes Tryd.prog) (ds ++ gs)).all (· ≤ reachBytes) = true)
    (hL : laidMet Tryd.prog laidL W) :
    Calls Tryd.prog 4 args W fun e W' => ∃ v, e = .returned v ∧ Rows.walApartSpec.post enc Tryd.prog Tryd.f4 false true false false W args v W' := by
  have hsz := hsz0
  have hval := hval0
  have hW' := hW
  obtain ⟨p, q, hA0, hV, rfl, hfz, hnd⟩ := hW
  have hA : DataW.TrodAll enc Tryd.prog W 0 (fun _ => true) true Tryd.f4.params.toList args.toList ds p := hA0
  rw [Tryd.params4] at hA hval hsz
  obtain ⟨v0, vs0, d0, ds0, p0, q0, hargs, rfl, rfl, h0, r0⟩ := trodAll_cons hA
  obtain ⟨v1, vs1, d1, ds1, p1, q1, rfl, rfl, rfl, h1, r1⟩ := trodAll_cons r0
  obtain ⟨v2, vs2, d2, ds2, p2, q2, rfl, rfl, rfl, h2, r2⟩ := trodAll_cons r1
  obtain ⟨rfl, rfl, rfl⟩ := trodAll_nil r2
  obtain rfl : args = #[v0, v1, v2] := by cases args; simp_all
  obtain ⟨rfl, rfl⟩ := trodVars_none hV
  obtain ⟨A, hAA⟩ := lds14_of hL
  obtain ⟨a0, rfl, rfl, rfl, w0⟩ := open_int Tryd.underlying3 (hval 0 3 v0 rfl rfl) h0
  obtain ⟨a1, len1, cap1, rfl⟩ := okWide_slice Tryd.underlying22 (hval 1 22 v1 rfl rfl)
  have k1 := h1
  have lt1 : ∀ x ∈ p1, x.block < W.heap.size := by obtain ⟨m, hm⟩ := k1; exact DataW.trod_lt m _ _ _ hm
  obtain ⟨l1, z1⟩ : ∃ l, len1 ≤ cap1 ∧ cap1 ≤ maxLen ∧ RdO15 W a1 len1 l := by
    obtain ⟨fuel, hf⟩ := h1
    obtain ⟨h1, l, h2⟩ := open_ops15 hf
    refine ⟨l, h1, ?_, h2⟩
    rcases Deep.open_slice Tryd.underlying22 hf with ⟨hcs, -⟩ | ⟨x, len, cap, m, k, D, Pl, hcs, -, hl, hm, -⟩
    · simp [Value.cells] at hcs
      obtain ⟨rfl, rfl, rfl⟩ := hcs
      exact Nat.zero_le _
    · simp [Value.cells] at hcs
      obtain ⟨rfl, rfl, rfl⟩ := hcs
      exact hm
  obtain ⟨a2, rfl, rfl, rfl, w2⟩ := open_int Tryd.underlying5 (hval 2 5 v2 rfl rfl) h2
  clear hA0 hval0
  refine (walApart_walk a0 a1 len1 cap1 l1 a2 W A w0 z1 w2 hAA).mono fun e W' ⟨he, bel⟩ => ?_
  subst he
  exact ⟨_, rfl, _, _, _, [], _, [], hW', trodAll_mk1 (shut_bool Tryd.underlying4 _), (trodAll_cons_mk (shut_int Tryd.underlying3 w0) (trodAll_cons_mk (Below.trod laidOut (by kernel_rfl) (of_decide_eq_true (by kernel_rfl)) k1 bel lt1) (trodAll_cons_mk (shut_int Tryd.underlying5 w2) trodAll_mk0))), rfl, bel.frame _, fun h => by cases h⟩

theorem reads (os : Os) {H : Type} (enc : TypeId × Value → H) : ∃ places, DataW.whole enc Tryd.prog ((laidW os).forCall (fun _ _ => 0) ⟨#[], #[.int .i64 0, .slice none 0 0, .int .u8 0], []⟩).memory Tryd.f4.params.toList Rows.walApartSpec.vars false (#[.int .i64 0, .slice none 0 0, .int .u8 0] : Array Value).toList 8 = some ([.lit (.int .i64 0), .nil, .lit (.int .u8 0)], [], places) :=
  ⟨[], by kernel_rfl⟩

set_option maxRecDepth 100000 in
theorem lifted (os : Os) (started : os.Started) (H : Type) (enc : TypeId × Value → H) (F : Stop.Interp) :
    ReturnsInHanded {} Tryd.checked os 4 .any ((OpenSpec.ofChange Rows.walApartSpec).preRow enc Tryd.prog Tryd.f4 Rows.walApartRow.domain false Rows.walApartRow.laid) (((OpenSpec.ofChange Rows.walApartSpec).at F).post enc Tryd.prog Tryd.f4 false true false false) := by
  obtain ⟨places, hx⟩ := reads os enc
  refine returnsInHanded_of_row (C := Tryd.checked) (s := OpenSpec.ofChange Rows.walApartSpec) own started (by kernel_rfl) Tryd.func4
    (witness_row_at (enc := enc) (C := Tryd.checked) false (laidW os) #[.int .i64 0, .slice none 0 0, .int .u8 0] rfl (by kernel_rfl) (by kernel_rfl) (by kernel_rfl)
      (OpenSpec.preRow_of_cond 8 hx (by kernel_rfl) (fun k hk => by cases hk) (by kernel_rfl) (laidW_metH os _))) ?_
  intro W base args ds gs before hval hW _ _ hsz hL _ _
  exact contract H enc W base args ds gs before hval hW hsz (laidH hL)

theorem said : Rows.WalApartSaid :=
  OpenClaim.holds_of_cond 4 Tryd.f4 rfl rfl rfl rfl rfl rfl rfl ⟨rfl, rfl, rfl, rfl, rfl⟩ rfl rfl rfl rfl rfl (by kernel_rfl) Tryd.func4 (by kernel_rfl)
    (of_decide_eq_true (by kernel_rfl)) (by unfold Func.isWrapper; first | (rw [if_pos (by decide +kernel)]; kernel_rfl) | (rw [if_neg (by decide +kernel)]; exact ⟨rfl, rfl⟩))
    (fun os started H enc _ F => by rw [OpenClaim.pre_eq_preRow]; exact lifted os started H enc F)

theorem plainParams (f : FuncId) (fn : Func) (hf : Tryd.pinned.checked.prog.funcNamed "fairlead/fairleadlaw15.WalApart" = some f) (hfn : Tryd.pinned.checked.prog.funcs[f]? = some fn) :
    true = Tryd.pinned.checked.prog.looks [] ∧ ∀ (j : Nat) t, fn.params[j]? = some t → Tryd.pinned.checked.prog.wantsStandIn t = false := by
  obtain rfl : f = 4 := Option.some.inj ((show Tryd.prog.funcNamed "fairlead/fairleadlaw15.WalApart" = some 4 by kernel_rfl).symm.trans hf) |>.symm
  obtain rfl : fn = Tryd.f4 := (Option.some.inj (Tryd.func4.symm.trans hfn)).symm
  refine ⟨by kernel_rfl, fun j t ht => ?_⟩
  rw [Tryd.params4] at ht
  have hm := Array.mem_of_getElem? ht
  have hor : t = 3 ∨ t = 22 ∨ t = 5 := by simpa using hm
  rcases hor with rfl | rfl | rfl
  · exact (show Tryd.prog.wantsStandIn 3 = false by kernel_rfl)
  · exact (show Tryd.prog.wantsStandIn 22 = false by kernel_rfl)
  · exact (show Tryd.prog.wantsStandIn 5 = false by kernel_rfl)

/-- The statement: the card. -/
theorem proved : Rows.WalApartCardSaid :=
  Claim7.holds_tied_plain_at .later [] _ _ _ _ said (fun _ h => by cases h) (by kernel_rfl) (fun _ h => by cases h) walApart_row_tie rfl ⟨rfl, rfl⟩ (by kernel_rfl) rfl plainParams (by kernel_rfl)
#print axioms proved
end Go.Proofs.YtahgaogmcffglaaDoor.walApart
