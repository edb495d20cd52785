/- DiskReads. (Made by gen/DscQ.py.) -/
import Derived.Test.YtchcimckffonjaaDscP
namespace Go.Proofs.Ytchcimckffonjaa
open Go.RowKit

theorem info_i64n : (Try.prog.info? 3).map (fun i => (i.zero, i.size, i.bytes)) = some (some (.int .i64 0), 1, 8) := by kernel_rfl
theorem made_ints (n : Nat) : (madeCells (Value.int IntKind.i64 0).cells (n * 1)).toList = (List.replicate n 0).map nv := by
  apply List.ext_getElem?
  intro j
  have hz1 : (Value.int IntKind.i64 0).cells = #[.int .i64 0] := rfl
  rw [hz1]
  by_cases hj : j < n
  · simp [hj, madeCells, Nat.mod_one, nv]
  · simp [hj, madeCells]
theorem umod13 (a : Int) (n : Nat) (h1 : 1 ≤ n) (h2 : n ≤ 50) : ∃ q : Nat, q < n ∧ wrap64 ((IntKind.u64.wrap a).tmod (n : Int)) = (q : Int) := by
  have e : IntKind.u64.wrap a = a % 18446744073709551616 := rfl
  have h3 : 0 ≤ IntKind.u64.wrap a := by rw [e]; omega
  rw [Int.tmod_eq_emod_of_nonneg h3]
  have h4 : 0 ≤ IntKind.u64.wrap a % (n : Int) := Int.emod_nonneg _ (by omega)
  have h5 : IntKind.u64.wrap a % (n : Int) < (n : Int) := Int.emod_lt_of_pos _ (by omega)
  refine ⟨(IntKind.u64.wrap a % (n : Int)).toNat, by omega, ?_⟩
  unfold wrap64
  omega

set_option maxRecDepth 100000 in
set_option maxHeartbeats 8000000 in
theorem diskReads_walk (n0 : Int) (L : Option Addr) (m cm : Nat) (l : List OpD) (w : World) (_ : (Lit.int .i64 n0).wf = true) (hL : RdO13 w L m l ∧ m ≤ cm) :
    Calls Try.prog 3 #[.int .i64 n0, .slice L m cm] w fun e w' => e = .returned (.bool true) ∧ Below w.heap.size w w' := by
  have HL := Lib.hid hL.1
  clear hL
  by_cases hout : n0 < 1 ∨ 50 < n0 ∨ 100 < m
  · by_cases h1 : n0 < 1
    · go_enter Try.func3, Try.ntmps3
      go_wp2_with fail
      refine (heads13_any w).mono ?_
      rintro e w1 ⟨rfl, hb⟩
      have B1 := Lib.hid hb
      clear hb
      go_wp2_with fail
      go_ret
      exact ⟨rfl, B1.out⟩
    by_cases h2 : 50 < n0
    · go_enter Try.func3, Try.ntmps3
      go_wp2_with fail
      refine (heads13_any w).mono ?_
      rintro e w1 ⟨rfl, hb⟩
      have B1 := Lib.hid hb
      clear hb
      go_wp2_with fail
      go_ret
      exact ⟨rfl, B1.out⟩
    · have t3 : (100 : Int) < m := by omega
      go_enter Try.func3, Try.ntmps3
      go_wp2_with fail
      refine (heads13_any w).mono ?_
      rintro e w1 ⟨rfl, hb⟩
      have B1 := Lib.hid hb
      clear hb
      go_wp2_with fail
      go_ret
      exact ⟨rfl, B1.out⟩
  obtain ⟨n, rfl⟩ : ∃ n : Nat, n0 = (n : Int) := ⟨n0.toNat, by omega⟩
  have hn : 1 ≤ n ∧ n ≤ 50 ∧ m ≤ 100 := by omega
  have HN := Lib.hid hn
  have t1 : ¬ (n : Int) < 1 := by omega
  have t2 : ¬ (50 : Int) < n := by omega
  have t3 : ¬ (100 : Int) < m := by omega
  obtain ⟨i0, hi0, hzz⟩ := Option.map_eq_some_iff.1 info_i64n
  simp only [Prod.mk.injEq] at hzz
  obtain ⟨hz0, hz1, hz2⟩ := hzz
  have HI := Lib.hid (And.intro hi0 (And.intro hz0 (And.intro hz1 hz2)))
  clear hout hn hi0 hz0 hz1 hz2
  go_enter Try.func3, Try.ntmps3
  go_wp2_with fail
  refine (cat_new (n : Int) (Below.refl w.heap.size w)).mono ?_
  rintro e w1 (⟨-, -, g, rfl, hc⟩ | ⟨hn, -, -⟩)
  case inr => exact absurd ⟨by have := HN.out.1; omega, by have := HN.out.2.1; omega⟩ hn
  have C1 : Hid (CAt w w1 g ⟨List.replicate n z64, [], true, -1⟩) := hc
  clear hc
  go_wp2_with (first
    | (refine wpList_make_full _ rfl (.tmp 37) (.tmp 37) 28 rfl w1.heap.size 3 i0 (.int .i64 0) 1 Try.underlying28 HI.out.1 HI.out.2.1 HI.out.2.2.1 .i64 .i64 _ _ n rfl rfl (by first | rfl | omega | simp) (by first | rfl | omega | simp) (by rw [HI.out.2.2.2]; have := HN.out.2.1; omega) (by have := HN.out.2.1; unfold maxLen; omega) (Nat.le_refl _) ?_; intro w2 ho2 hg2; have O2 := Lib.hid (And.intro ho2 hg2); clear ho2 hg2)
    | fail)
  have C2 : Hid (CRow w w2 g ⟨List.replicate n z64, [], true, -1⟩ w1.heap.size (List.replicate n 0)) := by
    obtain ⟨F, q1, q2⟩ := C1.out
    have hob := own_whole13 O2.out.1
    rw [made_ints] at hob
    have hb2 : Below w1.heap.size w1 w2 := ⟨O2.out.2.os, O2.out.2.tape, O2.out.2.output, O2.out.2.size, fun k hk => O2.out.2.block k hk (by simp)⟩
    exact ⟨F, q1.below hb2, q2.trans (hb2.mono q2.size), fun hf => absurd (q1.fit _ hf).2 (Nat.lt_irrefl _), q2.size, hob⟩
  obtain ⟨gl, hgl⟩ : ∃ gl, gl = w1.heap.size := ⟨_, rfl⟩
  rw [← hgl] at C2 ⊢
  clear hgl O2 C1
  go_loopw [8] (fun k wr => ∃ i : Nat, i ≤ m ∧ k = .int .i64 i ∧ Hid (∃ S ws xs, S.length = n ∧ CRow w wr g ⟨S, ws, true, -1⟩ gl xs ∧ LastOk l S ws xs i)) (fun k _ => m - (intOf k).toNat)
  case atStart => exact ⟨0, Nat.zero_le _, rfl, _, _, _, by simp, C2.out, LastOk.start l n⟩
  case round =>
    obtain ⟨i, hi, rfl, HR⟩ := hrel
    obtain ⟨S, ws, xs, hS, hc, hk⟩ := HR.out
    have CR := Lib.hid (And.intro hS (And.intro hc hk))
    clear HR hS hc hk
    by_cases hlt : i < m
    case pos =>
      have tm : (i : Int) < (m : Int) := by omega
      have i0 : (0 : Int) ≤ (i : Int) := by omega
      obtain ⟨b, o, x, rfl, hx, hok, hbl, hc⟩ := HL.out.at_ hlt
      have HX : Hid (l.getD i default = x) := by show _ = _; rw [List.getD_eq_getElem?_getD, hx]; rfl
      have HC := Lib.hid (And.intro hbl hc)
      have c1 : wr.cell? ⟨b, o + i * 5 + 1, none⟩ = some (.int .i64 x.at_) := (CR.out.2.1.base.cell (p := ⟨b, o + i * 5 + 1, none⟩) hbl).trans (hc 1 _ rfl)
      have c2 : wr.cell? ⟨b, o + i * 5 + 2, none⟩ = some (.int .u8 (x.fill.toNat : Int)) := (CR.out.2.1.base.cell (p := ⟨b, o + i * 5 + 2, none⟩) hbl).trans (hc 2 _ rfl)
      have ea : (⟨b, o, none⟩ : Addr).add (i * 5) = ⟨b, o + i * 5, none⟩ := add_mk b o (i * 5)
      have HLT := Lib.hid hlt
      obtain ⟨q, hqn, hq⟩ := umod13 x.at_ n HN.out.1 HN.out.2.1
      have HQ : Hid (q < n ∧ q < S.length ∧ xs.length = n) := ⟨hqn, by rw [CR.out.1]; exact hqn, by rw [CR.out.2.2.1, CR.out.1]⟩
      clear hx hok hbl hc hqn
      go_wp2_with fail
      refine (sec64_any x.fill wr).mono ?_
      rintro e w3 ⟨v, rfl, ho, hb⟩
      have O3 := Lib.hid (And.intro ho hb)
      clear ho hb c1 c2
      rw [hq]
      clear hq
      go_wp2_with fail
      have hwr := crow_write (q : Int) CR.out.2.1 O3.out.2 O3.out.1 (by show ws.length ≤ _; have := CR.out.2.2.2.1; have := HLT.out; have := HN.out.2.2; omega)
      rw [Cd.write_end rfl rfl (by omega) (show (q : Int) < (S.length : Int) by have := HQ.out.2.1; omega) (secB_64 x.fill)] at hwr
      refine hwr.mono ?_
      clear hwr
      rintro e w4 ⟨rfl, hc⟩
      have C4 : Hid (CRow w w4 g ⟨S, ws ++ [(q, secB x.fill 64)], true, -1⟩ gl xs) := hc
      obtain ⟨k1, f1⟩ := hc.cell (i := q) (by rw [HQ.out.2.2]; exact HQ.out.1)
      have eg : (⟨gl, 0, none⟩ : Addr).add q = ⟨gl, q, none⟩ := by rw [add_mk, Nat.zero_add]
      have qi : (q : Int) < (n : Int) := by have := HQ.out.1; omega
      have q0 : (0 : Int) ≤ (q : Int) := by omega
      obtain ⟨I, hI⟩ : ∃ I : Int, I = ((i + 1 : Nat) : Int) := ⟨_, rfl⟩
      have hwi : wrap64 ((i : Int) + 1) = I := by unfold wrap64; have := HLT.out; have := HN.out.2.2; omega
      have hwi2 : IntKind.i64.wrap ((i : Int) + 1) = I := by rw [IntKind.wrap_i64]; have := HLT.out; have := HN.out.2.2; omega
      have HII := Lib.hid hI
      have C5 : Hid (CRow w (w4.setCell ⟨gl, q, none⟩ (.int .i64 I)) g ⟨S, ws ++ [(q, secB x.fill 64)], true, -1⟩ gl (xs.set q (i + 1))) := by show CRow _ _ _ _ _ _; rw [hI]; exact hc.set q (i + 1)
      have K5 : Hid (LastOk l S (ws ++ [(q, secB x.fill 64)]) (xs.set q (i + 1)) (i + 1)) := by
        have h := CR.out.2.2.write HQ.out.2.1
        rw [HX.out] at h
        exact h
      have c0 : (w4.setCell ⟨gl, q, none⟩ (.int .i64 I)).cell? ⟨b, o + i * 5, none⟩ = some (.int .i64 x.kind) := (C5.out.base.cell (p := ⟨b, o + i * 5, none⟩) HC.out.1).trans (HC.out.2 0 _ rfl)
      clear hc C4 O3 hI
      by_cases hk1 : x.kind = 1
      · have hkb : (x.kind == 1) = true := by simp [hk1]
        clear hk1
        go_wp2_with fail
        refine (crow_flush C5.out (by show (ws ++ [(q, secB x.fill 64)]).length ≤ _; have := K5.out.2.1; have := HLT.out; have := HN.out.2.2; omega)).mono ?_
        rw [Cd.flush_end rfl rfl]
        rintro e w6 ⟨rfl, hc⟩
        have C6 : Hid (CRow w w6 g ⟨layW S (ws ++ [(q, secB x.fill 64)]), [], true, -1⟩ gl (xs.set q (i + 1))) := hc
        have tlt := HLT.out
        have tn3 := HN.out.2.2
        clear hc hkb c0 k1 f1
        go_wp2_with fail
        go_roundw
        case rel => exact ⟨i + 1, by have := HLT.out; omega, by (have h1 := HII.out; simp; omega), _, _, _, by rw [layW_len]; exact CR.out.1, C6.out, K5.out.flush⟩
        case measure => (have h1 := HII.out; have h2 := HLT.out; simp [intOf]; omega)
      · have hkb : (x.kind == 1) = false := by simpa using hk1
        clear hk1
        have tlt := HLT.out
        have tn3 := HN.out.2.2
        go_wp2_with fail
        go_roundw
        case rel => exact ⟨i + 1, by have := HLT.out; omega, by (have h1 := HII.out; simp; omega), _, _, _, CR.out.1, C5.out, K5.out⟩
        case measure => (have h1 := HII.out; have h2 := HLT.out; simp [intOf]; omega)
    obtain rfl : m = i := by omega
    have tm : ¬ (m : Int) < (m : Int) := by omega
    clear hlt hi
    go_wp2_with fail
    go_loopw [10] (fun k w6 => ∃ i : Nat, i ≤ n ∧ k = .int .i64 i ∧ Hid (CRow w w6 g ⟨S, ws, true, -1⟩ gl xs)) (fun k _ => n - (intOf k).toNat)
    case atStart => exact ⟨0, Nat.zero_le _, rfl, CR.out.2.1⟩
    case round =>
      obtain ⟨i, hi, rfl, HR⟩ := hrel
      by_cases hlt : i < n
      case neg =>
        obtain rfl : n = i := by omega
        have tn : ¬ (n : Int) < (n : Int) := by omega
        clear hlt hi
        go_wp2_with fail
        refine (heads13_any _).mono ?_
        rintro e w8 ⟨rfl, hb⟩
        have B8 := Lib.hid (HR.out.base.trans (hb.mono HR.out.base.size))
        clear hb
        go_wp2_with fail
        go_ret
        exact ⟨rfl, B8.out⟩
      have tn : (i : Int) < (n : Int) := by omega
      have i0 : (0 : Int) ≤ (i : Int) := by omega
      have HLT := Lib.hid hlt
      have LR : Hid ((List.replicate 64 (0 : UInt8)).length = 64) := by show _ = _; simp
      obtain ⟨hk1, hk2⟩ := CR.out.2.2.2.2 i (by rw [CR.out.1]; exact hlt)
      have HK := Lib.hid (And.intro hk1 hk2)
      have HXL : Hid (xs.length = n) := by show _ = _; rw [CR.out.2.2.1, CR.out.1]
      clear hk1 hk2
      go_wp2_with fail
      refine (cat_read_end i HR.out.cat (by have := CR.out.2.2.2.1; have := HN.out.2.2; omega) (by rw [CR.out.1]; exact HLT.out)).mono ?_
      rintro e w7 ⟨-, hb, v, l2, hl, rfl, ho⟩
      have hl3 := HK.out.2
      rw [hl] at hl3
      injection hl3 with hl3
      have C7 := Lib.hid (HR.out.below hb)
      have O7 := Lib.hid ho
      have HL2 := Lib.hid hl3
      clear hb hl ho hl3
      have LZ : Hid (z64.length = 64) := rfl
      have hl64 : l2.length = 64 := by rw [HL2.out]; split; exact LZ.out; exact secB_64 _
      obtain ⟨A1, c1, rfl, -, -, hr⟩ := O7.out.rd
      rw [hl64] at hr ⊢
      have R7 := Lib.hid hr
      have eg : (⟨gl, 0, none⟩ : Addr).add i = ⟨gl, i, none⟩ := by rw [add_mk, Nat.zero_add]
      clear hr hl64
      by_cases hz : xs.getD i 0 = 0
      · have l2z : l2 = z64 := by rw [HL2.out, if_pos hz]
        have HZ := Lib.hid hz
        have HL3 := Lib.hid l2z
        clear l2z hz
        go_wp2_with (first
          | (refine wpList_makeB13 rfl _ _ 33 rfl 5 Try.underlying33 info_u8 64 64 64 64 rfl rfl rfl rfl (Nat.le_refl _) (by decide) ?_; intro w8 ho8 hb8; have O8 := Lib.hid ho8; have B8 := Lib.hid hb8; obtain ⟨k1, f1⟩ := (C7.out.below hb8).cell (i := i) (by rw [HXL.out]; exact HLT.out); rw [HZ.out] at k1; have C8 := Lib.hid (C7.out.below hb8); clear ho8 hb8)
          | fail)
        have hr8 : Rd w8 w8.heap.size (some ⟨w7.heap.size, 0, none⟩) 64 z64 := (Ob.rd_ O8.out).2.1
        refine (same_true A1 (some ⟨w7.heap.size, 0, none⟩) 64 c1 64 64 w7.heap.size w8.heap.size z64 w8 (by have h := R7.out; rw [HL3.out] at h; exact h.below B8.out) hr8).mono ?_
        rintro e w9 ⟨rfl, rfl⟩
        have tlt := HLT.out
        have tn3 := HN.out.2.1
        clear k1 f1 hr8
        go_wp2_with fail
        go_roundw
        case rel => exact ⟨i + 1, by have := HLT.out; omega, by simp, C8⟩
        case measure => simp [intOf]; have := HLT.out; omega
      · obtain ⟨k, hk⟩ : ∃ k, xs.getD i 0 = k + 1 := ⟨xs.getD i 0 - 1, by omega⟩
        have hkm : k < m := by have := HK.out.1; omega
        have l2z : l2 = secB (l.getD k default).fill 64 := by rw [HL2.out, if_neg hz, hk, Nat.add_sub_cancel]
        obtain ⟨b, o, x, rfl, hx, hok, hbl, hc⟩ := HL.out.at_ hkm
        have hxd : l.getD k default = x := by rw [List.getD_eq_getElem?_getD, hx]; rfl
        rw [hxd] at l2z
        have HL3 := Lib.hid l2z
        have HC := Lib.hid (And.intro hbl hc)
        have HZ := Lib.hid hk
        have ea : (⟨b, o, none⟩ : Addr).add (k * 5) = ⟨b, o + k * 5, none⟩ := add_mk b o (k * 5)
        have kp : (0 : Int) < ((k + 1 : Nat) : Int) := by omega
        have hwk : wrap64 (((k + 1 : Nat) : Int) - 1) = (k : Int) := by unfold wrap64; have := HN.out.2.2; omega
        have hwk2 : IntKind.i64.wrap (((k + 1 : Nat) : Int) - 1) = (k : Int) := by rw [IntKind.wrap_i64]; have := HN.out.2.2; omega
        have km : (k : Int) < (m : Int) := by omega
        have k0 : (0 : Int) ≤ (k : Int) := by omega
        obtain ⟨kk, hkk⟩ : ∃ kk : Int, kk = ((k + 1 : Nat) : Int) := ⟨_, rfl⟩
        rw [← hkk] at kp hwk hwk2
        have HKK := Lib.hid hkk
        clear l2z hz hk hkm hx hok hbl hc hxd hkk
        go_wp2_with (first
          | (refine wpList_makeB13 rfl _ _ 33 rfl 5 Try.underlying33 info_u8 64 64 64 64 rfl rfl rfl rfl (Nat.le_refl _) (by decide) ?_; intro w8 ho8 hb8; have B8 := Lib.hid hb8; obtain ⟨k1, f1⟩ := (C7.out.below hb8).cell (i := i) (by rw [HXL.out]; exact HLT.out); rw [HZ.out, ← HKK.out] at k1; have C8 := Lib.hid (C7.out.below hb8); have c2 := (C8.out.base.cell (p := ⟨b, o + k * 5 + 2, none⟩) HC.out.1).trans (HC.out.2 2 _ rfl); clear ho8 hb8)
          | fail)
        refine (sec64_any x.fill w8).mono ?_
        rintro e w9 ⟨v, rfl, ho, hb⟩
        obtain ⟨A2, c2', rfl, -, -, hr⟩ := ho.rd
        rw [secB_64] at hr ⊢
        have C9 := Lib.hid (C8.out.below hb)
        have R9 := Lib.hid (And.intro hr hb)
        clear ho hr hb k1 f1 c2
        go_wp2_with fail
        refine (same_true A1 A2 64 c1 64 c2' w7.heap.size w9.heap.size (secB x.fill 64) w9 (by have h := R7.out; rw [HL3.out] at h; exact (h.below B8.out).below (R9.out.2.mono B8.out.size)) R9.out.1).mono ?_
        rintro e w10 ⟨rfl, rfl⟩
        have tlt := HLT.out
        have tn3 := HN.out.2.1
        go_wp2_with fail
        go_roundw
        case rel => exact ⟨i + 1, by have := HLT.out; omega, by simp, C9⟩
        case measure => simp [intOf]; have := HLT.out; omega
end Go.Proofs.Ytchcimckffonjaa
