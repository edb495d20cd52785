/- What spelt, parsed and Parse of layer 4 return. -/
import Derived.Test.YtlncacfflalacaaDoorEidT
import Derived.Test.YtlncacfflalacaaDoorEidE
namespace Go.Proofs.YtlncacfflalacaaDoor
open Go.RowKit

set_option maxRecDepth 100000 in
set_option maxHeartbeats 1000000 in
theorem sclone_any (s : ByteArray) (w : World) (hs : s.size ≤ 140737488355328) :
    Calls Tryd.prog 35 #[.string s] w fun e w' => e = .returned (.string s) ∧ Below w.heap.size w w' := by
  have C1 := Lib.hid (Tryd.stringslite_Clone s w (by omega))
  go_enter Tryd.func35, Tryd.ntmps35
  go_wp2_with fail
  refine C1.out.mono ?_
  rintro e w1 ⟨rfl, hb⟩
  have HB := Lib.hid hb
  clear hb
  go_wp2_with fail
  go_ret
  exact ⟨rfl, HB.out⟩

theorem str_ne {s : ByteArray} {l : List UInt8} (h : s.data.toList ≠ l) : (s.toList == l) = false ∧ (l == s.toList) = false := by
  rw [Lib.toList_data]
  exact ⟨beq_eq_false_iff_ne.2 h, beq_eq_false_iff_ne.2 (fun e => h e.symm)⟩

set_option maxRecDepth 100000 in
set_option maxHeartbeats 2000000 in
theorem spelt_any (A : Snt) (s : ByteArray) (w : World) (hA : Lds A w) (hs : s.size ≤ 140737488355328) :
    Calls Tryd.prog 24 #[.string s] w (Spelt A s.data.toList w) := by
  have HB0 : Hid (Below w.heap.size w (w.alloc (.cells #[.int .i64 0, .string ⟨#[]⟩, .int .u64 0, .int .u64 0] 25))) := (Below.refl _ _).alloc (Nat.le_refl _) _
  have hA1 := hA.alloc (.cells #[.int .i64 0, .string ⟨#[]⟩, .int .u64 0, .int .u64 0] 25)
  have HA := Lib.hid hA1
  have gs := hA1.cs
  have HNG : Hid (¬ w.heap.size = 1) := Nat.ne_of_gt (World.block_lt_of_cell? w _ hA.cs)
  unfold snt at gs
  clear hA hA1
  have ZE := zeroE (g := w.heap.size) rfl (Below.refl (w.heap.size + 1) (w.alloc (.cells #[.int .i64 0, .string ⟨#[]⟩, .int .u64 0, .int .u64 0] 25)))
  by_cases hnn : s.data.toList = dtnL ++ noneL
  · have es : s = strL (dtnL ++ noneL) := by rw [← hnn]; exact (strL_data s).symm
    have es2 : s = ⟨#[100, 116, 110, 58, 110, 111, 110, 101]⟩ := es
    have HC := Lib.hid could_none
    rw [hnn]
    subst es2
    clear hnn es gs HA hs
    obtain ⟨⟨z0, z1, z2, z3⟩, f0, f1, f2, f3⟩ := ZE
    go_enter Tryd.func24, Tryd.ntmps24
    go_wp2_with fail
    refine bodyPost_ret (v := .tuple #[.agg #[.int .i64 1, .string ⟨#[]⟩, .int .u64 0, .int .u64 0], .nilIface]) (by simp [results, Tryd.results24, go_sem]) rfl ⟨?_, .inl ⟨1, ⟨#[]⟩, 0, 0, rfl, .inl rfl, Nat.zero_le _, by decide, by decide, HC.out⟩⟩
    first | exact (Below.refl _ _).alloc (Nat.le_refl _) _ | exact below_put4 HB0.out (Nat.le_refl _)
  obtain ⟨hne1, hne2⟩ := str_ne (s := s) (l := [100, 116, 110, 58, 110, 111, 110, 101]) hnn
  have C1 := Lib.hid (fun W => Tryd.strings_CutPrefix s ⟨#[100, 116, 110, 58]⟩ W)
  have C2 := Lib.hid (fun W => Tryd.strings_CutPrefix s ⟨#[105, 112, 110, 58]⟩ W)
  rw [show (⟨#[100, 116, 110, 58]⟩ : ByteArray).data.toList = dtnL from rfl] at C1
  rw [show (⟨#[105, 112, 110, 58]⟩ : ByteArray).data.toList = ipnL from rfl] at C2
  have hsl := Lib.size_eq s
  by_cases hp : Lib.hasPrefix s.data.toList dtnL = true
  · have hsp : s.data.toList = dtnL ++ s.data.toList.drop 4 := prefix_split hp
    have et : Lib.trimPrefix s.data.toList dtnL = s.data.toList.drop 4 := by unfold Lib.trimPrefix; rw [if_pos hp]; rfl
    rw [hp, et] at C1
    have hrl : (s.data.toList.drop 4).length ≤ s.data.toList.length := by rw [List.length_drop]; omega
    generalize s.data.toList.drop 4 = r at *
    have HC := Lib.hid (could_dtn (l := r) (fun e => hnn (by rw [hsp, e])))
    rw [← hsp] at HC
    have er : (⟨r.toArray⟩ : ByteArray).data.toList = r := by simp
    have hrs : (⟨r.toArray⟩ : ByteArray).size ≤ 140737488355328 := by rw [Lib.size_eq, er]; omega
    have HRS : Hid ((⟨r.toArray⟩ : ByteArray).size ≤ s.data.toList.length) := by show _ ≤ _; rw [Lib.size_eq, er]; exact hrl
    have C3 := Lib.hid (fun W => sclone_any ⟨r.toArray⟩ W hrs)
    have HC2 : Hid (Could s.data.toList (some (ep 1 ⟨r.toArray⟩ 0 0))) := by show Could _ _; unfold ep; rw [er]; exact HC.out
    clear hp et hrl hsl hsp er hrs HC gs HA
    generalize (⟨r.toArray⟩ : ByteArray) = R at *
    generalize s.data.toList = L at *
    obtain ⟨⟨z0, z1, z2, z3⟩, f0, f1, f2, f3⟩ := ZE
    go_enter Tryd.func24, Tryd.ntmps24
    go_wp2_with fail
    refine (C1.out _).mono ?_
    rintro e w1 ⟨rfl, rfl⟩
    go_wp2_with fail
    refine (C3.out _).mono ?_
    rintro e w2 ⟨rfl, hb⟩
    have hb' := hb.mono (show w.heap.size + 1 ≤ _ by simp)
    have HB2 := Lib.hid hb'
    clear hb hb' z0 z1 z2 z3 f0 f1 f2 f3
    obtain ⟨⟨z0, z1, z2, z3⟩, f0, f1, f2, f3⟩ := zeroE (g := w.heap.size) rfl HB2.out
    go_wp2_with fail
    refine bodyPost_ret (v := .tuple #[.agg #[.int .i64 1, .string R, .int .u64 0, .int .u64 0], .nilIface]) (by simp [results, Tryd.results24, go_sem, z0, z1, z2, z3]) rfl ⟨below_put4 (HB0.out.trans (HB2.out.mono (Nat.le_succ _))) (Nat.le_refl _), .inl ⟨1, R, 0, 0, rfl, .inl rfl, HRS.out, by decide, by decide, HC2.out⟩⟩
  · have hp' := hp
    rw [Bool.not_eq_true] at hp'
    rw [hp'] at C1
    by_cases hq : Lib.hasPrefix s.data.toList ipnL = true
    · have hsp : s.data.toList = ipnL ++ s.data.toList.drop 4 := prefix_split hq
      have et : Lib.trimPrefix s.data.toList ipnL = s.data.toList.drop 4 := by unfold Lib.trimPrefix; rw [if_pos hq]; rfl
      rw [hq, et] at C2
      have hrl : (s.data.toList.drop 4).length ≤ s.data.toList.length := by rw [List.length_drop]; omega
      generalize s.data.toList.drop 4 = r at *
      have er : (⟨r.toArray⟩ : ByteArray).data.toList = r := by simp
      have hrs : (⟨r.toArray⟩ : ByteArray).size ≤ 140737488355328 := by rw [Lib.size_eq, er]; omega
      have HRS : Hid ((⟨r.toArray⟩ : ByteArray).size ≤ s.data.toList.length) := by show _ ≤ _; rw [Lib.size_eq, er]; exact hrl
      have C3 := Lib.hid (fun W (h : Lds A W) => speltn_any A ⟨r.toArray⟩ W h hrs)
      rw [er, ← hsp] at C3
      clear hp hp' hq et hrl hsl hsp er hrs gs
      generalize (⟨r.toArray⟩ : ByteArray) = R at *
      generalize (⟨(Lib.trimPrefix s.data.toList dtnL).toArray⟩ : ByteArray) = R0 at *
      generalize s.data.toList = L at *
      obtain ⟨⟨z0, z1, z2, z3⟩, f0, f1, f2, f3⟩ := ZE
      go_enter Tryd.func24, Tryd.ntmps24
      go_wp2_with fail
      refine (C1.out _).mono ?_
      rintro e w1 ⟨rfl, rfl⟩
      go_wp2_with fail
      refine (C2.out _).mono ?_
      rintro e w1 ⟨rfl, rfl⟩
      go_wp2_with fail
      refine (C3.out _ HA.out).mono ?_
      rintro e w2 ⟨hb, hcase⟩
      have hb' := hb.mono (show w.heap.size + 1 ≤ _ by simp)
      have HB2 := Lib.hid hb'
      clear hb hb' z0 z1 z2 z3 f0 f1 f2 f3
      obtain ⟨⟨z0, z1, z2, z3⟩, f0, f1, f2, f3⟩ := zeroE (g := w.heap.size) rfl HB2.out
      obtain ⟨sc, x, n, v, rfl, h1, h2, h3, h4, h5⟩ | ⟨a, ha, rfl, h5⟩ := hcase
      · have H := Lib.hid (And.intro h1 (And.intro h2 (And.intro h3 (And.intro h4 h5))))
        clear h1 h2 h3 h4 h5
        unfold epdV
        go_wp2_with fail
        refine bodyPost_ret (v := .tuple #[epdV sc x n v, .nilIface]) (by simp [results, Tryd.results24, go_sem, z0, z1, z2, z3, epdV]) rfl ⟨below_put4 (HB0.out.trans (HB2.out.mono (Nat.le_succ _))) (Nat.le_refl _), .inl ⟨sc, x, n, v, rfl, H.out.1, H.out.2.1, H.out.2.2.1, H.out.2.2.2.1, H.out.2.2.2.2⟩⟩
      · have H := Lib.hid (And.intro ha h5)
        clear ha h5
        unfold epdV snt
        go_wp2_with fail
        refine bodyPost_ret (v := .tuple #[epdV 0 ⟨#[]⟩ 0 0, snt a]) (by simp [results, Tryd.results24, go_sem, z0, z1, z2, z3, epdV, snt]) rfl ⟨below_put4 (HB0.out.trans (HB2.out.mono (Nat.le_succ _))) (Nat.le_refl _), .inr ⟨a, H.out.1, rfl, H.out.2⟩⟩
    · have hq' := hq
      rw [Bool.not_eq_true] at hq'
      rw [hq'] at C2
      have HC : Hid (Could s.data.toList none) := by
        show Could _ _
        intro e hc ht
        rcases text_head hc with h | h
        · rw [ht] at h; exact absurd h hp
        · rw [ht] at h; exact absurd h hq
      clear hp hp' hq hq' hsl
      generalize (⟨(Lib.trimPrefix s.data.toList dtnL).toArray⟩ : ByteArray) = R0 at *
      generalize (⟨(Lib.trimPrefix s.data.toList ipnL).toArray⟩ : ByteArray) = R1 at *
      generalize s.data.toList = L at *
      obtain ⟨⟨z0, z1, z2, z3⟩, f0, f1, f2, f3⟩ := ZE
      have gv := (World.cell?_setCell_far (w.alloc (.cells #[.int .i64 0, .string ⟨#[]⟩, .int .u64 0, .int .u64 0] 25)) ⟨w.heap.size, 0, none⟩ ⟨1, 0, none⟩ (.int .i64 0) HNG.out).trans gs
      go_enter Tryd.func24, Tryd.ntmps24
      go_wp2_with fail
      refine (C1.out _).mono ?_
      rintro e w1 ⟨rfl, rfl⟩
      go_wp2_with fail
      refine (C2.out _).mono ?_
      rintro e w1 ⟨rfl, rfl⟩
      go_wp2_with fail
      go_region
      go_wp2_with fail
      refine bodyPost_ret (v := .tuple #[epdV 0 ⟨#[]⟩ 0 0, snt A.s]) (by simp [results, Tryd.results24, go_sem, z0, z1, z2, z3, epdV, snt]) rfl ⟨?_, .inr ⟨A.s, .inl rfl, rfl, HC.out⟩⟩
      first | exact ((Below.refl _ _).alloc (Nat.le_refl _) _).drew | exact below_put4 HB0.out.drew (Nat.le_refl _) | exact (below_put4 HB0.out (Nat.le_refl _)).drew
end Go.Proofs.YtlncacfflalacaaDoor
