/- The code's log: lay. (Made by gen/WcH.py.) -/
import Derived.Test.YtahgaogmcffglaaDoorJWcG
namespace Go.Proofs.YtahgaogmcffglaaDoor
open Go.RowKit

/-- What is written behind c0 bytes of a half. -/
def atW (a n t c0 : Nat) : Nat := stW a n t + c0 / 64
def layB (Z : List (List UInt8)) (a n t c0 : Nat) (l : List Rcd) : List UInt8 := rdZ Z (atW a n t c0) (c0 % 64) ++ framesR t l
/-- What is left of a disk behind lay. -/
def LayR (Z : List (List UInt8)) (l0 : Int) (a n t c0 : Nat) (l : List Rcd) (r : Cd × Int) : Prop :=
  (l0 ≠ -1 ∧ ∃ j lf, r = (⟨Z, (chunks (atW a n t c0) (layB Z a n t c0 l)).take j, false, lf⟩, 131)) ∨ FluR (layW Z (chunks (atW a n t c0) (layB Z a n t c0 l))) l0 a (hdF a n t (c0 + sumL l)) r
/-- What lay answers. -/
def WlayR (Z : List (List UInt8)) (l0 : Int) (a n t c0 : Nat) (l : List Rcd) (w : World) (Fd : Nat → Prop) (B gd : Nat) (e : Ending) (w' : World) : Prop :=
  ∃ r Fd', LayR Z l0 a n t c0 l r ∧ CDk w' Fd' B gd r.1 ∧ Fr Fd w w' ∧ Grew w Fd Fd' ∧ ∃ t' c', e = .returned (.tuple #[hdV t' c', .int .i64 r.2]) ∧ (r.2 = 0 → t' = t ∧ c' = c0 + sumL l)
theorem lay_nums {a n Zl st hl c0 s : Nat} (h1 : st + hl ≤ a + 1 + 2 * hl) (h2 : 2 * hl + 1 ≤ n) (h3 : a + n ≤ Zl) (h4 : c0 + s ≤ hl * 64) : (st + c0 / 64) * 64 + c0 % 64 ≤ Zl * 64 ∧ st + c0 / 64 + secN (c0 % 64 + s) ≤ Zl := by
  unfold secN
  omega
theorem w64_small (k : Nat) (h : k ≤ 4194304) : wrap64 (k : Int) = (k : Int) := by unfold wrap64; omega
theorem w64_mid (k : Nat) (h : k ≤ 8388608) : wrap64 (k : Int) = (k : Int) := by unfold wrap64; omega
theorem wi_small (k : Nat) (h : k ≤ 4194304) : IntKind.i64.wrap (k : Int) = (k : Int) := by rw [IntKind.wrap_i64]; omega
theorem CDk.set {w : World} {F : Nat → Prop} {B g : Nat} {D : Cd} (h : CDk w F B g D) {p : Addr} (hp : ¬ F p.block) (u : Value) : CDk (w.setCell p u) F B g D := h.same (by rw [World.size_setCell]; exact Nat.le_refl _) fun k hk => Below.heap_setCell _ _ _ _ fun e => hp (e ▸ hk)
theorem hlf_two {n : Nat} (h : 1 ≤ n) : 2 * hlf n + 1 ≤ n := by unfold hlf; omega
theorem sumL_app (x y : List Rcd) : sumL (x ++ y) = sumL x + sumL y := by simp [sumL]
theorem sumL_le (l : List Rcd) (i : Nat) : sumL (l.take i) ≤ sumL l := by
  have := sumL_app (l.take i) (l.drop i)
  rw [List.take_append_drop] at this
  omega
theorem hbd_aux {K r s S n : Nat} (h1 : K = r + s) (h2 : s ≤ S) (h3 : S ≤ 4194304) (h4 : r ≤ 4194304) (h5 : n + 7 ≤ 8388608) : K + (n + 7) ≤ 140737488355328 := by omega
theorem framesR_at15 (salt : Nat) {L : List Rcd} {k : Nat} {r : Rcd} (h : L[k]? = some r) : framesR salt (L.take (k + 1)) = framesR salt (L.take k) ++ frameR salt r := by
  rw [List.take_add_one, h, Option.toList_some, framesR_snoc]
theorem len_sumL : ∀ l : List Rcd, l.length ≤ sumL l
  | [] => Nat.zero_le _
  | r :: l => by
    have e : sumL (r :: l) = (r.dat.length + 7) + sumL l := by simp [sumL]
    have := len_sumL l
    rw [e, List.length_cons]
    omega
set_option maxRecDepth 100000 in
set_option maxHeartbeats 16000000 in
theorem wlay_any (X : Snt14) (w : World) {Fd Fw : Nat → Prop} {B gd g : Nat} {Z : List (List UInt8)} {lf : Int} {S : Ws} (t c0 : Nat) (A : Option Addr) (m c : Nat) (l : List Rcd)
    (hA : ∀ W, Below B w W → Lds14 X W) (hBw : B ≤ w.heap.size) (hd : CDk w Fd B gd ⟨Z, [], true, lf⟩) (hw : WlK w Fw B g gd S) (hdis : ∀ k, Fd k → ¬ Fw k) (hr : RwC w w.heap.size A m l)
    (hok : ∀ r ∈ l, rokR r = true) (ht : t < 18446744073709551616) (hn1 : 1 ≤ S.n) (hin : S.a + S.n ≤ Z.length) (hfit : c0 + sumL l ≤ hlf S.n * 64) :
    Calls Tryd.prog 53 #[.pointer (some ⟨g, 0, none⟩), hdV t c0, .slice A m c] w (WlayR Z lf S.a S.n t c0 l w Fd B gd) := by
  have HA := Lib.hid hA
  have HD := Lib.hid hd
  have HWL := Lib.hid hw
  have HDI := Lib.hid hdis
  have HR := Lib.hid hr
  have HOK := Lib.hid hok
  have HIN := Lib.hid hin
  have HFI : Hid (c0 + sumL l ≤ hlf S.n * 64) := hfit
  have HBW := Lib.hid hBw
  have HLM : Hid (l.length = m) := hr.1
  have HZF : Hid (Z.length ≤ 65536) := hd.few
  have hzf : Z.length ≤ 65536 := hd.few
  have hn2 : S.n ≤ 65536 := by omega
  have ha : S.a ≤ 65536 := by omega
  have h2 := hlf_two hn1
  obtain ⟨hl, hhl⟩ : ∃ hl, hl = hlf S.n := ⟨_, rfl⟩
  rw [← hhl] at h2 hfit
  have hsb : sumL l ≤ 4194304 := by omega
  have hmb : m ≤ 4194304 := by
    have := len_sumL l
    rw [hr.1] at this
    omega
  have hc0 : c0 ≤ 4194304 := by omega
  have HSB := Lib.hid hsb
  have HMB := Lib.hid hmb
  have HC0 := Lib.hid hc0
  have CS := Lib.hid (fun W => wstart_any S.a S.n t c0 W ha hn1 hn2 ht)
  obtain ⟨st, hst⟩ : ∃ st, st = stW S.a S.n t := ⟨_, rfl⟩
  have hsti : st + hl ≤ S.a + 1 + 2 * hl := by rw [hst, hhl]; exact (stW_in S.a S.n t).2
  have hstb : st ≤ 131072 := by omega
  obtain ⟨hrin, hsin⟩ := lay_nums hsti h2 hin hfit
  have HST := Lib.hid hst
  rw [← hst] at CS
  obtain ⟨at_, hat⟩ : ∃ at_, at_ = st + c0 / 64 := ⟨_, rfl⟩
  have HAT := Lib.hid hat
  have eq1 : (c0 : Int).tdiv 64 = ((c0 / 64 : Nat) : Int) := by rw [Int.tdiv_eq_ediv_of_nonneg (by omega)]; omega
  obtain ⟨q64, hq64⟩ : ∃ q64, q64 = c0 / 64 := ⟨_, rfl⟩
  obtain ⟨r64, hr64⟩ : ∃ r64, r64 = c0 % 64 := ⟨_, rfl⟩
  rw [← hq64] at eq1 hat
  have eq2 : (c0 : Int) / 64 = (q64 : Int) := by omega
  have eq3 : (c0 : Int).tmod 64 = (r64 : Int) := by rw [Int.tmod_eq_emod_of_nonneg (by omega)]; omega
  have eq4 : (c0 : Int) % 64 = (r64 : Int) := by omega
  have w1 : IntKind.i64.wrap ((st : Int) + (q64 : Int)) = (at_ : Int) := by rw [IntKind.wrap_i64]; omega
  have hqb : q64 ≤ 4194304 := by omega
  have hrb : r64 ≤ 4194304 := by omega
  have HRB := Lib.hid hrb
  have w1b := w64_small q64 hqb
  have w1c := w64_small r64 hrb
  have w1d := wi_small q64 hqb
  have w1e := wi_small r64 hrb
  have HR64 := Lib.hid hr64
  have HQ64 := Lib.hid hq64
  rw [← hq64, ← hr64, ← hat] at hrin hsin
  have HRIN := Lib.hid hrin
  have HSIN := Lib.hid hsin
  have hain : S.a + secN 23 ≤ Z.length := by have : secN 23 = 1 := rfl
                                             omega
  have HAIN := Lib.hid hain
  have CF := Lib.hid (fun W (k : Nat) (hk : k ≤ 140737488355328) (hW : Lds14 X W) => wframe_any X S.a S.n t k W hW ha hn2 ht hk)
  have CR := Lib.hid (fun W (hW : Below w.heap.size w W) => wreadBytes_any W at_ r64 (hd.below hW) (Nat.zero_le _) rfl hrin)
  have HTN := Lib.hid ht
  have KW : Hid (∀ W, WlK W Fw B g gd S → W.cell? ⟨g, 0, none⟩ = some (.pointer (some ⟨gd, 0, none⟩)) ∧ W.cell? ⟨g, 1, none⟩ = some (.int .i64 (S.a : Int)) ∧ W.cell? ⟨g, 2, none⟩ = some (.int .i64 (S.n : Int))) := fun W hW => by
    obtain ⟨-, -, ⟨d0, d1, d2, -, -, -, -⟩, -, -, -⟩ := hW.cells
    exact ⟨d0, d1, d2⟩
  obtain ⟨W0, hW0⟩ : ∃ W0, W0 = (w.alloc (.cells #[.int .u64 (t : Int), .int .i64 (c0 : Int)] 61)).alloc (.cells #[.int .u64 0, .int .i64 0] 61) := ⟨_, rfl⟩
  have hb0 : Below w.heap.size w W0 := by rw [hW0]; exact ((Below.refl _ _).alloc (Nat.le_refl _) _).alloc (by simp) _
  have hs0 : w.heap.size + 2 ≤ W0.heap.size := by rw [hW0]; simp
  have hh0 : W0.heap[w.heap.size]? = some (.cells #[.int .u64 (t : Int), .int .i64 (c0 : Int)] 61 (0, 0)) := by rw [hW0]; exact heap_alloc2_old w _ _
  have hh1 : W0.heap[w.heap.size + 1]? = some (.cells #[.int .u64 0, .int .i64 0] 61 (0, 0)) := by rw [hW0]; exact heap_alloc2_new w _ _
  have HB0 := Lib.hid hb0
  have HS0 := Lib.hid hs0
  have HH0 : Hid (∀ W, Below W0.heap.size W0 W → W.heap[w.heap.size]? = some (.cells #[.int .u64 (t : Int), .int .i64 (c0 : Int)] 61 (0, 0)) ∧ W.heap[w.heap.size + 1]? = some (.cells #[.int .u64 0, .int .i64 0] 61 (0, 0))) := fun W hW => ⟨(hW.block _ (by omega)).trans hh0, (hW.block _ (by omega)).trans hh1⟩
  have K0 : Hid (∀ W, Below W0.heap.size W0 W → (W.cell? ⟨w.heap.size, 0, none⟩ = some (.int .u64 (t : Int)) ∧ W.cell? ⟨w.heap.size, 1, none⟩ = some (.int .i64 (c0 : Int))) ∧ W.cell? ⟨g, 0, none⟩ = some (.pointer (some ⟨gd, 0, none⟩)) ∧ W.cell? ⟨g, 1, none⟩ = some (.int .i64 (S.a : Int)) ∧ W.cell? ⟨g, 2, none⟩ = some (.int .i64 (S.n : Int))) := fun W hW => ⟨(row2 ((hW.block _ (by omega)).trans hh0)).1, KW.out W (hw.below (hb0.trans (hW.mono hb0.size)))⟩
  clear hA hd hw hdis hr hok hin hfit hBw ha hst hstb hat hq64 hr64 hrin hsin hain hb0 hs0 hh0 hh1 hsb hmb hc0 hn2 ht hn1 h2 hhl hsti hzf hqb hrb
  unfold plV hdV at *
  go_enter Tryd.func53, Tryd.ntmps53
  go_upto_region 1 with fail
  rw [← hW0]
  clear hW0
  refine wp_region_held_drew (S := fun W => Below W0.heap.size W0 W) (by kernel_rfl) (Below.refl _ _).drew (fun hHeld => ?_)
  refine takeR (i := 0) (v := ?v0_1) rfl (by kernel_rfl) (by kernel_rfl) (by kernel_rfl) (fun _ _ _ h => h) (by rfl) ?hy0_1 (by assumption) ?rest0_1
  case hy0_1 => (intro W hSw; obtain ⟨⟨q0, q1⟩, q2, q3, q4⟩ := K0.out W hSw; go_simp; try with_reducible rfl)
  try simp only [Act.put]
  try simp only [List.setIfInBounds_toArray]
  try simp only [List.set_cons_succ]
  try simp only [List.set_cons_zero]
  refine takeR (i := 1) (v := ?v1_2) rfl (by kernel_rfl) (by kernel_rfl) (by kernel_rfl) (fun _ _ _ h => h) (by rfl) ?hy1_2 (by assumption) ?rest1_2
  case hy1_2 => (intro W hSw; obtain ⟨⟨q0, q1⟩, q2, q3, q4⟩ := K0.out W hSw; go_simp; try with_reducible rfl)
  try simp only [Act.put]
  try simp only [List.setIfInBounds_toArray]
  try simp only [List.set_cons_succ]
  try simp only [List.set_cons_zero]
  refine takeR (i := 2) (v := ?v2_3) rfl (by kernel_rfl) (by kernel_rfl) (by kernel_rfl) (fun _ _ _ h => h) (by rfl) ?hy2_3 (by assumption) ?rest2_3
  case hy2_3 => (intro W hSw; obtain ⟨⟨q0, q1⟩, q2, q3, q4⟩ := K0.out W hSw; go_simp; try with_reducible rfl)
  try simp only [Act.put]
  try simp only [List.setIfInBounds_toArray]
  try simp only [List.set_cons_succ]
  try simp only [List.set_cons_zero]
  refine takeR (i := 3) (v := ?v3_4) rfl (by kernel_rfl) (by kernel_rfl) (by kernel_rfl) (fun _ _ _ h => h) (by rfl) ?hy3_4 (by assumption) ?rest3_4
  case hy3_4 => (intro W hSw; obtain ⟨⟨q0, q1⟩, q2, q3, q4⟩ := K0.out W hSw; go_simp; try with_reducible rfl)
  try simp only [Act.put]
  try simp only [List.setIfInBounds_toArray]
  try simp only [List.set_cons_succ]
  try simp only [List.set_cons_zero]
  refine takeR (i := 4) (v := ?v4_5) rfl (by kernel_rfl) (by kernel_rfl) (by kernel_rfl) (fun _ _ _ h => h) (by rfl) ?hy4_5 (by assumption) ?rest4_5
  case hy4_5 => (intro W hSw; obtain ⟨⟨q0, q1⟩, q2, q3, q4⟩ := K0.out W hSw; go_simp; try with_reducible rfl)
  try simp only [Act.put]
  try simp only [List.setIfInBounds_toArray]
  try simp only [List.set_cons_succ]
  try simp only [List.set_cons_zero]
  refine takeR (i := 6) (v := ?v6_6) rfl (by kernel_rfl) (by kernel_rfl) (by kernel_rfl) (fun _ _ _ h => h) (by rfl) ?hy6_6 (by assumption) ?rest6_6
  case hy6_6 => (intro W hSw; obtain ⟨⟨q0, q1⟩, q2, q3, q4⟩ := K0.out W hSw; go_simp; try with_reducible rfl)
  try simp only [Act.put]
  try simp only [List.setIfInBounds_toArray]
  try simp only [List.set_cons_succ]
  try simp only [List.set_cons_zero]
  refine takeR (i := 7) (v := ?v7_7) rfl (by kernel_rfl) (by kernel_rfl) (by kernel_rfl) (fun _ _ _ h => h) (by rfl) ?hy7_7 (by assumption) ?rest7_7
  case hy7_7 => (intro W hSw; obtain ⟨⟨q0, q1⟩, q2, q3, q4⟩ := K0.out W hSw; go_simp; try with_reducible rfl)
  try simp only [Act.put]
  try simp only [List.setIfInBounds_toArray]
  try simp only [List.set_cons_succ]
  try simp only [List.set_cons_zero]
  refine takeR (i := 8) (v := ?v8_8) rfl (by kernel_rfl) (by kernel_rfl) (by kernel_rfl) (fun _ _ _ h => h) (by rfl) ?hy8_8 (by assumption) ?rest8_8
  case hy8_8 => (intro W hSw; obtain ⟨⟨q0, q1⟩, q2, q3, q4⟩ := K0.out W hSw; go_simp; try with_reducible rfl)
  try simp only [Act.put]
  try simp only [List.setIfInBounds_toArray]
  try simp only [List.set_cons_succ]
  try simp only [List.set_cons_zero]
  have B1 : Hid (Below W0.heap.size W0 W0.drew) := (Below.refl _ _).drew
  clear hHeld
  refine wpAnyH_ready (rs := [5]) (by kernel_rfl) (by simp) ?_
  refine AllReadyH.cons rfl (fun K hK => ?_) AllReadyH.nil
  rw [if_pos (by rfl)]
  go_simp
  refine (CS.out _).mono ?_
  rintro e w2 ⟨rfl, hb⟩
  have B2 := Lib.hid (B1.out.trans (hb.mono B1.out.size))
  clear hb
  go_simp
  refine hK.out _ _ (B2.out) (fun hHeld => ?_)
  try simp only [Act.put]
  try simp only [List.setIfInBounds_toArray]
  try simp only [List.set_cons_succ]
  try simp only [List.set_cons_zero]
  clear hK K
  refine takeR (i := 9) (v := ?v9_9) rfl (by kernel_rfl) (by kernel_rfl) (by kernel_rfl) (fun _ _ _ h => h) (by rfl) ?hy9_9 (by assumption) ?rest9_9
  case hy9_9 => (intro W hSw; go_simp; try with_reducible rfl)
  try simp only [Act.put]
  try simp only [List.setIfInBounds_toArray]
  try simp only [List.set_cons_succ]
  try simp only [List.set_cons_zero]
  refine takeR (i := 10) (v := ?v10_10) rfl (by kernel_rfl) (by kernel_rfl) (by kernel_rfl) (fun _ _ _ h => h) (by rfl) ?hy10_10 (by assumption) ?rest10_10
  case hy10_10 => (intro W hSw; go_simp; try with_reducible rfl)
  try simp only [Act.put]
  try simp only [List.setIfInBounds_toArray]
  try simp only [List.set_cons_succ]
  try simp only [List.set_cons_zero]
  refine wpAnyH_done (by kernel_rfl) ?_ _
  clear hHeld
  go_upto_region 2 with fail
  refine wp_region_held_drew (S := fun W => Below W0.heap.size W0 W) (by kernel_rfl) (B2.out.trans (Below.refl W0.heap.size w2).drew) (fun hHeld => ?_)
  refine takeR (i := 0) (v := ?v0_11) rfl (by kernel_rfl) (by kernel_rfl) (by kernel_rfl) (fun _ _ _ h => h) (by rfl) ?hy0_11 (by assumption) ?rest0_11
  case hy0_11 => (intro W hSw; obtain ⟨⟨q0, q1⟩, q2, q3, q4⟩ := K0.out W hSw; go_simp; try with_reducible rfl)
  try simp only [Act.put]
  try simp only [List.setIfInBounds_toArray]
  try simp only [List.set_cons_succ]
  try simp only [List.set_cons_zero]
  refine takeR (i := 1) (v := ?v1_12) rfl (by kernel_rfl) (by kernel_rfl) (by kernel_rfl) (fun _ _ _ h => h) (by rfl) ?hy1_12 (by assumption) ?rest1_12
  case hy1_12 => (intro W hSw; obtain ⟨⟨q0, q1⟩, q2, q3, q4⟩ := K0.out W hSw; go_simp; try with_reducible rfl)
  try simp only [Act.put]
  try simp only [List.setIfInBounds_toArray]
  try simp only [List.set_cons_succ]
  try simp only [List.set_cons_zero]
  refine takeR (i := 2) (v := ?v2_13) rfl (by kernel_rfl) (by kernel_rfl) (by kernel_rfl) (fun _ _ _ h => h) (by rfl) ?hy2_13 (by assumption) ?rest2_13
  case hy2_13 => (intro W hSw; obtain ⟨⟨q0, q1⟩, q2, q3, q4⟩ := K0.out W hSw; go_simp; try with_reducible rfl)
  try simp only [Act.put]
  try simp only [List.setIfInBounds_toArray]
  try simp only [List.set_cons_succ]
  try simp only [List.set_cons_zero]
  refine takeR (i := 3) (v := ?v3_14) rfl (by kernel_rfl) (by kernel_rfl) (by kernel_rfl) (fun _ _ _ h => h) (by rfl) ?hy3_14 (by assumption) ?rest3_14
  case hy3_14 => (intro W hSw; obtain ⟨⟨q0, q1⟩, q2, q3, q4⟩ := K0.out W hSw; go_simp; try with_reducible rfl)
  try simp only [Act.put]
  try simp only [List.setIfInBounds_toArray]
  try simp only [List.set_cons_succ]
  try simp only [List.set_cons_zero]
  refine takeR (i := 4) (v := ?v4_15) rfl (by kernel_rfl) (by kernel_rfl) (by kernel_rfl) (fun _ _ _ h => h) (by rfl) ?hy4_15 (by assumption) ?rest4_15
  case hy4_15 => (intro W hSw; obtain ⟨⟨q0, q1⟩, q2, q3, q4⟩ := K0.out W hSw; go_simp; try with_reducible rfl)
  try simp only [Act.put]
  try simp only [List.setIfInBounds_toArray]
  try simp only [List.set_cons_succ]
  try simp only [List.set_cons_zero]
  refine takeR (i := 5) (v := ?v5_16) rfl (by kernel_rfl) (by kernel_rfl) (by kernel_rfl) (fun _ _ _ h => h) (by rfl) ?hy5_16 (by assumption) ?rest5_16
  case hy5_16 => (intro W hSw; obtain ⟨⟨q0, q1⟩, q2, q3, q4⟩ := K0.out W hSw; go_simp; try with_reducible rfl)
  try simp only [Act.put]
  try simp only [List.setIfInBounds_toArray]
  try simp only [List.set_cons_succ]
  try simp only [List.set_cons_zero]
  refine takeR (i := 6) (v := ?v6_17) rfl (by kernel_rfl) (by kernel_rfl) (by kernel_rfl) (fun _ _ _ h => h) (by rfl) ?hy6_17 (by assumption) ?rest6_17
  case hy6_17 => (intro W hSw; obtain ⟨⟨q0, q1⟩, q2, q3, q4⟩ := K0.out W hSw; go_simp; try with_reducible rfl)
  try simp only [Act.put]
  try simp only [List.setIfInBounds_toArray]
  try simp only [List.set_cons_succ]
  try simp only [List.set_cons_zero]
  refine takeR (i := 7) (v := ?v7_18) rfl (by kernel_rfl) (by kernel_rfl) (by kernel_rfl) (fun _ _ _ h => h) (by rfl) ?hy7_18 (by assumption) ?rest7_18
  case hy7_18 => (intro W hSw; obtain ⟨⟨q0, q1⟩, q2, q3, q4⟩ := K0.out W hSw; go_simp; try with_reducible rfl)
  try simp only [Act.put]
  try simp only [List.setIfInBounds_toArray]
  try simp only [List.set_cons_succ]
  try simp only [List.set_cons_zero]
  refine takeR (i := 8) (v := ?v8_19) rfl (by kernel_rfl) (by kernel_rfl) (by kernel_rfl) (fun _ _ _ h => h) (by rfl) ?hy8_19 (by assumption) ?rest8_19
  case hy8_19 => (intro W hSw; obtain ⟨⟨q0, q1⟩, q2, q3, q4⟩ := K0.out W hSw; go_simp; try with_reducible rfl)
  try simp only [Act.put]
  try simp only [List.setIfInBounds_toArray]
  try simp only [List.set_cons_succ]
  try simp only [List.set_cons_zero]
  have B2d : Hid (Below W0.heap.size W0 w2.drew) := B2.out.trans (Below.refl W0.heap.size w2).drew
  clear hHeld
  refine wpAnyH_ready (rs := [9]) (by kernel_rfl) (by simp) ?_
  refine AllReadyH.cons rfl (fun K hK => ?_) AllReadyH.nil
  rw [if_pos (by rfl)]
  go_simp
  refine (CR.out _ (HB0.out.trans (B2d.out.mono HB0.out.size))).mono ?_
  rintro e w3 ⟨v3, rfl, ho, hb⟩
  obtain ⟨A3, c3, rfl, -, -, -⟩ := ho.rd
  have O3 := Lib.hid (ho.wide B2d.out.size)
  have B3 := Lib.hid (B2d.out.trans (hb.mono B2d.out.size))
  clear ho hb
  go_simp
  refine hK.out _ _ (B3.out) (fun hHeld => ?_)
  try simp only [Act.put]
  try simp only [List.setIfInBounds_toArray]
  try simp only [List.set_cons_succ]
  try simp only [List.set_cons_zero]
  clear hK K
  refine takeR (i := 10) (v := ?v10_20) rfl (by kernel_rfl) (by kernel_rfl) (by kernel_rfl) (fun _ _ _ h => h) (by rfl) ?hy10_20 (by assumption) ?rest10_20
  case hy10_20 => (intro W hSw; go_simp; try with_reducible rfl)
  try simp only [Act.put]
  try simp only [List.setIfInBounds_toArray]
  try simp only [List.set_cons_succ]
  try simp only [List.set_cons_zero]
  refine takeR (i := 11) (v := ?v11_21) rfl (by kernel_rfl) (by kernel_rfl) (by kernel_rfl) (fun _ _ _ h => h) (by rfl) ?hy11_21 (by assumption) ?rest11_21
  case hy11_21 => (intro W hSw; go_simp; try with_reducible rfl)
  try simp only [Act.put]
  try simp only [List.setIfInBounds_toArray]
  try simp only [List.set_cons_succ]
  try simp only [List.set_cons_zero]
  refine takeR (i := 12) (v := ?v12_22) rfl (by kernel_rfl) (by kernel_rfl) (by kernel_rfl) (fun _ _ _ h => h) (by rfl) ?hy12_22 (by assumption) ?rest12_22
  case hy12_22 => (intro W hSw; go_simp; try with_reducible rfl)
  try simp only [Act.put]
  try simp only [List.setIfInBounds_toArray]
  try simp only [List.set_cons_succ]
  try simp only [List.set_cons_zero]
  refine takeR (i := 13) (v := ?v13_23) rfl (by kernel_rfl) (by kernel_rfl) (by kernel_rfl) (fun _ _ _ h => h) (by rfl) ?hy13_23 (by assumption) ?rest13_23
  case hy13_23 => (intro W hSw; go_simp; try with_reducible rfl)
  try simp only [Act.put]
  try simp only [List.setIfInBounds_toArray]
  try simp only [List.set_cons_succ]
  try simp only [List.set_cons_zero]
  refine takeR (i := 14) (v := ?v14_24) rfl (by kernel_rfl) (by kernel_rfl) (by kernel_rfl) (fun _ _ _ h => h) (by rfl) ?hy14_24 (by assumption) ?rest14_24
  case hy14_24 => (intro W hSw; go_simp; try with_reducible rfl)
  try simp only [Act.put]
  try simp only [List.setIfInBounds_toArray]
  try simp only [List.set_cons_succ]
  try simp only [List.set_cons_zero]
  refine wpAnyH_done (by kernel_rfl) ?_ _
  clear hHeld
  have HOL : Hid ((rdZ (layW Z []) at_ r64).length = r64) := rdZ_len HD.out.wide _ _ HRIN.out
  rw [HOL.out] at O3 ⊢
  have HIB : Hid (∀ i, sumL (l.take i) ≤ sumL l) := fun i => sumL_le l i
  clear eq1 eq2 eq3 eq4 w1 w1b w1c w1d w1e
  go_upto_region 6 with fail
  go_loopw [9, 12, 13, 14, 45] (fun v9 v12 v13 v14 v45 wr => ∃ (i K : Nat) (A' : Option Addr) (c' : Nat), i ≤ m ∧ v45 = .int .i64 (i : Int) ∧ v9 = .slice A' K c' ∧ Hid (K = r64 + sumL (l.take i)) ∧ Hid (Ob wr W0.heap.size 5 (.slice A' K c') (rdZ (layW Z []) at_ r64 ++ framesR t (l.take i))) ∧ Hid (Below w.heap.size w wr ∧ W0.heap.size ≤ wr.heap.size) ∧ Hid (wr.heap[w.heap.size]? = some (.cells #[.int .u64 (t : Int), .int .i64 ((c0 + sumL (l.take i) : Nat) : Int)] 61 (0, 0)) ∧ wr.heap[w.heap.size + 1]? = some (.cells #[.int .u64 0, .int .i64 0] 61 (0, 0)))) (fun _ _ _ _ v45 _ => m - (intOf v45).toNat)
  case atStart => exact ⟨0, r64, _, _, Nat.zero_le _, rfl, rfl, by show _ = _; simp [sumL], by rw [List.take_zero, framesR, List.append_nil]; exact O3.out, ⟨HB0.out.trans (B3.out.mono HB0.out.size), B3.out.size⟩, (HH0.out _ B3.out).1, (HH0.out _ B3.out).2⟩
  case round =>
    obtain ⟨i, K, A', c', hi, rfl, rfl, HK, HO, HW, HH⟩ := hrel
    by_cases hlt : i < m
    · obtain ⟨b, o, rfl, hb, hx⟩ := HR.out.2 (by omega)
      have hil : i < l.length := by rw [HLM.out]; exact hlt
      obtain ⟨Ad, nd, cd, g0, g1, -, g3, g4⟩ := hx.get hil
      obtain ⟨r, hr⟩ : ∃ r, r = l[i]'hil := ⟨_, rfl⟩
      rw [← hr] at g0 g4
      have HRK : Hid (l[i]? = some r) := by show _ = _; rw [hr]; exact List.getElem?_eq_getElem hil
      have hrok : rokR r = true := HOK.out r (List.mem_of_getElem? HRK.out)
      have HRO := Lib.hid hrok
      have x0 := (HW.out.1.cell (p := ⟨b, o + i * 2, none⟩) hb).trans g0
      have x1 := (HW.out.1.cell (p := ⟨b, o + i * 2 + 1, none⟩) hb).trans g1
      have HI2 : (i : Int) < (m : Int) := by omega
      have HD8 : Hid (r.dat.length = nd) := g4.1
      have ES : Hid (sumL (l.take (i + 1)) = sumL (l.take i) + (nd + 7)) := by show _ = _; rw [sumL_take HRK.out, HD8.out]
      have CFR := Lib.hid (fun W (hW : Below w.heap.size w W) => cframe_any X t r.typ Ad nd cd w.heap.size r.dat W (HA.out W (hW.mono HBW.out)) HTN.out (g4.below hW) hW.size)
      unfold recV FrmR at CFR
      rw [show (⟨r.typ, r.dat⟩ : Rcd) = r from rfl, hrok, if_pos rfl, if_pos rfl] at CFR
      obtain ⟨wb, hwb⟩ : ∃ wb, wb = wr.alloc (.cells #[.int .i64 r.typ, .slice Ad nd cd] 35) := ⟨_, rfl⟩
      have BB : Hid (Below wr.heap.size wr wb) := by show Below _ _ _; rw [hwb]; exact (Below.refl _ _).alloc (Nat.le_refl _) _
      have BX : Hid (Below w.heap.size w wb) := HW.out.1.trans (BB.out.mono HW.out.1.size)
      obtain ⟨⟨b0, b1⟩, -, -⟩ := row2 (show wb.heap[wr.heap.size]? = some (.cells #[.int .i64 r.typ, .slice Ad nd cd] 35 (0, 0)) by rw [hwb]; exact heap_alloc_new wr _)
      have w7 : IntKind.i64.wrap ((i : Int) + 1) = (i : Int) + 1 := by rw [IntKind.wrap_i64]; have := HMB.out; omega
      obtain ⟨s0, hs0⟩ : ∃ s0, s0 = c0 + sumL (l.take i) := ⟨_, rfl⟩
      rw [← hs0] at HH
      have HS0' := Lib.hid hs0
      have hs1 : s0 + (nd + 7) ≤ 8388608 := by have := HIB.out (i + 1); rw [ES.out] at this; have := HSB.out; have := HC0.out; omega
      have w8 : wrap64 ((s0 : Int) + ((nd : Int) + 7)) = ((s0 + (nd + 7) : Nat) : Int) := w64_mid (s0 + (nd + 7)) hs1
      have KH : Hid (∀ W, Below W0.heap.size wr W → (W.heap[w.heap.size]? = some (.cells #[.int .u64 (t : Int), .int .i64 (s0 : Int)] 61 (0, 0)) ∧ W.heap[w.heap.size + 1]? = some (.cells #[.int .u64 0, .int .i64 0] 61 (0, 0)))) := fun W hW => ⟨(hW.block _ (Nat.lt_of_lt_of_le (Nat.lt_succ_of_lt (Nat.lt_succ_self _)) HS0.out)).trans HH.out.1, (hW.block _ (Nat.lt_of_lt_of_le (Nat.lt_succ_self _) HS0.out)).trans HH.out.2⟩
      obtain ⟨⟨y0, y1⟩, z0, z1⟩ := row2 (KH.out wb (BB.out.mono HW.out.2)).1
      have HIL : Hid (i < m) := hlt
      have HKK : Hid ((rdZ (layW Z []) at_ r64 ++ framesR t (l.take i)).length = K) := HO.out.rd_.1
      have HBD : Hid ((rdZ (layW Z []) at_ r64 ++ framesR t (l.take i)).length + (nd + 7) ≤ 140737488355328) := by show _ ≤ _; rw [HKK.out]; exact hbd_aux HK.out (HIB.out i) HSB.out HRB.out (Nat.le_trans (Nat.le_add_left _ _) hs1)
      have HHS : Hid (w.heap.size < wr.heap.size) := (Array.getElem?_eq_some_iff.1 HH.out.1).1
      clear hb hx g0 g1 g3 g4 hr hil hrok hs0 hs1
      go_upto_region 8 with fail
      rw [← hwb]
      clear hwb x0 x1
      go_wp2_with (first
        | (go_at_call 60; refine (CFR.out _ BX.out).mono ?_; rintro e w4 ⟨hb4, v4, z4, rfl, rfl, ho4⟩; have O4 := Lib.hid ho4; have D4 : Hid (Below wr.heap.size wr w4) := (BB.out.trans (hb4.mono BB.out.size)); obtain ⟨A5, c5, rfl, -, -, hr5⟩ := ho4.rd; rw [frameR_len, HD8.out] at hr5 ⊢; have R5 := Lib.hid hr5; clear ho4 hb4 hr5 b0 b1 y0 y1 z0 z1; obtain ⟨⟨y0, y1⟩, z0, z1⟩ := row2 (KH.out w4 (D4.out.mono HW.out.2)).1)
        | (at_builtin; refine wpList_appB rfl (.tmp 60) (.tmp 61) 33 rfl W0.heap.size 5 Tryd.underlying33 info_u8 _ (rdZ (layW Z []) at_ r64 ++ framesR t (l.take i)) rfl (HO.out.below D4.out) _ A5 (nd + 7) c5 (frameR t r) rfl (R5.out) (HBD.out) (Nat.le_trans HW.out.2 D4.out.size) ?_; intro v6 w6 ho6 hb6; have O6 := Lib.hid ho6; have D6 : Hid (Below W0.heap.size wr w6) := (D4.out.mono HW.out.2).trans hb6; clear ho6 hb6 y0 y1 z0 z1; obtain ⟨⟨y0, y1⟩, z0, z1⟩ := row2 (KH.out w6 D6.out).1)
        | fail)
      obtain ⟨wf, hwf⟩ : ∃ wf, wf = w6.setCell ⟨w.heap.size, 1, none⟩ (.int .i64 ((s0 : Int) + ((nd : Int) + 7))) := ⟨_, rfl⟩
      rw [← hwf]
      have hk6 := KH.out w6 D6.out
      have sf : wf.heap.size = w6.heap.size := by rw [hwf, World.size_setCell]
      have hne : ∀ k, k ≠ w.heap.size → wf.heap[k]? = w6.heap[k]? := fun k hk => by rw [hwf]; exact Below.heap_setCell _ _ _ _ hk
      have HF1 : Hid (wf.heap[w.heap.size]? = some (.cells #[.int .u64 (t : Int), .int .i64 ((s0 + (nd + 7) : Nat) : Int)] 61 (0, 0))) := by show _ = _; rw [hwf, show ((s0 + (nd + 7) : Nat) : Int) = (s0 : Int) + ((nd : Int) + 7) from rfl]; exact row_setC hk6.1 1 _
      have HF2 : Hid (wf.heap[w.heap.size + 1]? = some (.cells #[.int .u64 0, .int .i64 0] 61 (0, 0))) := (hne _ (Nat.succ_ne_self _)).trans hk6.2
      have OF : Hid (Ob wf W0.heap.size 5 v6 (rdZ (layW Z []) at_ r64 ++ framesR t (l.take i) ++ frameR t r)) := O6.out.same fun b hb => hne b (fun e => by
        subst e
        exact O6.out.not_at14 hk6.1 (by decide) hb)
      have BF : Hid (Below w.heap.size w wf ∧ W0.heap.size ≤ wf.heap.size) := ⟨by rw [hwf]; exact (HW.out.1.trans (D6.out.mono (Nat.le_trans (Nat.le_add_right _ 2) HS0.out))).setCell (Nat.le_refl _) _, by rw [sf]; exact Nat.le_trans HW.out.2 D6.out.size⟩
      obtain ⟨A7, c7, rfl, -, -, hr7⟩ := OF.out.rd
      have hl7 : (rdZ (layW Z []) at_ r64 ++ framesR t (l.take i) ++ frameR t r).length = r64 + sumL (l.take (i + 1)) := by
        rw [List.length_append, frameR_len, HD8.out, HKK.out, HK.out, ES.out]
        omega
      rw [hl7] at OF ⊢
      rw [List.append_assoc, ← framesR_at15 t HRK.out] at OF
      have E8 : Hid (c0 + sumL (l.take (i + 1)) = s0 + (nd + 7)) := by show _ = _; rw [ES.out, HS0'.out]; omega
      clear hwf hk6 sf hne hr7 hl7
      go_roundw
      case rel => exact ⟨i + 1, _, A7, c7, HIL.out, by simp, rfl, rfl, OF.out, BF.out, by rw [E8.out]; exact HF1.out, HF2.out⟩
      case measure => simp [intOf]; have := HIL.out; omega
    · have him : i = m := by omega
      have HTK : Hid (l.take i = l) := List.take_of_length_le (by rw [HLM.out]; omega)
      rw [HTK.out] at HK HO HH
      have hlt2 : ¬ (i : Int) < (m : Int) := by omega
      have HLB : Hid (rdZ (layW Z []) at_ r64 ++ framesR t l = layB Z S.a S.n t c0 l) := by
        show _ = _
        unfold layB atW
        rw [HAT.out, HST.out, HR64.out]
        rfl
      have HAW : Hid (at_ = atW S.a S.n t c0) := by
        show _ = _
        unfold atW
        rw [HAT.out, HST.out]
      rw [HLB.out] at HO
      obtain ⟨C9, hC9⟩ : ∃ C9, C9 = c0 + sumL l := ⟨_, rfl⟩
      rw [← hC9] at HH
      have hC9b : C9 ≤ 140737488355328 := by rw [hC9]; have := HFI.out; have := HSB.out; have := HC0.out; omega
      have HC9 := Lib.hid hC9
      have HC9B := Lib.hid hC9b
      have DR := Lib.hid (HD.out.below HW.out.1)
      have hnf : ∀ ad, A' = some ad → ¬ Fd ad.block := fun ad e hf => by
        subst e
        rcases HO.out.2 with ⟨hv, -⟩ | ⟨gb, cap, cur, hv, hbg, -⟩
        · cases hv
        · injection hv with h1 _ _
          obtain rfl := Option.some.inj h1
          have h3 : gb < w.heap.size := (HD.out.fit _ hf).2
          have h4 : w.heap.size ≤ W0.heap.size := HB0.out.size
          exact absurd hbg (Nat.not_le.2 (Nat.lt_of_lt_of_le h3 h4))
      have CFL := Lib.hid (wflush_any wr at_ K c' A' (layB Z S.a S.n t c0 l) DR.out HO.out.rd_.2.1 HO.out.rd_.2.2.1 hnf (by rw [HK.out]; exact HSIN.out))
      rw [HAW.out] at CFL
      have HFW : Hid (Fr Fd w wr) := Fr.of_below HW.out.1
      have HWR := Lib.hid (HWL.out.below HW.out.1)
      have HN1 : Hid (¬ Fd w.heap.size ∧ ¬ Fd (w.heap.size + 1)) := ⟨HD.out.at_wide (Nat.le_refl _), HD.out.at_wide (Nat.le_succ _)⟩
      have hwl := KW.out wr HWR.out
      obtain ⟨x0, x1, x2⟩ := hwl
      have HAE := HAW.out
      clear him hnf hC9 hC9b HTK HLB
      subst HAE
      unfold CWriteR at CFL
      go_wp2_with fail
      refine CFL.out.mono ?_
      rintro e w8 ⟨r8, hfl, F8, hd8, rfl, hf8, hg8⟩
      have D8 := Lib.hid hd8
      have HF8 : Hid (Fr Fd w w8) := HFW.out.trans hf8 (Grew.refl _ _)
      have HG8 : Hid (Grew w Fd F8) := (Grew.refl w Fd).trans hg8 HW.out.1.size
      have HH8 : Hid (w8.heap[w.heap.size]? = some (.cells #[.int .u64 (t : Int), .int .i64 (C9 : Int)] 61 (0, 0)) ∧ w8.heap[w.heap.size + 1]? = some (.cells #[.int .u64 0, .int .i64 0] 61 (0, 0))) := ⟨(hf8.block _ (Array.getElem?_eq_some_iff.1 HH.out.1).1 HN1.out.1).trans HH.out.1, (hf8.block _ (Array.getElem?_eq_some_iff.1 HH.out.2).1 HN1.out.2).trans HH.out.2⟩
      have HN8 : Hid (¬ F8 w.heap.size ∧ ¬ F8 (w.heap.size + 1)) := ⟨fun hf => by
        rcases hg8 _ hf with h | h
        · exact HN1.out.1 h
        · have := (Array.getElem?_eq_some_iff.1 HH.out.1).1; omega, fun hf => by
        rcases hg8 _ hf with h | h
        · exact HN1.out.2 h
        · have := (Array.getElem?_eq_some_iff.1 HH.out.2).1; omega⟩
      have HW8 := Lib.hid (HWR.out.fr hf8 (fun k h1 h2 => HDI.out k h2 h1))
      have HFL := Lib.hid hfl
      clear hd8 hf8 hg8 hfl x0 x1 x2
      rcases HFL.out with ⟨l8, hl8, rfl⟩ | ⟨hl8, j8, l8, rfl⟩
      all_goals have HL8 := Lib.hid hl8
      all_goals clear hl8
      case inr =>
        obtain ⟨⟨y0, y1⟩, z0, z1⟩ := row2 HH8.out.2
        go_wp2_with fail
        have hs := row_setC (row_setC HH8.out.2 0 (.int .u64 0)) 1 (.int .i64 0)
        obtain ⟨⟨s0, s1⟩, -, -⟩ := row2 hs
        exact bodyPost_ret (res_h2 Tryd.results53 _ _ (t := 0) (len := 0) rfl s0 s1) rfl ⟨_, F8, .inl ⟨HL8.out, j8, l8, rfl⟩, (D8.out.set HN8.out.2 _).set HN8.out.2 _, (HF8.out.setCell (.inr (Nat.le_succ _)) _).setCell (.inr (Nat.le_succ _)) _, HG8.out, 0, 0, rfl, fun h => absurd (show (131 : Int) = 0 from h) (by decide)⟩
      have KS : Hid (∀ W, Below w8.heap.size w8 W → (W.cell? ⟨w.heap.size, 0, none⟩ = some (.int .u64 (t : Int)) ∧ W.cell? ⟨w.heap.size, 1, none⟩ = some (.int .i64 (C9 : Int))) ∧ W.cell? ⟨g, 0, none⟩ = some (.pointer (some ⟨gd, 0, none⟩)) ∧ W.cell? ⟨g, 1, none⟩ = some (.int .i64 (S.a : Int)) ∧ W.cell? ⟨g, 2, none⟩ = some (.int .i64 (S.n : Int))) := fun W hW => ⟨(row2 ((hW.block _ (Array.getElem?_eq_some_iff.1 HH8.out.1).1).trans HH8.out.1)).1, KW.out W (HW8.out.below hW)⟩
      have HBW8 : Hid (Below B w w8) := HF8.out.below HBW.out (fun k hk => (HD.out.fit k hk).1)
      have CF8 := Lib.hid (fun W (hW : Below w8.heap.size w8 W) => CF.out W C9 HC9B.out (HA.out W (HBW8.out.trans (hW.mono (Nat.le_trans HBW.out HF8.out.size)))))
      go_upto_region 17 with fail
      refine wp_region_held_drew (S := fun W => Below w8.heap.size w8 W) (by kernel_rfl) (Below.refl _ _).drew (fun hHeld => ?_)
      refine takeR (i := 0) (v := ?v0_25) rfl (by kernel_rfl) (by kernel_rfl) (by kernel_rfl) (fun _ _ _ h => h) (by rfl) ?hy0_25 (by assumption) ?rest0_25
      case hy0_25 => (intro W hSw; obtain ⟨⟨q0, q1⟩, q2, q3, q4⟩ := KS.out W hSw; go_simp; try with_reducible rfl)
      try simp only [Act.put]
      try simp only [List.setIfInBounds_toArray]
      try simp only [List.set_cons_succ]
      try simp only [List.set_cons_zero]
      refine takeR (i := 1) (v := ?v1_26) rfl (by kernel_rfl) (by kernel_rfl) (by kernel_rfl) (fun _ _ _ h => h) (by rfl) ?hy1_26 (by assumption) ?rest1_26
      case hy1_26 => (intro W hSw; obtain ⟨⟨q0, q1⟩, q2, q3, q4⟩ := KS.out W hSw; go_simp; try with_reducible rfl)
      try simp only [Act.put]
      try simp only [List.setIfInBounds_toArray]
      try simp only [List.set_cons_succ]
      try simp only [List.set_cons_zero]
      refine takeR (i := 2) (v := ?v2_27) rfl (by kernel_rfl) (by kernel_rfl) (by kernel_rfl) (fun _ _ _ h => h) (by rfl) ?hy2_27 (by assumption) ?rest2_27
      case hy2_27 => (intro W hSw; obtain ⟨⟨q0, q1⟩, q2, q3, q4⟩ := KS.out W hSw; go_simp; try with_reducible rfl)
      try simp only [Act.put]
      try simp only [List.setIfInBounds_toArray]
      try simp only [List.set_cons_succ]
      try simp only [List.set_cons_zero]
      refine takeR (i := 3) (v := ?v3_28) rfl (by kernel_rfl) (by kernel_rfl) (by kernel_rfl) (fun _ _ _ h => h) (by rfl) ?hy3_28 (by assumption) ?rest3_28
      case hy3_28 => (intro W hSw; obtain ⟨⟨q0, q1⟩, q2, q3, q4⟩ := KS.out W hSw; go_simp; try with_reducible rfl)
      try simp only [Act.put]
      try simp only [List.setIfInBounds_toArray]
      try simp only [List.set_cons_succ]
      try simp only [List.set_cons_zero]
      refine takeR (i := 4) (v := ?v4_29) rfl (by kernel_rfl) (by kernel_rfl) (by kernel_rfl) (fun _ _ _ h => h) (by rfl) ?hy4_29 (by assumption) ?rest4_29
      case hy4_29 => (intro W hSw; obtain ⟨⟨q0, q1⟩, q2, q3, q4⟩ := KS.out W hSw; go_simp; try with_reducible rfl)
      try simp only [Act.put]
      try simp only [List.setIfInBounds_toArray]
      try simp only [List.set_cons_succ]
      try simp only [List.set_cons_zero]
      have B8d : Hid (Below w8.heap.size w8 w8.drew) := (Below.refl _ _).drew
      clear hHeld
      refine wpAnyH_ready (rs := [5]) (by kernel_rfl) (by simp) ?_
      refine AllReadyH.cons rfl (fun K hK => ?_) AllReadyH.nil
      rw [if_pos (by rfl)]
      go_simp
      refine (CF8.out _ B8d.out).mono ?_
      rintro e w9 ⟨v9, rfl, ho, hb⟩
      obtain ⟨A9, c9, rfl, hc9, -, hr9⟩ := ho.rd
      rw [hdF_len] at hc9 hr9 ⊢
      have R9 := Lib.hid (And.intro hr9 hc9)
      have O9 := Lib.hid ho
      have B9 := Lib.hid (B8d.out.trans (hb.mono B8d.out.size))
      clear ho hb hr9 hc9
      go_simp
      refine hK.out _ _ (B9.out) (fun hHeld => ?_)
      try simp only [Act.put]
      try simp only [List.setIfInBounds_toArray]
      try simp only [List.set_cons_succ]
      try simp only [List.set_cons_zero]
      clear hK K
      refine takeR (i := 6) (v := ?v6_30) rfl (by kernel_rfl) (by kernel_rfl) (by kernel_rfl) (fun _ _ _ h => h) (by rfl) ?hy6_30 (by assumption) ?rest6_30
      case hy6_30 => (intro W hSw; go_simp; try with_reducible rfl)
      try simp only [Act.put]
      try simp only [List.setIfInBounds_toArray]
      try simp only [List.set_cons_succ]
      try simp only [List.set_cons_zero]
      refine takeR (i := 7) (v := ?v7_31) rfl (by kernel_rfl) (by kernel_rfl) (by kernel_rfl) (fun _ _ _ h => h) (by rfl) ?hy7_31 (by assumption) ?rest7_31
      case hy7_31 => (intro W hSw; go_simp; try with_reducible rfl)
      try simp only [Act.put]
      try simp only [List.setIfInBounds_toArray]
      try simp only [List.set_cons_succ]
      try simp only [List.set_cons_zero]
      refine takeR (i := 8) (v := ?v8_32) rfl (by kernel_rfl) (by kernel_rfl) (by kernel_rfl) (fun _ _ _ h => h) (by rfl) ?hy8_32 (by assumption) ?rest8_32
      case hy8_32 => (intro W hSw; go_simp; try with_reducible rfl)
      try simp only [Act.put]
      try simp only [List.setIfInBounds_toArray]
      try simp only [List.set_cons_succ]
      try simp only [List.set_cons_zero]
      refine takeR (i := 9) (v := ?v9_33) rfl (by kernel_rfl) (by kernel_rfl) (by kernel_rfl) (fun _ _ _ h => h) (by rfl) ?hy9_33 (by assumption) ?rest9_33
      case hy9_33 => (intro W hSw; go_simp; try with_reducible rfl)
      try simp only [Act.put]
      try simp only [List.setIfInBounds_toArray]
      try simp only [List.set_cons_succ]
      try simp only [List.set_cons_zero]
      refine takeR (i := 10) (v := ?v10_34) rfl (by kernel_rfl) (by kernel_rfl) (by kernel_rfl) (fun _ _ _ h => h) (by rfl) ?hy10_34 (by assumption) ?rest10_34
      case hy10_34 => (intro W hSw; go_simp; try with_reducible rfl)
      try simp only [Act.put]
      try simp only [List.setIfInBounds_toArray]
      try simp only [List.set_cons_succ]
      try simp only [List.set_cons_zero]
      refine wpAnyH_done (by kernel_rfl) ?_ _
      clear hHeld
      have hnf : ∀ ad, A9 = some ad → ¬ F8 ad.block := fun ad e hf => by
        subst e
        rcases O9.out.2 with ⟨hv, -⟩ | ⟨gb, cap, cur, hv, hbg, -⟩
        · cases hv
        · injection hv with h1 _ _
          obtain rfl := Option.some.inj h1
          have h3 : gb < w8.heap.size := (D8.out.fit _ hf).2
          have h4 : w8.heap.size ≤ w8.drew.heap.size := Nat.le_refl _
          exact absurd hbg (Nat.not_le.2 (Nat.lt_of_lt_of_le h3 h4))
      have HZL : Hid ((layW Z (chunks (atW S.a S.n t c0) (layB Z S.a S.n t c0 l))).length = Z.length) := layW_len _ _
      have B9d : Hid (Below w8.heap.size w8 w9.drew) := B9.out.trans (Below.refl w8.heap.size w9).drew
      have CFL2 := Lib.hid (wflush_any w9.drew S.a 23 c9 A9 (hdF S.a S.n t C9) (D8.out.below B9d.out) R9.out.1 R9.out.2 hnf (by rw [HZL.out]; exact HAIN.out))
      have HH9 : Hid (∀ W, Below w8.heap.size w8 W → W.heap[w.heap.size]? = some (.cells #[.int .u64 (t : Int), .int .i64 (C9 : Int)] 61 (0, 0)) ∧ W.heap[w.heap.size + 1]? = some (.cells #[.int .u64 0, .int .i64 0] 61 (0, 0))) := fun W hW => ⟨(hW.block _ (Array.getElem?_eq_some_iff.1 HH8.out.1).1).trans HH8.out.1, (hW.block _ (Array.getElem?_eq_some_iff.1 HH8.out.2).1).trans HH8.out.2⟩
      clear hnf
      unfold CWriteR at CFL2
      go_upto_region 20 with fail
      refine wp_region_held_drew (S := fun W => W.heap[w.heap.size]? = some (.cells #[.int .u64 (t : Int), .int .i64 (C9 : Int)] 61 (0, 0)) ∧ W.cell? ⟨g, 0, none⟩ = some (.pointer (some ⟨gd, 0, none⟩)) ∧ W.cell? ⟨g, 1, none⟩ = some (.int .i64 (S.a : Int))) (by kernel_rfl) ⟨(HH9.out _ B9d.out).1, (KS.out _ B9d.out).2.1, (KS.out _ B9d.out).2.2.1⟩ (fun hHeld => ?_)
      refine takeR (i := 0) (v := ?v0_35) rfl (by kernel_rfl) (by kernel_rfl) (by kernel_rfl) (fun _ _ _ h => h) (by rfl) ?hy0_35 (by assumption) ?rest0_35
      case hy0_35 => (intro W hSw; obtain ⟨hbx, q2, q3⟩ := hSw; obtain ⟨⟨q0, q1⟩, -, -⟩ := row2 hbx; go_simp; try with_reducible rfl)
      try simp only [Act.put]
      try simp only [List.setIfInBounds_toArray]
      try simp only [List.set_cons_succ]
      try simp only [List.set_cons_zero]
      refine takeR (i := 1) (v := ?v1_36) rfl (by kernel_rfl) (by kernel_rfl) (by kernel_rfl) (fun _ _ _ h => h) (by rfl) ?hy1_36 (by assumption) ?rest1_36
      case hy1_36 => (intro W hSw; obtain ⟨hbx, q2, q3⟩ := hSw; obtain ⟨⟨q0, q1⟩, -, -⟩ := row2 hbx; go_simp; try with_reducible rfl)
      try simp only [Act.put]
      try simp only [List.setIfInBounds_toArray]
      try simp only [List.set_cons_succ]
      try simp only [List.set_cons_zero]
      refine takeR (i := 2) (v := ?v2_37) rfl (by kernel_rfl) (by kernel_rfl) (by kernel_rfl) (fun _ _ _ h => h) (by rfl) ?hy2_37 (by assumption) ?rest2_37
      case hy2_37 => (intro W hSw; obtain ⟨hbx, q2, q3⟩ := hSw; obtain ⟨⟨q0, q1⟩, -, -⟩ := row2 hbx; go_simp; try with_reducible rfl)
      try simp only [Act.put]
      try simp only [List.setIfInBounds_toArray]
      try simp only [List.set_cons_succ]
      try simp only [List.set_cons_zero]
      refine takeR (i := 3) (v := ?v3_38) rfl (by kernel_rfl) (by kernel_rfl) (by kernel_rfl) (fun _ _ _ h => h) (by rfl) ?hy3_38 (by assumption) ?rest3_38
      case hy3_38 => (intro W hSw; obtain ⟨hbx, q2, q3⟩ := hSw; obtain ⟨⟨q0, q1⟩, -, -⟩ := row2 hbx; go_simp; try with_reducible rfl)
      try simp only [Act.put]
      try simp only [List.setIfInBounds_toArray]
      try simp only [List.set_cons_succ]
      try simp only [List.set_cons_zero]
      refine takeR (i := 4) (v := ?v4_39) rfl (by kernel_rfl) (by kernel_rfl) (by kernel_rfl) (fun _ _ _ h => h) (by rfl) ?hy4_39 (by assumption) ?rest4_39
      case hy4_39 => (intro W hSw; obtain ⟨hbx, q2, q3⟩ := hSw; obtain ⟨⟨q0, q1⟩, -, -⟩ := row2 hbx; go_simp; try with_reducible rfl)
      try simp only [Act.put]
      try simp only [List.setIfInBounds_toArray]
      try simp only [List.set_cons_succ]
      try simp only [List.set_cons_zero]
      refine takeR (i := 5) (v := ?v5_40) rfl (by kernel_rfl) (by kernel_rfl) (by kernel_rfl) (fun _ _ _ h => h) (by rfl) ?hy5_40 (by assumption) ?rest5_40
      case hy5_40 => (intro W hSw; obtain ⟨hbx, q2, q3⟩ := hSw; obtain ⟨⟨q0, q1⟩, -, -⟩ := row2 hbx; go_simp; try with_reducible rfl)
      try simp only [Act.put]
      try simp only [List.setIfInBounds_toArray]
      try simp only [List.set_cons_succ]
      try simp only [List.set_cons_zero]
      refine takeR (i := 6) (v := ?v6_41) rfl (by kernel_rfl) (by kernel_rfl) (by kernel_rfl) (fun _ _ _ h => h) (by rfl) ?hy6_41 (by assumption) ?rest6_41
      case hy6_41 => (intro W hSw; obtain ⟨hbx, q2, q3⟩ := hSw; obtain ⟨⟨q0, q1⟩, -, -⟩ := row2 hbx; go_simp; try with_reducible rfl)
      try simp only [Act.put]
      try simp only [List.setIfInBounds_toArray]
      try simp only [List.set_cons_succ]
      try simp only [List.set_cons_zero]
      refine takeR (i := 7) (v := ?v7_42) rfl (by kernel_rfl) (by kernel_rfl) (by kernel_rfl) (fun _ _ _ h => h) (by rfl) ?hy7_42 (by assumption) ?rest7_42
      case hy7_42 => (intro W hSw; obtain ⟨hbx, q2, q3⟩ := hSw; obtain ⟨⟨q0, q1⟩, -, -⟩ := row2 hbx; go_simp; try with_reducible rfl)
      try simp only [Act.put]
      try simp only [List.setIfInBounds_toArray]
      try simp only [List.set_cons_succ]
      try simp only [List.set_cons_zero]
      refine takeR (i := 8) (v := ?v8_43) rfl (by kernel_rfl) (by kernel_rfl) (by kernel_rfl) (fun _ _ _ h => h) (by rfl) ?hy8_43 (by assumption) ?rest8_43
      case hy8_43 => (intro W hSw; obtain ⟨hbx, q2, q3⟩ := hSw; obtain ⟨⟨q0, q1⟩, -, -⟩ := row2 hbx; go_simp; try with_reducible rfl)
      try simp only [Act.put]
      try simp only [List.setIfInBounds_toArray]
      try simp only [List.set_cons_succ]
      try simp only [List.set_cons_zero]
      refine takeR (i := 9) (v := ?v9_44) rfl (by kernel_rfl) (by kernel_rfl) (by kernel_rfl) (fun _ _ _ h => h) (by rfl) ?hy9_44 (by assumption) ?rest9_44
      case hy9_44 => (intro W hSw; obtain ⟨hbx, q2, q3⟩ := hSw; obtain ⟨⟨q0, q1⟩, -, -⟩ := row2 hbx; go_simp; try with_reducible rfl)
      try simp only [Act.put]
      try simp only [List.setIfInBounds_toArray]
      try simp only [List.set_cons_succ]
      try simp only [List.set_cons_zero]
      refine takeR (i := 10) (v := ?v10_45) rfl (by kernel_rfl) (by kernel_rfl) (by kernel_rfl) (fun _ _ _ h => h) (by rfl) ?hy10_45 (by assumption) ?rest10_45
      case hy10_45 => (intro W hSw; obtain ⟨hbx, q2, q3⟩ := hSw; obtain ⟨⟨q0, q1⟩, -, -⟩ := row2 hbx; go_simp; try with_reducible rfl)
      try simp only [Act.put]
      try simp only [List.setIfInBounds_toArray]
      try simp only [List.set_cons_succ]
      try simp only [List.set_cons_zero]
      clear hHeld
      refine wpAnyH_ready (rs := [11]) (by kernel_rfl) (by simp) ?_
      refine AllReadyH.cons rfl (fun K hK => ?_) AllReadyH.nil
      rw [if_pos (by rfl)]
      go_simp
      refine CFL2.out.mono ?_
      rintro e w10 ⟨r10, hfl, F10, hd10, rfl, hf10, hg10⟩
      have HH10 : Hid (w10.heap[w.heap.size]? = some (.cells #[.int .u64 (t : Int), .int .i64 (C9 : Int)] 61 (0, 0)) ∧ w10.heap[w.heap.size + 1]? = some (.cells #[.int .u64 0, .int .i64 0] 61 (0, 0))) := ⟨(hf10.block _ (Array.getElem?_eq_some_iff.1 (HH9.out _ B9d.out).1).1 HN8.out.1).trans (HH9.out _ B9d.out).1, (hf10.block _ (Array.getElem?_eq_some_iff.1 (HH9.out _ B9d.out).2).1 HN8.out.2).trans (HH9.out _ B9d.out).2⟩
      have HW10 := Lib.hid ((HW8.out.below B9d.out).fr hf10 (fun k h1 h2 => by
        rcases HG8.out k h2 with h3 | h3
        · exact HDI.out k h3 h1
        · have := (HWL.out.fit k h1).2; omega))
      have HF10 : Hid (Fr Fd w w10) := (HF8.out.trans (Fr.of_below B9d.out) HG8.out).trans hf10 HG8.out
      have HG10 : Hid (Grew w Fd F10) := HG8.out.trans hg10 (Nat.le_trans HF8.out.size B9d.out.size)
      have D10 := Lib.hid hd10
      have HFL10 := Lib.hid hfl
      have hn10 : ¬ F10 (w.heap.size + 1) := fun hf => by
        rcases hg10 _ hf with h | h
        · exact HN8.out.2 h
        · have := (Array.getElem?_eq_some_iff.1 (HH9.out _ B9d.out).2).1; omega
      have HN10 := Lib.hid hn10
      obtain ⟨k0, k1, -⟩ := KW.out w10 HW10.out
      have K10 := Lib.hid (And.intro k0 k1)
      have hgne : g ≠ w.heap.size + 1 := by have := HWL.out.fit g HWL.out.fg; omega
      have HGN := Lib.hid hgne
      clear hd10 hf10 hg10 hfl hn10 k0 k1 hgne
      go_simp
      refine hK.out _ _ ⟨HH10.out.1, K10.out.1, K10.out.2⟩ (fun hHeld => ?_)
      try simp only [Act.put]
      try simp only [List.setIfInBounds_toArray]
      try simp only [List.set_cons_succ]
      try simp only [List.set_cons_zero]
      clear hK K hHeld
      obtain ⟨⟨y0, y1⟩, z0, z1⟩ := row2 HH10.out.2
      refine wpAnyH_ready (rs := [12]) (by kernel_rfl) (by simp) ?_
      refine AllReadyH.cons rfl (fun K hK => ?_) AllReadyH.nil
      rw [if_pos (by rfl)]
      go_simp
      obtain ⟨wz, hwz⟩ : ∃ wz, wz = (w10.setCell ⟨w.heap.size + 1, 0, none⟩ (.int .u64 (t : Int))).setCell ⟨w.heap.size + 1, 1, none⟩ (.int .i64 (C9 : Int)) := ⟨_, rfl⟩
      rw [← hwz]
      have hne : ∀ k, k ≠ w.heap.size + 1 → wz.heap[k]? = w10.heap[k]? := fun k hk => by rw [hwz]; exact (Below.heap_setCell _ _ _ _ hk).trans (Below.heap_setCell _ _ _ _ hk)
      have DZ : Hid (CDk wz F10 B gd r10.1) := by show CDk _ _ _ _ _; rw [hwz]; exact (D10.out.set HN10.out _).set HN10.out _
      have FZ : Hid (Fr Fd w wz) := by show Fr _ _ _; rw [hwz]; exact (HF10.out.setCell (.inr (Nat.le_succ _)) _).setCell (.inr (Nat.le_succ _)) _
      have hrz : wz.heap[w.heap.size + 1]? = some (.cells #[.int .u64 (t : Int), .int .i64 (C9 : Int)] 61 (0, 0)) := by rw [hwz]; exact row_setC (row_setC HH10.out.2 0 _) 1 _
      have HRZ := Lib.hid hrz
      refine hK.out _ _ ⟨(hne _ (by omega)).trans HH10.out.1, (World.cell?_of_block (a := ⟨g, 0, none⟩) (hne g HGN.out)).trans K10.out.1, (World.cell?_of_block (a := ⟨g, 1, none⟩) (hne g HGN.out)).trans K10.out.2⟩ (fun hHeld => ?_)
      try simp only [Act.put]
      try simp only [List.setIfInBounds_toArray]
      try simp only [List.set_cons_succ]
      try simp only [List.set_cons_zero]
      clear hK K hwz hne hrz y0 y1 z0 z1
      refine takeR (i := 13) (v := ?v13_46) rfl (by kernel_rfl) (by kernel_rfl) (by kernel_rfl) (fun _ _ _ h => h) (by rfl) ?hy13_46 (by assumption) ?rest13_46
      case hy13_46 => (intro W hSw; go_simp; try with_reducible rfl)
      try simp only [Act.put]
      try simp only [List.setIfInBounds_toArray]
      try simp only [List.set_cons_succ]
      try simp only [List.set_cons_zero]
      refine wpAnyH_done (by kernel_rfl) ?_ _
      clear hHeld
      obtain ⟨⟨s0, s1⟩, -, -⟩ := row2 HRZ.out
      go_wp2_with fail
      exact bodyPost_ret (res_h2 Tryd.results53 _ _ (t := t) (len := C9) rfl s0 s1) rfl ⟨r10, F10, .inr (HC9.out ▸ HFL10.out.of HL8.out), DZ.out, FZ.out, HG10.out, t, C9, rfl, fun _ => ⟨rfl, HC9.out⟩⟩
end Go.Proofs.YtahgaogmcffglaaDoor
