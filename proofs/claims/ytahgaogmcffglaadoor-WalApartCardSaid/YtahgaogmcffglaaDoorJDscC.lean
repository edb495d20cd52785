/- The code's disk: Read. -/
import Derived.Test.YtahgaogmcffglaaDoorJDscB
import Derived.Test.YtahgaogmcffglaaDoorJWlM
namespace Go.Proofs.YtahgaogmcffglaaDoor
open Go.RowKit

theorem copy_src {w : World} {g : Nat} {l : List UInt8} {t : TypeId} (h : w.heap[g]? = some (.cells (l.map bv).toArray t (0, 0))) : ∀ j v, (l.map bv)[j]? = some v → w.cell? ((⟨g, 0, none⟩ : Addr).add j) = some v := by
  intro j v hv
  rw [add_mk, cell_of_row w g _ _ _ _ h, List.getElem?_toArray, Nat.zero_add]
  exact hv
theorem splice_all {α : Type} {L cs : List α} (h : L.length = cs.length) : splice L 0 cs = cs := by
  unfold splice
  rw [List.take_zero, List.nil_append, Nat.zero_add, List.drop_eq_nil_of_le (by omega), List.append_nil]
theorem ob_of_whole13 {w : World} {base g n : Nat} {t : TypeId} {l : List UInt8} (hg : w.heap[g]? = some (.cells (l.map bv).toArray t (0, 0))) (hb : base ≤ g) (hn : l.length = n) (hm : n ≤ maxLen) : Ob w base t (.slice (some ⟨g, 0, none⟩) n n) l := by
  subst hn
  exact ⟨by simp, .inr ⟨g, l.length, _, rfl, hb, hg, Nat.le_refl _, hm, by simp, List.take_of_length_le (by simp)⟩⟩
/-- What Read answers. -/
def CReadR (D : Cd) (at_ : Int) (w : World) (e : Ending) (w' : World) : Prop := Below w.heap.size w w' ∧
  ((D.power = false ∧ e = .returned (.tuple #[.slice none 0 0, .int .i64 131])) ∨ (D.power = true ∧ (at_ < 0 ∨ (D.secs.length : Int) ≤ at_) ∧ e = .returned (.tuple #[.slice none 0 0, .int .i64 130])) ∨
   (D.power = true ∧ 0 ≤ at_ ∧ at_ < (D.secs.length : Int) ∧ ∃ v l, (layW D.secs D.waits)[at_.toNat]? = some l ∧ e = .returned (.tuple #[v, .int .i64 0]) ∧ Ob w' w.heap.size 5 v l))

set_option maxRecDepth 100000 in
set_option maxHeartbeats 4000000 in
theorem dread_any (w : World) {F : Nat → Prop} {B g : Nat} {D : Cd} (at_ : Int) (h : CDk w F B g D) (hws : D.waits.length ≤ 1000000) :
    Calls Tryd.prog 14 #[.pointer (some ⟨g, 0, none⟩), .int .i64 at_] w (CReadR D at_ w) := by
  have C1 := Lib.hid (creaches_any w at_ h)
  cases hd : D.power with
  | false =>
    have HG : Hid (D.reach at_ = 131) := by show _ = _; simp [Cd.reach, hd]
    have HD := Lib.hid hd
    rw [HG.out] at C1
    clear hd h
    go_enter Tryd.func14, Tryd.ntmps14
    go_wp2_with fail
    refine C1.out.mono ?_
    rintro e w1 ⟨rfl, rfl⟩
    go_wp2_with fail
    refine bodyPost_ret (v := .tuple #[.slice none 0 0, .int .i64 131]) (by simp [results, Tryd.results14, go_sem]) rfl (show CReadR _ _ _ _ _ from ⟨Below.refl _ _, .inl ⟨HD.out, rfl⟩⟩)
  | true =>
    have HD := Lib.hid hd
    by_cases h0 : at_ < 0 ∨ (D.secs.length : Int) ≤ at_
    · have HG : Hid (D.reach at_ = 130) := by show _ = _; simp [Cd.reach, hd, h0]
      have H0 := Lib.hid h0
      rw [HG.out] at C1
      clear hd h h0
      go_enter Tryd.func14, Tryd.ntmps14
      go_wp2_with fail
      refine C1.out.mono ?_
      rintro e w1 ⟨rfl, rfl⟩
      go_wp2_with fail
      refine bodyPost_ret (v := .tuple #[.slice none 0 0, .int .i64 130]) (by simp [results, Tryd.results14, go_sem]) rfl (show CReadR _ _ _ _ _ from ⟨Below.refl _ _, .inr (.inl ⟨HD.out, H0.out, rfl⟩)⟩)
    have HG : Hid (D.reach at_ = 0) := by show _ = _; simp [Cd.reach, hd, h0]
    rw [HG.out] at C1
    obtain ⟨a, rfl⟩ : ∃ a : Nat, at_ = (a : Int) := ⟨at_.toNat, by omega⟩
    have ha : a < D.secs.length := by omega
    have HA : Hid ((0 : Int) ≤ (a : Int) ∧ (a : Int) < (D.secs.length : Int)) := ⟨by omega, by omega⟩
    have C2 := Lib.hid (clatest_any w a h ha hws)
    clear hd h h0 ha hws
    go_enter Tryd.func14, Tryd.ntmps14
    go_wp2_with fail
    refine C1.out.mono ?_
    rintro e w1 ⟨rfl, rfl⟩
    go_wp2_with fail
    refine C2.out.mono ?_
    rintro e w2 ⟨⟨l, hl, hll, rfl⟩, hb2⟩
    have HL := Lib.hid (And.intro hl hll)
    have B2 := Lib.hid hb2
    obtain ⟨w3, hw3⟩ : ∃ w3, w3 = w2.alloc (.cells (z64.map bv).toArray 77) := ⟨_, rfl⟩
    have X3 : Hid (w3.heap[w2.heap.size]? = some (.cells (z64.map bv).toArray 77 (0, 0))) := by show _ = _; rw [hw3]; exact heap_alloc_new w2 _
    have B3 : Hid (Below w.heap.size w w3) := by show Below _ _ _; rw [hw3]; exact hb2.alloc hb2.size _
    have W3 := Lib.hid hw3
    have LR : Hid ((List.replicate 64 (0 : UInt8)).length = 64) := by show _ = _; simp
    have L64 : Hid (((List.replicate 64 (0 : UInt8)).map bv).length = 64) := by show _ = _; simp
    have LM : Hid ((l.map bv).length = 64) := by show _ = _; rw [List.length_map, hll]
    clear hl hll hb2 hw3
    go_wp2_with (first
      | (refine wpList_allocN13 rfl 77 rfl _ sec_zero ?_; rw [← W3.out])
      | (refine wpList_stRow13 rfl 77 (.tmp 7) (.tmp 17) rfl w2.heap.size _ rfl rfl 77 _ X3.out (by rw [List.size_toArray, LM.out]; exact sec_info) (by rw [List.size_toArray, List.size_toArray, LM.out]; rfl) (fun u hu => bv_one _ u (by simpa using hu)) ?_; intro w4 r4 o4 b4 z4; have R4 := Lib.hid r4; have B4 := Lib.hid (b4 _ _ B3.out B2.out.size); have Z4 := Lib.hid z4; clear r4 o4 b4 z4)
      | (refine wpList_makeB13 rfl _ _ 33 rfl 5 Tryd.underlying33 info_u8 64 64 64 64 rfl rfl rfl rfl (Nat.le_refl _) (by decide) ?_; intro w5 ho5 hb5; have G5 := Lib.hid (ob_whole13 ho5 LR.out); have B5 := Lib.hid (B4.out.trans (hb5.mono B4.out.size)); have S5 := Lib.hid (copy_src ((hb5.block _ (Array.getElem?_eq_some_iff.1 R4.out).1).trans R4.out)); clear ho5 hb5)
      | (refine wpList_copy_splice rfl (.tmp 19) (.tmp 20) 33 33 rfl 5 Tryd.underlying33 (by kernel_rfl) (some ⟨_, 0, none⟩) (some ⟨w2.heap.size, 0, none⟩) 64 64 64 64 rfl rfl _ 0 ((List.replicate 64 (0 : UInt8)).map bv) 5 G5.out (l.map bv) (by rw [LM.out]; rfl) (fun _ => ⟨rfl, _, rfl, S5.out⟩) (by rw [LM.out, L64.out]; decide) (bv_one _) w.heap.size w B5.out (B4.out.size) ?_; intro w6 hw6 hb6; have B6 := Lib.hid hb6; have G6 := Lib.hid hw6.out; clear hb6 hw6)
      | fail)
    have g6 := G6.out
    rw [splice_all (by rw [LM.out, L64.out])] at g6
    refine bodyPost_ret (v := .tuple #[.slice (some ⟨w4.heap.size, 0, none⟩) 64 64, .int .i64 0]) (by simp [results, Tryd.results14, go_sem]) rfl (show CReadR _ _ _ _ _ from ⟨B6.out, .inr (.inr ⟨HD.out, HA.out.1, HA.out.2, _, l, HL.out.1, rfl, ob_of_whole13 g6 B4.out.size HL.out.2 (by decide)⟩)⟩)
end Go.Proofs.YtahgaogmcffglaaDoor
