/- Del of tables from Int to ByteArray. (Made by gen/bagt.py.) -/
import Derived.Test.YtkflekaibfkicaaBagN
import Derived.Deep.RegionHeld3
namespace Go.Proofs.Ytkflekaibfkicaa
open Go.RowKit Go.Maps

/-- delete at a map, nil or not. -/
theorem ndrop {B N : Nat} {w : World} {vm : Value} {T : Int → Option ByteArray} (h : nMp B w vm N T) (k : Int) (hw : (Lit.int .i64 k).wf = true) (ty : TypeId) :
    ∃ w', (Builtin.delete_ #[24, 65] ty #[vm, nmk k]).run Try.prog w = .ok (.tuple #[]) w' ∧ nMp B w' vm N (delT T k) ∧ (∀ g, Kp false B g w w') := by
  obtain ⟨kl, hk⟩ := nkey k hw
  rcases h with ⟨rfl, h0⟩ | ⟨b, D, rfl, hb, ho, hd⟩
  · exact ⟨w, drop_nil nlaw Try.underlying24 hk ty, .inl ⟨rfl, fun k' => by unfold delT; split <;> simp [h0]⟩, fun g => Kp.refl B g w⟩
  · obtain ⟨w', hrun, ho', ht⟩ := ho.drop nlaw Try.underlying24 hk ty
    exact ⟨w', hrun, .inr ⟨b, _, rfl, hb, ho', hd.del nlaw nmk_inj hk⟩, fun g => Kp.turned hb ht⟩

set_option maxRecDepth 100000 in
set_option maxHeartbeats 4000000 in
theorem ndel_any (w : World) {B g N : Nat} {T : Int → Option ByteArray} (k : Int) (hw : (Lit.int .i64 k).wf = true) (h : nTSt B w g N T) (hsz : B ≤ w.heap.size) :
    Calls Try.prog 11 #[.pointer (some ⟨g, 0, none⟩), .int .i64 k] w fun e w' => e = .returned (.bool (T k).isSome) ∧ nTSt B w' g N (delT T k) ∧ Kp false B g w w' := by
  have hg := h.lt
  obtain ⟨vm, hc, hm⟩ := h.st
  have CP := Lib.hid (nplace k w)
  have HW := Lib.hid hw
  have HG := Lib.hid (And.intro hc (And.intro h.fr (And.intro hg (And.intro h.le hsz))))
  have HM := Lib.hid hm
  clear hm h hw hsz
  go_enter Try.func11, Try.ntmps11
  go_wp2_with (first
    | (go_at_call 27; refine CP.out.mono ?_; rintro e w1 ⟨rfl, hb1⟩; have hc1 := (hb1.cell hg).trans hc; have HB1 := Lib.hid hb1; clear hb1)
    | fail)
  generalize hw2 : w1.alloc (.cells #[.int .i64 k, .bool false] 65) = w2
  obtain ⟨k', v', he, -⟩ := nat_form T k
  obtain ⟨hs, hhs⟩ : ∃ hs, hs = (T k).isSome := ⟨_, rfl⟩
  have hB2 : Below w1.heap.size w1 w2 := by rw [← hw2]; exact (Below.refl _ _).alloc (Nat.le_refl _) _
  have hz2 : w2.heap.size = w1.heap.size + 1 := by rw [← hw2]; simp
  have KF : Hid (∀ W, Below w2.heap.size w2 W → W.cell? ⟨g, 0, none⟩ = some vm ∧ W.cell? ⟨w1.heap.size, 0, none⟩ = some (.int .i64 k) ∧ W.cell? ⟨w1.heap.size, 1, none⟩ = some (.bool false) ∧ (Instr.lookup 24 vm (.agg #[.int .i64 k, .bool false]) true).run Try.prog W = .ok (.tuple #[.agg #[.int .i64 k', .string v'], .bool hs]) W) := fun W hW => by
    have hW1 : Below w.heap.size w W := HB1.out.trans ((hB2.mono HB1.out.size).trans (hW.mono (by have := HB1.out.size; omega)))
    have hl := HM.out.look k HW.out hW1
    rw [he, ← hhs] at hl
    exact ⟨(hW1.cell hg).trans hc, (hW.cell (p := ⟨w1.heap.size, 0, none⟩) (by show w1.heap.size < _; omega)).trans (by rw [← hw2, World.cell?_alloc_at _ _ _ _ rfl]; rfl), (hW.cell (p := ⟨w1.heap.size, 1, none⟩) (by show w1.heap.size < _; omega)).trans (by rw [← hw2, World.cell?_alloc_at _ _ _ _ rfl]; rfl), hl⟩
  have HZ2 := Lib.hid (And.intro hB2 hz2)
  have HHS := Lib.hid hhs
  clear hw2 hc1 hc hhs he hB2 hz2
  go_region_held3 (fun W => W.cell? ⟨g, 0, none⟩ = some vm ∧ W.cell? ⟨w1.heap.size, 0, none⟩ = some (.int .i64 k) ∧ W.cell? ⟨w1.heap.size, 1, none⟩ = some (.bool false) ∧ (Instr.lookup 24 vm (.agg #[.int .i64 k, .bool false]) true).run Try.prog W = .ok (.tuple #[.agg #[.int .i64 k', .string v'], .bool hs]) W)
    (first | (exact KF.out _ (Below.refl _ _).drew) | (exact KF.out _ ((Below.refl _ _).drew.alloc (Nat.le_refl _) _)) | fail)
    (fail)
  all_goals
    have hb4 : Below w2.heap.size w2 (w2.alloc (.cells #[.int .i64 k', .string v'] 68)).drew := ((Below.refl _ _).alloc (Nat.le_refl _) _).drew
    generalize (w2.alloc (.cells #[.int .i64 k', .string v'] 68)).drew = w4 at hb4 ⊢
    go_wp2_with fail
    have hW4 : Below w.heap.size w w4.drew := HB1.out.trans ((HZ2.out.1.mono HB1.out.size).trans ((hb4.drew).mono (by have := HB1.out.size; have := HZ2.out.2; omega)))
    obtain ⟨w8, hrun, hm8, hk8⟩ := ndrop (HM.out.below hW4) k HW.out 0
    have hrun' : ∀ ty, (Builtin.delete_ #[24, 65] ty #[vm, .agg #[.int .i64 k, .bool false]]).run Try.prog w4.drew = .ok (.tuple #[]) w8 := fun ty => hrun
    have hk0 : Kp false B g w w8 := (Kp.of_below HG.out.2.2.2.2 hW4).trans (hk8 g)
    obtain ⟨s1, s2, s3, -⟩ := KF.out _ hb4.drew
    have S1 := Lib.hid (show w4.drew.cell? ⟨g, 0, none⟩ = some vm ∧ w4.drew.cell? ⟨w1.heap.size, 0, none⟩ = some (.int .i64 k) ∧ w4.drew.cell? ⟨w1.heap.size, 1, none⟩ = some (.bool false) from ⟨s1, s2, s3⟩)
    have S2 := Lib.hid (show w8.cell? ⟨g, 0, none⟩ = some vm ∧ w8.cell? ⟨w1.heap.size, 0, none⟩ = some (.int .i64 k) ∧ w8.cell? ⟨w1.heap.size, 1, none⟩ = some (.bool false) from ⟨(hk8 (g + 1)).cell (p := ⟨g, 0, none⟩) (by show g ≠ g + 1; omega) s1, (hk8 g).cell (p := ⟨w1.heap.size, 0, none⟩) (by show w1.heap.size ≠ g; have := HG.out.2.2.1; have := HB1.out.size; omega) s2, (hk8 g).cell (p := ⟨w1.heap.size, 1, none⟩) (by show w1.heap.size ≠ g; have := HG.out.2.2.1; have := HB1.out.size; omega) s3⟩)
    have H8 := Lib.hid (And.intro hm8 (And.intro hk0 (And.intro ((hk8 (g + 1)).cell (p := ⟨g, 0, none⟩) (by show g ≠ g + 1; omega) s1) (((hk8 (g + 1)).frozen (p := ⟨g, 0, none⟩) (by show g ≠ g + 1; omega) s1).trans ((World.frozen?_of_block (w := w) (hW4.block g HG.out.2.2.1)).trans HG.out.2.1)))))
    clear hm8 hk8 hk0 s1 s2 s3 hrun hW4 hb4
    go_region_held3 (fun W => W.cell? ⟨g, 0, none⟩ = some vm ∧ W.cell? ⟨w1.heap.size, 0, none⟩ = some (.int .i64 k) ∧ W.cell? ⟨w1.heap.size, 1, none⟩ = some (.bool false))
      (first | (exact S1.out) | (exact S2.out) | fail)
      (fail)
    go_wp2_with fail
    go_ret
    exact ⟨by rw [HHS.out]; rfl, ⟨HG.out.2.2.2.1, H8.out.2.2.2, _, H8.out.2.2.1, H8.out.1⟩, H8.out.2.1⟩
set_option maxRecDepth 100000 in
set_option maxHeartbeats 1000000 in
theorem ndel_nil (w : World) (k : Int) : Calls Try.prog 11 #[.pointer none, .int .i64 k] w fun e w' => e = .returned (.bool false) ∧ w = w' := by
  go_enter Try.func11, Try.ntmps11
  go_wp2_with fail
  go_ret
  exact ⟨rfl, rfl⟩
set_option maxRecDepth 100000 in
set_option maxHeartbeats 1000000 in
theorem nput_no (w : World) (k : Int) (v : ByteArray) : Calls Try.prog 9 #[.pointer none, .int .i64 k, .string v] w fun e w' => e = .returned (.bool false) ∧ w = w' := by
  go_enter Try.func9, Try.ntmps9
  go_wp2_with fail
  go_ret
  exact ⟨rfl, rfl⟩
end Go.Proofs.Ytkflekaibfkicaa
