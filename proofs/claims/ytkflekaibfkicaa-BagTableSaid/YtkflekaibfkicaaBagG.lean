/- Pop of queues of int. (Made by gen/bagi.py.) -/
import Derived.Test.YtkflekaibfkicaaBagF
namespace Go.Proofs.Ytkflekaibfkicaa
open Go.RowKit Go.Conc

set_option maxRecDepth 100000 in
set_option maxHeartbeats 1000000 in
theorem qpop_some (w : World) {B g q : Nat} {l : List (List Value)} (z : Int) (h : QSt B w g q ([.int .i64 z] :: l)) :
    Calls Try.prog 17 #[.pointer (some ⟨g, 0, none⟩)] w fun e w' => e = .returned (.tuple #[(.int .i64 z), .bool true]) ∧ QSt B w' g q l ∧ Kp true B g w w' := by
  have hg := h.lt
  have hB := h.le
  have hf := h.fr
  obtain ⟨v, hc, hs⟩ := h.st
  rcases hs with ⟨-, h0⟩ | ⟨c, cap, vs, rfl, hBc, hch, hvc, hcap, hels⟩
  · cases h0
  rcases vs with _ | ⟨v, vs⟩
  · exact hels.elim
  obtain ⟨⟨b, rfl, hne, hx⟩, hrest⟩ := hels
  have C1 := Lib.hid (qtake_cons w hch)
  have hgc := chan_ne_cell hc hch
  have HX : Hid (∀ W, Kp true B g w W → ∀ j u, [.int .i64 z][j]? = some u → W.cell? ⟨b, j, none⟩ = some u) := fun W hk j u hj => hk.cell (p := ⟨b, j, none⟩) hne.1 (hx j u hj)
  have HR := Lib.hid (And.intro hBc (And.intro hrest (And.intro hvc hcap)))
  have HF := Lib.hid (And.intro hc (And.intro hf (And.intro hB hgc)))
  clear hch hvc hcap hx hrest h hgc hf
  go_enter Try.func17, Try.ntmps17
  go_wp2_with (first
    | (go_at_call 30; refine C1.out.mono ?_; rintro e w2 ⟨rfl, hs2⟩; have hxs := HX.out _ (hs2.kp B g HR.out.1); have hx0 := hxs 0 _ rfl; skip)
    | fail)
  refine bodyPost_ret (v := .tuple #[(.int .i64 z), .bool true]) (by simp [results, Try.results17, go_sem]) rfl ?_
  have hk2 := hs2.kp B g HR.out.1
  refine ⟨rfl, ⟨HF.out.2.2.1, ?_, _, ?_, Chn.at_ HR.out.1 hs2.at_ (by have := HR.out.2.2.1; simp at this; omega) HR.out.2.2.2 (HR.out.2.1.kp hk2)⟩, hk2⟩
  · exact (World.frozen?_of_block (w := w) (hs2.ne g HF.out.2.2.2)).trans HF.out.2.1
  · exact (World.cell?_of_block (w := w) (a := ⟨g, 0, none⟩) (hs2.ne g HF.out.2.2.2)).trans HF.out.1

set_option maxRecDepth 100000 in
set_option maxHeartbeats 1000000 in
theorem qpop_none (w : World) {B g q : Nat} (h : QSt B w g q []) :
    Calls Try.prog 17 #[.pointer (some ⟨g, 0, none⟩)] w fun e w' => e = .returned (.tuple #[(.int .i64 0), .bool false]) ∧ w = w' := by
  obtain ⟨v, hc, hs⟩ := h.st
  have HT : Hid (Calls Try.prog 30 #[v] w fun e w' => e = .returned (.tuple #[.pointer none, .bool false]) ∧ w = w') := by
    rcases hs with ⟨rfl, -⟩ | ⟨c, cap, vs, rfl, hBc, hch, hvc, hcap, hels⟩
    · exact (qtake_nil w).mono fun _ _ h => ⟨h.1, h.2.symm⟩
    · rcases vs with _ | ⟨v, vs⟩
      · exact qtake_empty w hch
      · exact hels.elim
  clear hs h
  go_enter Try.func17, Try.ntmps17
  go_wp2_with (first
    | (go_at_call 30; refine HT.out.mono ?_; rintro e w2 ⟨rfl, rfl⟩)
    | fail)
  refine bodyPost_ret (v := .tuple #[(.int .i64 0), .bool false]) (by simp [results, Try.results17, go_sem]) rfl ?_
  exact ⟨rfl, rfl⟩

set_option maxRecDepth 100000 in
set_option maxHeartbeats 1000000 in
theorem qpop_nil (w : World) : Calls Try.prog 17 #[.pointer none] w fun e w' => e = .returned (.tuple #[(.int .i64 0), .bool false]) ∧ w = w' := by
  go_enter Try.func17, Try.ntmps17
  go_wp2_with fail
  refine bodyPost_ret (v := .tuple #[(.int .i64 0), .bool false]) (by simp [results, Try.results17, go_sem]) rfl ?_
  exact ⟨rfl, rfl⟩
set_option maxRecDepth 100000 in
set_option maxHeartbeats 1000000 in
theorem qlen_nil (w : World) : Calls Try.prog 19 #[.pointer none] w fun e w' => e = .returned (.int .i64 0) ∧ w = w' := by
  go_enter Try.func19, Try.ntmps19
  go_wp2_with fail
  go_ret
  exact ⟨rfl, rfl⟩
set_option maxRecDepth 100000 in
set_option maxHeartbeats 1000000 in
theorem qpush_nil (w : World) (z : Int) (most : Int) : Calls Try.prog 18 #[.pointer none, (.int .i64 z), .int .i64 most] w fun e w' => e = .returned (.bool false) ∧ Below w.heap.size w w' := by
  have HB := Lib.hid ((Below.refl w.heap.size w).alloc (Nat.le_refl _) (.cells #[.int .i64 z] 3))
  go_enter Try.func18, Try.ntmps18
  go_wp2_with fail
  go_ret
  exact ⟨rfl, HB.out⟩
end Go.Proofs.Ytkflekaibfkicaa
