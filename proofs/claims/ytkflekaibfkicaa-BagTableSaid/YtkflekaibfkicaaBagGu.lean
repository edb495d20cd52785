/- Pop of queues of pairs. -/
import Derived.Test.YtkflekaibfkicaaBagFt
import Derived.Test.YtkflekaibfkicaaBagK
namespace Go.Proofs.Ytkflekaibfkicaa
open Go.RowKit Go.Conc

theorem grown_set2 (w : World) (r : Nat) (u v : Value) : w.grownBy ((w.setCell ⟨r, 0, none⟩ u).setCell ⟨r, 1, none⟩ v) (some r) :=
  ⟨rfl, rfl, rfl, by simp [World.setCell], fun k _ hne => by
    have h : k ≠ r := fun e => hne (by rw [e])
    rw [Below.heap_setCell _ _ _ _ h, Below.heap_setCell _ _ _ _ h]⟩

set_option maxRecDepth 100000 in
set_option maxHeartbeats 4000000 in
theorem tpop_some (w : World) {B g q : Nat} {l : List (List Value)} (z y : Int) (h : QSt B w g q ([.int .i64 z, .int .i64 y] :: l)) (hB : B ≤ w.heap.size) :
    Calls Try.prog 25 #[.pointer (some ⟨g, 0, none⟩)] w fun e w' => e = .returned (.tuple #[.agg #[.int .i64 z, .int .i64 y], .bool true]) ∧ QSt B w' g q l ∧ Kp true B g w w' := by
  have hg := h.lt
  have hle := h.le
  have hf := h.fr
  obtain ⟨v, hc, hs⟩ := h.st
  rcases hs with ⟨-, h0⟩ | ⟨c, cap, vs, rfl, hBc, hch, hvc, hcap, hels⟩
  · cases h0
  rcases vs with _ | ⟨v, vs⟩
  · exact hels.elim
  obtain ⟨⟨b, rfl, hne, hx⟩, hrest⟩ := hels
  have hcl := ChAt.lt hch
  obtain ⟨r, hr⟩ : ∃ r, r = w.heap.size := ⟨_, rfl⟩
  have hb0 : Below w.heap.size w ((w.alloc (.cells #[.int .i64 0, .int .i64 0] 56)).alloc (.cells #[.int .i64 0, .int .i64 0] 56)) := ((Below.refl _ _).alloc (Nat.le_refl _) _).alloc (by simp) _
  have hrow : ((w.alloc (.cells #[.int .i64 0, .int .i64 0] 56)).alloc (.cells #[.int .i64 0, .int .i64 0] 56)).heap[r]? = some (.cells #[.int .i64 0, .int .i64 0] 56) := by rw [hr, Below.heap_alloc _ _ _ (by simp)]; exact heap_alloc_new w _
  have hc0 : ((w.alloc (.cells #[.int .i64 0, .int .i64 0] 56)).alloc (.cells #[.int .i64 0, .int .i64 0] 56)).cell? ⟨g, 0, none⟩ = some (.chan (some c)) := (hb0.cell hg).trans hc
  have C1 := Lib.hid (ttake_cons _ (ChAt.below hch hb0))
  have hgc := chan_ne_cell hc hch
  have HX : Hid (∀ W, Kp true B g w W → ∀ j u, [Value.int .i64 z, .int .i64 y][j]? = some u → W.cell? ⟨b, j, none⟩ = some u) := fun W hk j u hj => hk.cell (p := ⟨b, j, none⟩) hne.1 (hx j u hj)
  have HR := Lib.hid (And.intro hBc (And.intro hrest (And.intro hvc (And.intro hcap (And.intro hr (And.intro hB hcl))))))
  have HF := Lib.hid (And.intro hc (And.intro hf (And.intro hle (And.intro hgc hg))))
  have HW := Lib.hid (And.intro hb0 hrow)
  clear hch hvc hcap hx hrest h hgc hf hb0 hrow hr
  go_enter Try.func25, Try.ntmps25
  go_wp2_with fail
  rw [← HR.out.2.2.2.2.1]
  refine C1.out.mono ?_
  rintro e w2 ⟨rfl, hs2⟩
  have hk2 : Kp true B g w w2 := (Kp.of_below HR.out.2.2.2.2.2.1 HW.out.1).trans (hs2.kp B g HR.out.1)
  have hxs := HX.out _ hk2
  have hx0 := hxs 0 _ rfl
  have hx1 := hxs 1 _ rfl
  have hrw2 : w2.heap[r]? = some (.cells #[.int .i64 0, .int .i64 0] 56) := (hs2.ne r (by have := HR.out.2.2.2.2.1; have := HR.out.2.2.2.2.2.2; omega)).trans HW.out.2
  have a0 : w2.cell? ⟨r, 0, none⟩ = some (.int .i64 0) := by simp [World.cell?, hrw2]
  have a1 : w2.cell? ⟨r, 1, none⟩ = some (.int .i64 0) := by simp [World.cell?, hrw2]
  have e0 : w2.frozen? ⟨r, 0, none⟩ = false := by simp [World.frozen?, hrw2]
  have e1 : w2.frozen? ⟨r, 1, none⟩ = false := by simp [World.frozen?, hrw2]
  have H2 := Lib.hid (And.intro hs2 hk2)
  clear hs2 hk2 hxs hrw2
  go_wp2_with fail
  have hgr := grown_set2 w2 r (.int .i64 z) (.int .i64 y)
  have hk5 : Kp true B g w ((w2.setCell ⟨r, 0, none⟩ (.int .i64 z)).setCell ⟨r, 1, none⟩ (.int .i64 y)) := H2.out.2.grown hgr HR.out.2.2.2.2.2.1 (fun j hj => by injection hj with hj; have := HR.out.2.2.2.2.1; omega)
  have hrg : g ≠ r := by have := HR.out.2.2.2.2.1; have := HF.out.2.2.2.2; omega
  have hrc : c ≠ r := by have := HR.out.2.2.2.2.1; have := HR.out.2.2.2.2.2.2; omega
  have hsz2 : g < w2.heap.size := Nat.lt_of_lt_of_le HF.out.2.2.2.2 H2.out.2.size
  have hgg : ((w2.setCell ⟨r, 0, none⟩ (.int .i64 z)).setCell ⟨r, 1, none⟩ (.int .i64 y)).heap[g]? = w.heap[g]? := (hgr.block g hsz2 (fun e => hrg (by injection e))).trans ((H2.out.1.ne g HF.out.2.2.2.1).trans (HW.out.1.block g HF.out.2.2.2.2))
  have HK := Lib.hid (And.intro hk5 (And.intro hgg (H2.out.1.at_.grown hgr (fun e => hrc (by injection e with e; exact e.symm)))))
  clear hgr hk5 hgg
  refine bodyPost_ret (v := .tuple #[.agg #[.int .i64 z, .int .i64 y], .bool true]) (by simp [results, Try.results25, go_sem, a0, a1]) rfl ?_
  refine ⟨rfl, ⟨HF.out.2.2.1, (World.frozen?_of_block (w := w) HK.out.2.1).trans HF.out.2.1, _, (World.cell?_of_block (w := w) (a := ⟨g, 0, none⟩) HK.out.2.1).trans HF.out.1, Chn.at_ HR.out.1 HK.out.2.2 (by have := HR.out.2.2.1; simp at this; omega) HR.out.2.2.2.1 (HR.out.2.1.kp HK.out.1)⟩, HK.out.1⟩
end Go.Proofs.Ytkflekaibfkicaa
