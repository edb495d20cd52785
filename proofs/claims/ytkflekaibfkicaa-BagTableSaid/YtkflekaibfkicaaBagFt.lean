/- Push that pushes, and Pop, of queues of [2]int. (Made by gen/bagi.py.) -/
import Derived.Test.YtkflekaibfkicaaBagEt
import Derived.Test.YtkflekaibfkicaaBagJ
namespace Go.Proofs.Ytkflekaibfkicaa
open Go.RowKit Go.Conc

/-- Where Push's loop stands: x's box is block bx. -/
structure tPu (B g q bx : Nat) (w wr : World) (l : List (List Value)) (A : List Value) : Prop where
  qs : QSt B wr g q l
  kp : Kp true B g w wr
  bx_ : ∀ j u, A[j]? = some u → wr.cell? ⟨bx, j, none⟩ = some u
  ne : bx ≠ g ∧ bx ≠ q
  sz : B ≤ wr.heap.size

set_option maxRecDepth 100000 in
set_option maxHeartbeats 1000000 in
theorem tpush_yes (w : World) {B g q : Nat} {l : List (List Value)} (z y : Int) (most : Int) (h : QSt B w g q l) (hm : (l.length : Int) < most) (hl : l.length ≤ 1000) (hB : B ≤ w.heap.size) (hq : q < w.heap.size) :
    Calls Try.prog 22 #[.pointer (some ⟨g, 0, none⟩), (.agg #[.int .i64 z, .int .i64 y]), .int .i64 most] w fun e w' => e = .returned (.bool true) ∧ QSt B w' g q (l ++ [[.int .i64 z, .int .i64 y]]) ∧ Kp true B g w w' := by
  have hg := h.lt
  have hb : Below w.heap.size w (w.alloc (.cells #[.int .i64 z, .int .i64 y] 56)) := (Below.refl _ _).alloc (Nat.le_refl _) _
  have HP0 : Hid (tPu B g q w.heap.size w (w.alloc (.cells #[.int .i64 z, .int .i64 y] 56)) l [.int .i64 z, .int .i64 y]) := ⟨h.below hb, Kp.alloc hB _, fun j u hj => by rw [World.cell?_alloc_at _ _ _ _ rfl]; simpa using hj, ⟨by omega, by omega⟩, by simp; omega⟩
  obtain ⟨v, hc, hs⟩ := h.st
  have hlen := fun ty => tlen_run hs hb ty
  have hc1 : (w.alloc (.cells #[.int .i64 z, .int .i64 y] 56)).cell? ⟨g, 0, none⟩ = some v := hb.cell hg |>.trans hc
  have hd : decide (most ≤ (l.length : Int)) = false := by simp; omega
  have HG := Lib.hid (And.intro hl h.le)
  clear hb hs h hc hm hl hg hq
  obtain ⟨n, hn⟩ : ∃ n, n = l.length := ⟨_, rfl⟩
  rw [← hn] at hlen hd
  clear hn
  go_enter Try.func22, Try.ntmps22
  go_wp2_with fail
  clear hc1 hlen hd
  generalize w.alloc (.cells #[.int .i64 z, .int .i64 y] 56) = w0 at *
  obtain ⟨bx, hbx⟩ : ∃ bx, bx = w.heap.size := ⟨_, rfl⟩
  rw [← hbx] at HP0 ⊢
  clear hbx
  go_loopw [23] (fun _ wr => tPu B g q bx w wr l [.int .i64 z, .int .i64 y]) (fun _ wr => full1 wr g)
  case atStart => exact HP0.out
  case round =>
    clear HP0
    have HR := Lib.hid hrel
    obtain ⟨v1, hc, hs⟩ := hrel.qs.st
    have hf := hrel.qs.fr
    have hlw := hrel.qs.lt
    clear hrel
    rcases hs with ⟨rfl, hl0⟩ | ⟨c, cap, vs, rfl, hBc, hch, hvc, hcap, hels⟩
    · have C1 := Lib.hid ((tput_nil wr (some ⟨bx, 0, none⟩)).mono (R' := fun e w' => e = .returned (.bool false) ∧ wr = w') fun _ _ h => ⟨h.1, h.2.symm⟩)
      have C2 := Lib.hid (twider_nil wr)
      have HL := Lib.hid (And.intro hl0 hlw)
      have HM := Lib.hid (full1_n hc)
      have hk : ∀ W, Below wr.heap.size wr W → W.cell? ⟨g, 0, none⟩ = some (.chan none) ∧ W.frozen? ⟨g, 0, none⟩ = false := fun W hb => ⟨(hb.cell hlw).trans hc, (World.frozen?_of_block (w := wr) (hb.block g hlw)).trans hf⟩
      have HK := Lib.hid hk
      clear hl0 hlw hf hk
      go_wp2_with (first
        | (go_at_call 34; refine C1.out.mono ?_; rintro e w2 ⟨rfl, rfl⟩)
        | (go_at_call 35; refine C2.out.mono ?_; rintro e w3 ⟨rfl, hca, hb3⟩; have hc3 := (HK.out _ hb3).1; have hf3 := (HK.out _ hb3).2; have HC := Lib.hid (And.intro hca hb3); clear hca hb3)
        | fail)
      have hp : tPu B g q bx w (w3.setCell ⟨g, 0, none⟩ (.chan (some wr.heap.size))) l [.int .i64 z, .int .i64 y] := by
        have h := HR.out
        have hk3 : Kp true B g wr w3 := Kp.of_below h.sz HC.out.2
        have hs3 : Kp true B g w3 (w3.setCell ⟨g, 0, none⟩ (.chan (some wr.heap.size))) := Kp.setCell HG.out.2 _ _ hc3
        obtain ⟨s, r, hca⟩ := HC.out.1
        refine ⟨⟨h.qs.le, by rw [World.frozen?_setCell]; exact hf3, _, World.cell?_setCell_same _ _ _ hc3, ?_⟩, (h.kp.trans hk3).trans hs3, fun j u hj => (hk3.trans hs3).cell (p := ⟨bx, j, none⟩) h.ne.1 (h.bx_ j u hj), h.ne, ?_⟩
        · rw [HL.out.1]
          exact Chn.at_ (vs := []) h.sz ⟨s, r, by rw [Below.heap_setCell _ _ _ _ (by show wr.heap.size ≠ g; have := HL.out.2; omega)]; exact hca⟩ (Nat.zero_le _) (by decide) trivial
        · have := (hk3.trans hs3).size; have := h.sz; omega
      have hq1 : full1 (w3.setCell ⟨g, 0, none⟩ (.chan (some wr.heap.size))) g = 0 := by
        obtain ⟨s, r, hca⟩ := HC.out.1
        exact full1_0 (World.cell?_setCell_same _ _ _ hc3) (vs := []) (cap := 4) ⟨s, r, by rw [Below.heap_setCell _ _ _ _ (by show wr.heap.size ≠ g; have := HL.out.2; omega)]; exact hca⟩ (by decide)
      have HP := Lib.hid (And.intro hp hq1)
      clear hp hq1
      go_roundw
      case rel => exact HP.out.1
      case measure => rw [HP.out.2, HM.out]; exact Nat.lt_succ_self 0
    · have hne := chan_ne_cell hc hch
      by_cases hroom : vs.length < cap
      · have C1 := Lib.hid (tput_at wr hch hroom (A := some ⟨bx, 0, none⟩))
        have HE := Lib.hid (And.intro hels (And.intro hcap hBc))
        have HF := Lib.hid (And.intro hc hf)
        clear hch hels hcap hvc hlw hf
        go_wp2_with (first
          | (go_at_call 34; refine C1.out.mono ?_; rintro e w2 ⟨rfl, hs2⟩)
          | fail)
        go_ret
        have h := HR.out
        have hk2 := hs2.kp B g HE.out.2.2
        refine ⟨rfl, ⟨h.qs.le, ?_, _, ?_, Chn.at_ HE.out.2.2 hs2.at_ (by simp; omega) HE.out.2.1 ((HE.out.1.kp hk2).snoc ⟨bx, rfl, h.ne, fun j u hj => hk2.cell (p := ⟨bx, j, none⟩) h.ne.1 (h.bx_ j u hj)⟩)⟩, h.kp.trans hk2⟩
        · exact (World.frozen?_of_block (w := wr) (hs2.ne g hne)).trans HF.out.2
        · exact (World.cell?_of_block (w := wr) (a := ⟨g, 0, none⟩) (hs2.ne g hne)).trans HF.out.1
      · have hfull : cap ≤ vs.length := by omega
        have hcl := hels.len
        have C1 := Lib.hid (tput_no wr hch hfull (A := some ⟨bx, 0, none⟩))
        have C2 := Lib.hid (twider_some wr hch (by have := HG.out.1; omega) hvc hels.ptr)
        have HM := Lib.hid (full1_1 hc hch hfull)
        have HE := Lib.hid (And.intro hels (And.intro hBc (And.intro hvc hcl)))
        have hk : ∀ W, (∀ B g, B ≤ c → Kp true B g wr W) → W.cell? ⟨g, 0, none⟩ = some (.chan (some c)) ∧ W.frozen? ⟨g, 0, none⟩ = false := fun W hb => ⟨(hb B c hBc).cell (p := ⟨g, 0, none⟩) hne hc, ((hb B c hBc).frozen (p := ⟨g, 0, none⟩) hne hc).trans hf⟩
        have HK := Lib.hid hk
        have HNE := Lib.hid (And.intro hne hlw)
        clear hch hels hcap hvc hk hf hne hlw hcl
        go_wp2_with (first
          | (go_at_call 34; refine C1.out.mono ?_; rintro e w2 ⟨rfl, rfl⟩)
          | (go_at_call 35; refine C2.out.mono ?_; rintro e w3 ⟨rfl, hca, hco, hb3⟩; have hc3 := (HK.out _ hb3).1; have hf3 := (HK.out _ hb3).2; have HC := Lib.hid (And.intro hca hb3); clear hca hb3 hco)
          | fail)
        have hp : tPu B g q bx w (w3.setCell ⟨g, 0, none⟩ (.chan (some wr.heap.size))) l [.int .i64 z, .int .i64 y] ∧ full1 (w3.setCell ⟨g, 0, none⟩ (.chan (some wr.heap.size))) g = 0 := by
          have h := HR.out
          have hk3 : Kp true B g wr w3 := HC.out.2 B g HE.out.2.1
          have hs3 : Kp true B g w3 (w3.setCell ⟨g, 0, none⟩ (.chan (some wr.heap.size))) := Kp.setCell HG.out.2 _ _ hc3
          obtain ⟨s, r, hca⟩ := HC.out.1
          have hx : ChAt (w3.setCell ⟨g, 0, none⟩ (.chan (some wr.heap.size))) wr.heap.size (2 * cap + 4) vs := ⟨s, r, by rw [Below.heap_setCell _ _ _ _ (by show wr.heap.size ≠ g; have := HNE.out.2; omega)]; exact hca⟩
          have h1 := HE.out.2.2.1
          have h2 := HE.out.2.2.2
          have h3 := HG.out.1
          refine ⟨⟨⟨h.qs.le, by rw [World.frozen?_setCell]; exact hf3, _, World.cell?_setCell_same _ _ _ hc3, ?_⟩, (h.kp.trans hk3).trans hs3, fun j u hj => (hk3.trans hs3).cell (p := ⟨bx, j, none⟩) h.ne.1 (h.bx_ j u hj), h.ne, ?_⟩, full1_0 (World.cell?_setCell_same _ _ _ hc3) hx (by omega)⟩
          · exact Chn.at_ h.sz hx (by omega) (by omega) (HE.out.1.kp (hk3.trans hs3))
          · have := (hk3.trans hs3).size; have := h.sz; omega
        have HP := Lib.hid hp
        clear hp
        go_roundw
        case rel => exact HP.out.1
        case measure => rw [HP.out.2, HM.out]; exact Nat.lt_succ_self 0
end Go.Proofs.Ytkflekaibfkicaa
