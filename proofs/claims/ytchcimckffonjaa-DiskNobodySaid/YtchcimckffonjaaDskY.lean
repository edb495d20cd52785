/- The statement's own disk: Flush. -/
import Derived.Test.YtchcimckffonjaaDskX
import Derived.Deep.RegionHeld3
namespace Go.Proofs.Ytchcimckffonjaa
open Go.RowKit

theorem WtsC.get {w : World} {F : Nat → Prop} {B : Nat} : ∀ {xs : List (Nat × List UInt8)} {cs : List Value}, WtsC w F B xs cs → ∀ {i : Nat} (hi : i < xs.length), ∃ c1, cs[i * 2]? = some (.int .i64 (xs[i].1 : Int)) ∧ cs[i * 2 + 1]? = some c1 ∧ WtC w F B xs[i] (.int .i64 (xs[i].1 : Int)) c1
  | [], _, _, _, hi => absurd hi (Nat.not_lt_zero _)
  | _ :: _, c0 :: c1 :: _, h, 0, _ => by
    obtain ⟨e, h2⟩ := h.1
    subst e
    exact ⟨c1, rfl, rfl, rfl, h2⟩
  | x :: xs, c0 :: c1 :: cs, h, i + 1, hi => by
    obtain ⟨c, h1, h2, h3⟩ := WtsC.get h.2 (i := i) (by simpa using hi)
    exact ⟨c, by rw [show (i + 1) * 2 = i * 2 + 1 + 1 by omega]; exact h1, by rw [show (i + 1) * 2 + 1 = i * 2 + 1 + 1 + 1 by omega]; exact h2, h3⟩
  | _ :: _, [], h, _, _ => h.elim
  | _ :: _, [_], h, _, _ => h.elim
/-- A write that waits. -/
theorem RDk.wait {w : World} {F : Nat → Prop} {B g : Nat} {D : Dk} (h : RDk w F B g D) {i : Nat} (hi : i < D.waits.length) : ∃ ga gw cap c1, w.cell? ⟨g, 0, none⟩ = some (.slice (some ⟨ga, 0, none⟩) (D.secs.length * 64) (D.secs.length * 64)) ∧ w.cell? ⟨g, 1, none⟩ = some (.slice (some ⟨gw, 0, none⟩) D.waits.length cap) ∧
    w.cell? ⟨gw, i * 2, none⟩ = some (.int .i64 (D.waits[i].1 : Int)) ∧ w.cell? ⟨gw, i * 2 + 1, none⟩ = some c1 ∧ Ob w B 5 c1 D.waits[i].2 ∧ D.waits[i].2.length = 64 ∧ (∀ k, c1.ownBlock = some k → k ≠ ga) ∧ F ga := by
  obtain ⟨ga, vw, cs, h1, h2, h3, h4, h5, h6, h7, h8⟩ := h.st
  obtain ⟨c1, e0, e1, -, h9, h10, h11⟩ := h7.get hi
  rcases h6.2 with ⟨-, hn⟩ | ⟨gw, cap, cur, rfl, hb, hg, rest⟩
  · omega
  · have hc : ∀ j, j < D.waits.length * 2 → w.cell? ⟨gw, j, none⟩ = cs[j]? := fun j hj => World.ownsRow.cellAt h6 j hj
    exact ⟨ga, gw, cap, c1, by simp [World.cell?, h1], by simp [World.cell?, h1], (hc _ (by omega)).trans e0, (hc _ (by omega)).trans e1, h9, h10, fun k e => (h11 k e).2.2.1, h3⟩
/-- What waits is cleared. -/
theorem RDk.clear {w : World} {F : Nat → Prop} {B g : Nat} {D : Dk} (h : RDk w F B g D) : RDk (w.setCell ⟨g, 1, none⟩ (.slice none 0 0)) F B g { D with waits := [] } ∧ Fr F w (w.setCell ⟨g, 1, none⟩ (.slice none 0 0)) := by
  obtain ⟨ga, vw, cs, h1, h2, h3, h4, h5, h6, h7, h8⟩ := h.st
  have hF : Fr F w (w.setCell ⟨g, 1, none⟩ (.slice none 0 0)) := (Fr.refl F w).setCell (p := ⟨g, 1, none⟩) (.inl h.fg) _
  refine ⟨⟨h.le, h.fg, h.wide, h.few, fun x hx => (nomatch hx), fun k hk => by rw [World.size_setCell]; exact h.fit k hk, ga, .slice none 0 0, [], ?_, (Below.heap_setCell _ _ _ _ h5).trans h2, h3, h4, h5, World.ownsRow_nil _ _ _ 2, trivial, fun b hb => (nomatch hb)⟩, hF⟩
  have := row_setC h1 1 (.slice none 0 0)
  simpa using this
theorem Fr.mono {F F' : Nat → Prop} {w w' : World} (h : Fr F w w') (hF : ∀ k, F k → F' k) : Fr F' w w' := ⟨h.os, h.tape, h.output, h.size, fun k hk hn => h.block k hk fun e => hn (hF k e)⟩
theorem part_all {old new : List UInt8} (h1 : old.length = 64) (h2 : new.length = 64) : part old new 0 64 = new := by
  unfold part
  rw [List.take_zero, List.drop_zero, List.take_of_length_le (by omega), List.drop_eq_nil_of_le (by omega)]
  simp
theorem Dk.went_eq (D : Dk) : D.went = ⟨D.secs, D.waits, D.went.dead, D.went.armed, D.went.left⟩ := by unfold Dk.went; split <;> (try split) <;> rfl
def Dk.flush (D : Dk) : Dk × Int := if D.dead = true then (D, 131) else if D.goes = true then (D.went, 131) else ({ D.went with secs := layW D.secs D.waits, waits := [] }, 0)

set_option maxRecDepth 100000 in
set_option maxHeartbeats 4000000 in
theorem rflush_any (w : World) {F : Nat → Prop} {B g : Nat} {D : Dk} (h : RDk w F B g D) (hws : D.waits.length ≤ 1000000) :
    Calls Try.prog 17 #[.pointer (some ⟨g, 0, none⟩)] w (WriteR w F B g D.flush) := by
  obtain ⟨ga, vw, ⟨c0, c1, c2, c3, c4⟩, hf⟩ := h.cells
  have H := Lib.hid h
  have HWS := Lib.hid hws
  clear hws c0 c1 c3 c4 hf h
  cases hd : D.dead with
  | true =>
    have HG : Hid (D.flush = (D, 131)) := by show _ = _; simp [Dk.flush, hd]
    rw [HG.out]
    rw [hd] at c2
    clear hd
    go_enter Try.func17, Try.ntmps17
    go_wp2_with fail
    go_ret
    exact (show WriteR _ _ _ _ _ _ _ from ⟨F, H.out, rfl, Fr.refl F w, Grew.refl w F⟩)
  | false =>
    rw [hd] at c2
    have C1 := Lib.hid (rgoes_any w H.out)
    cases hg : D.goes with
    | true =>
      have HG : Hid (D.flush = (D.went, 131)) := by show _ = _; rw [Dk.flush, if_neg (by simp [hd]), if_pos hg]
      rw [HG.out]
      rw [hg] at C1
      clear hd hg
      go_enter Try.func17, Try.ntmps17
      go_wp2_with fail
      refine C1.out.mono ?_
      rintro e w1 ⟨rfl, hr1, hf1⟩
      have H1 := Lib.hid (And.intro hr1 hf1)
      clear hr1 hf1
      go_wp2_with fail
      go_ret
      exact (show WriteR _ _ _ _ _ _ _ from ⟨F, H1.out.1, rfl, H1.out.2, Grew.refl w F⟩)
    | false =>
      obtain ⟨dd, aa, ll, hwe⟩ : ∃ dd aa ll, D.went = ⟨D.secs, D.waits, dd, aa, ll⟩ := ⟨_, _, _, D.went_eq⟩
      have HG : Hid (D.flush = (⟨layW D.secs D.waits, [], dd, aa, ll⟩, 0)) := by show _ = _; rw [Dk.flush, if_neg (by simp [hd]), if_neg (by simp [hg]), hwe]
      rw [HG.out]
      rw [hg, hwe] at C1
      obtain ⟨n, hn⟩ : ∃ n, n = D.waits.length := ⟨_, rfl⟩
      have HN := Lib.hid hn
      have hnb : n ≤ 1000000 := by rw [hn]; exact HWS.out
      clear hd hg hwe hn
      go_enter Try.func17, Try.ntmps17
      go_wp2_with fail
      refine C1.out.mono ?_
      rintro e w1 ⟨rfl, hr1, hf1⟩
      have H1 := Lib.hid (And.intro hr1 hf1)
      clear hr1 hf1 C1
      go_wp2_with fail
      go_loopw [3] (fun k wr => ∃ i : Nat, i ≤ n ∧ k = .int .i64 i ∧ RDk wr F B g ⟨layW D.secs (D.waits.take i), D.waits, dd, aa, ll⟩ ∧ Fr F w1 wr) (fun k _ => n - (intOf k).toNat)
      case atStart => exact ⟨0, Nat.zero_le _, rfl, H1.out.1, Fr.refl F w1⟩
      case round =>
        obtain ⟨i, hi, rfl, hr, hfr⟩ := hrel
        have HR := Lib.hid (And.intro hr hfr)
        by_cases hlt : i < n
        · have tn : (i : Int) < (n : Int) := by omega
          have i0 : (0 : Int) ≤ (i : Int) := by omega
          have hil : i < D.waits.length := by rw [← HN.out]; exact hlt
          obtain ⟨ga, gw, cap, c1, k0, k1, k2, k3, ho, hl, hne, hFg⟩ := hr.wait (i := i) hil
          have hat := hr.inn _ (List.getElem_mem hil)
          have C2 := Lib.hid (rdone_any wr (f := 0) (t := 64) hr k0 hat ho hl hne (Nat.zero_le _) (Nat.le_refl _))
          have e2 : (layW D.secs (D.waits.take i)).set D.waits[i].1 (part ((layW D.secs (D.waits.take i))[D.waits[i].1]'hat) D.waits[i].2 0 64) = layW D.secs (D.waits.take (i + 1)) := by
            rw [part_all (hr.wide _ (List.getElem_mem hat)) hl, List.take_add_one, List.getElem?_eq_getElem hil]
            exact (layW_snoc _ _ _).symm
          have HE := Lib.hid e2
          have HGA := Lib.hid hFg
          change wr.cell? ⟨g, 1, none⟩ = some (.slice (some ⟨gw, 0, none⟩) D.waits.length cap) at k1
          change wr.cell? ⟨gw, i * 2, none⟩ = some (.int .i64 (D.waits[i].1 : Int)) at k2
          rw [← HN.out] at k1
          clear k0 ho hl hne hr hfr e2 hFg
          go_wp2_with fail
          refine C2.out.mono ?_
          rintro e w2 ⟨rfl, hr2, hf2⟩
          have H2 : Hid (RDk w2 F B g ⟨layW D.secs (D.waits.take (i + 1)), D.waits, dd, aa, ll⟩ ∧ Fr F w1 w2) := by
            refine ⟨?_, HR.out.2.trans (hf2.mono fun k e => e ▸ HGA.out) (Grew.refl w1 F)⟩
            rw [← HE.out]; exact hr2
          clear hr2 hf2
          go_wp2_with fail
          go_roundw
          case rel => exact ⟨i + 1, by omega, by simp, H2.out⟩
          case measure => simp [intOf]; omega
        · obtain rfl : n = i := by omega
          have tn : ¬ (n : Int) < (n : Int) := by omega
          obtain ⟨ga, vw, cs, s1, s2, s3, s4, s5, s6, -⟩ := hr.st
          obtain ⟨AW, cW, rfl, -⟩ := len_of_own s6
          change wr.heap[g]? = some (.cells #[_, .slice AW D.waits.length cW, _, _, _] _ _) at s1
          rw [← HN.out] at s1
          have k1 : wr.cell? ⟨g, 1, none⟩ = some (.slice AW n cW) := by simp [World.cell?, s1]
          have f1 : wr.frozen? ⟨g, 1, none⟩ = false := by simp [World.frozen?, s1]
          have HCL := Lib.hid hr.clear
          clear s1 s2 s3 s4 s5 s6 hr hfr hlt hi
          go_wp2_with fail
          go_ret
          have e3 : D.waits.take n = D.waits := List.take_of_length_le (by rw [← HN.out]; exact Nat.le_refl _)
          have h3 := HCL.out.1
          rw [e3] at h3
          exact (show WriteR _ _ _ _ _ _ _ from ⟨F, h3, rfl, (H1.out.2.trans HR.out.2 (Grew.refl w F)).trans HCL.out.2 (Grew.refl w F), Grew.refl w F⟩)
end Go.Proofs.Ytchcimckffonjaa
