/- The statement's own table: where a key stands. -/
import Derived.Test.YtkflekaibfkicaaBagU
namespace Go.Proofs.Ytkflekaibfkicaa
open Go.RowKit

set_option maxRecDepth 100000 in
set_option maxHeartbeats 2000000 in
theorem uplace_any (w : World) {g n c : Nat} {A : Option Addr} {ks : List Int} (k : Int) (hc : w.cell? ⟨g, 0, none⟩ = some (.slice A n c)) (h : Rz w A n ks) (hn : n ≤ 1000000) :
    Calls Try.prog 28 #[.pointer (some ⟨g, 0, none⟩), .int .i64 k] w fun e w' => ∃ (i : Nat) (ok : Bool), e = .returned (.tuple #[.int .i64 (i : Int), .bool ok]) ∧ i ≤ n ∧ (∀ j x, j < i → ks[j]? = some x → x < k) ∧ (ok = true → ks[i]? = some k) ∧ (ok = false → ∀ x, ks[i]? = some x → k < x) ∧ Below w.heap.size w w' := by
  have HC := Lib.hid hc
  have HR := Lib.hid h
  clear h
  go_enter Try.func28, Try.ntmps28
  go_wp2_with fail
  go_loopw [6] (fun k' wr => ∃ i : Nat, i ≤ n ∧ k' = .int .i64 i ∧ (∀ j x, j < i → ks[j]? = some x → x < k) ∧ Below w.heap.size w wr) (fun k' _ => n - (intOf k').toNat)
  case atStart => exact ⟨0, Nat.zero_le _, rfl, fun j x h => by omega, Below.refl _ _⟩
  case round =>
    obtain ⟨i, hi, rfl, hlow, hb⟩ := hrel
    have HL := Lib.hid (And.intro hlow hb)
    have hcr : wr.cell? ⟨g, 0, none⟩ = some (.slice A n c) := hb.cell (p := ⟨g, 0, none⟩) (World.block_lt_of_cell? w ⟨g, 0, none⟩ hc) |>.trans hc
    have hrr := HR.out.below hb
    clear hlow hc
    have hs : ∀ W, Below wr.heap.size wr W → W.cell? ⟨g, 0, none⟩ = some (.slice A n c) := fun W hW => (hW.cell (p := ⟨g, 0, none⟩) (World.block_lt_of_cell? wr ⟨g, 0, none⟩ hcr)).trans hcr
    have HS := Lib.hid hs
    clear hs
    by_cases hlt : i < n
    · have tn : (i : Int) < (n : Int) := by omega
      have i0 : (0 : Int) ≤ (i : Int) := by omega
      obtain ⟨b, o, x, rfl, hx, hcx⟩ := hrr.at_ hlt
      have HX := Lib.hid (And.intro hx (And.intro hrr hcx))
      clear hx hrr hb
      by_cases hxk : x < k
      · go_wp2_with fail
        go_roundw
        case rel =>
          refine ⟨i + 1, by omega, by simp, fun j y h1 h2 => ?_, HL.out.2⟩
          by_cases hj : j = i
          · subst hj
            have := HX.out.1.symm.trans h2
            injection this with this
            rw [← this]; exact hxk
          · exact HL.out.1 j y (by omega) h2
        case measure => simp [intOf]; omega
      · have tk : ¬ x < k := hxk
        by_cases he : x = k
        · subst he
          have he2 : (x == x) = true := by simp
          go_wp2_with fail
          go_quiet (fail)
          have HQ : Hid (Below w.heap.size w (wr.drewN nq)) := HL.out.2.trans ((below_dN wr nq).mono HL.out.2.size)
          generalize wr.drewN nq = wq at *
          go_wp2_with fail
          refine bodyPost_ret (v := .tuple #[.int .i64 (i : Int), .bool true]) (by simp [results, Try.results28, go_sem]) rfl ?_
          exact ⟨i, true, rfl, hi, HL.out.1, fun _ => HX.out.1, (by simp), HQ.out⟩
        · have he2 : (x == k) = false := by simpa using he
          go_wp2_with fail
          go_quiet (fail)
          have HQ : Hid (Below w.heap.size w (wr.drewN nq)) := HL.out.2.trans ((below_dN wr nq).mono HL.out.2.size)
          generalize wr.drewN nq = wq at *
          go_wp2_with fail
          refine bodyPost_ret (v := .tuple #[.int .i64 (i : Int), .bool false]) (by simp [results, Try.results28, go_sem]) rfl ?_
          refine ⟨i, false, rfl, hi, HL.out.1, (by simp), fun _ y hy => ?_, HQ.out⟩
          have := HX.out.1.symm.trans hy
          injection this with this
          omega
    · obtain rfl : n = i := by omega
      have tn : ¬ (n : Int) < (n : Int) := by omega
      clear hlt hrr hb hi
      go_wp2_with fail
      go_quiet (fail)
      have HQ : Hid (Below w.heap.size w (wr.drewN nq)) := HL.out.2.trans ((below_dN wr nq).mono HL.out.2.size)
      generalize wr.drewN nq = wq at *
      go_wp2_with fail
      refine bodyPost_ret (v := .tuple #[.int .i64 (n : Int), .bool false]) (by simp [results, Try.results28, go_sem]) rfl ?_
      exact ⟨n, false, rfl, Nat.le_refl _, HL.out.1, (by simp), (fun _ y hy => by rw [List.getElem?_eq_none (by rw [← HR.out.1]; exact Nat.le_refl _)] at hy; cases hy), HQ.out⟩
end Go.Proofs.Ytkflekaibfkicaa
