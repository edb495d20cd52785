/- Slices of ints as readings; the statement's Ints. -/
import Derived.Test.YtkflekaibfkicaaBagK
namespace Go.Proofs.Ytkflekaibfkicaa
open Go.RowKit

/-- A slice of n ints reads as xs. -/
def Rz (w : World) (A : Option Addr) (n : Nat) (xs : List Int) : Prop :=
  n = xs.length ∧ (0 < n → ∃ b o, A = some ⟨b, o, none⟩ ∧ ∀ j x, xs[j]? = some x → w.cell? ⟨b, o + j, none⟩ = some (.int .i64 x))
section
variable {w w' : World} {A : Option Addr} {n : Nat} {xs : List Int} {base : Nat} {v : Value}
theorem Ov.rz (h : Ov w base 3 v (xs.map (Value.int .i64))) : ∃ A c, v = .slice A xs.length c ∧ xs.length ≤ c ∧ Rz w A xs.length xs := by
  obtain ⟨A, c, hv, hc, hf⟩ := h.form
  rw [List.length_map] at hv hc hf
  refine ⟨A, c, hv, hc, rfl, fun h0 => ?_⟩
  obtain ⟨b, rfl, -, -, hx⟩ := hf h0
  exact ⟨b, 0, rfl, fun j x hj => by rw [Nat.zero_add]; exact hx j _ (by rw [List.getElem?_map, hj]; rfl)⟩
theorem Rz.at_ (h : Rz w A n xs) {i : Nat} (hi : i < n) : ∃ b o x, A = some ⟨b, o, none⟩ ∧ xs[i]? = some x ∧ w.cell? ⟨b, o + i, none⟩ = some (.int .i64 x) := by
  obtain ⟨b, o, hA, hx⟩ := h.2 (by omega)
  have hl : i < xs.length := by rw [← h.1]; exact hi
  exact ⟨b, o, xs[i], hA, List.getElem?_eq_getElem hl, hx i _ (List.getElem?_eq_getElem hl)⟩
theorem Rz.keep (h : Rz w A n xs) (hk : ∀ b o, A = some ⟨b, o, none⟩ → ∀ j u, w.cell? ⟨b, j, none⟩ = some u → w'.cell? ⟨b, j, none⟩ = some u) : Rz w' A n xs :=
  ⟨h.1, fun h0 => by
    obtain ⟨b, o, hA, hx⟩ := h.2 h0
    exact ⟨b, o, hA, fun j x hj => hk b o hA _ _ (hx j x hj)⟩⟩
theorem Rz.below (h : Rz w A n xs) (hb : Below w.heap.size w w') : Rz w' A n xs :=
  h.keep fun b _ _ j _ hu => (World.cell?_of_block (w := w) (a := ⟨b, j, none⟩) (hb.block b (World.block_lt_of_cell? w ⟨b, j, none⟩ hu))).trans hu
end

theorem Rz.nil_ {w : World} : Rz w none 0 [] := ⟨rfl, fun h => absurd h (Nat.lt_irrefl 0)⟩
theorem Rz.of_ints {w : World} {x : Addr} {n c : Nat} {zs : List Int} (hn : n ≤ c) (hz : zs.length = c) (hcell : ∀ i, i < zs.length → w.cell? (x.add i) = some (.int .i64 (zs.getD i 0))) : Rz w (some x) n (zs.take n) := by
  refine ⟨by simp; omega, fun h0 => ?_⟩
  obtain ⟨b, off, spot⟩ := x
  have hc := hcell 0 (by omega)
  have hspot : spot = none := by simpa [Addr.add] using World.cell?_spot hc
  subst hspot
  refine ⟨b, off, rfl, fun j x hj => ?_⟩
  have hjn : j < n := by
    rcases Nat.lt_or_ge j n with h | h
    · exact h
    · rw [List.getElem?_eq_none (by simp; omega)] at hj; cases hj
  rw [List.getElem?_take_of_lt hjn] at hj
  have h := hcell j (by omega)
  have e : (⟨b, off, none⟩ : Addr).add j = ⟨b, off + j, none⟩ := by unfold Addr.add; split <;> simp_all
  rw [e] at h
  rw [h, List.getD_eq_getElem?_getD, hj]
  rfl
theorem below_dN (w : World) (n : Nat) : Below w.heap.size w (w.drewN n) := ⟨rfl, rfl, rfl, Nat.le_refl _, fun _ _ => rfl⟩

set_option maxRecDepth 100000 in
set_option maxHeartbeats 1000000 in
theorem rints_any (w : World) {A A' : Option Addr} {n n' : Nat} {xs ys : List Int} (c c' : Nat) (h : Rz w A n xs) (h' : Rz w A' n' ys) (hn : n ≤ 1000000) :
    Calls Try.prog 15 #[.slice A n c, .slice A' n' c'] w fun e w' => e = .returned (.bool (decide (xs = ys))) ∧ Below w.heap.size w w' := by
  obtain ⟨R, hR⟩ : ∃ R, R = decide (xs = ys) := ⟨_, rfl⟩
  rw [← hR]
  have HR := Lib.hid hR
  have H := Lib.hid (And.intro h h')
  by_cases hnn : n = n'
  case neg =>
    have hf : R = false := by rw [hR, decide_eq_false_iff_not]; rintro rfl; exact hnn (h.1.trans h'.1.symm)
    subst hf
    have hne : ((n : Int) != (n' : Int)) = true := by simp; omega
    clear hR h h'
    go_enter Try.func15, Try.ntmps15
    go_wp2_with fail
    go_ret
    exact ⟨rfl, Below.refl _ _⟩
  subst hnn
  clear hR h h'
  go_enter Try.func15, Try.ntmps15
  go_wp2_with fail
  go_loopw [5] (fun k wr => ∃ i : Nat, i ≤ n ∧ k = .int .i64 i ∧ xs.take i = ys.take i ∧ Below w.heap.size w wr) (fun k _ => n - (intOf k).toNat)
  case atStart => exact ⟨0, Nat.zero_le _, rfl, by simp, Below.refl _ _⟩
  case round =>
    obtain ⟨i, hi, rfl, he, hb⟩ := hrel
    have HE := Lib.hid (And.intro he hb)
    by_cases hlt : i < n
    · have tn : (i : Int) < (n : Int) := by omega
      have i0 : (0 : Int) ≤ (i : Int) := by omega
      obtain ⟨b, o, x, rfl, hx, hcx⟩ := (H.out.1.below hb).at_ hlt
      obtain ⟨b', o', y, rfl, hy, hcy⟩ := (H.out.2.below hb).at_ hlt
      have HXY := Lib.hid (And.intro hx hy)
      clear hx hy he hb
      by_cases hxy : x = y
      · subst hxy
        have hne : (x != x) = false := by simp
        go_wp2_with fail
        go_quiet (fail)
        have HB : Hid (Below w.heap.size w (wr.drewN nq)) := HE.out.2.trans ((below_dN wr nq).mono HE.out.2.size)
        generalize wr.drewN nq = wq at *
        go_wp2_with fail
        go_roundw
        case rel =>
          refine ⟨i + 1, by omega, by simp, ?_, HB.out⟩
          rw [List.take_add_one, List.take_add_one, HE.out.1, HXY.out.1, HXY.out.2]
        case measure => simp [intOf]; omega
      · have hf : R = false := by
          rw [HR.out, decide_eq_false_iff_not]
          rintro rfl
          have := HXY.out.1.symm.trans HXY.out.2
          injection this with this
          exact hxy this
        subst hf
        have hne : (x != y) = true := by simpa using hxy
        go_wp2_with fail
        go_quiet (fail)
        have HB : Hid (Below w.heap.size w (wr.drewN nq)) := HE.out.2.trans ((below_dN wr nq).mono HE.out.2.size)
        generalize wr.drewN nq = wq at *
        go_wp2_with fail
        go_ret
        exact ⟨rfl, HB.out⟩
    · obtain rfl : i = n := by omega
      have ht : R = true := by
        rw [HR.out, decide_eq_true_iff]
        rw [List.take_of_length_le (by rw [← H.out.1.1]; exact Nat.le_refl _), List.take_of_length_le (by rw [← H.out.2.1]; exact Nat.le_refl _)] at he
        exact he
      subst ht
      clear he
      go_wp2_with fail
      go_ret
      exact ⟨rfl, HE.out.2⟩
end Go.Proofs.Ytkflekaibfkicaa
