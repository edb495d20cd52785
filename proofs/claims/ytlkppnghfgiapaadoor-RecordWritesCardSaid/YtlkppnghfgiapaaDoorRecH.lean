/- Layer 14's reference: Next, where it says no at once. (Made by gen/RecH.py.) -/
import Derived.Test.YtlkppnghfgiapaaDoorRecG
namespace Go.Proofs.YtlkppnghfgiapaaDoor
open Go.RowKit

/-- What Next answers. -/
def NexR (salt : Nat) (l : List UInt8) (w : World) (e : Ending) (w' : World) : Prop := Below w.heap.size w w' ∧ ∃ A n c, e = .returned (.tuple #[recV (nextR salt l).1.typ A n c, .int .i64 ((nextR salt l).2.1 : Int), .int .i64 (nextR salt l).2.2]) ∧ Ob w' w.heap.size 5 (.slice A n c) (nextR salt l).1.dat
theorem nexR_no {salt : Nat} {l : List UInt8} {w w' : World} {e : Ending} {z : Int} (h : nextR salt l = (.zero, 0, z)) (hb : Below w.heap.size w w') (he : e = .returned (.tuple #[.agg #[.int .i64 0, .slice none 0 0], .int .i64 0, .int .i64 z])) : NexR salt l w e w' := by
  refine ⟨hb, none, 0, 0, ?_, ?_⟩
  · rw [he, h]; rfl
  · rw [h]; exact Ob.nil_ _ _ _
theorem below_put2 {B g : Nat} {w W' : World} {u0 u1 : Value} (h : Below B w W') (hg : B ≤ g) : Below B w ((W'.setCell ⟨g, 0, none⟩ u0).setCell ⟨g, 1, none⟩ u1) := (h.setCell (p := ⟨g, 0, none⟩) hg _).setCell (p := ⟨g, 1, none⟩) hg _
theorem row2 {W : World} {g : Nat} {c0 c1 : Value} {t : TypeId} (h : W.heap[g]? = some (.cells #[c0, c1] t (0, 0))) :
    (W.cell? ⟨g, 0, none⟩ = some c0 ∧ W.cell? ⟨g, 1, none⟩ = some c1) ∧ W.frozen? ⟨g, 0, none⟩ = false ∧ W.frozen? ⟨g, 1, none⟩ = false := by
  refine ⟨⟨?_, ?_⟩, ?_, ?_⟩ <;> simp [World.cell?, World.frozen?, h]
theorem cut_lh14 {P : Program} {w : World} {B n : Nat} {A : Option Addr} {l : List UInt8} (t e : TypeId) (ht : P.underlying t = some (.slice e)) (hz : ∀ W : World, (sizeOf e).run P W = .ok 1 W) (c : Nat) (h : Rd w B A n l) (x y : Int) (i j : Nat) (hx : x = (i : Int)) (hy : y = (j : Int)) (hij : i ≤ j) (hj : j ≤ n) (hc : n ≤ c) (hi : i < n) :
    ∃ A' c', (∀ W : World, (Instr.slice t (.slice A n c) (some (.int .i64 x)) (some (.int .i64 y)) none).run P W = .ok (.slice A' (j - i) c') W) ∧ j - i ≤ c' ∧ c' ≤ c ∧ Rd w B A' (j - i) ((l.drop i).take (j - i)) := by
  subst hx hy
  refine ⟨A.map (·.add i), c - i, fun W => ?_, by omega, by omega, (h.cut (k := i)).take (by omega)⟩
  have h1 : ¬ c = i := by omega
  have h2 : j ≤ c := by omega
  have h3 : i ≤ j := by omega
  go_simp

set_option maxRecDepth 100000 in
set_option maxHeartbeats 8000000 in
/-- Fewer than three bytes. -/
theorem rnext_few (salt : Nat) (A : Option Addr) (n c B : Nat) (l : List UInt8) (w : World) (h : Rd w B A n l) (h3 : n < 3) :
    Calls Tryd.prog 14 #[.int .u64 (salt : Int), .slice A n c] w (NexR salt l w) := by
  have HB : Hid (Below w.heap.size w (w.alloc (.cells #[.int .i64 0, .slice none 0 0] 25))) := (Below.refl _ _).alloc (Nat.le_refl _) _
  obtain ⟨⟨z0, z1⟩, f0, f1⟩ := row2 (heap_alloc_new w (.cells #[.int .i64 0, .slice none 0 0] 25))
  have HX : Hid (nextR salt l = (.zero, 0, 30)) := by
    show _ = _
    unfold nextR
    rw [if_pos (by rw [h.1]; exact h3)]
  have h3i : (n : Int) < 3 := by omega
  clear h h3
  go_enter Tryd.func14, Tryd.ntmps14
  go_wp2_with fail
  exact bodyPost_ret (v := .tuple #[.agg #[.int .i64 0, .slice none 0 0], .int .i64 0, .int .i64 30]) (by simp [results, Tryd.results14, go_sem, z0, z1]) rfl (nexR_no HX.out (by first | exact HB.out | exact below_put2 HB.out (Nat.le_refl _)) rfl)

set_option maxRecDepth 100000 in
set_option maxHeartbeats 8000000 in
/-- A sign that is no record's, or too short. -/
theorem rnext_no (salt : Nat) (A : Option Addr) (n c B : Nat) (l : List UInt8) (w : World) (h : Rd w B A n l) (hB : B ≤ w.heap.size) (hn : n ≤ 140737488355328) (hc : n ≤ c) (h3 : ¬ n < 3) (hno : l.getD 2 0 = 0 ∨ 8192 < lenR l ∨ n < lenR l + 7) :
    Calls Tryd.prog 14 #[.int .u64 (salt : Int), .slice A n c] w (NexR salt l w) := by
  obtain ⟨w1, hw1⟩ : ∃ w1, w1 = w.alloc (.cells #[.int .i64 0, .slice none 0 0] 25) := ⟨_, rfl⟩
  have hb1 : Below w.heap.size w w1 := by rw [hw1]; exact (Below.refl _ _).alloc (Nat.le_refl _) _
  have HB := Lib.hid hb1
  obtain ⟨⟨z0, z1⟩, f0, f1⟩ := row2 (show w1.heap[w.heap.size]? = some (.cells #[.int .i64 0, .slice none 0 0] 25 (0, 0)) by rw [hw1]; exact heap_alloc_new w _)
  have HW := Lib.hid hw1
  have h1 : Rd w1 B A n l := h.below (hb1.mono hB)
  obtain ⟨b, o, rfl, hb, hcell⟩ := h1.2 (by omega)
  have q2 := hcell 2 (by omega)
  obtain ⟨A2, c2, cut2, -, -, hr2⟩ := cut_h (P := Tryd.prog) 23 5 Tryd.underlying23 size_u8 c h1 2 2 rfl (by omega) hc
  have CG := Lib.hid (rget_any A2 2 c2 (l.take 2) w1 B hr2 (by decide))
  have hlt := lenR_lt l
  have hll : l.length = n := h.1
  have hlR : beNat (l.take 2) = lenR l := rfl
  rw [hlR] at CG
  have h3i : ¬ (n : Int) < 3 := by omega
  by_cases hz : l.getD 2 0 = 0
  · have HX : Hid (nextR salt l = (.zero, 0, 140)) := by
      show _ = _
      unfold nextR
      rw [if_neg (by omega), if_pos (.inl hz)]
    rw [hz] at q2
    have q2' : w1.cell? ⟨b, o + 2, none⟩ = some (.int .u8 0) := q2
    generalize lenR l = M at *
    have wM : IntKind.i64.wrap (M : Int) = (M : Int) := by rw [IntKind.wrap_i64]; omega
    clear h h1 h3 hb1 hw1 hcell hr2 q2 hno hlR hll hz hB hn hc hb
    go_enter Tryd.func14, Tryd.ntmps14
    go_wp2_with fail
    rw [← HW.out]
    refine CG.out.mono ?_
    rintro e u1 ⟨rfl, rfl⟩
    go_wp2_with fail
    exact bodyPost_ret (v := .tuple #[.agg #[.int .i64 0, .slice none 0 0], .int .i64 0, .int .i64 140]) (by simp [results, Tryd.results14, go_sem, z0, z1]) rfl (nexR_no HX.out (by first | exact HB.out | exact below_put2 HB.out (Nat.le_refl _)) rfl)
  have hzi : (((l.getD 2 0).toNat : Int) == 0) = false := by
    have : (l.getD 2 0).toNat ≠ 0 := fun e => hz (UInt8.toNat_inj.1 e)
    rw [beq_eq_false_iff_ne]
    omega
  by_cases hm : 8192 < lenR l
  · have HX : Hid (nextR salt l = (.zero, 0, 140)) := by
      show _ = _
      unfold nextR
      rw [if_neg (by omega), if_pos (.inr hm)]
    generalize lenR l = M at *
    generalize (l.getD 2 0).toNat = X at *
    have wM : IntKind.i64.wrap (M : Int) = (M : Int) := by rw [IntKind.wrap_i64]; omega
    have hmi : (8192 : Int) < (M : Int) := by omega
    clear h h1 h3 hb1 hw1 hcell hr2 hno hlR hll hz hB hn hc hb hm hlt
    go_enter Tryd.func14, Tryd.ntmps14
    go_wp2_with fail
    rw [← HW.out]
    refine CG.out.mono ?_
    rintro e u1 ⟨rfl, rfl⟩
    go_wp2_with fail
    exact bodyPost_ret (v := .tuple #[.agg #[.int .i64 0, .slice none 0 0], .int .i64 0, .int .i64 140]) (by simp [results, Tryd.results14, go_sem, z0, z1]) rfl (nexR_no HX.out (by first | exact HB.out | exact below_put2 HB.out (Nat.le_refl _)) rfl)
  · have hs : n < lenR l + 7 := by
      rcases hno with h | h | h
      · exact absurd h hz
      · exact absurd h hm
      · exact h
    have HX : Hid (nextR salt l = (.zero, 0, 30)) := by
      show _ = _
      unfold nextR
      rw [if_neg (by omega), if_neg (by rintro (h | h); exact hz h; exact hm h), if_pos (by omega)]
    generalize lenR l = M at *
    generalize (l.getD 2 0).toNat = X at *
    have wM : IntKind.i64.wrap (M : Int) = (M : Int) := by rw [IntKind.wrap_i64]; omega
    have hmi : ¬ (8192 : Int) < (M : Int) := by omega
    have hsi : (n : Int) < (M : Int) + 7 := by omega
    clear h h1 h3 hb1 hw1 hcell hr2 hno hlR hll hz hB hn hc hb hm hs
    go_enter Tryd.func14, Tryd.ntmps14
    go_wp2_with fail
    rw [← HW.out]
    refine CG.out.mono ?_
    rintro e u1 ⟨rfl, rfl⟩
    go_wp2_with fail
    exact bodyPost_ret (v := .tuple #[.agg #[.int .i64 0, .slice none 0 0], .int .i64 0, .int .i64 30]) (by simp [results, Tryd.results14, go_sem, z0, z1]) rfl (nexR_no HX.out (by first | exact HB.out | exact below_put2 HB.out (Nat.le_refl _)) rfl)
end Go.Proofs.YtlkppnghfgiapaaDoor
