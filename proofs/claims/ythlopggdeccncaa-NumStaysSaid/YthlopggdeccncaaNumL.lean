/- The walks of the statements on counters: NumCounts, NumStays. -/
import Derived.Test.YthlopggdeccncaaNumH
namespace Go.Proofs.Ythlopggdeccncaa
open Go.RowKit

theorem cadd_swap (a b : Int) : cadd a b = cadd b a := by unfold cadd; rw [Int.add_comm]
theorem ctr_cadd (a b : Int) : ctr (cadd a b) = cadd a b := by
  have ha := ctr_bd a
  have hb := ctr_bd b
  unfold cadd
  split
  · exact ctr_id _ (by omega) (by omega)
  · exact ctr_id _ (by omega) (by omega)
theorem cadd_assoc (a b c : Int) : cadd a (cadd b c) = cadd (cadd a b) c := by
  have ha := ctr_bd a
  have hb := ctr_bd b
  have hc := ctr_bd c
  have h1 : cadd a (cadd b c) = if ctr a + cadd b c > 4611686018427387904 then 4611686018427387904 else ctr a + cadd b c := by
    show (if ctr a + ctr (cadd b c) > 4611686018427387904 then 4611686018427387904 else ctr a + ctr (cadd b c)) = _
    rw [ctr_cadd]
  have h2 : cadd (cadd a b) c = if cadd a b + ctr c > 4611686018427387904 then 4611686018427387904 else cadd a b + ctr c := by
    show (if ctr (cadd a b) + ctr c > 4611686018427387904 then 4611686018427387904 else ctr (cadd a b) + ctr c) = _
    rw [ctr_cadd]
  rw [h1, h2]
  unfold cadd
  repeat' split
  all_goals omega
theorem cadd_bd (a b : Int) : 0 ≤ cadd a b ∧ cadd a b ≤ 4611686018427387904 ∧ ctr a ≤ cadd a b := by
  have ha := ctr_bd a
  have hb := ctr_bd b
  unfold cadd
  split <;> omega
theorem csub_bd (a b : Int) : 0 ≤ csub a b ∧ csub a b ≤ ctr a := by
  have ha := ctr_bd a
  have hb := ctr_bd b
  unfold csub
  split <;> omega

set_option maxRecDepth 100000 in
set_option maxHeartbeats 1000000 in
theorem numCounts_walk (a b : Int) (w : World) (_ha : (Lit.int .i64 a).wf = true) (_hb : (Lit.int .i64 b).wf = true) :
    Calls Try.prog 4 #[.int .i64 a, .int .i64 b] w fun e w' => e = .returned (.bool true) ∧ Below w.heap.size w w' := by
  go_enter Try.func4, Try.ntmps4
  go_wp2_with fail
  refine (sum_any a b _).mono ?_
  rintro e w1 ⟨rfl, rfl⟩
  go_wp2_with fail
  refine (rsum_any a b _).mono ?_
  rintro e w1 ⟨rfl, rfl⟩
  go_wp2_with fail
  refine (less_any a b _).mono ?_
  rintro e w1 ⟨rfl, rfl⟩
  go_wp2_with fail
  refine (rless_any a b _).mono ?_
  rintro e w1 ⟨rfl, rfl⟩
  go_wp2_with fail
  refine (heads_any _).mono ?_
  rintro e w1 ⟨rfl, hb1⟩
  have HB := Lib.hid hb1
  clear hb1
  go_wp2_with fail
  go_ret
  exact ⟨rfl, HB.out⟩

set_option maxRecDepth 100000 in
set_option maxHeartbeats 1000000 in
theorem numStays_walk (a b c : Int) (w : World) (_ha : (Lit.int .i64 a).wf = true) (_hb : (Lit.int .i64 b).wf = true) (_hc : (Lit.int .i64 c).wf = true) :
    Calls Try.prog 6 #[.int .i64 a, .int .i64 b, .int .i64 c] w fun e w' => e = .returned (.bool true) ∧ Below w.heap.size w w' := by
  have k1 := fun w => sum_any a b w
  have k2 := fun w => sum_any (cadd a b) c w
  have k3 := fun w => sum_any b c w
  have k4 := fun w => sum_any a (cadd b c) w
  have k5 := fun w => less_any (cadd (cadd a b) c) c w
  have k6 := fun w => sum_any b a w
  rw [cadd_assoc] at k4
  rw [cadd_swap] at k6
  have b1 := cadd_bd (cadd a b) c
  have b2 := csub_bd (cadd (cadd a b) c) c
  have b3 := cadd_bd a b
  rw [ctr_cadd] at b1 b2
  have b4 : min (max a 0) 4611686018427387904 ≤ cadd (cadd a b) c := by
    have h : ctr a = min (max a 0) 4611686018427387904 := by unfold ctr; split <;> (try split) <;> omega
    omega
  have K1 := Lib.hid k1
  have K2 := Lib.hid k2
  have K3 := Lib.hid k3
  have K4 := Lib.hid k4
  have K5 := Lib.hid k5
  have K6 := Lib.hid k6
  clear k1 k2 k3 k4 k5 k6
  generalize cadd (cadd a b) c = s at *
  generalize csub s c = l at *
  generalize cadd b c = u at *
  generalize cadd a b = v at *
  obtain ⟨b11, b12, b13⟩ := b1
  obtain ⟨b21, b22⟩ := b2
  clear b3 b13
  go_enter Try.func6, Try.ntmps6
  go_wp2_with fail
  refine (K1.out _).mono ?_
  rintro e w1 ⟨rfl, rfl⟩
  go_wp2_with fail
  refine (K2.out _).mono ?_
  rintro e w1 ⟨rfl, rfl⟩
  go_wp2_with fail
  refine (K3.out _).mono ?_
  rintro e w1 ⟨rfl, rfl⟩
  go_wp2_with fail
  refine (K4.out _).mono ?_
  rintro e w1 ⟨rfl, rfl⟩
  go_wp2_with fail
  refine (K5.out _).mono ?_
  rintro e w1 ⟨rfl, rfl⟩
  go_wp2_with fail
  refine (K1.out _).mono ?_
  rintro e w1 ⟨rfl, rfl⟩
  go_wp2_with fail
  refine (K6.out _).mono ?_
  rintro e w1 ⟨rfl, rfl⟩
  go_wp2_with fail
  refine (heads_any _).mono ?_
  rintro e w1 ⟨rfl, hb1⟩
  have HB := Lib.hid hb1
  clear hb1
  go_wp2_with fail
  go_ret
  exact ⟨rfl, HB.out⟩
end Go.Proofs.Ythlopggdeccncaa
