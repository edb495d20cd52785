/- What the small functions of layer 1 (num) and of its reference return: counter, Sum, Less, keep, Sum and Less of the reference, digit. No condition but that integers fit their kind. -/
import Derived.Test.YthlopggdeccncaaRows
import Derived.WalkKit
import Derived.WalkLawsBesides
import Derived.BigGuardPart
import Derived.BigQuiet
import Derived.Deep.QuietTactic
import Derived.Outline
import Derived.Lib.Hide
import Derived.Test.YthlopggdeccncaaNumW
namespace Go.Proofs.Ythlopggdeccncaa
open Go.RowKit

/-- A number as the nearest one that a counter may have. -/
def ctr (n : Int) : Int := if n < 0 then 0 else if n > 4611686018427387904 then 4611686018427387904 else n
theorem ctr_bd (n : Int) : 0 ≤ ctr n ∧ ctr n ≤ 4611686018427387904 := by unfold ctr; split <;> (try split) <;> omega
theorem ctr_id (n : Int) (h0 : 0 ≤ n) (h1 : n ≤ 4611686018427387904) : ctr n = n := by unfold ctr; rw [if_neg (by omega), if_neg (by omega)]
def cadd (a b : Int) : Int := if ctr a + ctr b > 4611686018427387904 then 4611686018427387904 else ctr a + ctr b
def csub (a b : Int) : Int := if ctr b > ctr a then 0 else ctr a - ctr b

theorem ret_int {k : IntKind} {a b : Int} (h : a = b) : Ending.returned (.int k a) = .returned (.int k b) := by rw [h]

theorem counter_any (n : Int) (w : World) :
    Calls Try.prog 20 #[.int .i64 n] w fun e w' => e = .returned (.int .i64 (ctr n)) ∧ w = w' := by
  go_enter Try.func20, Try.ntmps20
  go_wp2
  all_goals
    go_ret
    exact ⟨ret_int (by unfold ctr; split <;> (try split) <;> omega), rfl⟩

theorem keep_any (n : Int) (w : World) :
    Calls Try.prog 21 #[.int .i64 n] w fun e w' => e = .returned (.int .i64 (ctr n)) ∧ w = w' := by
  go_enter Try.func21, Try.ntmps21
  go_wp2
  all_goals
    go_ret
    exact ⟨ret_int (by unfold ctr; split <;> (try split) <;> omega), rfl⟩

theorem sum_any (a b : Int) (w : World) :
    Calls Try.prog 11 #[.int .i64 a, .int .i64 b] w fun e w' => e = .returned (.int .i64 (cadd a b)) ∧ w = w' := by
  have ha := ctr_bd a
  have hb := ctr_bd b
  go_enter Try.func11, Try.ntmps11
  go_wp2_with (go_at_call 20; refine (counter_any _ _).mono ?_; rintro e w' ⟨rfl, rfl⟩)
  all_goals
    go_ret
    exact ⟨ret_int (by unfold cadd; split <;> omega), rfl⟩

theorem less_any (a b : Int) (w : World) :
    Calls Try.prog 13 #[.int .i64 a, .int .i64 b] w fun e w' => e = .returned (.int .i64 (csub a b)) ∧ w = w' := by
  have ha := ctr_bd a
  have hb := ctr_bd b
  go_enter Try.func13, Try.ntmps13
  go_wp2_with (go_at_call 20; refine (counter_any _ _).mono ?_; rintro e w' ⟨rfl, rfl⟩)
  all_goals
    go_ret
    exact ⟨ret_int (by unfold csub; split <;> omega), rfl⟩

theorem rsum_any (a b : Int) (w : World) :
    Calls Try.prog 12 #[.int .i64 a, .int .i64 b] w fun e w' => e = .returned (.int .i64 (cadd a b)) ∧ w = w' := by
  have ha := ctr_bd a
  have hb := ctr_bd b
  go_enter Try.func12, Try.ntmps12
  go_wp2_with (go_at_call 21; refine (keep_any _ _).mono ?_; rintro e w' ⟨rfl, rfl⟩)
  all_goals
    go_ret
    exact ⟨ret_int (by unfold cadd; split <;> omega), rfl⟩

theorem rless_any (a b : Int) (w : World) :
    Calls Try.prog 14 #[.int .i64 a, .int .i64 b] w fun e w' => e = .returned (.int .i64 (csub a b)) ∧ w = w' := by
  have ha := ctr_bd a
  have hb := ctr_bd b
  go_enter Try.func14, Try.ntmps14
  go_wp2_with (go_at_call 21; refine (keep_any _ _).mono ?_; rintro e w' ⟨rfl, rfl⟩)
  all_goals
    go_ret
    exact ⟨ret_int (by unfold csub; split <;> omega), rfl⟩

set_option maxHeartbeats 400000 in
theorem digit_any (c : Int) (w : World) (h0 : 0 ≤ c) (h1 : c < 256) :
    Calls Try.prog 19 #[.int .u8 c] w fun e w' => e = .returned (.tuple #[.int .u8 (hv c), .bool (isH c)]) ∧ w = w' := by
  by_cases a1 : 48 ≤ c
  · by_cases a2 : c ≤ 57
    · have ev : hv c = c - 48 := by unfold hv; rw [if_pos ⟨a1, a2⟩]
      have eh : isH c = true := by simp [isH, a1, a2]
      have Hv := Lib.hid ev
      have Hh := Lib.hid eh
      clear ev eh
      go_enter Try.func19, Try.ntmps19
      go_wp2
      go_ret2
      exact ⟨by rw [Hv.out, Hh.out]; rfl, rfl⟩
    · by_cases a3 : 97 ≤ c
      · by_cases a4 : c ≤ 102
        · have ev : hv c = c - 97 + 10 := by unfold hv; rw [if_neg (by omega), if_pos ⟨a3, a4⟩]; omega
          have eh : isH c = true := by simp [isH, a3, a4]
          have Hv := Lib.hid ev
          have Hh := Lib.hid eh
          clear ev eh
          go_enter Try.func19, Try.ntmps19
          go_wp2
          go_ret2
          exact ⟨by rw [Hv.out, Hh.out]; rfl, rfl⟩
        · have ev : hv c = 0 := by unfold hv; rw [if_neg (by omega), if_neg (by omega)]
          have eh : isH c = false := by simp [isH]; omega
          have Hv := Lib.hid ev
          have Hh := Lib.hid eh
          clear ev eh
          go_enter Try.func19, Try.ntmps19
          go_wp2
          go_ret2
          exact ⟨by rw [Hv.out, Hh.out]; rfl, rfl⟩
      · have ev : hv c = 0 := by unfold hv; rw [if_neg (by omega), if_neg (by omega)]
        have eh : isH c = false := by simp [isH]; omega
        have Hv := Lib.hid ev
        have Hh := Lib.hid eh
        clear ev eh
        go_enter Try.func19, Try.ntmps19
        go_wp2
        go_ret2
        exact ⟨by rw [Hv.out, Hh.out]; rfl, rfl⟩
  · have ev : hv c = 0 := by unfold hv; rw [if_neg (by omega), if_neg (by omega)]
    have eh : isH c = false := by simp [isH]; omega
    have Hv := Lib.hid ev
    have Hh := Lib.hid eh
    clear ev eh
    go_enter Try.func19, Try.ntmps19
    go_wp2
    go_ret2
    exact ⟨by rw [Hv.out, Hh.out]; rfl, rfl⟩
end Go.Proofs.Ythlopggdeccncaa
