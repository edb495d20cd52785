/- What Unhex returns: the bytes of an even number of digits, in new memory; else none. -/
import Derived.Test.YthlopggdeccncaaNumA
import Derived.Test.YthlopggdeccncaaNumW
import Derived.Lib.Walk
import Derived.Lib.Strings
import Derived.BigCall
import Derived.BigGuard
import Derived.Laws.Strings3
import Derived.Laws.IdiomStrings
namespace Go.Proofs.Ythlopggdeccncaa
open Go.RowKit

theorem info_u8 : (Try.prog.info? 5).map (fun i => (i.zero, i.size, i.bytes)) = some (some (.int .u8 0), 1, 1) := by kernel_rfl

theorem size_u8 (W : World) : (sizeOf 5).run Try.prog W = .ok 1 W := by kernel_rfl

theorem unhex_odd (s : ByteArray) (w : World) (hs : s.size ≤ maxLen) (ho : s.size % 2 = 1) :
    Calls Try.prog 8 #[.string s] w fun e w' => e = .returned (.tuple #[.slice none 0 0, .bool false]) ∧ w = w' := by
  unfold maxLen at hs
  have ht : (((s.size : Int) % 2) != 0) = true := by rw [bne_iff_ne]; omega
  have H := Lib.hid ho
  clear ho
  go_enter Try.func8, Try.ntmps8
  go_wp2
  go_ret2
  exact ⟨rfl, rfl⟩

set_option maxHeartbeats 1000000 in
theorem unhex_even (s : ByteArray) (m : Nat) (w : World) (hs : s.size ≤ maxLen) (hm : s.size = 2 * m) (hbig : m ≤ 281474976710656) :
    Calls Try.prog 8 #[.string s] w fun e w' => Below w.heap.size w w' ∧
      ((e = .returned (.tuple #[.slice none 0 0, .bool false]) ∧ unhex s.data.toList = none) ∨
       ∃ l, e = .returned (.tuple #[.slice (some ⟨w.heap.size, 0, none⟩) m m, .bool true]) ∧ unhex s.data.toList = some l ∧ l.length = m ∧ Rb w' w.heap.size 5 m l) := by
  unfold maxLen at hs
  have hmk := fun (w : World) => run_make_row' (P := Try.prog) 22 5 (.int .u8 0) 1 rfl info_u8 rfl .i64 .i64 m (by omega) (by omega) w
  have ht : (((s.size : Int) % 2) != 0) = false := by rw [bne_eq_false_iff_eq]; omega
  have hq : (m : Int) = (s.size : Int) / 2 := by omega
  rw [hq] at hmk
  have HM := Lib.hid hm
  clear hm hq
  go_enter Try.func8, Try.ntmps8
  go_wp2
  go_loopw [20] (fun i wr => ∃ (k : Nat) (pre : List UInt8), k ≤ m ∧ i = .int .i64 k ∧ Hid (pre.length = k) ∧ Hid (Rb wr w.heap.size 5 m pre) ∧ Hid (unhex s.data.toList = (unhex (s.data.toList.drop (2 * k))).map (pre ++ ·)) ∧ Hid (Below w.heap.size w wr))
    (fun i _ => m - (intOf i).toNat)
  case atStart => exact ⟨0, [], Nat.zero_le _, rfl, rfl, Rb.made _ _ _, by simp [Hid], (Below.refl _ _).alloc (Nat.le_refl _) _⟩
  case round =>
    obtain ⟨k, pre, hk, rfl, hpl, hrow, hun, hbel⟩ := hrel
    by_cases hlt : k < m
    · have hi1 : (2 * k : Nat) < s.size := by rw [HM.out]; omega
      have hi2 : (2 * k + 1 : Nat) < s.size := by rw [HM.out]; omega
      have hf1 : wr.frozen? ⟨w.heap.size, k, none⟩ = false := World.rowIs.frozen hrow.out _
      have hc1 : wr.cell? ⟨w.heap.size, k, none⟩ = some _ := World.rowIs.cell hrow.out hlt
      go_wp2_with fail
      obtain ⟨x, hx⟩ : ∃ x, x = s[2 * k] := ⟨_, rfl⟩
      rw [← hx]
      have Hx := Lib.hid hx
      clear hx
      refine (digit_any (x.toNat : Int) _ (by omega) (by have := x.toNat_lt; omega)).mono ?_
      rintro e w' ⟨rfl, rfl⟩
      have bx := hv_bd (x.toNat : Int)
      go_wp2_with fail
      obtain ⟨y, hy⟩ : ∃ y, y = s[2 * k + 1] := ⟨_, rfl⟩
      rw [← hy]
      have Hy := Lib.hid hy
      clear hy
      refine (digit_any (y.toNat : Int) _ (by omega) (by have := y.toNat_lt; omega)).mono ?_
      rintro e w' ⟨rfl, rfl⟩
      have bz := hv_bd (y.toNat : Int)
      rcases Bool.eq_false_or_eq_true (isH (x.toNat : Int)) with ex | ex
      · rcases Bool.eq_false_or_eq_true (isH (y.toNat : Int)) with ey | ey
        · go_wp2_with fail
          go_roundw
          case rel =>
            have hX := str_at s (2 * k) hi1
            have hY := str_at s (2 * k + 1) hi2
            rw [← Hx.out] at hX
            rw [← Hy.out] at hY
            exact ⟨k + 1, pre ++ [UInt8.ofNat (hv (x.toNat : Int) * 16 + hv (y.toNat : Int)).toNat], by omega, by go_num, by simp [Hid, hpl.out], Rb.push hrow.out _ hpl.out (or_hv _ _), unhex_step hun.out hX hY ex ey, hbel.out.setCell (by simp) _⟩
          case measure => simp [intOf]; omega
        · have ez : (isH (x.toNat : Int) && isH (y.toNat : Int)) = false := by simp [ey]
          have EZ := Lib.hid ez
          clear ez
          go_wp2_with fail
          go_ret2
          have hX := str_at s (2 * k) hi1
          have hY := str_at s (2 * k + 1) hi2
          rw [← Hx.out] at hX
          rw [← Hy.out] at hY
          exact ⟨hbel.out, .inl ⟨rfl, unhex_bad hun.out hX hY EZ.out⟩⟩
      · have ez : (isH (x.toNat : Int) && isH (y.toNat : Int)) = false := by simp [ex]
        have EZ := Lib.hid ez
        clear ez
        go_wp2_with fail
        go_ret2
        have hX := str_at s (2 * k) hi1
        have hY := str_at s (2 * k + 1) hi2
        rw [← Hx.out] at hX
        rw [← Hy.out] at hY
        exact ⟨hbel.out, .inl ⟨rfl, unhex_bad hun.out hX hY EZ.out⟩⟩
    · obtain rfl : k = m := by omega
      have hend : unhex s.data.toList = some pre := by
        rw [hun.out, List.drop_eq_nil_of_le (by have := HM.out; simp; omega)]
        simp [unhex]
      have HE := Lib.hid hend
      clear hend
      go_wp2
      go_ret2
      exact ⟨hbel.out, .inr ⟨pre, rfl, HE.out, hpl.out, hrow.out⟩⟩
end Go.Proofs.Ythlopggdeccncaa
