/- What Get returns: the number of the last eight bytes. -/
import Derived.Test.YtlkppnghfgiapaaDoorBase
import Derived.Test.YtlkppnghfgiapaaDoorNumB
namespace Go.Proofs.YtlkppnghfgiapaaDoor
open Go.RowKit

set_option maxRecDepth 100000 in
set_option maxHeartbeats 1000000 in
theorem get_any (A : Option Addr) (n c : Nat) (l : List UInt8) (w : World) (B : Nat) (h : Rd w B A n l) (hn : n ≤ 9223372036854775807) (hc : n ≤ c) (hc2 : c ≤ 9223372036854775807) :
    Calls Tryd.prog 32 #[.slice A n c] w fun e w' => e = .returned (.int .u64 (beNat (l.drop (n - 8)) : Int)) ∧ w = w' := by
  obtain ⟨A', c', hsl, hr⟩ := cut_l (P := Tryd.prog) 23 5 rfl size_u8 c h (max ((n : Int) - 8) 0) (n - 8) (by omega) (by omega) hc
  have hl8 : n - (n - 8) ≤ 8 := by omega
  generalize hm : n - (n - 8) = m at *
  generalize l.drop (n - 8) = L at *
  have HR := Lib.hid hr.2.2
  clear h hc hr
  go_enter Tryd.func32, Tryd.ntmps32
  go_wp2
  go_loop [4, 14] (fun v i => ∃ k : Nat, k ≤ m ∧ i = .int .i64 k ∧ v = .int .u64 (beNat (L.take k) : Int)) (fun _ i => m - (intOf i).toNat)
  case atStart => exact ⟨0, Nat.zero_le _, rfl, by simp [beNat]⟩
  case round =>
    obtain ⟨k, hk, rfl, rfl⟩ := hrel
    by_cases hlt : k < m
    · obtain ⟨b, o, rfl, hb, hcell⟩ := HR.out.2 (by omega)
      obtain ⟨x, hx⟩ : ∃ x, x = L.getD k 0 := ⟨_, rfl⟩
      have hcx : w.cell? ⟨b, o + k, none⟩ = some (.int .u8 (x.toNat : Int)) := by rw [hx]; exact hcell k hlt
      have HC := Lib.hid hcell
      have Hx := Lib.hid hx
      clear hx hcell
      have hx1 : (x.toNat : Int) < 256 := by have := x.toNat_lt; omega
      have hx0 : (0 : Int) ≤ (x.toNat : Int) := by omega
      go_wp2_with fail
      go_round
      case rel =>
        have hl := HR.out.1
        refine ⟨k + 1, by omega, by go_num, ?_⟩
        rw [take_more L k (by omega), ← Hx.out, beNat_snoc, shl_or _ _ hx0 hx1]
        go_num
      case measure => simp [intOf]; omega
    · obtain rfl : k = m := by omega
      have hl := HR.out.1
      have e : L.take k = L := List.take_of_length_le (by omega)
      have HE := Lib.hid e
      clear e hl
      go_wp2
      go_ret
      exact ⟨by rw [HE.out]; rfl, rfl⟩
end Go.Proofs.YtlkppnghfgiapaaDoor
