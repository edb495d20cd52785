/- What Put returns: the lowest bytes of a number, the highest first, in new memory. -/
import Derived.Test.YtlkppnghfgiapaaDoorBase
import Derived.Test.YtlkppnghfgiapaaDoorNumB
namespace Go.Proofs.YtlkppnghfgiapaaDoor
open Go.RowKit

set_option maxRecDepth 100000 in
set_option maxHeartbeats 1000000 in
theorem put_any (x size : Int) (w : World) (hx0 : 0 ≤ x) (_hx1 : x < 18446744073709551616) :
    Calls Tryd.prog 21 #[.int .u64 x, .int .i64 size] w fun e w' =>
      e = .returned (.slice (some ⟨w.heap.size, 0, none⟩) (psz size) (psz size)) ∧ Rb w' w.heap.size 5 (psz size) (be x.toNat (psz size)) ∧ Below w.heap.size w w' := by
  have hsz := psz_eq size
  have hle := psz_le size
  generalize psz size = n at *
  have hmk := fun (w : World) => run_make_row' (P := Tryd.prog) 23 5 (.int .u8 0) 1 rfl info_u8 rfl .i64 .i64 n (by omega) (by omega) w
  go_enter Tryd.func21, Tryd.ntmps21
  go_wp2
  go_loopw [13] (fun i wr => ∃ k : Nat, k ≤ n ∧ i = .int .i64 k ∧ Hid (wr.rowIs w.heap.size 5 n (putRow x.toNat n k)) ∧ Hid (Below w.heap.size w wr))
    (fun i _ => n - (intOf i).toNat)
  case atStart => exact ⟨0, Nat.zero_le _, rfl, (World.rowIs_made _ _ _ _).congr (fun j hj => by simp [putRow]; omega), (Below.refl _ _).alloc (Nat.le_refl _) _⟩
  case round =>
    obtain ⟨k, hk, rfl, hrow, hbel⟩ := hrel
    by_cases hlt : k < n
    · have hf1 : wr.frozen? ⟨w.heap.size, n - 1 - k, none⟩ = false := World.rowIs.frozen hrow.out _
      have hc1 : wr.cell? ⟨w.heap.size, n - 1 - k, none⟩ = some _ := World.rowIs.cell hrow.out (by omega)
      go_wp2_with fail
      go_roundw
      case rel =>
        refine ⟨k + 1, by omega, by go_num, (World.rowIs.set hrow.out _ _).congr fun j hj => ?_, hbel.out.setCell (by simp) _⟩
        exact putRow_step x hx0 n k j hlt hj
      case measure => simp [intOf]; omega
    · obtain rfl : k = n := by omega
      have hr : Rb wr w.heap.size 5 k (be x.toNat k) := hrow.out.congr fun j hj => putRow_end x.toNat k j hj
      have HR := Lib.hid hr
      clear hr
      go_wp2
      go_ret
      exact ⟨rfl, HR.out, hbel.out⟩

end Go.Proofs.YtlkppnghfgiapaaDoor
