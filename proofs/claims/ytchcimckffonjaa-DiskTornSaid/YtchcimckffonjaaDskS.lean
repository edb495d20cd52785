/- The statements' sectors. -/
import Derived.Test.YtchcimckffonjaaOwn
import Derived.Test.YtchcimckffonjaaBase
import Derived.Test.YtchcimckffonjaaDskM
namespace Go.Proofs.Ytchcimckffonjaa
open Go.RowKit

set_option maxRecDepth 100000 in
set_option maxHeartbeats 2000000 in
theorem sector_any (fill : UInt8) (size : Int) (w : World) :
    Calls Try.prog 11 #[.int .u8 (fill.toNat : Int), .int .i64 size] w fun e w' => ∃ v, e = .returned v ∧ Ob w' w.heap.size 5 v (secB fill size.toNat) ∧ Below w.heap.size w w' := by
  go_enter Try.func11, Try.ntmps11
  go_wp2_with fail
  go_loopw [5, 6] (fun v k wr => ∃ i : Nat, i ≤ min size.toNat 100 ∧ k = .int .i64 i ∧ Ob wr w.heap.size 5 v ((List.range i).map fun j => fill + UInt8.ofNat j) ∧ Below w.heap.size w wr) (fun _ k _ => 100 - (intOf k).toNat)
  case atStart => exact ⟨0, Nat.zero_le _, rfl, Ob.nil_ _ _ _, Below.refl _ _⟩
  case round =>
    obtain ⟨i, hi, rfl, ho, hb⟩ := hrel
    have HO := Lib.hid (And.intro ho hb)
    clear ho hb
    by_cases hlt : i < min size.toNat 100
    · have t1 : (i : Int) < size := by omega
      have t2 : (i : Int) < 100 := by omega
      have hlt2 : i < 100 := by omega
      have hwr : IntKind.u8.wrap (i : Int) = (i : Int) := by rw [show IntKind.u8.wrap (i : Int) = (i : Int) % 256 from rfl]; omega
      have hww : ((fill.toNat : Int) + (i : Int)) % 256 = ((fill + UInt8.ofNat i).toNat : Int) := by
        rw [UInt8.toNat_add, UInt8.toNat_ofNat']
        omega
      have HW := Lib.hid hww
      have HLEN : Hid (((List.range i).map fun j => fill + UInt8.ofNat j).length = i) := by show _ = _; simp
      obtain ⟨A, c, hv, -, -, -⟩ := HO.out.1.rd
      rw [HLEN.out] at hv
      subst hv
      have HN := Lib.hid hlt
      clear hww hlt hlt2
      go_wp2_with (first
        | (at_builtin; refine wpList_appB rfl (.tmp 16) (.tmp 21) 33 rfl w.heap.size 5 Try.underlying33 info_u8 _ _ rfl (HO.out.1.alloc _) (wr.heap.size + 1) (some ⟨wr.heap.size, 0, none⟩) 1 1 [fill + UInt8.ofNat i] rfl (Rd.lit wr _ rfl [fill + UInt8.ofNat i] 5 _ (by rw [HW.out]; rfl) 1 rfl) (by rw [HLEN.out]; have := HN.out; omega) (Nat.le_trans HO.out.2.size (le_alloc _ _)) ?_; intro v3 w3 ho3 hb3; have O3 := Lib.hid ho3; have B3 := Lib.hid hb3; clear ho3 hb3)
        | fail)
      go_roundw
      case rel =>
        refine ⟨i + 1, by have := HN.out; omega, by simp, ?_, (HO.out.2.alloc HO.out.2.size _).trans B3.out⟩
        rw [List.range_succ, List.map_append]
        exact O3.out
      case measure => simp [intOf]; omega
    · by_cases t1 : (i : Int) < size
      · have t2 : ¬ (i : Int) < 100 := by omega
        have e : i = min size.toNat 100 := by omega
        have HE := Lib.hid e
        clear e hlt
        go_wp2_with fail
        go_ret
        exact ⟨_, rfl, by unfold secB; rw [← HE.out]; exact HO.out.1, HO.out.2⟩
      · have e : i = min size.toNat 100 := by omega
        have HE := Lib.hid e
        clear e hlt
        go_wp2_with fail
        go_ret
        exact ⟨_, rfl, by unfold secB; rw [← HE.out]; exact HO.out.1, HO.out.2⟩
end Go.Proofs.Ytchcimckffonjaa
