/- '[]byte(s)' of a string that is no constant: a new slice that reads as its bytes. -/
import Derived.Test.YtbdjkihgcmebgaaGreatDoorRBase
import Derived.Test.YtbdjkihgcmebgaaGreatDoorRNumB
import Derived.Laws.IdiomStrings
namespace Go.Proofs.YtbdjkihgcmebgaaGreatDoor
open Go.RowKit

theorem conv_bytes (W : World) (s : ByteArray) : ∃ (c : Nat) (W' : World), (convert 9 22 (.string s)).run Tryz.prog W = .ok (.slice (some ⟨W.heap.size, 0, none⟩) s.size c) W' ∧
    Rd W' (W.heap.size + 1) (some ⟨W.heap.size, 0, none⟩) s.size s.data.toList ∧ s.size ≤ c ∧ Below W.heap.size W W' ∧ W'.heap.size = W.heap.size + 1 := by
  refine ⟨_, _, run_bytes_of_string W _ _ 5 s Tryz.underlying9 Tryz.underlying22 Tryz.underlying5, ⟨by simp, fun _ => ⟨_, 0, rfl, Nat.lt_succ_self _, fun i hi => ?_⟩⟩, ?_, ?_, ?_⟩
  · rw [Nat.zero_add]
    have h := World.cell?_alloc_mark W.drew (bytesRow s (grownCap W s.size 0 5)) 5 ((bytesRow s (grownCap W s.size 0 5)).size, (bytesRow s (grownCap W s.size 0 5)).size + 1) i
    refine Eq.trans h ?_
    have hi' : i < s.data.size := hi
    unfold bytesRow
    rw [Array.getElem?_append_left (by simpa using hi')]
    simp only [Array.getElem?_map, Array.getElem?_eq_getElem hi', Option.map_some, List.getD, Array.getElem?_toList, Option.getD_some]
  · exact grownCap_ge W s.size 0 _
  · exact ((Below.refl W.heap.size W).drew).alloc (Nat.le_refl _) _
  · simp
end Go.Proofs.YtbdjkihgcmebgaaGreatDoor
/- What Put returns: the lowest bytes of a number, the highest first, in new memory. -/
namespace Go.Proofs.YtbdjkihgcmebgaaGreatDoor
open Go.RowKit

set_option maxRecDepth 100000 in
set_option maxHeartbeats 1000000 in
theorem put_any (x size : Int) (w : World) (hx0 : 0 ≤ x) (_hx1 : x < 18446744073709551616) :
    Calls Tryz.prog 89 #[.int .u64 x, .int .i64 size] w fun e w' =>
      e = .returned (.slice (some ⟨w.heap.size, 0, none⟩) (psz size) (psz size)) ∧ Rb w' w.heap.size 5 (psz size) (be x.toNat (psz size)) ∧ Below w.heap.size w w' := by
  have hsz := psz_eq size
  have hle := psz_le size
  generalize psz size = n at *
  have hmk := fun (w : World) => run_make_row' (P := Tryz.prog) 22 5 (.int .u8 0) 1 rfl info_u8 rfl .i64 .i64 n (by omega) (by omega) w
  go_enter Tryz.func89, Tryz.ntmps89
  go_wp2
  go_loopw [13] (fun i wr => ∃ k : Nat, k ≤ n ∧ i = .int .i64 k ∧ Hid (wr.rowIs w.heap.size 5 n (putRow x.toNat n k)) ∧ Hid (Below w.heap.size w wr))
    (fun i _ => n - (intOf i).toNat)
  case atStart => exact ⟨0, Nat.zero_le _, rfl, (World.rowIs_made _ _ _ _).congr (fun j hj => by simp [putRow]; omega), (Below.refl _ _).alloc (Nat.le_refl _) _⟩
  case round =>
    obtain ⟨k, hk, rfl, hrow, hbel⟩ := hrel
    by_cases hlt : k < n
    · have hf1 : wr.frozen? ⟨w.heap.size, n - 1 - k, none⟩ = false := World.rowIs.frozen hrow.out _
      have hc1 : wr.cell? ⟨w.heap.size, n - 1 - k, none⟩ = some _ := World.rowIs.cell hrow.out (by omega)
      go_wp2_with fail
      go_roundw
      case rel =>
        refine ⟨k + 1, by omega, by go_num, (World.rowIs.set hrow.out _ _).congr fun j hj => ?_, hbel.out.setCell (by simp) _⟩
        exact putRow_step x hx0 n k j hlt hj
      case measure => simp [intOf]; omega
    · obtain rfl : k = n := by omega
      have hr : Rb wr w.heap.size 5 k (be x.toNat k) := hrow.out.congr fun j hj => putRow_end x.toNat k j hj
      have HR := Lib.hid hr
      clear hr
      go_wp2
      go_ret
      exact ⟨rfl, HR.out, hbel.out⟩

end Go.Proofs.YtbdjkihgcmebgaaGreatDoor
/- What Get returns: the number of the last eight bytes. -/
namespace Go.Proofs.YtbdjkihgcmebgaaGreatDoor
open Go.RowKit

set_option maxRecDepth 100000 in
set_option maxHeartbeats 1000000 in
theorem get_any (A : Option Addr) (n c : Nat) (l : List UInt8) (w : World) (B : Nat) (h : Rd w B A n l) (hn : n ≤ 9223372036854775807) (hc : n ≤ c) (hc2 : c ≤ 9223372036854775807) :
    Calls Tryz.prog 82 #[.slice A n c] w fun e w' => e = .returned (.int .u64 (beNat (l.drop (n - 8)) : Int)) ∧ w = w' := by
  obtain ⟨A', c', hsl, hr⟩ := cut_l (P := Tryz.prog) 22 5 rfl size_u8 c h (max ((n : Int) - 8) 0) (n - 8) (by omega) (by omega) hc
  have hl8 : n - (n - 8) ≤ 8 := by omega
  generalize hm : n - (n - 8) = m at *
  generalize l.drop (n - 8) = L at *
  have HR := Lib.hid hr.2.2
  clear h hc hr
  go_enter Tryz.func82, Tryz.ntmps82
  go_wp2
  go_loop [4, 14] (fun v i => ∃ k : Nat, k ≤ m ∧ i = .int .i64 k ∧ v = .int .u64 (beNat (L.take k) : Int)) (fun _ i => m - (intOf i).toNat)
  case atStart => exact ⟨0, Nat.zero_le _, rfl, by simp [beNat]⟩
  case round =>
    obtain ⟨k, hk, rfl, rfl⟩ := hrel
    by_cases hlt : k < m
    · obtain ⟨b, o, rfl, hb, hcell⟩ := HR.out.2 (by omega)
      obtain ⟨x, hx⟩ : ∃ x, x = L.getD k 0 := ⟨_, rfl⟩
      have hcx : w.cell? ⟨b, o + k, none⟩ = some (.int .u8 (x.toNat : Int)) := by rw [hx]; exact hcell k hlt
      have HC := Lib.hid hcell
      have Hx := Lib.hid hx
      clear hx hcell
      have hx1 : (x.toNat : Int) < 256 := by have := x.toNat_lt; omega
      have hx0 : (0 : Int) ≤ (x.toNat : Int) := by omega
      go_wp2_with fail
      go_round
      case rel =>
        have hl := HR.out.1
        refine ⟨k + 1, by omega, by go_num, ?_⟩
        rw [take_more L k (by omega), ← Hx.out, beNat_snoc, shl_or _ _ hx0 hx1]
        go_num
      case measure => simp [intOf]; omega
    · obtain rfl : k = m := by omega
      have hl := HR.out.1
      have e : L.take k = L := List.take_of_length_le (by omega)
      have HE := Lib.hid e
      clear e hl
      go_wp2
      go_ret
      exact ⟨by rw [HE.out]; rfl, rfl⟩
end Go.Proofs.YtbdjkihgcmebgaaGreatDoor
