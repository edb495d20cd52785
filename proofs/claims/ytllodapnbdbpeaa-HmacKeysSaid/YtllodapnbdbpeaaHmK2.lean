/- What masked of layer 8 returns: bytes put together with one byte each, in a slice of their own. -/
import Derived.Test.YtllodapnbdbpeaaHmK
namespace Go.Proofs.Ytllodapnbdbpeaa
open Go.RowKit

theorem msk_set (K : List UInt8) (x : UInt8) (q : Nat) (h : q < K.length) : (xorL (K.take q) x ++ List.replicate (K.length - q) 0).set q (K.getD q 0 ^^^ x) = xorL (K.take (q + 1)) x ++ List.replicate (K.length - (q + 1)) 0 := by
  have hl : (xorL (K.take q) x).length = q := by rw [xorL_length, List.length_take]; omega
  obtain ⟨r, hr⟩ : ∃ r, K.length - q = r + 1 := ⟨K.length - (q + 1), by omega⟩
  rw [xorL_step K x q h, List.set_append_right _ _ (by omega), hl, Nat.sub_self, hr, List.replicate_succ, List.set_cons_zero, List.append_assoc, show K.length - (q + 1) = r by omega]
  rfl
theorem msk_len (K : List UInt8) (x : UInt8) (q : Nat) (h : q ≤ K.length) : (xorL (K.take q) x ++ List.replicate (K.length - q) (0 : UInt8)).length = K.length := by
  rw [List.length_append, xorL_length, List.length_take, List.length_replicate]; omega

set_option maxRecDepth 100000 in
set_option maxHeartbeats 1000000 in
theorem cmasked_any (A : Option Addr) (n c : Nat) (K : List UInt8) (y : UInt8) (w : World) (h : Rd w w.heap.size A n K) (h0 : 0 < n) (hnc : n ≤ c) (hc : c ≤ 9223372036854775807) (hn : n ≤ 274877906944) :
    Calls Try.prog 25 #[.slice A n c, .int .u8 (y.toNat : Int)] w (GivesO 5 (xorL K y) w) := by
  have KL : Hid (K.length = n) := h.1
  obtain ⟨b, o, rfl, hb, hcells⟩ := h.2 h0
  have HC := Lib.hid (And.intro hb hcells)
  clear h hb hcells
  obtain ⟨Y, hY⟩ : ∃ Y, Y = y.toNat := ⟨_, rfl⟩
  have hY1 : Y < 256 := by rw [hY]; exact y.toNat_lt
  rw [← hY]
  have HY := Lib.hid hY
  clear hY
  go_enter Try.func25, Try.ntmps25
  go_wp2_with (first
    | (refine wpList_makeB rfl _ _ 22 rfl 5 Try.underlying22 info_u8 n n (n : Int) (n : Int) rfl rfl rfl rfl (Nat.le_refl _) (by omega) ?_; intro w1 ho1 hb1; have O1 := Lib.hid ho1; have B1 := Lib.hid hb1; clear ho1 hb1)
    | fail)
  go_loopw [6, 12] (fun _ i wr => ∃ q : Nat, q ≤ n ∧ i = .int .i64 q ∧ Hid (Ob wr w.heap.size 5 (.slice (some ⟨w.heap.size, 0, none⟩) n n) (xorL (K.take q) y ++ List.replicate (K.length - q) 0)) ∧ Hid (Below w.heap.size w wr)) (fun _ i _ => n - (intOf i).toNat)
  case atStart => exact ⟨0, Nat.zero_le _, rfl, by show Ob _ _ _ _ _; rw [KL.out]; simpa [xorL] using O1.out, B1.out⟩
  case round =>
    obtain ⟨q, hq, rfl, hob, hbel⟩ := hrel
    by_cases hlt : q < n
    · have hl := (msk_len K y q (by rw [KL.out]; exact hq)).trans KL.out
      obtain ⟨x, hx⟩ : ∃ x, x = K.getD q 0 := ⟨_, rfl⟩
      have fx := hob.out.frozen hl q
      have ox := hob.out.cell hl hlt
      have cx : wr.cell? ⟨b, o + q, none⟩ = some (.int .u8 (x.toNat : Int)) := by rw [hbel.out.cell (p := ⟨b, o + q, none⟩) HC.out.1, HC.out.2 q hlt, hx]
      have hxv := xor8 x y
      rw [← HY.out] at hxv
      have O2 := Lib.hid (hob.out.stored hl q (x ^^^ y) hxv)
      have HX := Lib.hid hx
      have i0 : (0 : Int) ≤ (q : Int) := by omega
      have i1 : (q : Int) < (n : Int) := by omega
      clear hl hx hxv
      generalize (((xorL (K.take q) y ++ List.replicate (K.length - q) 0).getD q 0).toNat : Int) = z0 at *
      go_wp2_with fail
      go_roundw
      case rel =>
        refine ⟨q + 1, by omega, by go_num, ?_, hbel.out.setCell (Nat.le_refl _) _⟩
        show Ob _ _ _ _ _
        rw [← msk_set K y q (by rw [KL.out]; exact hlt), ← HX.out]
        exact O2.out
      case measure => simp [intOf]; omega
    · obtain rfl : q = n := by omega
      have i1 : ¬ ((q : Int) < (q : Int)) := by omega
      have hs := hob.out
      rw [List.take_of_length_le (by rw [KL.out]; exact Nat.le_refl _), KL.out, Nat.sub_self, List.replicate_zero, List.append_nil] at hs
      have HS := Lib.hid hs
      clear hs
      go_wp2
      go_ret
      exact ⟨_, rfl, HS.out, hbel.out⟩
end Go.Proofs.Ytllodapnbdbpeaa
