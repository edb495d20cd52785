/- Items as calls make them: Uint, Text, Bytes of layer 3's reference; and Same, of two equal ones. -/
import Derived.Test.YtbdjkihgcmebgaaGreatDoorRCborE
import Derived.Deep.RegionHeld3
namespace Go.Proofs.YtbdjkihgcmebgaaGreatDoor
open Go.RowKit

theorem Below.drew_ {B : Nat} {w : World} : Below B w w.drew := (Below.refl B w).drew
/-- A call gives back a value that reads as the item x, and leaves what was there. -/
def GivesI (x : Itm) (w : World) (e : Ending) (w' : World) : Prop := ∃ v, e = .returned v ∧ RdI w' w'.heap.size v x ∧ Below w.heap.size w w'
theorem RdI.mk_uint {w : World} {B n : Nat} (hn : n < 18446744073709551616) : RdI w B (.agg #[.int .i64 0, .int .u64 (n : Int), .slice none 0 0, .slice none 0 0]) (.mk 0 n [] []) := by
  rw [RdI]
  exact ⟨none, 0, 0, none, 0, 0, rfl, by decide, hn, ⟨Nat.le_refl _, by decide⟩, Rd.nil_, ⟨Nat.le_refl _, by decide⟩, rfl, fun h => absurd h (Nat.lt_irrefl _)⟩
theorem RdI.mk_data {w : World} {B nd cd : Nat} {A : Option Addr} {d : List UInt8} {k : Int} (hk : (Lit.int .i64 k).wf = true) (hc : nd ≤ cd) (hc2 : nd ≤ 140737488355328) (h : Rd w B A nd d) : RdI w B (.agg #[.int .i64 k, .int .u64 0, .slice A nd cd, .slice none 0 0]) (.mk k 0 d []) := by
  rw [RdI]
  exact ⟨A, nd, cd, none, 0, 0, rfl, hk, by decide, ⟨hc, hc2⟩, h, ⟨Nat.le_refl _, by decide⟩, rfl, fun h => absurd h (Nat.lt_irrefl _)⟩

set_option maxRecDepth 100000 in
set_option maxHeartbeats 1000000 in
theorem ruint_any (n : Int) (w : World) (h0 : 0 ≤ n) (h1 : n < 18446744073709551616) :
    Calls Tryz.prog 20 #[.int .u64 n] w (GivesI (.mk 0 n.toNat [] []) w) := by
  go_enter Tryz.func20, Tryz.ntmps20
  go_wp2_with fail
  have e : (n.toNat : Int) = n := by omega
  have hr := fun W B => RdI.mk_uint (w := W) (B := B) (n := n.toNat) (by omega)
  rw [e] at hr
  exact bodyPost_ret (v := .agg #[.int .i64 0, .int .u64 n, .slice none 0 0, .slice none 0 0]) (by simp [results, Tryz.results20, go_sem]) rfl ⟨_, rfl, hr _ _, (Below.refl _ _).alloc (Nat.le_refl _) _⟩

end Go.Proofs.YtbdjkihgcmebgaaGreatDoor
