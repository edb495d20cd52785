/- What Uint and Text of layer 3 return, with nothing in it that is read below a block lo; an item stored into cells of one's own. -/
import Derived.Test.YtlncacfflalacaaDoorEidA
import Derived.Test.YtlncacfflalacaaDoorEidN
import Derived.Test.YtlncacfflalacaaDoorMask
namespace Go.Proofs.YtlncacfflalacaaDoor
open Go.RowKit

/-- An item, read in no block below lo. -/
def GivesL (lo : Nat) (x : Itm) (w : World) (e : Ending) (w' : World) : Prop := ∃ v, e = .returned v ∧ RdI (mask (lows lo) w') w'.heap.size v x ∧ Below w.heap.size w w'

theorem Rd.mask_one {w : World} {lo B n b o : Nat} {l : List UInt8} (h : Rd w B (some ⟨b, o, none⟩) n l) (hb : lo ≤ b) : Rd (mask (lows lo) w) B (some ⟨b, o, none⟩) n l :=
  ⟨h.1, fun hn => by
    obtain ⟨b', o', e, hB, hc⟩ := h.2 hn
    injection e with e
    injection e with e1 e2
    subst e1 e2
    exact ⟨b, o, rfl, hB, fun i hi => (mask_cell (lows_f.2 hb)).trans (hc i hi)⟩⟩

/-- Four stores into block g, which the item is not read in. -/
theorem RdI.put4 {W : World} {B B' g lo lo' : Nat} {v : Value} {x : Itm} {u0 u1 u2 u3 : Value} (h : RdI (mask (lows lo) W) B v x) (hl : lo' ≤ lo) (hg : g < lo) (hB : B ≤ B') :
    RdI (mask (lows lo') ((((W.setCell ⟨g, 0, none⟩ u0).setCell ⟨g, 1, none⟩ u1).setCell ⟨g, 2, none⟩ u2).setCell ⟨g, 3, none⟩ u3)) B' v x :=
  h.sub hB fun q u _ hc => by
    have h1 := lows_f.1 (mask_out hc)
    have hq : ¬ g = q.block := by omega
    rw [mask_cell (lows_f.2 (by omega)), World.cell?_setCell_far _ _ _ _ hq, World.cell?_setCell_far _ _ _ _ hq, World.cell?_setCell_far _ _ _ _ hq, World.cell?_setCell_far _ _ _ _ hq]
    exact mask_sub hc
/-- The same item in a world that grew. -/
theorem RdI.grow {W W' : World} {lo lo' : Nat} {v : Value} {x : Itm} (h : RdI (mask (lows lo) W) W.heap.size v x) (hb : Below W.heap.size W W') (hl : lo' ≤ lo) : RdI (mask (lows lo') W') W'.heap.size v x :=
  h.sub hb.size fun q u hp hc => by
    have h1 := lows_f.1 (mask_out hc)
    rw [mask_cell (lows_f.2 (by omega)), hb.cell hp]
    exact mask_sub hc
theorem size_put4 {W : World} {g : Nat} {u0 u1 u2 u3 : Value} : ((((W.setCell ⟨g, 0, none⟩ u0).setCell ⟨g, 1, none⟩ u1).setCell ⟨g, 2, none⟩ u2).setCell ⟨g, 3, none⟩ u3).heap.size = W.heap.size := by simp [World.setCell]

/-- Zeros of an item's cells, in a block of one's own. -/
theorem zero4 {w W' : World} {g : Nat} (hg : g = w.heap.size) (h : Below (g + 1) (w.alloc (.cells #[.int .i64 0, .int .u64 0, .slice none 0 0, .slice none 0 0] 37)) W') :
    (W'.cell? ⟨g, 0, none⟩ = some (.int .i64 0) ∧ W'.cell? ⟨g, 1, none⟩ = some (.int .u64 0) ∧ W'.cell? ⟨g, 2, none⟩ = some (.slice none 0 0) ∧ W'.cell? ⟨g, 3, none⟩ = some (.slice none 0 0)) ∧
    (W'.frozen? ⟨g, 0, none⟩ = false ∧ W'.frozen? ⟨g, 1, none⟩ = false ∧ W'.frozen? ⟨g, 2, none⟩ = false ∧ W'.frozen? ⟨g, 3, none⟩ = false) := by
  subst hg
  exact zero_cells h

set_option maxRecDepth 100000 in
set_option maxHeartbeats 1000000 in
theorem cuintL_any (lo n : Nat) (w : World) (h : n < 18446744073709551616) :
    Calls Tryd.prog 29 #[.int .u64 (n : Int)] w (GivesL lo (.mk 0 n [] []) w) := by
  go_enter Tryd.func29, Tryd.ntmps29
  go_wp2_with fail
  have hr := fun W B => RdI.mk_uint (w := W) (B := B) (n := n) h
  exact bodyPost_ret (v := .agg #[.int .i64 0, .int .u64 (n : Int), .slice none 0 0, .slice none 0 0]) (by simp [results, Tryd.results29, go_sem]) rfl ⟨_, rfl, hr _ _, (Below.refl _ _).alloc (Nat.le_refl _) _⟩

set_option maxRecDepth 100000 in
set_option maxHeartbeats 1000000 in
theorem ctextL_any (lo : Nat) (s : ByteArray) (w : World) (hlo : lo ≤ w.heap.size) (hs : s.size ≤ 140737488355328) :
    Calls Tryd.prog 41 #[.string s] w (GivesL lo (.mk 3 0 s.data.toList []) w) := by
  obtain ⟨c, W', hrun, hrd, hc, hb, hz⟩ := conv_bytes (w.alloc (.cells #[.int .i64 0, .int .u64 0, .slice none 0 0, .slice none 0 0] 37)) s
  have hz1 : (w.alloc (.cells #[.int .i64 0, .int .u64 0, .slice none 0 0, .slice none 0 0] 37)).heap.size = w.heap.size + 1 := by simp
  rw [hz1] at hrun hrd hb hz
  obtain ⟨⟨z0, z1, z2, z3⟩, f0, f1, f2, f3⟩ := zero_cells hb
  have HRD := Lib.hid hrd
  have HB := Lib.hid hb
  have HZ := Lib.hid hz
  have HS := Lib.hid hs
  have HLO := Lib.hid hlo
  clear hrd hb hz hz1 hs hlo
  go_enter Tryd.func41, Tryd.ntmps41
  go_wp2_with fail
  have hsz4 : ((((W'.setCell ⟨w.heap.size, 0, none⟩ (.int .i64 3)).setCell ⟨w.heap.size, 1, none⟩ (.int .u64 0)).setCell ⟨w.heap.size, 2, none⟩ (.slice (some ⟨w.heap.size + 1, 0, none⟩) s.size c)).setCell ⟨w.heap.size, 3, none⟩ (.slice none 0 0)).heap.size = W'.heap.size := by simp [World.setCell]
  refine bodyPost_ret (v := .agg #[.int .i64 3, .int .u64 0, .slice (some ⟨w.heap.size + 1, 0, none⟩) s.size c, .slice none 0 0]) (by simp [results, Tryd.results41, go_sem, z0, z1, z2, z3]) rfl ⟨_, rfl, RdI.mk_data (by decide) hc HS.out (Rd.mask_one ?_ (Nat.le_trans HLO.out (Nat.le_succ _))), ?_⟩
  · rw [hsz4, HZ.out]
    exact HRD.out.set4 (fun _ b o h => (by cases h; omega))
  · exact below_set4 (((Below.refl _ _).alloc (Nat.le_refl _) _).trans (HB.out.mono (Nat.le_succ _))) (Nat.le_refl _)
end Go.Proofs.YtlncacfflalacaaDoor
