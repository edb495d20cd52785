/- Chosen by shake.py of the texts of the layers below: what cuint_any, ctext_any, bclone_any, GivesI, Below.drew_, to_box, box_cells, zero_cells need. -/
import Derived.Test.YtlncacfflalacaaDoorBase
import Derived.Test.YtlncacfflalacaaDoorCborI
import Derived.Test.YtlncacfflalacaaDoorCborO
import Derived.Test.YtlncacfflalacaaDoorCborQ
import Derived.Test.YtlncacfflalacaaDoorConv
import Derived.Test.YtlncacfflalacaaDoorEidN
import Derived.Test.YtlncacfflalacaaDoorMask
import Derived.Test.YtlncacfflalacaaDoorNumO
import Derived.Test.YtlncacfflalacaaDoorOwn
import Derived.Test.YtlncacfflalacaaDoorRows
import Derived.Below
import Derived.BigCall
import Derived.BigGuard
import Derived.BigGuardPart
import Derived.BigQuiet
import Derived.Deep.DeepCutAuto
import Derived.Deep.DeepFit
import Derived.Deep.Draws
import Derived.Deep.OwnRows
import Derived.Deep.QuietTactic
import Derived.Deep.RegionHeld3
import Derived.Laws.AppendOwn
import Derived.Laws.BitsAllLaws
import Derived.Laws.BytesArg
import Derived.Laws.IdiomStrings
import Derived.Laws.NewBlocks
import Derived.Laws.OwnMore
import Derived.Laws.Strings3
import Derived.Lib.EndianBits
import Derived.Lib.HexFns
import Derived.Lib.Hide
import Derived.Lib.ItoaNum
import Derived.Lib.SlBytesConst
import Derived.Lib.Strings
import Derived.Lib.Walk
import Derived.Maps.AppendAt
import Derived.Outline
import Derived.OwnWalk
import Derived.RegionTactic
import Derived.WalkKit
import Derived.WalkLawsBesides
section
namespace Go.Proofs.YtlncacfflalacaaDoor
open Go.RowKit
/-- A call gives back a slice of its own that reads as l, and leaves what was there. -/
def GivesO (t : TypeId) (l : List UInt8) (w : World) (e : Ending) (w' : World) : Prop := ∃ v, e = .returned v ∧ Ob w' w.heap.size t v l ∧ Below w.heap.size w w'
end Go.Proofs.YtlncacfflalacaaDoor
end
section
namespace Go.Proofs.YtlncacfflalacaaDoor
open Go.RowKit
/-- The four cells of a boxed item. -/
theorem box_cells {w w' : World} {c0 c1 c2 c3 : Value} {t : TypeId} (h : Below (w.heap.size + 1) (w.alloc (.cells #[c0, c1, c2, c3] t)) w') :
    w'.cell? ⟨w.heap.size, 0, none⟩ = some c0 ∧ w'.cell? ⟨w.heap.size, 1, none⟩ = some c1 ∧ w'.cell? ⟨w.heap.size, 2, none⟩ = some c2 ∧ w'.cell? ⟨w.heap.size, 3, none⟩ = some c3 :=
  ⟨(h.cell (p := ⟨w.heap.size, 0, none⟩) (Nat.lt_succ_self _)).trans (by simp), (h.cell (p := ⟨w.heap.size, 1, none⟩) (Nat.lt_succ_self _)).trans (by simp), (h.cell (p := ⟨w.heap.size, 2, none⟩) (Nat.lt_succ_self _)).trans (by simp), (h.cell (p := ⟨w.heap.size, 3, none⟩) (Nat.lt_succ_self _)).trans (by simp)⟩
theorem to_box {w w' : World} {o : Obj} (h : Below (w.alloc o).heap.size (w.alloc o) w') : Below (w.heap.size + 1) (w.alloc o) w' := h.mono (by simp)
end Go.Proofs.YtlncacfflalacaaDoor
end
section
namespace Go.Proofs.YtlncacfflalacaaDoor
open Go.RowKit
theorem Below.drew_ {B : Nat} {w : World} : Below B w w.drew := (Below.refl B w).drew
/-- A call gives back a value that reads as the item x, and leaves what was there. -/
def GivesI (x : Itm) (w : World) (e : Ending) (w' : World) : Prop := ∃ v, e = .returned v ∧ RdI w' w'.heap.size v x ∧ Below w.heap.size w w'
theorem RdI.mk_uint {w : World} {B n : Nat} (hn : n < 18446744073709551616) : RdI w B (.agg #[.int .i64 0, .int .u64 (n : Int), .slice none 0 0, .slice none 0 0]) (.mk 0 n [] []) := by
  rw [RdI]
  exact ⟨none, 0, 0, none, 0, 0, rfl, by decide, hn, ⟨Nat.le_refl _, by decide⟩, Rd.nil_, ⟨Nat.le_refl _, by decide⟩, rfl, fun h => absurd h (Nat.lt_irrefl _)⟩
theorem RdI.mk_data {w : World} {B nd cd : Nat} {A : Option Addr} {d : List UInt8} {k : Int} (hk : (Lit.int .i64 k).wf = true) (hc : nd ≤ cd) (hc2 : nd ≤ 140737488355328) (h : Rd w B A nd d) : RdI w B (.agg #[.int .i64 k, .int .u64 0, .slice A nd cd, .slice none 0 0]) (.mk k 0 d []) := by
  rw [RdI]
  exact ⟨A, nd, cd, none, 0, 0, rfl, hk, by decide, ⟨hc, hc2⟩, h, ⟨Nat.le_refl _, by decide⟩, rfl, fun h => absurd h (Nat.lt_irrefl _)⟩
end Go.Proofs.YtlncacfflalacaaDoor
end
section
namespace Go.Proofs.YtlncacfflalacaaDoor
open Go.RowKit
/-- The zero item as a result's variable. -/
theorem zero_cells {w W' : World} (h : Below (w.heap.size + 1) (w.alloc (.cells #[.int .i64 0, .int .u64 0, .slice none 0 0, .slice none 0 0] 37)) W') :
    (W'.cell? ⟨w.heap.size, 0, none⟩ = some (.int .i64 0) ∧ W'.cell? ⟨w.heap.size, 1, none⟩ = some (.int .u64 0) ∧ W'.cell? ⟨w.heap.size, 2, none⟩ = some (.slice none 0 0) ∧ W'.cell? ⟨w.heap.size, 3, none⟩ = some (.slice none 0 0)) ∧
    (W'.frozen? ⟨w.heap.size, 0, none⟩ = false ∧ W'.frozen? ⟨w.heap.size, 1, none⟩ = false ∧ W'.frozen? ⟨w.heap.size, 2, none⟩ = false ∧ W'.frozen? ⟨w.heap.size, 3, none⟩ = false) :=
  ⟨box_cells h, (h.frozen (p := ⟨w.heap.size, 0, none⟩) (Nat.lt_succ_self _)).trans (by simp), (h.frozen (p := ⟨w.heap.size, 1, none⟩) (Nat.lt_succ_self _)).trans (by simp), (h.frozen (p := ⟨w.heap.size, 2, none⟩) (Nat.lt_succ_self _)).trans (by simp), (h.frozen (p := ⟨w.heap.size, 3, none⟩) (Nat.lt_succ_self _)).trans (by simp)⟩
/-- Below block w.heap.size, and in blocks behind it, four stores into that block turn nothing. -/
theorem Rd.set4 {W' : World} {B n : Nat} {A : Option Addr} {l : List UInt8} {g : Nat} {u0 u1 u2 u3 : Value} (h : Rd W' B A n l) (hA : 0 < n → ∀ b o, A = some ⟨b, o, none⟩ → b ≠ g) :
    Rd ((((W'.setCell ⟨g, 0, none⟩ u0).setCell ⟨g, 1, none⟩ u1).setCell ⟨g, 2, none⟩ u2).setCell ⟨g, 3, none⟩ u3) B A n l :=
  ⟨h.1, fun hn => by
    obtain ⟨b, o, e, hb, hc⟩ := h.2 hn
    have hne := hA hn b o e
    refine ⟨b, o, e, hb, fun i hi => ?_⟩
    rw [World.cell?_setCell_far _ _ _ _ (fun h => hne h.symm), World.cell?_setCell_far _ _ _ _ (fun h => hne h.symm), World.cell?_setCell_far _ _ _ _ (fun h => hne h.symm), World.cell?_setCell_far _ _ _ _ (fun h => hne h.symm)]
    exact hc i hi⟩
theorem below_set4 {B g : Nat} {w W' : World} {u0 u1 u2 u3 : Value} (h : Below B w W') (hg : B ≤ g) : Below B w ((((W'.setCell ⟨g, 0, none⟩ u0).setCell ⟨g, 1, none⟩ u1).setCell ⟨g, 2, none⟩ u2).setCell ⟨g, 3, none⟩ u3) :=
  (((h.setCell (p := ⟨g, 0, none⟩) hg _).setCell (p := ⟨g, 1, none⟩) hg _).setCell (p := ⟨g, 2, none⟩) hg _).setCell (p := ⟨g, 3, none⟩) hg _
end Go.Proofs.YtlncacfflalacaaDoor
end
section
namespace Go.Proofs.YtlncacfflalacaaDoor
open Go.RowKit
set_option maxRecDepth 100000 in
set_option maxHeartbeats 1000000 in
/-- bytes.Clone: nil of nil, else bytes of its own. -/
theorem bclone_any (A : Option Addr) (n c B : Nat) (l : List UInt8) (w : World) (hB : B ≤ w.heap.size) (h : Rd w B A n l) (hn : n ≤ 140737488355328) :
    Calls Tryd.prog 54 #[.slice A n c] w (GivesO 5 l w) := by
  have hl := h.1
  rcases A with _ | a
  · have h0 : n = 0 := by
      rcases Nat.eq_zero_or_pos n with h0 | h0
      · exact h0
      · obtain ⟨_, _, e, _⟩ := h.2 h0
        cases e
    subst h0
    have e : l = [] := List.eq_nil_of_length_eq_zero hl
    subst e
    have q22 := fun (W : World) (a : Option Addr) (n c : Nat) => Lib.run_eql_slice_nil (P := Tryd.prog) W 34 5 a n c 0 0 Tryd.underlying34
    go_enter Tryd.func54, Tryd.ntmps54
    go_wp2_with fail
    go_ret
    exact ⟨_, rfl, Ob.nil_ _ _ _, Below.refl _ _⟩
  · have HR := Lib.hid (h.alloc hB (.cells #[] 5))
    have HO := Lib.hid (show Ob (w.alloc (.cells #[] 5)) w.heap.size 5 (.slice (some ⟨w.heap.size, 0, none⟩) 0 0) [] from Ob.lit w [] #[] rfl (Nat.le_refl _) 0 rfl (by decide))
    have HN : Hid (([] : List UInt8).length + n ≤ 140737488355328) := by show _ ≤ _; simp; exact hn
    clear h hn hl hB
    have q22 := fun (W : World) (a : Option Addr) (n c : Nat) => Lib.run_eql_slice_nil (P := Tryd.prog) W 34 5 a n c 0 0 Tryd.underlying34
    go_enter Tryd.func54, Tryd.ntmps54
    go_wp2_with (first
      | (at_builtin; refine wpList_appB rfl (.tmp 5) (.tmp 6) 34 rfl w.heap.size 5 Tryd.underlying34 info_u8 _ [] rfl HO.out B (some a) n c l rfl HR.out HN.out (by simp) ?_; intro v1 w1 ho1 hb1; have O1 := Lib.hid ho1; have B1 := Lib.hid (((Below.refl w.heap.size w).alloc (Nat.le_refl _) _).trans hb1); clear ho1 hb1)
      | fail)
    go_ret
    exact ⟨_, rfl, by have := O1.out; rwa [List.nil_append] at this, B1.out⟩
set_option maxRecDepth 100000 in
set_option maxHeartbeats 1000000 in
theorem cuint_any (n : Nat) (w : World) (h : n < 18446744073709551616) :
    Calls Tryd.prog 29 #[.int .u64 (n : Int)] w (GivesI (.mk 0 n [] []) w) := by
  go_enter Tryd.func29, Tryd.ntmps29
  go_wp2_with fail
  have hr := fun W B => RdI.mk_uint (w := W) (B := B) (n := n) h
  exact bodyPost_ret (v := .agg #[.int .i64 0, .int .u64 (n : Int), .slice none 0 0, .slice none 0 0]) (by simp [results, Tryd.results29, go_sem]) rfl ⟨_, rfl, hr _ _, (Below.refl _ _).alloc (Nat.le_refl _) _⟩
set_option maxRecDepth 100000 in
set_option maxHeartbeats 1000000 in
theorem ctext_any (s : ByteArray) (w : World) (hs : s.size ≤ 140737488355328) :
    Calls Tryd.prog 41 #[.string s] w (GivesI (.mk 3 0 s.data.toList []) w) := by
  obtain ⟨c, W', hrun, hrd, hc, hb, hz⟩ := conv_bytes (w.alloc (.cells #[.int .i64 0, .int .u64 0, .slice none 0 0, .slice none 0 0] 37)) s
  have hz1 : (w.alloc (.cells #[.int .i64 0, .int .u64 0, .slice none 0 0, .slice none 0 0] 37)).heap.size = w.heap.size + 1 := by simp
  rw [hz1] at hrun hrd hb hz
  obtain ⟨⟨z0, z1, z2, z3⟩, f0, f1, f2, f3⟩ := zero_cells hb
  have HRD := Lib.hid hrd
  have HB := Lib.hid hb
  have HZ := Lib.hid hz
  have HS := Lib.hid hs
  clear hrd hb hz hz1 hs
  go_enter Tryd.func41, Tryd.ntmps41
  go_wp2_with fail
  have hsz4 : ((((W'.setCell ⟨w.heap.size, 0, none⟩ (.int .i64 3)).setCell ⟨w.heap.size, 1, none⟩ (.int .u64 0)).setCell ⟨w.heap.size, 2, none⟩ (.slice (some ⟨w.heap.size + 1, 0, none⟩) s.size c)).setCell ⟨w.heap.size, 3, none⟩ (.slice none 0 0)).heap.size = W'.heap.size := by simp [World.setCell]
  refine bodyPost_ret (v := .agg #[.int .i64 3, .int .u64 0, .slice (some ⟨w.heap.size + 1, 0, none⟩) s.size c, .slice none 0 0]) (by simp [results, Tryd.results41, go_sem, z0, z1, z2, z3]) rfl ⟨_, rfl, RdI.mk_data (by decide) hc HS.out ?_, ?_⟩
  · rw [hsz4, HZ.out]
    exact HRD.out.set4 (fun _ b o h => (by cases h; omega))
  · exact below_set4 (((Below.refl _ _).alloc (Nat.le_refl _) _).trans (HB.out.mono (Nat.le_succ _))) (Nat.le_refl _)
end Go.Proofs.YtlncacfflalacaaDoor
end
