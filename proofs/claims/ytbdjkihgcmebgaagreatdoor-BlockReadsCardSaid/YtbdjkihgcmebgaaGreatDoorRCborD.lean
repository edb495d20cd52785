/- Items as calls make them: Text and Bytes of layer 3's reference. -/
import Derived.Test.YtbdjkihgcmebgaaGreatDoorRCborC
import Derived.Test.YtbdjkihgcmebgaaGreatDoorRNumG
namespace Go.Proofs.YtbdjkihgcmebgaaGreatDoor
open Go.RowKit

/-- The zero item as a result's variable. -/
theorem zero_cells {w W' : World} (h : Below (w.heap.size + 1) (w.alloc (.cells #[.int .i64 0, .int .u64 0, .slice none 0 0, .slice none 0 0] 42)) W') :
    (W'.cell? ⟨w.heap.size, 0, none⟩ = some (.int .i64 0) ∧ W'.cell? ⟨w.heap.size, 1, none⟩ = some (.int .u64 0) ∧ W'.cell? ⟨w.heap.size, 2, none⟩ = some (.slice none 0 0) ∧ W'.cell? ⟨w.heap.size, 3, none⟩ = some (.slice none 0 0)) ∧
    (W'.frozen? ⟨w.heap.size, 0, none⟩ = false ∧ W'.frozen? ⟨w.heap.size, 1, none⟩ = false ∧ W'.frozen? ⟨w.heap.size, 2, none⟩ = false ∧ W'.frozen? ⟨w.heap.size, 3, none⟩ = false) :=
  ⟨box_cells h, (h.frozen (p := ⟨w.heap.size, 0, none⟩) (Nat.lt_succ_self _)).trans (by simp), (h.frozen (p := ⟨w.heap.size, 1, none⟩) (Nat.lt_succ_self _)).trans (by simp), (h.frozen (p := ⟨w.heap.size, 2, none⟩) (Nat.lt_succ_self _)).trans (by simp), (h.frozen (p := ⟨w.heap.size, 3, none⟩) (Nat.lt_succ_self _)).trans (by simp)⟩

/-- Below block w.heap.size, and in blocks behind it, four stores into that block turn nothing. -/
theorem Rd.set4 {W' : World} {B n : Nat} {A : Option Addr} {l : List UInt8} {g : Nat} {u0 u1 u2 u3 : Value} (h : Rd W' B A n l) (hA : 0 < n → ∀ b o, A = some ⟨b, o, none⟩ → b ≠ g) :
    Rd ((((W'.setCell ⟨g, 0, none⟩ u0).setCell ⟨g, 1, none⟩ u1).setCell ⟨g, 2, none⟩ u2).setCell ⟨g, 3, none⟩ u3) B A n l :=
  ⟨h.1, fun hn => by
    obtain ⟨b, o, e, hb, hc⟩ := h.2 hn
    have hne := hA hn b o e
    refine ⟨b, o, e, hb, fun i hi => ?_⟩
    rw [World.cell?_setCell_far _ _ _ _ (fun h => hne h.symm), World.cell?_setCell_far _ _ _ _ (fun h => hne h.symm), World.cell?_setCell_far _ _ _ _ (fun h => hne h.symm), World.cell?_setCell_far _ _ _ _ (fun h => hne h.symm)]
    exact hc i hi⟩
theorem below_set4 {B g : Nat} {w W' : World} {u0 u1 u2 u3 : Value} (h : Below B w W') (hg : B ≤ g) : Below B w ((((W'.setCell ⟨g, 0, none⟩ u0).setCell ⟨g, 1, none⟩ u1).setCell ⟨g, 2, none⟩ u2).setCell ⟨g, 3, none⟩ u3) :=
  (((h.setCell (p := ⟨g, 0, none⟩) hg _).setCell (p := ⟨g, 1, none⟩) hg _).setCell (p := ⟨g, 2, none⟩) hg _).setCell (p := ⟨g, 3, none⟩) hg _

set_option maxRecDepth 100000 in
set_option maxHeartbeats 1000000 in
theorem rbytes_any (A : Option Addr) (n c B : Nat) (l : List UInt8) (w : World) (hB : B ≤ w.heap.size) (h : Rd w B A n l) (hn : n ≤ 140737488355328) :
    Calls Tryz.prog 12 #[.slice A n c] w (GivesI (.mk 2 0 l []) w) := by
  have HR := Lib.hid ((h.alloc hB (.cells #[.int .i64 0, .int .u64 0, .slice none 0 0, .slice none 0 0] 42)).alloc (Nat.le_trans hB (le_alloc _ _)) (.cells #[] 5))
  have HO := Lib.hid (show Ob ((w.alloc (.cells #[.int .i64 0, .int .u64 0, .slice none 0 0, .slice none 0 0] 42)).alloc (.cells #[] 5)) (w.heap.size + 1) 5 (.slice (some ⟨w.heap.size + 1, 0, none⟩) 0 0) [] by
    have h := Ob.lit (base := w.heap.size + 1) (t := 5) (w.alloc (.cells #[.int .i64 0, .int .u64 0, .slice none 0 0, .slice none 0 0] 42)) [] #[] rfl (by simp) 0 rfl (by decide)
    simpa using h)
  have HN : Hid (([] : List UInt8).length + n ≤ 140737488355328) := by show _ ≤ _; simp; exact hn
  have hl := h.1
  have HLN := Lib.hid hl
  clear h hn hl hB
  go_enter Tryz.func12, Tryz.ntmps12
  go_wp2_with (first
    | (at_builtin; refine wpList_appB rfl (.tmp 3) (.tmp 4) 22 rfl (w.heap.size + 1) 5 Tryz.underlying22 info_u8 _ [] rfl HO.out B A n c l rfl HR.out HN.out (by simp) ?_; intro v1 w1 ho1 hb1; have O1 := Lib.hid ho1; have B1 := Lib.hid (((Below.refl (w.heap.size + 1) (w.alloc (.cells #[.int .i64 0, .int .u64 0, .slice none 0 0, .slice none 0 0] 42))).alloc (by simp) _).trans hb1); obtain ⟨⟨z0, z1, z2, z3⟩, f0, f1, f2, f3⟩ := zero_cells B1.out; have ho2 := O1.out; rw [List.nil_append] at ho2; obtain ⟨A2, c2, rfl, hc2, hm2, hr2⟩ := ho2.rdn HLN.out; have HR2 := Lib.hid hr2; have HO2 := Lib.hid ho2; clear ho1 hb1 hr2 ho2)
    | fail)
  refine bodyPost_ret (v := .agg #[.int .i64 2, .int .u64 0, .slice A2 n c2, .slice none 0 0]) (by simp [results, Tryz.results12, go_sem, z0, z1, z2, z3]) rfl ⟨_, rfl, RdI.mk_data (by decide) hc2 (by have := HN.out; simpa using this) ?_, ?_⟩
  · refine Rd.set4 (HR2.out.more (by simp [World.setCell])) (fun hn b o h => ?_)
    obtain ⟨g, cap, hv, hg, _, _⟩ := HO2.out.form (by rw [HLN.out]; exact hn)
    subst h
    cases hv
    omega
  · exact below_set4 (((Below.refl _ _).alloc (Nat.le_refl _) _).trans (B1.out.mono (Nat.le_succ _))) (Nat.le_refl _)
end Go.Proofs.YtbdjkihgcmebgaaGreatDoor
