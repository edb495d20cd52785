/- What a digest on its way answers as bytes (layer 7). -/
import Derived.Test.YtllodapnbdbpeaaShaG
namespace Go.Proofs.Ytllodapnbdbpeaa
open Go.RowKit

/-- The cells of a digest on its way. -/
def dgC (s : St) (v : Value) (z : Nat) : Array Value := #[.int .u32 (s.a.toNat : Int), .int .u32 (s.b.toNat : Int), .int .u32 (s.c.toNat : Int), .int .u32 (s.d.toNat : Int), .int .u32 (s.e.toNat : Int), .int .u32 (s.f.toNat : Int), .int .u32 (s.g.toNat : Int), .int .u32 (s.h.toNat : Int), v, .int .i64 (z : Int)]
def Dg (w : World) (g : Nat) (s : St) (v : Value) (z : Nat) : Prop := w.heap[g]? = some (.cells (dgC s v z) 51 (0, 0))
section
variable {w w' : World} {g : Nat} {s : St} {v : Value} {z : Nat}
theorem Dg.word (h : Dg w g s v z) : ∀ j, j < 8 → w.cell? ⟨g, j, none⟩ = some (.int .u32 ((s.list.getD j 0).toNat : Int)) := by
  intro j hj
  simp only [World.cell?]
  rw [h]
  have : j = 0 ∨ j = 1 ∨ j = 2 ∨ j = 3 ∨ j = 4 ∨ j = 5 ∨ j = 6 ∨ j = 7 := by omega
  rcases this with rfl | rfl | rfl | rfl | rfl | rfl | rfl | rfl <;> rfl
theorem Dg.wait (h : Dg w g s v z) : w.cell? ⟨g, 8, none⟩ = some v := by
  simp only [World.cell?]
  rw [h]
  rfl
theorem Dg.len (h : Dg w g s v z) : w.cell? ⟨g, 9, none⟩ = some (.int .i64 (z : Int)) := by
  simp only [World.cell?]
  rw [h]
  rfl
theorem Dg.free (h : Dg w g s v z) (j : Nat) : w.frozen? ⟨g, j, none⟩ = false := by
  simp only [World.frozen?]
  rw [h]
  rfl
theorem Dg.lt (h : Dg w g s v z) : g < w.heap.size := (Array.getElem?_eq_some_iff.1 h).1
theorem Dg.of_block (h : Dg w g s v z) (e : w'.heap[g]? = w.heap[g]?) : Dg w' g s v z := e.trans h
theorem Dg.setWait (h : Dg w g s v z) (u : Value) : Dg (w.setCell ⟨g, 8, none⟩ u) g s u z := by
  show _ = _
  rw [heap_setCell_same w g 8 _ _ u h]
  rfl
theorem Dg.setLen (h : Dg w g s v z) (y : Nat) : Dg (w.setCell ⟨g, 9, none⟩ (.int .i64 (y : Int))) g s v y := by
  show _ = _
  rw [heap_setCell_same w g 9 _ _ _ h]
  rfl
end

theorem outL_step (s : St) (k : Nat) (hk : k < 8) : outL (s.list.take (k + 1)) = outL (s.list.take k) ++ be (s.list.getD k 0).toNat 4 := by
  have hl : k < s.list.length := hk
  rw [List.take_succ_eq_append_getElem hl]
  unfold outL
  rw [List.flatMap_append]
  congr 1
  simp [List.getD, hl]

set_option maxRecDepth 100000 in
set_option maxHeartbeats 2000000 in
theorem dbytes_any (g : Nat) (s : St) (v : Value) (z : Nat) (w : World) (h : Dg w g s v z) :
    Calls Try.prog 34 #[.pointer (some ⟨g, 0, none⟩)] w (GivesO 5 (outL s.list) w) := by
  have HD := Lib.hid h
  clear h
  go_enter Try.func34, Try.ntmps34
  go_wp2
  go_loopw [3, 5] (fun v i wr => ∃ k : Nat, k ≤ 8 ∧ i = .int .i64 k ∧ Hid (Ob wr w.heap.size 5 v (outL (s.list.take k))) ∧ Hid (Below w.heap.size w wr)) (fun _ i _ => 8 - (intOf i).toNat)
  case atStart => exact ⟨0, Nat.zero_le _, rfl, Ob.nil_ _ _ _, Below.refl _ _⟩
  case round =>
    obtain ⟨k, hk, rfl, hob, hbel⟩ := hrel
    by_cases hlt : k < 8
    · obtain ⟨x, hx⟩ : ∃ x, x = s.list.getD k 0 := ⟨_, rfl⟩
      have hcx : wr.cell? ⟨g, k, none⟩ = some (.int .u32 (x.toNat : Int)) := by
        rw [hx, hbel.out.cell (p := ⟨g, k, none⟩) HD.out.lt]; exact HD.out.word k hlt
      have hxl := x.isLt
      have C := Lib.hid (cput_any (x.toNat : Int) 4 4 rfl (by decide) wr (by omega) (by omega))
      have hlen : (outL (s.list.take k)).length + 4 ≤ 140737488355328 := by
        have : (outL (s.list.take k)).length ≤ 32 := by
          have e : ∀ L : List (BitVec 32), (outL L).length = 4 * L.length := fun L => by
            induction L with
            | nil => rfl
            | cons y t ih => rw [show outL (y :: t) = be y.toNat 4 ++ outL t from rfl, List.length_append, be_length, ih, List.length_cons]; omega
          rw [e, List.length_take]; omega
        omega
      have HX := Lib.hid hx
      have HLN := Lib.hid hlen
      have k0 : (0 : Int) ≤ (k : Int) := by omega
      have k1 : (k : Int) < 8 := by omega
      clear hx hlen
      go_wp2_with fail
      refine C.out.mono ?_
      rintro e w1 ⟨A1, rfl, hr1, hb1⟩
      have R1 := Lib.hid hr1
      have O1 := Lib.hid (hob.out.below hb1)
      have B1 := Lib.hid (hbel.out.trans (hb1.mono hbel.out.size))
      clear hr1 hb1
      go_wp2_with (first
        | (at_builtin; refine wpList_appB rfl (.tmp 8) (.tmp 16) 22 rfl w.heap.size 5 Try.underlying22 info_u8 _ (outL (s.list.take k)) rfl O1.out _ _ 4 4 _ rfl R1.out HLN.out B1.out.size ?_; intro v2 w2 ho2 hb2; have O2 := Lib.hid ho2; have B2 := Lib.hid (B1.out.trans hb2); clear ho2 hb2)
        | fail)
      go_roundw
      case rel =>
        refine ⟨k + 1, by omega, by go_num, ?_, B2.out⟩
        show Ob _ _ _ _ _
        rw [outL_step s k hlt, ← HX.out]
        exact O2.out
      case measure => simp [intOf]; omega
    · obtain rfl : k = 8 := by omega
      go_wp2
      go_ret
      exact ⟨_, rfl, hob.out, hbel.out⟩
end Go.Proofs.Ytllodapnbdbpeaa
