/- Get of tables from ByteArray to Int. (Made by gen/bagt.py.) -/
import Derived.Test.YtkflekaibfkicaaBagNs
import Derived.Deep.RegionHeld3
namespace Go.Proofs.Ytkflekaibfkicaa
open Go.RowKit Go.Maps

theorem sbox2 {w w1 : World} {c0 c1 : Value} {t : TypeId} (hb : Below (w.alloc (.cells #[c0, c1] t)).drew.heap.size (w.alloc (.cells #[c0, c1] t)).drew w1) :
    w1.cell? ⟨w.heap.size, 0, none⟩ = some c0 ∧ w1.cell? ⟨w.heap.size, 1, none⟩ = some c1 ∧ w1.frozen? ⟨w.heap.size, 0, none⟩ = false ∧ w1.frozen? ⟨w.heap.size, 1, none⟩ = false := by
  have e : w1.heap[w.heap.size]? = some (.cells #[c0, c1] t) := (hb.block w.heap.size (by show w.heap.size < (w.alloc (.cells #[c0, c1] t)).heap.size; simp)).trans (heap_alloc_new w _)
  refine ⟨?_, ?_, ?_, ?_⟩ <;> simp [World.cell?, World.frozen?, e]

set_option maxRecDepth 100000 in
set_option maxHeartbeats 4000000 in
theorem sget_any (w : World) {B g N : Nat} {T : ByteArray → Option Int} (k : ByteArray) (hw : k.size ≤ maxLen) (h : sTSt B w g N T) :
    Calls Try.prog 24 #[.pointer (some ⟨g, 0, none⟩), .string k] w fun e w' => e = .returned (.tuple #[Value.int .i64 ((T k).getD 0), .bool (T k).isSome]) ∧ Below w.heap.size w w' := by
  have hg := h.lt
  obtain ⟨vm, hc, hm⟩ := h.st
  obtain ⟨k', v', he, hv'⟩ := sat_form T k
  obtain ⟨hs, hhs⟩ : ∃ hs, hs = (T k).isSome := ⟨_, rfl⟩
  rw [← hhs, ← hv']
  have KF : Hid (∀ W, Below w.heap.size w W → W.cell? ⟨g, 0, none⟩ = some vm ∧ (Instr.lookup 48 vm (.agg #[.string k, .bool false]) true).run Try.prog W = .ok (.tuple #[.agg #[.string k', .int .i64 v'], .bool hs]) W) := fun W hW => by
    have hl := hm.look k hw hW
    rw [he, ← hhs] at hl
    exact ⟨(hW.cell hg).trans hc, hl⟩
  have CP := Lib.hid (fun W => splace k W)
  clear hm he hhs hv' h hw
  go_enter Try.func24, Try.ntmps24
  go_wp2_with fail
  go_region_held3 (fun W => W.cell? ⟨g, 0, none⟩ = some vm ∧ (Instr.lookup 48 vm (.agg #[.string k, .bool false]) true).run Try.prog W = .ok (.tuple #[.agg #[.string k', .int .i64 v'], .bool hs]) W)
    (first | (exact KF.out _ (Below.refl _ _).drew) | (exact KF.out _ ((Below.refl _ _).alloc (Nat.le_refl _) _).drew) | (exact KF.out _ BA.out) | (exact KF.out _ ((BA.out.setCell (Nat.le_refl _) _).setCell (Nat.le_refl _) _)) | (exact KF.out _ (BA.out.alloc BA.out.size _)) | fail)
    (first | (go_at_call 33; refine (CP.out _).mono ?_; rintro e w1 ⟨rfl, hb1⟩; have BA : Hid (Below w.heap.size w w1) := (by first | exact (Below.refl _ _).drew.trans hb1 | exact ((Below.refl _ _).alloc (Nat.le_refl _) _).drew.trans (hb1.mono (by simp))); first | (obtain ⟨x0, x1, y0, y1⟩ := sbox2 hb1; clear hb1) | clear hb1) | fail)
  all_goals
    have HB : Hid (Below w.heap.size w w1) := BA.out
    go_wp2_with fail
    refine bodyPost_ret (v := .tuple #[Value.int .i64 v', .bool hs]) (by simp [results, Try.results24, go_sem]) rfl ?_
    exact ⟨rfl, by first | exact HB.out.alloc HB.out.size _ | exact (HB.out.setCell (Nat.le_refl _) _).setCell (Nat.le_refl _) _⟩
set_option maxRecDepth 100000 in
set_option maxHeartbeats 1000000 in
theorem sget_nil (w : World) (k : ByteArray) : Calls Try.prog 24 #[.pointer none, .string k] w fun e w' => e = .returned (.tuple #[Value.int .i64 0, .bool false]) ∧ w = w' := by
  go_enter Try.func24, Try.ntmps24
  go_wp2_with fail
  refine bodyPost_ret (v := .tuple #[Value.int .i64 0, .bool false]) (by simp [results, Try.results24, go_sem]) rfl ⟨rfl, rfl⟩
end Go.Proofs.Ytkflekaibfkicaa
