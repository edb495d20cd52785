/- Push, Pop, Len of queues of [2]int. (Made by gen/bagi.py.) -/
import Derived.Test.YtkflekaibfkicaaBagDt
namespace Go.Proofs.Ytkflekaibfkicaa
open Go.RowKit Go.Conc

theorem tlen_run {w W : World} {B g q : Nat} {v : Value} {l : List (List Value)} (hs : Chn B w g q v l) (hb : Below w.heap.size w W) (ty : TypeId) : (Builtin.len_ #[51] ty #[v]).run Try.prog W = .ok (.int .i64 (l.length : Int)) W := by
  rcases hs with ⟨rfl, rfl⟩ | ⟨c, cap, vs, rfl, hB, ⟨s, r, hh⟩, _, _, he⟩
  · simp [Builtin.len_, run_underlying Try.underlying51, goInt]
  · have h2 : W.heap[c]? = some (.chan cap vs.toArray false s r false) := by rw [hb.block c (Array.getElem?_eq_some_iff.1 hh).1]; exact hh
    rw [run_len_chan 51 ty Try.underlying51 h2, ← he.len]
    simp [goInt]

set_option maxRecDepth 100000 in
set_option maxHeartbeats 1000000 in
theorem tpush_no (w : World) {B g q : Nat} {l : List (List Value)} (z y : Int) (most : Int) (h : QSt B w g q l) (hm : most ≤ (l.length : Int)) :
    Calls Try.prog 22 #[.pointer (some ⟨g, 0, none⟩), (.agg #[.int .i64 z, .int .i64 y]), .int .i64 most] w fun e w' => e = .returned (.bool false) ∧ Below w.heap.size w w' := by
  have hg := h.lt
  obtain ⟨v, hc, hs⟩ := h.st
  have hb : Below w.heap.size w (w.alloc (.cells #[.int .i64 z, .int .i64 y] 56)) := (Below.refl _ _).alloc (Nat.le_refl _) _
  have hlen := fun ty => tlen_run hs hb ty
  have hc1 : (w.alloc (.cells #[.int .i64 z, .int .i64 y] 56)).cell? ⟨g, 0, none⟩ = some v := hb.cell hg |>.trans hc
  have hd : decide (most ≤ (l.length : Int)) = true := by simpa using hm
  have HB := Lib.hid hb
  clear hb hs h hc
  generalize l.length = n at *
  go_enter Try.func22, Try.ntmps22
  go_wp2_with fail
  go_ret
  exact ⟨rfl, HB.out⟩

set_option maxRecDepth 100000 in
set_option maxHeartbeats 1000000 in
theorem tlen_any (w : World) {B g q : Nat} {l : List (List Value)} (h : QSt B w g q l) :
    Calls Try.prog 26 #[.pointer (some ⟨g, 0, none⟩)] w fun e w' => e = .returned (.int .i64 (l.length : Int)) ∧ w = w' := by
  obtain ⟨v, hc, hs⟩ := h.st
  have hlen := fun ty => tlen_run hs (Below.refl _ _) ty
  clear hs h
  generalize l.length = n at *
  go_enter Try.func26, Try.ntmps26
  go_wp2_with fail
  go_ret
  exact ⟨rfl, rfl⟩
end Go.Proofs.Ytkflekaibfkicaa
