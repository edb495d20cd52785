/- Layer 14's reference: right, Size. -/
import Derived.Test.YtlkppnghfgiapaaDoorRecO
import Derived.Test.YtlkppnghfgiapaaDoorRecE
import Derived.Test.YtlkppnghfgiapaaDoorSame
import Derived.Laws.Rows
namespace Go.Proofs.YtlkppnghfgiapaaDoor
open Go.RowKit

theorem cell_alloc2 (w : World) (c0 c1 : Value) (t : TypeId) : (w.alloc (.cells #[c0, c1] t)).cell? ⟨w.heap.size, 1, none⟩ = some c1 := by
  have h := heap_alloc_new w (.cells #[c0, c1] t)
  rw [cell_of_row (w.alloc (.cells #[c0, c1] t)) w.heap.size 1 _ _ _ h]
  rfl
set_option maxRecDepth 100000 in
set_option maxHeartbeats 1000000 in
theorem rright_any (t : Int) (A : Option Addr) (n c : Nat) (d : List UInt8) (w : World) (hd : d.length = n) :
    Calls Tryd.prog 23 #[recV t A n c] w fun e w' => e = .returned (.bool (rokR ⟨t, d⟩)) ∧ Below w.heap.size w w' := by
  have HB : Hid (Below w.heap.size w (w.alloc (.cells #[.int .i64 t, .slice A n c] 25))) := (Below.refl _ _).alloc (Nat.le_refl _) _
  unfold recV
  by_cases h1 : 1 ≤ t
  case neg =>
    have HR : Hid (rokR ⟨t, d⟩ = false) := by show _ = _; simp [rokR, h1]
    rw [HR.out]
    clear hd
    go_enter Tryd.func23, Tryd.ntmps23
    go_wp2_with fail
    go_ret
    exact ⟨rfl, HB.out⟩
  by_cases h2 : t ≤ 255
  case neg =>
    have HR : Hid (rokR ⟨t, d⟩ = false) := by show _ = _; simp [rokR, h2]
    rw [HR.out]
    clear hd
    go_enter Tryd.func23, Tryd.ntmps23
    go_wp2_with fail
    go_ret
    exact ⟨rfl, HB.out⟩
  by_cases h3 : n ≤ 8192
  · have h3i : (n : Int) ≤ 8192 := by omega
    have HR : Hid (rokR ⟨t, d⟩ = true) := rokR_iff.2 ⟨h1, h2, by show d.length ≤ _; omega⟩
    rw [HR.out]
    clear hd h3
    go_enter Tryd.func23, Tryd.ntmps23
    go_wp2_with fail
    go_ret
    exact ⟨rfl, HB.out⟩
  · have h3i : ¬ (n : Int) ≤ 8192 := by omega
    have HR : Hid (rokR ⟨t, d⟩ = false) := by
      show _ = _
      have : ¬ d.length ≤ 8192 := by omega
      simp [rokR, this]
    rw [HR.out]
    clear hd h3
    go_enter Tryd.func23, Tryd.ntmps23
    go_wp2_with fail
    go_ret
    exact ⟨rfl, HB.out⟩
set_option maxRecDepth 100000 in
set_option maxHeartbeats 1000000 in
theorem rsize_any (t : Int) (A : Option Addr) (n c : Nat) (d : List UInt8) (w : World) (hd : d.length = n) (hn : n ≤ 140737488355328) :
    Calls Tryd.prog 12 #[recV t A n c] w fun e w' => e = .returned (.int .i64 (if rokR ⟨t, d⟩ = true then (n : Int) + 7 else 0)) ∧ Below w.heap.size w w' := by
  have hb : Below w.heap.size w (w.alloc (.cells #[.int .i64 t, .slice A n c] 25)) := (Below.refl _ _).alloc (Nat.le_refl _) _
  have HB := Lib.hid hb
  have CR := Lib.hid (rright_any t A n c d (w.alloc (.cells #[.int .i64 t, .slice A n c] 25)) hd)
  have z1 := cell_alloc2 w (.int .i64 t) (.slice A n c) 25
  have Z1 := Lib.hid z1
  unfold recV at *
  cases hr : rokR ⟨t, d⟩ with
  | true =>
    rw [hr] at CR
    rw [if_pos rfl]
    clear hd hr hb z1
    go_enter Tryd.func12, Tryd.ntmps12
    go_wp2_with fail
    refine CR.out.mono ?_
    rintro e w1 ⟨rfl, hb1⟩
    have q1 : w1.cell? ⟨w.heap.size, 1, none⟩ = some (.slice A n c) := (hb1.cell (p := ⟨w.heap.size, 1, none⟩) (by simp)).trans Z1.out
    have B1 := Lib.hid (HB.out.trans (hb1.mono (by simp)))
    clear hb1
    go_wp2_with fail
    go_ret
    exact ⟨rfl, B1.out⟩
  | false =>
    rw [hr] at CR
    rw [if_neg (by decide)]
    clear hd hr hb z1
    go_enter Tryd.func12, Tryd.ntmps12
    go_wp2_with fail
    refine CR.out.mono ?_
    rintro e w1 ⟨rfl, hb1⟩
    have B1 := Lib.hid (HB.out.trans (hb1.mono (by simp)))
    clear hb1
    go_wp2_with fail
    go_ret
    exact ⟨rfl, B1.out⟩
end Go.Proofs.YtlkppnghfgiapaaDoor
