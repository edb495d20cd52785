/- What a table and a queue that are nil answer. -/
import Derived.Test.YtkflekaibfkicaaBagH
import Derived.Test.YtkflekaibfkicaaBagL
import Derived.Test.YtkflekaibfkicaaBagR
namespace Go.Proofs.Ytkflekaibfkicaa
open Go.RowKit

set_option maxRecDepth 100000 in
set_option maxHeartbeats 1000000 in
theorem qlist_nil (w : World) : Calls Try.prog 20 #[.pointer none] w fun e w' => ∃ v, e = .returned v ∧ Ov w' w.heap.size 3 v [] ∧ Below w.heap.size w w' := by
  have C0 := Lib.hid (qlen_nil w)
  go_enter Try.func20, Try.ntmps20
  go_wp2_with (first
    | (go_at_call 19; refine C0.out.mono ?_; rintro e w' ⟨rfl, rfl⟩)
    | (refine wpList_mk0 _ rfl (.const (.int .i64 0)) (.tmp 9) 27 rfl w.heap.size 3 (.int .i64 0) 8 Try.underlying27 info_int (by decide) _ 0 rfl rfl rfl (by decide) (Nat.le_refl _) ?_; intro w1 ho1 hg1; have H1 := Lib.hid (And.intro ho1 hg1); clear ho1 hg1)
    | fail)
  go_loopw [4, 12] (fun v k wr => v = .slice (some ⟨w.heap.size, 0, none⟩) 0 0 ∧ k = .int .i64 0 ∧ wr = w1) (fun _ _ _ => 0)
  case atStart => exact ⟨rfl, rfl, rfl⟩
  case round =>
    obtain ⟨rfl, rfl, rfl⟩ := hrel
    go_wp2_with fail
    go_ret
    exact ⟨_, rfl, H1.out.1, ⟨H1.out.2.os, H1.out.2.tape, H1.out.2.output, H1.out.2.size, fun k hk => H1.out.2.block k hk (by simp)⟩⟩

set_option maxRecDepth 100000 in
set_option maxHeartbeats 4000000 in
theorem bagNobody_walk (k : Int) (v : ByteArray) (w : World) (_ : (Lit.int .i64 k).wf = true) (_ : v.size ≤ 140737488351232) : Calls Try.prog 7 #[.int .i64 k, .string v] w fun e w' => e = .returned (.bool true) ∧ Below w.heap.size w w' := by
  go_enter Try.func7, Try.ntmps7
  go_wp2_with fail
  refine (nget_nil w k).mono ?_
  rintro e w1 ⟨rfl, rfl⟩
  go_wp2_with fail
  refine (qpop_nil w).mono ?_
  rintro e w1 ⟨rfl, rfl⟩
  go_wp2_with fail
  refine (nput_no w k v).mono ?_
  rintro e w1 ⟨rfl, rfl⟩
  go_wp2_with fail
  refine (ndel_nil w k).mono ?_
  rintro e w1 ⟨rfl, rfl⟩
  go_wp2_with fail
  refine (nkeys_no w).mono ?_
  rintro e w1 ⟨rfl, rfl⟩
  go_wp2_with fail
  refine (qpush_nil w k 9).mono ?_
  rintro e w2 ⟨rfl, hb2⟩
  have H2 := Lib.hid hb2
  clear hb2
  go_wp2_with fail
  refine (qlen_nil w2).mono ?_
  rintro e w1 ⟨rfl, rfl⟩
  go_wp2_with fail
  refine (qlist_nil w2).mono ?_
  rintro e w3 ⟨v, rfl, hov, hb3⟩
  obtain ⟨A, c, rfl, -, -⟩ := hov.rz (xs := [])
  have H3 := Lib.hid (H2.out.trans (hb3.mono H2.out.size))
  clear hov hb3
  go_wp2_with fail
  refine (heads12_any w3).mono ?_
  rintro e w4 ⟨rfl, hb4⟩
  have H4 := Lib.hid (H3.out.trans (hb4.mono H3.out.size))
  clear hb4
  go_wp2_with fail
  go_ret
  exact ⟨rfl, H4.out⟩
end Go.Proofs.Ytkflekaibfkicaa
