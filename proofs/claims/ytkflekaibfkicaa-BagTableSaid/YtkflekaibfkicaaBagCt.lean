/- take and put of things by pointers: a select with a default, in one goroutine. (Made by gen/BagC.py.) -/
import Derived.Test.YtkflekaibfkicaaRows
import Derived.Test.YtkflekaibfkicaaBagB
import Derived.KernelRfl
import Derived.Laws.Rows
namespace Go.Proofs.Ytkflekaibfkicaa
open Go.Conc Go.RowKit
set_option maxRecDepth 100000 in
theorem ttake_some (w : World) {c cap s r : Nat} {buf : Array Value} (hc : w.heap[c]? = some (.chan cap buf false s r false)) {v : Value} (hv : buf.getD 0 undef = v) (hs : 0 < buf.size) : Calls Try.prog 37 #[.chan (some c)] w fun e w' => e = .returned (.tuple #[v, .bool true]) ∧ w' = w.setChan c cap (buf.extract 1 buf.size) false s (r + 1) false := by
  refine calls_of_loneTo fun cs => ?_
  have e : Frame.enter Try.prog 37 #[.chan (some c)] .normal = (base 37).at ⟨#[.chan (some c), undef, undef, undef, undef, undef, undef, undef, undef, undef, undef], []⟩ [.code (Try.f37.body.getD .skip)] := by
    simp [Frame.enter, Frame.at, Try.func37, base, Try.f37]
  rw [e]
  refine LoneTo.goes (n := 40) ?_
  simp only [Try.f37, Option.getD_some]
  s_c stepG_seq
  s_reg
  s_op
  s_op
  s_c stepG_region_end
  s_c stepG_seq
  s_reg
  s_op
  s_c stepG_region_end
  s_c stepG_seq
  s_reg
  s_stop
  refine LoneTo.step (step_lone_select_recv_buf (z := .pointer none) (stepG_comm (cases := #[rcase c (.pointer none)]) (blocking := false) (shape := .select) (w' := w) rfl rfl (by decide) (by simp [execOp, rcase, Act.eval])) hc hs) ?_
  rw [Frame.finish_at, hv]
  walk_nrm
  refine LoneTo.goes (n := 40) ?_
  s_op
  s_op
  s_c stepG_region_end
  s_c stepG_block
  s_cond true
  s_c stepG_seq
  s_reg
  s_op
  s_op
  s_c stepG_region_end
  s_c stepG_seq
  s_reg
  s_op
  s_op
  s_op
  s_c stepG_region_end
  s_c stepG_ret'
  s_stop
  exact LoneTo.done ⟨.returned (.tuple #[v, .bool true]), _, rfl, ⟨rfl, rfl⟩, rfl, rfl, rfl, rfl, _, Try.func37, by simp [results, Try.f37, Frame.at]⟩
set_option maxRecDepth 100000 in
theorem ttake_none (w : World) {c cap s r : Nat} (hc : w.heap[c]? = some (.chan cap #[] false s r false)) : Calls Try.prog 37 #[.chan (some c)] w fun e w' => e = .returned (.tuple #[.pointer none, .bool false]) ∧ w' = w := by
  refine calls_of_loneTo fun cs => ?_
  have e : Frame.enter Try.prog 37 #[.chan (some c)] .normal = (base 37).at ⟨#[.chan (some c), undef, undef, undef, undef, undef, undef, undef, undef, undef, undef], []⟩ [.code (Try.f37.body.getD .skip)] := by
    simp [Frame.enter, Frame.at, Try.func37, base, Try.f37]
  rw [e]
  refine LoneTo.goes (n := 40) ?_
  simp only [Try.f37, Option.getD_some]
  s_c stepG_seq
  s_reg
  s_op
  s_op
  s_c stepG_region_end
  s_c stepG_seq
  s_reg
  s_op
  s_c stepG_region_end
  s_c stepG_seq
  s_reg
  s_stop
  refine LoneTo.step (step_lone_select_default (z := .pointer none) (stepG_comm (cases := #[rcase c (.pointer none)]) (blocking := false) (shape := .select) (w' := w) rfl rfl (by decide) (by simp [execOp, rcase, Act.eval])) hc) ?_
  rw [Frame.finish_at]
  walk_nrm
  refine LoneTo.goes (n := 40) ?_
  s_op
  s_op
  s_c stepG_region_end
  s_c stepG_block
  s_cond false
  s_c stepG_seq
  s_reg
  s_op
  s_op
  s_c stepG_region_end
  s_c stepG_ret'
  s_stop
  exact LoneTo.done ⟨.returned (.tuple #[.pointer none, .bool false]), _, rfl, ⟨rfl, rfl⟩, rfl, rfl, rfl, rfl, _, Try.func37, by simp [results, Try.f37, Frame.at]⟩
set_option maxRecDepth 100000 in
theorem ttake_nil (w : World)  : Calls Try.prog 37 #[.chan none] w fun e w' => e = .returned (.tuple #[.pointer none, .bool false]) ∧ w' = w := by
  refine calls_of_loneTo fun cs => ?_
  have e : Frame.enter Try.prog 37 #[.chan none] .normal = (base 37).at ⟨#[.chan none, undef, undef, undef, undef, undef, undef, undef, undef, undef, undef], []⟩ [.code (Try.f37.body.getD .skip)] := by
    simp [Frame.enter, Frame.at, Try.func37, base, Try.f37]
  rw [e]
  refine LoneTo.goes (n := 40) ?_
  simp only [Try.f37, Option.getD_some]
  s_c stepG_seq
  s_reg
  s_op
  s_op
  s_c stepG_region_end
  s_c stepG_seq
  s_reg
  s_op
  s_c stepG_region_end
  s_c stepG_seq
  s_reg
  s_stop
  refine LoneTo.step (step_lone_select_recv_nil (z := .pointer none) (stepG_comm (cases := #[rcaseNil (.pointer none)]) (blocking := false) (shape := .select) (w' := w) rfl rfl (by decide) (by simp [execOp, rcaseNil, Act.eval]))) ?_
  rw [Frame.finish_at]
  walk_nrm
  refine LoneTo.goes (n := 40) ?_
  s_op
  s_op
  s_c stepG_region_end
  s_c stepG_block
  s_cond false
  s_c stepG_seq
  s_reg
  s_op
  s_op
  s_c stepG_region_end
  s_c stepG_ret'
  s_stop
  exact LoneTo.done ⟨.returned (.tuple #[.pointer none, .bool false]), _, rfl, ⟨rfl, rfl⟩, rfl, rfl, rfl, rfl, _, Try.func37, by simp [results, Try.f37, Frame.at]⟩
set_option maxRecDepth 100000 in
theorem tput_room (w : World) (A : Option Addr) {c cap s r : Nat} {buf : Array Value} (hc : w.heap[c]? = some (.chan cap buf false s r false)) (hs : buf.size < cap) : Calls Try.prog 34 #[.chan (some c), .pointer A] w fun e w' => e = .returned (.bool true) ∧ w' = w.setChan c cap (buf.push (.pointer A)) false (s + 1) r false := by
  refine calls_of_loneTo fun cs => ?_
  have e : Frame.enter Try.prog 34 #[.chan (some c), .pointer A] .normal = (base 34).at ⟨#[.chan (some c), .pointer A, undef, undef, undef, undef, undef, undef, undef, undef], []⟩ [.code (Try.f34.body.getD .skip)] := by
    simp [Frame.enter, Frame.at, Try.func34, base, Try.f34]
  rw [e]
  refine LoneTo.goes (n := 40) ?_
  simp only [Try.f34, Option.getD_some]
  s_c stepG_seq
  s_reg
  s_op
  s_c stepG_region_end
  s_c stepG_seq
  s_c stepG_seq
  s_reg
  s_op
  s_c stepG_region_end
  s_reg
  s_op
  s_c stepG_region_end
  s_c stepG_seq
  s_reg
  s_stop
  refine LoneTo.step (step_lone_select_send_room (v := .pointer A) (z' := .pointer none) (stepG_comm (cases := #[scase c (.pointer A) (.pointer none)]) (blocking := false) (shape := .select) (w' := w) rfl rfl (by decide) (by simp [execOp, scase, Act.eval])) hc hs) ?_
  rw [Frame.finish_at]
  walk_nrm
  refine LoneTo.goes (n := 40) ?_
  s_op
  s_op
  s_c stepG_region_end
  s_c stepG_block
  s_cond true
  s_c stepG_seq
  s_reg
  s_op
  s_c stepG_region_end
  s_c stepG_ret'
  s_stop
  exact LoneTo.done ⟨.returned (.bool true), _, rfl, ⟨rfl, rfl⟩, rfl, rfl, rfl, rfl, _, Try.func34, by simp [results, Try.f34, Frame.at]⟩
set_option maxRecDepth 100000 in
theorem tput_full (w : World) (A : Option Addr) {c cap s r : Nat} {buf : Array Value} (hc : w.heap[c]? = some (.chan cap buf false s r false)) (hs : cap ≤ buf.size) : Calls Try.prog 34 #[.chan (some c), .pointer A] w fun e w' => e = .returned (.bool false) ∧ w' = w := by
  refine calls_of_loneTo fun cs => ?_
  have e : Frame.enter Try.prog 34 #[.chan (some c), .pointer A] .normal = (base 34).at ⟨#[.chan (some c), .pointer A, undef, undef, undef, undef, undef, undef, undef, undef], []⟩ [.code (Try.f34.body.getD .skip)] := by
    simp [Frame.enter, Frame.at, Try.func34, base, Try.f34]
  rw [e]
  refine LoneTo.goes (n := 40) ?_
  simp only [Try.f34, Option.getD_some]
  s_c stepG_seq
  s_reg
  s_op
  s_c stepG_region_end
  s_c stepG_seq
  s_c stepG_seq
  s_reg
  s_op
  s_c stepG_region_end
  s_reg
  s_op
  s_c stepG_region_end
  s_c stepG_seq
  s_reg
  s_stop
  refine LoneTo.step (step_lone_select_send_full (v := .pointer A) (z' := .pointer none) (stepG_comm (cases := #[scase c (.pointer A) (.pointer none)]) (blocking := false) (shape := .select) (w' := w) rfl rfl (by decide) (by simp [execOp, scase, Act.eval])) hc hs) ?_
  rw [Frame.finish_at]
  walk_nrm
  refine LoneTo.goes (n := 40) ?_
  s_op
  s_op
  s_c stepG_region_end
  s_c stepG_block
  s_cond false
  s_c stepG_seq
  s_reg
  s_op
  s_c stepG_region_end
  s_c stepG_ret'
  s_stop
  exact LoneTo.done ⟨.returned (.bool false), _, rfl, ⟨rfl, rfl⟩, rfl, rfl, rfl, rfl, _, Try.func34, by simp [results, Try.f34, Frame.at]⟩
set_option maxRecDepth 100000 in
theorem tput_nil (w : World) (A : Option Addr)  : Calls Try.prog 34 #[.chan none, .pointer A] w fun e w' => e = .returned (.bool false) ∧ w' = w := by
  refine calls_of_loneTo fun cs => ?_
  have e : Frame.enter Try.prog 34 #[.chan none, .pointer A] .normal = (base 34).at ⟨#[.chan none, .pointer A, undef, undef, undef, undef, undef, undef, undef, undef], []⟩ [.code (Try.f34.body.getD .skip)] := by
    simp [Frame.enter, Frame.at, Try.func34, base, Try.f34]
  rw [e]
  refine LoneTo.goes (n := 40) ?_
  simp only [Try.f34, Option.getD_some]
  s_c stepG_seq
  s_reg
  s_op
  s_c stepG_region_end
  s_c stepG_seq
  s_c stepG_seq
  s_reg
  s_op
  s_c stepG_region_end
  s_reg
  s_op
  s_c stepG_region_end
  s_c stepG_seq
  s_reg
  s_stop
  refine LoneTo.step (step_lone_select_send_nil (v := .pointer A) (z' := .pointer none) (stepG_comm (cases := #[scaseNil (.pointer A) (.pointer none)]) (blocking := false) (shape := .select) (w' := w) rfl rfl (by decide) (by simp [execOp, scaseNil, Act.eval]))) ?_
  rw [Frame.finish_at]
  walk_nrm
  refine LoneTo.goes (n := 40) ?_
  s_op
  s_op
  s_c stepG_region_end
  s_c stepG_block
  s_cond false
  s_c stepG_seq
  s_reg
  s_op
  s_c stepG_region_end
  s_c stepG_ret'
  s_stop
  exact LoneTo.done ⟨.returned (.bool false), _, rfl, ⟨rfl, rfl⟩, rfl, rfl, rfl, rfl, _, Try.func34, by simp [results, Try.f34, Frame.at]⟩
end Go.Proofs.Ytkflekaibfkicaa
