/- What the constants' functions of layer 7 and of its reference return. -/
import Derived.Test.YtllodapnbdbpeaaShaA
import Derived.Laws.Tables
import Derived.Great.BuildSlice
namespace Go.Proofs.Ytllodapnbdbpeaa
open Go.RowKit

/-- Words as cells. -/
def wc (l : List (BitVec 32)) : List Value := l.map fun x => Value.int .u32 (x.toNat : Int)
theorem wc_length (l : List (BitVec 32)) : (wc l).length = l.length := by simp [wc]
theorem wc_one (l : List (BitVec 32)) : (wc l).toArray.all (·.oneCell') = true := by
  rw [Array.all_eq_true_iff_forall_mem]
  intro v hv
  obtain ⟨x, _, rfl⟩ := List.mem_map.1 (by simpa [wc] using hv)
  rfl
theorem wc_get (l : List (BitVec 32)) (i : Nat) (h : i < l.length) : (wc l).toArray[i]? = some (.int .u32 ((l.getD i 0).toNat : Int)) := by
  simp [wc, List.getD, h]

theorem info64 : (Try.prog.info? 56).map (·.size) = some 64 := by kernel_rfl
theorem info8 : (Try.prog.info? 48).map (·.size) = some 8 := by kernel_rfl

set_option maxRecDepth 100000 in
set_option maxHeartbeats 1000000 in
theorem k_any (w : World) : Calls Try.prog 29 #[] w fun e w' => e = .returned (.slice (some ⟨w.heap.size, 0, none⟩) 64 64) ∧ w' = w.alloc (.cells (wc kL).toArray 40) := by
  go_enter Try.func29, Try.ntmps29
  go_wp2
  go_ret
  exact ⟨rfl, rfl⟩

set_option maxRecDepth 100000 in
set_option maxHeartbeats 1000000 in
theorem first_any (w : World) : Calls Try.prog 21 #[] w fun e w' => e = .returned (.slice (some ⟨w.heap.size, 0, none⟩) 8 8) ∧ w' = w.alloc (.cells (wc st0.list).toArray 40) := by
  go_enter Try.func21, Try.ntmps21
  go_wp2
  go_ret
  exact ⟨rfl, rfl⟩

set_option maxRecDepth 100000 in
set_option maxHeartbeats 1000000 in
theorem firstState_any (w : World) : Calls Try.prog 31 #[] w fun e w' => e = .returned (.agg (wc st0.list).toArray) ∧ Below w.heap.size w w' := by
  go_enter Try.func31, Try.ntmps31
  go_wp2_with fail
  refine bodyPost_ret (v := .agg (wc st0.list).toArray) (results_cell_row (p := 0) (ty := 48) rfl _ _ w.heap.size 48 (wc st0.list).toArray (0, 0) _ rfl (heap_alloc_new w _) Try.underlying48 rfl info8) rfl ?_
  exact ⟨rfl, (Below.refl _ _).alloc (Nat.le_refl _) _⟩

theorem kL_length : kL.length = 64 := rfl
theorem info_u32 : (Try.prog.info? 40).map (·.size) = some 1 := by kernel_rfl
theorem zero64 : ((Try.prog.info? 56).bind (·.zero)).map (·.cells.size) = some 64 := by kernel_rfl
theorem wc_ints (l : List (BitVec 32)) : ((l.map fun x => (x.toNat : Int)).map (Value.int .u32)).toArray = (wc l).toArray := by simp [wc]

theorem zero64v (w : World) : (zeroValue 56).run Try.prog w = .ok (.agg (Array.replicate 64 (.int .u32 0))) w :=
  (zero_of_info (P := Try.prog) (t := 56) (v := .agg (Array.replicate 64 (.int .u32 0))) (n := 64) (by kernel_rfl)).1 w
/-- A new variable of many cells, as an operation: its cells are what they are called. -/
theorem wpList_allocZ {P : Program} {ops : Array Oper} {rest : List Oper} {o : Oper} {a : Act} {w : World} {Q : Exit → Act → World → Prop} (hg : o.guard = none) (t : TypeId) (ho : o.op = .alloc t) (C : Array Value) (hz : ∀ w : World, (zeroValue t).run P w = .ok (.agg C) w)
    (h : wpList P ops Q rest (a.put o.dst (.pointer (some ⟨w.heap.size, 0, none⟩))) (w.alloc (.cells C t))) : wpList P ops Q (o :: rest) a w := by
  refine wpList_plain hg fun K hK => ?_
  unfold Oper.wp execOp
  simp only [ho, Instr.alloc, Sem.run_bind, hz, Result.andThen_ok, newVar, Sem.run_pure]
  exact hK _ _ h

def kZ : List Int := [1116352408, 1899447441, 3049323471, 3921009573, 961987163, 1508970993, 2453635748, 2870763221, 3624381080, 310598401, 607225278, 1426881987, 1925078388, 2162078206, 2614888103, 3248222580, 3835390401, 4022224774, 264347078, 604807628, 770255983, 1249150122, 1555081692, 1996064986, 2554220882, 2821834349, 2952996808, 3210313671, 3336571891, 3584528711, 113926993, 338241895, 666307205, 773529912, 1294757372, 1396182291, 1695183700, 1986661051, 2177026350, 2456956037, 2730485921, 2820302411, 3259730800, 3345764771, 3516065817, 3600352804, 4094571909, 275423344, 430227734, 506948616, 659060556, 883997877, 958139571, 1322822218, 1537002063, 1747873779, 1955562222, 2024104815, 2227730452, 2361852424, 2428436474, 2756734187, 3204031479, 3329325298]
theorem kZ_eq : (kL.map fun x => (x.toNat : Int)) = kZ := rfl
set_option maxRecDepth 100000 in
set_option maxHeartbeats 1000000 in
theorem roundWords_any (w : World) : Calls Try.prog 39 #[] w fun e w' => e = .returned (.agg (wc kL).toArray) ∧ Below w.heap.size w w' := by
  have hs : (wc kL).toArray.size = 64 := by rw [List.size_toArray, wc_length, kL_length]
  have h1 := wc_one kL
  have hz := (congrArg (fun l => (l.map (Value.int .u32)).toArray) kZ_eq).symm.trans (wc_ints kL)
  generalize (wc kL).toArray = K at *
  have H1 := Lib.hid h1
  have HZ := Lib.hid hz
  have HS := Lib.hid hs
  clear h1 hz hs
  go_enter Try.func39, Try.ntmps39
  go_wp2_with (first
    | (refine wpList_allocZ rfl 56 rfl _ zero64v ?_)
    | (refine wpList_buildFlatArr rfl 56 40 64 _ rfl .u32 kZ Try.underlying56 info_u32 zero64 rfl ?_; rw [show (kZ.map (Value.int .u32)).toArray = K from HZ.out])
    | (refine wpList_store_row rfl _ _ _ rfl w.heap.size K rfl rfl 56 _ (heap_alloc_new w _) (by rw [HS.out]; exact info64) (by rw [HS.out, Array.size_replicate]) H1.out ?_; rw [World.setRow_alloc_new])
    | fail)
  refine bodyPost_ret (v := .agg K) (results_cell_row (p := 0) (ty := 56) rfl _ _ w.heap.size 56 K (0, 0) _ rfl (heap_alloc_new w _) Try.underlying56 rfl (by rw [HS.out]; exact info64)) rfl ?_
  exact ⟨rfl, (Below.refl _ _).alloc (Nat.le_refl _) _⟩
end Go.Proofs.Ytllodapnbdbpeaa
