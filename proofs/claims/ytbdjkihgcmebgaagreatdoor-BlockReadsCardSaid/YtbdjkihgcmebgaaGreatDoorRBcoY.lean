/- BlockReads of layer 5's statements, walked. -/
import Derived.Test.YtbdjkihgcmebgaaGreatDoorRBcoR
import Derived.Test.YtbdjkihgcmebgaaGreatDoorRBlkP
namespace Go.Proofs.YtbdjkihgcmebgaaGreatDoor
open Go.RowKit

theorem wpList_allocY {P : Program} {ops : Array Oper} {rest : List Oper} {o : Oper} {a : Act} {w : World} {Q : Exit → Act → World → Prop} (hg : o.guard = none) (t : TypeId) (ho : o.op = .alloc t) (C : Array Value) (hz : ∀ w : World, (zeroValue t).run P w = .ok (.agg C) w)
    (h : wpList P ops Q rest (a.put o.dst (.pointer (some ⟨w.heap.size, 0, none⟩))) (w.alloc (.cells C t))) : wpList P ops Q (o :: rest) a w := by
  refine wpList_plain hg fun K hK => ?_
  unfold Oper.wp execOp
  simp only [ho, Instr.alloc, Sem.run_bind, hz, Result.andThen_ok, newVar, Sem.run_pure]
  exact hK _ _ h
theorem wpList_stRowY {P : Program} {ops : Array Oper} {rest : List Oper} {o : Oper} {a : Act} {w : World} {Q : Exit → Act → World → Prop} (hgd : o.guard = none) (ty : TypeId) (x y : Operand) (ho : o.op = .store ty x y)
    (g : Nat) (v0 v1 v2 v3 v4 : Value) (hx : a.eval x = .pointer (some ⟨g, 0, none⟩)) (hy : a.eval y = .agg #[v0, v1, v2, v3, v4])
    (t : TypeId) (old : Array Value) (hg : w.heap[g]? = some (.cells old t (0, 0))) (hi : (P.info? ty).map (·.size) = some 5)
    (hold : old.size = 5) (h1 : ([v0, v1, v2, v3, v4] : List Value).all (·.oneCell') = true)
    (h : ∀ W' : World, W'.heap[g]? = some (.cells #[v0, v1, v2, v3, v4] t (0, 0)) → (∀ (B : Nat) (w0 : World), Below B w0 w → B ≤ g → Below B w0 W') → W'.heap.size = w.heap.size → wpList P ops Q rest (a.put o.dst undef) W') :
    wpList P ops Q (o :: rest) a w :=
  wpList_store_row hgd ty x y ho g #[v0, v1, v2, v3, v4] hx hy t old hg hi hold (Array.all_eq_true_iff_forall_mem.2 fun v hv => List.all_eq_true.1 h1 v (by simpa using hv))
    (h _ (setRow_heap w g old _ t _ hg) (fun _ _ hb hB => below_setRow hb hB _) (setRow_size w g _))
theorem blk_zero (w : World) : (zeroValue 25).run Tryz.prog w = .ok (.agg #[.int .u64 0, .int .u64 0, .int .u64 0, .int .i64 0, .slice none 0 0]) w :=
  (zero_of_info (P := Tryz.prog) (t := 25) (v := .agg #[.int .u64 0, .int .u64 0, .int .u64 0, .int .i64 0, .slice none 0 0]) (n := 5) (by kernel_rfl)).1 w
theorem blk_info : (Tryz.prog.info? 25).map (·.size) = some 5 := by kernel_rfl

set_option maxRecDepth 100000 in
set_option maxHeartbeats 16000000 in
theorem blockReads_walk (A : Option Addr) (n c : Nat) (l : List UInt8) (w : World) (hA : Rd w w.heap.size A n l ∧ n ≤ c ∧ c ≤ 140737488351232) (hL : LaidE w) :
    Calls Tryz.prog 3 #[.slice A n c] w fun e w' => e = .returned (.bool true) ∧ Below w.heap.size w w' := by
  have HA := Lib.hid hA
  have HL := Lib.hid (fun W (hb : Below w.heap.size w W) => hL.below hb hL.lt)
  have C1 := Lib.hid (bdecode_any A n c w.heap.size l w (Nat.le_refl _) hA.1 (by omega) hA.2.1 hL)
  clear hA hL
  go_enter Tryz.func3, Tryz.ntmps3
  go_wp2_with fail
  refine C1.out.mono ?_
  rintro e w1 ⟨hb1, ⟨ty, nu, fl, cr, da⟩, A1, nd1, cd1, N, z, rfl, hd1, hbd1, hnd1, hr1⟩
  have HB1 := Lib.hid hb1
  have HD1 := Lib.hid hd1
  have HR1 := Lib.hid hr1
  obtain ⟨wa, hwa⟩ : ∃ wa, wa = w1.alloc (.cells #[.int .u64 0, .int .u64 0, .int .u64 0, .int .i64 0, .slice none 0 0] 25) := ⟨_, rfl⟩
  have XA : Hid (wa.heap[w1.heap.size]? = some (.cells #[.int .u64 0, .int .u64 0, .int .u64 0, .int .i64 0, .slice none 0 0] 25 (0, 0))) := by show _ = _; rw [hwa]; exact heap_alloc_new w1 _
  have BA : Hid (Below w1.heap.size w1 wa) := by show Below _ _ _; rw [hwa]; exact (Below.refl _ _).alloc (Nat.le_refl _) _
  have WA := Lib.hid hwa
  clear hb1 hd1 hr1 hwa hbd1 hnd1 C1
  go_wp2_with (first
    | (refine wpList_allocY rfl 25 rfl _ blk_zero ?_; rw [← WA.out])
    | (refine wpList_stRowY rfl 25 (.tmp 3) (.tmp 12) rfl w1.heap.size (.int .u64 (ty : Int)) (.int .u64 (nu : Int)) (.int .u64 (fl : Int)) (.int .i64 cr) (.slice A1 nd1 cd1) rfl rfl 25 _ XA.out blk_info rfl rfl ?_; intro w2 r2 b2 z2; have R2 := Lib.hid r2; have B2 := Lib.hid (b2 _ _ BA.out (Nat.le_refl _)); clear r2 b2 z2)
    | fail)
  have b2 : Below w.heap.size w w2 := HB1.out.trans (B2.out.mono HB1.out.size)
  refine (rdecodeB_any A n c w.heap.size l w2 b2.size (HA.out.1.below b2) (by have := HA.out.2; omega) HA.out.2.1).mono ?_
  rintro e w3 ⟨hb3, b', A3, nd3, cd3, N', z', rfl, hd3, -, -, hr3⟩
  rw [HD1.out] at hd3
  injection hd3 with hd3 hd4
  injection hd4 with hd4 hd5
  subst hd3 hd4 hd5
  have HB3 := Lib.hid hb3
  have HR3 := Lib.hid hr3
  have R3 : Hid (w3.heap[w1.heap.size]? = some (.cells #[.int .u64 (ty : Int), .int .u64 (nu : Int), .int .u64 (fl : Int), .int .i64 cr, .slice A1 nd1 cd1] 25 (0, 0))) := (hb3.block _ (Array.getElem?_eq_some_iff.1 R2.out).1).trans R2.out
  obtain ⟨wb, hwb⟩ : ∃ wb, wb = w3.alloc (.cells #[.int .u64 0, .int .u64 0, .int .u64 0, .int .i64 0, .slice none 0 0] 25) := ⟨_, rfl⟩
  have XB : Hid (wb.heap[w3.heap.size]? = some (.cells #[.int .u64 0, .int .u64 0, .int .u64 0, .int .i64 0, .slice none 0 0] 25 (0, 0))) := by show _ = _; rw [hwb]; exact heap_alloc_new w3 _
  have BB : Hid (Below w3.heap.size w3 wb) := by show Below _ _ _; rw [hwb]; exact (Below.refl _ _).alloc (Nat.le_refl _) _
  have WB := Lib.hid hwb
  clear hb3 hr3 hwb XA BA WA b2
  go_wp2_with (first
    | (refine wpList_allocY rfl 25 rfl _ blk_zero ?_; rw [← WB.out])
    | (refine wpList_stRowY rfl 25 (.tmp 6) (.tmp 18) rfl w3.heap.size (.int .u64 (ty : Int)) (.int .u64 (nu : Int)) (.int .u64 (fl : Int)) (.int .i64 cr) (.slice A3 nd3 cd3) rfl rfl 25 _ XB.out blk_info rfl rfl ?_; intro w4 r4 b4 z4; have R4 := Lib.hid r4; have B4 := Lib.hid (b4 _ _ BB.out (Nat.le_refl _)); obtain ⟨⟨x0, x1, x2, x3, x4⟩, -⟩ := row5 (((b4 _ _ BB.out (Nat.le_refl _)).block _ (Array.getElem?_eq_some_iff.1 R3.out).1).trans R3.out); obtain ⟨⟨y0, y1, y2, y3, y4⟩, -⟩ := row5 r4; clear r4 b4 z4)
    | fail)
  obtain rfl : nd1 = nd3 := HR1.out.1.symm.trans HR3.out.1
  have b3 : Below w.heap.size w w4 := HB1.out.trans ((B2.out.trans (HB3.out.mono B2.out.size)).trans (B4.out.mono (Nat.le_trans B2.out.size HB3.out.size)) |>.mono HB1.out.size)
  have B5 := Lib.hid b3
  have CS := Lib.hid (rsameB_true ty nu fl cr A1 A3 nd1 cd1 cd3 w3.heap.size da w4 B4.out.size (((HR1.out.below B2.out).below (HB3.out.mono B2.out.size)).more (Nat.le_trans B2.out.size HB3.out.size) |>.below B4.out) (HR3.out.below B4.out))
  unfold blkV at CS
  clear b3
  go_wp2_with fail
  refine CS.out.mono ?_
  rintro e w5 ⟨rfl, hb5⟩
  have B6 := Lib.hid (B5.out.trans (hb5.mono B5.out.size))
  clear hb5 x0 x1 x2 x3 x4 y0 y1 y2 y3 y4
  have ez : ((z : Int) == (z : Int)) = true := by simp
  have eN : ((N : Int) == (N : Int)) = true := by simp
  go_wp2_with fail
  refine (heads05_any w5 (HL.out w5 B6.out)).mono ?_
  rintro e w6 ⟨rfl, hb6⟩
  have B7 := Lib.hid (B6.out.trans (hb6.mono B6.out.size))
  clear hb6
  go_wp2_with fail
  go_ret
  exact ⟨rfl, B7.out⟩
end Go.Proofs.YtbdjkihgcmebgaaGreatDoor
