/- errors.As at a target whose element is a struct of one number, an error of that very type by value: a hit: '*target' is set. -/
import Derived.Test.YtldnokgdgafphaaGreatDoorJAsV
namespace Go.Proofs.YtldnokgdgafphaaGreatDoor
open Go.RowKit Go.Extern.Stop Go.Stop Go.Extern
set_option maxRecDepth 100000 in
set_option maxHeartbeats 4000000 in
theorem as_as_hit (z:Int) (tb:Nat) (a:Addr) (old:Value) (w:World) (_hsa:a.spot=none) (ha:w.cell? a=some (.pointer (some ⟨tb,0,none⟩))) (ht0:w.cell? ⟨tb,0,none⟩=some old) (hf0:w.frozen? ⟨tb,0,none⟩=false) :
    Calls Tryz.prog 128 #[.iface 157 (.agg #[.int .i64 z]),.iface 158 (.pointer (some ⟨tb,0,none⟩)),.agg #[.pointer (some ⟨6,158,none⟩),.pointer (some a),.int .u64 150],.iface 143 (.agg #[.pointer (some ⟨6,157,none⟩)])] w
      fun ev w'=>ev=.returned (.bool true)∧Below tb w w'∧w'.cell? ⟨tb,0,none⟩=some (.int .i64 z):=by
  have h47:=@run_callFunc_extern Tryz.prog 125 _ (fun args=>ReflectliteValue.unpack (args.getD 0 (.tuple #[]))) Tryz.func125 (by kernel_rfl) (by kernel_rfl) (by kernel_rfl) (by kernel_rfl)
  have h52:=@run_callFunc_extern Tryz.prog 75 _ ReflectliteType.typeOf Tryz.func75 (by kernel_rfl) (by kernel_rfl) (by kernel_rfl) (by kernel_rfl)
  have h77 := @run_callFunc_extern Tryz.prog 197 _ (ReflectliteType.relation "AssignableTo" ReflectliteType.assignableTo) Tryz.func197 (by kernel_rfl) (by kernel_rfl) (by kernel_rfl) (by kernel_rfl)
  have h53 := @run_callFunc_extern Tryz.prog 145 _ (ReflectliteValue.method (ReflectliteValue.valueError "reflectlite.Value.Elem" 0) ReflectliteValue.elem) Tryz.func145 (by kernel_rfl) (by kernel_rfl) (by kernel_rfl) (by kernel_rfl)
  have h54:=@run_callFunc_extern Tryz.prog 146 _ ReflectliteValue.set Tryz.func146 (by kernel_rfl) (by kernel_rfl) (by kernel_rfl) (by kernel_rfl)
  have tO:=as_typeOfT
  have mA:=as_methodAssignableTo
  have aT:=as_assignableT
  have vT:=as_valueOfT
  have hal:a.block<w.heap.size:=World.block_lt_of_cell? w _ ha
  have htl:tb<w.heap.size:=World.block_lt_of_cell? w _ ht0
  have el:=as_elemVP a ⟨tb,0,none⟩ (w.alloc (.cells #[.pointer (some ⟨6,158,none⟩),.pointer (some a),.int .u64 150] 180)) ((World.cell?_alloc_lt _ _ a hal).trans ha)
  have st:=as_setT ⟨tb,0,none⟩ ⟨w.heap.size+1,0,none⟩ z old ((w.alloc (.cells #[.pointer (some ⟨6,158,none⟩),.pointer (some a),.int .u64 150] 180)).alloc (.cells #[.int .i64 z] 157)) rfl rfl
    (by rw [World.cell?_alloc_at _ _ _ _ (by simp)];rfl)
    (by rw [World.cell?_alloc_lt _ _ ⟨tb,0,none⟩ (by simp;omega),World.cell?_alloc_lt _ _ ⟨tb,0,none⟩ htl];exact ht0)
    (by rw [World.frozen?_alloc_old _ _ ⟨tb,0,none⟩ (by simp;omega),World.frozen?_alloc_old _ _ ⟨tb,0,none⟩ (Nat.ne_of_lt htl)];exact hf0)
  go_enter Tryz.func128,Tryz.ntmps128
  go_wp2
  refine wp_loop_rounds 1 ?_
  rw [rounds_succ]
  go_wp2
  go_ret
  refine ⟨rfl,(((Below.refl tb w).setCell (p:=⟨tb,0,none⟩) (Nat.le_refl _) _).alloc (by simp [World.setCell];omega) _).alloc (by simp [World.setCell];omega) _,?_⟩
  rw [World.cell?_alloc_lt _ _ ⟨tb,0,none⟩ (by simp [World.setCell];omega),World.cell?_alloc_lt _ _ ⟨tb,0,none⟩ (by simp [World.setCell];omega)]
  exact World.cell?_setCell_same _ _ _ ht0
set_option maxRecDepth 100000 in
set_option maxHeartbeats 4000000 in
theorem as_hit (z:Int) (tb:Nat) (old:Value) (w:World) (hg:LaidE w) (ht0:w.cell? ⟨tb,0,none⟩=some old) (hf0:w.frozen? ⟨tb,0,none⟩=false) :
    Calls Tryz.prog 105 #[.iface 157 (.agg #[.int .i64 z]),.iface 158 (.pointer (some ⟨tb,0,none⟩))] w
      fun ev w'=>ev=.returned (.bool true)∧Below tb w w'∧w'.cell? ⟨tb,0,none⟩=some (.int .i64 z):=by
  have h47:=@run_callFunc_extern Tryz.prog 125 _ (fun args=>ReflectliteValue.unpack (args.getD 0 (.tuple #[]))) Tryz.func125 (by kernel_rfl) (by kernel_rfl) (by kernel_rfl) (by kernel_rfl)
  have h48 := @run_callFunc_extern Tryz.prog 126 _ (ReflectliteValue.methodAny (ReflectliteValue.valueError "reflectlite.Value.Type" 0) (fun t _ _ _ => ReflectliteType.toType t)) Tryz.func126 (by kernel_rfl) (by kernel_rfl) (by kernel_rfl) (by kernel_rfl)
  have h49 := @run_callFunc_extern Tryz.prog 127 _ (ReflectliteValue.method (ReflectliteValue.valueError "reflectlite.Value.IsNil" 0) ReflectliteValue.isNil) Tryz.func127 (by kernel_rfl) (by kernel_rfl) (by kernel_rfl) (by kernel_rfl)
  have h69:=@run_callFunc_extern Tryz.prog 189 _ (ReflectliteType.abiMethod fun t=>do pure (.int .u8 (← Rtype.kind t))) Tryz.func189 (by kernel_rfl) (by kernel_rfl) (by kernel_rfl) (by kernel_rfl)
  have h79:=@run_callFunc_extern Tryz.prog 199 _ (ReflectliteType.method ReflectliteType.elem) Tryz.func199 (by kernel_rfl) (by kernel_rfl) (by kernel_rfl) (by kernel_rfl)
  have h80 := @run_callFunc_extern Tryz.prog 200 _ (ReflectliteType.relation "Implements" ReflectliteType.implements_) Tryz.func200 (by kernel_rfl) (by kernel_rfl) (by kernel_rfl) (by kernel_rfl)
  have f6:=as_valueOfP
  have f7:=as_typeP
  have mK:=as_methodKind
  have mE:=as_methodElem
  have mI:=as_methodImplements
  have kP:=as_kindP
  have kT:=as_kindT
  have eP:=as_elemP
  have iT:=as_implementsT
  have htl:tb<w.heap.size:=World.block_lt_of_cell? w _ ht0
  have hlt:=hg.lt
  have n8:=as_isNilP ⟨w.heap.size,0,none⟩ ⟨tb,0,none⟩ ((w.alloc (.cells #[.pointer (some ⟨tb,0,none⟩)] 158)).alloc (.cells #[.pointer (some ⟨6,158,none⟩),.pointer (some ⟨w.heap.size,0,none⟩),.int .u64 150] 180)) (by simp)
  have hg2:((w.alloc (.cells #[.pointer (some ⟨tb,0,none⟩)] 158)).alloc (.cells #[.pointer (some ⟨6,158,none⟩),.pointer (some ⟨w.heap.size,0,none⟩),.int .u64 150] 180)).cell? ⟨1,0,none⟩=some (.iface 143 (.agg #[.pointer (some ⟨6,56,none⟩)])):=by
    rw [World.cell?_alloc_lt _ _ ⟨1,0,none⟩ (Nat.lt_of_lt_of_le hlt (by simp)),World.cell?_alloc_lt _ _ ⟨1,0,none⟩ hlt];exact hg
  have C:=Lib.hid (as_as_hit z tb ⟨w.heap.size,0,none⟩ old ((w.alloc (.cells #[.pointer (some ⟨tb,0,none⟩)] 158)).alloc (.cells #[.pointer (some ⟨6,158,none⟩),.pointer (some ⟨w.heap.size,0,none⟩),.int .u64 150] 180)) rfl (by simp)
    (by rw [World.cell?_alloc_lt _ _ ⟨tb,0,none⟩ (by simp;omega),World.cell?_alloc_lt _ _ ⟨tb,0,none⟩ htl];exact ht0)
    (by rw [World.frozen?_alloc_old _ _ ⟨tb,0,none⟩ (by simp;omega),World.frozen?_alloc_old _ _ ⟨tb,0,none⟩ (Nat.ne_of_lt htl)];exact hf0))
  have HT:=Lib.hid htl
  clear hg hlt htl ht0 hf0
  go_enter Tryz.func105,Tryz.ntmps105
  go_wp2_with fail
  refine C.out.mono ?_
  rintro e w1 ⟨rfl,hb1,hc1⟩
  have HB:=Lib.hid hb1
  have HC:=Lib.hid hc1
  clear hb1 hc1
  go_wp2_with fail
  go_ret
  exact ⟨rfl,(((Below.refl tb w).alloc (Nat.le_of_lt HT.out) _).alloc (Nat.le_trans (Nat.le_of_lt HT.out) (by simp)) _).trans HB.out,HC.out⟩
end Go.Proofs.YtldnokgdgafphaaGreatDoor
