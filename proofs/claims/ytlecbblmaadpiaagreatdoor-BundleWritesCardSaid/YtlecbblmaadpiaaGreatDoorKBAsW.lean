import Derived.Test.YtlecbblmaadpiaaGreatDoorKBAsV
namespace Go.Proofs.YtlecbblmaadpiaaGreatDoor
set_option maxRecDepth 100000
set_option maxHeartbeats 16000000
open Go.RowKit Go.Extern.Stop Go.Stop Go.Extern
open Go.Lib (hid)
theorem bas_as_hit (z:Int) (s:ByteArray) (tb:Nat) (a:Addr) (old old1:Value) (w:World) (_hsa:a.spot=none) (ha:w.cell? a=some (.pointer (some ⟨tb,0,none⟩))) (ht0:w.cell? ⟨tb,0,none⟩=some old) (hf0:w.frozen? ⟨tb,0,none⟩=false) (ht1:w.cell? ⟨tb,1,none⟩=some old1) (hf1:w.frozen? ⟨tb,1,none⟩=false) :
  Calls Tryz.prog 164 #[.iface 158 (.agg #[.int .i64 z,.string s]),.iface 164 (.pointer (some ⟨tb,0,none⟩)),.agg #[.pointer (some ⟨11,164,none⟩),.pointer (some a),.int .u64 150],.iface 236 (.agg #[.pointer (some ⟨11,158,none⟩)])] w
   fun ev w'=>ev=.returned (.bool true)∧Below tb w w'∧w'.cell? ⟨tb,0,none⟩=some (.int .i64 z):=by
 have h47:=@run_callFunc_extern Tryz.prog 161 _ (fun args=>ReflectliteValue.unpack (args.getD 0 (.tuple #[]))) Tryz.func161 (by kernel_rfl) (by kernel_rfl) (by kernel_rfl) (by kernel_rfl)
 have h52:=@run_callFunc_extern Tryz.prog 151 _ ReflectliteType.typeOf Tryz.func151 (by kernel_rfl) (by kernel_rfl) (by kernel_rfl) (by kernel_rfl)
 have h77 := @run_callFunc_extern Tryz.prog 278 _ (ReflectliteType.relation "AssignableTo" ReflectliteType.assignableTo) Tryz.func278 (by kernel_rfl) (by kernel_rfl) (by kernel_rfl) (by kernel_rfl)
 have h53 := @run_callFunc_extern Tryz.prog 203 _ (ReflectliteValue.method (ReflectliteValue.valueError "reflectlite.Value.Elem" 0) ReflectliteValue.elem) Tryz.func203 (by kernel_rfl) (by kernel_rfl) (by kernel_rfl) (by kernel_rfl)
 have h54:=@run_callFunc_extern Tryz.prog 204 _ ReflectliteValue.set Tryz.func204 (by kernel_rfl) (by kernel_rfl) (by kernel_rfl) (by kernel_rfl)
 have tO:=bas_typeOfT
 have mA:=bas_methodAssignableTo
 have aT:=bas_assignableT
 have vT:=bas_valueOfT
 have hal:a.block<w.heap.size:=World.block_lt_of_cell? w _ ha
 have htl:tb<w.heap.size:=World.block_lt_of_cell? w _ ht0
 have el:=bas_elemVP a ⟨tb,0,none⟩ (w.alloc (.cells #[.pointer (some ⟨11,164,none⟩),.pointer (some a),.int .u64 150] 206)) ((World.cell?_alloc_lt _ _ a hal).trans ha)
 have st:=bas_setT ⟨tb,0,none⟩ ⟨w.heap.size+1,0,none⟩ z s old old1 ((w.alloc (.cells #[.pointer (some ⟨11,164,none⟩),.pointer (some a),.int .u64 150] 206)).alloc (.cells #[.int .i64 z,.string s] 158)) rfl rfl
  (by rw [World.cell?_alloc_at _ _ _ _ (by simp)];rfl)
  (by show World.cell? _ ⟨w.heap.size+1,1,none⟩=_;rw [World.cell?_alloc_at _ _ _ _ (by simp)];rfl)
  (by rw [World.cell?_alloc_lt _ _ ⟨tb,0,none⟩ (by simp;omega),World.cell?_alloc_lt _ _ ⟨tb,0,none⟩ htl];exact ht0)
  (by rw [World.frozen?_alloc_old _ _ ⟨tb,0,none⟩ (by simp;omega),World.frozen?_alloc_old _ _ ⟨tb,0,none⟩ (Nat.ne_of_lt htl)];exact hf0)
  (by show World.cell? _ ⟨tb,1,none⟩=_;rw [World.cell?_alloc_lt _ _ ⟨tb,1,none⟩ (by simp;omega),World.cell?_alloc_lt _ _ ⟨tb,1,none⟩ htl];exact ht1)
  (by show World.frozen? _ ⟨tb,1,none⟩=_;rw [World.frozen?_alloc_old _ _ ⟨tb,1,none⟩ (by simp;omega),World.frozen?_alloc_old _ _ ⟨tb,1,none⟩ (Nat.ne_of_lt htl)];exact hf1)
 simp only [show (⟨tb,0,none⟩:Addr).add 1=⟨tb,1,none⟩ from rfl] at st
 go_enter Tryz.func164,Tryz.ntmps164
 go_wp2
 refine wp_loop_rounds 1 ?_
 rw [rounds_succ]
 go_wp2
 go_ret
 refine ⟨rfl,((((Below.refl tb w).setCell (p:=⟨tb,0,none⟩) nlr _).setCell (p:=⟨tb,1,none⟩) nlr _).alloc (by simp [World.setCell];omega) _).alloc (by simp [World.setCell];omega) _,?_⟩
 rw [World.cell?_alloc_lt _ _ ⟨tb,0,none⟩ (by simp [World.setCell];omega),World.cell?_alloc_lt _ _ ⟨tb,0,none⟩ (by simp [World.setCell];omega),World.cell?_setCell_other _ _ _ _ (by simp)]
 exact World.cell?_setCell_same _ _ _ ht0
theorem bas_hit (z:Int) (s:ByteArray) (tb:Nat) (old old1:Value) (w:World) (hg:LaidE w) (ht0:w.cell? ⟨tb,0,none⟩=some old) (hf0:w.frozen? ⟨tb,0,none⟩=false) (ht1:w.cell? ⟨tb,1,none⟩=some old1) (hf1:w.frozen? ⟨tb,1,none⟩=false) :
  Calls Tryz.prog 130 #[.iface 158 (.agg #[.int .i64 z,.string s]),.iface 164 (.pointer (some ⟨tb,0,none⟩))] w
   fun ev w'=>ev=.returned (.bool true)∧Below tb w w'∧w'.cell? ⟨tb,0,none⟩=some (.int .i64 z):=by
 have h47:=@run_callFunc_extern Tryz.prog 161 _ (fun args=>ReflectliteValue.unpack (args.getD 0 (.tuple #[]))) Tryz.func161 (by kernel_rfl) (by kernel_rfl) (by kernel_rfl) (by kernel_rfl)
 have h48 := @run_callFunc_extern Tryz.prog 162 _ (ReflectliteValue.methodAny (ReflectliteValue.valueError "reflectlite.Value.Type" 0) (fun t _ _ _ => ReflectliteType.toType t)) Tryz.func162 (by kernel_rfl) (by kernel_rfl) (by kernel_rfl) (by kernel_rfl)
 have h49 := @run_callFunc_extern Tryz.prog 163 _ (ReflectliteValue.method (ReflectliteValue.valueError "reflectlite.Value.IsNil" 0) ReflectliteValue.isNil) Tryz.func163 (by kernel_rfl) (by kernel_rfl) (by kernel_rfl) (by kernel_rfl)
 have h69:=@run_callFunc_extern Tryz.prog 264 _ (ReflectliteType.abiMethod fun t=>do pure (.int .u8 (← Rtype.kind t))) Tryz.func264 (by kernel_rfl) (by kernel_rfl) (by kernel_rfl) (by kernel_rfl)
 have h79:=@run_callFunc_extern Tryz.prog 280 _ (ReflectliteType.method ReflectliteType.elem) Tryz.func280 (by kernel_rfl) (by kernel_rfl) (by kernel_rfl) (by kernel_rfl)
 have h80 := @run_callFunc_extern Tryz.prog 281 _ (ReflectliteType.relation "Implements" ReflectliteType.implements_) Tryz.func281 (by kernel_rfl) (by kernel_rfl) (by kernel_rfl) (by kernel_rfl)
 have f6:=bas_valueOfP
 have f7:=bas_typeP
 have mK:=bas_methodKind
 have mE:=bas_methodElem
 have mI:=bas_methodImplements
 have kP:=bas_kindP
 have kT:=bas_kindT
 have eP:=bas_elemP
 have iT:=bas_implementsT
 have htl:tb<w.heap.size:=World.block_lt_of_cell? w _ ht0
 have hlt:=hg.lt
 have n8:=bas_isNilP ⟨w.heap.size,0,none⟩ ⟨tb,0,none⟩ ((w.alloc (.cells #[.pointer (some ⟨tb,0,none⟩)] 164)).alloc (.cells #[.pointer (some ⟨11,164,none⟩),.pointer (some ⟨w.heap.size,0,none⟩),.int .u64 150] 206)) (by simp)
 have hg2:((w.alloc (.cells #[.pointer (some ⟨tb,0,none⟩)] 164)).alloc (.cells #[.pointer (some ⟨11,164,none⟩),.pointer (some ⟨w.heap.size,0,none⟩),.int .u64 150] 206)).cell? ⟨4,0,none⟩=some (.iface 236 (.agg #[.pointer (some ⟨11,95,none⟩)])):=by
  rw [World.cell?_alloc_lt _ _ ⟨4,0,none⟩ (Nat.lt_of_lt_of_le hlt (by simp)),World.cell?_alloc_lt _ _ ⟨4,0,none⟩ hlt];exact hg
 have C:=hid (bas_as_hit z s tb ⟨w.heap.size,0,none⟩ old old1 ((w.alloc (.cells #[.pointer (some ⟨tb,0,none⟩)] 164)).alloc (.cells #[.pointer (some ⟨11,164,none⟩),.pointer (some ⟨w.heap.size,0,none⟩),.int .u64 150] 206)) rfl (by simp)
  (by rw [World.cell?_alloc_lt _ _ ⟨tb,0,none⟩ (by simp;omega),World.cell?_alloc_lt _ _ ⟨tb,0,none⟩ htl];exact ht0)
  (by rw [World.frozen?_alloc_old _ _ ⟨tb,0,none⟩ (by simp;omega),World.frozen?_alloc_old _ _ ⟨tb,0,none⟩ (Nat.ne_of_lt htl)];exact hf0)
  (by rw [World.cell?_alloc_lt _ _ ⟨tb,1,none⟩ (by simp;omega),World.cell?_alloc_lt _ _ ⟨tb,1,none⟩ htl];exact ht1)
  (by rw [World.frozen?_alloc_old _ _ ⟨tb,1,none⟩ (by simp;omega),World.frozen?_alloc_old _ _ ⟨tb,1,none⟩ (Nat.ne_of_lt htl)];exact hf1))
 have HT:=hid htl
 clear hg hlt htl ht0 hf0 ht1 hf1
 go_enter Tryz.func130,Tryz.ntmps130
 go_wp2_with fail
 refine C.out.mono ?_
 rintro e w1 ⟨rfl,hb1,hc1⟩
 have HB:=hid hb1
 have HC:=hid hc1
 clear hb1 hc1
 go_wp2_with fail
 go_ret
 exact ⟨rfl,(((Below.refl tb w).alloc (Nat.le_of_lt HT.out) _).alloc (Nat.le_trans (Nat.le_of_lt HT.out) (by simp)) _).trans HB.out,HC.out⟩
end Go.Proofs.YtlecbblmaadpiaaGreatDoor
