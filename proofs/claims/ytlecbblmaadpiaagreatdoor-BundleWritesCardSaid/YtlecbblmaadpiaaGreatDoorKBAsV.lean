import Derived.Test.YtlecbblmaadpiaaGreatDoorKAsV
import Derived.LaidEql
import Derived.Stop.Asserts
import Derived.RowKitTokens
namespace Go.Proofs.YtlecbblmaadpiaaGreatDoor
open Go.RowKit Go.Extern.Stop Go.Stop Go.Extern
theorem bas_valueOfP (t:Addr) (w:World):(ReflectliteValue.unpack (.iface 164 (.pointer (some t)))).run Tryz.prog w
  = .ok (.agg #[.pointer (some ⟨11,164,none⟩),.pointer (some ⟨w.heap.size,0,none⟩),.int .u64 150]) (w.alloc (.cells #[.pointer (some t)] 164)):=by kernel_rfl
theorem bas_typeP (a : Addr) (w : World) : (ReflectliteValue.methodAny (ReflectliteValue.valueError "reflectlite.Value.Type" 0) (fun t _ _ _ => ReflectliteType.toType t) #[.agg #[.pointer (some ⟨11, 164, none⟩), .pointer (some a), .int .u64 150]]).run Tryz.prog w
  = .ok (.iface 236 (.agg #[.pointer (some ⟨11,164,none⟩)])) w:=by kernel_rfl
theorem bas_methodKind (n : Nat) (h : Value) (w : World) : (Go.method (n + 8) 236 (.agg #[h]) "Kind").run Tryz.prog w = .ok (264, h) w := by kernel_rfl
theorem bas_kindP (w:World):((ReflectliteType.abiMethod fun t=>(fun a:Nat=>Value.int IntKind.u8 (a:Int)) <$> Rtype.kind t) #[.pointer (some ⟨11,164,none⟩)]).run Tryz.prog w=.ok (.int .u8 22) w:=by kernel_rfl
theorem bas_kindT (w:World):((ReflectliteType.abiMethod fun t=>(fun a:Nat=>Value.int IntKind.u8 (a:Int)) <$> Rtype.kind t) #[.pointer (some ⟨11,158,none⟩)]).run Tryz.prog w=.ok (.int .u8 25) w:=by kernel_rfl
theorem bas_partsP (a:Addr) (w:World):(ReflectliteValue.parts (.agg #[.pointer (some ⟨11,164,none⟩),.pointer (some a),.int .u64 150])).run Tryz.prog w=.ok (some (164,a,150)) w:=by kernel_rfl
theorem bas_isNilP (a p:Addr) (W:World) (ha:W.cell? a=some (.pointer (some p))) :
  (ReflectliteValue.method (ReflectliteValue.valueError "reflectlite.Value.IsNil" 0) ReflectliteValue.isNil #[.agg #[.pointer (some ⟨11, 164, none⟩), .pointer (some a), .int .u64 150]]).run Tryz.prog W = .ok (.bool false) W := by
 rw [rlm]
 simp only [Sem.run_bind,bas_partsP,Result.andThen]
 simp [ReflectliteValue.isNil,loadVar,isAgg,underlying,Tryz.underlying164,ha,Result.andThen]
theorem bas_methodElem (n : Nat) (h : Value) (w : World) : (Go.method (n + 8) 236 (.agg #[h]) "Elem").run Tryz.prog w = .ok (280, .agg #[h]) w := by kernel_rfl
theorem bas_methodImplements (n : Nat) (h : Value) (w : World) : (Go.method (n + 8) 236 (.agg #[h]) "Implements").run Tryz.prog w = .ok (281, .agg #[h]) w := by kernel_rfl
theorem bas_methodAssignableTo (n : Nat) (h : Value) (w : World) : (Go.method (n + 8) 236 (.agg #[h]) "AssignableTo").run Tryz.prog w = .ok (278, .agg #[h]) w := by kernel_rfl
theorem bas_elemP (w:World):(ReflectliteType.method ReflectliteType.elem #[.agg #[.pointer (some ⟨11,164,none⟩)]]).run Tryz.prog w=.ok (.iface 236 (.agg #[.pointer (some ⟨11,158,none⟩)])) w:=by kernel_rfl
theorem bas_implementsT (w : World) : (ReflectliteType.relation "Implements" ReflectliteType.implements_ #[.agg #[.pointer (some ⟨11, 158, none⟩)], .iface 236 (.agg #[.pointer (some ⟨11, 95, none⟩)])]).run Tryz.prog w = .ok (.bool true) w := by kernel_rfl
theorem bas_typeOfT (v:Value) (w:World):(ReflectliteType.typeOf #[.iface 158 v]).run Tryz.prog w=.ok (.iface 236 (.agg #[.pointer (some ⟨11,158,none⟩)])) w:=by kernel_rfl
theorem bas_assignableT (w : World) : (ReflectliteType.relation "AssignableTo" ReflectliteType.assignableTo #[.agg #[.pointer (some ⟨11, 158, none⟩)], .iface 236 (.agg #[.pointer (some ⟨11, 158, none⟩)])]).run Tryz.prog w = .ok (.bool true) w := by kernel_rfl
theorem bas_valueOfT (z:Int) (s:ByteArray) (w:World):(ReflectliteValue.unpack (.iface 158 (.agg #[.int .i64 z,.string s]))).run Tryz.prog w
  = .ok (.agg #[.pointer (some ⟨11,158,none⟩),.pointer (some ⟨w.heap.size,0,none⟩),.int .u64 153]) (w.alloc (.cells #[.int .i64 z,.string s] 158)):=by kernel_rfl
theorem bas_elemOfP (w:World):(Rtype.elem? 164).run Tryz.prog w=.ok (some 158) w:=by kernel_rfl
theorem bas_mkT (p:Addr) (w:World):(ReflectliteValue.mk 158 p ReflectliteValue.flagAddr).run Tryz.prog w=.ok (.agg #[.pointer (some ⟨11,158,none⟩),.pointer (some p),.int .u64 409]) w:=by kernel_rfl
theorem bas_elemVP (a p:Addr) (W:World) (ha:W.cell? a=some (.pointer (some p))) :
  (ReflectliteValue.method (ReflectliteValue.valueError "reflectlite.Value.Elem" 0) ReflectliteValue.elem #[.agg #[.pointer (some ⟨11, 164, none⟩), .pointer (some a), .int .u64 150]]).run Tryz.prog W
   = .ok (.agg #[.pointer (some ⟨11,158,none⟩),.pointer (some p),.int .u64 409]) W:=by
 rw [rlm]
 simp only [Sem.run_bind,bas_partsP,Result.andThen]
 simp [ReflectliteValue.elem,loadVar,isAgg,underlying,Tryz.underlying164,ha,Result.andThen,bas_elemOfP,bas_mkT]
theorem bas_partsTa (a:Addr) (w:World):(ReflectliteValue.parts (.agg #[.pointer (some ⟨11,158,none⟩),.pointer (some a),.int .u64 409])).run Tryz.prog w=.ok (some (158,a,409)) w:=by kernel_rfl
theorem bas_partsT (a:Addr) (w:World):(ReflectliteValue.parts (.agg #[.pointer (some ⟨11,158,none⟩),.pointer (some a),.int .u64 153])).run Tryz.prog w=.ok (some (158,a,153)) w:=by kernel_rfl
theorem bas_directT (w:World):(Rtype.directlyAssignable 158 158).run Tryz.prog w=.ok true w:=by kernel_rfl
theorem bas_setT (ta b:Addr) (z:Int) (s:ByteArray) (old old1:Value) (W:World) (hsb:b.spot=none) (hst:ta.spot=none) (hb:W.cell? b=some (.int .i64 z)) (hb1:W.cell? (b.add 1)=some (.string s))
  (ht:W.cell? ta=some old) (hf:W.frozen? ta=false) (ht1:W.cell? (ta.add 1)=some old1) (hf1:W.frozen? (ta.add 1)=false) :
  (ReflectliteValue.set #[.agg #[.pointer (some ⟨11,158,none⟩),.pointer (some ta),.int .u64 409],.agg #[.pointer (some ⟨11,158,none⟩),.pointer (some b),.int .u64 153]]).run Tryz.prog W
   = .ok (.tuple #[]) ((W.setCell ta (.int .i64 z)).setCell (ta.add 1) (.string s)):=by
 obtain ⟨bb,bo,bs⟩:=b
 obtain ⟨tb,toff,ts⟩:=ta
 simp only at hsb hst
 subst hsb hst
 rw [rls]
 simp only [Sem.run_bind,bas_partsTa,bas_partsT,Result.andThen]
 simp [ReflectliteValue.flagAddr,loadVar,isAgg,underlying,Tryz.underlying158,Result.andThen,bas_directT,storeVar,Value.cells,storeCells,Addr.add]
 have hl:=run_loadCells_list (P:=Tryz.prog) W ⟨bb,bo,none⟩ [.int .i64 z,.string s] (fun j v hj=>by
  match j with
  | 0=>cases hj;simpa [Addr.add] using hb
  | 1=>cases hj;exact hb1
  | j+2=>simp at hj)
 simp only [List.length_cons,List.length_nil,Nat.zero_add] at hl
 simp only [Addr.add] at ht1 hf1
 have g1:(W.setCell ⟨tb,toff,none⟩ (.int .i64 z)).cell? ⟨tb,toff+1,none⟩=some old1:=by
  rw [World.cell?_setCell_other _ _ _ _ (by simp)]
  simpa using ht1
 have g2:(W.setCell ⟨tb,toff,none⟩ (.int .i64 z)).frozen? ⟨tb,toff+1,none⟩=false:=by
  rw [World.frozen?_setCell]
  simpa using hf1
 rw [hl]
 simp [storeCells,Addr.add]
 rw [run_store Tryz.prog W ⟨tb,toff,none⟩ _ _ (by rfl)]
 simp [ht,hf]
 rw [run_store Tryz.prog _ ⟨tb,toff+1,none⟩ _ _ (by rfl)]
 simp [g1,g2]
end Go.Proofs.YtlecbblmaadpiaaGreatDoor
