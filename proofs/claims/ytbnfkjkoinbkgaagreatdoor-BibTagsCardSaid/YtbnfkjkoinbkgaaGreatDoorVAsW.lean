import Derived.Test.YtbnfkjkoinbkgaaGreatDoorVAbb
import Derived.Test.YtbnfkjkoinbkgaaGreatDoorVSame
import Derived.Test.YtbnfkjkoinbkgaaGreatDoorCards
import Derived.Test.YtbnfkjkoinbkgaaGreatDoorTie
import Derived.WalkKit
import Derived.LaidLaws
import Derived.LaidHandle
import Derived.LaidEql
import Derived.Stop.Asserts
import Derived.RowKitTokens
namespace Go.Proofs.YtbnfkjkoinbkgaaGreatDoor
set_option maxRecDepth 100000
set_option maxHeartbeats 16000000
open Go.RowKit
def LaidE(w:World):Prop:=w.cell? ⟨2,0,none⟩=some (.iface 156 (.agg #[.pointer (some ⟨8,53,none⟩)]))
theorem Q2g : Tryz.prog.globalNamed "errors.errorType" = some 2 := by kernel_rfl
theorem laid_rt : (Tryz.prog.cutTypes.find? (·.1 == "internal/reflectlite.rtype")).map (·.2) = some 156 := by kernel_rfl
theorem Qx9:((List.range Tryz.prog.types.size).filter fun t=>Tryz.prog.rowNamed t [101,114,114,111,114])=[53]:=by kernel_rfl
theorem Qom:typeHandle Tryz.prog 53=.pointer (some ⟨8,53,none⟩):=by kernel_rfl
theorem Qya {W : World} (h : laidMetH Tryz.prog [("errors.errorType", Rows.laid_errors_errorType)] W) : LaidE W := by
 have h' : laidMet Tryz.prog [] W ∧ handlesMet Tryz.prog [("errors.errorType", Rows.laid_errors_errorType)] W := h
 obtain⟨name,u,ty,e1,e2,e3,e4,e5⟩:=h'.2 _ (List.mem_singleton.2 rfl);have en:name=[101,114,114,111,114]:=(Option.some.inj e1).symm;subst en;obtain rfl:=Option.some.inj (laid_rt.symm.trans e2);have hm:ty∈(List.range Tryz.prog.types.size).filter fun t=>Tryz.prog.rowNamed t [101,114,114,111,114]:=List.mem_filter.2 ⟨List.mem_range.2 e3,e4⟩
 rw[Qx9] at hm
 obtain rfl:=List.mem_singleton.1 hm;rw[Qom] at e5
 have:=World.var?_cell Q2g e5 0
 simpa [LaidE] using this
theorem LaidE.below{B:Nat}{w w':World}(h:LaidE w)(hb:Below B w w')(hB:2<B):LaidE w':=(hb.cell (p:=⟨2,0,none⟩) hB).trans h
theorem LaidE.lt{w:World}(h:LaidE w):2<w.heap.size:=World.block_lt_of_cell? w _ h
noncomputable def Qmn (os:Os):World :=
 { World.holding Tryz.prog os ⟨#[],#[],[]⟩ with heap:=(World.holding Tryz.prog os ⟨#[],#[],[]⟩).heap.modify 2 fun
   | .cells _ t frozen=>.cells #[.iface 156 (.agg #[.pointer (some ⟨8,53,none⟩)])] t frozen
   | o=>o }
open Go.RowKit Go.Extern.Stop Go.Stop Go.Extern
theorem Q23(t:Value)(w:World):Calls Tryz.prog 33 #[.nilIface,t] w fun e w'=>e=.returned (.bool false)∧w=w':=by
 go_enter Tryz.func33,Tryz.ntmps33;go_wp2
 go_ret;exact⟨rfl,rfl⟩
theorem Qpi(t:Addr)(w:World):(ReflectliteValue.unpack (.iface 213 (.pointer (some t)))).run Tryz.prog w
  = .ok (.agg #[.pointer (some ⟨8,213,none⟩),.pointer (some ⟨w.heap.size,0,none⟩),.int .u64 150]) (w.alloc (.cells #[.pointer (some t)] 213)):=by kernel_rfl
theorem Qyz (a : Addr) (w : World) : (ReflectliteValue.methodAny (ReflectliteValue.valueError "reflectlite.Value.Type" 0) (fun t _ _ _ => ReflectliteType.toType t) #[.agg #[.pointer (some ⟨8, 213, none⟩), .pointer (some a), .int .u64 150]]).run Tryz.prog w
  = .ok (.iface 156 (.agg #[.pointer (some ⟨8,213,none⟩)])) w:=by kernel_rfl
theorem Qf9 (n : Nat) (h : Value) (w : World) : (Go.method (n + 8) 156 (.agg #[h]) "Kind").run Tryz.prog w = .ok (215, h) w := by kernel_rfl
theorem Qy1(w:World):((ReflectliteType.abiMethod fun t=>(fun a:Nat=>Value.int IntKind.u8 (a:Int)) <$> Rtype.kind t) #[.pointer (some ⟨8,213,none⟩)]).run Tryz.prog w=.ok (.int .u8 22) w:=by kernel_rfl
theorem Qy0(w:World):((ReflectliteType.abiMethod fun t=>(fun a:Nat=>Value.int IntKind.u8 (a:Int)) <$> Rtype.kind t) #[.pointer (some ⟨8,212,none⟩)]).run Tryz.prog w=.ok (.int .u8 25) w:=by kernel_rfl
theorem rlm(z:Sem Value)(f:TypeId→Addr→Nat→Nat→Sem Value)(v:Value) :
  ReflectliteValue.method z f #[v]=(do match ← ReflectliteValue.parts v with|none=>z|some (t,a,fl)=>f t a fl (fl % 32)):=rfl
theorem Qnk(a:Addr)(w:World):(ReflectliteValue.parts (.agg #[.pointer (some ⟨8,213,none⟩),.pointer (some a),.int .u64 150])).run Tryz.prog w=.ok (some (213,a,150)) w:=by kernel_rfl
theorem Qwg(a p:Addr)(W:World)(ha:W.cell? a=some (.pointer (some p))) :
  (ReflectliteValue.method (ReflectliteValue.valueError "reflectlite.Value.IsNil" 0) ReflectliteValue.isNil #[.agg #[.pointer (some ⟨8, 213, none⟩), .pointer (some a), .int .u64 150]]).run Tryz.prog W = .ok (.bool false) W := by
 rw[rlm]
 simp only[Sem.run_bind,Qnk,Result.andThen];simp[ReflectliteValue.isNil,loadVar,isAgg,underlying,Tryz.underlying213,ha,Result.andThen]
theorem Qga (n : Nat) (h : Value) (w : World) : (Go.method (n + 8) 156 (.agg #[h]) "Elem").run Tryz.prog w = .ok (230, .agg #[h]) w := by kernel_rfl
theorem Qdi (n : Nat) (h : Value) (w : World) : (Go.method (n + 8) 156 (.agg #[h]) "Implements").run Tryz.prog w = .ok (231, .agg #[h]) w := by kernel_rfl
theorem Qcz (n : Nat) (h : Value) (w : World) : (Go.method (n + 8) 156 (.agg #[h]) "AssignableTo").run Tryz.prog w = .ok (228, .agg #[h]) w := by kernel_rfl
theorem Qy2(w:World):(ReflectliteType.method ReflectliteType.elem #[.agg #[.pointer (some ⟨8,213,none⟩)]]).run Tryz.prog w=.ok (.iface 156 (.agg #[.pointer (some ⟨8,212,none⟩)])) w:=by kernel_rfl
theorem Qjk (w : World) : (ReflectliteType.relation "Implements" ReflectliteType.implements_ #[.agg #[.pointer (some ⟨8, 212, none⟩)], .iface 156 (.agg #[.pointer (some ⟨8, 53, none⟩)])]).run Tryz.prog w = .ok (.bool true) w := by kernel_rfl
theorem Qsu(v:Value)(w:World):(ReflectliteType.typeOf #[.iface 212 v]).run Tryz.prog w=.ok (.iface 156 (.agg #[.pointer (some ⟨8,212,none⟩)])) w:=by kernel_rfl
theorem Qjl (w : World) : (ReflectliteType.relation "AssignableTo" ReflectliteType.assignableTo #[.agg #[.pointer (some ⟨8, 212, none⟩)], .iface 156 (.agg #[.pointer (some ⟨8, 212, none⟩)])]).run Tryz.prog w = .ok (.bool true) w := by kernel_rfl
theorem Qph(z:Int)(w:World):(ReflectliteValue.unpack (.iface 212 (.agg #[.int .i64 z]))).run Tryz.prog w
  = .ok (.agg #[.pointer (some ⟨8,212,none⟩),.pointer (some ⟨w.heap.size,0,none⟩),.int .u64 153]) (w.alloc (.cells #[.int .i64 z] 212)):=by kernel_rfl
theorem Qsw(w:World):(Rtype.elem? 213).run Tryz.prog w=.ok (some 212) w:=by kernel_rfl
theorem Q24(p:Addr)(w:World):(ReflectliteValue.mk 212 p ReflectliteValue.flagAddr).run Tryz.prog w=.ok (.agg #[.pointer (some ⟨8,212,none⟩),.pointer (some p),.int .u64 409]) w:=by kernel_rfl
theorem Qwh(a p:Addr)(W:World)(ha:W.cell? a=some (.pointer (some p))) :
  (ReflectliteValue.method (ReflectliteValue.valueError "reflectlite.Value.Elem" 0) ReflectliteValue.elem #[.agg #[.pointer (some ⟨8, 213, none⟩), .pointer (some a), .int .u64 150]]).run Tryz.prog W
   = .ok (.agg #[.pointer (some ⟨8,212,none⟩),.pointer (some p),.int .u64 409]) W:=by
 rw[rlm]
 simp only[Sem.run_bind,Qnk,Result.andThen];simp[ReflectliteValue.elem,loadVar,isAgg,underlying,Tryz.underlying213,ha,Result.andThen,Qsw,Q24]
theorem rls(v x:Value):ReflectliteValue.set #[v,x]=(do
  let (some (dst,a,fl),some (src,b,_)):=(← ReflectliteValue.parts v,← ReflectliteValue.parts x)
   | unsupported (.noEntry "extern/(internal/reflectlite.Value).Set.zeroValue")
  if fl / ReflectliteValue.flagAddr % 2 == 0 then unsupported (.noEntry "extern/(internal/reflectlite.Value).Set.unaddressable")
  let val ← loadVar src b
  if ← Rtype.directlyAssignable dst src then storeVar dst a val
  else if ← Rtype.implements dst src then
   if (← Rtype.kind src)==20 then
    match val with
    | .nilIface => unsupported (.noEntry "extern/reflectlite: a nil value of one interface type handed on as a value of another")
    | _=>storeVar dst a val
   else storeVar dst a (.iface src val)
  else panicString ("reflectlite.Set: value of type " ++ (← Rtype.spelt src) ++ " is not assignable to type " ++ (← Rtype.spelt dst))
  pure (.tuple #[])):=rfl
theorem Qsv(a:Addr)(w:World):(ReflectliteValue.parts (.agg #[.pointer (some ⟨8,212,none⟩),.pointer (some a),.int .u64 409])).run Tryz.prog w=.ok (some (212,a,409)) w:=by kernel_rfl
theorem Qwf(a:Addr)(w:World):(ReflectliteValue.parts (.agg #[.pointer (some ⟨8,212,none⟩),.pointer (some a),.int .u64 153])).run Tryz.prog w=.ok (some (212,a,153)) w:=by kernel_rfl
theorem Qsx(w:World):(Rtype.directlyAssignable 212 212).run Tryz.prog w=.ok true w:=by kernel_rfl
theorem Q1a(ta b:Addr)(z:Int)(old:Value)(W:World)(hsb:b.spot=none)(hst:ta.spot=none)(hb:W.cell? b=some (.int .i64 z))(ht:W.cell? ta=some old)(hf:W.frozen? ta=false) :
  (ReflectliteValue.set #[.agg #[.pointer (some ⟨8,212,none⟩),.pointer (some ta),.int .u64 409],.agg #[.pointer (some ⟨8,212,none⟩),.pointer (some b),.int .u64 153]]).run Tryz.prog W
   = .ok (.tuple #[]) (W.setCell ta (.int .i64 z)):=by
 obtain⟨bb,bo,bs⟩:=b;obtain⟨tb,toff,ts⟩:=ta;subst hsb hst;rw[rls]
 simp only[Sem.run_bind,Qsv,Qwf,Result.andThen];simp[ReflectliteValue.flagAddr,loadVar,isAgg,underlying,Tryz.underlying212,Result.andThen,Qsx,storeVar,Value.cells,storeCells,Addr.add];have hl:=run_loadCells_list (P:=Tryz.prog) W ⟨bb,bo,none⟩ [.int .i64 z] (fun j v hj=>by
  match j with
  | 0=>cases hj;simpa [Addr.add] using hb
  | j+1=>simp at hj)
 simp only[List.length_cons,List.length_nil,Nat.zero_add] at hl;rw[hl]
 simp[storeCells,Addr.add];rw[run_store Tryz.prog W ⟨tb,toff,none⟩ _ _ (by rfl)]
 simp[ht,hf]
open Go.RowKit Go.Extern.Stop Go.Stop Go.Extern
open Go.Lib (hid)
theorem Qwi(z:Int)(tb:Nat)(a:Addr)(old:Value)(w:World)(_hsa:a.spot=none)(ha:w.cell? a=some (.pointer (some ⟨tb,0,none⟩)))(ht0:w.cell? ⟨tb,0,none⟩=some old)(hf0:w.frozen? ⟨tb,0,none⟩=false) :
  Calls Tryz.prog 58 #[.iface 212 (.agg #[.int .i64 z]),.iface 213 (.pointer (some ⟨tb,0,none⟩)),.agg #[.pointer (some ⟨8,213,none⟩),.pointer (some a),.int .u64 150],.iface 156 (.agg #[.pointer (some ⟨8,212,none⟩)])] w
   fun ev w'=>ev=.returned (.bool true)∧Below tb w w'∧w'.cell? ⟨tb,0,none⟩=some (.int .i64 z):=by
 have h47:=@run_callFunc_extern Tryz.prog 55 _ (fun args=>ReflectliteValue.unpack (args.getD 0 (.tuple #[]))) Tryz.func55 (by kernel_rfl) (by kernel_rfl) (by kernel_rfl) (by kernel_rfl);have h52:=@run_callFunc_extern Tryz.prog 53 _ ReflectliteType.typeOf Tryz.func53 (by kernel_rfl) (by kernel_rfl) (by kernel_rfl) (by kernel_rfl);have h77 := @run_callFunc_extern Tryz.prog 228 _ (ReflectliteType.relation "AssignableTo" ReflectliteType.assignableTo) Tryz.func228 (by kernel_rfl) (by kernel_rfl) (by kernel_rfl) (by kernel_rfl)
 have h53 := @run_callFunc_extern Tryz.prog 97 _ (ReflectliteValue.method (ReflectliteValue.valueError "reflectlite.Value.Elem" 0) ReflectliteValue.elem) Tryz.func97 (by kernel_rfl) (by kernel_rfl) (by kernel_rfl) (by kernel_rfl)
 have h54:=@run_callFunc_extern Tryz.prog 98 _ ReflectliteValue.set Tryz.func98 (by kernel_rfl) (by kernel_rfl) (by kernel_rfl) (by kernel_rfl);have tO:=Qsu;have mA:=Qcz;have aT:=Qjl;have vT:=Qph;have hal:a.block<w.heap.size:=World.block_lt_of_cell? w _ ha;have htl:tb<w.heap.size:=World.block_lt_of_cell? w _ ht0;have el:=Qwh a ⟨tb,0,none⟩ (w.alloc (.cells #[.pointer (some ⟨8,213,none⟩),.pointer (some a),.int .u64 150] 107)) ((World.cell?_alloc_lt _ _ a hal).trans ha);have st:=Q1a ⟨tb,0,none⟩ ⟨w.heap.size+1,0,none⟩ z old ((w.alloc (.cells #[.pointer (some ⟨8,213,none⟩),.pointer (some a),.int .u64 150] 107)).alloc (.cells #[.int .i64 z] 212)) rfl rfl
  (by rw[World.cell?_alloc_at _ _ _ _ (by simp)];rfl)
  (by rw[World.cell?_alloc_lt _ _ ⟨tb,0,none⟩ (by simp;omega),World.cell?_alloc_lt _ _ ⟨tb,0,none⟩ htl];exact ht0)
  (by rw[World.frozen?_alloc_old _ _ ⟨tb,0,none⟩ (by simp;omega),World.frozen?_alloc_old _ _ ⟨tb,0,none⟩ (Nat.ne_of_lt htl)];exact hf0)
 go_enter Tryz.func58,Tryz.ntmps58;go_wp2
 refine wp_loop_rounds 1 ?_;rw[rounds_succ]
 go_wp2
 go_ret;refine⟨rfl,(((Below.refl tb w).setCell (p:=⟨tb,0,none⟩) zr _).alloc (by simp[World.setCell];omega) _).alloc (by simp[World.setCell];omega) _,?_⟩;rw[World.cell?_alloc_lt _ _ ⟨tb,0,none⟩ (by simp[World.setCell];omega),World.cell?_alloc_lt _ _ ⟨tb,0,none⟩ (by simp[World.setCell];omega)]
 exact World.cell?_setCell_same _ _ _ ht0
theorem Q25(z:Int)(tb:Nat)(old:Value)(w:World)(hg:LaidE w)(ht0:w.cell? ⟨tb,0,none⟩=some old)(hf0:w.frozen? ⟨tb,0,none⟩=false) :
  Calls Tryz.prog 33 #[.iface 212 (.agg #[.int .i64 z]),.iface 213 (.pointer (some ⟨tb,0,none⟩))] w
   fun ev w'=>ev=.returned (.bool true)∧Below tb w w'∧w'.cell? ⟨tb,0,none⟩=some (.int .i64 z):=by
 have h47:=@run_callFunc_extern Tryz.prog 55 _ (fun args=>ReflectliteValue.unpack (args.getD 0 (.tuple #[]))) Tryz.func55 (by kernel_rfl) (by kernel_rfl) (by kernel_rfl) (by kernel_rfl);have h48 := @run_callFunc_extern Tryz.prog 56 _ (ReflectliteValue.methodAny (ReflectliteValue.valueError "reflectlite.Value.Type" 0) (fun t _ _ _ => ReflectliteType.toType t)) Tryz.func56 (by kernel_rfl) (by kernel_rfl) (by kernel_rfl) (by kernel_rfl)
 have h49 := @run_callFunc_extern Tryz.prog 57 _ (ReflectliteValue.method (ReflectliteValue.valueError "reflectlite.Value.IsNil" 0) ReflectliteValue.isNil) Tryz.func57 (by kernel_rfl) (by kernel_rfl) (by kernel_rfl) (by kernel_rfl)
 have h69:=@run_callFunc_extern Tryz.prog 215 _ (ReflectliteType.abiMethod fun t=>do pure (.int .u8 (← Rtype.kind t))) Tryz.func215 (by kernel_rfl) (by kernel_rfl) (by kernel_rfl) (by kernel_rfl);have h79:=@run_callFunc_extern Tryz.prog 230 _ (ReflectliteType.method ReflectliteType.elem) Tryz.func230 (by kernel_rfl) (by kernel_rfl) (by kernel_rfl) (by kernel_rfl);have h80 := @run_callFunc_extern Tryz.prog 231 _ (ReflectliteType.relation "Implements" ReflectliteType.implements_) Tryz.func231 (by kernel_rfl) (by kernel_rfl) (by kernel_rfl) (by kernel_rfl)
 have f6:=Qpi;have f7:=Qyz;have mK:=Qf9;have mE:=Qga;have mI:=Qdi;have kP:=Qy1;have kT:=Qy0;have eP:=Qy2;have iT:=Qjk;have htl:tb<w.heap.size:=World.block_lt_of_cell? w _ ht0;have hlt:=hg.lt;have n8:=Qwg ⟨w.heap.size,0,none⟩ ⟨tb,0,none⟩ ((w.alloc (.cells #[.pointer (some ⟨tb,0,none⟩)] 213)).alloc (.cells #[.pointer (some ⟨8,213,none⟩),.pointer (some ⟨w.heap.size,0,none⟩),.int .u64 150] 107)) (by simp);have hg2:((w.alloc (.cells #[.pointer (some ⟨tb,0,none⟩)] 213)).alloc (.cells #[.pointer (some ⟨8,213,none⟩),.pointer (some ⟨w.heap.size,0,none⟩),.int .u64 150] 107)).cell? ⟨2,0,none⟩=some (.iface 156 (.agg #[.pointer (some ⟨8,53,none⟩)])):=by
  rw[World.cell?_alloc_lt _ _ ⟨2,0,none⟩ (Nat.lt_of_lt_of_le hlt (by simp)),World.cell?_alloc_lt _ _ ⟨2,0,none⟩ hlt];exact hg
 have C:=hid (Qwi z tb ⟨w.heap.size,0,none⟩ old ((w.alloc (.cells #[.pointer (some ⟨tb,0,none⟩)] 213)).alloc (.cells #[.pointer (some ⟨8,213,none⟩),.pointer (some ⟨w.heap.size,0,none⟩),.int .u64 150] 107)) rfl (by simp)
  (by rw[World.cell?_alloc_lt _ _ ⟨tb,0,none⟩ (by simp;omega),World.cell?_alloc_lt _ _ ⟨tb,0,none⟩ htl];exact ht0)
  (by rw[World.frozen?_alloc_old _ _ ⟨tb,0,none⟩ (by simp;omega),World.frozen?_alloc_old _ _ ⟨tb,0,none⟩ (Nat.ne_of_lt htl)];exact hf0))
 have HT:=hid htl;clear hg hlt htl ht0 hf0;go_enter Tryz.func33,Tryz.ntmps33;go_wp2_with fail;refine C.out.mono ?_;rintro e w1 ⟨rfl,hb1,hc1⟩;have HB:=hid hb1;have HC:=hid hc1;clear hb1 hc1;go_wp2_with fail;go_ret;exact⟨rfl,(((Below.refl tb w).alloc (Nat.le_of_lt HT.out) _).alloc (Nat.le_trans (Nat.le_of_lt HT.out) (by simp)) _).trans HB.out,HC.out⟩
end Go.Proofs.YtbnfkjkoinbkgaaGreatDoor
