import Derived.Test.YtbnfkjkoinbkgaaGreatDoorVAbb
import Derived.Test.YtbnfkjkoinbkgaaGreatDoorVAsW
import Derived.Test.YtbnfkjkoinbkgaaGreatDoorVEidT2
import Derived.Test.YtbnfkjkoinbkgaaGreatDoorVRfI
import Derived.Test.YtbnfkjkoinbkgaaGreatDoorVRfW
import Derived.Test.YtbnfkjkoinbkgaaGreatDoorVShaT
import Derived.Deep.AppendLies
namespace Go.Proofs.YtbnfkjkoinbkgaaGreatDoor
set_option maxRecDepth 100000
set_option maxHeartbeats 16000000
open Go.RowKit Go.Extern.Stop Go.Stop Go.Extern
open Go.Lib (hid)
theorem Qm2(t:Addr)(w:World):(ReflectliteValue.unpack (.iface 77 (.pointer (some t)))).run Tryz.prog w
  = .ok (.agg #[.pointer (some ⟨8,77,none⟩),.pointer (some ⟨w.heap.size,0,none⟩),.int .u64 150]) (w.alloc (.cells #[.pointer (some t)] 77)):=by kernel_rfl
theorem Qvf (a : Addr) (w : World) : (ReflectliteValue.methodAny (ReflectliteValue.valueError "reflectlite.Value.Type" 0) (fun t _ _ _ => ReflectliteType.toType t) #[.agg #[.pointer (some ⟨8, 77, none⟩), .pointer (some a), .int .u64 150]]).run Tryz.prog w
  = .ok (.iface 156 (.agg #[.pointer (some ⟨8,77,none⟩)])) w:=by kernel_rfl
theorem Qvh(w:World):((ReflectliteType.abiMethod fun t=>(fun a:Nat=>Value.int IntKind.u8 (a:Int)) <$> Rtype.kind t) #[.pointer (some ⟨8,77,none⟩)]).run Tryz.prog w=.ok (.int .u8 22) w:=by kernel_rfl
theorem Qvg(w:World):((ReflectliteType.abiMethod fun t=>(fun a:Nat=>Value.int IntKind.u8 (a:Int)) <$> Rtype.kind t) #[.pointer (some ⟨8,70,none⟩)]).run Tryz.prog w=.ok (.int .u8 2) w:=by kernel_rfl
theorem Qkb(a:Addr)(w:World):(ReflectliteValue.parts (.agg #[.pointer (some ⟨8,77,none⟩),.pointer (some a),.int .u64 150])).run Tryz.prog w=.ok (some (77,a,150)) w:=by kernel_rfl
theorem Qsc(a p:Addr)(W:World)(ha:W.cell? a=some (.pointer (some p))) :
  (ReflectliteValue.method (ReflectliteValue.valueError "reflectlite.Value.IsNil" 0) ReflectliteValue.isNil #[.agg #[.pointer (some ⟨8, 77, none⟩), .pointer (some a), .int .u64 150]]).run Tryz.prog W = .ok (.bool false) W := by
 rw[rlm]
 simp only[Sem.run_bind,Qkb,Result.andThen];simp[ReflectliteValue.isNil,loadVar,isAgg,underlying,Tryz.underlying77,ha,Result.andThen]
theorem Qvi(w:World):(ReflectliteType.method ReflectliteType.elem #[.agg #[.pointer (some ⟨8,77,none⟩)]]).run Tryz.prog w=.ok (.iface 156 (.agg #[.pointer (some ⟨8,70,none⟩)])) w:=by kernel_rfl
theorem Qit (w : World) : (ReflectliteType.relation "Implements" ReflectliteType.implements_ #[.agg #[.pointer (some ⟨8, 70, none⟩)], .iface 156 (.agg #[.pointer (some ⟨8, 53, none⟩)])]).run Tryz.prog w = .ok (.bool true) w := by kernel_rfl
theorem Qot(v:Value)(w:World):(ReflectliteType.typeOf #[.iface 70 v]).run Tryz.prog w=.ok (.iface 156 (.agg #[.pointer (some ⟨8,70,none⟩)])) w:=by kernel_rfl
theorem Qou(v:Value)(w:World):(ReflectliteType.typeOf #[.iface 72 v]).run Tryz.prog w=.ok (.iface 156 (.agg #[.pointer (some ⟨8,72,none⟩)])) w:=by kernel_rfl
theorem Qiu (w : World) : (ReflectliteType.relation "AssignableTo" ReflectliteType.assignableTo #[.agg #[.pointer (some ⟨8, 70, none⟩)], .iface 156 (.agg #[.pointer (some ⟨8, 70, none⟩)])]).run Tryz.prog w = .ok (.bool true) w := by kernel_rfl
theorem Qiv (w : World) : (ReflectliteType.relation "AssignableTo" ReflectliteType.assignableTo #[.agg #[.pointer (some ⟨8, 72, none⟩)], .iface 156 (.agg #[.pointer (some ⟨8, 70, none⟩)])]).run Tryz.prog w = .ok (.bool false) w := by kernel_rfl
theorem Qm1(z:Int)(w:World):(ReflectliteValue.unpack (.iface 70 (.int .i64 z))).run Tryz.prog w
  = .ok (.agg #[.pointer (some ⟨8,70,none⟩),.pointer (some ⟨w.heap.size,0,none⟩),.int .u64 130]) (w.alloc (.cells #[.int .i64 z] 70)):=by kernel_rfl
theorem Qow(w:World):(Rtype.elem? 77).run Tryz.prog w=.ok (some 70) w:=by kernel_rfl
theorem Q0v(p:Addr)(w:World):(ReflectliteValue.mk 70 p ReflectliteValue.flagAddr).run Tryz.prog w=.ok (.agg #[.pointer (some ⟨8,70,none⟩),.pointer (some p),.int .u64 386]) w:=by kernel_rfl
theorem Qsd(a p:Addr)(W:World)(ha:W.cell? a=some (.pointer (some p))) :
  (ReflectliteValue.method (ReflectliteValue.valueError "reflectlite.Value.Elem" 0) ReflectliteValue.elem #[.agg #[.pointer (some ⟨8, 77, none⟩), .pointer (some a), .int .u64 150]]).run Tryz.prog W
   = .ok (.agg #[.pointer (some ⟨8,70,none⟩),.pointer (some p),.int .u64 386]) W:=by
 rw[rlm]
 simp only[Sem.run_bind,Qkb,Result.andThen];simp[ReflectliteValue.elem,loadVar,isAgg,underlying,Tryz.underlying77,ha,Result.andThen,Qow,Q0v]
theorem Qov(a:Addr)(w:World):(ReflectliteValue.parts (.agg #[.pointer (some ⟨8,70,none⟩),.pointer (some a),.int .u64 386])).run Tryz.prog w=.ok (some (70,a,386)) w:=by kernel_rfl
theorem Qsb(a:Addr)(w:World):(ReflectliteValue.parts (.agg #[.pointer (some ⟨8,70,none⟩),.pointer (some a),.int .u64 130])).run Tryz.prog w=.ok (some (70,a,130)) w:=by kernel_rfl
theorem Qox(w:World):(Rtype.directlyAssignable 70 70).run Tryz.prog w=.ok true w:=by kernel_rfl
theorem Qyj(ta b:Addr)(z:Int)(old:Value)(W:World)(hst:ta.spot=none)(hb:W.cell? b=some (.int .i64 z))(ht:W.cell? ta=some old)(hf:W.frozen? ta=false) :
  (ReflectliteValue.set #[.agg #[.pointer (some ⟨8,70,none⟩),.pointer (some ta),.int .u64 386],.agg #[.pointer (some ⟨8,70,none⟩),.pointer (some b),.int .u64 130]]).run Tryz.prog W
   = .ok (.tuple #[]) (W.setCell ta (.int .i64 z)):=by
 obtain⟨tb,toff,ts⟩:=ta;subst hst;rw[rls]
 simp only[Sem.run_bind,Qov,Qsb,Result.andThen];simp[ReflectliteValue.flagAddr,loadVar,isAgg,underlying,Tryz.underlying70,Result.andThen,Qox,storeVar,hb,Value.cells,storeCells,Addr.add];rw[run_store Tryz.prog W ⟨tb,toff,none⟩ _ _ (by rfl)]
 simp[ht,hf]
theorem Q38(v:Value)(xT:TypeId)(w:World):(Instr.typeAssert (.iface 72 v) xT 168 true).run Tryz.prog w=.ok (.tuple #[.nilIface,.bool false]) w:=run_typeAssert_lacksB Tryz.underlying168 (by kernel_rfl) (by kernel_rfl) v xT w
theorem Q18(v:Value)(xT:TypeId)(w:World):(Instr.typeAssert (.iface 72 v) xT 158 true).run Tryz.prog w=.ok (.tuple #[.nilIface,.bool false]) w:=run_typeAssert_lacksB Tryz.underlying158 (by kernel_rfl) (by kernel_rfl) v xT w
theorem Qgp(v:Value)(xT:TypeId)(w:World):(Instr.typeAssert (.iface 72 v) xT 161 true).run Tryz.prog w=.ok (.tuple #[.iface 72 v,.bool true]) w:=run_typeAssert_hasB Tryz.underlying161 (by kernel_rfl) v xT w
theorem Qd1 (n : Nat) (v : Value) (w : World) : (Go.method (n + 8) 72 v "Unwrap").run Tryz.prog w = .ok (220, v) w := by kernel_rfl
theorem Q37(v:Value)(xT:TypeId)(w:World):(Instr.typeAssert (.iface 70 v) xT 158 true).run Tryz.prog w=.ok (.tuple #[.nilIface,.bool false]) w:=run_typeAssert_lacksB Tryz.underlying158 (by kernel_rfl) (by kernel_rfl) v xT w
theorem Quf(v:Value)(xT:TypeId)(w:World):(Instr.typeAssert (.iface 70 v) xT 161 true).run Tryz.prog w=.ok (.tuple #[.nilIface,.bool false]) w:=run_typeAssert_lacksB Tryz.underlying161 (by kernel_rfl) (by kernel_rfl) v xT w
theorem Qru(v:Value)(xT:TypeId)(w:World):(Instr.typeAssert (.iface 70 v) xT 163 true).run Tryz.prog w=.ok (.tuple #[.nilIface,.bool false]) w:=run_typeAssert_lacksB Tryz.underlying163 (by kernel_rfl) (by kernel_rfl) v xT w
def Q3i(z:Int):Value:=.iface 70 (.int .i64 z)
def Qhi(z:Int)(s:ByteArray):Value:=.iface 72 (.agg #[.string s,.iface 70 (.int .i64 z)])
def Qer(a:Addr)(s:ByteArray):Value:=.iface 72 (.agg #[.string s,.iface 261 (.pointer (some a))])
theorem Qse(z:Int)(s:ByteArray)(tb:Nat)(a:Addr)(old:Value)(w:World)(ha:w.cell? a=some (.pointer (some ⟨tb,0,none⟩)))(ht0:w.cell? ⟨tb,0,none⟩=some old)(hf0:w.frozen? ⟨tb,0,none⟩=false) :
  Calls Tryz.prog 58 #[Qhi z s,.iface 77 (.pointer (some ⟨tb,0,none⟩)),.agg #[.pointer (some ⟨8,77,none⟩),.pointer (some a),.int .u64 150],.iface 156 (.agg #[.pointer (some ⟨8,70,none⟩)])] w
   fun ev w'=>ev=.returned (.bool true)∧Below tb w w'∧w'.cell? ⟨tb,0,none⟩=some (.int .i64 z):=by
 have h47:=@run_callFunc_extern Tryz.prog 55 _ (fun args=>ReflectliteValue.unpack (args.getD 0 (.tuple #[]))) Tryz.func55 (by kernel_rfl) (by kernel_rfl) (by kernel_rfl) (by kernel_rfl);have h52:=@run_callFunc_extern Tryz.prog 53 _ ReflectliteType.typeOf Tryz.func53 (by kernel_rfl) (by kernel_rfl) (by kernel_rfl) (by kernel_rfl);have h77 := @run_callFunc_extern Tryz.prog 228 _ (ReflectliteType.relation "AssignableTo" ReflectliteType.assignableTo) Tryz.func228 (by kernel_rfl) (by kernel_rfl) (by kernel_rfl) (by kernel_rfl)
 have h53 := @run_callFunc_extern Tryz.prog 97 _ (ReflectliteValue.method (ReflectliteValue.valueError "reflectlite.Value.Elem" 0) ReflectliteValue.elem) Tryz.func97 (by kernel_rfl) (by kernel_rfl) (by kernel_rfl) (by kernel_rfl)
 have h54:=@run_callFunc_extern Tryz.prog 98 _ ReflectliteValue.set Tryz.func98 (by kernel_rfl) (by kernel_rfl) (by kernel_rfl) (by kernel_rfl);have tO:=Qot;have tF:=Qou;have mA:=Qcz;have aT:=Qiu;have aF:=Qiv;have vT:=Qm1;have nA:=Q38;have uF:=Qgp;have mU:=Qd1;have q1:=fun (W:World) (u:TypeId) (x:Value)=>run_eql_iface_nil (P:=Tryz.prog) (w:=W) 53 (by kernel_rfl) u x
 have hal:a.block<w.heap.size:=World.block_lt_of_cell? w _ ha;have htl:tb<w.heap.size:=World.block_lt_of_cell? w _ ht0;have HH:=hid (And.intro ha (And.intro ht0 (And.intro hf0 (And.intro hal htl))));clear ha ht0 hf0 hal htl;unfold Qhi;go_enter Tryz.func58,Tryz.ntmps58;go_wp2_with fail;go_loopw [0] (fun E' wl=>Hid (Below (w.heap.size+1) (w.alloc (.cells #[.pointer (some ⟨8,77,none⟩),.pointer (some a),.int .u64 150] 107)) wl)∧(E'=Qhi z s∨E'=Q3i z)) (fun E' _=>Qk4 9 E')
 case atStart=>exact⟨Below.refl _ _,.inl rfl⟩
 case round =>
  obtain⟨HB,rfl|rfl⟩:=hrel
  ·
   unfold Qhi at *;have HBS:Hid (w.heap.size+1≤wr.heap.size):=by show _≤_;have:=HB.out.size;simpa using this
   have k0:=Qab (Qad (w:=w) rfl HB.out) 0 rfl;have k1:=Qab (Qad (w:=w) rfl HB.out) 1 rfl;have k2:=Qab (Qad (w:=w) rfl HB.out) 2 rfl;go_wp2
   go_roundw
   case rel=>exact⟨HB.out.trans (zb.mono HBS.out),.inr rfl⟩
   case measure=>exact Nat.zero_lt_one
  ·
   unfold Q3i at *;obtain⟨ha0,ht00,hf00,hal0,htl0⟩:=HH.out;have hB0:Below w.heap.size w wr:=zb.trans (HB.out.mono (Nat.le_succ _));have k0:=Qab (Qad (w:=w) rfl HB.out) 0 rfl;have k1:=Qab (Qad (w:=w) rfl HB.out) 1 rfl;have k2:=Qab (Qad (w:=w) rfl HB.out) 2 rfl;have ha:=(hB0.cell (p:=a) hal0).trans ha0;have ht0:=(hB0.cell (p:=⟨tb,0,none⟩) htl0).trans ht00;have hf0:=(hB0.frozen (p:=⟨tb,0,none⟩) htl0).trans hf00;have htl:tb<wr.heap.size:=World.block_lt_of_cell? wr _ ht0;have el:=Qsd a ⟨tb,0,none⟩ wr ha;have st:=Qyj ⟨tb,0,none⟩ ⟨wr.heap.size,0,none⟩ z old (wr.alloc (.cells #[.int .i64 z] 70)) rfl
    (by rw[World.cell?_alloc_at _ _ _ _ rfl];rfl)
    (by rw[World.cell?_alloc_lt _ _ ⟨tb,0,none⟩ htl];exact ht0)
    (by rw[World.frozen?_alloc_old _ _ ⟨tb,0,none⟩ (Nat.ne_of_lt htl)];exact hf0)
   have HE:Hid (Below tb w ((wr.alloc (.cells #[.int .i64 z] 70)).setCell ⟨tb,0,none⟩ (.int .i64 z))):=(hB0.mono (Nat.le_of_lt htl0)).trans (((Below.refl tb wr).alloc (Nat.le_of_lt htl) _).setCell (p:=⟨tb,0,none⟩) zr _);have HC:Hid (((wr.alloc (.cells #[.int .i64 z] 70)).setCell ⟨tb,0,none⟩ (.int .i64 z)).cell? ⟨tb,0,none⟩=some (.int .i64 z)):=World.cell?_setCell_same _ _ _ ((World.cell?_alloc_lt _ _ ⟨tb,0,none⟩ htl).trans ht0);have HT:=hid htl;clear hB0 htl htl0 hal0 hf00 ht00 ha0;go_wp2
   go_ret;exact⟨rfl,HE.out,HC.out⟩
theorem Q0w(z:Int)(s:ByteArray)(tb:Nat)(old:Value)(w:World)(hg:LaidE w)(ht0:w.cell? ⟨tb,0,none⟩=some old)(hf0:w.frozen? ⟨tb,0,none⟩=false) :
  Calls Tryz.prog 33 #[Qhi z s,.iface 77 (.pointer (some ⟨tb,0,none⟩))] w
   fun ev w'=>ev=.returned (.bool true)∧Below tb w w'∧w'.cell? ⟨tb,0,none⟩=some (.int .i64 z):=by
 have h47:=@run_callFunc_extern Tryz.prog 55 _ (fun args=>ReflectliteValue.unpack (args.getD 0 (.tuple #[]))) Tryz.func55 (by kernel_rfl) (by kernel_rfl) (by kernel_rfl) (by kernel_rfl);have h48 := @run_callFunc_extern Tryz.prog 56 _ (ReflectliteValue.methodAny (ReflectliteValue.valueError "reflectlite.Value.Type" 0) (fun t _ _ _ => ReflectliteType.toType t)) Tryz.func56 (by kernel_rfl) (by kernel_rfl) (by kernel_rfl) (by kernel_rfl)
 have h49 := @run_callFunc_extern Tryz.prog 57 _ (ReflectliteValue.method (ReflectliteValue.valueError "reflectlite.Value.IsNil" 0) ReflectliteValue.isNil) Tryz.func57 (by kernel_rfl) (by kernel_rfl) (by kernel_rfl) (by kernel_rfl)
 have h69:=@run_callFunc_extern Tryz.prog 215 _ (ReflectliteType.abiMethod fun t=>do pure (.int .u8 (← Rtype.kind t))) Tryz.func215 (by kernel_rfl) (by kernel_rfl) (by kernel_rfl) (by kernel_rfl);have h79:=@run_callFunc_extern Tryz.prog 230 _ (ReflectliteType.method ReflectliteType.elem) Tryz.func230 (by kernel_rfl) (by kernel_rfl) (by kernel_rfl) (by kernel_rfl);have h80 := @run_callFunc_extern Tryz.prog 231 _ (ReflectliteType.relation "Implements" ReflectliteType.implements_) Tryz.func231 (by kernel_rfl) (by kernel_rfl) (by kernel_rfl) (by kernel_rfl)
 have f6:=Qm2;have f7:=Qvf;have mK:=Qf9;have mE:=Qga;have mI:=Qdi;have kP:=Qvh;have kT:=Qvg;have eP:=Qvi;have iT:=Qit;have htl:tb<w.heap.size:=World.block_lt_of_cell? w _ ht0;have hlt:=hg.lt;have n8:=Qsc ⟨w.heap.size,0,none⟩ ⟨tb,0,none⟩ ((w.alloc (.cells #[.pointer (some ⟨tb,0,none⟩)] 77)).alloc (.cells #[.pointer (some ⟨8,77,none⟩),.pointer (some ⟨w.heap.size,0,none⟩),.int .u64 150] 107)) (by simp);have hg2:((w.alloc (.cells #[.pointer (some ⟨tb,0,none⟩)] 77)).alloc (.cells #[.pointer (some ⟨8,77,none⟩),.pointer (some ⟨w.heap.size,0,none⟩),.int .u64 150] 107)).cell? ⟨2,0,none⟩=some (.iface 156 (.agg #[.pointer (some ⟨8,53,none⟩)])):=by
  rw[World.cell?_alloc_lt _ _ ⟨2,0,none⟩ (Nat.lt_of_lt_of_le hlt (by simp)),World.cell?_alloc_lt _ _ ⟨2,0,none⟩ hlt];exact hg
 have C:=hid (Qse z s tb ⟨w.heap.size,0,none⟩ old ((w.alloc (.cells #[.pointer (some ⟨tb,0,none⟩)] 77)).alloc (.cells #[.pointer (some ⟨8,77,none⟩),.pointer (some ⟨w.heap.size,0,none⟩),.int .u64 150] 107)) (by simp)
  (by rw[World.cell?_alloc_lt _ _ ⟨tb,0,none⟩ (by simp;omega),World.cell?_alloc_lt _ _ ⟨tb,0,none⟩ htl];exact ht0)
  (by rw[World.frozen?_alloc_old _ _ ⟨tb,0,none⟩ (by simp;omega),World.frozen?_alloc_old _ _ ⟨tb,0,none⟩ (Nat.ne_of_lt htl)];exact hf0))
 have HT:=hid htl;unfold Qhi at *;clear hg hlt htl ht0 hf0;go_enter Tryz.func33,Tryz.ntmps33;go_wp2_with fail;refine C.out.mono ?_;rintro e w1 ⟨rfl,hb1,hc1⟩;have HB:=hid hb1;have HC:=hid hc1;clear hb1 hc1;go_wp2_with fail;go_ret;exact⟨rfl,(((Below.refl tb w).alloc (Nat.le_of_lt HT.out) _).alloc (Nat.le_trans (Nat.le_of_lt HT.out) (by simp)) _).trans HB.out,HC.out⟩
open Go.RowKit Go.Extern.Stop Go.Stop Go.Extern
structure Snb where
 t:Addr
 g:Addr
def Q3b(A:Snb)(a:Addr):Prop:=a=A.t∨a=A.g
structure Ldb (A:Snb) (w:World):Prop where
 ct:w.cell? ⟨0,0,none⟩=some (snt A.t)
 cg:w.cell? ⟨1,0,none⟩=some (snt A.g)
 row:∀ a,Q3b A a→∃ c t,w.heap[a.block]?=some (.cells c t (0,0))
 ne:A.t≠A.g
theorem Ldb.below{A:Snb}{B:Nat}{w w':World}(h:Ldb A w)(hb:Below B w w')(hB:w.heap.size≤B):Ldb A w':=by
 have c:=fun (p:Addr) (u:Value) (hu:w.cell? p=some u)=>(hb.cell (p:=p) (Nat.lt_of_lt_of_le (World.block_lt_of_cell? w p hu) hB)).trans hu
 refine⟨c _ _ h.ct,c _ _ h.cg,fun a ha=>?_,h.ne⟩;obtain⟨x,t,e⟩:=h.row a ha;exact⟨x,t,(hb.block a.block (Nat.lt_of_lt_of_le (Array.getElem?_eq_some_iff.1 e).1 hB)).trans e⟩
theorem Ldb.alloc{A:Snb}{w:World}(h:Ldb A w)(o:Obj):Ldb A (w.alloc o):=h.below ((Below.refl _ _).alloc zr o) zr
theorem Q0q(A:Snb)(s:ByteArray)(a b:Addr)(w:World)(hA:Ldb A w)(hoa:Q3b A a)(hob:Q3b A b) :
  Calls Tryz.prog 54 #[Qer a s,snt b,.bool true] w fun e w'=>e=.returned (.bool (decide (a=b)))∧Below w.heap.size w w':=by
 obtain⟨i,hi,hcmp⟩:=Option.map_eq_some_iff.1 Qzg;obtain⟨j,hj,hjs⟩:=Option.map_eq_some_iff.1 Qzf;have nE:=Q19;have uE:=Qmh;have vE:=Qj4;have nW:=Q18;have uW:=Qgp;have mU:=Qd1;have HA:=hid hA;obtain⟨R,hR⟩:∃ R,R=decide (a=b):=⟨_,rfl⟩
 rw[← hR]
 have HR:=hid hR;clear hA hR;unfold snt Qer;go_enter Tryz.func54,Tryz.ntmps54;go_wp2_with fail;go_loopw [0] (fun E' wl=>Hid (Below w.heap.size w wl)∧(E'=Qer a s∨E'=snt a)) (fun E' _=>Qk4 9 E')
 case atStart=>exact⟨Below.refl _ _,.inl rfl⟩
 case round =>
  obtain⟨HB,rfl|rfl⟩:=hrel
  ·
   unfold Qer at *;have hty:=run_eql_iface_types (P:=Tryz.prog) 72 261 (.agg #[.string s,.iface 261 (.pointer (some a))]) (.pointer (some b)) Tryz.underlying53 (by decide) wr;have q1:=fun (W:World) (u:TypeId) (x:Value)=>run_eql_iface_nil (P:=Tryz.prog) (w:=W) 53 (by kernel_rfl) u x
   go_wp2
   go_roundw
   case rel=>exact⟨HB.out.trans (zb.mono HB.out.size),.inr rfl⟩
   case measure=>exact Nat.zero_lt_one
  ·
   have hA2:=HA.out.below HB.out zr;obtain⟨cb,tb,hb⟩:=hA2.row b hob;obtain⟨ca,ta,ha⟩:=hA2.row a hoa;unfold snt at *;by_cases hab:a=b
   ·
    subst hab;have hr:R=true:=by rw[HR.out];simp
    subst hr;have heq:=run_eql_iface_ptr_same (P:=Tryz.prog) wr a Tryz.underlying53 Tryz.underlying261 hi hcmp hj;clear hA2;go_wp2_with fail;go_ret;exact⟨rfl,HB.out⟩
   ·
    have hr:R=false:=by rw[HR.out];simp[hab]
    subst hr;have heq:=run_eql_iface_ptr_other (P:=Tryz.prog) wr Tryz.underlying53 Tryz.underlying261 hi hcmp hj (by rw[hjs];decide) hab ha hb;clear hA2;go_wp2_with fail;go_ret;exact⟨rfl,HB.out⟩
theorem Q0r(z:Int)(s:ByteArray)(b:Addr)(w:World) :
  Calls Tryz.prog 54 #[Qhi z s,snt b,.bool true] w fun e w'=>e=.returned (.bool false)∧Below w.heap.size w w':=by
 have nE:=Q37;have uE:=Quf;have vE:=Qru;have nW:=Q18;have uW:=Qgp;have mU:=Qd1;unfold snt Qhi;go_enter Tryz.func54,Tryz.ntmps54;go_wp2_with fail;go_loopw [0] (fun E' wl=>Hid (Below w.heap.size w wl)∧(E'=Qhi z s∨E'=Q3i z)) (fun E' _=>Qk4 9 E')
 case atStart=>exact⟨Below.refl _ _,.inl rfl⟩
 case round =>
  obtain⟨HB,rfl|rfl⟩:=hrel
  ·
   unfold Qhi at *;have hty:=run_eql_iface_types (P:=Tryz.prog) 72 261 (.agg #[.string s,.iface 70 (.int .i64 z)]) (.pointer (some b)) Tryz.underlying53 (by decide) wr;have q1:=fun (W:World) (u:TypeId) (x:Value)=>run_eql_iface_nil (P:=Tryz.prog) (w:=W) 53 (by kernel_rfl) u x
   go_wp2
   go_roundw
   case rel=>exact⟨HB.out.trans (zb.mono HB.out.size),.inr rfl⟩
   case measure=>exact Nat.zero_lt_one
  ·
   unfold Q3i at *;have hty:=run_eql_iface_types (P:=Tryz.prog) 70 261 (.int .i64 z) (.pointer (some b)) Tryz.underlying53 (by decide) wr;go_wp2_with fail;go_ret;exact⟨rfl,HB.out⟩
theorem Qqn(E:Value)(hE:∃ v,E=.iface 72 v)(R:Bool)(b:Addr)(w:World)(C:Calls Tryz.prog 54 #[E,snt b,.bool true] w fun e w'=>e=.returned (.bool R)∧Below w.heap.size w w') :
  Calls Tryz.prog 32 #[E,snt b] w fun e w'=>e=.returned (.bool R)∧Below w.heap.size w w':=by
 have h8:=@run_callFunc_extern Tryz.prog 53 _ Extern.ReflectliteType.typeOf Tryz.func53 (by kernel_rfl) (by kernel_rfl) (by kernel_rfl) (by kernel_rfl);have h32 := @run_callFunc_extern Tryz.prog 229 _ (Extern.ReflectliteType.method fun t => do Extern.Rtype.noPackHeld "Comparable" t; pure (.bool (← typeInfo t).comparable)) Tryz.func229 (by kernel_rfl) (by kernel_rfl) (by kernel_rfl) (by kernel_rfl)
 have tT:=Qp9;have cT:=Qg7;have mR:=Qch;have C1:=hid C;have q1:=fun (W:World) (u:TypeId) (x:Value)=>run_eql_iface_nil (P:=Tryz.prog) (w:=W) 53 (by kernel_rfl) u x
 obtain⟨v,rfl⟩:=hE;clear C;unfold snt at *;go_enter Tryz.func32,Tryz.ntmps32;go_wp2_with (first
  | (go_at_call 54;refine C1.out.mono ?_;rintro e w1 ⟨rfl,hb⟩;have HB:=hid hb;clear hb)
  | go_in)
 go_ret;exact⟨rfl,HB.out⟩
theorem Qop(A:Snb)(w:World)(hA:Ldb A w):Calls Tryz.prog 16 #[.nilIface] w fun e w'=>e=.returned (.int .i64 0)∧Below w.heap.size w w':=by
 have hA1:=hA.alloc (.cells #[.int .i64 0] 70);have ct:=hA1.ct;have cg:=hA1.cg;have C1:=hid (fun b W=>Qvx b W);have C2:=hid (fun t W=>Q23 t W);clear hA hA1;unfold snt at *;go_enter Tryz.func16,Tryz.ntmps16;go_wp2_with (first
  | (go_at_call 32;refine(C1.out _ _).mono ?_;rintro e w1 ⟨rfl,rfl⟩)
  | (go_at_call 33;refine(C2.out _ _).mono ?_;rintro e w1 ⟨rfl,rfl⟩)
  | fail)
 go_ret;exact⟨rfl,zb⟩
theorem Qmx(A:Snb)(a:Addr)(s:ByteArray)(w:World)(hA:Ldb A w)(ha:Q3b A a) :
  Calls Tryz.prog 16 #[Qer a s] w fun e w'=>e=.returned (.int .i64 (if a=A.t then 100 else 101))∧Below w.heap.size w w':=by
 have B0:=hid ((Below.refl w.heap.size w).alloc zr (.cells #[.int .i64 0] 70));have L1:=hid (fun (W:World) (hb:Below w.heap.size w W)=>hA.below hb zr);have C1:=hid (fun (b:Addr) (hob:Q3b A b) (W:World) (hb:Below w.heap.size w W)=>Qqn (Qer a s) ⟨_,rfl⟩ _ b W (Q0q A s a b W (L1.out W hb) ha hob));have HA:=hid ha;have ct:=(L1.out _ B0.out).ct;have NE:=hid hA.ne;clear hA ha;unfold snt Qer at *;by_cases h:a=A.t
 ·
  rw[if_pos h]
  have C2:=hid (C1.out A.t (.inl rfl) _ B0.out);rw[decide_eq_true h] at C2
  clear h C1;go_enter Tryz.func16,Tryz.ntmps16;go_wp2_with fail;refine C2.out.mono ?_;rintro e w1 ⟨rfl,hb⟩;have B1:=hid (B0.out.trans (hb.mono B0.out.size));clear hb;go_wp2_with fail;go_ret;exact⟨rfl,B1.out⟩
 ·
  rw[if_neg h]
  have hg:a=A.g:=HA.out.resolve_left h;have C2:=hid (C1.out A.t (.inl rfl) _ B0.out);rw[decide_eq_false h] at C2
  have C3:=hid (fun (W:World) (hb:Below w.heap.size w W)=>C1.out A.g (.inr rfl) W hb);rw[decide_eq_true hg] at C3
  clear h hg C1;go_enter Tryz.func16,Tryz.ntmps16;go_wp2_with fail;refine C2.out.mono ?_;rintro e w1 ⟨rfl,hb⟩;have B1:=hid (B0.out.trans (hb.mono B0.out.size));have cg:=(L1.out _ B1.out).cg;clear hb ct;unfold snt at cg;go_wp2_with fail;refine(C3.out _ B1.out).mono ?_;rintro e w2 ⟨rfl,hb⟩;have B2:=hid (B1.out.trans (hb.mono B1.out.size));clear hb cg;go_wp2_with fail;go_ret;exact⟨rfl,B2.out⟩
theorem Qmy(A:Snb)(z:Int)(s:ByteArray)(w:World)(hA:Ldb A w)(hL:LaidE w) :
  Calls Tryz.prog 16 #[Qhi z s] w fun e w'=>e=.returned (.int .i64 z)∧Below w.heap.size w w':=by
 have B0:=hid ((Below.refl w.heap.size w).alloc zr (.cells #[.int .i64 0] 70));have HW0:Hid (Below (w.heap.size+1) (w.alloc (.cells #[.int .i64 0] 70)) (w.alloc (.cells #[.int .i64 0] 70))):=Below.refl _ _;have HS0:Hid ((w.alloc (.cells #[.int .i64 0] 70)).heap.size=w.heap.size+1):=by show _=_;simp
 have L1:=hid (fun (W:World) (hb:Below w.heap.size w W)=>hA.below hb zr);have L2:=hid (fun (W:World) (hb:Below w.heap.size w W)=>hL.below hb hL.lt);have C1:=hid (fun (b:Addr) (W:World)=>Qqn (Qhi z s) ⟨_,rfl⟩ _ b W (Q0r z s b W));have C2:=hid (fun (W:World) (hb:Below w.heap.size w W) (h0:W.cell? ⟨w.heap.size,0,none⟩=some (.int .i64 0)) (hf:W.frozen? ⟨w.heap.size,0,none⟩=false)=>Q0w z s w.heap.size (.int .i64 0) W (L2.out W hb) h0 hf);have K:=hid (fun (W:World) (hb:Below (w.heap.size+1) (w.alloc (.cells #[.int .i64 0] 70)) W)=>And.intro (Qab (Qad (w:=w) rfl hb) 0 rfl) (show W.frozen? ⟨w.heap.size,0,none⟩=false by rw[hb.frozen (p:=⟨w.heap.size,0,none⟩) (Nat.lt_succ_self _)];simp))
 have ct:=(L1.out _ B0.out).ct;clear hA hL;unfold snt Qhi at *;go_enter Tryz.func16,Tryz.ntmps16;go_wp2_with fail;refine(C1.out A.t _).mono ?_;rintro e w1 ⟨rfl,hb⟩;have W1:=hid (Below.push HW0.out (Nat.le_of_eq HS0.out.symm) hb);have B1:=hid (B0.out.trans (W1.out.mono (Nat.le_succ _)));have cg:=(L1.out _ B1.out).cg;unfold snt at cg;clear hb ct;go_wp2_with fail;refine(C1.out A.g _).mono ?_;rintro e w2 ⟨rfl,hb⟩;have W2:=hid (Below.push W1.out (Nat.le_of_eq HS0.out.symm) hb);have B2:=hid (B0.out.trans (W2.out.mono (Nat.le_succ _)));clear hb cg;go_wp2_with fail;refine(C2.out w2 B2.out (K.out w2 W2.out).1 (K.out w2 W2.out).2).mono ?_
 rintro e w3 ⟨rfl,hb,hc⟩;have B3:=hid (B2.out.trans hb);clear hb;go_wp2_with fail;go_ret;exact⟨rfl,B3.out⟩
theorem Qeq(A:Snb)(s:ByteArray)(w:World)(hA:Ldb A w):Calls Tryz.prog 30 #[.string s] w fun e w'=>e=.returned (Qer A.t s)∧Below w.heap.size w w':=by
 have ct:=hA.ct;clear hA;unfold snt at ct;go_enter Tryz.func30,Tryz.ntmps30;go_wp2_with fail;go_ret;exact⟨rfl,Below.refl _ _⟩
open Go.RowKit
theorem Qa8:(Tryz.prog.info? 35).map (·.size)=some 7:=by kernel_rfl
def StR(g:Nat)(t:TypeId)(vs:Array Value)(w W':World):Prop:=W'.heap[g]?=some (.cells vs t (0,0))∧(∀ (B:Nat) (w0:World),Below B w0 w→B≤g→Below B w0 W')∧W'.heap.size=w.heap.size∧∀ j,j≠g→W'.heap[j]?=w.heap[j]?
theorem Qtj(w:World)(g:Nat)(old vs:Array Value)(t:TypeId)(hg:w.heap[g]?=some (.cells old t (0,0))):StR g t vs w (w.setRow g vs):=⟨setRow_heap w g old _ t _ hg,fun _ _ hb hB=>below_setRow hb hB _,setRow_size w g _,fun j hj=>setRow_other w g j _ hj⟩
theorem Qa2{P:Program}{w:World}{ops:Array Oper}{rest:List Oper}{o:Oper}{a:Act}{Q:Exit→Act→World→Prop}(hgd:o.guard=none)(ty:TypeId)(x y:Operand)(ho:o.op=.store ty x y)
  (g:Nat) (v0 v1 v2 v3 v4 v5 v6:Value) (hx:a.eval x=.pointer (some ⟨g,0,none⟩)) (hy:a.eval y=.agg #[v0,v1,v2,v3,v4,v5,v6]) (t:TypeId) (old:Array Value) (hg:w.heap[g]?=some (.cells old t (0,0)))
  (hi:(P.info? ty).map (·.size)=some 7) (hold:old.size=7) (h1:([v0,v1,v2,v3,v4,v5,v6]:List Value).all (·.oneCell')=true)
  (h:∀ W',StR g t #[v0,v1,v2,v3,v4,v5,v6] w W'→wpList P ops Q rest (a.put o.dst undef) W') :
  wpList P ops Q (o::rest) a w :=
 wpList_store_row hgd ty x y ho g #[v0,v1,v2,v3,v4,v5,v6] hx hy t old hg hi hold (Array.all_eq_true_iff_forall_mem.2 fun v hv=>List.all_eq_true.1 h1 v (by simpa using hv)) (h _ (Qtj w g old _ t hg))
theorem Qw4{P:Program}{w:World}{ops:Array Oper}{o:Oper}{a:Act}{K:Act→World→Prop}{Q:Exit→Act→World→Prop}{E:Prop}(hgd:o.guard=none)(ty:TypeId)(x y:Operand)(ho:o.op=.store ty x y)
  (g:Nat) (v0 v1 v2 v3 v4 v5 v6:Value) (hx:a.eval x=.pointer (some ⟨g,0,none⟩)) (hy:a.eval y=.agg #[v0,v1,v2,v3,v4,v5,v6]) (t:TypeId) (old:Array Value) (hg:w.heap[g]?=some (.cells old t (0,0)))
  (hi:(P.info? ty).map (·.size)=some 7) (hold:old.size=7) (h1:([v0,v1,v2,v3,v4,v5,v6]:List Value).all (·.oneCell')=true)
  (h:∀ W',StR g t #[v0,v1,v2,v3,v4,v5,v6] w W'→K (a.put o.dst undef) W') :
  if Region.wanted o (yielded ops a.tmps)=true then Oper.wp P o a w K Q else E:=by
 have hw:Region.wanted o (yielded ops a.tmps)=true:=by simp[Region.wanted,hgd]
 rw[if_pos hw]
 exact wp_store_row ty x y ho g #[v0,v1,v2,v3,v4,v5,v6] hx hy t old hg hi hold (Array.all_eq_true_iff_forall_mem.2 fun v hv=>List.all_eq_true.1 h1 v (by simpa using hv)) (h _ (Qtj w g old _ t hg))
theorem Q2d{W:World}{g:Nat}{cs:Array Value}{t:TypeId}(hg:W.heap[g]?=some (.cells cs t (0,0)))(hs:cs.size=7):(loadVar 35 ⟨g,0,none⟩).run Tryz.prog W=.ok (.agg cs) W :=
 run_loadVar_row W g t 35 cs (0,0) _ hg Tryz.underlying35 rfl (by rw[hs];exact Qa8)
theorem Qb8{w:World}{ops:Array Oper}{rest:List Oper}{o:Oper}{a:Act}{Q:Exit→Act→World→Prop}(hgd:o.guard=none)(x:Operand)(ho:o.op=.load 35 x)
  (g:Nat) (hx:a.eval x=.pointer (some ⟨g,0,none⟩)) (t:TypeId) (cs:Array Value) (hg:w.heap[g]?=some (.cells cs t (0,0))) (hs:cs.size=7) (h:wpList Tryz.prog ops Q rest (a.put o.dst (.agg cs)) w):wpList Tryz.prog ops Q (o::rest) a w :=
 wpList_load_row hgd 35 x ho g hx t cs (0,0) _ hg Tryz.underlying35 rfl (by rw[hs];exact Qa8) h
theorem Qqk{ev:Operand→Value}{o:Oper}{x:Operand}(ho:o.op=.load 35 x){g:Nat}{cs:Array Value}{t:TypeId}(hx:ev x=.pointer (some ⟨g,0,none⟩)){W:World}(hg:W.heap[g]?=some (.cells cs t (0,0)))(hs:cs.size=7) :
  (execOp ev o).run Tryz.prog W=.ok (.value (.agg cs)) W:=by
 unfold execOp;simp only[ho,hx,Instr.loadAt,Instr.sureAddr,Sem.run_bind,Sem.run_pure,Result.andThen_ok,Q2d hg hs]
theorem Q3u{fn:Func}{p:Tmp}(h:fn.results=#[.cell p 35])(tmps:Array Value)(W:World){g:Nat}{vs:Array Value}{t:TypeId}(hp:tmps.getD p undef=.pointer (some ⟨g,0,none⟩))
  (hg:W.heap[g]?=some (.cells vs t (0,0))) (hs:vs.size=7):(results fn tmps).run Tryz.prog W=.ok (.agg vs) W :=
 results_cell_row h tmps W g t vs (0,0) _ hp hg Tryz.underlying35 rfl (by rw[hs];exact Qa8)
theorem Qdl{fn:Func}{p u:Tmp}(h:fn.results=#[.cell p 35,.tmp u])(tmps:Array Value)(W:World){g:Nat}{vs:Array Value}{t:TypeId}(hp:tmps.getD p undef=.pointer (some ⟨g,0,none⟩))
  (hg:W.heap[g]?=some (.cells vs t (0,0))) (hs:vs.size=7):(results fn tmps).run Tryz.prog W=.ok (.tuple #[.agg vs,tmps.getD u undef]) W:=by
 rw[results_cell_tmp h,hp]
 simp only[asAddr,Sem.run_pure,Result.andThen,Q2d hg hs]
theorem StR.below{g:Nat}{t:TypeId}{vs:Array Value}{w W':World}(h:StR g t vs w W'):Below g w W':=h.2.1 g w (Below.refl _ _) zr
theorem Qar{W W':World}{g:Nat}{c:Array Value}{t:TypeId}(h:W.heap[g]?=some (.cells c t (0,0))){B:Nat}(hb:Below B W W')(hg:g<B):W'.heap[g]?=some (.cells c t (0,0)):=(hb.block g hg).trans h
theorem RdN.take{w:World}{B n k:Nat}{A:OA}{l:List Nat}(h:RdN w B A n l)(hk:k≤n):RdN w B A k (l.take k):=by
 have hl:=h.1;refine⟨by rw[List.length_take];omega,fun hn=>?_⟩;obtain⟨b,o,e,hb,hc⟩:=h.2 (by omega);refine⟨b,o,e,hb,fun i hi=>?_⟩;rw[hc i (by omega)]
 simp[List.getD,hi]
theorem Q2w{P:Program}{w:World}{B n:Nat}{A:OA}{l:List Nat}(t e:TypeId)(ht:P.underlying t=some (.slice e))(hz:∀ W:World,(sizeOf e).run P W=.ok 1 W)(c:Nat)(h:RdN w B A n l)(k:Nat)(hk:k≤n)(hc:n≤c) :
  ∃ A' c',(∀ W:World,(Instr.slice t (.slice A n c) none (some (.int .i64 (k:Int))) none).run P W=.ok (.slice A' k c') W)∧k≤c'∧RdN w B A' k (l.take k):=by
 by_cases hc0:c=0
 ·
  have hk0:k=0:=by omega
  subst hk0 hc0;refine⟨A,0,fun W=>?_,by omega,h.take hk⟩;go_simp
 ·
  refine⟨A,c,fun W=>?_,by omega,h.take hk⟩;go_simp
  intro h;omega
theorem Qrv(A:OA)(n c B x:Nat)(l:List Nat)(w:World)(h:RdN w B A n l)(hn:n≤140737488355328) :
  Calls Tryz.prog 50 #[.slice A n c,.int .u64 (x:Int)] w fun e w'=>∃ z:Int,e=.returned (.int .i64 z)∧decide (0≤z)=l.contains x∧w=w':=by
 obtain⟨R,hR⟩:∃ R,R=l.contains x:=⟨_,rfl⟩
 rw[← hR]
 have HR:=hid hR;have H:=hid h;clear hR h;go_enter Tryz.func50,Tryz.ntmps50;go_wp2_with fail;go_loop [8] (fun v=>∃ i:Nat,i≤n∧v=.int .i64 (i:Int)∧Hid (x ∉ l.take i)) (fun v=>n - (intOf v).toNat)
 case atStart=>exact⟨0,Nat.zero_le _,rfl,(show x ∉ l.take 0 by simp)⟩
 case round =>
  obtain⟨i,hi,rfl,HN⟩:=hrel;by_cases hlt:i<n
  ·
   obtain⟨b,o,rfl,hb,g0⟩:=H.out.get i hlt;have hil:i<l.length:=by rw[H.out.1];exact hlt
   have hii:decide ((i:Int)<(n:Int))=true:=decide_eq_true (by omega);have hi1:(i:Int)<(n:Int):=by omega
   have hget:l.getD i 0=l[i]:=by simp[List.getD,hil]
   rw[hget] at g0
   obtain⟨y,hy⟩:∃ y,y=l[i]:=⟨_,rfl⟩
   rw[← hy] at g0
   by_cases hxy:x=y
   ·
    have e1:((x:Int)==(y:Int))=true:=by simp[hxy]
    have hr:R=true:=by rw[HR.out,List.contains_iff_mem,hxy,hy];exact List.getElem_mem hil
    clear hxy hy hget hil;subst hr;go_wp2_with fail;go_ret;exact⟨_,rfl,(by first|omega|exact decide_eq_true (by omega)),rfl⟩
   ·
    have e1:((x:Int)==(y:Int))=false:=by rw[beq_eq_false_iff_ne];omega
    have HN2:Hid (x ∉ l.take (i+1)):=by
     show ¬ _;rw[List.take_add_one,List.getElem?_eq_getElem hil,List.mem_append,← hy]
     rintro (h|h)
     ·
      exact HN.out h
     ·
      simp at h;exact hxy h
    clear hxy hy hget hil HN;go_wp2_with fail;go_round
    case rel=>exact⟨i+1,by omega,by go_num,HN2⟩
    case measure=>simp[intOf];omega
  ·
   obtain rfl:i=n:=by omega
   have hr:R=false:=by
    rw[HR.out,Bool.eq_false_iff]
    intro hc;rw[List.contains_iff_mem] at hc
    exact HN.out (by rw[List.take_of_length_le (by rw[H.out.1];exact Nat.le_refl _)];exact hc)
   have hii:decide ((i:Int)<(i:Int))=false:=decide_eq_false (by omega);subst hr;go_wp2_with fail;go_ret;exact⟨_,rfl,(by first|omega|decide),rfl⟩
theorem Qfz(A:OA)(n c B x:Nat)(l:List Nat)(w:World)(h:RdN w B A n l)(hn:n≤140737488355328) :
  Calls Tryz.prog 28 #[.slice A n c,.int .u64 (x:Int)] w fun e w'=>e=.returned (.bool (l.contains x))∧w=w':=by
 have C1:=hid (Qrv A n c B x l w h hn);clear h;generalize l.contains x=R at *;go_enter Tryz.func28,Tryz.ntmps28;go_wp2_with fail;refine C1.out.mono ?_;rintro e w1 ⟨z,rfl,hz,rfl⟩;go_wp2_with fail;go_ret;exact⟨rfl,rfl⟩
theorem Qoq(A:OA)(n c B:Nat)(l:List Nat)(w:World)(h:RdN w B A n l)(hc:n≤c)(hn:n≤140737488355328) :
  Calls Tryz.prog 80 #[.slice A n c] w fun e w'=>e=.returned (.bool (decide l.Nodup))∧w=w':=by
 obtain⟨R,hR⟩:∃ R,R=decide l.Nodup:=⟨_,rfl⟩
 rw[← hR]
 have HR:=hid hR;have H:=hid h;have HC:=hid hc;clear hR h hc;go_enter Tryz.func80,Tryz.ntmps80;go_wp2_with fail;go_loop [3,4,7] (fun s3 s4 v=>∃ i:Nat,i≤n∧v=.int .i64 (i:Int)∧Hid ((l.take i).Nodup)) (fun _ _ v=>n - (intOf v).toNat)
 case atStart=>exact⟨0,Nat.zero_le _,rfl,(show List.Nodup (l.take 0) by simp)⟩
 case round =>
  obtain⟨i,hi,rfl,HN⟩:=hrel;by_cases hlt:i<n
  ·
   obtain⟨A',c',hs,hk',hr'⟩:=Q2w (P:=Tryz.prog) 32 22 Tryz.underlying32 (fun W=>by kernel_rfl) c H.out i hi HC.out;obtain⟨b,o,rfl,hb,g0⟩:=H.out.get i hlt;have hil:i<l.length:=by rw[H.out.1];exact hlt
   have hii:decide ((i:Int)<(n:Int))=true:=decide_eq_true (by omega);have hi1:(i:Int)<(n:Int):=by omega
   have hget:l.getD i 0=l[i]:=by simp[List.getD,hil]
   rw[hget] at g0
   obtain⟨y,hy⟩:∃ y,y=l[i]:=⟨_,rfl⟩
   rw[← hy] at g0
   have C1:=hid (Qfz A' i c' B y (l.take i) w hr' (by omega));have htk:l.take (i+1)=l.take i++[y]:=by rw[List.take_add_one,List.getElem?_eq_getElem hil,← hy];rfl
   have HTK:=hid htk;clear hr' hk' hy hget hil htk hb;obtain⟨Q,hQ⟩:∃ Q,Q=(l.take i).contains y:=⟨_,rfl⟩
   rw[← hQ] at C1
   have HQ:=hid hQ;clear hQ;go_wp2_with fail;refine C1.out.mono ?_;rintro e w1 ⟨rfl,rfl⟩;cases Q with
   | true =>
    have hr:R=false:=by
     rw[HR.out,decide_eq_false_iff_not]
     intro hnd;have h2:(l.take (i+1)).Nodup:=(List.take_sublist _ _).nodup hnd;rw[HTK.out,List.nodup_append] at h2
     have h3:y∈l.take i:=by rw[← List.contains_iff_mem];exact HQ.out.symm
     exact h2.2.2 y h3 y (by simp) rfl
    subst hr;go_wp2_with fail;go_ret;exact⟨rfl,rfl⟩
   | false =>
    have HN2:Hid ((l.take (i+1)).Nodup):=by
     show List.Nodup _;rw[HTK.out,List.nodup_append]
     refine⟨HN.out,by simp,fun a ha b hb=>?_⟩;simp at hb;subst hb;intro e;subst e;rw[← List.contains_iff_mem,← HQ.out] at ha
     cases ha
    go_wp2_with fail;go_round
    case rel=>exact⟨i+1,by omega,by go_num,HN2⟩
    case measure=>simp[intOf];omega
  ·
   obtain rfl:i=n:=by omega
   have hr:R=true:=by
    rw[HR.out,decide_eq_true_eq]
    have h2:=HN.out;rwa[List.take_of_length_le (by rw[H.out.1];exact Nat.le_refl _)] at h2
   have hii:decide ((i:Int)<(i:Int))=false:=decide_eq_false (by omega);subst hr;go_wp2_with fail;go_ret;exact⟨rfl,rfl⟩
theorem Qr9(A:OA)(n c:Nat)(w:World) :
  Calls Tryz.prog 82 #[.slice A n c] w fun e w'=>e=.returned (.bool ((n:Int) != 32))∧w=w':=by
 go_enter Tryz.func82,Tryz.ntmps82;go_wp2
 go_ret;exact⟨rfl,rfl⟩
theorem Qq8(A:OA)(n c B:Nat)(l:List LB)(w:World)(h:RdT w B A n l)(hn:n≤140737488355328) :
  Calls Tryz.prog 113 #[.slice A n c,.func (.func 82) #[] #[]] w fun e w'=>∃ z:Int,e=.returned (.int .i64 z)∧decide (0≤z) = !(l.all fun t=>t.length==32)∧w=w':=by
 obtain⟨R,hR⟩:∃ R,R=l.all fun t=>t.length==32:=⟨_,rfl⟩
 rw[← hR]
 have HR:=hid hR;have H:=hid h;clear hR h;go_enter Tryz.func113,Tryz.ntmps113;go_wp2_with fail;go_loop [8] (fun v=>∃ i:Nat,i≤n∧v=.int .i64 (i:Int)∧Hid (∀ t∈l.take i,t.length=32)) (fun v=>n - (intOf v).toNat)
 case atStart=>exact⟨0,Nat.zero_le _,rfl,fun t ht=>by simp at ht⟩
 case round =>
  obtain⟨i,hi,rfl,HN⟩:=hrel;by_cases hlt:i<n
  ·
   obtain⟨b,o,At,nt,ct,rfl,hb,g0,hrd,hct,-⟩:=H.out.get i hlt;have hil:i<l.length:=by rw[H.out.len];exact hlt
   have hii:decide ((i:Int)<(n:Int))=true:=decide_eq_true (by omega);have hi1:(i:Int)<(n:Int):=by omega
   have hget:l.getD i []=l[i]:=by simp[List.getD,hil]
   rw[hget] at hrd
   have hlen:=hrd.1;have C1:=hid (Qr9 At nt ct w);by_cases h32:nt=32
   ·
    have HN2:Hid (∀ t∈l.take (i+1),t.length=32):=fun t ht=>by
     rw[List.take_add_one,List.getElem?_eq_getElem hil,List.mem_append] at ht
     rcases ht with h|h
     ·
      exact HN.out t h
     ·
      simp at h;rw[h,hlen];exact h32
    rw[show((nt:Int) != 32)=false by simp[h32]] at C1
    clear hrd hlen hct hget hil hb h32 HN;go_wp2_with fail;refine C1.out.mono ?_;rintro e w1 ⟨rfl,rfl⟩;go_wp2_with fail;go_round
    case rel=>exact⟨i+1,by omega,by go_num,HN2⟩
    case measure=>simp[intOf];omega
   ·
    have hr:R=false:=by
     rw[HR.out,Bool.eq_false_iff]
     intro hall;have:=List.all_eq_true.1 hall _ (List.getElem_mem hil)
     simp only[beq_iff_eq] at this;omega
    rw[show((nt:Int) != 32)=true by rw[bne_iff_ne];omega] at C1
    clear hrd hlen hct hget hil hb h32 HN;subst hr;go_wp2_with fail;refine C1.out.mono ?_;rintro e w1 ⟨rfl,rfl⟩;go_wp2_with fail;go_ret;exact⟨_,rfl,(by first|omega|exact decide_eq_true (by omega)),rfl⟩
  ·
   obtain rfl:i=n:=by omega
   have hr:R=true:=by
    rw[HR.out,List.all_eq_true]
    intro t ht;rw[beq_iff_eq]
    exact HN.out t (by rw[List.take_of_length_le (by rw[H.out.len];exact Nat.le_refl _)];exact ht)
   have hii:decide ((i:Int)<(i:Int))=false:=decide_eq_false (by omega);subst hr;go_wp2_with fail;go_ret;exact⟨_,rfl,(by first|omega|decide),rfl⟩
theorem Qkp(A:OA)(n c B:Nat)(l:List LB)(w:World)(h:RdT w B A n l)(hn:n≤140737488355328) :
  Calls Tryz.prog 81 #[.slice A n c,.func (.func 82) #[] #[]] w fun e w'=>e=.returned (.bool (!(l.all fun t=>t.length==32)))∧w=w':=by
 have C1:=hid (Qq8 A n c B l w h hn);clear h;generalize (!(l.all fun t=>t.length==32))=R at *;go_enter Tryz.func81,Tryz.ntmps81;go_wp2_with fail;refine C1.out.mono ?_;rintro e w1 ⟨z,rfl,hz,rfl⟩;go_wp2_with fail;go_ret;exact⟨rfl,rfl⟩
def Q42(T:Snb)(ok:Bool)(w:World)(e:Ending)(w':World):Prop:=Below w.heap.size w w'∧((ok=true∧e=.returned .nilIface)∨(ok=false∧∃ s,e=.returned (Qer T.t s)))
theorem Q1k{W:World}{g:Nat}{c0 c1 c2 c3 c4 c5 c6:Value}{t:TypeId}(h:W.heap[g]?=some (.cells #[c0,c1,c2,c3,c4,c5,c6] t (0,0))) :
  W.cell? ⟨g,0,none⟩=some c0∧W.cell? ⟨g,1,none⟩=some c1∧W.cell? ⟨g,2,none⟩=some c2∧W.cell? ⟨g,3,none⟩=some c3∧W.cell? ⟨g,4,none⟩=some c4∧W.cell? ⟨g,5,none⟩=some c5∧W.cell? ⟨g,6,none⟩=some c6 :=
 ⟨Qab h 0 rfl,Qab h 1 rfl,Qab h 2 rfl,Qab h 3 rfl,Qab h 4 rfl,Qab h 5 rfl,Qab h 6 rfl⟩
theorem Qfv{x:Bb}(h:¬ Rgt x):Qgb x=false:=by rw[Bool.eq_false_iff];exact fun hh=>h (Qb7.1 hh)
theorem Qka(S:Snt)(T:Snb)(x:Bb)(v:Value)(B:Nat)(w:World)(hS:Lds S w)(hT:Ldb T w)(h:RdX w B v x)(hB:B≤w.heap.size) :
  Calls Tryz.prog 44 #[v] w (Q42 T (Qgb x) w):=by
 obtain⟨A,n,c,sc,s,nd,sv,At,nt,ct,rfl,⟨hc,hn⟩,⟨hct,hnt⟩,hN,hsz,hTT,hsrc,hs,hnd,hsv⟩:=h;obtain⟨R,hR⟩:∃ R,R=Qgb x:=⟨_,rfl⟩
 rw[← hR]
 obtain⟨so,hso⟩:∃ so,so=x.sco:=⟨_,rfl⟩
 rw[← hso]
 have HR:=hid hR;have hB0:Below w.heap.size w (w.alloc (zo2 A n c sc s nd sv so At nt ct)):=zb;have HB0:=hid hB0;have HW0:Hid (Below (w.heap.size+1) (w.alloc (zo2 A n c sc s nd sv so At nt ct)) (w.alloc (zo2 A n c sc s nd sv so At nt ct))):=Below.refl _ _;have HS0:Hid ((w.alloc (zo2 A n c sc s nd sv so At nt ct)).heap.size=w.heap.size+1):=by show _=_;simp
 have HSO:=hid hso;have HRW:=hid (fun (W:World) (hb:Below (w.heap.size+1) (w.alloc (zo2 A n c sc s nd sv so At nt ct)) W)=>Q1k (Qad (w:=w) rfl hb));have CD:=hid (Qoq A n c B x.tgs (w.alloc (zo2 A n c sc s nd sv so At nt ct)) (hN.below (hB0.mono hB)) hc hn);have CT:=hid (Qkp At nt ct B x.tag (w.alloc (zo2 A n c sc s nd sv so At nt ct)) (hTT.below (hB0.mono hB)) hnt);have CK:=hid (Qe2 S sc s nd sv (w.alloc (zo2 A n c sc s nd sv so At nt ct)) (hS.alloc _) hs);have CO:=hid (fun W=>Qhf sc s nd sv W);have CN:=hid (fun (t:ByteArray) (W:World) (hb:Below w.heap.size w W)=>Qeq T t W (hT.below hb zr))
 have LN:=hid hN.1;have LT:=hid hTT.len;rw[← hsrc] at CK CO
 have HG:Hid (∀ (e:Ending) (w':World),Below w.heap.size w w'→((R=true∧e=.returned .nilIface)∨(R=false∧∃ s,e=.returned (Qer T.t s)))→Q42 T R w e w'):=fun _ _ h1 h2=>⟨h1,h2⟩
 have n47:(n:Int)≤140737488355328:=by omega
 clear hR hso hS hT hN hsz hTT hsrc hB hB0;unfold Qlh Qbq at *;by_cases h1:n<1
 ·
  have t1:decide ((n:Int)<1)=true:=decide_eq_true (by omega);have hr:R=false:=HR.out.trans (Qfv fun hh=>by have:=hh.l1;have:=LN.out;omega);clear HR CD CT CK CO;subst hr;go_enter Tryz.func44,Tryz.ntmps44;obtain⟨g0,g1,g2,g3,g4,g5,g6⟩:=HRW.out _ HW0.out;go_wp2_with fail;refine(CN.out _ _ HB0.out).mono ?_;rintro e w9 ⟨rfl,hb⟩;have B9:=hid (HB0.out.trans (hb.mono HB0.out.size));clear hb;go_wp2_with fail;go_ret;exact HG.out _ _ B9.out (.inr ⟨by first|rfl|trivial,_,rfl⟩)
 have t1:decide ((n:Int)<1)=false:=decide_eq_false (by omega);by_cases h2:15<n
 ·
  have t2:decide (15<(n:Int))=true:=decide_eq_true (by omega);have hr:R=false:=HR.out.trans (Qfv fun hh=>by have:=hh.l15;have:=LN.out;omega);clear HR CD CT CK CO;subst hr;go_enter Tryz.func44,Tryz.ntmps44;obtain⟨g0,g1,g2,g3,g4,g5,g6⟩:=HRW.out _ HW0.out;go_wp2_with fail;refine(CN.out _ _ HB0.out).mono ?_;rintro e w9 ⟨rfl,hb⟩;have B9:=hid (HB0.out.trans (hb.mono HB0.out.size));clear hb;go_wp2_with fail;go_ret;exact HG.out _ _ B9.out (.inr ⟨by first|rfl|trivial,_,rfl⟩)
 have t2:decide (15<(n:Int))=false:=decide_eq_false (by omega);go_enter Tryz.func44,Tryz.ntmps44;obtain⟨g0,g1,g2,g3,g4,g5,g6⟩:=HRW.out _ HW0.out;go_wp2_with fail;refine CD.out.mono ?_;rintro e w1 ⟨rfl,rfl⟩;by_cases h3:x.tgs.Nodup
 case neg =>
  rw[decide_eq_false h3]
  have hr:R=false:=HR.out.trans (Qfv fun hh=>h3 hh.nd);clear HR CD CT CK CO;subst hr;go_wp2_with fail;refine(CN.out _ _ HB0.out).mono ?_;rintro e w9 ⟨rfl,hb⟩;have B9:=hid (HB0.out.trans (hb.mono HB0.out.size));clear hb;go_wp2_with fail;go_ret;exact HG.out _ _ B9.out (.inr ⟨by first|rfl|trivial,_,rfl⟩)
 rw[decide_eq_true h3]
 by_cases h4:nt=n
 case neg =>
  have t4:((nt:Int) != (n:Int))=true:=by rw[bne_iff_ne];omega
  have hr:R=false:=HR.out.trans (Qfv fun hh=>h4 (by have:=hh.tl;have:=LN.out;have:=LT.out;omega));clear HR CD CT CK CO;subst hr;go_wp2_with fail;refine(CN.out _ _ HB0.out).mono ?_;rintro e w9 ⟨rfl,hb⟩;have B9:=hid (HB0.out.trans (hb.mono HB0.out.size));clear hb;go_wp2_with fail;go_ret;exact HG.out _ _ B9.out (.inr ⟨by first|rfl|trivial,_,rfl⟩)
 have t4:((nt:Int) != (n:Int))=false:=by rw[h4];simp
 subst h4;go_wp2_with fail;refine CT.out.mono ?_;rintro e w1 ⟨rfl,rfl⟩;cases h5:x.tag.all (fun t=>t.length==32) with
 | false =>
  have hr:R=false:=HR.out.trans (Qfv fun hh=>by
   rw[Bool.eq_false_iff] at h5
   exact h5 (List.all_eq_true.2 fun t ht=>by rw[beq_iff_eq];exact hh.t32 t ht))
  clear HR CD CT CK CO;subst hr;go_wp2_with fail;refine(CN.out _ _ HB0.out).mono ?_;rintro e w9 ⟨rfl,hb⟩;have B9:=hid (HB0.out.trans (hb.mono HB0.out.size));clear hb;go_wp2_with fail;go_ret;exact HG.out _ _ B9.out (.inr ⟨by first|rfl|trivial,_,rfl⟩)
 | true =>
  by_cases h6:so<0
  ·
   have t6:decide (so<0)=true:=decide_eq_true h6;have hr:R=false:=HR.out.trans (Qfv fun hh=>by have:=hh.s0;have:=HSO.out;omega);clear HR CD CT CK CO;subst hr;go_wp2_with fail;refine(CN.out _ _ HB0.out).mono ?_;rintro e w9 ⟨rfl,hb⟩;have B9:=hid (HB0.out.trans (hb.mono HB0.out.size));clear hb;go_wp2_with fail;go_ret;exact HG.out _ _ B9.out (.inr ⟨by first|rfl|trivial,_,rfl⟩)
  have t6:decide (so<0)=false:=decide_eq_false h6;by_cases h7:7<so
  ·
   have t7:decide (7<so)=true:=decide_eq_true h7;have hr:R=false:=HR.out.trans (Qfv fun hh=>by have:=hh.s7;have:=HSO.out;omega);clear HR CD CT CK CO;subst hr;go_wp2_with fail;refine(CN.out _ _ HB0.out).mono ?_;rintro e w9 ⟨rfl,hb⟩;have B9:=hid (HB0.out.trans (hb.mono HB0.out.size));clear hb;go_wp2_with fail;go_ret;exact HG.out _ _ B9.out (.inr ⟨by first|rfl|trivial,_,rfl⟩)
  have t7:decide (7<so)=false:=decide_eq_false h7;go_wp2_with fail;refine CK.out.mono ?_;rintro e w1 ⟨rfl,hb⟩;have B1:=hid (Below.push HW0.out (Nat.le_of_eq HS0.out.symm) hb);have T1:=hid (HB0.out.trans (B1.out.mono (Nat.le_succ _)));clear hb g0 g1 g2 g3 g4 g5 g6;obtain⟨g0,g1,g2,g3,g4,g5,g6⟩:=HRW.out _ B1.out;cases h8:Qag x.src with
  | false =>
   have hr:R=false:=HR.out.trans (Qfv fun hh=>by have:=hh.ck;rw[h8] at this;cases this);clear HR CD CT CK CO;subst hr;go_wp2_with fail;refine(CN.out _ _ T1.out).mono ?_;rintro e w9 ⟨rfl,hb⟩;have B9:=hid (T1.out.trans (hb.mono T1.out.size));clear hb;go_wp2_with fail;go_ret;exact HG.out _ _ B9.out (.inr ⟨by first|rfl|trivial,_,rfl⟩)
  | true =>
   go_wp2_with fail;refine(CO.out _).mono ?_;rintro e w2 ⟨rfl,hb⟩;have T2:=hid (T1.out.trans (hb.mono T1.out.size));clear hb g0 g1 g2 g3 g4 g5 g6;cases h9:Qby x.src with
   | true =>
    have hr:R=false:=HR.out.trans (Qfv fun hh=>by have:=hh.nn;rw[h9] at this;cases this);clear HR CD CT CK CO;subst hr;go_wp2_with fail;refine(CN.out _ _ T2.out).mono ?_;rintro e w9 ⟨rfl,hb⟩;have B9:=hid (T2.out.trans (hb.mono T2.out.size));clear hb;go_wp2_with fail;go_ret;exact HG.out _ _ B9.out (.inr ⟨by first|rfl|trivial,_,rfl⟩)
   | false =>
    have hr:R=true:=HR.out.trans (Qb7.2 ⟨by have:=LN.out;omega,by have:=LN.out;omega,h3,by have:=LN.out;have:=LT.out;omega,fun t ht=>by have:=List.all_eq_true.1 h5 t ht;simpa using this,by have:=HSO.out;omega,by have:=HSO.out;omega,h8,h9⟩);clear HR CD CT CK CO;subst hr;go_wp2_with fail;go_ret;exact HG.out _ _ T2.out (.inl ⟨by first|rfl|trivial,rfl⟩)
theorem Qxj{fn:Func}{p:Tmp}(h:fn.results=#[.cell p 119])(tmps:Array Value)(W:World){g:Nat}{vs:Array Value}{t:TypeId}(hp:tmps.getD p undef=.pointer (some ⟨g,0,none⟩))
  (hg:W.heap[g]?=some (.cells vs t (0,0))) (hs:vs.size=4):(results fn tmps).run Tryz.prog W=.ok (.agg vs) W :=
 results_cell_row h tmps W g t vs (0,0) _ hp hg Tryz.underlying119 rfl (by rw[hs];exact Qbf)
theorem Qem{base k n:Nat}{t:TypeId}{w w':World}{v:Value}{cells:List Value}(h:w.ownsRow base t k v n cells)(hb:Below w.heap.size w w'):w'.ownsRow base t k v n cells:=by
 refine World.ownsRow.kept h (row:=none) ⟨hb.os,hb.tape,hb.output,hb.size,fun j hj _=>hb.block j hj⟩ ?_;rcases v.ownBlock with _|q
 ·
  exact .inl rfl
 ·
  exact .inr (by simp)
theorem Qis{base k n:Nat}{t:TypeId}{w w1 w3:World}{v:Value}{cells:List Value}(h:w.ownsRow base t k v n cells)(hb:Below w.heap.size w w1)(hg:w1.grownBy w3 v.ownBlock)(hbase:base≤w.heap.size):Below base w w3 :=
 (hb.mono hbase).trans ⟨hg.os,hg.tape,hg.output,hg.size,fun j hj=>hg.block j (Nat.lt_of_lt_of_le hj (Nat.le_trans hbase hb.size)) (fun e=>by have:=(World.ownsRow.lt h j e.symm).1;omega)⟩
theorem Qqg{vL v3:Value}{g2 H:Nat}(h3:v3.ownBlock=some g2)(h:vL.ownBlock=some g2∨g2=H):v3.ownBlock=vL.ownBlock∨∀ g,v3.ownBlock=some g→H≤g:=by
 rcases h with h|h
 ·
  exact .inl (by rw[h3,h])
 ·
  exact .inr fun g e=>by rw[h3] at e;injection e with e;omega
theorem Qk2{W W':World}{c0 c1 c2 c3:Value}{t:TypeId}(h:W'=W.alloc (.cells #[c0,c1,c2,c3] t)):∀ q u,([c0,c1,c2,c3]:List Value)[q]?=some u→W'.cell? ((⟨W.heap.size,0,none⟩:Addr).add q)=some u:=by
 subst h;intro q u hq;have ea:(⟨W.heap.size,0,none⟩:Addr).add q=⟨W.heap.size,0+q,none⟩:=by unfold Addr.add;split <;> simp_all
 rw[ea,Nat.zero_add,World.cell?_alloc_at _ _ _ _ rfl]
 simpa using hq
theorem Qah{lo:Nat}{w w':World}{v:Value}{x:Itm}(h:RdI (Qap (Qax lo) w) w.heap.size v x)(hb:Below w.heap.size w w'):RdI (Qap (Qax lo) w') w'.heap.size v x :=
 h.maskup zr (fun j _ hj=>hb.block j hj) hb.size
theorem RdI.deeper{lo lo':Nat}{w:World}{v:Value}{x:Itm}(h:RdI (Qap (Qax lo) w) w.heap.size v x)(hl:lo'≤lo):RdI (Qap (Qax lo') w) w.heap.size v x :=
 h.maskup hl (fun _ _ _=>rfl) zr
theorem Qj9(A:OA)(n c B:Nat)(l:List Nat)(w:World)(hB:B≤w.heap.size)(h:RdN w B A n l)(hlt0:∀ x∈l,x<18446744073709551616)(h1:1≤n)(h20:n≤20) :
  Calls Tryz.prog 116 #[.slice A n c] w (Qbj w.heap.size (aI (l.map uI)) w):=by
 have H:=hid h;have HLT:=hid hlt0;have HBB:=hid hB;have hB0:Below w.heap.size w (w.alloc zk0):=zb;have HB0:=hid hB0;have HW0:Hid (Below (w.heap.size+1) (w.alloc zk0) (w.alloc zk0)):=Below.refl _ _;have HS0:Hid ((w.alloc zk0).heap.size=w.heap.size+1):=by show _=_;simp
 have HRW:=hid (fun (W:World) (hb:Below (w.heap.size+1) (w.alloc zk0) W)=>Qad (w:=w) rfl hb);have HPAR:Hid (Qa5 (l.map uI)≤1000000):=by show _≤_;rw[Qff];have:l.length=n:=H.out.1;omega
 have LEN:Hid (l.length=n):=H.out.1;have HG:Hid (∀ (e:Ending) (w':World) (v:Value),e=.returned v→RdI (Qap (Qax w.heap.size) w') w'.heap.size v (aI (l.map uI))→Below w.heap.size w w'→Qbj w.heap.size (aI (l.map uI)) w e w'):=fun _ _ v h1 h2 h3=>⟨v,h1,h2,h3⟩
 obtain⟨i0,hi0,hz0,hz1,hz2⟩:=info_parts Qbr;have HI:=hid hi0;have HI0:=hid hz0;have HI1:=hid hz1;have HI2:=hid hz2;have H20:=hid h20;clear h hlt0 hB hB0 hi0 hz0 hz1 hz2;go_enter Tryz.func116,Tryz.ntmps116;go_wp2_with fail;go_loopw [3,8] (fun vL s8 wl=>∃ i:Nat,i≤n∧s8=.int .i64 (i:Int)∧Hid (OwI 119 (w.heap.size+1) wl vL ((l.take i).map uI))∧Hid (Below (w.heap.size+1) (w.alloc zk0) wl)) (fun _ s8 _=>n - (intOf s8).toNat)
 case atStart=>exact⟨0,Nat.zero_le _,rfl,by rw[List.take_zero];exact OwI.nil_,HW0.out⟩
 case round =>
  obtain⟨i,hi,rfl,HO,HB⟩:=hrel;have HSZ:Hid (w.heap.size+1≤wr.heap.size):=by show _≤_;have:=HB.out.size;have:=HS0.out;omega
  have HT:Hid (Below w.heap.size w wr):=HB0.out.trans (HB.out.mono (Nat.le_succ _));by_cases hlt:i<n
  ·
   have hii:decide ((i:Int)<(n:Int))=true:=decide_eq_true (by omega);have hi1:(i:Int)<(n:Int):=by omega
   have hil:i<l.length:=by rw[LEN.out];exact hlt
   have htk:(l.take (i+1)).map uI=(l.take i).map uI++[uI l[i]]:=by rw[List.take_add_one,List.getElem?_eq_getElem hil,List.map_append];rfl
   obtain⟨cells,hown,hits⟩:=HO.out;have hll:((l.take i).map uI).length=i:=by rw[List.length_map,List.length_take];omega
   rw[hll] at hown
   have OWN0:=hid hown;have ITS:=hid hits;have LL:=hid hll;have TK:=hid htk;have h20i:=H20.out;obtain⟨b,ob,rfl,hb,gq⟩:=H.out.get i hlt;have hget:l.getD i 0=l[i]:=by simp[List.getD,hil]
   rw[hget] at gq
   have g0:=(HT.out.cell (p:=⟨b,ob+i,none⟩) (Nat.lt_of_lt_of_le hb HBB.out)).trans gq;have HY:Hid (l[i]<18446744073709551616):=HLT.out _ (List.getElem_mem hil);obtain⟨y,hy⟩:∃ y,y=l[i]:=⟨_,rfl⟩
   rw[← hy] at g0 TK HY
   clear hy hb hget gq;clear hown hits htk hll HO;clear hil;go_wp2_with fail;refine(Qds (y:Int) _).mono ?_;rintro e w1 ⟨rfl,hb⟩;have D1:=hid hb;clear hb;have DW:Hid (Below wr.heap.size wr (w1.alloc (zo1 0 y none 0 0 none 0 0))):=D1.out.alloc D1.out.size _;have ROW:Hid (∀ q u,([.int .i64 0,.int .u64 (y:Int),.slice none 0 0,.slice none 0 0]:List Value)[q]?=some u→(w1.alloc (zo1 0 y none 0 0 none 0 0)).cell? ((⟨w1.heap.size,0,none⟩:Addr).add q)=some u):=Qk2 rfl;have ONE:Hid (∀ u∈([.int .i64 0,.int .u64 (y:Int),.slice none 0 0,.slice none 0 0]:List Value),u.oneCell'=true):=fun u hu=>List.all_eq_true.1 (show([.int .i64 0,.int .u64 (y:Int),.slice none 0 0,.slice none 0 0]:List Value).all (·.oneCell')=true from rfl) u hu
   have XW:Hid (RdI (Qap (Qax wr.heap.size) (w1.alloc (zo1 0 y none 0 0 none 0 0))) (w1.alloc (zo1 0 y none 0 0 none 0 0)).heap.size (zv6 0 y none 0 0 none 0 0) (uI y)):=RdI.mk_uint HY.out;clear D1;have OWN:=hid (Qem OWN0.out DW.out);have BSZ:Hid (w.heap.size+1≤(w1.alloc (zo1 0 y none 0 0 none 0 0)).heap.size):=Nat.le_trans HSZ.out DW.out.size;go_wp2_with (first
    | (at_builtin;refine wpList_append_lies _ rfl (.tmp 12) (.tmp 15) 80 rfl (w.heap.size+1) 119 i0 _ 4 64 Tryz.underlying80 HI.out HI0.out HI1.out HI2.out rfl (by decide) u3 i cells rfl OWN.out ⟨_,0,none⟩ 1 1 _ rfl rfl ROW.out ONE.out (by decide) (by unfold maxLen;omega) (by omega) BSZ.out _ rfl ?_;intro g2 cap2 w3 ho3 hg3 hat hlt3;have O3:=hid ho3;have G3:=hid hg3;have AT:=hid hat;clear ho3 hg3 hat hlt3)
    | fail)
   have PUSH:=hid (OwI.push (base:=w.heap.size+1) (by rw[LL.out];exact OWN0.out) ITS.out (x:=uI y) XW.out DW.out (by rw[LL.out]) O3.out G3.out (Qqg rfl AT.out) HSZ.out);have BEL:=hid (HB.out.trans (Qis OWN0.out DW.out G3.out HSZ.out));clear OWN0 ITS OWN O3 G3 AT XW ROW ONE DW;go_roundw
   case rel =>
    refine⟨i+1,by omega,by go_num,?_,BEL.out⟩;show OwI _ _ _ _ _;rw[TK.out]
    exact PUSH.out
   case measure=>simp[intOf];omega
  ·
   obtain rfl:i=n:=by omega
   have hii:decide ((i:Int)<(i:Int))=false:=decide_eq_false (by omega);have hto:=HO.out;rw[List.take_of_length_le (by rw[LEN.out];exact Nat.le_refl _)] at hto
   obtain⟨g,cap,rfl,hg1,hg2,hcap,hris⟩:=hto.lie (n:=i) (by rw[List.length_map];exact LEN.out) (by omega);have CA:=hid (Qb9 (lo:=w.heap.size+1) (n:=i) (cap:=cap) HSZ.out zr hg2 hris (by rw[List.length_map];exact LEN.out) (by omega) HPAR.out hcap);clear hto hg1 hg2 hcap hris HO;go_wp2_with fail;refine CA.out.mono ?_;rintro e w1 ⟨v,rfl,hv,hb⟩;obtain⟨k1,n1,A1,nd1,cd1,AL1,nl1,cl1,rfl⟩:=hv.unmask.form;have V1:=hid hv;have B1:=hid (HB.out.trans (hb.mono HSZ.out));have T1:=hid (HT.out.trans (hb.mono HT.out.size));have R1:=hid (HRW.out _ B1.out);clear hb hv;go_wp2_with (first
    | (refine Qbg rfl 119 (.tmp 2) (.tmp 19) rfl _ _ _ _ _ rfl rfl _ _ R1.out Qbf rfl rfl ?_;intro w2 hst;have ST:=hid hst;clear hst)
    | fail)
   refine bodyPost_ret (Qxj Tryz.results116 _ _ rfl ST.out.1 rfl) rfl ?_;exact HG.out _ _ _ rfl (V1.out.maskup (Nat.le_succ _) (fun j h1 _=>ST.out.2.2.2 j (by omega)) (Nat.le_of_eq ST.out.2.2.1.symm)) (ST.out.2.1 _ _ T1.out zr)
theorem Qmu(A:OA)(n c B:Nat)(l:List LB)(w:World)(hB:B≤w.heap.size)(h:RdT w B A n l)(hlt0:∀ x∈l,x.length≤140737488355328)(h1:1≤n)(h20:n≤20) :
  Calls Tryz.prog 118 #[.slice A n c] w (Qbj w.heap.size (aI (l.map Qe5)) w):=by
 have H:=hid h;have HLT:=hid hlt0;have HBB:=hid hB;have hB0:Below w.heap.size w (w.alloc zk0):=zb;have HB0:=hid hB0;have HW0:Hid (Below (w.heap.size+1) (w.alloc zk0) (w.alloc zk0)):=Below.refl _ _;have HS0:Hid ((w.alloc zk0).heap.size=w.heap.size+1):=by show _=_;simp
 have HRW:=hid (fun (W:World) (hb:Below (w.heap.size+1) (w.alloc zk0) W)=>Qad (w:=w) rfl hb);have HPAR:Hid (Qa5 (l.map Qe5)≤1000000):=by show _≤_;rw[Qel];have:l.length=n:=H.out.len;omega
 have LEN:Hid (l.length=n):=H.out.len;have HG:Hid (∀ (e:Ending) (w':World) (v:Value),e=.returned v→RdI (Qap (Qax w.heap.size) w') w'.heap.size v (aI (l.map Qe5))→Below w.heap.size w w'→Qbj w.heap.size (aI (l.map Qe5)) w e w'):=fun _ _ v h1 h2 h3=>⟨v,h1,h2,h3⟩
 obtain⟨i0,hi0,hz0,hz1,hz2⟩:=info_parts Qbr;have HI:=hid hi0;have HI0:=hid hz0;have HI1:=hid hz1;have HI2:=hid hz2;have H20:=hid h20;clear h hlt0 hB hB0 hi0 hz0 hz1 hz2;go_enter Tryz.func118,Tryz.ntmps118;go_wp2_with fail;go_loopw [3,8] (fun vL s8 wl=>∃ i:Nat,i≤n∧s8=.int .i64 (i:Int)∧Hid (OwI 119 (w.heap.size+1) wl vL ((l.take i).map Qe5))∧Hid (Below (w.heap.size+1) (w.alloc zk0) wl)) (fun _ s8 _=>n - (intOf s8).toNat)
 case atStart=>exact⟨0,Nat.zero_le _,rfl,by rw[List.take_zero];exact OwI.nil_,HW0.out⟩
 case round =>
  obtain⟨i,hi,rfl,HO,HB⟩:=hrel;have HSZ:Hid (w.heap.size+1≤wr.heap.size):=by show _≤_;have:=HB.out.size;have:=HS0.out;omega
  have HT:Hid (Below w.heap.size w wr):=HB0.out.trans (HB.out.mono (Nat.le_succ _));by_cases hlt:i<n
  ·
   have hii:decide ((i:Int)<(n:Int))=true:=decide_eq_true (by omega);have hi1:(i:Int)<(n:Int):=by omega
   have hil:i<l.length:=by rw[LEN.out];exact hlt
   have htk:(l.take (i+1)).map Qe5=(l.take i).map Qe5++[Qe5 l[i]]:=by rw[List.take_add_one,List.getElem?_eq_getElem hil,List.map_append];rfl
   obtain⟨cells,hown,hits⟩:=HO.out;have hll:((l.take i).map Qe5).length=i:=by rw[List.length_map,List.length_take];omega
   rw[hll] at hown
   have OWN0:=hid hown;have ITS:=hid hits;have LL:=hid hll;have TK:=hid htk;have h20i:=H20.out;obtain⟨b,ob,At,nt,ct,rfl,hb,gq,hrd,-,-⟩:=H.out.get i hlt;have hget:l.getD i []=l[i]:=by simp[List.getD,hil]
   rw[hget] at hrd
   have g0:=(HT.out.cell (p:=⟨b,ob+i,none⟩) (Nat.lt_of_lt_of_le hb HBB.out)).trans gq;have hnt:nt≤140737488355328:=by have:=HLT.out _ (List.getElem_mem hil);have:=hrd.1;omega
   obtain⟨y,hy⟩:∃ y,y=l[i]:=⟨_,rfl⟩
   rw[← hy] at hrd TK
   have HRD:=hid (hrd.below (HT.out.mono HBB.out));have HNT:=hid hnt;clear hy hb hget hrd hnt gq;clear hown hits htk hll HO;clear hil;go_wp2_with fail;refine(Qds 1 _).mono ?_;rintro e w1 ⟨rfl,hb⟩;have D1:=hid hb;have C2:=hid (Qfk wr.heap.size At nt ct B y w1 hb.size (Nat.le_trans HBB.out (Nat.le_trans HT.out.size hb.size)) (HRD.out.below (hb.mono (Nat.le_trans HBB.out HT.out.size))) HNT.out);clear hb;go_wp2_with fail;refine C2.out.mono ?_;rintro e w2 ⟨v2,rfl,hv,hb⟩;obtain⟨k2,n2,A2,nd2,cd2,AL2,nl2,cl2,rfl⟩:=hv.unmask.form;have D2:=hid (D1.out.trans (hb.mono D1.out.size));have C3:=hid (Qb9 (n:=2) (cap:=2) (lo:=wr.heap.size) (Nat.le_trans D2.out.size (Qaa _ _)) zr (by simp) (ItL.row (t:=119) (cs:=[.int .i64 0,.int .u64 1,.slice none 0 0,.slice none 0 0,.int .i64 k2,.int .u64 (n2:Int),.slice A2 nd2 cd2,.slice AL2 nl2 cl2]) (xs:=[uI 1,.mk 2 0 y []]) D2.out.size ⟨RdI.mk_uint (by decide),hv,trivial⟩) rfl (by decide) (by simp[uI,Qa5,par]) (by decide))
   clear hb hv C2;go_wp2_with fail;refine C3.out.mono ?_;rintro e w4 ⟨v4,rfl,hv,hb⟩;obtain⟨k4,n4,A4,nd4,cd4,AL4,nl4,cl4,rfl⟩:=hv.unmask.form;have D4:=hid ((D2.out.alloc D2.out.size _).trans (hb.mono (Nat.le_trans D2.out.size (Qaa _ _))));have C5:=hid (Qb9 (n:=1) (cap:=1) (lo:=wr.heap.size) (Nat.le_trans D4.out.size (Qaa _ _)) zr (by simp) (ItL.row (t:=119) (cs:=[.int .i64 k4,.int .u64 (n4:Int),.slice A4 nd4 cd4,.slice AL4 nl4 cl4]) (xs:=[aI [uI 1,.mk 2 0 y []]]) D4.out.size ⟨hv,trivial⟩) rfl (by decide) (by simp[aI,uI,Qa5,par]) (by decide));clear hb hv C3;go_wp2_with fail;refine C5.out.mono ?_
   rintro e w6 ⟨v6,rfl,hv,hb⟩;obtain⟨k6,n6,A6,nd6,cd6,AL6,nl6,cl6,rfl⟩:=hv.unmask.form;have D6:=hid ((D4.out.alloc D4.out.size _).trans (hb.mono (Nat.le_trans D4.out.size (Qaa _ _))));have V6:=hid hv;clear hb hv C5;have DW:Hid (Below wr.heap.size wr (w6.alloc (zo1 k6 n6 A6 nd6 cd6 AL6 nl6 cl6))):=D6.out.alloc D6.out.size _;have ROW:Hid (∀ q u,([.int .i64 k6,.int .u64 (n6:Int),.slice A6 nd6 cd6,.slice AL6 nl6 cl6]:List Value)[q]?=some u→(w6.alloc (zo1 k6 n6 A6 nd6 cd6 AL6 nl6 cl6)).cell? ((⟨w6.heap.size,0,none⟩:Addr).add q)=some u):=Qk2 rfl;have ONE:Hid (∀ u∈([.int .i64 k6,.int .u64 (n6:Int),.slice A6 nd6 cd6,.slice AL6 nl6 cl6]:List Value),u.oneCell'=true):=fun u hu=>List.all_eq_true.1 (show([.int .i64 k6,.int .u64 (n6:Int),.slice A6 nd6 cd6,.slice AL6 nl6 cl6]:List Value).all (·.oneCell')=true from rfl) u hu
   have XW:Hid (RdI (Qap (Qax wr.heap.size) (w6.alloc (zo1 k6 n6 A6 nd6 cd6 AL6 nl6 cl6))) (w6.alloc (zo1 k6 n6 A6 nd6 cd6 AL6 nl6 cl6)).heap.size (zv6 k6 n6 A6 nd6 cd6 AL6 nl6 cl6) (Qe5 y)):=Qah V6.out zb;clear D1 D2 D4 D6 V6;have OWN:=hid (Qem OWN0.out DW.out);have BSZ:Hid (w.heap.size+1≤(w6.alloc (zo1 k6 n6 A6 nd6 cd6 AL6 nl6 cl6)).heap.size):=Nat.le_trans HSZ.out DW.out.size;go_wp2_with (first
    | (at_builtin;refine wpList_append_lies _ rfl (.tmp 12) (.tmp 20) 80 rfl (w.heap.size+1) 119 i0 _ 4 64 Tryz.underlying80 HI.out HI0.out HI1.out HI2.out rfl (by decide) u3 i cells rfl OWN.out ⟨_,0,none⟩ 1 1 _ rfl rfl ROW.out ONE.out (by decide) (by unfold maxLen;omega) (by omega) BSZ.out _ rfl ?_;intro g2 cap2 w3 ho3 hg3 hat hlt3;have O3:=hid ho3;have G3:=hid hg3;have AT:=hid hat;clear ho3 hg3 hat hlt3)
    | fail)
   have PUSH:=hid (OwI.push (base:=w.heap.size+1) (by rw[LL.out];exact OWN0.out) ITS.out (x:=Qe5 y) XW.out DW.out (by rw[LL.out]) O3.out G3.out (Qqg rfl AT.out) HSZ.out);have BEL:=hid (HB.out.trans (Qis OWN0.out DW.out G3.out HSZ.out));clear OWN0 ITS OWN O3 G3 AT XW ROW ONE DW;go_roundw
   case rel =>
    refine⟨i+1,by omega,by go_num,?_,BEL.out⟩;show OwI _ _ _ _ _;rw[TK.out]
    exact PUSH.out
   case measure=>simp[intOf];omega
  ·
   obtain rfl:i=n:=by omega
   have hii:decide ((i:Int)<(i:Int))=false:=decide_eq_false (by omega);have hto:=HO.out;rw[List.take_of_length_le (by rw[LEN.out];exact Nat.le_refl _)] at hto
   obtain⟨g,cap,rfl,hg1,hg2,hcap,hris⟩:=hto.lie (n:=i) (by rw[List.length_map];exact LEN.out) (by omega);have CA:=hid (Qb9 (lo:=w.heap.size+1) (n:=i) (cap:=cap) HSZ.out zr hg2 hris (by rw[List.length_map];exact LEN.out) (by omega) HPAR.out hcap);clear hto hg1 hg2 hcap hris HO;go_wp2_with fail;refine CA.out.mono ?_;rintro e w1 ⟨v,rfl,hv,hb⟩;obtain⟨k1,n1,A1,nd1,cd1,AL1,nl1,cl1,rfl⟩:=hv.unmask.form;have V1:=hid hv;have B1:=hid (HB.out.trans (hb.mono HSZ.out));have T1:=hid (HT.out.trans (hb.mono HT.out.size));have R1:=hid (HRW.out _ B1.out);clear hb hv;go_wp2_with (first
    | (refine Qbg rfl 119 (.tmp 2) (.tmp 24) rfl _ _ _ _ _ rfl rfl _ _ R1.out Qbf rfl rfl ?_;intro w2 hst;have ST:=hid hst;clear hst)
    | fail)
   refine bodyPost_ret (Qxj Tryz.results118 _ _ rfl ST.out.1 rfl) rfl ?_;exact HG.out _ _ _ rfl (V1.out.maskup (Nat.le_succ _) (fun j h1 _=>ST.out.2.2.2 j (by omega)) (Nat.le_of_eq ST.out.2.2.1.symm)) (ST.out.2.1 _ _ T1.out zr)
end Go.Proofs.YtbnfkjkoinbkgaaGreatDoor
