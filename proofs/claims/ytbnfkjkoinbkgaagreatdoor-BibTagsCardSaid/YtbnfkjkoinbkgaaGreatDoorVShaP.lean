import Derived.Test.YtbnfkjkoinbkgaaGreatDoorVAbb
import Derived.Test.YtbnfkjkoinbkgaaGreatDoorVAsW
import Derived.Test.YtbnfkjkoinbkgaaGreatDoorVCborM
import Derived.Test.YtbnfkjkoinbkgaaGreatDoorVCborR
import Derived.Test.YtbnfkjkoinbkgaaGreatDoorVKCheck
import Derived.Test.YtbnfkjkoinbkgaaGreatDoorVKHead
import Derived.Test.YtbnfkjkoinbkgaaGreatDoorVKMake
import Derived.Test.YtbnfkjkoinbkgaaGreatDoorVNumB
import Derived.Test.YtbnfkjkoinbkgaaGreatDoorVNumG
import Derived.Test.YtbnfkjkoinbkgaaGreatDoorVSame
import Derived.Test.YtbnfkjkoinbkgaaGreatDoorVShaB
import Derived.Test.YtbnfkjkoinbkgaaGreatDoorRows
import Derived.LaidEql
import Derived.Stop.Asserts
import Derived.RowKitTokens
import Derived.WalkKit
import Derived.Stop.IfaceNil
import Derived.Lib.Bytealg
import Derived.Lib.IndexLaws
import Derived.Lib.ParseIntB
import Derived.Lib.Strings
import Derived.Shelf.Small.Strs
import Derived.Shelf.Strings.Search1
import Derived.Shelf.Small.Wraps
import Derived.Ground.MpProg
import Derived.Shelf.Pu.Clone
import Derived.Below
import Derived.BigCall
import Derived.BigGuard
import Derived.BigGuardPart
import Derived.BigQuiet
import Derived.Deep.DeepCutAuto
import Derived.Deep.DeepFit
import Derived.Deep.Draws
import Derived.Deep.OwnRows
import Derived.Deep.QuietTactic
import Derived.Laws.AppendOwn
import Derived.Laws.BitsAllLaws
import Derived.Laws.BytesArg
import Derived.Laws.IdiomStrings
import Derived.Laws.NewBlocks
import Derived.Laws.Strings3
import Derived.Lib.EndianBits
import Derived.Lib.HexFns
import Derived.Lib.Hide
import Derived.Lib.ItoaNum
import Derived.Lib.SlBytesConst
import Derived.Lib.Walk
import Derived.Outline
import Derived.WalkLawsBesides
import Derived.RegionTactic
import Derived.Deep.RegionLawGrows
import Derived.Laws.MakeOwn
namespace Go.Proofs.YtbnfkjkoinbkgaaGreatDoor
set_option maxRecDepth 100000
set_option maxHeartbeats 16000000
open Go.Lib (decDigits)
structure Epd where
 scheme:Int
 name:LB
 node:Nat
 service:Nat
def Qbk(c:UInt8):Bool:=(decide (97≤c.toNat)&&decide (c.toNat≤122))||((decide (48≤c.toNat)&&decide (c.toNat≤57))||(c==46||(c==45||c==95)))
def lsB(c:UInt8):Bool:=c==47||Qbk c
def Qa0(s:LB):Nat:=(s.takeWhile fun c=>c != 47).length
def Qc1(s:LB):Bool :=
 decide (s.length≤64)&&(match s with
  | a::b::r=>(a==47&&b==47)&&(r.all lsB&&(decide (1≤Qa0 r)&&decide (Qa0 r<r.length)))
  | _=>false)
def Qzz(s:LB):Nat:=2+Qa0 (s.drop 2)
def Qby(e:Epd):Bool:=e.scheme==1&&(e.name.isEmpty&&(e.node==0&&e.service==0))
def Qag(e:Epd):Bool :=
 if e.scheme=1 then (e.node==0&&e.service==0)&&(e.name.isEmpty||Qc1 e.name)
 else e.scheme==2&&(e.name.isEmpty&&(decide (0<e.node)&&(decide (e.node≤4294967295)&&decide (e.service≤4294967295))))
def Qal(e:Epd):Itm :=
 .mk 4 0 [] [.mk 0 e.scheme.toNat [] [],if e.scheme=2 then .mk 4 0 [] [.mk 0 e.node [] [],.mk 0 e.service [] []] else if e.name=[] then .mk 0 0 [] [] else .mk 3 0 e.name []]
theorem Qbz{e:Epd}(h:Qag e=true)(h1:e.scheme=1):e.node=0∧e.service=0∧(e.name=[]∨Qc1 e.name=true):=by
 unfold Qag at h;rw[if_pos h1] at h
 simp only[Bool.and_eq_true,Bool.or_eq_true,beq_iff_eq,List.isEmpty_iff] at h;exact⟨h.1.1,h.1.2,h.2⟩
theorem Qbe{e:Epd}(h:Qag e=true)(h1:e.scheme≠1):e.scheme=2∧e.name=[]∧0<e.node∧e.node≤4294967295∧e.service≤4294967295:=by
 unfold Qag at h;rw[if_neg h1] at h
 simp only[Bool.and_eq_true,beq_iff_eq,List.isEmpty_iff,decide_eq_true_eq] at h;exact⟨h.1,h.2.1,h.2.2.1,h.2.2.2.1,h.2.2.2.2⟩
theorem Qb4{s:LB}(h:Qc1 s=true):∃ r,s=47::47::r∧r.all lsB=true∧1≤Qa0 r∧Qa0 r<r.length∧s.length≤64:=by
 unfold Qc1 at h;match s,h with
 | [],h=>simp at h
 | [_],h=>simp at h
 | a::b::r,h =>
  simp only[Bool.and_eq_true,beq_iff_eq,decide_eq_true_eq] at h;obtain⟨h1,⟨rfl,rfl⟩,h2,h3,h4⟩:=h;exact⟨r,rfl,h2,h3,h4,h1⟩
theorem Qgr{a b:Epd}(h1:a.scheme=b.scheme)(h2:a.name=b.name)(h3:a.node=b.node)(h4:a.service=b.service):a=b:=by
 cases a;cases b;simp_all
theorem Qhg{a b:Epd}(ha:Qag a=true)(hb:Qag b=true)(h:Qal a=Qal b):a=b:=by
 unfold Qal at h;simp only[Itm.mk.injEq,List.cons.injEq,and_true,true_and] at h;obtain⟨h1,h2⟩:=h;by_cases a1:a.scheme=1
 ·
  obtain⟨an,ac,am⟩:=Qbz ha a1;by_cases b1:b.scheme=1
  ·
   obtain⟨bn,bs,bm⟩:=Qbz hb b1;have na:¬ a.scheme=2:=by omega
   have nb:¬ b.scheme=2:=by omega
   rw[if_neg na,if_neg nb] at h2
   refine Qgr (a1.trans b1.symm) ?_ (an.trans bn.symm) (ac.trans bs.symm);by_cases a0:a.name=[]
   ·
    by_cases b0:b.name=[]
    ·
     rw[a0,b0]
    ·
     rw[if_pos a0,if_neg b0] at h2;simp at h2
   ·
    by_cases b0:b.name=[]
    ·
     rw[if_neg a0,if_pos b0] at h2;simp at h2
    ·
     rw[if_neg a0,if_neg b0] at h2;simpa using h2
  ·
   obtain⟨b2,_⟩:=Qbe hb b1;rw[a1,b2] at h1;simp at h1
 ·
  obtain⟨a2,an,_⟩:=Qbe ha a1;by_cases b1:b.scheme=1
  ·
   rw[a2,b1] at h1;simp at h1
  ·
   obtain⟨b2,bn,_⟩:=Qbe hb b1;rw[if_pos a2,if_pos b2] at h2
   simp at h2;exact Qgr (a2.trans b2.symm) (an.trans bn.symm) h2.1 h2.2
open Go.Lib (decDigits)
open Go.RowKit
end Go.Proofs.YtbnfkjkoinbkgaaGreatDoor
namespace Go.Proofs.YtbnfkjkoinbkgaaGreatDoor
set_option maxRecDepth 100000
set_option maxHeartbeats 16000000
open Go.RowKit
open Go.Lib (hid)
structure Run (v:Value) (w:World) (v':Value) (w':World):Prop where
 grown:w.grownBy w' v.ownBlock
 own:v'.ownBlock=v.ownBlock∨∃ k,v'.ownBlock=some k∧w.heap.size≤k
section
variable {v v1 v2:Value}{w w1 w2:World}{base:Nat}{t:TypeId}{l:LB}
theorem Run.refl(v:Value)(w:World):Run v w v w:=⟨World.grownBy.refl w _,.inl rfl⟩
theorem Run.trans(h:Run v w v1 w1)(k:Run v1 w1 v2 w2):Run v w v2 w2:=by
 refine⟨⟨k.grown.os.trans h.grown.os,k.grown.tape.trans h.grown.tape,k.grown.output.trans h.grown.output,Nat.le_trans h.grown.size k.grown.size,fun i hi hne=>?_⟩,?_⟩
 ·
  refine(k.grown.block i (Nat.lt_of_lt_of_le hi h.grown.size) (fun e=>?_)).trans (h.grown.block i hi hne);rcases h.own with ho|⟨q,ho,hq⟩
  ·
   exact hne (e.trans ho)
  ·
   rw[ho] at e;injection e with e;omega
 ·
  rcases k.own with ko|⟨q,ko,hq⟩
  ·
   rcases h.own with ho|⟨q,ho,hq⟩
   ·
    exact .inl (ko.trans ho)
   ·
    exact .inr ⟨q,ko.trans ho,hq⟩
  ·
   exact .inr ⟨q,ko,Nat.le_trans h.grown.size hq⟩
theorem Run.quiet(h:Run v w v1 w1)(hb:Below w1.heap.size w1 w2):Run v w v1 w2 :=
 h.trans ⟨⟨hb.os,hb.tape,hb.output,hb.size,fun k hk _=>hb.block k hk⟩,.inl rfl⟩
theorem Run.alloc(h:Run v w v1 w1)(o:Obj):Run v w v1 (w1.alloc o):=h.quiet ((Below.refl _ _).alloc zr o)
theorem Run.drew(h:Run v w v1 w1):Run v w v1 w1.drew:=h.quiet ((Below.refl _ _).drew)
theorem Run.below(h:Run v w v1 w1)(ho:Ob w base t v l)(hbase:base≤w.heap.size):Below base w w1 :=
 ⟨h.grown.os,h.grown.tape,h.grown.output,h.grown.size,fun k hk=>h.grown.block k (by omega) (fun e=>by have:=(World.ownsRow.lt ho k e.symm).1;omega)⟩
theorem Run.cell(h:Run v w v1 w1){p:Addr}(hp:p.block<w.heap.size)(hne:v.ownBlock≠some p.block):w1.cell? p=w.cell? p :=
 World.cell?_of_block (w:=w) (h.grown.block p.block hp (fun e=>hne e.symm))
theorem Run.ne(h:Run v w v1 w1){k:Nat}(hk:k<w.heap.size)(hne:v.ownBlock≠some k):v1.ownBlock≠some k:=fun e=>by
 rcases h.own with ho|⟨q,ho,hq⟩
 ·
  exact hne (ho.symm.trans e)
 ·
  rw[ho] at e;injection e with e;omega
end
def Qjb(t:TypeId)(base:Nat)(vb:Value)(l:LB)(w:World)(e:Ending)(w':World):Prop:=∃ v,e=.returned v∧Ob w' base t v l∧Run vb w v w'
def Qhs(m:Nat):Prop:=∀ (x:Itm) (v vb:Value) (lb:LB) (w:World) (base:Nat),par x<m→Qbd x=true→lb.length+(wri x).length≤140737488355328→base≤w.heap.size→RdI w base v x→Ob w base 5 vb lb →
  Calls Tryz.prog 121 #[vb,v] w (Qjb 5 base vb (lb++wri x) w)
section
variable {P:Program}{w:World}
theorem Qav{ops:Array Oper}{rest:List Oper}{o:Oper}{a:Act}{Q:Exit→Act→World→Prop}(hgd:o.guard=none)(s x:Operand)(t:TypeId)
  (ho:o.op=.call { callee:=.builtin .append,args:=#[s,x],argTypes:=#[t,t] })
  (base:Nat) (e:TypeId) (ht:P.underlying t=some (.slice e)) (hinfo:(P.info? e).map (fun i=>(i.zero,i.size,i.bytes))=some (some (.int .u8 0),1,1))
  (v:Value) (l:LB) (hs:a.eval s=v) (hown:Ob w base e v l) (B:Nat) (A:OA) (m c:Nat) (news:LB) (hx:a.eval x=.slice A m c) (hr:Rd w B A m news)
  (hbound:l.length+m≤140737488355328) (hbase:base≤w.heap.size)
  (h:∀ v' w',Ob w' base e v' (l++news)→Run v w v' w'→wpList P ops Q rest (a.put o.dst v') w'):wpList P ops Q (o::rest) a w :=
 Qjn hgd s x t ho base e ht hinfo v l hs hown B A m c news hx hr hbound hbase fun v' w' h1 h2 h3 =>
  h v' w' h1 ⟨h2,h3.imp id fun e=>⟨_,e,Nat.le_refl _⟩⟩
theorem Ql2{ops:Array Oper}{o:Oper}{a:Act}{K:Act→World→Prop}{Q:Exit→Act→World→Prop}{E:Prop}(hgd:o.guard=none)(s x:Operand)(t:TypeId)
  (ho:o.op=.call { callee:=.builtin .append,args:=#[s,x],argTypes:=#[t,t] })
  (base:Nat) (e:TypeId) (ht:P.underlying t=some (.slice e)) (hinfo:(P.info? e).map (fun i=>(i.zero,i.size,i.bytes))=some (some (.int .u8 0),1,1))
  (v:Value) (l:LB) (hs:a.eval s=v) (hown:Ob w base e v l) (B:Nat) (A:OA) (m c:Nat) (news:LB) (hx:a.eval x=.slice A m c) (hr:Rd w B A m news)
  (hbound:l.length+m≤140737488355328) (hbase:base≤w.heap.size)
  (h:∀ v' w',Ob w' base e v' (l++news)→Run v w v' w'→K (a.put o.dst v') w'):if Region.wanted o (yielded ops a.tmps)=true then Oper.wp P o a w K Q else E:=by
 have hw:Region.wanted o (yielded ops a.tmps)=true:=by simp[Region.wanted,hgd]
 rw[if_pos hw]
 obtain⟨v',w',hrun,h2,h3,h4⟩:=Qkt (P:=P) w base t o.type e ht hinfo v l hown B A m c news hr hbound hbase;unfold Oper.wp execOp;simp only[ho,resolve,invoke,builtin,Sem.run_bind,Sem.run_pure,Result.andThen_ok,List.map_toArray,List.map_cons,List.map_nil,hs,hx,hrun];exact h v' w' h2 ⟨h3,h4.imp id fun e=>⟨_,e,Nat.le_refl _⟩⟩
end
theorem Qnc(m N cl base:Nat)(AL:OA)(l:List Itm)(vb:Value)(lb:LB)(w:World)(hm:Qa5 l<m)(hbase:base≤w.heap.size)(hlen:lb.length+(wrs l).length≤140737488355328)(hrt:Qan l=true)(h5:N≤cl∧N≤140737488355328)
  (IH:Hid (Qhs m)) (H7:Hid (0<N→∃ b o,AL=some ⟨b,o,none⟩∧b<base∧RdIs w base b o l)) (HL:Hid (l.length=N)) (ho:Ob w base 5 vb lb) :
  Calls Tryz.prog 146 #[vb,.slice AL N cl] w (Qjb 5 base vb (lb++wrs l) w):=by
 have HO:=hid ho;have HRT:=hid hrt;have HLEN:=hid hlen;clear ho hrt hlen;go_enter Tryz.func146,Tryz.ntmps146;go_wp2_with fail;go_loopw [0,9] (fun bv i wr=>∃ j:Nat,j≤N∧i=.int .i64 j∧Hid (Ob wr base 5 bv (lb++wrs (l.take j)))∧Hid (Run vb w bv wr)) (fun _ i _=>N - (intOf i).toNat)
 case atStart=>exact⟨0,Nat.zero_le _,rfl,by show Ob _ _ _ _ _;rw[List.take_zero,wrs,List.append_nil];exact HO.out,Run.refl _ _⟩
 case round =>
  obtain⟨j,hj,rfl,hob,hrun⟩:=hrel;have hbel:=hid (hrun.out.below HO.out hbase);by_cases hlt:j<N
  ·
   obtain⟨b,o,rfl,hb,hs⟩:=H7.out (by omega);have hjl:j<l.length:=by rw[HL.out];exact hlt
   obtain⟨c0,c1,c2,c3,g0,g1,g2,g3,gx⟩:=hs.get j hjl;have e0:wr.cell? ⟨b,o+j*4,none⟩=some c0:=(hbel.out.cell (p:=⟨b,o+j*4,none⟩) hb).trans g0;have e1:wr.cell? ⟨b,o+j*4+1,none⟩=some c1:=(hbel.out.cell (p:=⟨b,o+j*4+1,none⟩) hb).trans g1;have e2:wr.cell? ⟨b,o+j*4+2,none⟩=some c2:=(hbel.out.cell (p:=⟨b,o+j*4+2,none⟩) hb).trans g2;have e3:wr.cell? ⟨b,o+j*4+3,none⟩=some c3:=(hbel.out.cell (p:=⟨b,o+j*4+3,none⟩) hb).trans g3;have hz:base≤wr.heap.size:=Nat.le_trans hbase hbel.out.size;have htk:=Qkl l j hjl;have htl:=Qec l (j+1);have hpg:par (l[j]'hjl)≤Qa5 l:=Qdz _;rw[htk,List.length_append] at htl
   have hll:=HLEN.out;obtain⟨k1,n1,A1,nd1,cd1,AL1,nl1,cl1,hf⟩:=gx.form;injection hf with hf
   simp only[Array.mk.injEq,List.cons.injEq,and_true] at hf;obtain⟨rfl,rfl,rfl,rfl⟩:=hf;have C1:=hid (IH.out (l[j]'hjl) _ _ (lb++wrs (l.take j)) (wr.alloc (zo1 k1 n1 A1 nd1 cd1 AL1 nl1 cl1)) base (by omega) (Qfu HRT.out hjl) (by rw[List.length_append];omega) (Nat.le_trans hz (Qaa _ _)) ((gx.below hbel.out).alloc hz _) (hob.out.alloc _));have HTK:=hid htk;generalize wri (l[j]'hjl)=WX at *;clear g0 g1 g2 g3 gx hs htk htl hll hpg;go_wp2_with fail;refine C1.out.mono ?_;rintro e w2 ⟨v2,rfl,ho2,hb2⟩;have HO2:=hid ho2;have HB2:=hid ((hrun.out.alloc _).trans hb2);clear ho2 hb2 e0 e1 e2 e3
   go_wp2_with fail;go_roundw
   case rel=>exact⟨j+1,by omega,by go_num,by show Ob _ _ _ _ _;rw[HTK.out,← List.append_assoc];exact HO2.out,HB2.out⟩
   case measure=>simp[intOf];omega
  ·
   obtain rfl:j=N:=by omega
   have hfin:=hob.out;rw[List.take_of_length_le (by rw[HL.out];exact Nat.le_refl _)] at hfin
   have HF:=hid hfin;clear hfin;go_wp2_with fail;go_ret;exact⟨_,rfl,HF.out,hrun.out⟩
theorem Ob.apart{w:World}{base:Nat}{t:TypeId}{v:Value}{l:LB}(h:Ob w base t v l):v.ownBlock≠some w.heap.size:=fun e=>by
 have:=(World.ownsRow.lt h _ e).2
 omega
theorem Qym(k:Int)(n:Nat)(h0:0≤k)(h7:k≤7):Qdh k n=hd k.toNat n:=by rw[Qdh,if_neg (by omega)]
theorem Qo8(n nd cd N cl base:Nat)(A AL:OA)(vb:Value)(lb:LB)(w:World)(hn:n<18446744073709551616)(hbase:base≤w.heap.size)(hlen:lb.length+(hd 0 n).length≤140737488355328)(ho:Ob w base 5 vb lb) :
  Calls Tryz.prog 121 #[vb,.agg #[.int .i64 0,.int .u64 (n:Int),.slice A nd cd,.slice AL N cl]] w (Qjb 5 base vb (lb++hd 0 n) w):=by
 have C1:=hid (fun W=>Qen 0 n W (by decide) hn);rw[Qym 0 n (by decide) (by decide),show(0:Int).toNat=0 from rfl] at C1
 have HO:=hid (ho.alloc (zo1 0 n A nd cd AL N cl));generalize hd 0 n=H at *;have HLEN:=hid hlen;have HBS:=hid hbase;clear ho hlen hbase;go_enter Tryz.func121,Tryz.ntmps121;go_wp2_with fail;refine(C1.out _).mono ?_;rintro e w1 ⟨v,rfl,ho1,hb1⟩;obtain⟨A2,c2,rfl,hc2,hm2,hr2⟩:=ho1.rd;have HR:=hid hr2;have HB:=hid hb1;have hz1:w.heap.size+1≤w1.heap.size:=by have:=hb1.size;simpa using this
 have HZ:=hid (Nat.le_trans HBS.out (Nat.le_of_succ_le hz1));clear ho1 hr2 hb1;go_wp2_with (first
  | (at_builtin;refine Qav rfl (.tmp 9) (.tmp 14) 29 rfl base 5 Tryz.underlying29 Qak vb lb rfl (HO.out.below HB.out) _ _ _ _ H rfl HR.out HLEN.out HZ.out ?_;intro v3 w3 ho3 hb3;have O3:=hid ho3;have B3:=hid hb3;clear ho3 hb3)
  | fail)
 go_ret;exact⟨_,rfl,O3.out,(((Run.refl vb w).alloc _).quiet HB.out).trans B3.out⟩
theorem Qnb(nd cd N cl base:Nat)(A AL:OA)(d:LB)(vb:Value)(lb:LB)(w:World)(hnd:nd≤140737488355328)(hrd:Rd w base A nd d)(hbase:base≤w.heap.size)(hlen:lb.length+(hd 2 d.length++d).length≤140737488355328)(ho:Ob w base 5 vb lb) :
  Calls Tryz.prog 121 #[vb,.agg #[.int .i64 2,.int .u64 0,.slice A nd cd,.slice AL N cl]] w (Qjb 5 base vb (lb++(hd 2 d.length++d)) w):=by
 rw[hrd.1] at hlen ⊢
 have C1:=hid (fun W=>Qen 2 nd W (by decide) (by omega));rw[Qym 2 nd (by decide) (by decide),show(2:Int).toNat=2 from rfl] at C1
 have HO:=hid (ho.alloc (zo1 2 0 A nd cd AL N cl));have HAP:=hid ho.apart;have HRD:=hid (hrd.alloc hbase (zo1 2 0 A nd cd AL N cl));have hdl:=hrd.1;rw[List.length_append,hdl] at hlen
 generalize hd 2 nd=H at *;have HLEN:=hid hlen;have HBS:=hid hbase;clear ho hlen hbase hrd hdl;go_enter Tryz.func121,Tryz.ntmps121;go_wp2_with fail;refine(C1.out _).mono ?_;rintro e w1 ⟨v,rfl,ho1,hb1⟩;obtain⟨A2,c2,rfl,hc2,hm2,hr2⟩:=ho1.rd;have HR:=hid hr2;have HB:=hid hb1;have hz1:w.heap.size+1≤w1.heap.size:=by have:=hb1.size;simpa using this
 have HZ:=hid (Nat.le_trans HBS.out (Nat.le_of_succ_le hz1));have HZ1:=hid hz1;have q2:w1.cell? ⟨w.heap.size,2,none⟩=some (.slice A nd cd):=(hb1.cell (p:=⟨w.heap.size,2,none⟩) (by simp)).trans (by simp);clear ho1 hr2 hb1 hz1;go_wp2_with (first
  | (at_builtin;refine Qav rfl (.tmp 19) (.tmp 26) 29 rfl base 5 Tryz.underlying29 Qak vb lb rfl (HO.out.below HB.out) _ _ _ _ H rfl HR.out (by have:=HLEN.out;omega) HZ.out ?_;intro v3 w3 ho3 hb3;have O3:=hid ho3;have B3:=hid hb3;have q3:=(hb3.cell (p:=⟨w.heap.size,2,none⟩) HZ1.out HAP.out).trans q2;clear ho3 hb3 q2)
  | (at_builtin;refine Qav rfl (.tmp 28) (.tmp 30) 29 rfl base 5 Tryz.underlying29 Qak v3 (lb++H) rfl O3.out base A nd cd d rfl ((HRD.out.below (HB.out.mono (Nat.le_trans HBS.out (Qaa _ _)))).below (B3.out.below (HO.out.below HB.out) HZ.out)) (by have:=HLEN.out;rw[List.length_append];omega) (Nat.le_trans HZ.out B3.out.grown.size) ?_;intro v4 w4 ho4 hb4;have O4:=hid ho4;have B4:=hid hb4;clear ho4 hb4)
  | fail)
 go_ret;exact⟨_,rfl,by rw[← List.append_assoc];exact O4.out,((((Run.refl vb w).alloc _).quiet HB.out).trans B3.out).trans B4.out⟩
theorem Qna(nd cd N cl base:Nat)(A AL:OA)(d:LB)(vb:Value)(lb:LB)(w:World)(hnd:nd≤140737488355328)(hrd:Rd w base A nd d)(hbase:base≤w.heap.size)(hlen:lb.length+(hd 3 d.length++d).length≤140737488355328)(ho:Ob w base 5 vb lb) :
  Calls Tryz.prog 121 #[vb,.agg #[.int .i64 3,.int .u64 0,.slice A nd cd,.slice AL N cl]] w (Qjb 5 base vb (lb++(hd 3 d.length++d)) w):=by
 rw[hrd.1] at hlen ⊢
 have C1:=hid (fun W=>Qen 3 nd W (by decide) (by omega));rw[Qym 3 nd (by decide) (by decide),show(3:Int).toNat=3 from rfl] at C1
 have HO:=hid (ho.alloc (zo1 3 0 A nd cd AL N cl));have HAP:=hid ho.apart;have HRD:=hid (hrd.alloc hbase (zo1 3 0 A nd cd AL N cl));have hdl:=hrd.1;rw[List.length_append,hdl] at hlen
 generalize hd 3 nd=H at *;have HLEN:=hid hlen;have HBS:=hid hbase;clear ho hlen hbase hrd hdl;go_enter Tryz.func121,Tryz.ntmps121;go_wp2_with fail;refine(C1.out _).mono ?_;rintro e w1 ⟨v,rfl,ho1,hb1⟩;obtain⟨A2,c2,rfl,hc2,hm2,hr2⟩:=ho1.rd;have HR:=hid hr2;have HB:=hid hb1;have hz1:w.heap.size+1≤w1.heap.size:=by have:=hb1.size;simpa using this
 have HZ:=hid (Nat.le_trans HBS.out (Nat.le_of_succ_le hz1));have HZ1:=hid hz1;have q2:w1.cell? ⟨w.heap.size,2,none⟩=some (.slice A nd cd):=(hb1.cell (p:=⟨w.heap.size,2,none⟩) (by simp)).trans (by simp);clear ho1 hr2 hb1 hz1;go_wp2_with (first
  | (at_builtin;refine Qav rfl (.tmp 19) (.tmp 26) 29 rfl base 5 Tryz.underlying29 Qak vb lb rfl (HO.out.below HB.out) _ _ _ _ H rfl HR.out (by have:=HLEN.out;omega) HZ.out ?_;intro v3 w3 ho3 hb3;have O3:=hid ho3;have B3:=hid hb3;have q3:=(hb3.cell (p:=⟨w.heap.size,2,none⟩) HZ1.out HAP.out).trans q2;clear ho3 hb3 q2)
  | (at_builtin;refine Qav rfl (.tmp 28) (.tmp 30) 29 rfl base 5 Tryz.underlying29 Qak v3 (lb++H) rfl O3.out base A nd cd d rfl ((HRD.out.below (HB.out.mono (Nat.le_trans HBS.out (Qaa _ _)))).below (B3.out.below (HO.out.below HB.out) HZ.out)) (by have:=HLEN.out;rw[List.length_append];omega) (Nat.le_trans HZ.out B3.out.grown.size) ?_;intro v4 w4 ho4 hb4;have O4:=hid ho4;have B4:=hid hb4;clear ho4 hb4)
  | fail)
 go_ret;exact⟨_,rfl,by rw[← List.append_assoc];exact O4.out,((((Run.refl vb w).alloc _).quiet HB.out).trans B3.out).trans B4.out⟩
theorem Qpa(m nd cd N cl base:Nat)(A AL:OA)(l:List Itm)(vb:Value)(lb:LB)(w:World)(hm:Qa5 l<m)(hbase:base≤w.heap.size)(hlen:lb.length+(hd 4 N++wrs l).length≤140737488355328)(hrt:Qan l=true)(h5:N≤cl∧N≤140737488355328)
  (IH:Hid (Qhs m)) (H7:0<N→∃ b o,AL=some ⟨b,o,none⟩∧b<base∧RdIs w base b o l) (HL:Hid (l.length=N)) (ho:Ob w base 5 vb lb) :
  Calls Tryz.prog 121 #[vb,.agg #[.int .i64 4,.int .u64 0,.slice A nd cd,.slice AL N cl]] w (Qjb 5 base vb (lb++(hd 4 N++wrs l)) w):=by
 have C1:=hid (fun W=>Qen 4 N W (by decide) (by omega));rw[Qym 4 N (by decide) (by decide),show(4:Int).toNat=4 from rfl] at C1
 have HO:=hid (ho.alloc (zo1 4 0 A nd cd AL N cl));have HAP:=hid ho.apart;rw[List.length_append] at hlen
 generalize hd 4 N=H at *;have HO0:=hid ho;have C2:=hid (fun (W:World) v (hr:Run vb w v W) (ho:Ob W base 5 v (lb++H))=>have hb:=hr.below HO0.out hbase;Qnc m N cl base AL l v (lb++H) W hm (Nat.le_trans hbase hb.size) (by rw[List.length_append];omega) hrt h5 IH (fun h0=>by
  obtain⟨b,o,ea,hb2,hs⟩:=H7 h0;exact⟨b,o,ea,hb2,hs.below hb2 hb⟩) HL ho)
 generalize wrs l=L at *;have HLEN:=hid hlen;have HBS:=hid hbase;clear ho hlen hbase H7 hm hrt;go_enter Tryz.func121,Tryz.ntmps121;go_wp2_with fail;refine(C1.out _).mono ?_;rintro e w1 ⟨v,rfl,ho1,hb1⟩;obtain⟨A2,c2,rfl,hc2,hm2,hr2⟩:=ho1.rd;have HR:=hid hr2;have HB:=hid hb1;have hz1:w.heap.size+1≤w1.heap.size:=by have:=hb1.size;simpa using this
 have HZ:=hid (Nat.le_trans HBS.out (Nat.le_of_succ_le hz1));have HZ1:=hid hz1;have q2:w1.cell? ⟨w.heap.size,3,none⟩=some (.slice AL N cl):=(hb1.cell (p:=⟨w.heap.size,3,none⟩) (by simp)).trans (by simp);clear ho1 hr2 hb1 hz1;go_wp2_with (first
  | (at_builtin;refine Qav rfl (.tmp 43) (.tmp 50) 29 rfl base 5 Tryz.underlying29 Qak vb lb rfl (HO.out.below HB.out) _ _ _ _ H rfl HR.out (by have:=HLEN.out;omega) HZ.out ?_;intro v3 w3 ho3 hb3;have O3:=hid ho3;have B3:=hid ((((Run.refl vb w).alloc _).quiet HB.out).trans hb3);have q3:=(hb3.cell (p:=⟨w.heap.size,3,none⟩) HZ1.out HAP.out).trans q2;clear ho3 hb3 q2)
  | fail)
 refine(C2.out _ _ B3.out O3.out).mono ?_;rintro e w4 ⟨v4,rfl,ho4,hb4⟩;have O4:=hid ho4;have B4:=hid (B3.out.trans hb4);clear ho4 hb4;go_wp2_with fail;go_ret;exact⟨_,rfl,by rw[← List.append_assoc];exact O4.out,B4.out⟩
theorem Qo9(m nd cd N cl base:Nat)(A AL:OA)(l:List Itm)(vb:Value)(lb:LB)(w:World)(hm:Qa5 l<m)(hbase:base≤w.heap.size)(hlen:lb.length+(0x9f::(wrs l++[0xff])).length≤140737488355328)(hrt:Qan l=true)(h5:N≤cl∧N≤140737488355328)
  (IH:Hid (Qhs m)) (H7:0<N→∃ b o,AL=some ⟨b,o,none⟩∧b<base∧RdIs w base b o l) (HL:Hid (l.length=N)) (ho:Ob w base 5 vb lb) :
  Calls Tryz.prog 121 #[vb,.agg #[.int .i64 5,.int .u64 0,.slice A nd cd,.slice AL N cl]] w (Qjb 5 base vb (lb++(0x9f::(wrs l++[0xff]))) w):=by
 obtain⟨H,hH⟩:∃ H:LB,H=[0x9f]:=⟨_,rfl⟩
 have eq:lb++(0x9f::(wrs l++[0xff]))=(lb++H++wrs l)++[0xff]:=by rw[hH];simp
 have hH1:H.length=1:=by rw[hH];rfl
 rw[eq]
 simp only[List.length_cons,List.length_append,List.length_nil] at hlen;have HO:=hid (ho.alloc (zo1 5 0 A nd cd AL N cl));have HAP:=hid ho.apart;have HH:=hid hH;have HO0:=hid ho;have C2:=hid (fun (W:World) v (hr:Run vb w v W) (ho:Ob W base 5 v (lb++H))=>have hb:=hr.below HO0.out hbase;Qnc m N cl base AL l v (lb++H) W hm (Nat.le_trans hbase hb.size) (by rw[List.length_append];omega) hrt h5 IH (fun h0=>by
  obtain⟨b,o,ea,hb2,hs⟩:=H7 h0;exact⟨b,o,ea,hb2,hs.below hb2 hb⟩) HL ho)
 have HL1:=hid hH1;generalize wrs l=L at *;have HLEN:=hid hlen;have HBS:=hid hbase;clear ho hlen hbase H7 hm hrt hH hH1 eq;go_enter Tryz.func121,Tryz.ntmps121;go_wp2_with fail;have f3:(w.alloc (zo1 5 0 A nd cd AL N cl)).cell? ⟨w.heap.size,3,none⟩=some (.slice AL N cl):=by simp
 have FZ:Hid ((w.alloc (zo1 5 0 A nd cd AL N cl)).heap.size=w.heap.size+1):=(by simp:_=_)
 have FB:=hid ((Run.refl vb w).alloc (zo1 5 0 A nd cd AL N cl));generalize w.alloc (zo1 5 0 A nd cd AL N cl)=W0 at *;have hzl:w.heap.size<W0.heap.size:=by rw[FZ.out];exact Nat.lt_succ_self _
 have hzb:base≤W0.heap.size:=Nat.le_trans HBS.out (Nat.le_of_lt hzl);have HZL:=hid hzl;have HZB:=hid hzb;have FA:=hid (fun (o:Obj)=>(World.cell?_alloc_lt W0.drew o ⟨w.heap.size,3,none⟩ hzl).trans f3);clear hzl hzb;go_region_held3 (fun W=>W.cell? ⟨w.heap.size,3,none⟩=some (.slice AL N cl))
  (first
   | (exact f3)
   | (exact FA.out _)
   | (exact q4)
   | (exact q3)
   | fail)
  (first
   | (go_at_call 146;refine(C2.out _ _ B3.out O3.out).mono ?_;rintro e w4 ⟨v4,rfl,ho4,hb4⟩;have O4:=hid ho4;have B4:=hid (B3.out.trans hb4);have q4:=(hb4.cell (p:=⟨w.heap.size,3,none⟩) N3.out.1 N3.out.2).trans q3;clear ho4 hb4)
   | (refine Ql2 (by rfl) (.tmp 34) (.tmp 35) 29 (by rfl) base 5 Tryz.underlying29 Qak vb lb (by rfl) (HO.out.drew.alloc _) (W0.heap.size+1) (some ⟨W0.heap.size,0,none⟩) 1 1 H (by rfl) (Rd.lit W0.drew _ (by simp) H 5 #[.int .u8 159] (by rw[HH.out];rfl) 1 HL1.out) (by have:=HLEN.out;omega) (Nat.le_trans HZB.out (Qaa W0.drew _)) ?_;intro v3 w3 ho3 hb3;have O3:=hid ho3;have B3:=hid ((FB.out.drew.alloc _).trans hb3);have q3:=(hb3.cell (p:=⟨w.heap.size,3,none⟩) (Nat.lt_of_lt_of_le HZL.out (Qaa W0.drew _)) HAP.out).trans (FA.out _);have N3:=hid (And.intro (Nat.lt_of_lt_of_le (Nat.lt_of_lt_of_le HZL.out (Qaa W0.drew _)) hb3.grown.size) (hb3.ne (k:=w.heap.size) (Nat.lt_of_lt_of_le HZL.out (Qaa W0.drew _)) HAP.out));clear ho3 hb3)
   | fail)
 have HZ4:=hid (Nat.le_trans HBS.out B4.out.grown.size);go_wp2_with (first
  | (at_builtin;refine Qav rfl (.tmp 40) (.tmp 41) 29 rfl base 5 Tryz.underlying29 Qak v4 (lb++H++L) rfl (O4.out.alloc _) (w4.heap.size+1) (some ⟨w4.heap.size,0,none⟩) 1 1 [255] rfl (Rd.lit w4 _ rfl [255] 5 #[.int .u8 255] rfl 1 rfl) (by have:=HLEN.out;have:=HL1.out;simp only[List.length_append];omega) (Nat.le_trans HZ4.out (Qaa _ _)) ?_;intro v5 w5 ho5 hb5;have O5:=hid ho5;have B5:=hid ((B4.out.alloc _).trans hb5);clear ho5 hb5)
  | fail)
 go_ret;exact⟨_,rfl,O5.out,B5.out⟩
theorem Q3z{k:Int}{n:Nat}{d:LB}{l:List Itm}(h:own k n d l=true):(k=0∧d=[]∧l=[])∨((k=2∨k=3)∧n=0∧l=[])∨((k=4∨k=5)∧n=0∧d=[]):=by
 unfold own at h;by_cases h0:k=0
 ·
  rw[if_pos h0] at h;simp at h;exact .inl ⟨h0,h.1,h.2⟩
 rw[if_neg h0] at h
 by_cases h2:k=2
 ·
  rw[if_pos h2] at h;simp at h;exact .inr (.inl ⟨.inl h2,h.1,h.2⟩)
 rw[if_neg h2] at h
 by_cases h3:k=3
 ·
  rw[if_pos h3] at h;simp at h;exact .inr (.inl ⟨.inr h3,h.1,h.2.1⟩)
 rw[if_neg h3] at h
 by_cases h4:k=4∨k=5
 ·
  rw[if_pos h4] at h;simp at h;exact .inr (.inr ⟨h4,h.1,h.2⟩)
 ·
  rw[if_neg h4] at h;cases h
theorem Qqr:∀ m:Nat,Qhs m
 | 0=>fun _ _ _ _ _ _ h=>absurd h (Nat.not_lt_zero _)
 | m+1=>by
  rintro ⟨k,n,d,l⟩ v vb lb w base hm hr hlen hbase h ho;have IH:=hid (Qqr m);obtain⟨A,nd,cd,AL,cl,rfl,h1,h2,h3,h4,h5,h7⟩:=h.open;rw[Qbd,Bool.and_eq_true] at hr
  rw[par] at hm
  rcases Q3z hr.1 with ⟨rfl,rfl,rfl⟩|⟨hk,rfl,rfl⟩|⟨hk,rfl,rfl⟩
  ·
   rw[wri,if_pos rfl] at hlen ⊢
   exact Qo8 n nd cd _ cl base A AL vb lb w h2 hbase hlen ho
  ·
   rcases hk with rfl|rfl
   ·
    rw[wri,if_neg (by decide),if_pos (by decide)] at hlen ⊢
    exact Qnb nd cd _ cl base A AL d vb lb w h3.2 h4 hbase hlen ho
   ·
    rw[wri,if_neg (by decide),if_pos (by decide)] at hlen ⊢
    exact Qna nd cd _ cl base A AL d vb lb w h3.2 h4 hbase hlen ho
  ·
   rcases hk with rfl|rfl
   ·
    rw[wri,if_neg (by decide),if_neg (by decide),if_pos rfl] at hlen ⊢
    exact Qpa m nd cd l.length cl base A AL l vb lb w (by omega) hbase hlen hr.2 h5 IH h7 rfl ho
   ·
    rw[wri,if_neg (by decide),if_neg (by decide),if_neg (by decide)] at hlen ⊢
    exact Qo9 m nd cd l.length cl base A AL l vb lb w (by omega) hbase hlen hr.2 h5 IH h7 rfl ho
open Go.RowKit Go.Extern.Stop Go.Stop Go.Extern
open Go.RowKit Go.Extern.Stop Go.Stop Go.Extern
section
variable {n:Nat}
def stp(p c:BitVec n):BitVec n:=if c.getLsbD 0 then (c >>> 1) ^^^ p else c >>> 1
def Qth(p:BitVec n):Nat→BitVec n→BitVec n
 | 0,c=>c
 | k+1,c=>Qth p k (stp p c)
def b1(n:Nat)(b:Bool):BitVec n:=if b then 1#n else 0#n
def byt(p c:BitVec n)(x:UInt8):BitVec n:=Qth p 8 (c ^^^ BitVec.ofNat n x.toNat)
def fB(p c:BitVec n)(l:LB):BitVec n:=l.foldl (byt p) c
theorem Qvu(p c:BitVec n)(l m:LB):fB p c (l++m)=fB p (fB p c l) m:=by simp[fB,List.foldl_append]
theorem Q0x(p c:BitVec n)(l:LB)(x:UInt8):fB p c (l++[x])=byt p (fB p c l) x:=by rw[Qvu];rfl
end
def p16:BitVec 16:=0x8408#16
def p32:BitVec 32:=0x82f63b78#32
def s16(l:LB):BitVec 16 := ~~~ fB p16 0xffff#16 l
def s32(l:LB):BitVec 32 := ~~~ fB p32 0xffffffff#32 l
theorem Qcf{n:Nat}(p:BitVec n):∀ (k:Nat) (c:BitVec n),Qth p (k+1) c=stp p (Qth p k c)
 | 0,_=>rfl
 | k+1,c=>by rw[Qth,Qcf p k,← Qth]
theorem Qhd{n:Nat}(p c:BitVec n)(h:c.toNat % 2=0):(stp p c).toNat=c.toNat / 2:=by
 have e:c.getLsbD 0=false:=by simp[BitVec.getLsbD,Nat.testBit_zero,h]
 unfold stp;rw[if_neg (by rw[e];simp),BitVec.toNat_ushiftRight,Nat.shiftRight_eq_div_pow]
theorem Qtg{n:Nat}(p c:BitVec n)(h:c.toNat % 2=1):(stp p c).toNat=c.toNat / 2 ^^^ p.toNat:=by
 have e:c.getLsbD 0=true:=by simp[BitVec.getLsbD,Nat.testBit_zero,h]
 unfold stp;rw[if_pos e,BitVec.toNat_xor,BitVec.toNat_ushiftRight,Nat.shiftRight_eq_div_pow]
theorem Qlc(l:LB)(n:Nat)(p c:BitVec n)(k:Nat)(h:k<l.length):fB p c (l.take (k+1))=Qth p 8 (fB p c (l.take k) ^^^ BitVec.ofNat n (l.getD k 0).toNat):=by
 rw[Qdb l k h,Q0x];rfl
theorem Qzk(d:BitVec 16)(x:UInt8):Value.int .u16 (bits BinOp.xor .u16 (d.toNat:Int) (x.toNat:Int))=.int .u16 ((d ^^^ BitVec.ofNat 16 x.toNat).toNat:Int):=by
 have h1:=d.isLt;have h2:=x.toNat_lt;rw[u16_xor_nat _ _ h1 (by omega),BitVec.toNat_xor,BitVec.toNat_ofNat,Nat.mod_eq_of_lt (by omega)]
theorem Qzj(d:BitVec 32)(x:UInt8):Value.int .u32 (bits BinOp.xor .u32 (d.toNat:Int) (x.toNat:Int))=.int .u32 ((d ^^^ BitVec.ofNat 32 x.toNat).toNat:Int):=by
 have h1:=d.isLt;have h2:=x.toNat_lt;rw[u32_xor_nat _ _ h1 (by omega),BitVec.toNat_xor,BitVec.toNat_ofNat,Nat.mod_eq_of_lt (by omega)]
theorem Qy8(f:BitVec 16)(h:f.toNat % 2=1):Value.int .u16 (bits BinOp.xor .u16 ((f.toNat:Int) / 2) 33800)=.int .u16 ((stp p16 f).toNat:Int):=by
 have h1:=f.isLt;have e:=u16_xor_nat (f.toNat / 2) 33800 (by omega) (by decide);rw[Qtg _ _ h,show p16.toNat=33800 from rfl,← e]
 rfl
theorem Qy7(f:BitVec 32)(h:f.toNat % 2=1):Value.int .u32 (bits BinOp.xor .u32 ((f.toNat:Int) / 2) 2197175160)=.int .u32 ((stp p32 f).toNat:Int):=by
 have h1:=f.isLt;have e:=u32_xor_nat (f.toNat / 2) 2197175160 (by omega) (by decide);rw[Qtg _ _ h,show p32.toNat=2197175160 from rfl,← e]
 rfl
theorem Q33(d:BitVec 16):Ending.returned (.int .u16 (65535 - (d.toNat:Int)))=.returned (.int .u16 ((~~~ d).toNat:Int)):=by
 have h:=d.isLt;rw[BitVec.toNat_not]
 exact Qgk (by omega)
theorem Q32(d:BitVec 32):Ending.returned (.int .u32 (4294967295 - (d.toNat:Int)))=.returned (.int .u32 ((~~~ d).toNat:Int)):=by
 have h:=d.isLt;rw[BitVec.toNat_not]
 exact Qgk (by omega)
theorem Qrf(A:OA)(n c B:Nat)(l:LB)(w:World)(h:Rd w B A n l)(hn:n≤140737488355328) :
  Calls Tryz.prog 105 #[.slice A n c] w fun e w'=>e=.returned (.int .u16 ((s16 l).toNat:Int))∧w=w':=by
 have HR:=hid h;clear h;go_enter Tryz.func105,Tryz.ntmps105;go_wp2
 go_loop [3,4] (fun v i=>∃ (k:Nat) (d:BitVec 16),k≤n∧i=.int .i64 k∧v=.int .u16 (d.toNat:Int)∧Hid (d=fB p16 0xffff#16 (l.take k))) (fun _ i=>n - (intOf i).toNat)
 case atStart=>exact⟨0,0xffff#16,Nat.zero_le _,rfl,rfl,rfl⟩
 case round =>
  obtain⟨k,d,hk,rfl,rfl,hd⟩:=hrel;by_cases hlt:k<n
  ·
   obtain⟨b,o,rfl,hb,hcell⟩:=HR.out.2 (by omega);obtain⟨x,hx⟩:∃ x,x=l.getD k 0:=⟨_,rfl⟩
   have hcx:w.cell? ⟨b,o+k,none⟩=some (.int .u8 (x.toNat:Int)):=by rw[hx];exact hcell k hlt
   have Hx:=hid hx;clear hx hcell;have hx1:(x.toNat:Int)<256:=by have:=x.toNat_lt;omega
   have hx0:(0:Int)≤(x.toNat:Int):=by omega
   have hd1:(d.toNat:Int)<65536:=by have:=d.isLt;omega
   go_wp2_with fail;clear hx0 hx1 hd1;go_loop [3,5] (fun v i=>∃ (j:Nat) (f:BitVec 16),j≤8∧i=.int .i64 j∧v=.int .u16 (f.toNat:Int)∧Hid (f=Qth p16 j (d ^^^ BitVec.ofNat 16 x.toNat))) (fun _ i=>8 - (intOf i).toNat)
   case atStart=>exact⟨0,d ^^^ BitVec.ofNat 16 x.toNat,by omega,rfl,Qzk d x,rfl⟩
   case round =>
    obtain⟨j,f,hj,rfl,rfl,hf⟩:=hrel;by_cases hj8:j<8
    ·
     obtain⟨F,hF⟩:∃ F,F=f.toNat:=⟨_,rfl⟩
     have hf1:F<65536:=by have:=f.isLt;omega
     rw[← hF]
     have HF:=hid hF;clear hF;rcases Nat.mod_two_eq_zero_or_one F with he|he
     ·
      have ht:((F:Int) % 2==1)=false:=by simp;omega
      have HE:=hid he;clear he;go_wp2_with fail;go_round
      case rel=>exact⟨j+1,stp p16 f,by omega,by go_num,by rw[Qhd _ _ (by rw[← HF.out];exact HE.out),← HF.out];rfl,by show _=_;rw[Qcf,← hf.out]⟩
      case measure=>simp[intOf];omega
     ·
      have ht:((F:Int) % 2==1)=true:=by simp;omega
      have HE:=hid he;clear he;go_wp2_with fail;go_round
      case rel=>exact⟨j+1,stp p16 f,by omega,by go_num,by rw[HF.out];exact Qy8 f (by rw[← HF.out];exact HE.out),by show _=_;rw[Qcf,← hf.out]⟩
      case measure=>simp[intOf];omega
    ·
     obtain rfl:j=8:=by omega
     go_wp2_with fail;go_round
     case rel =>
      refine⟨k+1,f,by omega,by go_num,rfl,?_⟩;show f=_;rw[Qlc l 16 _ _ k (by have:=HR.out.1;omega),← hd.out,← Hx.out]
      exact hf.out
     case measure=>simp[intOf];omega
  ·
   obtain rfl:k=n:=by omega
   have hl:=HR.out.1;have hfin:s16 l = ~~~ d:=by rw[hd.out,List.take_of_length_le (by omega)];rfl
   have HF:=hid hfin;have hd1:(d.toNat:Int)<65536:=by have:=d.isLt;omega
   clear hfin hl;go_wp2_with fail;go_ret;exact⟨by rw[HF.out];exact Q33 d,rfl⟩
theorem Qtu(A:OA)(n c B:Nat)(l:LB)(w:World)(h:Rd w B A n l)(hn:n≤140737488355328) :
  Calls Tryz.prog 106 #[.slice A n c] w fun e w'=>e=.returned (.int .u32 ((s32 l).toNat:Int))∧w=w':=by
 have HR:=hid h;clear h;go_enter Tryz.func106,Tryz.ntmps106;go_wp2
 go_loop [3,4] (fun v i=>∃ (k:Nat) (d:BitVec 32),k≤n∧i=.int .i64 k∧v=.int .u32 (d.toNat:Int)∧Hid (d=fB p32 0xffffffff#32 (l.take k))) (fun _ i=>n - (intOf i).toNat)
 case atStart=>exact⟨0,0xffffffff#32,Nat.zero_le _,rfl,rfl,rfl⟩
 case round =>
  obtain⟨k,d,hk,rfl,rfl,hd⟩:=hrel;by_cases hlt:k<n
  ·
   obtain⟨b,o,rfl,hb,hcell⟩:=HR.out.2 (by omega);obtain⟨x,hx⟩:∃ x,x=l.getD k 0:=⟨_,rfl⟩
   have hcx:w.cell? ⟨b,o+k,none⟩=some (.int .u8 (x.toNat:Int)):=by rw[hx];exact hcell k hlt
   have Hx:=hid hx;clear hx hcell;have hx1:(x.toNat:Int)<256:=by have:=x.toNat_lt;omega
   have hx0:(0:Int)≤(x.toNat:Int):=by omega
   have hd1:(d.toNat:Int)<4294967296:=by have:=d.isLt;omega
   go_wp2_with fail;clear hx0 hx1 hd1;go_loop [3,5] (fun v i=>∃ (j:Nat) (f:BitVec 32),j≤8∧i=.int .i64 j∧v=.int .u32 (f.toNat:Int)∧Hid (f=Qth p32 j (d ^^^ BitVec.ofNat 32 x.toNat))) (fun _ i=>8 - (intOf i).toNat)
   case atStart=>exact⟨0,d ^^^ BitVec.ofNat 32 x.toNat,by omega,rfl,Qzj d x,rfl⟩
   case round =>
    obtain⟨j,f,hj,rfl,rfl,hf⟩:=hrel;by_cases hj8:j<8
    ·
     obtain⟨F,hF⟩:∃ F,F=f.toNat:=⟨_,rfl⟩
     have hf1:F<4294967296:=by have:=f.isLt;omega
     rw[← hF]
     have HF:=hid hF;clear hF;rcases Nat.mod_two_eq_zero_or_one F with he|he
     ·
      have ht:((F:Int) % 2==1)=false:=by simp;omega
      have HE:=hid he;clear he;go_wp2_with fail;go_round
      case rel=>exact⟨j+1,stp p32 f,by omega,by go_num,by rw[Qhd _ _ (by rw[← HF.out];exact HE.out),← HF.out];rfl,by show _=_;rw[Qcf,← hf.out]⟩
      case measure=>simp[intOf];omega
     ·
      have ht:((F:Int) % 2==1)=true:=by simp;omega
      have HE:=hid he;clear he;go_wp2_with fail;go_round
      case rel=>exact⟨j+1,stp p32 f,by omega,by go_num,by rw[HF.out];exact Qy7 f (by rw[← HF.out];exact HE.out),by show _=_;rw[Qcf,← hf.out]⟩
      case measure=>simp[intOf];omega
    ·
     obtain rfl:j=8:=by omega
     go_wp2_with fail;go_round
     case rel =>
      refine⟨k+1,f,by omega,by go_num,rfl,?_⟩;show f=_;rw[Qlc l 32 _ _ k (by have:=HR.out.1;omega),← hd.out,← Hx.out]
      exact hf.out
     case measure=>simp[intOf];omega
  ·
   obtain rfl:k=n:=by omega
   have hl:=HR.out.1;have hfin:s32 l = ~~~ d:=by rw[hd.out,List.take_of_length_le (by omega)];rfl
   have HF:=hid hfin;have hd1:(d.toNat:Int)<4294967296:=by have:=d.isLt;omega
   clear hfin hl;go_wp2_with fail;go_ret;exact⟨by rw[HF.out];exact Q32 d,rfl⟩
def Qbb(kind:Int)(l:LB):LB:=if kind=1 then be (s16 l).toNat 2 else if kind=2 then be (s32 l).toNat 4 else []
theorem be2(v:Nat):be v 2=[UInt8.ofNat (v / 256),UInt8.ofNat v]:=by simp[be,List.range_succ]
theorem be4(v:Nat):be v 4=[UInt8.ofNat (v / 16777216),UInt8.ofNat (v / 65536),UInt8.ofNat (v / 256),UInt8.ofNat v]:=by simp[be,List.range_succ]
theorem Q3g(v:Nat):Value.int .u8 (v % 256:Int)=.int .u8 ((UInt8.ofNat v).toNat:Int):=by rw[UInt8.toNat_ofNat'];rfl
theorem Quq(v:Nat)(h:v<256):Value.int .u8 (v:Int)=.int .u8 ((UInt8.ofNat v).toNat:Int):=by rw[UInt8.toNat_ofNat',Nat.mod_eq_of_lt h]
theorem Qm4(w:World):Qno [] w (.returned (.slice none 0 0)) w:=⟨none,0,0,rfl,Rd.nil_,Nat.le_refl _,Below.refl _ _⟩
theorem Qf5(w:World)(t:TypeId)(l:LB)(cs:Array Value)(n:Nat)(hn:l.length=n)(hcs:cs=(l.map fun x=>Value.int .u8 (x.toNat:Int)).toArray) :
  Qno l w (.returned (.slice (some ⟨w.heap.size,0,none⟩) n n)) (w.alloc (.cells cs t)) :=
 ⟨_,n,n,rfl,(Rd.lit w _ rfl l t cs hcs n hn).more (by simp),Nat.le_refl _,zb⟩
theorem cs2(v:Nat)(h:v<65536):#[Value.int .u8 ((v:Int) / 256),.int .u8 ((v:Int) % 256)]=(([UInt8.ofNat (v / 256),UInt8.ofNat v]:LB).map fun x=>Value.int .u8 (x.toNat:Int)).toArray:=by
 rw[Q3g v,show(v:Int) / 256=((v / 256:Nat):Int) from rfl,Quq (v / 256) (by omega)]
 rfl
theorem cs4(v:Nat)(h:v<4294967296):#[Value.int .u8 ((v:Int) / 16777216),.int .u8 ((v:Int) / 65536 % 256),.int .u8 ((v:Int) / 256 % 256),.int .u8 ((v:Int) % 256)] =
  (([UInt8.ofNat (v / 16777216),UInt8.ofNat (v / 65536),UInt8.ofNat (v / 256),UInt8.ofNat v]:LB).map fun x=>Value.int .u8 (x.toNat:Int)).toArray:=by
 rw[Q3g v,show(v:Int) / 256=((v / 256:Nat):Int) from rfl,show(v:Int) / 65536=((v / 65536:Nat):Int) from rfl,show(v:Int) / 16777216=((v / 16777216:Nat):Int) from rfl,
  Q3g (v / 256),Q3g (v / 65536),Quq (v / 16777216) (by omega)]
 rfl
theorem Qpc(kind:Int)(A:OA)(n c B:Nat)(l:LB)(w:World)(h:Rd w B A n l)(hn:n≤140737488355328) :
  Calls Tryz.prog 65 #[.int .i64 kind,.slice A n c] w (Qno (Qbb kind l) w):=by
 have c1:=Qrf A n c B l w h hn;have c2:=Qtu A n c B l w h hn;have v1:=(s16 l).isLt;have v2:=(s32 l).isLt;clear h;by_cases h1:kind=1
 ·
  subst h1;rw[show Qbb 1 l=be (s16 l).toNat 2 from rfl,be2]
  generalize (s16 l).toNat=v at *;have C1:=hid c1;clear c1 c2;go_enter Tryz.func65,Tryz.ntmps65;go_wp2_with fail;refine C1.out.mono ?_;rintro e w' ⟨rfl,rfl⟩;go_wp2_with fail;go_ret;exact Qf5 w _ _ _ 2 rfl (cs2 v v1)
 ·
  by_cases h2:kind=2
  ·
   subst h2;rw[show Qbb 2 l=be (s32 l).toNat 4 from rfl,be4]
   generalize (s32 l).toNat=v at *;have C2:=hid c2;clear c1 c2;go_enter Tryz.func65,Tryz.ntmps65;go_wp2_with fail;refine C2.out.mono ?_;rintro e w' ⟨rfl,rfl⟩;go_wp2_with fail;go_ret;exact Qf5 w _ _ _ 4 rfl (cs4 v v2)
  ·
   rw[show Qbb kind l=[] by unfold Qbb;rw[if_neg h1,if_neg h2]]
   have e1:(kind==1)=false:=by simpa using h1
   have e2:(kind==2)=false:=by simpa using h2
   clear h1 h2 c1 c2;go_enter Tryz.func65,Tryz.ntmps65;go_wp2_with fail;go_ret;exact Qm4 w
structure Blk where
 typ:Nat
 num:Nat
 flg:Nat
 crc:Int
 dat:LB
def Blk.zero:Blk:=⟨0,0,0,0,[]⟩
def Qdj(b:Blk):Bool:=decide (1≤b.typ∧b.typ≤255)&&(decide (b.num≠0)&&((decide (b.typ≠1)||decide (b.num=1))&&(decide (0≤b.crc∧b.crc≤2)&&decide (b.dat.length≤4096))))
theorem Qeu{b:Blk}:Qdj b=true↔(1≤b.typ∧b.typ≤255)∧b.num≠0∧(b.typ≠1∨b.num=1)∧(0≤b.crc∧b.crc≤2)∧b.dat.length≤4096:=by
 unfold Qdj;simp[Bool.and_eq_true,Bool.or_eq_true]
def Bd(b:Blk):Prop:=b.typ<18446744073709551616∧b.num<18446744073709551616∧b.flg<18446744073709551616
def Qgx(k:Int):Nat:=if k=1 then 2 else if k=2 then 4 else 0
theorem Qh0(k:Int):Qgx k≤4:=by unfold Qgx;repeat' (split <;> try omega)
theorem Qdm(k:Int)(l:LB):(Qbb k l).length=Qgx k:=by
 unfold Qbb Qgx;split
 ·
  rw[Qa9]
 ·
  split
  ·
   rw[Qa9]
  ·
   rfl
def Qic(b:Blk):List Itm:=[.mk 0 b.typ [] [],.mk 0 b.num [] [],.mk 0 b.flg [] [],.mk 0 b.crc.toNat [] [],.mk 2 0 b.dat []]
def Qze(b:Blk)(s:LB):Itm:=.mk 4 0 [] (Qic b++if b.crc=0 then [] else [.mk 2 0 s []])
def Qle(b:Blk):LB:=hd 4 (if b.crc=0 then 5 else 6)++(wrs (Qic b)++if b.crc=0 then [] else hd 2 (Qgx b.crc))
def Q30(b:Blk):LB:=List.replicate (Qgx b.crc) 0
def Qz2(b:Blk):LB:=Qbb b.crc (Qle b++Q30 b)
def Qlg(b:Blk):LB:=Qle b++Qz2 b
theorem Qhc(b:Blk):(Qz2 b).length=Qgx b.crc:=Qdm _ _
theorem Qs1:∀ a b:List Itm,wrs (a++b)=wrs a++wrs b
 | [],b=>rfl
 | x::r,b=>by rw[List.cons_append,wrs,wrs,Qs1 r b,List.append_assoc]
theorem Qln(n:Nat):wri (.mk 0 n [] [])=hd 0 n:=by rw[wri,if_pos rfl]
theorem Qs3(d:LB):wri (.mk 2 0 d [])=hd 2 d.length++d:=by rw[wri,if_neg (by decide),if_pos (by decide)];rfl
theorem Qzo(b:Blk)(s:LB)(hs:s.length=Qgx b.crc)(_hc:0≤b.crc∧b.crc≤2):wri (Qze b s)=Qle b++s:=by
 unfold Qze;rw[wri,if_neg (by decide),if_neg (by decide),if_pos rfl]
 unfold Qle;by_cases h0:b.crc=0
 ·
  have:s=[]:=List.eq_nil_of_length_eq_zero (by rw[hs,h0];rfl)
  subst this;simp only[if_pos h0,List.append_nil];rw[show(Qic b).length=5 from rfl]
 ·
  simp only[if_neg h0];rw[Qs1,show(Qic b++[Itm.mk 2 0 s []]).length=6 from rfl,wrs,Qs3,wrs,hs]
  simp[List.append_assoc]
theorem Qyb(b:Blk)(s:LB):Qkk (Qze b s):=by
 unfold Qze Qic;by_cases h0:b.crc=0
 ·
  simp only[if_pos h0];exact⟨by simp[Qbd,Qan,own],by simp[dep,Qcb],by simp[par,Qa5]⟩
 ·
  simp only[if_neg h0];exact⟨by simp[Qbd,Qan,own],by simp[dep,Qcb],by simp[par,Qa5]⟩
theorem Q0o(b:Blk)(s:LB)(hb:Bd b)(hc:b.crc≤2)(hd:b.dat.length<18446744073709551616)(hs:s.length<18446744073709551616):Siz (Qze b s):=by
 unfold Qze Qic;have h3:b.crc.toNat<18446744073709551616:=by omega
 obtain⟨h1,h2,h4⟩:=hb;by_cases h0:b.crc=0
 ·
  simp only[if_pos h0];refine⟨by decide,by simp,by simp,⟨h1,by simp,by simp,trivial⟩,⟨h2,by simp,by simp,trivial⟩,⟨h4,by simp,by simp,trivial⟩,⟨h3,by simp,by simp,trivial⟩,⟨by decide,hd,by simp,trivial⟩,trivial⟩
 ·
  simp only[if_neg h0];refine⟨by decide,by simp,by simp,⟨h1,by simp,by simp,trivial⟩,⟨h2,by simp,by simp,trivial⟩,⟨h4,by simp,by simp,trivial⟩,⟨h3,by simp,by simp,trivial⟩,⟨by decide,hd,by simp,trivial⟩,⟨by decide,hs,by simp,trivial⟩,trivial⟩
def Qgw:Itm→Blk
 | .mk _ _ _ (y0::y1::y2::y3::y4::_)=>⟨y0.num,y1.num,y2.num,RowKit.wrap64 (y3.num:Int),y4.data⟩
 | _=>.zero
def Q3k(u w:LB)(s:Nat):Int:=if u.length≠w.length∨u.take (w.length - s)≠w.take (w.length - s) then 50 else if u.drop (w.length - s)≠w.drop (w.length - s) then 51 else 0
def Q2u(l:LB):Blk×Int×Int :=
 if (Qba l).2.2≠0 then (.zero,0,(Qba l).2.2)
 else if Qdj (Qgw (Qba l).1)=false then (.zero,0,50)
 else if Q3k (l.take (Qba l).2.1.toNat) (Qlg (Qgw (Qba l).1)) (Qgx (Qgw (Qba l).1).crc)≠0 then (.zero,0,Q3k (l.take (Qba l).2.1.toNat) (Qlg (Qgw (Qba l).1)) (Qgx (Qgw (Qba l).1).crc))
 else (Qgw (Qba l).1,(Qba l).2.1,0)
theorem Qq7(c:Int)(h0:0≤c)(h2:c≤2):RowKit.wrap64 ((c.toNat:Nat):Int)=c:=by
 unfold RowKit.wrap64;omega
theorem Qtb(b:Blk)(s:LB)(hc:0≤b.crc∧b.crc≤2):Qgw (Qze b s)=b:=by
 have h:=Qq7 b.crc hc.1 hc.2;obtain⟨t,n,f,c,d⟩:=b;unfold Qze Qic;simp only[List.cons_append,Qgw,Itm.num,Itm.data];rw[h]
theorem Qyu(b:Blk)(s m:LB)(hok:Qdj b=true)(hb:Bd b)(hs:s.length=Qgx b.crc) :
  Q2u (Qle b++s++m)=if s=Qz2 b then (b,((Qlg b).length:Int),0) else (.zero,0,51):=by
 obtain⟨h1,h2,h3,h4,h5⟩:=Qeu.1 hok;have hw:=Qzo b s hs h4;have hs4:=Qh0 b.crc;have hd:=Qi3 (Qyb b s) (Q0o b s hb h4.2 (by omega) (by omega)) m;rw[hw] at hd
 have hlen:((Qle b++s).length)=(Qlg b).length:=by unfold Qlg;rw[List.length_append,List.length_append,hs,Qhc]
 unfold Q2u;rw[hd]
 simp only[Qtb b s h4];rw[if_neg (by simp),if_neg (by rw[hok];decide),Int.toNat_natCast,List.take_left]
 have hk:(Qlg b).length - Qgx b.crc=(Qle b).length:=by unfold Qlg;rw[List.length_append,Qhc];omega
 have hcmp:Q3k (Qle b++s) (Qlg b) (Qgx b.crc)=if s=Qz2 b then 0 else 51:=by
  unfold Q3k;rw[hk]
  unfold Qlg;rw[List.take_left,List.take_left,List.drop_left,List.drop_left,if_neg (by simp[hs,Qhc])]
  by_cases he:s=Qz2 b
  ·
   rw[if_neg (by simp[he]),if_pos he]
  ·
   rw[if_pos he,if_neg he]
 rw[hcmp,hlen]
 by_cases he:s=Qz2 b
 ·
  rw[if_pos he,if_neg (by simp),if_pos he]
 ·
  rw[if_neg he,if_pos (by simp),if_neg he]
theorem Qhn(b:Blk)(m:LB)(hok:Qdj b=true)(hb:Bd b):Q2u (Qlg b++m)=(b,((Qlg b).length:Int),0):=by
 have:=Qyu b (Qz2 b) m hok hb (Qhc b)
 rw[if_pos rfl] at this
 exact this
theorem Q27(F:Nat)(h:F<65536):bits BinOp.and .u16 (F:Int) 1=((F % 2:Nat):Int):=by
 have e:=u16_and_nat F 1 h (by decide);rw[Nat.and_one_is_mod] at e
 exact e
theorem Q26(F:Nat)(h:F<4294967296):bits BinOp.and .u32 (F:Int) 1=((F % 2:Nat):Int):=by
 have e:=u32_and_nat F 1 h (by decide);rw[Nat.and_one_is_mod] at e
 exact e
theorem Q2t(d:BitVec 16):Ending.returned (.int .u16 (bits BinOp.xor .u16 IntKind.u16.max (d.toNat:Int)))=.returned (.int .u16 ((~~~ d).toNat:Int)):=by
 have e:=u16_xor_nat 65535 d.toNat (by decide) d.isLt;rw[show IntKind.u16.max=((65535:Nat):Int) from rfl,e,show(65535:Nat)=(BitVec.allOnes 16).toNat from rfl,← BitVec.toNat_xor,BitVec.allOnes_xor]
theorem Q2s(d:BitVec 32):Ending.returned (.int .u32 (bits BinOp.xor .u32 IntKind.u32.max (d.toNat:Int)))=.returned (.int .u32 ((~~~ d).toNat:Int)):=by
 have e:=u32_xor_nat 4294967295 d.toNat (by decide) d.isLt;rw[show IntKind.u32.max=((4294967295:Nat):Int) from rfl,e,show(4294967295:Nat)=(BitVec.allOnes 32).toNat from rfl,← BitVec.toNat_xor,BitVec.allOnes_xor]
theorem Qtf(A:OA)(n c B:Nat)(l:LB)(w:World)(h:Rd w B A n l)(hn:n≤140737488355328) :
  Calls Tryz.prog 168 #[.slice A n c,.int .u16 33800] w fun e w'=>e=.returned (.int .u16 ((s16 l).toNat:Int))∧w=w':=by
 have HR:=hid h;clear h;go_enter Tryz.func168,Tryz.ntmps168;go_wp2
 go_loop [5,13] (fun v i=>∃ (k:Nat) (d:BitVec 16),k≤n∧i=.int .i64 k∧v=.int .u16 (d.toNat:Int)∧Hid (d=fB p16 0xffff#16 (l.take k))) (fun _ i=>n - (intOf i).toNat)
 case atStart=>exact⟨0,0xffff#16,Nat.zero_le _,rfl,rfl,rfl⟩
 case round =>
  obtain⟨k,d,hk,rfl,rfl,hd⟩:=hrel;by_cases hlt:k<n
  ·
   obtain⟨b,o,rfl,hb,hcell⟩:=HR.out.2 (by omega);obtain⟨x,hx⟩:∃ x,x=l.getD k 0:=⟨_,rfl⟩
   have hcx:w.cell? ⟨b,o+k,none⟩=some (.int .u8 (x.toNat:Int)):=by rw[hx];exact hcell k hlt
   have Hx:=hid hx;clear hx hcell;have hx1:(x.toNat:Int)<256:=by have:=x.toNat_lt;omega
   have hx0:(0:Int)≤(x.toNat:Int):=by omega
   have hd1:(d.toNat:Int)<65536:=by have:=d.isLt;omega
   go_wp2_with fail;clear hx0 hx1 hd1;go_loop [5,21] (fun v i=>∃ (j:Nat) (f:BitVec 16),j≤8∧i=.int .i64 j∧v=.int .u16 (f.toNat:Int)∧Hid (f=Qth p16 j (d ^^^ BitVec.ofNat 16 x.toNat))) (fun _ i=>8 - (intOf i).toNat)
   case atStart=>exact⟨0,d ^^^ BitVec.ofNat 16 x.toNat,by omega,rfl,Qzk d x,rfl⟩
   case round =>
    obtain⟨j,f,hj,rfl,rfl,hf⟩:=hrel;by_cases hj8:j<8
    ·
     obtain⟨F,hF⟩:∃ F,F=f.toNat:=⟨_,rfl⟩
     have hf1:F<65536:=by have:=f.isLt;omega
     rw[← hF]
     have HF:=hid hF;clear hF;rcases Nat.mod_two_eq_zero_or_one F with he|he
     ·
      have ht:(bits BinOp.and .u16 (F:Int) 1==1)=false:=by rw[Q27 F hf1,he];rfl
      have HE:=hid he;clear he;go_wp2_with fail;go_round
      case rel=>exact⟨j+1,stp p16 f,by omega,by go_num,by rw[Qhd _ _ (by rw[← HF.out];exact HE.out),← HF.out];rfl,by show _=_;rw[Qcf,← hf.out]⟩
      case measure=>simp[intOf];omega
     ·
      have ht:(bits BinOp.and .u16 (F:Int) 1==1)=true:=by rw[Q27 F hf1,he];rfl
      have HE:=hid he;clear he;go_wp2_with fail;go_round
      case rel=>exact⟨j+1,stp p16 f,by omega,by go_num,by rw[HF.out];exact Qy8 f (by rw[← HF.out];exact HE.out),by show _=_;rw[Qcf,← hf.out]⟩
      case measure=>simp[intOf];omega
    ·
     obtain rfl:j=8:=by omega
     go_wp2_with fail;go_round
     case rel =>
      refine⟨k+1,f,by omega,by go_num,rfl,?_⟩;show f=_;rw[Qlc l 16 _ _ k (by have:=HR.out.1;omega),← hd.out,← Hx.out]
      exact hf.out
     case measure=>simp[intOf];omega
  ·
   obtain rfl:k=n:=by omega
   have hl:=HR.out.1;have hfin:s16 l = ~~~ d:=by rw[hd.out,List.take_of_length_le (by omega)];rfl
   have HF:=hid hfin;have hd1:(d.toNat:Int)<65536:=by have:=d.isLt;omega
   clear hfin hl;go_wp2_with fail;go_ret;exact⟨by rw[HF.out];exact Q2t d,rfl⟩
theorem Qte(A:OA)(n c B:Nat)(l:LB)(w:World)(h:Rd w B A n l)(hn:n≤140737488355328) :
  Calls Tryz.prog 169 #[.slice A n c,.int .u32 2197175160] w fun e w'=>e=.returned (.int .u32 ((s32 l).toNat:Int))∧w=w':=by
 have HR:=hid h;clear h;go_enter Tryz.func169,Tryz.ntmps169;go_wp2
 go_loop [5,13] (fun v i=>∃ (k:Nat) (d:BitVec 32),k≤n∧i=.int .i64 k∧v=.int .u32 (d.toNat:Int)∧Hid (d=fB p32 0xffffffff#32 (l.take k))) (fun _ i=>n - (intOf i).toNat)
 case atStart=>exact⟨0,0xffffffff#32,Nat.zero_le _,rfl,rfl,rfl⟩
 case round =>
  obtain⟨k,d,hk,rfl,rfl,hd⟩:=hrel;by_cases hlt:k<n
  ·
   obtain⟨b,o,rfl,hb,hcell⟩:=HR.out.2 (by omega);obtain⟨x,hx⟩:∃ x,x=l.getD k 0:=⟨_,rfl⟩
   have hcx:w.cell? ⟨b,o+k,none⟩=some (.int .u8 (x.toNat:Int)):=by rw[hx];exact hcell k hlt
   have Hx:=hid hx;clear hx hcell;have hx1:(x.toNat:Int)<256:=by have:=x.toNat_lt;omega
   have hx0:(0:Int)≤(x.toNat:Int):=by omega
   have hd1:(d.toNat:Int)<4294967296:=by have:=d.isLt;omega
   go_wp2_with fail;clear hx0 hx1 hd1;go_loop [5,21] (fun v i=>∃ (j:Nat) (f:BitVec 32),j≤8∧i=.int .i64 j∧v=.int .u32 (f.toNat:Int)∧Hid (f=Qth p32 j (d ^^^ BitVec.ofNat 32 x.toNat))) (fun _ i=>8 - (intOf i).toNat)
   case atStart=>exact⟨0,d ^^^ BitVec.ofNat 32 x.toNat,by omega,rfl,Qzj d x,rfl⟩
   case round =>
    obtain⟨j,f,hj,rfl,rfl,hf⟩:=hrel;by_cases hj8:j<8
    ·
     obtain⟨F,hF⟩:∃ F,F=f.toNat:=⟨_,rfl⟩
     have hf1:F<4294967296:=by have:=f.isLt;omega
     rw[← hF]
     have HF:=hid hF;clear hF;rcases Nat.mod_two_eq_zero_or_one F with he|he
     ·
      have ht:(bits BinOp.and .u32 (F:Int) 1==1)=false:=by rw[Q26 F hf1,he];rfl
      have HE:=hid he;clear he;go_wp2_with fail;go_round
      case rel=>exact⟨j+1,stp p32 f,by omega,by go_num,by rw[Qhd _ _ (by rw[← HF.out];exact HE.out),← HF.out];rfl,by show _=_;rw[Qcf,← hf.out]⟩
      case measure=>simp[intOf];omega
     ·
      have ht:(bits BinOp.and .u32 (F:Int) 1==1)=true:=by rw[Q26 F hf1,he];rfl
      have HE:=hid he;clear he;go_wp2_with fail;go_round
      case rel=>exact⟨j+1,stp p32 f,by omega,by go_num,by rw[HF.out];exact Qy7 f (by rw[← HF.out];exact HE.out),by show _=_;rw[Qcf,← hf.out]⟩
      case measure=>simp[intOf];omega
    ·
     obtain rfl:j=8:=by omega
     go_wp2_with fail;go_round
     case rel =>
      refine⟨k+1,f,by omega,by go_num,rfl,?_⟩;show f=_;rw[Qlc l 32 _ _ k (by have:=HR.out.1;omega),← hd.out,← Hx.out]
      exact hf.out
     case measure=>simp[intOf];omega
  ·
   obtain rfl:k=n:=by omega
   have hl:=HR.out.1;have hfin:s32 l = ~~~ d:=by rw[hd.out,List.take_of_length_le (by omega)];rfl
   have HF:=hid hfin;have hd1:(d.toNat:Int)<4294967296:=by have:=d.isLt;omega
   clear hfin hl;go_wp2_with fail;go_ret;exact⟨by rw[HF.out];exact Q2s d,rfl⟩
theorem Qtn(A:OA)(n c B:Nat)(l:LB)(w:World)(h:Rd w B A n l)(hn:n≤140737488355328) :
  Calls Tryz.prog 154 #[.slice A n c] w fun e w'=>e=.returned (.int .u16 ((s16 l).toNat:Int))∧w=w':=by
 have C:=hid (Qtf A n c B l w h hn);clear h;go_enter Tryz.func154,Tryz.ntmps154;go_wp2_with fail;refine C.out.mono ?_;rintro e w' ⟨rfl,rfl⟩;go_wp2_with fail;go_ret;exact⟨rfl,rfl⟩
theorem Qx5(A:OA)(n c B:Nat)(l:LB)(w:World)(h:Rd w B A n l)(hn:n≤140737488355328) :
  Calls Tryz.prog 155 #[.slice A n c] w fun e w'=>e=.returned (.int .u32 ((s32 l).toNat:Int))∧w=w':=by
 have C:=hid (Qte A n c B l w h hn);clear h;go_enter Tryz.func155,Tryz.ntmps155;go_wp2_with fail;refine C.out.mono ?_;rintro e w' ⟨rfl,rfl⟩;go_wp2_with fail;go_ret;exact⟨rfl,rfl⟩
theorem Qni(kind:Int)(A:OA)(n c B:Nat)(l:LB)(w:World)(h:Rd w B A n l)(hn:n≤140737488355328) :
  Calls Tryz.prog 133 #[.int .i64 kind,.slice A n c] w (Qno (Qbb kind l) w):=by
 have c1:=Qtn A n c B l w h hn;have c2:=Qx5 A n c B l w h hn;have v1:=(s16 l).isLt;have v2:=(s32 l).isLt;clear h;by_cases h1:kind=1
 ·
  subst h1;rw[show Qbb 1 l=be (s16 l).toNat 2 from rfl,be2]
  generalize (s16 l).toNat=v at *;have C1:=hid c1;clear c1 c2;go_enter Tryz.func133,Tryz.ntmps133;go_wp2_with fail;refine C1.out.mono ?_;rintro e w' ⟨rfl,rfl⟩;go_wp2_with fail;go_ret;exact Qf5 w _ _ _ 2 rfl (cs2 v v1)
 ·
  by_cases h2:kind=2
  ·
   subst h2;rw[show Qbb 2 l=be (s32 l).toNat 4 from rfl,be4]
   generalize (s32 l).toNat=v at *;have C2:=hid c2;clear c1 c2;go_enter Tryz.func133,Tryz.ntmps133;go_wp2_with fail;refine C2.out.mono ?_;rintro e w' ⟨rfl,rfl⟩;go_wp2_with fail;go_ret;exact Qf5 w _ _ _ 4 rfl (cs4 v v2)
  ·
   rw[show Qbb kind l=[] by unfold Qbb;rw[if_neg h1,if_neg h2]]
   have e1:(kind==1)=false:=by simpa using h1
   have e2:(kind==2)=false:=by simpa using h2
   clear h1 h2 c1 c2;go_enter Tryz.func133,Tryz.ntmps133;go_wp2_with fail;go_ret;exact Qm4 w
def bfl(z:Int)(s:ByteArray):Value:=.iface 233 (.agg #[.int .i64 z,.string s])
def Q43(ok:Bool)(z:Int)(w:World)(e:Ending)(w':World):Prop:=Below w.heap.size w w'∧((ok=true∧e=.returned .nilIface)∨(ok=false∧∃ s,e=.returned (bfl z s)))
def Qe3(t n f:Nat)(c:Int)(A:OA)(nd cd:Nat):Value:=.agg #[.int .u64 (t:Int),.int .u64 (n:Int),.int .u64 (f:Int),.int .i64 c,.slice A nd cd]
theorem Qst(t n f:Nat)(c:Int)(A:OA)(nd cd:Nat)(d:LB)(w:World)(hd:d.length=nd) :
  Calls Tryz.prog 147 #[Qe3 t n f c A nd cd] w (Q43 (Qdj ⟨t,n,f,c,d⟩) 50 w):=by
 obtain⟨R,hR⟩:∃ R,R=Qdj ⟨t,n,f,c,d⟩:=⟨_,rfl⟩
 rw[← hR]
 have hR2:R=(decide (1≤(t:Int)∧(t:Int)≤255)&&(decide (¬ (n:Int)=0)&&((decide (¬ (t:Int)=1)||decide ((n:Int)=1))&&(decide (0≤c∧c≤2)&&decide ((nd:Int)≤4096))))):=by
  rw[hR,← hd,Bool.eq_iff_iff,Qeu]
  simp only[Bool.and_eq_true,Bool.or_eq_true,decide_eq_true_eq];omega
 clear hR hd;unfold Qe3;generalize (t:Int)=T at *;generalize (n:Int)=N at *;by_cases h1:T<1
 ·
  have hr:R=false:=by rw[hR2];simp;omega
  subst hr;clear hR2;go_enter Tryz.func147,Tryz.ntmps147;go_wp2_with fail;go_ret;exact⟨zb,.inr ⟨rfl,_,rfl⟩⟩
 have h1':1≤T:=by omega
 by_cases h2:255<T
 ·
  have hr:R=false:=by rw[hR2];simp;omega
  subst hr;clear hR2;go_enter Tryz.func147,Tryz.ntmps147;go_wp2_with fail;go_ret;exact⟨zb,.inr ⟨rfl,_,rfl⟩⟩
 have h2':T≤255:=by omega
 by_cases h3:N=0
 ·
  have hr:R=false:=by rw[hR2];simp[h3]
  subst hr h3;clear hR2;go_enter Tryz.func147,Tryz.ntmps147;go_wp2_with fail;go_ret;exact⟨zb,.inr ⟨rfl,_,rfl⟩⟩
 have h3':(N==0)=false:=by simpa using h3
 by_cases h4:T=1∧N≠1
 ·
  have hr:R=false:=by rw[hR2];simp[h4.1,h4.2]
  obtain⟨h4,h5⟩:=h4;have h5':(N==1)=false:=by simpa using h5
  subst hr h4;clear hR2;go_enter Tryz.func147,Tryz.ntmps147;go_wp2_with fail;go_ret;exact⟨zb,.inr ⟨rfl,_,rfl⟩⟩
 have h6:(decide (¬ T=1)||decide (N=1))=true:=by simp;omega
 have h7:decide (¬ N=0)=true:=by simpa using h3
 have h8:decide (1≤T∧T≤255)=true:=by simp;omega
 rw[h6,h7,h8,Bool.true_and,Bool.true_and,Bool.true_and] at hR2
 clear h6 h7 h8;have key:∀ (hq:T≠1∨N=1),Calls Tryz.prog 147 #[.agg #[.int .u64 T,.int .u64 N,.int .u64 (f:Int),.int .i64 c,.slice A nd cd]] w (Q43 R 50 w):=by
  intro hq;by_cases hT:T=1
  ·
   obtain rfl:N=1:=by omega
   subst hT;clear hq h1 h1' h2 h2' h3 h3' h4;by_cases h9:c<0
   ·
    have hr:R=false:=by rw[hR2];simp;omega
    subst hr;clear hR2;go_enter Tryz.func147,Tryz.ntmps147;go_wp2_with fail;go_ret;exact⟨zb,.inr ⟨rfl,_,rfl⟩⟩
   have h9':0≤c:=by omega
   by_cases h10:2<c
   ·
    have hr:R=false:=by rw[hR2];simp;omega
    subst hr;clear hR2;go_enter Tryz.func147,Tryz.ntmps147;go_wp2_with fail;go_ret;exact⟨zb,.inr ⟨rfl,_,rfl⟩⟩
   have h10':c≤2:=by omega
   by_cases h11:(4096:Int)<nd
   ·
    have hr:R=false:=by rw[hR2];simp;omega
    have h11':4096<nd:=by omega
    subst hr;clear hR2;go_enter Tryz.func147,Tryz.ntmps147;go_wp2_with fail;go_ret;exact⟨zb,.inr ⟨rfl,_,rfl⟩⟩
   have h11':nd≤4096:=by omega
   have hr:R=true:=by rw[hR2];simp;omega
   subst hr;clear hR2;go_enter Tryz.func147,Tryz.ntmps147;go_wp2_with fail;go_ret;exact⟨zb,.inl ⟨rfl,rfl⟩⟩
  ·
   have hT':(T==1)=false:=by simpa using hT
   clear hq h4;by_cases h9:c<0
   ·
    have hr:R=false:=by rw[hR2];simp;omega
    subst hr;clear hR2;go_enter Tryz.func147,Tryz.ntmps147;go_wp2_with fail;go_ret;exact⟨zb,.inr ⟨rfl,_,rfl⟩⟩
   have h9':0≤c:=by omega
   by_cases h10:2<c
   ·
    have hr:R=false:=by rw[hR2];simp;omega
    subst hr;clear hR2;go_enter Tryz.func147,Tryz.ntmps147;go_wp2_with fail;go_ret;exact⟨zb,.inr ⟨rfl,_,rfl⟩⟩
   have h10':c≤2:=by omega
   by_cases h11:(4096:Int)<nd
   ·
    have hr:R=false:=by rw[hR2];simp;omega
    have h11':4096<nd:=by omega
    subst hr;clear hR2;go_enter Tryz.func147,Tryz.ntmps147;go_wp2_with fail;go_ret;exact⟨zb,.inr ⟨rfl,_,rfl⟩⟩
   have h11':nd≤4096:=by omega
   have hr:R=true:=by rw[hR2];simp;omega
   subst hr;clear hR2;go_enter Tryz.func147,Tryz.ntmps147;go_wp2_with fail;go_ret;exact⟨zb,.inl ⟨rfl,rfl⟩⟩
 exact key (by omega)
theorem Qkh(A A':OA)(n c n' c' B:Nat)(l l':LB)(w:World)(h:Rd w B A n l)(h':Rd w B A' n' l') :
  Calls Tryz.prog 94 #[.slice A n c,.slice A' n' c'] w fun e w'=>e=.returned (.bool (l==l'))∧w=w':=by
 have r1:=Qgh (P:=Tryz.prog) (c:=c) h 29 5 9 Tryz.underlying29 Tryz.underlying5 Tryz.underlying9;have r2:=Qgh (P:=Tryz.prog) (c:=c') h' 29 5 9 Tryz.underlying29 Tryz.underlying5 Tryz.underlying9;have e1:(⟨l.toArray⟩:ByteArray).toList=l:=by rw[Lib.toList_data]
 have e2:(⟨l'.toArray⟩:ByteArray).toList=l':=by rw[Lib.toList_data]
 have HE:=hid (And.intro e1 e2);generalize (⟨l.toArray⟩:ByteArray)=s at *;generalize (⟨l'.toArray⟩:ByteArray)=s' at *;clear h h' e1 e2;go_enter Tryz.func94,Tryz.ntmps94;go_wp2_with fail;go_ret;refine⟨?_,rfl⟩;have h:(s.toList==s'.toList)=(l==l'):=by rw[HE.out.1,HE.out.2]
 rw[← h]
 rfl
open Go.Lib (decDigits)
def Qb2(c:UInt8)(l:LB):LB:=l.takeWhile fun x=>x != c
def Qdo(c:UInt8)(l:LB):LB:=l.drop ((Qb2 c l).length+1)
def Qiw(c:UInt8)(l:LB):Bool:=decide ((Qb2 c l).length<l.length)
theorem Qwo(c:UInt8):Qb2 c []=[]:=rfl
theorem Qcr(c x:UInt8)(l:LB):Qb2 c (x::l)=if x=c then [] else x::Qb2 c l:=by
 unfold Qb2;rw[List.takeWhile_cons]
 by_cases h:x=c <;> simp[h]
theorem Qq5(c:UInt8):∀ l:LB,∀ x∈Qb2 c l,x≠c
 | [],x,h=>by rw[Qwo] at h;cases h
 | y::l,x,h=>by
  rw[Qcr] at h
  split at h
  ·
   cases h
  ·
   rename_i hne
   rcases List.mem_cons.1 h with rfl|h
   ·
    exact hne
   ·
    exact Qq5 c l x h
theorem Qhr(c:UInt8):∀ l:LB,(Qb2 c l).length≤l.length
 | []=>Nat.le_refl _
 | y::l=>by
  rw[Qcr]
  split
  ·
   exact Nat.zero_le _
  ·
   have:=Qhr c l;simp only[List.length_cons];omega
theorem Qgt(c:UInt8):∀ l:LB,Qb2 c l=l.take (Qb2 c l).length
 | []=>rfl
 | y::l=>by
  rw[Qcr]
  split
  ·
   rfl
  ·
   have:=Qgt c l
   simp only[List.length_cons,List.take_succ_cons];rw[← this]
theorem Qnl{c:UInt8}{l:LB}(h:Qiw c l=false):Qb2 c l=l:=by
 have h1:=Qhr c l;have h2:(Qb2 c l).length=l.length:=by unfold Qiw at h;simp at h;omega
 rw[Qgt c l,h2,List.take_length]
theorem Qsr{c:UInt8}{l:LB}(h:Qiw c l=false):Qdo c l=[]:=by
 unfold Qdo;rw[Qnl h]
 simp
theorem Qzi{c:UInt8}:∀ {l:LB},Qiw c l=true→l=Qb2 c l++c::Qdo c l
 | [],h=>by simp[Qiw] at h
 | y::l,h=>by
  unfold Qdo;rw[Qcr]
  by_cases hy:y=c
  ·
   subst hy;simp
  ·
   rw[if_neg hy]
   have h':Qiw c l=true:=by
    unfold Qiw at h ⊢;rw[Qcr,if_neg hy] at h
    simp at h ⊢;omega
   have e:=Qzi h';unfold Qdo at e;simp only[List.length_cons,List.drop_succ_cons,List.cons_append];rw[← e]
theorem Qir(c:UInt8):∀ l:LB,Lib.indexByte l c=if Qiw c l=true then ((Qb2 c l).length:Int) else -1
 | []=>by simp[Lib.indexByte,Qiw]
 | y::l=>by
  have ih:=Qir c l;have e1:Qiw c (y::l)=if y=c then true else Qiw c l:=by
   unfold Qiw;rw[Qcr]
   by_cases hy:y=c <;> simp[hy]
  rw[Lib.indexByte,e1,Qcr]
  by_cases hy:y=c
  ·
   subst hy;simp
  ·
   have hb:(y==c)=false:=by simpa using hy
   rw[hb,if_neg hy,if_neg hy,ih]
   rw[if_neg (by simp)]
   by_cases hh:Qiw c l=true
   ·
    rw[if_pos hh,if_pos hh]
    have:¬ ((((Qb2 c l).length:Int) == -1)=true):=by rw[beq_iff_eq];omega
    rw[if_neg this,List.length_cons]
    omega
   ·
    rw[if_neg hh,if_neg hh];rfl
def Qx0(s:LB):Bool :=
 decide (s.length≤64)&&(Lib.hasPrefix s [47,47]&&(Qiw 47 (s.drop 2)&&(!(Qb2 47 (s.drop 2)).isEmpty&&((Qb2 47 (s.drop 2)).all Qbk&&(Qdo 47 (s.drop 2)).all lsB))))
theorem Qki(a b:UInt8):(a==b)=(b==a):=by
 by_cases h:a=b
 ·
  subst h;rfl
 ·
  have h2:¬ b=a:=fun e=>h e.symm
  rw[beq_eq_false_iff_ne.2 h,beq_eq_false_iff_ne.2 h2]
theorem Qko(l:LB):Qa0 l=(Qb2 47 l).length:=rfl
theorem Qur{c:UInt8}(h:c≠47):lsB c=Qbk c:=by
 unfold lsB;have:(c==47)=false:=by simpa using h
 rw[this,Bool.false_or]
theorem Q28{l:LB}(h:∀ x∈l,x≠47):l.all lsB=l.all Qbk:=by
 induction l with
 | nil=>rfl
 | cons a l ih =>
  rw[List.all_cons,List.all_cons,Qur (h a (by simp)),ih (fun x hx=>h x (by simp[hx]))]
theorem Qxz(s:LB):Qx0 s=Qc1 s:=by
 unfold Qx0 Qc1;congr 1
 match s with
 | []=>rfl
 | [a]=>simp[Lib.hasPrefix,List.isPrefixOf]
 | a::b::r =>
  have e1:Lib.hasPrefix (a::b::r) [47,47]=(a==47&&b==47):=by
   simp only[Lib.hasPrefix,List.isPrefixOf,Bool.and_true];rw[show((47:UInt8)==a)=(a==47) from Qki _ _,show((47:UInt8)==b)=(b==47) from Qki _ _]
  rw[e1]
  congr 1
  show(Qiw 47 r&&_)=_;rw[show(a::b::r).drop 2=r from rfl]
  by_cases hh:Qiw 47 r=true
  ·
   have e:=Qzi hh;have e2:r.all lsB=((Qb2 47 r).all Qbk&&(Qdo 47 r).all lsB):=by
    conv=>lhs;rw[e]
    rw[List.all_append,List.all_cons,Q28 (Qq5 47 r)]
    rfl
   have e3:decide (Qa0 r<r.length)=true:=hh;have e4:(!(Qb2 47 r).isEmpty)=decide (1≤Qa0 r):=by
    rw[Qko]
    cases Qb2 47 r <;> simp
   rw[hh,e3,e2,e4,Bool.true_and,Bool.and_true,Bool.and_comm]
  ·
   have e3:decide (Qa0 r<r.length)=false:=by rw[Bool.not_eq_true] at hh;exact hh
   rw[Bool.not_eq_true] at hh
   rw[hh,e3,Bool.false_and,Bool.and_false,Bool.and_false]
end Go.Proofs.YtbnfkjkoinbkgaaGreatDoor
namespace Go.Proofs
open Go.Shelf
def Tryz.lays137_ren:Go.Shelf.Ren:=⟨fun|137=>191|217=>195|266=>199|n=>n,fun|9=>9|5=>5|3=>3|n=>n,fun|n=>n⟩
theorem Tryz.lays137:Go.Proofs.Lays.n137 Tryz.prog Tryz.lays137_ren:={
 mixed:=by kernel_rfl
 f137:=Tryz.func191.trans (congrArg some (by kernel_rfl))
 f217:=Tryz.func195.trans (congrArg some (by kernel_rfl))
 f266:=Tryz.func199.trans (congrArg some (by kernel_rfl))
 t3:=Tryz.underlying3
 a3:=Tryz.isAgg3
 z3:=Tryz.sizeOf3
 v3:=Tryz.zeroValue3
 t5:=Tryz.underlying5
 a5:=Tryz.isAgg5
 z5:=Tryz.sizeOf5
 v5:=Tryz.zeroValue5
 t9:=Tryz.underlying9
 a9:=Tryz.isAgg9
 z9:=Tryz.sizeOf9
 v9:=Tryz.zeroValue9 }
open Go.RowKit in
theorem Tryz.strings_IndexByte(s:ByteArray)(c:Int)(w:World) :
  Calls Tryz.prog 191 #[.string s,.int .u8 c] w fun e w'=>e=.returned (.int .i64 (Lib.indexByte s.data.toList c.toNat.toUInt8))∧w'=w:=Any.strings_IndexByte Tryz.lays137 s c w
def Tryz.lays103_ren:Go.Shelf.Ren:=⟨fun|103=>173|210=>188|206=>193|n=>n,fun|9=>9|4=>4|24=>246|3=>3|n=>n,fun|n=>n⟩
theorem Tryz.lays103:Go.Proofs.Lays.n103 Tryz.prog Tryz.lays103_ren:={
 mixed:=by kernel_rfl
 f103:=Tryz.func173.trans (congrArg some (by kernel_rfl))
 f206:=Tryz.func193.trans (congrArg some (by kernel_rfl))
 f210:=Tryz.func188.trans (congrArg some (by kernel_rfl))
 t3:=Tryz.underlying3
 a3:=Tryz.isAgg3
 z3:=Tryz.sizeOf3
 v3:=Tryz.zeroValue3
 t4:=Tryz.underlying4
 a4:=Tryz.isAgg4
 z4:=Tryz.sizeOf4
 v4:=Tryz.zeroValue4
 t9:=Tryz.underlying9
 a9:=Tryz.isAgg9
 z9:=Tryz.sizeOf9
 v9:=Tryz.zeroValue9
 t24:=Tryz.underlying246
 a24:=Tryz.isAgg246
 z24:=Tryz.sizeOf246
 v24:=Tryz.zeroValue246 }
open Go.RowKit in
theorem Tryz.strings_CutPrefix(s p:ByteArray)(w:World) :
  Calls Tryz.prog 173 #[.string s,.string p] w fun e w'=>e=.returned (.tuple #[.string ⟨(Lib.trimPrefix s.data.toList p.data.toList).toArray⟩,.bool (Lib.hasPrefix s.data.toList p.data.toList)])∧w'=w:=Any.strings_CutPrefix Tryz.lays103 s p w
def Tryz.laysPu25_ren:Go.Shelf.Ren:=⟨fun|25=>126|n=>n,fun|9=>9|3=>3|4=>4|37=>29|0=>0|47=>217|5=>5|n=>n,fun|n=>n⟩
theorem Tryz.laysPu25:Go.Proofs.LaysPu.n25 Tryz.prog Tryz.laysPu25_ren:={
 mixed:=by kernel_rfl
 f25:=Tryz.func126.trans (congrArg some (by kernel_rfl))
 t0:=Tryz.underlying0
 a0:=Tryz.isAgg0
 z0:=Tryz.sizeOf0
 v0:=Tryz.zeroValue0
 i0:=by kernel_rfl
 t3:=Tryz.underlying3
 a3:=Tryz.isAgg3
 z3:=Tryz.sizeOf3
 v3:=Tryz.zeroValue3
 i3:=by kernel_rfl
 t4:=Tryz.underlying4
 a4:=Tryz.isAgg4
 z4:=Tryz.sizeOf4
 v4:=Tryz.zeroValue4
 i4:=by kernel_rfl
 t5:=Tryz.underlying5
 a5:=Tryz.isAgg5
 z5:=Tryz.sizeOf5
 v5:=Tryz.zeroValue5
 i5:=by kernel_rfl
 t9:=Tryz.underlying9
 a9:=Tryz.isAgg9
 z9:=Tryz.sizeOf9
 v9:=Tryz.zeroValue9
 i9:=by kernel_rfl
 t37:=Tryz.underlying29
 a37:=Tryz.isAgg29
 z37:=Tryz.sizeOf29
 v37:=Tryz.zeroValue29
 i37:=by kernel_rfl
 t47:=Tryz.underlying217
 a47:=Tryz.isAgg217
 z47:=Tryz.sizeOf217
 v47:=Tryz.zeroValue217
 i47:=by kernel_rfl }
open Go.RowKit in
theorem Tryz.stringslite_Clone(s:ByteArray)(w:World)(hlim:s.size≤281474976710656) :
  Calls Tryz.prog 126 #[.string s] w fun e w'=>e=.returned (.string s)∧Below w.heap.size w w':=AnyPu.stringslite_Clone Tryz.laysPu25 s w hlim
def Tryz.lays217_ren:Go.Shelf.Ren:=⟨fun|217=>195|266=>199|n=>n,fun|9=>9|5=>5|3=>3|n=>n,fun|n=>n⟩
theorem Tryz.lays217:Go.Proofs.Lays.n217 Tryz.prog Tryz.lays217_ren:={
 mixed:=by kernel_rfl
 f217:=Tryz.func195.trans (congrArg some (by kernel_rfl))
 f266:=Tryz.func199.trans (congrArg some (by kernel_rfl))
 t3:=Tryz.underlying3
 a3:=Tryz.isAgg3
 z3:=Tryz.sizeOf3
 v3:=Tryz.zeroValue3
 t5:=Tryz.underlying5
 a5:=Tryz.isAgg5
 z5:=Tryz.sizeOf5
 v5:=Tryz.zeroValue5
 t9:=Tryz.underlying9
 a9:=Tryz.isAgg9
 z9:=Tryz.sizeOf9
 v9:=Tryz.zeroValue9 }
open Go.RowKit Go.Lib in
theorem Tryz.stringslite_IndexByte(s:ByteArray)(c:Int)(w:World) :
  Calls Tryz.prog 195 #[.string s,.int .u8 c] w fun e w'=>e=.returned (.int .i64 (Lib.indexByte s.data.toList c.toNat.toUInt8))∧w'=w:=Any.stringslite_IndexByte Tryz.lays217 s c w
end Go.Proofs
namespace Go.Proofs.YtbnfkjkoinbkgaaGreatDoor
set_option maxRecDepth 100000
set_option maxHeartbeats 16000000
theorem Qml{c:UInt8}(h:lsB c=true):(decide (32≤c.toNat)&&decide (c.toNat≤126))=true:=by
 have h0:∀ v:Fin 256,lsB (UInt8.ofNat v.val)=true→(decide (32≤(UInt8.ofNat v.val).toNat)&&decide ((UInt8.ofNat v.val).toNat≤126))=true:=by decide +kernel
 have:=h0 ⟨c.toNat,c.toNat_lt⟩
 simp only[UInt8.ofNat_toNat] at this;exact this h
theorem Qrw{s:LB}(h:Qc1 s=true):plain s=true:=by
 obtain⟨r,rfl,h2,-⟩:=Qb4 h;have hr:(r.all fun c=>decide (32≤c.toNat)&&decide (c.toNat≤126))=true:=List.all_eq_true.2 fun c hc=>Qml (List.all_eq_true.1 h2 c hc)
 unfold plain;rw[List.all_cons,List.all_cons,hr]
 decide
theorem Qbm{e:Epd}(h:Qag e=true):Qbd (Qal e)=true∧dep (Qal e)≤2∧par (Qal e)≤5:=by
 by_cases h1:e.scheme=1
 ·
  obtain⟨hn,hs,hm⟩:=Qbz h h1;unfold Qal;rw[if_neg (by omega)]
  by_cases h0:e.name=[]
  ·
   rw[if_pos h0]
   exact⟨by simp[Qbd,Qan,own],by simp[dep,Qcb],by simp[par,Qa5]⟩
  ·
   rw[if_neg h0]
   have hp:=Qrw (hm.resolve_left h0);exact⟨by simp[Qbd,Qan,own,hp],by simp[dep,Qcb],by simp[par,Qa5]⟩
 ·
  obtain⟨h2,hm,-⟩:=Qbe h h1;unfold Qal;rw[if_pos h2]
  exact⟨by simp[Qbd,Qan,own],by simp[dep,Qcb],by simp[par,Qa5]⟩
theorem Qik{e:Epd}(h:Qag e=true):Siz (Qal e):=by
 by_cases h1:e.scheme=1
 ·
  obtain⟨hn,hs,hm⟩:=Qbz h h1;unfold Qal;rw[if_neg (by omega)]
  by_cases h0:e.name=[]
  ·
   rw[if_pos h0]
   exact⟨by decide,by simp,by simp,⟨by rw[h1];decide,by simp,by simp,trivial⟩,⟨by decide,by simp,by simp,trivial⟩,trivial⟩
  ·
   rw[if_neg h0]
   obtain⟨r,hr,-,-,-,hl⟩:=Qb4 (hm.resolve_left h0);exact⟨by decide,by simp,by simp,⟨by rw[h1];decide,by simp,by simp,trivial⟩,⟨by decide,by omega,by simp,trivial⟩,trivial⟩
 ·
  obtain⟨h2,hm,-,h3,h4⟩:=Qbe h h1;unfold Qal;rw[if_pos h2]
  exact⟨by decide,by simp,by simp,⟨by rw[h2];decide,by simp,by simp,trivial⟩,⟨by decide,by simp,by simp,⟨by omega,by simp,by simp,trivial⟩,⟨by omega,by simp,by simp,trivial⟩,trivial⟩,trivial⟩
theorem Qwv(l:List Itm):wri (.mk 4 0 [] l)=hd 4 l.length++wrs l:=by rw[wri,if_neg (by decide),if_neg (by decide),if_pos rfl]
theorem Q3o(d:LB):wri (.mk 3 0 d [])=hd 3 d.length++d:=by rw[wri,if_neg (by decide),if_pos (by decide)];rfl
theorem Qdv{e:Epd}(h:Qag e=true):(wri (Qal e)).length≤110:=by
 have hl:∀ m n,(hd m n).length≤9:=fun m n=>by rw[Qbo];have:=Qa1 n;omega
 have a0:=hl 4 2;have a1:=hl 0 e.scheme.toNat;by_cases h1:e.scheme=1
 ·
  obtain⟨hn,hs,hm⟩:=Qbz h h1;unfold Qal;rw[if_neg (by omega),Qwv]
  by_cases h0:e.name=[]
  ·
   rw[if_pos h0]
   have a3:=hl 0 0;simp only[wrs,Qln,List.length_append,List.length_cons,List.length_nil,Nat.zero_add,Nat.reduceAdd,List.append_nil];omega
  ·
   rw[if_neg h0]
   obtain⟨r,hr,-,-,-,hl2⟩:=Qb4 (hm.resolve_left h0);have a3:=hl 3 e.name.length;simp only[wrs,Qln,Q3o,List.length_append,List.length_cons,List.length_nil,Nat.zero_add,Nat.reduceAdd,List.append_nil];omega
 ·
  obtain⟨h2,hm,-⟩:=Qbe h h1;unfold Qal;rw[if_pos h2,Qwv]
  have a3:=hl 0 e.node;have a4:=hl 0 e.service;simp only[wrs,Qln,Qwv,List.length_append,List.length_cons,List.length_nil,Nat.zero_add,Nat.reduceAdd,List.append_nil];omega
structure Bun where
 flg:Nat
 crc:Int
 dst:Epd
 src:Epd
 rep:Epd
 tim:Nat
 seq:Nat
 lif:Nat
 blks:List Blk
def Qlb(f:Nat):Bool:=Go.bits BinOp.and IntKind.u64 (f:Int) 1 != 0
def Qgv(f:Nat):Bool:=Go.bits BinOp.and IntKind.u64 (f:Int) 475140==4
def Qcl(t:Nat):Bool:=decide (t=10)||(decide (t=7)||decide (t=6))
def frm(a:List Blk):List Blk→Bool
 | []=>true
 | x::r=>Qdj x&&((decide (x.typ=1)==r.isEmpty)&&((!(a.any fun y=>decide (y.num=x.num)))&&((!(Qcl x.typ&&a.any fun y=>decide (y.typ=x.typ)))&&frm (a++[x]) r)))
def Qcy(l:List Blk):Bool:=decide (1≤l.length∧l.length≤16)&&frm [] l
def Qfw(b:Bun):Bool:=decide (0≤b.crc∧b.crc≤2)&&((Qag b.dst&&(Qag b.src&&Qag b.rep))&&((!(Qby b.dst))&&(!(Qby b.src && !(Qgv b.flg)))))
def Qa3(b:Bun):Int:=if Qlb b.flg=true then 62 else if Qfw b=true∧Qcy b.blks=true then 0 else 60
def BdP(b:Bun):Prop:=b.flg<18446744073709551616∧b.tim<18446744073709551616∧b.seq<18446744073709551616∧b.lif<18446744073709551616
def Wr(b:Bun):Prop:=(0≤b.crc∧b.crc≤2)∧Qag b.dst=true∧Qag b.src=true∧Qag b.rep=true
def Qb3(b:Bun):List Itm:=[.mk 0 7 [] [],.mk 0 b.flg [] [],.mk 0 b.crc.toNat [] [],Qal b.dst,Qal b.src,Qal b.rep,.mk 4 0 [] [.mk 0 b.tim [] [],.mk 0 b.seq [] []],.mk 0 b.lif [] []]
def Qeb(b:Bun)(s:LB):Itm:=.mk 4 0 [] (Qb3 b++if b.crc=0 then [] else [.mk 2 0 s []])
def Qe6(b:Bun):LB:=hd 4 (if b.crc=0 then 8 else 9)++(wrs (Qb3 b)++if b.crc=0 then [] else hd 2 (Qgx b.crc))
def Qbv(b:Bun):LB:=List.replicate (Qgx b.crc) 0
theorem Qj3(b:Bun):(Qbv b).length=Qgx b.crc:=by simp[Qbv]
def Qpn(b:Bun):LB:=Qbb b.crc (Qe6 b++Qbv b)
def Qbx(b:Bun):LB:=Qe6 b++Qpn b
theorem Qfr(b:Bun):(Qpn b).length=Qgx b.crc:=Qdm _ _
theorem Qfn(b:Bun)(s:LB)(hs:s.length=Qgx b.crc):wri (Qeb b s)=Qe6 b++s:=by
 unfold Qeb;rw[wri,if_neg (by decide),if_neg (by decide),if_pos rfl]
 unfold Qe6;by_cases h0:b.crc=0
 ·
  have:s=[]:=List.eq_nil_of_length_eq_zero (by rw[hs,h0];rfl)
  subst this;simp only[if_pos h0,List.append_nil];rw[show(Qb3 b).length=8 from rfl]
 ·
  simp only[if_neg h0];rw[Qs1,show(Qb3 b++[Itm.mk 2 0 s []]).length=9 from rfl,wrs,Qs3,wrs,hs]
  simp[List.append_assoc]
theorem Qeo{b:Bun}(s:LB)(h:Wr b):Qkk (Qeb b s):=by
 obtain⟨-,hd,hs,hr⟩:=h;obtain⟨d1,d2,d3⟩:=Qbm hd;obtain⟨s1,s2,s3⟩:=Qbm hs;obtain⟨r1,r2,r3⟩:=Qbm hr;unfold Qeb Qb3;by_cases h0:b.crc=0
 ·
  simp only[if_pos h0];exact⟨by simp[Qbd,Qan,own,d1,s1,r1],by simp[dep,Qcb];omega,by simp[par,Qa5];omega⟩
 ·
  simp only[if_neg h0];exact⟨by simp[Qbd,Qan,own,d1,s1,r1],by simp[dep,Qcb];omega,by simp[par,Qa5];omega⟩
theorem Qyc{b:Bun}(s:LB)(h:Wr b)(hb:BdP b)(hs:s.length<18446744073709551616):Siz (Qeb b s):=by
 obtain⟨hc,hd,hsr,hr⟩:=h;obtain⟨h1,h2,h3,h4⟩:=hb;have h5:b.crc.toNat<18446744073709551616:=by omega
 have d1:=Qik hd;have s1:=Qik hsr;have r1:=Qik hr;unfold Qeb Qb3;have hrow:∀ t:List Itm,Qja t→Qja ([.mk 0 7 [] [],.mk 0 b.flg [] [],.mk 0 b.crc.toNat [] [],Qal b.dst,Qal b.src,Qal b.rep,.mk 4 0 [] [.mk 0 b.tim [] [],.mk 0 b.seq [] []],.mk 0 b.lif [] []]++t):=fun t ht =>
  ⟨⟨by decide,by simp,by simp,trivial⟩,⟨h1,by simp,by simp,trivial⟩,⟨h5,by simp,by simp,trivial⟩,d1,s1,r1,⟨by decide,by simp,by simp,⟨h2,by simp,by simp,trivial⟩,⟨h3,by simp,by simp,trivial⟩,trivial⟩,⟨h4,by simp,by simp,trivial⟩,ht⟩
 by_cases h0:b.crc=0
 ·
  simp only[if_pos h0];exact⟨by decide,by simp,by simp,hrow [] trivial⟩
 ·
  simp only[if_neg h0];exact⟨by decide,by simp,by simp,hrow _ ⟨⟨by decide,hs,by simp,trivial⟩,trivial⟩⟩
theorem Qi7{b:Bun}(h:Wr b):(Qe6 b).length≤450:=by
 obtain⟨-,d0,s0,r0⟩:=h;have d1:=Qdv d0;have s1:=Qdv s0;have r1:=Qdv r0;have hl:∀ m n,(hd m n).length≤9:=fun m n=>by rw[Qbo];have:=Qa1 n;omega
 unfold Qe6 Qb3;have h1:=hl 4 (if b.crc=0 then 8 else 9);have h2:=hl 0 7;have h3:=hl 0 b.flg;have h4:=hl 0 b.crc.toNat;have h5:=hl 0 b.tim;have h6:=hl 0 b.seq;have h7:=hl 0 b.lif;have h8:=hl 4 2;have h9:=hl 2 (Qgx b.crc);simp only[wrs,Qln,Qwv,List.length_append,List.length_cons,List.length_nil,Nat.zero_add,Nat.reduceAdd,List.append_nil];generalize (hd 4 (if b.crc=0 then 8 else 9)).length=q at *;by_cases h0:b.crc=0
 ·
  rw[if_pos h0,List.length_nil];omega
 ·
  rw[if_neg h0];omega
theorem Qwd(b:Bun):1≤(Qe6 b).length:=by unfold Qe6;simp only[List.length_append,Qbo];omega
theorem Qib{b:Bun}(h:Wr b):(Qbx b).length≤454:=by
 unfold Qbx;rw[List.length_append,Qfr]
 have:=Qi7 h
 have:=Qh0 b.crc
 omega
theorem Qxq{b:Bun}(h:Wr b)(hb:BdP b)(m:LB):Qba (Qbx b++m)=(Qeb b (Qpn b),((Qbx b).length:Int),0):=by
 have hw:=Qfn b (Qpn b) (Qfr b);have:=Qi3 (Qeo (Qpn b) h) (Qyc (Qpn b) h hb (by rw[Qfr];have:=Qh0 b.crc;omega)) m
 rw[hw] at this
 exact this
def Qd9:List Blk→List UInt8 | []=>[]|x::r=>Qlg x++Qd9 r
def Q41(b:Bun):LB:=0x9f::(Qbx b++(Qd9 b.blks++[0xff]))
theorem Qc8{b:Bun}:Qfw b=true↔Wr b∧Qby b.dst=false∧(Qby b.src=true→Qgv b.flg=true):=by
 unfold Qfw Wr;simp only[Bool.and_eq_true,decide_eq_true_eq,Bool.not_eq_true',Bool.and_eq_false_iff,Bool.not_eq_false'];constructor
 ·
  rintro ⟨h1,⟨h2,h3,h4⟩,h5,h6⟩;exact⟨⟨h1,h2,h3,h4⟩,h5,fun h=>h6.resolve_left (by rw[h];decide)⟩
 ·
  rintro ⟨⟨h1,h2,h3,h4⟩,h5,h6⟩;refine⟨h1,⟨h2,h3,h4⟩,h5,?_⟩;cases hn:Qby b.src
  ·
   exact .inl rfl
  ·
   exact .inr (h6 hn)
theorem Qfa{b:Bun}:Qa3 b=0↔Qlb b.flg=false∧Qfw b=true∧Qcy b.blks=true:=by
 unfold Qa3;cases Qlb b.flg <;> by_cases h:Qfw b=true∧Qcy b.blks=true <;> simp[h] <;> simp_all
def PrimAt(l:LB)(b:Bun):Prop:=Wr b∧BdP b∧∃ m,l=Qbx b++m
theorem PrimAt.dec{l:LB}{b:Bun}(h:PrimAt l b):Qba l=(Qeb b (Qpn b),((Qbx b).length:Int),0):=by
 obtain⟨h1,h2,m,rfl⟩:=h;exact Qxq h1 h2 m
end Go.Proofs.YtbnfkjkoinbkgaaGreatDoor
section
namespace Go.Proofs.YtbnfkjkoinbkgaaGreatDoor
set_option maxRecDepth 100000
set_option maxHeartbeats 16000000
open Go.RowKit
end Go.Proofs.YtbnfkjkoinbkgaaGreatDoor
end
namespace Go.Proofs.YtbnfkjkoinbkgaaGreatDoor
set_option maxRecDepth 100000
set_option maxHeartbeats 16000000
open Go.RowKit
open Go.Lib (hid)
theorem Qpg(t n f:Nat)(c:Int)(A:OA)(nd cd:Nat)(d:LB)(w:World)(hd:d.length=nd) :
  Calls Tryz.prog 123 #[Qe3 t n f c A nd cd] w fun e w'=>e=.returned (.bool (Qdj ⟨t,n,f,c,d⟩))∧Below w.heap.size w w':=by
 have C1:=hid (fun W=>Qst t n f c A nd cd d W hd);have q2:=fun (W:World) (u:TypeId) (x:Value)=>run_eql_iface_nil (P:=Tryz.prog) (w:=W) 53 (by kernel_rfl) u x
 clear hd;generalize Qdj ⟨t,n,f,c,d⟩=R at *;unfold Qe3 at *;go_enter Tryz.func123,Tryz.ntmps123;go_wp2_with fail;refine(C1.out _).mono ?_;rintro e w1 ⟨hb,⟨rfl,rfl⟩|⟨rfl,s,rfl⟩⟩
 ·
  have HB:=hid (zb.trans (hb.mono (Qaa _ _)));clear hb;go_wp2_with fail;go_ret;exact⟨rfl,HB.out⟩
 ·
  have HB:=hid (zb.trans (hb.mono (Qaa _ _)));clear hb;unfold bfl at *;go_wp2_with fail;go_ret;exact⟨rfl,HB.out⟩
theorem Qxi(A:OA)(n c:Nat)(l:LB)(w:World)(B:Nat)(h:Rd w B A n l)(hn:n≤140737488355328) :
  Calls Tryz.prog 108 #[.slice A n c] w fun e w'=>e=.returned (.int .u64 (Qc3 l:Int))∧w=w':=by
 have HR:=hid h;clear h;go_enter Tryz.func108,Tryz.ntmps108;go_wp2
 go_loop [3,4] (fun v i=>∃ (k d:Nat),k≤n∧i=.int .i64 k∧v=.int .u64 (d:Int)∧Hid (d=Qc3 (l.take k))∧d<18446744073709551616) (fun _ i=>n - (intOf i).toNat)
 case atStart=>exact⟨0,0,Nat.zero_le _,rfl,rfl,rfl,by decide⟩
 case round =>
  obtain⟨k,d,hk,rfl,rfl,hd,hdl⟩:=hrel;by_cases hlt:k<n
  ·
   obtain⟨b,o,rfl,hb,hcell⟩:=HR.out.2 (by omega);obtain⟨x,hx⟩:∃ x,x=l.getD k 0:=⟨_,rfl⟩
   have hcx:w.cell? ⟨b,o+k,none⟩=some (.int .u8 (x.toNat:Int)):=by rw[hx];exact hcell k hlt
   have Hx:=hid hx;clear hx hcell;have hx1:(x.toNat:Int)<256:=by have:=x.toNat_lt;omega
   have hx0:(0:Int)≤(x.toNat:Int):=by omega
   go_wp2_with fail;go_round
   case rel =>
    have hl:=HR.out.1;refine⟨k+1,(d*256+x.toNat) % 18446744073709551616,by omega,by go_num,?_,?_,Nat.mod_lt _ (by decide)⟩
    ·
     rw[IntKind.wrap_u64,IntKind.wrap_u64];congr 1;omega
    ·
     show _=_;rw[Qdb l k (by omega),← Hx.out,Qc9,← hd.out]
   case measure=>simp[intOf];omega
  ·
   obtain rfl:k=n:=by omega
   have hl:=HR.out.1;have e:l.take k=l:=List.take_of_length_le (by omega);have HE:=hid e;clear e hl;go_wp2
   go_ret;exact⟨by rw[hd.out,HE.out];rfl,rfl⟩
theorem Rd.grown{w w':World}{B n:Nat}{A:OA}{l:LB}{row:Option Nat}(h:Rd w B A n l)(hg:w.grownBy w' row)(hB:B≤w.heap.size)(hne:∀ b o,A=some ⟨b,o,none⟩→row≠some b):Rd w' B A n l :=
 ⟨h.1,fun hn=>by
  obtain⟨b,o,e,hb,hc⟩:=h.2 hn;refine⟨b,o,e,hb,fun i hi=>?_⟩;rw[← hc i hi]
  simp only[World.cell?];rw[hg.block b (by omega) (fun h=>hne b o e h.symm)]⟩
theorem Qdk{P:Program}{ops:Array Oper}{rest:List Oper}{o:Oper}{a:Act}{w:World}{Q:Exit→Act→World→Prop}(hg:o.guard=none)(l c:Operand)(t:TypeId)(hop:o.op=Op.makeSlice t l c)
  (e:TypeId) (ht:P.underlying t=some (.slice e)) (hinfo:(P.info? e).map (fun i=>(i.zero,i.size,i.bytes))=some (some (.int .u8 0),1,1)) (M C:Nat) (x y:Int) (hl:a.eval l=.int .i64 x) (hc:a.eval c=.int .i64 y) (hx:x=(M:Int)) (hy:y=(C:Int)) (hMC:M≤C) (hC:C≤140737488355328)
  (h:∀ w':World,Ob w' w.heap.size e (.slice (some ⟨w.heap.size,0,none⟩) M C) (List.replicate M 0)→Below w.heap.size w w'→wpList P ops Q rest (a.put o.dst (.slice (some ⟨w.heap.size,0,none⟩) M C)) w'):wpList P ops Q (o::rest) a w:=by
 subst hx hy;obtain⟨i,hi,hzz⟩:=Option.map_eq_some_iff.1 hinfo;simp only[Prod.mk.injEq] at hzz;obtain⟨hz,hs,hb⟩:=hzz;have hr:=run_make (P:=P) w t e i (.int .u8 0) ht hi hz .i64 .i64 (M:Int) (C:Int) (by omega) (by omega) (by rw[hb];omega) (by omega);simp only[Int.toNat_natCast,hs,Nat.mul_one] at hr;refine wpList_plain hg fun K hK=>?_
 unfold Oper.wp;simp[execOp,hop,hl,hc,hr,Result.andThen];refine hK _ _ (h _ ⟨?_,.inr ⟨w.heap.size,C,_,by simp,Nat.le_refl _,heap_alloc_new w _,by simpa using hMC,by unfold maxLen;omega,by rw[size_madeCells,Nat.mul_one],?_⟩⟩ zb)
 ·
  simp
 ·
  apply List.ext_getElem?;intro j;have hz1:(Value.int IntKind.u8 0).cells=#[.int .u8 0]:=rfl;rw[hz1]
  by_cases hj:j<M
  ·
   have hj2:j<C:=by omega
   simp[hj,madeCells,hj2,Nat.mod_one,bv]
  ·
   simp[hj];omega
theorem Qqv(x:Int)(n:Nat)(k:Int)(hk:k=(n:Int))(hn:n≤8)(w:World)(hx0:0≤x)(hx1:x<18446744073709551616) :
  Calls Tryz.prog 157 #[.int .u64 x,.int .i64 k] w fun e w'=>∃ A,e=.returned (.slice A n n)∧Rd w' w'.heap.size A n (be x.toNat n)∧Below w.heap.size w w':=by
 subst hk;refine(Qof x (n:Int) w hx0 hx1).mono ?_;rintro e w' ⟨rfl,hr,hb⟩;have hp:psz (n:Int)=n:=by unfold psz;omega
 rw[hp] at hr
 exact⟨_,by rw[hp],Rb.rd hr (Qa9 _ _) (Rb.lt hr),hb⟩
theorem Q0a(N m:Nat)(hm:m=63 - (N % 64+8) % 64):Qkz N=(List.replicate (1+m) (0:UInt8)).set 0 128++be (8*N) 8:=by
 rw[Qkz,hm,Nat.add_comm 1]
 rfl
theorem Qyv(N:Nat)(hN:N<9223372036854775808)(w:World):Calls Tryz.prog 136 #[.int .i64 (N:Int)] w (Qbi 5 (Qkz N) w):=by
 obtain⟨m,hm⟩:∃ m,m=63 - (N % 64+8) % 64:=⟨_,rfl⟩
 have hm64:m<64:=by omega
 have q1:63 - ((N:Int)+8) % 64=(m:Int):=by omega
 have HP:=hid (Q0a N m hm);have hx1:(IntKind.u64.wrap (8*(N:Int))).toNat % 256 ^ 8=(8*N) % 256 ^ 8:=by
  rw[IntKind.wrap_u64];omega
 have hx2:0≤IntKind.u64.wrap (8*(N:Int))∧IntKind.u64.wrap (8*(N:Int))<18446744073709551616:=by
  rw[IntKind.wrap_u64];omega
 have n0:(0:Int)≤(N:Int):=by omega
 go_enter Tryz.func136,Tryz.ntmps136;have C2:=hid (Qqv (IntKind.u64.wrap (8*(N:Int))) 8 8 rfl (by decide));have HE:=hid (Q22 8 _ _ hx1);have HX2:=hid hx2;clear hm hx1 hx2;go_wp2_with (first
  | (refine Qdk rfl (.tmp 13) (.tmp 16) 29 rfl 5 Tryz.underlying29 Qak (1+m) (1+m+8) _ _ rfl rfl (by omega) (by omega) (by omega) (by omega) ?_;intro w1 ho1 hb1;have O1:=hid ho1;have B1:=hid hb1;have cz:=ho1.cell (j:=0) (by simp) (by omega);have fz:=ho1.frozen (by simp) 0;clear ho1 hb1)
  | fail)
 refine(C2.out _ HX2.out.1 HX2.out.2).mono ?_;rintro e w2 ⟨A2,rfl,hr2,hb2⟩;rw[HE.out] at hr2
 have ho:=(O1.out.stored (by simp) 0 128 (u:=.int .u8 128) rfl).below hb2;have hb3:Below w.heap.size w w2:=(B1.out.setCell zr _).trans (hb2.mono (by rw[World.size_setCell];exact B1.out.size));have HO:=hid ho;have HB3:=hid hb3;have HRD:=hid hr2;clear ho hb3 hr2 hb2;go_wp2_with (first
  | (at_builtin;refine Qam rfl (.tmp 20) (.tmp 24) 29 rfl w.heap.size 5 Tryz.underlying29 Qak _ ((List.replicate (1+m) (0:UInt8)).set 0 128) rfl HO.out _ _ 8 8 (be (8*N) 8) rfl HRD.out (by simp;omega) HB3.out.size ?_;intro v3 w3 ho3 hb3;have O3:=hid ho3;have B3:=hid hb3;clear ho3 hb3)
  | fail)
 go_ret;exact⟨_,rfl,by rw[HP.out];exact O3.out,HB3.out.trans B3.out⟩
def RdF(w:World)(F:Nat→Prop)(A:OA)(n:Nat)(l:LB):Prop :=
 l.length=n∧(0<n→∃ b o,A=some ⟨b,o,none⟩∧F b∧∀ i,i<n→w.cell? ⟨b,o+i,none⟩=some (.int .u8 ((l.getD i 0).toNat:Int)))
section
variable {w w':World}{F G:Nat→Prop}{n k:Nat}{A:OA}{l:LB}
theorem RdF.keep(h:RdF w F A n l)(hk:∀ b,F b→w'.heap[b]?=w.heap[b]?):RdF w' F A n l :=
 ⟨h.1,fun hn=>by
  obtain⟨b,o,e,hb,hc⟩:=h.2 hn;refine⟨b,o,e,hb,fun i hi=>?_⟩;rw[← hc i hi]
  simp only[World.cell?];rw[hk b hb]⟩
theorem RdF.rd(h:RdF w F A n l){B:Nat}(hF:∀ b,F b→b<B):Rd w B A n l :=
 ⟨h.1,fun hn=>by
  obtain⟨b,o,e,hb,hc⟩:=h.2 hn;exact⟨b,o,e,hF b hb,hc⟩⟩
theorem Rd.rdF{B:Nat}(h:Rd w B A n l)(hF:∀ b,b<B→F b):RdF w F A n l :=
 ⟨h.1,fun hn=>by
  obtain⟨b,o,e,hb,hc⟩:=h.2 hn;exact⟨b,o,e,hF b hb,hc⟩⟩
theorem RdF.imp(h:RdF w F A n l)(hF:∀ b,F b→G b):RdF w G A n l :=
 ⟨h.1,fun hn=>by
  obtain⟨b,o,e,hb,hc⟩:=h.2 hn;exact⟨b,o,e,hF b hb,hc⟩⟩
theorem RdF.cut(h:RdF w F A n l):RdF w F (A.map (·.add k)) (n - k) (l.drop k):=by
 refine⟨by rw[List.length_drop,h.1],fun hn=>?_⟩;obtain⟨b,o,rfl,hb,hc⟩:=h.2 (by omega);refine⟨b,o+k,by unfold Addr.add;simp,hb,fun i hi=>?_⟩;rw[Nat.add_assoc,hc (k+i) (by omega)]
 simp[List.getD,List.getElem?_drop]
theorem RdF.nil_:RdF w F A 0 []:=⟨rfl,fun h=>absurd h (by omega)⟩
theorem RdF.take(h:RdF w F A n l)(hk:k≤n):RdF w F A k (l.take k):=by
 have hl:=h.1;refine⟨by rw[List.length_take];omega,fun hn=>?_⟩;obtain⟨b,o,e,hb,hc⟩:=h.2 (by omega);refine⟨b,o,e,hb,fun i hi=>?_⟩;rw[hc i (by omega)]
 simp[List.getD,hi]
end
theorem Q2x{P:Program}{w:World}{F:Nat→Prop}{n:Nat}{A:OA}{l:LB}(t e:TypeId)(ht:P.underlying t=some (.slice e))(hz:∀ W:World,(sizeOf e).run P W=.ok 1 W)(c:Nat)(h:RdF w F A n l)(x:Int)(k:Nat)(hx:x=(k:Int))(hk:k≤n)(hc:n≤c) :
  ∃ A' c',(∀ W:World,(Instr.slice t (.slice A n c) (some (.int .i64 x)) none none).run P W=.ok (.slice A' (n - k) c') W)∧n - k≤c'∧c'≤c∧RdF w F A' (n - k) (l.drop k):=by
 subst hx;by_cases hck:c=k
 ·
  refine⟨A,c - k,fun W=>?_,by omega,by omega,?_⟩
  ·
   subst hck;go_simp
  ·
   have hl:=h.1;have e:n - k=0:=by omega
   rw[e,List.drop_eq_nil_of_le (by omega)]
   exact RdF.nil_
 ·
  refine⟨A.map (·.add k),c - k,fun W=>?_,by omega,by omega,h.cut⟩;go_simp
theorem Q2y{P:Program}{w:World}{F:Nat→Prop}{n:Nat}{A:OA}{l:LB}(t e:TypeId)(ht:P.underlying t=some (.slice e))(hz:∀ W:World,(sizeOf e).run P W=.ok 1 W)(c:Nat)(h:RdF w F A n l)(x:Int)(k:Nat)(hx:x=(k:Int))(hk:k≤n)(hc:n≤c) :
  ∃ A' c',(∀ W:World,(Instr.slice t (.slice A n c) none (some (.int .i64 x)) none).run P W=.ok (.slice A' k c') W)∧k≤c'∧c'≤c∧RdF w F A' k (l.take k):=by
 subst hx;by_cases hc0:c=0
 ·
  have hk0:k=0:=by omega
  subst hk0 hc0;refine⟨A,0,fun W=>?_,by omega,by omega,h.take hk⟩;go_simp
 ·
  refine⟨A,c,fun W=>?_,by omega,by omega,h.take hk⟩;go_simp
  intro h;omega
structure Pt where
 A:OA
 n:Nat
 c:Nat
 l:LB
def Q47(w:World)(F:Nat→Prop)(p:Pt):Prop:=RdF w F p.A p.n p.l∧p.n≤p.c∧p.c≤9223372036854775807
def PtsF(w:World)(F:Nat→Prop)(A:OA)(n:Nat)(ps:List Pt):Prop :=
 ps.length=n∧(0<n→∃ b o,A=some ⟨b,o,none⟩∧F b∧∀ i p,ps[i]?=some p→w.cell? ⟨b,o+i,none⟩=some (.slice p.A p.n p.c))∧∀ p∈ps,Q47 w F p
def Qdn(ps:List Pt):LB:=ps.flatMap Pt.l
theorem PtsF.keep{w w':World}{F:Nat→Prop}{A:OA}{n:Nat}{ps:List Pt}(h:PtsF w F A n ps)(hk:∀ b,F b→w'.heap[b]?=w.heap[b]?):PtsF w' F A n ps :=
 ⟨h.1,fun hn=>by
  obtain⟨b,o,e,hb,hc⟩:=h.2.1 hn;refine⟨b,o,e,hb,fun i p hp=>?_⟩;rw[← hc i p hp]
  simp only[World.cell?];rw[hk b hb],fun p hp=>⟨(h.2.2 p hp).1.keep hk,(h.2.2 p hp).2⟩⟩
theorem Qwc{ps:List Pt}{i:Nat}{p:Pt}(h:ps[i]?=some p):Qdn (ps.take (i+1))=Qdn (ps.take i)++p.l:=by
 obtain⟨hl,rfl⟩:=List.getElem?_eq_some_iff.1 h;unfold Qdn;rw[List.take_succ_eq_append_getElem hl,List.flatMap_append]
 simp
end Go.Proofs.YtbnfkjkoinbkgaaGreatDoor
