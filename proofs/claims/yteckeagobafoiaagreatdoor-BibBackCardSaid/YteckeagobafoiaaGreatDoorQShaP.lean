import Derived.Test.YteckeagobafoiaaGreatDoorQAsW
import Derived.Test.YteckeagobafoiaaGreatDoorQCborM
import Derived.Test.YteckeagobafoiaaGreatDoorQCborR
import Derived.Test.YteckeagobafoiaaGreatDoorQKCheck
import Derived.Test.YteckeagobafoiaaGreatDoorQKHead
import Derived.Test.YteckeagobafoiaaGreatDoorQKMake
import Derived.Test.YteckeagobafoiaaGreatDoorQNumB
import Derived.Test.YteckeagobafoiaaGreatDoorQNumG
import Derived.Test.YteckeagobafoiaaGreatDoorQSame
import Derived.Test.YteckeagobafoiaaGreatDoorQShaB
import Derived.Test.YteckeagobafoiaaGreatDoorRows
import Derived.LaidEql
import Derived.Stop.Asserts
import Derived.RowKitTokens
import Derived.WalkKit
import Derived.Stop.IfaceNil
import Derived.Lib.Bytealg
import Derived.Lib.IndexLaws
import Derived.Lib.ParseIntB
import Derived.Lib.Strings
import Derived.Shelf.Small.Strs
import Derived.Shelf.Strings.Search1
import Derived.Shelf.Small.Wraps
import Derived.Ground.MpProg
import Derived.Shelf.Pu.Clone
import Derived.Below
import Derived.BigCall
import Derived.BigGuard
import Derived.BigGuardPart
import Derived.BigQuiet
import Derived.Deep.DeepCutAuto
import Derived.Deep.DeepFit
import Derived.Deep.Draws
import Derived.Deep.OwnRows
import Derived.Deep.QuietTactic
import Derived.Laws.AppendOwn
import Derived.Laws.BitsAllLaws
import Derived.Laws.BytesArg
import Derived.Laws.IdiomStrings
import Derived.Laws.NewBlocks
import Derived.Laws.Strings3
import Derived.Lib.EndianBits
import Derived.Lib.HexFns
import Derived.Lib.Hide
import Derived.Lib.ItoaNum
import Derived.Lib.SlBytesConst
import Derived.Lib.Walk
import Derived.Outline
import Derived.WalkLawsBesides
import Derived.RegionTactic
import Derived.Deep.RegionLawGrows
import Derived.Laws.MakeOwn
namespace Go.Proofs.YteckeagobafoiaaGreatDoor
set_option maxRecDepth 100000
set_option maxHeartbeats 16000000
open Go.Lib (decDigits)
structure Epd where
 scheme:Int
 name:List UInt8
 node:Nat
 service:Nat
def letterB (c:UInt8):Bool:=(decide (97≤c.toNat)&&decide (c.toNat≤122))||((decide (48≤c.toNat)&&decide (c.toNat≤57))||(c==46||(c==45||c==95)))
def lsB (c:UInt8):Bool:=c==47||letterB c
def toSlash (s:List UInt8):Nat:=(s.takeWhile fun c=>c != 47).length
def nameB (s:List UInt8):Bool :=
 decide (s.length≤64)&&(match s with
  | a::b::r=>(a==47&&b==47)&&(r.all lsB&&(decide (1≤toSlash r)&&decide (toSlash r<r.length)))
  | _=>false)
def noneB (e:Epd):Bool:=e.scheme==1&&(e.name.isEmpty&&(e.node==0&&e.service==0))
def checkB (e:Epd):Bool :=
 if e.scheme=1 then (e.node==0&&e.service==0)&&(e.name.isEmpty||nameB e.name)
 else e.scheme==2&&(e.name.isEmpty&&(decide (0<e.node)&&(decide (e.node≤4294967295)&&decide (e.service≤4294967295))))
def itemE (e:Epd):Itm :=
 .mk 4 0 [] [.mk 0 e.scheme.toNat [] [],if e.scheme=2 then .mk 4 0 [] [.mk 0 e.node [] [],.mk 0 e.service [] []] else if e.name=[] then .mk 0 0 [] [] else .mk 3 0 e.name []]
theorem check_dtn {e:Epd} (h:checkB e=true) (h1:e.scheme=1):e.node=0∧e.service=0∧(e.name=[]∨nameB e.name=true):=by
 unfold checkB at h
 rw [if_pos h1] at h
 simp only [Bool.and_eq_true,Bool.or_eq_true,beq_iff_eq,List.isEmpty_iff] at h
 exact ⟨h.1.1,h.1.2,h.2⟩
theorem check_ipn {e:Epd} (h:checkB e=true) (h1:e.scheme≠1):e.scheme=2∧e.name=[]∧0<e.node∧e.node≤4294967295∧e.service≤4294967295:=by
 unfold checkB at h
 rw [if_neg h1] at h
 simp only [Bool.and_eq_true,beq_iff_eq,List.isEmpty_iff,decide_eq_true_eq] at h
 exact ⟨h.1,h.2.1,h.2.2.1,h.2.2.2.1,h.2.2.2.2⟩
theorem name_head {s:List UInt8} (h:nameB s=true):∃ r,s=47::47::r∧r.all lsB=true∧1≤toSlash r∧toSlash r<r.length∧s.length≤64:=by
 unfold nameB at h
 match s,h with
 | [],h=>simp at h
 | [_],h=>simp at h
 | a::b::r,h =>
  simp only [Bool.and_eq_true,beq_iff_eq,decide_eq_true_eq] at h
  obtain ⟨h1,⟨rfl,rfl⟩,h2,h3,h4⟩:=h
  exact ⟨r,rfl,h2,h3,h4,h1⟩
theorem epd_ext {a b:Epd} (h1:a.scheme=b.scheme) (h2:a.name=b.name) (h3:a.node=b.node) (h4:a.service=b.service):a=b:=by
 cases a;cases b;simp_all
theorem item_inj {a b:Epd} (ha:checkB a=true) (hb:checkB b=true) (h:itemE a=itemE b):a=b:=by
 unfold itemE at h
 simp only [Itm.mk.injEq,List.cons.injEq,and_true,true_and] at h
 obtain ⟨h1,h2⟩:=h
 by_cases a1:a.scheme=1
 ·
  obtain ⟨an,ac,am⟩:=check_dtn ha a1
  by_cases b1:b.scheme=1
  ·
   obtain ⟨bn,bs,bm⟩:=check_dtn hb b1
   have na:¬ a.scheme=2:=by omega
   have nb:¬ b.scheme=2:=by omega
   rw [if_neg na,if_neg nb] at h2
   refine epd_ext (a1.trans b1.symm) ?_ (an.trans bn.symm) (ac.trans bs.symm)
   by_cases a0:a.name=[]
   ·
    by_cases b0:b.name=[]
    ·
     rw [a0,b0]
    ·
     rw [if_pos a0,if_neg b0] at h2;simp at h2
   ·
    by_cases b0:b.name=[]
    ·
     rw [if_neg a0,if_pos b0] at h2;simp at h2
    ·
     rw [if_neg a0,if_neg b0] at h2;simpa using h2
  ·
   obtain ⟨b2,_⟩:=check_ipn hb b1
   rw [a1,b2] at h1;simp at h1
 ·
  obtain ⟨a2,an,_⟩:=check_ipn ha a1
  by_cases b1:b.scheme=1
  ·
   rw [a2,b1] at h1;simp at h1
  ·
   obtain ⟨b2,bn,_⟩:=check_ipn hb b1
   rw [if_pos a2,if_pos b2] at h2
   simp at h2
   exact epd_ext (a2.trans b2.symm) (an.trans bn.symm) h2.1 h2.2
open Go.Lib (decDigits)
open Go.RowKit
end Go.Proofs.YteckeagobafoiaaGreatDoor
/- In the place of EidA where the whole of layer 3 lies in the dump (imports alone). -/
/- What write and writeAll of layer 3 return, of every right item: its bytes behind those that were there. -/
namespace Go.Proofs.YteckeagobafoiaaGreatDoor
set_option maxRecDepth 100000
set_option maxHeartbeats 16000000
open Go.RowKit
open Go.Lib (hid)
structure Run (v:Value) (w:World) (v':Value) (w':World):Prop where
 grown:w.grownBy w' v.ownBlock
 own:v'.ownBlock=v.ownBlock∨∃ k,v'.ownBlock=some k∧w.heap.size≤k
section
variable {v v1 v2:Value} {w w1 w2:World} {base:Nat} {t:TypeId} {l:List UInt8}
theorem Run.refl (v:Value) (w:World):Run v w v w:=⟨World.grownBy.refl w _,.inl rfl⟩
theorem Run.trans (h:Run v w v1 w1) (k:Run v1 w1 v2 w2):Run v w v2 w2:=by
 refine ⟨⟨k.grown.os.trans h.grown.os,k.grown.tape.trans h.grown.tape,k.grown.output.trans h.grown.output,Nat.le_trans h.grown.size k.grown.size,fun i hi hne=>?_⟩,?_⟩
 ·
  refine (k.grown.block i (Nat.lt_of_lt_of_le hi h.grown.size) (fun e=>?_)).trans (h.grown.block i hi hne)
  rcases h.own with ho|⟨q,ho,hq⟩
  ·
   exact hne (e.trans ho)
  ·
   rw [ho] at e;injection e with e;omega
 ·
  rcases k.own with ko|⟨q,ko,hq⟩
  ·
   rcases h.own with ho|⟨q,ho,hq⟩
   ·
    exact .inl (ko.trans ho)
   ·
    exact .inr ⟨q,ko.trans ho,hq⟩
  ·
   exact .inr ⟨q,ko,Nat.le_trans h.grown.size hq⟩
theorem Run.quiet (h:Run v w v1 w1) (hb:Below w1.heap.size w1 w2):Run v w v1 w2 :=
 h.trans ⟨⟨hb.os,hb.tape,hb.output,hb.size,fun k hk _=>hb.block k hk⟩,.inl rfl⟩
theorem Run.alloc (h:Run v w v1 w1) (o:Obj):Run v w v1 (w1.alloc o):=h.quiet ((Below.refl _ _).alloc (Nat.le_refl _) o)
theorem Run.drew (h:Run v w v1 w1):Run v w v1 w1.drew:=h.quiet ((Below.refl _ _).drew)
theorem Run.below (h:Run v w v1 w1) (ho:Ob w base t v l) (hbase:base≤w.heap.size):Below base w w1 :=
 ⟨h.grown.os,h.grown.tape,h.grown.output,h.grown.size,fun k hk=>h.grown.block k (by omega) (fun e=>by have:=(World.ownsRow.lt ho k e.symm).1;omega)⟩
theorem Run.cell (h:Run v w v1 w1) {p:Addr} (hp:p.block<w.heap.size) (hne:v.ownBlock≠some p.block):w1.cell? p=w.cell? p :=
 World.cell?_of_block (w:=w) (h.grown.block p.block hp (fun e=>hne e.symm))
theorem Run.ne (h:Run v w v1 w1) {k:Nat} (hk:k<w.heap.size) (hne:v.ownBlock≠some k):v1.ownBlock≠some k:=fun e=>by
 rcases h.own with ho|⟨q,ho,hq⟩
 ·
  exact hne (ho.symm.trans e)
 ·
  rw [ho] at e;injection e with e;omega
end
def GivesW (t:TypeId) (base:Nat) (vb:Value) (l:List UInt8) (w:World) (e:Ending) (w':World):Prop:=∃ v,e=.returned v∧Ob w' base t v l∧Run vb w v w'
def CWriteIH (m:Nat):Prop:=∀ (x:Itm) (v vb:Value) (lb:List UInt8) (w:World) (base:Nat),par x<m→right x=true→lb.length+(wri x).length≤140737488355328→base≤w.heap.size→RdI w base v x→Ob w base 5 vb lb →
  Calls Tryz.prog 157 #[vb,v] w (GivesW 5 base vb (lb++wri x) w)
section
variable {P:Program} {w:World}
theorem wpList_appR {ops:Array Oper} {rest:List Oper} {o:Oper} {a:Act} {Q:Exit→Act→World→Prop} (hgd:o.guard=none) (s x:Operand) (t:TypeId)
  (ho:o.op=.call { callee:=.builtin .append,args:=#[s,x],argTypes:=#[t,t] })
  (base:Nat) (e:TypeId) (ht:P.underlying t=some (.slice e)) (hinfo:(P.info? e).map (fun i=>(i.zero,i.size,i.bytes))=some (some (.int .u8 0),1,1))
  (v:Value) (l:List UInt8) (hs:a.eval s=v) (hown:Ob w base e v l) (B:Nat) (A:Option Addr) (m c:Nat) (news:List UInt8) (hx:a.eval x=.slice A m c) (hr:Rd w B A m news)
  (hbound:l.length+m≤140737488355328) (hbase:base≤w.heap.size)
  (h:∀ v' w',Ob w' base e v' (l++news)→Run v w v' w'→wpList P ops Q rest (a.put o.dst v') w'):wpList P ops Q (o::rest) a w :=
 wpList_app hgd s x t ho base e ht hinfo v l hs hown B A m c news hx hr hbound hbase fun v' w' h1 h2 h3 =>
  h v' w' h1 ⟨h2,h3.imp id fun e=>⟨_,e,Nat.le_refl _⟩⟩
theorem step_appR {ops:Array Oper} {o:Oper} {a:Act} {K:Act→World→Prop} {Q:Exit→Act→World→Prop} {E:Prop} (hgd:o.guard=none) (s x:Operand) (t:TypeId)
  (ho:o.op=.call { callee:=.builtin .append,args:=#[s,x],argTypes:=#[t,t] })
  (base:Nat) (e:TypeId) (ht:P.underlying t=some (.slice e)) (hinfo:(P.info? e).map (fun i=>(i.zero,i.size,i.bytes))=some (some (.int .u8 0),1,1))
  (v:Value) (l:List UInt8) (hs:a.eval s=v) (hown:Ob w base e v l) (B:Nat) (A:Option Addr) (m c:Nat) (news:List UInt8) (hx:a.eval x=.slice A m c) (hr:Rd w B A m news)
  (hbound:l.length+m≤140737488355328) (hbase:base≤w.heap.size)
  (h:∀ v' w',Ob w' base e v' (l++news)→Run v w v' w'→K (a.put o.dst v') w'):if Region.wanted o (yielded ops a.tmps)=true then Oper.wp P o a w K Q else E:=by
 have hw:Region.wanted o (yielded ops a.tmps)=true:=by simp [Region.wanted,hgd]
 rw [if_pos hw]
 obtain ⟨v',w',hrun,h2,h3,h4⟩:=run_app (P:=P) w base t o.type e ht hinfo v l hown B A m c news hr hbound hbase
 unfold Oper.wp execOp
 simp only [ho,resolve,invoke,builtin,Sem.run_bind,Sem.run_pure,Result.andThen_ok,List.map_toArray,List.map_cons,List.map_nil,hs,hx,hrun]
 exact h v' w' h2 ⟨h3,h4.imp id fun e=>⟨_,e,Nat.le_refl _⟩⟩
end
theorem cwriteAll (m N cl base:Nat) (AL:Option Addr) (l:List Itm) (vb:Value) (lb:List UInt8) (w:World) (hm:pars l<m) (hbase:base≤w.heap.size) (hlen:lb.length+(wrs l).length≤140737488355328) (hrt:rights l=true) (h5:N≤cl∧N≤140737488355328)
  (IH:Hid (CWriteIH m)) (H7:Hid (0<N→∃ b o,AL=some ⟨b,o,none⟩∧b<base∧RdIs w base b o l)) (HL:Hid (l.length=N)) (ho:Ob w base 5 vb lb) :
  Calls Tryz.prog 194 #[vb,.slice AL N cl] w (GivesW 5 base vb (lb++wrs l) w):=by
 have HO:=hid ho
 have HRT:=hid hrt
 have HLEN:=hid hlen
 clear ho hrt hlen
 go_enter Tryz.func194,Tryz.ntmps194
 go_wp2_with fail
 go_loopw [0,9] (fun bv i wr=>∃ j:Nat,j≤N∧i=.int .i64 j∧Hid (Ob wr base 5 bv (lb++wrs (l.take j)))∧Hid (Run vb w bv wr)) (fun _ i _=>N - (intOf i).toNat)
 case atStart=>exact ⟨0,Nat.zero_le _,rfl,by show Ob _ _ _ _ _;rw [List.take_zero,wrs,List.append_nil];exact HO.out,Run.refl _ _⟩
 case round =>
  obtain ⟨j,hj,rfl,hob,hrun⟩:=hrel
  have hbel:=hid (hrun.out.below HO.out hbase)
  by_cases hlt:j<N
  ·
   obtain ⟨b,o,rfl,hb,hs⟩:=H7.out (by omega)
   have hjl:j<l.length:=by rw [HL.out];exact hlt
   obtain ⟨c0,c1,c2,c3,g0,g1,g2,g3,gx⟩:=hs.get j hjl
   have e0:wr.cell? ⟨b,o+j*4,none⟩=some c0:=(hbel.out.cell (p:=⟨b,o+j*4,none⟩) hb).trans g0
   have e1:wr.cell? ⟨b,o+j*4+1,none⟩=some c1:=(hbel.out.cell (p:=⟨b,o+j*4+1,none⟩) hb).trans g1
   have e2:wr.cell? ⟨b,o+j*4+2,none⟩=some c2:=(hbel.out.cell (p:=⟨b,o+j*4+2,none⟩) hb).trans g2
   have e3:wr.cell? ⟨b,o+j*4+3,none⟩=some c3:=(hbel.out.cell (p:=⟨b,o+j*4+3,none⟩) hb).trans g3
   have hz:base≤wr.heap.size:=Nat.le_trans hbase hbel.out.size
   have htk:=wrs_take l j hjl
   have htl:=wrs_take_len l (j+1)
   have hpg:par (l[j]'hjl)≤pars l:=par_get _
   rw [htk,List.length_append] at htl
   have hll:=HLEN.out
   obtain ⟨k1,n1,A1,nd1,cd1,AL1,nl1,cl1,hf⟩:=gx.form
   injection hf with hf
   simp only [Array.mk.injEq,List.cons.injEq,and_true] at hf
   obtain ⟨rfl,rfl,rfl,rfl⟩:=hf
   have C1:=hid (IH.out (l[j]'hjl) _ _ (lb++wrs (l.take j)) (wr.alloc (.cells #[.int .i64 k1,.int .u64 (n1:Int),.slice A1 nd1 cd1,.slice AL1 nl1 cl1] 94)) base (by omega) (right_get HRT.out hjl) (by rw [List.length_append];omega) (Nat.le_trans hz (le_alloc _ _)) ((gx.below hbel.out).alloc hz _) (hob.out.alloc _))
   have HTK:=hid htk
   generalize wri (l[j]'hjl)=WX at *
   clear g0 g1 g2 g3 gx hs htk htl hll hpg
   go_wp2_with fail
   refine C1.out.mono ?_
   rintro e w2 ⟨v2,rfl,ho2,hb2⟩
   have HO2:=hid ho2
   have HB2:=hid ((hrun.out.alloc _).trans hb2)
   clear ho2 hb2 e0 e1 e2 e3
   go_wp2_with fail
   go_roundw
   case rel=>exact ⟨j+1,by omega,by go_num,by show Ob _ _ _ _ _;rw [HTK.out,← List.append_assoc];exact HO2.out,HB2.out⟩
   case measure=>simp [intOf];omega
  ·
   obtain rfl:j=N:=by omega
   have hfin:=hob.out
   rw [List.take_of_length_le (by rw [HL.out];exact Nat.le_refl _)] at hfin
   have HF:=hid hfin
   clear hfin
   go_wp2_with fail
   go_ret
   exact ⟨_,rfl,HF.out,hrun.out⟩
theorem Ob.apart {w:World} {base:Nat} {t:TypeId} {v:Value} {l:List UInt8} (h:Ob w base t v l):v.ownBlock≠some w.heap.size:=fun e=>by
 have:=(World.ownsRow.lt h _ e).2
 omega
theorem headK (k:Int) (n:Nat) (h0:0≤k) (h7:k≤7):headB k n=hd k.toNat n:=by rw [headB,if_neg (by omega)]
theorem cwrite_uint (n nd cd N cl base:Nat) (A AL:Option Addr) (vb:Value) (lb:List UInt8) (w:World) (hn:n<18446744073709551616) (hbase:base≤w.heap.size) (hlen:lb.length+(hd 0 n).length≤140737488355328) (ho:Ob w base 5 vb lb) :
  Calls Tryz.prog 157 #[vb,.agg #[.int .i64 0,.int .u64 (n:Int),.slice A nd cd,.slice AL N cl]] w (GivesW 5 base vb (lb++hd 0 n) w):=by
 have C1:=hid (fun W=>khead_any 0 n W (by decide) hn)
 rw [headK 0 n (by decide) (by decide),show (0:Int).toNat=0 from rfl] at C1
 have HO:=hid (ho.alloc (.cells #[.int .i64 0,.int .u64 (n:Int),.slice A nd cd,.slice AL N cl] 94))
 generalize hd 0 n=H at *
 have HLEN:=hid hlen
 have HBS:=hid hbase
 clear ho hlen hbase
 go_enter Tryz.func157,Tryz.ntmps157
 go_wp2_with fail
 refine (C1.out _).mono ?_
 rintro e w1 ⟨v,rfl,ho1,hb1⟩
 obtain ⟨A2,c2,rfl,hc2,hm2,hr2⟩:=ho1.rd
 have HR:=hid hr2
 have HB:=hid hb1
 have hz1:w.heap.size+1≤w1.heap.size:=by have:=hb1.size;simpa using this
 have HZ:=hid (Nat.le_trans HBS.out (Nat.le_of_succ_le hz1))
 clear ho1 hr2 hb1
 go_wp2_with (first
  | (at_builtin;refine wpList_appR rfl (.tmp 9) (.tmp 14) 29 rfl base 5 Tryz.underlying29 info_u8 vb lb rfl (HO.out.below HB.out) _ _ _ _ H rfl HR.out HLEN.out HZ.out ?_;intro v3 w3 ho3 hb3;have O3:=hid ho3;have B3:=hid hb3;clear ho3 hb3)
  | fail)
 go_ret
 exact ⟨_,rfl,O3.out,(((Run.refl vb w).alloc _).quiet HB.out).trans B3.out⟩
theorem cwrite_text2 (nd cd N cl base:Nat) (A AL:Option Addr) (d:List UInt8) (vb:Value) (lb:List UInt8) (w:World) (hnd:nd≤140737488355328) (hrd:Rd w base A nd d) (hbase:base≤w.heap.size) (hlen:lb.length+(hd 2 d.length++d).length≤140737488355328) (ho:Ob w base 5 vb lb) :
  Calls Tryz.prog 157 #[vb,.agg #[.int .i64 2,.int .u64 0,.slice A nd cd,.slice AL N cl]] w (GivesW 5 base vb (lb++(hd 2 d.length++d)) w):=by
 rw [hrd.1] at hlen ⊢
 have C1:=hid (fun W=>khead_any 2 nd W (by decide) (by omega))
 rw [headK 2 nd (by decide) (by decide),show (2:Int).toNat=2 from rfl] at C1
 have HO:=hid (ho.alloc (.cells #[.int .i64 2,.int .u64 0,.slice A nd cd,.slice AL N cl] 94))
 have HAP:=hid ho.apart
 have HRD:=hid (hrd.alloc hbase (.cells #[.int .i64 2,.int .u64 0,.slice A nd cd,.slice AL N cl] 94))
 have hdl:=hrd.1
 rw [List.length_append,hdl] at hlen
 generalize hd 2 nd=H at *
 have HLEN:=hid hlen
 have HBS:=hid hbase
 clear ho hlen hbase hrd hdl
 go_enter Tryz.func157,Tryz.ntmps157
 go_wp2_with fail
 refine (C1.out _).mono ?_
 rintro e w1 ⟨v,rfl,ho1,hb1⟩
 obtain ⟨A2,c2,rfl,hc2,hm2,hr2⟩:=ho1.rd
 have HR:=hid hr2
 have HB:=hid hb1
 have hz1:w.heap.size+1≤w1.heap.size:=by have:=hb1.size;simpa using this
 have HZ:=hid (Nat.le_trans HBS.out (Nat.le_of_succ_le hz1))
 have HZ1:=hid hz1
 have q2:w1.cell? ⟨w.heap.size,2,none⟩=some (.slice A nd cd):=(hb1.cell (p:=⟨w.heap.size,2,none⟩) (by simp)).trans (by simp)
 clear ho1 hr2 hb1 hz1
 go_wp2_with (first
  | (at_builtin;refine wpList_appR rfl (.tmp 19) (.tmp 26) 29 rfl base 5 Tryz.underlying29 info_u8 vb lb rfl (HO.out.below HB.out) _ _ _ _ H rfl HR.out (by have:=HLEN.out;omega) HZ.out ?_;intro v3 w3 ho3 hb3;have O3:=hid ho3;have B3:=hid hb3;have q3:=(hb3.cell (p:=⟨w.heap.size,2,none⟩) HZ1.out HAP.out).trans q2;clear ho3 hb3 q2)
  | (at_builtin;refine wpList_appR rfl (.tmp 28) (.tmp 30) 29 rfl base 5 Tryz.underlying29 info_u8 v3 (lb++H) rfl O3.out base A nd cd d rfl ((HRD.out.below (HB.out.mono (Nat.le_trans HBS.out (le_alloc _ _)))).below (B3.out.below (HO.out.below HB.out) HZ.out)) (by have:=HLEN.out;rw [List.length_append];omega) (Nat.le_trans HZ.out B3.out.grown.size) ?_;intro v4 w4 ho4 hb4;have O4:=hid ho4;have B4:=hid hb4;clear ho4 hb4)
  | fail)
 go_ret
 exact ⟨_,rfl,by rw [← List.append_assoc];exact O4.out,((((Run.refl vb w).alloc _).quiet HB.out).trans B3.out).trans B4.out⟩
theorem cwrite_text3 (nd cd N cl base:Nat) (A AL:Option Addr) (d:List UInt8) (vb:Value) (lb:List UInt8) (w:World) (hnd:nd≤140737488355328) (hrd:Rd w base A nd d) (hbase:base≤w.heap.size) (hlen:lb.length+(hd 3 d.length++d).length≤140737488355328) (ho:Ob w base 5 vb lb) :
  Calls Tryz.prog 157 #[vb,.agg #[.int .i64 3,.int .u64 0,.slice A nd cd,.slice AL N cl]] w (GivesW 5 base vb (lb++(hd 3 d.length++d)) w):=by
 rw [hrd.1] at hlen ⊢
 have C1:=hid (fun W=>khead_any 3 nd W (by decide) (by omega))
 rw [headK 3 nd (by decide) (by decide),show (3:Int).toNat=3 from rfl] at C1
 have HO:=hid (ho.alloc (.cells #[.int .i64 3,.int .u64 0,.slice A nd cd,.slice AL N cl] 94))
 have HAP:=hid ho.apart
 have HRD:=hid (hrd.alloc hbase (.cells #[.int .i64 3,.int .u64 0,.slice A nd cd,.slice AL N cl] 94))
 have hdl:=hrd.1
 rw [List.length_append,hdl] at hlen
 generalize hd 3 nd=H at *
 have HLEN:=hid hlen
 have HBS:=hid hbase
 clear ho hlen hbase hrd hdl
 go_enter Tryz.func157,Tryz.ntmps157
 go_wp2_with fail
 refine (C1.out _).mono ?_
 rintro e w1 ⟨v,rfl,ho1,hb1⟩
 obtain ⟨A2,c2,rfl,hc2,hm2,hr2⟩:=ho1.rd
 have HR:=hid hr2
 have HB:=hid hb1
 have hz1:w.heap.size+1≤w1.heap.size:=by have:=hb1.size;simpa using this
 have HZ:=hid (Nat.le_trans HBS.out (Nat.le_of_succ_le hz1))
 have HZ1:=hid hz1
 have q2:w1.cell? ⟨w.heap.size,2,none⟩=some (.slice A nd cd):=(hb1.cell (p:=⟨w.heap.size,2,none⟩) (by simp)).trans (by simp)
 clear ho1 hr2 hb1 hz1
 go_wp2_with (first
  | (at_builtin;refine wpList_appR rfl (.tmp 19) (.tmp 26) 29 rfl base 5 Tryz.underlying29 info_u8 vb lb rfl (HO.out.below HB.out) _ _ _ _ H rfl HR.out (by have:=HLEN.out;omega) HZ.out ?_;intro v3 w3 ho3 hb3;have O3:=hid ho3;have B3:=hid hb3;have q3:=(hb3.cell (p:=⟨w.heap.size,2,none⟩) HZ1.out HAP.out).trans q2;clear ho3 hb3 q2)
  | (at_builtin;refine wpList_appR rfl (.tmp 28) (.tmp 30) 29 rfl base 5 Tryz.underlying29 info_u8 v3 (lb++H) rfl O3.out base A nd cd d rfl ((HRD.out.below (HB.out.mono (Nat.le_trans HBS.out (le_alloc _ _)))).below (B3.out.below (HO.out.below HB.out) HZ.out)) (by have:=HLEN.out;rw [List.length_append];omega) (Nat.le_trans HZ.out B3.out.grown.size) ?_;intro v4 w4 ho4 hb4;have O4:=hid ho4;have B4:=hid hb4;clear ho4 hb4)
  | fail)
 go_ret
 exact ⟨_,rfl,by rw [← List.append_assoc];exact O4.out,((((Run.refl vb w).alloc _).quiet HB.out).trans B3.out).trans B4.out⟩
theorem cwrite_arr4 (m nd cd N cl base:Nat) (A AL:Option Addr) (l:List Itm) (vb:Value) (lb:List UInt8) (w:World) (hm:pars l<m) (hbase:base≤w.heap.size) (hlen:lb.length+(hd 4 N++wrs l).length≤140737488355328) (hrt:rights l=true) (h5:N≤cl∧N≤140737488355328)
  (IH:Hid (CWriteIH m)) (H7:0<N→∃ b o,AL=some ⟨b,o,none⟩∧b<base∧RdIs w base b o l) (HL:Hid (l.length=N)) (ho:Ob w base 5 vb lb) :
  Calls Tryz.prog 157 #[vb,.agg #[.int .i64 4,.int .u64 0,.slice A nd cd,.slice AL N cl]] w (GivesW 5 base vb (lb++(hd 4 N++wrs l)) w):=by
 have C1:=hid (fun W=>khead_any 4 N W (by decide) (by omega))
 rw [headK 4 N (by decide) (by decide),show (4:Int).toNat=4 from rfl] at C1
 have HO:=hid (ho.alloc (.cells #[.int .i64 4,.int .u64 0,.slice A nd cd,.slice AL N cl] 94))
 have HAP:=hid ho.apart
 rw [List.length_append] at hlen
 generalize hd 4 N=H at *
 have HO0:=hid ho
 have C2:=hid (fun (W:World) v (hr:Run vb w v W) (ho:Ob W base 5 v (lb++H))=>have hb:=hr.below HO0.out hbase;cwriteAll m N cl base AL l v (lb++H) W hm (Nat.le_trans hbase hb.size) (by rw [List.length_append];omega) hrt h5 IH (fun h0=>by
  obtain ⟨b,o,ea,hb2,hs⟩:=H7 h0
  exact ⟨b,o,ea,hb2,hs.below hb2 hb⟩) HL ho)
 generalize wrs l=L at *
 have HLEN:=hid hlen
 have HBS:=hid hbase
 clear ho hlen hbase H7 hm hrt
 go_enter Tryz.func157,Tryz.ntmps157
 go_wp2_with fail
 refine (C1.out _).mono ?_
 rintro e w1 ⟨v,rfl,ho1,hb1⟩
 obtain ⟨A2,c2,rfl,hc2,hm2,hr2⟩:=ho1.rd
 have HR:=hid hr2
 have HB:=hid hb1
 have hz1:w.heap.size+1≤w1.heap.size:=by have:=hb1.size;simpa using this
 have HZ:=hid (Nat.le_trans HBS.out (Nat.le_of_succ_le hz1))
 have HZ1:=hid hz1
 have q2:w1.cell? ⟨w.heap.size,3,none⟩=some (.slice AL N cl):=(hb1.cell (p:=⟨w.heap.size,3,none⟩) (by simp)).trans (by simp)
 clear ho1 hr2 hb1 hz1
 go_wp2_with (first
  | (at_builtin;refine wpList_appR rfl (.tmp 43) (.tmp 50) 29 rfl base 5 Tryz.underlying29 info_u8 vb lb rfl (HO.out.below HB.out) _ _ _ _ H rfl HR.out (by have:=HLEN.out;omega) HZ.out ?_;intro v3 w3 ho3 hb3;have O3:=hid ho3;have B3:=hid ((((Run.refl vb w).alloc _).quiet HB.out).trans hb3);have q3:=(hb3.cell (p:=⟨w.heap.size,3,none⟩) HZ1.out HAP.out).trans q2;clear ho3 hb3 q2)
  | fail)
 refine (C2.out _ _ B3.out O3.out).mono ?_
 rintro e w4 ⟨v4,rfl,ho4,hb4⟩
 have O4:=hid ho4
 have B4:=hid (B3.out.trans hb4)
 clear ho4 hb4
 go_wp2_with fail
 go_ret
 exact ⟨_,rfl,by rw [← List.append_assoc];exact O4.out,B4.out⟩
theorem cwrite_arr5 (m nd cd N cl base:Nat) (A AL:Option Addr) (l:List Itm) (vb:Value) (lb:List UInt8) (w:World) (hm:pars l<m) (hbase:base≤w.heap.size) (hlen:lb.length+(0x9f::(wrs l++[0xff])).length≤140737488355328) (hrt:rights l=true) (h5:N≤cl∧N≤140737488355328)
  (IH:Hid (CWriteIH m)) (H7:0<N→∃ b o,AL=some ⟨b,o,none⟩∧b<base∧RdIs w base b o l) (HL:Hid (l.length=N)) (ho:Ob w base 5 vb lb) :
  Calls Tryz.prog 157 #[vb,.agg #[.int .i64 5,.int .u64 0,.slice A nd cd,.slice AL N cl]] w (GivesW 5 base vb (lb++(0x9f::(wrs l++[0xff]))) w):=by
 obtain ⟨H,hH⟩:∃ H:List UInt8,H=[0x9f]:=⟨_,rfl⟩
 have eq:lb++(0x9f::(wrs l++[0xff]))=(lb++H++wrs l)++[0xff]:=by rw [hH];simp
 have hH1:H.length=1:=by rw [hH];rfl
 rw [eq]
 simp only [List.length_cons,List.length_append,List.length_nil] at hlen
 have HO:=hid (ho.alloc (.cells #[.int .i64 5,.int .u64 0,.slice A nd cd,.slice AL N cl] 94))
 have HAP:=hid ho.apart
 have HH:=hid hH
 have HO0:=hid ho
 have C2:=hid (fun (W:World) v (hr:Run vb w v W) (ho:Ob W base 5 v (lb++H))=>have hb:=hr.below HO0.out hbase;cwriteAll m N cl base AL l v (lb++H) W hm (Nat.le_trans hbase hb.size) (by rw [List.length_append];omega) hrt h5 IH (fun h0=>by
  obtain ⟨b,o,ea,hb2,hs⟩:=H7 h0
  exact ⟨b,o,ea,hb2,hs.below hb2 hb⟩) HL ho)
 have HL1:=hid hH1
 generalize wrs l=L at *
 have HLEN:=hid hlen
 have HBS:=hid hbase
 clear ho hlen hbase H7 hm hrt hH hH1 eq
 go_enter Tryz.func157,Tryz.ntmps157
 go_wp2_with fail
 have f3:(w.alloc (.cells #[.int .i64 5,.int .u64 0,.slice A nd cd,.slice AL N cl] 94)).cell? ⟨w.heap.size,3,none⟩=some (.slice AL N cl):=by simp
 have FZ:Hid ((w.alloc (.cells #[.int .i64 5,.int .u64 0,.slice A nd cd,.slice AL N cl] 94)).heap.size=w.heap.size+1):=(by simp:_=_)
 have FB:=hid ((Run.refl vb w).alloc (.cells #[.int .i64 5,.int .u64 0,.slice A nd cd,.slice AL N cl] 94))
 generalize w.alloc (.cells #[.int .i64 5,.int .u64 0,.slice A nd cd,.slice AL N cl] 94)=W0 at *
 have hzl:w.heap.size<W0.heap.size:=by rw [FZ.out];exact Nat.lt_succ_self _
 have hzb:base≤W0.heap.size:=Nat.le_trans HBS.out (Nat.le_of_lt hzl)
 have HZL:=hid hzl
 have HZB:=hid hzb
 have FA:=hid (fun (o:Obj)=>(World.cell?_alloc_lt W0.drew o ⟨w.heap.size,3,none⟩ hzl).trans f3)
 clear hzl hzb
 go_region_held3 (fun W=>W.cell? ⟨w.heap.size,3,none⟩=some (.slice AL N cl))
  (first
   | (exact f3)
   | (exact FA.out _)
   | (exact q4)
   | (exact q3)
   | fail)
  (first
   | (go_at_call 194;refine (C2.out _ _ B3.out O3.out).mono ?_;rintro e w4 ⟨v4,rfl,ho4,hb4⟩;have O4:=hid ho4;have B4:=hid (B3.out.trans hb4);have q4:=(hb4.cell (p:=⟨w.heap.size,3,none⟩) N3.out.1 N3.out.2).trans q3;clear ho4 hb4)
   | (refine step_appR (by rfl) (.tmp 34) (.tmp 35) 29 (by rfl) base 5 Tryz.underlying29 info_u8 vb lb (by rfl) (HO.out.drew.alloc _) (W0.heap.size+1) (some ⟨W0.heap.size,0,none⟩) 1 1 H (by rfl) (Rd.lit W0.drew _ (by simp) H 5 #[.int .u8 159] (by rw [HH.out];rfl) 1 HL1.out) (by have:=HLEN.out;omega) (Nat.le_trans HZB.out (le_alloc W0.drew _)) ?_;intro v3 w3 ho3 hb3;have O3:=hid ho3;have B3:=hid ((FB.out.drew.alloc _).trans hb3);have q3:=(hb3.cell (p:=⟨w.heap.size,3,none⟩) (Nat.lt_of_lt_of_le HZL.out (le_alloc W0.drew _)) HAP.out).trans (FA.out _);have N3:=hid (And.intro (Nat.lt_of_lt_of_le (Nat.lt_of_lt_of_le HZL.out (le_alloc W0.drew _)) hb3.grown.size) (hb3.ne (k:=w.heap.size) (Nat.lt_of_lt_of_le HZL.out (le_alloc W0.drew _)) HAP.out));clear ho3 hb3)
   | fail)
 have HZ4:=hid (Nat.le_trans HBS.out B4.out.grown.size)
 go_wp2_with (first
  | (at_builtin;refine wpList_appR rfl (.tmp 40) (.tmp 41) 29 rfl base 5 Tryz.underlying29 info_u8 v4 (lb++H++L) rfl (O4.out.alloc _) (w4.heap.size+1) (some ⟨w4.heap.size,0,none⟩) 1 1 [255] rfl (Rd.lit w4 _ rfl [255] 5 #[.int .u8 255] rfl 1 rfl) (by have:=HLEN.out;have:=HL1.out;simp only [List.length_append];omega) (Nat.le_trans HZ4.out (le_alloc _ _)) ?_;intro v5 w5 ho5 hb5;have O5:=hid ho5;have B5:=hid ((B4.out.alloc _).trans hb5);clear ho5 hb5)
  | fail)
 go_ret
 exact ⟨_,rfl,O5.out,B5.out⟩
theorem own_k {k:Int} {n:Nat} {d:List UInt8} {l:List Itm} (h:own k n d l=true):(k=0∧d=[]∧l=[])∨((k=2∨k=3)∧n=0∧l=[])∨((k=4∨k=5)∧n=0∧d=[]):=by
 unfold own at h
 by_cases h0:k=0
 ·
  rw [if_pos h0] at h;simp at h;exact .inl ⟨h0,h.1,h.2⟩
 rw [if_neg h0] at h
 by_cases h2:k=2
 ·
  rw [if_pos h2] at h;simp at h;exact .inr (.inl ⟨.inl h2,h.1,h.2⟩)
 rw [if_neg h2] at h
 by_cases h3:k=3
 ·
  rw [if_pos h3] at h;simp at h;exact .inr (.inl ⟨.inr h3,h.1,h.2.1⟩)
 rw [if_neg h3] at h
 by_cases h4:k=4∨k=5
 ·
  rw [if_pos h4] at h;simp at h;exact .inr (.inr ⟨h4,h.1,h.2⟩)
 ·
  rw [if_neg h4] at h;cases h
theorem cwrite_n:∀ m:Nat,CWriteIH m
 | 0=>fun _ _ _ _ _ _ h=>absurd h (Nat.not_lt_zero _)
 | m+1=>by
  rintro ⟨k,n,d,l⟩ v vb lb w base hm hr hlen hbase h ho
  have IH:=hid (cwrite_n m)
  obtain ⟨A,nd,cd,AL,cl,rfl,h1,h2,h3,h4,h5,h7⟩:=h.open
  rw [right,Bool.and_eq_true] at hr
  rw [par] at hm
  rcases own_k hr.1 with ⟨rfl,rfl,rfl⟩|⟨hk,rfl,rfl⟩|⟨hk,rfl,rfl⟩
  ·
   rw [wri,if_pos rfl] at hlen ⊢
   exact cwrite_uint n nd cd _ cl base A AL vb lb w h2 hbase hlen ho
  ·
   rcases hk with rfl|rfl
   ·
    rw [wri,if_neg (by decide),if_pos (by decide)] at hlen ⊢
    exact cwrite_text2 nd cd _ cl base A AL d vb lb w h3.2 h4 hbase hlen ho
   ·
    rw [wri,if_neg (by decide),if_pos (by decide)] at hlen ⊢
    exact cwrite_text3 nd cd _ cl base A AL d vb lb w h3.2 h4 hbase hlen ho
  ·
   rcases hk with rfl|rfl
   ·
    rw [wri,if_neg (by decide),if_neg (by decide),if_pos rfl] at hlen ⊢
    exact cwrite_arr4 m nd cd l.length cl base A AL l vb lb w (by omega) hbase hlen hr.2 h5 IH h7 rfl ho
   ·
    rw [wri,if_neg (by decide),if_neg (by decide),if_neg (by decide)] at hlen ⊢
    exact cwrite_arr5 m nd cd l.length cl base A AL l vb lb w (by omega) hbase hlen hr.2 h5 IH h7 rfl ho
open Go.RowKit Go.Extern.Stop Go.Stop Go.Extern
open Go.RowKit Go.Extern.Stop Go.Stop Go.Extern
section
variable {n:Nat}
def stp (p c:BitVec n):BitVec n:=if c.getLsbD 0 then (c >>> 1) ^^^ p else c >>> 1
def stpN (p:BitVec n):Nat→BitVec n→BitVec n
 | 0,c=>c
 | k+1,c=>stpN p k (stp p c)
/-! ### Bit by bit -/
def b1 (n:Nat) (b:Bool):BitVec n:=if b then 1#n else 0#n
/-! ### Byte by byte -/
def byt (p c:BitVec n) (x:UInt8):BitVec n:=stpN p 8 (c ^^^ BitVec.ofNat n x.toNat)
def fB (p c:BitVec n) (l:List UInt8):BitVec n:=l.foldl (byt p) c
theorem fB_append (p c:BitVec n) (l m:List UInt8):fB p c (l++m)=fB p (fB p c l) m:=by simp [fB,List.foldl_append]
theorem fB_snoc (p c:BitVec n) (l:List UInt8) (x:UInt8):fB p c (l++[x])=byt p (fB p c l) x:=by rw [fB_append];rfl
end
/-! ### The two sums of layer 2 -/
def p16:BitVec 16:=0x8408#16
def p32:BitVec 32:=0x82f63b78#32
def s16 (l:List UInt8):BitVec 16 := ~~~ fB p16 0xffff#16 l
def s32 (l:List UInt8):BitVec 32 := ~~~ fB p32 0xffffffff#32 l
theorem stpN_succ {n:Nat} (p:BitVec n):∀ (k:Nat) (c:BitVec n),stpN p (k+1) c=stp p (stpN p k c)
 | 0,_=>rfl
 | k+1,c=>by rw [stpN,stpN_succ p k,← stpN]
theorem stp_even {n:Nat} (p c:BitVec n) (h:c.toNat % 2=0):(stp p c).toNat=c.toNat / 2:=by
 have e:c.getLsbD 0=false:=by simp [BitVec.getLsbD,Nat.testBit_zero,h]
 unfold stp
 rw [if_neg (by rw [e];simp),BitVec.toNat_ushiftRight,Nat.shiftRight_eq_div_pow]
theorem stp_odd {n:Nat} (p c:BitVec n) (h:c.toNat % 2=1):(stp p c).toNat=c.toNat / 2 ^^^ p.toNat:=by
 have e:c.getLsbD 0=true:=by simp [BitVec.getLsbD,Nat.testBit_zero,h]
 unfold stp
 rw [if_pos e,BitVec.toNat_xor,BitVec.toNat_ushiftRight,Nat.shiftRight_eq_div_pow]
theorem fB_take (l:List UInt8) (n:Nat) (p c:BitVec n) (k:Nat) (h:k<l.length):fB p c (l.take (k+1))=stpN p 8 (fB p c (l.take k) ^^^ BitVec.ofNat n (l.getD k 0).toNat):=by
 rw [take_more l k h,fB_snoc];rfl
theorem byte16 (d:BitVec 16) (x:UInt8):Value.int .u16 (bits BinOp.xor .u16 (d.toNat:Int) (x.toNat:Int))=.int .u16 ((d ^^^ BitVec.ofNat 16 x.toNat).toNat:Int):=by
 have h1:=d.isLt
 have h2:=x.toNat_lt
 rw [u16_xor_nat _ _ h1 (by omega),BitVec.toNat_xor,BitVec.toNat_ofNat,Nat.mod_eq_of_lt (by omega)]
theorem byte32 (d:BitVec 32) (x:UInt8):Value.int .u32 (bits BinOp.xor .u32 (d.toNat:Int) (x.toNat:Int))=.int .u32 ((d ^^^ BitVec.ofNat 32 x.toNat).toNat:Int):=by
 have h1:=d.isLt
 have h2:=x.toNat_lt
 rw [u32_xor_nat _ _ h1 (by omega),BitVec.toNat_xor,BitVec.toNat_ofNat,Nat.mod_eq_of_lt (by omega)]
theorem step16 (f:BitVec 16) (h:f.toNat % 2=1):Value.int .u16 (bits BinOp.xor .u16 ((f.toNat:Int) / 2) 33800)=.int .u16 ((stp p16 f).toNat:Int):=by
 have h1:=f.isLt
 have e:=u16_xor_nat (f.toNat / 2) 33800 (by omega) (by decide)
 rw [stp_odd _ _ h,show p16.toNat=33800 from rfl,← e]
 rfl
theorem step32 (f:BitVec 32) (h:f.toNat % 2=1):Value.int .u32 (bits BinOp.xor .u32 ((f.toNat:Int) / 2) 2197175160)=.int .u32 ((stp p32 f).toNat:Int):=by
 have h1:=f.isLt
 have e:=u32_xor_nat (f.toNat / 2) 2197175160 (by omega) (by decide)
 rw [stp_odd _ _ h,show p32.toNat=2197175160 from rfl,← e]
 rfl
def crcBytes (kind:Int) (l:List UInt8):List UInt8:=if kind=1 then be (s16 l).toNat 2 else if kind=2 then be (s32 l).toNat 4 else []
theorem be2 (v:Nat):be v 2=[UInt8.ofNat (v / 256),UInt8.ofNat v]:=by simp [be,List.range_succ]
theorem be4 (v:Nat):be v 4=[UInt8.ofNat (v / 16777216),UInt8.ofNat (v / 65536),UInt8.ofNat (v / 256),UInt8.ofNat v]:=by simp [be,List.range_succ]
theorem low8 (v:Nat):Value.int .u8 (v % 256:Int)=.int .u8 ((UInt8.ofNat v).toNat:Int):=by rw [UInt8.toNat_ofNat'];rfl
theorem low8_of (v:Nat) (h:v<256):Value.int .u8 (v:Int)=.int .u8 ((UInt8.ofNat v).toNat:Int):=by rw [UInt8.toNat_ofNat',Nat.mod_eq_of_lt h]
theorem gives_nil (w:World):Gives [] w (.returned (.slice none 0 0)) w:=⟨none,0,0,rfl,Rd.nil_,Nat.le_refl _,Below.refl _ _⟩
theorem gives_lit (w:World) (t:TypeId) (l:List UInt8) (cs:Array Value) (n:Nat) (hn:l.length=n) (hcs:cs=(l.map fun x=>Value.int .u8 (x.toNat:Int)).toArray) :
  Gives l w (.returned (.slice (some ⟨w.heap.size,0,none⟩) n n)) (w.alloc (.cells cs t)) :=
 ⟨_,n,n,rfl,(Rd.lit w _ rfl l t cs hcs n hn).more (by simp),Nat.le_refl _,(Below.refl _ _).alloc (Nat.le_refl _) _⟩
theorem cs2 (v:Nat) (h:v<65536):#[Value.int .u8 ((v:Int) / 256),.int .u8 ((v:Int) % 256)]=(([UInt8.ofNat (v / 256),UInt8.ofNat v]:List UInt8).map fun x=>Value.int .u8 (x.toNat:Int)).toArray:=by
 rw [low8 v,show (v:Int) / 256=((v / 256:Nat):Int) from rfl,low8_of (v / 256) (by omega)]
 rfl
theorem cs4 (v:Nat) (h:v<4294967296):#[Value.int .u8 ((v:Int) / 16777216),.int .u8 ((v:Int) / 65536 % 256),.int .u8 ((v:Int) / 256 % 256),.int .u8 ((v:Int) % 256)] =
  (([UInt8.ofNat (v / 16777216),UInt8.ofNat (v / 65536),UInt8.ofNat (v / 256),UInt8.ofNat v]:List UInt8).map fun x=>Value.int .u8 (x.toNat:Int)).toArray:=by
 rw [low8 v,show (v:Int) / 256=((v / 256:Nat):Int) from rfl,show (v:Int) / 65536=((v / 65536:Nat):Int) from rfl,show (v:Int) / 16777216=((v / 16777216:Nat):Int) from rfl,
  low8 (v / 256),low8 (v / 65536),low8_of (v / 16777216) (by omega)]
 rfl
structure Blk where
 typ:Nat
 num:Nat
 flg:Nat
 crc:Int
 dat:List UInt8
def Blk.zero:Blk:=⟨0,0,0,0,[]⟩
def blkOk (b:Blk):Bool:=decide (1≤b.typ∧b.typ≤255)&&(decide (b.num≠0)&&((decide (b.typ≠1)||decide (b.num=1))&&(decide (0≤b.crc∧b.crc≤2)&&decide (b.dat.length≤4096))))
theorem blkOk_iff {b:Blk}:blkOk b=true↔(1≤b.typ∧b.typ≤255)∧b.num≠0∧(b.typ≠1∨b.num=1)∧(0≤b.crc∧b.crc≤2)∧b.dat.length≤4096:=by
 unfold blkOk;simp [Bool.and_eq_true,Bool.or_eq_true]
def Bd (b:Blk):Prop:=b.typ<18446744073709551616∧b.num<18446744073709551616∧b.flg<18446744073709551616
def sumN (k:Int):Nat:=if k=1 then 2 else if k=2 then 4 else 0
theorem sumN_le (k:Int):sumN k≤4:=by unfold sumN;repeat' (split <;> try omega)
theorem crcBytes_len (k:Int) (l:List UInt8):(crcBytes k l).length=sumN k:=by
 unfold crcBytes sumN
 split
 ·
  rw [be_length]
 ·
  split
  ·
   rw [be_length]
  ·
   rfl
def partsB (b:Blk):List Itm:=[.mk 0 b.typ [] [],.mk 0 b.num [] [],.mk 0 b.flg [] [],.mk 0 b.crc.toNat [] [],.mk 2 0 b.dat []]
def itmB (b:Blk) (s:List UInt8):Itm:=.mk 4 0 [] (partsB b++if b.crc=0 then [] else [.mk 2 0 s []])
def bodyB (b:Blk):List UInt8:=hd 4 (if b.crc=0 then 5 else 6)++(wrs (partsB b)++if b.crc=0 then [] else hd 2 (sumN b.crc))
def nulls (b:Blk):List UInt8:=List.replicate (sumN b.crc) 0
def sumB (b:Blk):List UInt8:=crcBytes b.crc (bodyB b++nulls b)
def blkW (b:Blk):List UInt8:=bodyB b++sumB b
theorem sumB_len (b:Blk):(sumB b).length=sumN b.crc:=crcBytes_len _ _
theorem wrs_ap:∀ a b:List Itm,wrs (a++b)=wrs a++wrs b
 | [],b=>rfl
 | x::r,b=>by rw [List.cons_append,wrs,wrs,wrs_ap r b,List.append_assoc]
theorem wri_u (n:Nat):wri (.mk 0 n [] [])=hd 0 n:=by rw [wri,if_pos rfl]
theorem wri_b (d:List UInt8):wri (.mk 2 0 d [])=hd 2 d.length++d:=by rw [wri,if_neg (by decide),if_pos (by decide)];rfl
theorem wri_itm (b:Blk) (s:List UInt8) (hs:s.length=sumN b.crc) (_hc:0≤b.crc∧b.crc≤2):wri (itmB b s)=bodyB b++s:=by
 unfold itmB
 rw [wri,if_neg (by decide),if_neg (by decide),if_pos rfl]
 unfold bodyB
 by_cases h0:b.crc=0
 ·
  have:s=[]:=List.eq_nil_of_length_eq_zero (by rw [hs,h0];rfl)
  subst this
  simp only [if_pos h0,List.append_nil]
  rw [show (partsB b).length=5 from rfl]
 ·
  simp only [if_neg h0]
  rw [wrs_ap,show (partsB b++[Itm.mk 2 0 s []]).length=6 from rfl,wrs,wri_b,wrs,hs]
  simp [List.append_assoc]
theorem itm_fits (b:Blk) (s:List UInt8):Fits (itmB b s):=by
 unfold itmB partsB
 by_cases h0:b.crc=0
 ·
  simp only [if_pos h0]
  exact ⟨by simp [right,rights,own],by simp [dep,deps],by simp [par,pars]⟩
 ·
  simp only [if_neg h0]
  exact ⟨by simp [right,rights,own],by simp [dep,deps],by simp [par,pars]⟩
theorem itm_siz (b:Blk) (s:List UInt8) (hb:Bd b) (hc:b.crc≤2) (hd:b.dat.length<18446744073709551616) (hs:s.length<18446744073709551616):Siz (itmB b s):=by
 unfold itmB partsB
 have h3:b.crc.toNat<18446744073709551616:=by omega
 obtain ⟨h1,h2,h4⟩:=hb
 by_cases h0:b.crc=0
 ·
  simp only [if_pos h0]
  refine ⟨by decide,by simp,by simp,⟨h1,by simp,by simp,trivial⟩,⟨h2,by simp,by simp,trivial⟩,⟨h4,by simp,by simp,trivial⟩,⟨h3,by simp,by simp,trivial⟩,⟨by decide,hd,by simp,trivial⟩,trivial⟩
 ·
  simp only [if_neg h0]
  refine ⟨by decide,by simp,by simp,⟨h1,by simp,by simp,trivial⟩,⟨h2,by simp,by simp,trivial⟩,⟨h4,by simp,by simp,trivial⟩,⟨h3,by simp,by simp,trivial⟩,⟨by decide,hd,by simp,trivial⟩,⟨by decide,hs,by simp,trivial⟩,trivial⟩
def takenB:Itm→Blk
 | .mk _ _ _ (y0::y1::y2::y3::y4::_)=>⟨y0.num,y1.num,y2.num,RowKit.wrap64 (y3.num:Int),y4.data⟩
 | _=>.zero
def cmpB (u w:List UInt8) (s:Nat):Int:=if u.length≠w.length∨u.take (w.length - s)≠w.take (w.length - s) then 50 else if u.drop (w.length - s)≠w.drop (w.length - s) then 51 else 0
def decB (l:List UInt8):Blk×Int×Int :=
 if (decode l).2.2≠0 then (.zero,0,(decode l).2.2)
 else if blkOk (takenB (decode l).1)=false then (.zero,0,50)
 else if cmpB (l.take (decode l).2.1.toNat) (blkW (takenB (decode l).1)) (sumN (takenB (decode l).1).crc)≠0 then (.zero,0,cmpB (l.take (decode l).2.1.toNat) (blkW (takenB (decode l).1)) (sumN (takenB (decode l).1).crc))
 else (takenB (decode l).1,(decode l).2.1,0)
theorem wrap_small (c:Int) (h0:0≤c) (h2:c≤2):RowKit.wrap64 ((c.toNat:Nat):Int)=c:=by
 unfold RowKit.wrap64
 omega
theorem taken_itm (b:Blk) (s:List UInt8) (hc:0≤b.crc∧b.crc≤2):takenB (itmB b s)=b:=by
 have h:=wrap_small b.crc hc.1 hc.2
 obtain ⟨t,n,f,c,d⟩:=b
 unfold itmB partsB
 simp only [List.cons_append,takenB,Itm.num,Itm.data]
 rw [h]
theorem decB_sum (b:Blk) (s m:List UInt8) (hok:blkOk b=true) (hb:Bd b) (hs:s.length=sumN b.crc) :
  decB (bodyB b++s++m)=if s=sumB b then (b,((blkW b).length:Int),0) else (.zero,0,51):=by
 obtain ⟨h1,h2,h3,h4,h5⟩:=blkOk_iff.1 hok
 have hw:=wri_itm b s hs h4
 have hs4:=sumN_le b.crc
 have hd:=decode_wr (itm_fits b s) (itm_siz b s hb h4.2 (by omega) (by omega)) m
 rw [hw] at hd
 have hlen:((bodyB b++s).length)=(blkW b).length:=by unfold blkW;rw [List.length_append,List.length_append,hs,sumB_len]
 unfold decB
 rw [hd]
 simp only [taken_itm b s h4]
 rw [if_neg (by simp),if_neg (by rw [hok];decide),Int.toNat_natCast,List.take_left]
 have hk:(blkW b).length - sumN b.crc=(bodyB b).length:=by unfold blkW;rw [List.length_append,sumB_len];omega
 have hcmp:cmpB (bodyB b++s) (blkW b) (sumN b.crc)=if s=sumB b then 0 else 51:=by
  unfold cmpB
  rw [hk]
  unfold blkW
  rw [List.take_left,List.take_left,List.drop_left,List.drop_left,if_neg (by simp [hs,sumB_len])]
  by_cases he:s=sumB b
  ·
   rw [if_neg (by simp [he]),if_pos he]
  ·
   rw [if_pos he,if_neg he]
 rw [hcmp,hlen]
 by_cases he:s=sumB b
 ·
  rw [if_pos he,if_neg (by simp),if_pos he]
 ·
  rw [if_neg he,if_pos (by simp),if_neg he]
theorem decB_blk (b:Blk) (m:List UInt8) (hok:blkOk b=true) (hb:Bd b):decB (blkW b++m)=(b,((blkW b).length:Int),0):=by
 have:=decB_sum b (sumB b) m hok hb (sumB_len b)
 rw [if_pos rfl] at this
 exact this
theorem and16 (F:Nat) (h:F<65536):bits BinOp.and .u16 (F:Int) 1=((F % 2:Nat):Int):=by
 have e:=u16_and_nat F 1 h (by decide)
 rw [Nat.and_one_is_mod] at e
 exact e
theorem and32 (F:Nat) (h:F<4294967296):bits BinOp.and .u32 (F:Int) 1=((F % 2:Nat):Int):=by
 have e:=u32_and_nat F 1 h (by decide)
 rw [Nat.and_one_is_mod] at e
 exact e
theorem flip16 (d:BitVec 16):Ending.returned (.int .u16 (bits BinOp.xor .u16 IntKind.u16.max (d.toNat:Int)))=.returned (.int .u16 ((~~~ d).toNat:Int)):=by
 have e:=u16_xor_nat 65535 d.toNat (by decide) d.isLt
 rw [show IntKind.u16.max=((65535:Nat):Int) from rfl,e,show (65535:Nat)=(BitVec.allOnes 16).toNat from rfl,← BitVec.toNat_xor,BitVec.allOnes_xor]
theorem flip32 (d:BitVec 32):Ending.returned (.int .u32 (bits BinOp.xor .u32 IntKind.u32.max (d.toNat:Int)))=.returned (.int .u32 ((~~~ d).toNat:Int)):=by
 have e:=u32_xor_nat 4294967295 d.toNat (by decide) d.isLt
 rw [show IntKind.u32.max=((4294967295:Nat):Int) from rfl,e,show (4294967295:Nat)=(BitVec.allOnes 32).toNat from rfl,← BitVec.toNat_xor,BitVec.allOnes_xor]
theorem sum16_any (A:Option Addr) (n c B:Nat) (l:List UInt8) (w:World) (h:Rd w B A n l) (hn:n≤140737488355328) :
  Calls Tryz.prog 248 #[.slice A n c,.int .u16 33800] w fun e w'=>e=.returned (.int .u16 ((s16 l).toNat:Int))∧w=w':=by
 have HR:=hid h
 clear h
 go_enter Tryz.func248,Tryz.ntmps248
 go_wp2
 go_loop [5,13] (fun v i=>∃ (k:Nat) (d:BitVec 16),k≤n∧i=.int .i64 k∧v=.int .u16 (d.toNat:Int)∧Hid (d=fB p16 0xffff#16 (l.take k))) (fun _ i=>n - (intOf i).toNat)
 case atStart=>exact ⟨0,0xffff#16,Nat.zero_le _,rfl,rfl,rfl⟩
 case round =>
  obtain ⟨k,d,hk,rfl,rfl,hd⟩:=hrel
  by_cases hlt:k<n
  ·
   obtain ⟨b,o,rfl,hb,hcell⟩:=HR.out.2 (by omega)
   obtain ⟨x,hx⟩:∃ x,x=l.getD k 0:=⟨_,rfl⟩
   have hcx:w.cell? ⟨b,o+k,none⟩=some (.int .u8 (x.toNat:Int)):=by rw [hx];exact hcell k hlt
   have Hx:=hid hx
   clear hx hcell
   have hx1:(x.toNat:Int)<256:=by have:=x.toNat_lt;omega
   have hx0:(0:Int)≤(x.toNat:Int):=by omega
   have hd1:(d.toNat:Int)<65536:=by have:=d.isLt;omega
   go_wp2_with fail
   clear hx0 hx1 hd1
   go_loop [5,21] (fun v i=>∃ (j:Nat) (f:BitVec 16),j≤8∧i=.int .i64 j∧v=.int .u16 (f.toNat:Int)∧Hid (f=stpN p16 j (d ^^^ BitVec.ofNat 16 x.toNat))) (fun _ i=>8 - (intOf i).toNat)
   case atStart=>exact ⟨0,d ^^^ BitVec.ofNat 16 x.toNat,by omega,rfl,byte16 d x,rfl⟩
   case round =>
    obtain ⟨j,f,hj,rfl,rfl,hf⟩:=hrel
    by_cases hj8:j<8
    ·
     obtain ⟨F,hF⟩:∃ F,F=f.toNat:=⟨_,rfl⟩
     have hf1:F<65536:=by have:=f.isLt;omega
     rw [← hF]
     have HF:=hid hF
     clear hF
     rcases Nat.mod_two_eq_zero_or_one F with he|he
     ·
      have ht:(bits BinOp.and .u16 (F:Int) 1==1)=false:=by rw [and16 F hf1,he];rfl
      have HE:=hid he
      clear he
      go_wp2_with fail
      go_round
      case rel=>exact ⟨j+1,stp p16 f,by omega,by go_num,by rw [stp_even _ _ (by rw [← HF.out];exact HE.out),← HF.out];rfl,by show _=_;rw [stpN_succ,← hf.out]⟩
      case measure=>simp [intOf];omega
     ·
      have ht:(bits BinOp.and .u16 (F:Int) 1==1)=true:=by rw [and16 F hf1,he];rfl
      have HE:=hid he
      clear he
      go_wp2_with fail
      go_round
      case rel=>exact ⟨j+1,stp p16 f,by omega,by go_num,by rw [HF.out];exact step16 f (by rw [← HF.out];exact HE.out),by show _=_;rw [stpN_succ,← hf.out]⟩
      case measure=>simp [intOf];omega
    ·
     obtain rfl:j=8:=by omega
     go_wp2_with fail
     go_round
     case rel =>
      refine ⟨k+1,f,by omega,by go_num,rfl,?_⟩
      show f=_
      rw [fB_take l 16 _ _ k (by have:=HR.out.1;omega),← hd.out,← Hx.out]
      exact hf.out
     case measure=>simp [intOf];omega
  ·
   obtain rfl:k=n:=by omega
   have hl:=HR.out.1
   have hfin:s16 l = ~~~ d:=by rw [hd.out,List.take_of_length_le (by omega)];rfl
   have HF:=hid hfin
   have hd1:(d.toNat:Int)<65536:=by have:=d.isLt;omega
   clear hfin hl
   go_wp2_with fail
   go_ret
   exact ⟨by rw [HF.out];exact flip16 d,rfl⟩
theorem sum32_any (A:Option Addr) (n c B:Nat) (l:List UInt8) (w:World) (h:Rd w B A n l) (hn:n≤140737488355328) :
  Calls Tryz.prog 249 #[.slice A n c,.int .u32 2197175160] w fun e w'=>e=.returned (.int .u32 ((s32 l).toNat:Int))∧w=w':=by
 have HR:=hid h
 clear h
 go_enter Tryz.func249,Tryz.ntmps249
 go_wp2
 go_loop [5,13] (fun v i=>∃ (k:Nat) (d:BitVec 32),k≤n∧i=.int .i64 k∧v=.int .u32 (d.toNat:Int)∧Hid (d=fB p32 0xffffffff#32 (l.take k))) (fun _ i=>n - (intOf i).toNat)
 case atStart=>exact ⟨0,0xffffffff#32,Nat.zero_le _,rfl,rfl,rfl⟩
 case round =>
  obtain ⟨k,d,hk,rfl,rfl,hd⟩:=hrel
  by_cases hlt:k<n
  ·
   obtain ⟨b,o,rfl,hb,hcell⟩:=HR.out.2 (by omega)
   obtain ⟨x,hx⟩:∃ x,x=l.getD k 0:=⟨_,rfl⟩
   have hcx:w.cell? ⟨b,o+k,none⟩=some (.int .u8 (x.toNat:Int)):=by rw [hx];exact hcell k hlt
   have Hx:=hid hx
   clear hx hcell
   have hx1:(x.toNat:Int)<256:=by have:=x.toNat_lt;omega
   have hx0:(0:Int)≤(x.toNat:Int):=by omega
   have hd1:(d.toNat:Int)<4294967296:=by have:=d.isLt;omega
   go_wp2_with fail
   clear hx0 hx1 hd1
   go_loop [5,21] (fun v i=>∃ (j:Nat) (f:BitVec 32),j≤8∧i=.int .i64 j∧v=.int .u32 (f.toNat:Int)∧Hid (f=stpN p32 j (d ^^^ BitVec.ofNat 32 x.toNat))) (fun _ i=>8 - (intOf i).toNat)
   case atStart=>exact ⟨0,d ^^^ BitVec.ofNat 32 x.toNat,by omega,rfl,byte32 d x,rfl⟩
   case round =>
    obtain ⟨j,f,hj,rfl,rfl,hf⟩:=hrel
    by_cases hj8:j<8
    ·
     obtain ⟨F,hF⟩:∃ F,F=f.toNat:=⟨_,rfl⟩
     have hf1:F<4294967296:=by have:=f.isLt;omega
     rw [← hF]
     have HF:=hid hF
     clear hF
     rcases Nat.mod_two_eq_zero_or_one F with he|he
     ·
      have ht:(bits BinOp.and .u32 (F:Int) 1==1)=false:=by rw [and32 F hf1,he];rfl
      have HE:=hid he
      clear he
      go_wp2_with fail
      go_round
      case rel=>exact ⟨j+1,stp p32 f,by omega,by go_num,by rw [stp_even _ _ (by rw [← HF.out];exact HE.out),← HF.out];rfl,by show _=_;rw [stpN_succ,← hf.out]⟩
      case measure=>simp [intOf];omega
     ·
      have ht:(bits BinOp.and .u32 (F:Int) 1==1)=true:=by rw [and32 F hf1,he];rfl
      have HE:=hid he
      clear he
      go_wp2_with fail
      go_round
      case rel=>exact ⟨j+1,stp p32 f,by omega,by go_num,by rw [HF.out];exact step32 f (by rw [← HF.out];exact HE.out),by show _=_;rw [stpN_succ,← hf.out]⟩
      case measure=>simp [intOf];omega
    ·
     obtain rfl:j=8:=by omega
     go_wp2_with fail
     go_round
     case rel =>
      refine ⟨k+1,f,by omega,by go_num,rfl,?_⟩
      show f=_
      rw [fB_take l 32 _ _ k (by have:=HR.out.1;omega),← hd.out,← Hx.out]
      exact hf.out
     case measure=>simp [intOf];omega
  ·
   obtain rfl:k=n:=by omega
   have hl:=HR.out.1
   have hfin:s32 l = ~~~ d:=by rw [hd.out,List.take_of_length_le (by omega)];rfl
   have HF:=hid hfin
   have hd1:(d.toNat:Int)<4294967296:=by have:=d.isLt;omega
   clear hfin hl
   go_wp2_with fail
   go_ret
   exact ⟨by rw [HF.out];exact flip32 d,rfl⟩
theorem short_any (A:Option Addr) (n c B:Nat) (l:List UInt8) (w:World) (h:Rd w B A n l) (hn:n≤140737488355328) :
  Calls Tryz.prog 233 #[.slice A n c] w fun e w'=>e=.returned (.int .u16 ((s16 l).toNat:Int))∧w=w':=by
 have C:=hid (sum16_any A n c B l w h hn)
 clear h
 go_enter Tryz.func233,Tryz.ntmps233
 go_wp2_with fail
 refine C.out.mono ?_
 rintro e w' ⟨rfl,rfl⟩
 go_wp2_with fail
 go_ret
 exact ⟨rfl,rfl⟩
theorem long_any (A:Option Addr) (n c B:Nat) (l:List UInt8) (w:World) (h:Rd w B A n l) (hn:n≤140737488355328) :
  Calls Tryz.prog 234 #[.slice A n c] w fun e w'=>e=.returned (.int .u32 ((s32 l).toNat:Int))∧w=w':=by
 have C:=hid (sum32_any A n c B l w h hn)
 clear h
 go_enter Tryz.func234,Tryz.ntmps234
 go_wp2_with fail
 refine C.out.mono ?_
 rintro e w' ⟨rfl,rfl⟩
 go_wp2_with fail
 go_ret
 exact ⟨rfl,rfl⟩
theorem bytes_any (kind:Int) (A:Option Addr) (n c B:Nat) (l:List UInt8) (w:World) (h:Rd w B A n l) (hn:n≤140737488355328) :
  Calls Tryz.prog 208 #[.int .i64 kind,.slice A n c] w (Gives (crcBytes kind l) w):=by
 have c1:=short_any A n c B l w h hn
 have c2:=long_any A n c B l w h hn
 have v1:=(s16 l).isLt
 have v2:=(s32 l).isLt
 clear h
 by_cases h1:kind=1
 ·
  subst h1
  rw [show crcBytes 1 l=be (s16 l).toNat 2 from rfl,be2]
  generalize (s16 l).toNat=v at *
  have C1:=hid c1
  clear c1 c2
  go_enter Tryz.func208,Tryz.ntmps208
  go_wp2_with fail
  refine C1.out.mono ?_
  rintro e w' ⟨rfl,rfl⟩
  go_wp2_with fail
  go_ret
  exact gives_lit w _ _ _ 2 rfl (cs2 v v1)
 ·
  by_cases h2:kind=2
  ·
   subst h2
   rw [show crcBytes 2 l=be (s32 l).toNat 4 from rfl,be4]
   generalize (s32 l).toNat=v at *
   have C2:=hid c2
   clear c1 c2
   go_enter Tryz.func208,Tryz.ntmps208
   go_wp2_with fail
   refine C2.out.mono ?_
   rintro e w' ⟨rfl,rfl⟩
   go_wp2_with fail
   go_ret
   exact gives_lit w _ _ _ 4 rfl (cs4 v v2)
  ·
   rw [show crcBytes kind l=[] by unfold crcBytes;rw [if_neg h1,if_neg h2]]
   have e1:(kind==1)=false:=by simpa using h1
   have e2:(kind==2)=false:=by simpa using h2
   clear h1 h2 c1 c2
   go_enter Tryz.func208,Tryz.ntmps208
   go_wp2_with fail
   go_ret
   exact gives_nil w
def bfl (z:Int) (s:ByteArray):Value:=.iface 304 (.agg #[.int .i64 z,.string s])
def WhyB (ok:Bool) (z:Int) (w:World) (e:Ending) (w':World):Prop:=Below w.heap.size w w'∧((ok=true∧e=.returned .nilIface)∨(ok=false∧∃ s,e=.returned (bfl z s)))
def blkV (t n f:Nat) (c:Int) (A:Option Addr) (nd cd:Nat):Value:=.agg #[.int .u64 (t:Int),.int .u64 (n:Int),.int .u64 (f:Int),.int .i64 c,.slice A nd cd]
theorem bcheck_any (t n f:Nat) (c:Int) (A:Option Addr) (nd cd:Nat) (d:List UInt8) (w:World) (hd:d.length=nd) :
  Calls Tryz.prog 213 #[blkV t n f c A nd cd] w (WhyB (blkOk ⟨t,n,f,c,d⟩) 50 w):=by
 obtain ⟨R,hR⟩:∃ R,R=blkOk ⟨t,n,f,c,d⟩:=⟨_,rfl⟩
 rw [← hR]
 have hR2:R=(decide (1≤(t:Int)∧(t:Int)≤255)&&(decide (¬ (n:Int)=0)&&((decide (¬ (t:Int)=1)||decide ((n:Int)=1))&&(decide (0≤c∧c≤2)&&decide ((nd:Int)≤4096))))):=by
  rw [hR,← hd,Bool.eq_iff_iff,blkOk_iff]
  simp only [Bool.and_eq_true,Bool.or_eq_true,decide_eq_true_eq]
  omega
 clear hR hd
 unfold blkV
 generalize (t:Int)=T at *
 generalize (n:Int)=N at *
 by_cases h1:T<1
 ·
  have hr:R=false:=by rw [hR2];simp;omega
  subst hr
  clear hR2
  go_enter Tryz.func213,Tryz.ntmps213
  go_wp2_with fail
  go_ret
  exact ⟨(Below.refl _ _).alloc (Nat.le_refl _) _,.inr ⟨rfl,_,rfl⟩⟩
 have h1':1≤T:=by omega
 by_cases h2:255<T
 ·
  have hr:R=false:=by rw [hR2];simp;omega
  subst hr
  clear hR2
  go_enter Tryz.func213,Tryz.ntmps213
  go_wp2_with fail
  go_ret
  exact ⟨(Below.refl _ _).alloc (Nat.le_refl _) _,.inr ⟨rfl,_,rfl⟩⟩
 have h2':T≤255:=by omega
 by_cases h3:N=0
 ·
  have hr:R=false:=by rw [hR2];simp [h3]
  subst hr h3
  clear hR2
  go_enter Tryz.func213,Tryz.ntmps213
  go_wp2_with fail
  go_ret
  exact ⟨(Below.refl _ _).alloc (Nat.le_refl _) _,.inr ⟨rfl,_,rfl⟩⟩
 have h3':(N==0)=false:=by simpa using h3
 by_cases h4:T=1∧N≠1
 ·
  have hr:R=false:=by rw [hR2];simp [h4.1,h4.2]
  obtain ⟨h4,h5⟩:=h4
  have h5':(N==1)=false:=by simpa using h5
  subst hr h4
  clear hR2
  go_enter Tryz.func213,Tryz.ntmps213
  go_wp2_with fail
  go_ret
  exact ⟨(Below.refl _ _).alloc (Nat.le_refl _) _,.inr ⟨rfl,_,rfl⟩⟩
 have h6:(decide (¬ T=1)||decide (N=1))=true:=by simp;omega
 have h7:decide (¬ N=0)=true:=by simpa using h3
 have h8:decide (1≤T∧T≤255)=true:=by simp;omega
 rw [h6,h7,h8,Bool.true_and,Bool.true_and,Bool.true_and] at hR2
 clear h6 h7 h8
 have key:∀ (hq:T≠1∨N=1),Calls Tryz.prog 213 #[.agg #[.int .u64 T,.int .u64 N,.int .u64 (f:Int),.int .i64 c,.slice A nd cd]] w (WhyB R 50 w):=by
  intro hq
  by_cases hT:T=1
  ·
   obtain rfl:N=1:=by omega
   subst hT
   clear hq h1 h1' h2 h2' h3 h3' h4
   by_cases h9:c<0
   ·
    have hr:R=false:=by rw [hR2];simp;omega
    subst hr
    clear hR2
    go_enter Tryz.func213,Tryz.ntmps213
    go_wp2_with fail
    go_ret
    exact ⟨(Below.refl _ _).alloc (Nat.le_refl _) _,.inr ⟨rfl,_,rfl⟩⟩
   have h9':0≤c:=by omega
   by_cases h10:2<c
   ·
    have hr:R=false:=by rw [hR2];simp;omega
    subst hr
    clear hR2
    go_enter Tryz.func213,Tryz.ntmps213
    go_wp2_with fail
    go_ret
    exact ⟨(Below.refl _ _).alloc (Nat.le_refl _) _,.inr ⟨rfl,_,rfl⟩⟩
   have h10':c≤2:=by omega
   by_cases h11:(4096:Int)<nd
   ·
    have hr:R=false:=by rw [hR2];simp;omega
    have h11':4096<nd:=by omega
    subst hr
    clear hR2
    go_enter Tryz.func213,Tryz.ntmps213
    go_wp2_with fail
    go_ret
    exact ⟨(Below.refl _ _).alloc (Nat.le_refl _) _,.inr ⟨rfl,_,rfl⟩⟩
   have h11':nd≤4096:=by omega
   have hr:R=true:=by rw [hR2];simp;omega
   subst hr
   clear hR2
   go_enter Tryz.func213,Tryz.ntmps213
   go_wp2_with fail
   go_ret
   exact ⟨(Below.refl _ _).alloc (Nat.le_refl _) _,.inl ⟨rfl,rfl⟩⟩
  ·
   have hT':(T==1)=false:=by simpa using hT
   clear hq h4
   by_cases h9:c<0
   ·
    have hr:R=false:=by rw [hR2];simp;omega
    subst hr
    clear hR2
    go_enter Tryz.func213,Tryz.ntmps213
    go_wp2_with fail
    go_ret
    exact ⟨(Below.refl _ _).alloc (Nat.le_refl _) _,.inr ⟨rfl,_,rfl⟩⟩
   have h9':0≤c:=by omega
   by_cases h10:2<c
   ·
    have hr:R=false:=by rw [hR2];simp;omega
    subst hr
    clear hR2
    go_enter Tryz.func213,Tryz.ntmps213
    go_wp2_with fail
    go_ret
    exact ⟨(Below.refl _ _).alloc (Nat.le_refl _) _,.inr ⟨rfl,_,rfl⟩⟩
   have h10':c≤2:=by omega
   by_cases h11:(4096:Int)<nd
   ·
    have hr:R=false:=by rw [hR2];simp;omega
    have h11':4096<nd:=by omega
    subst hr
    clear hR2
    go_enter Tryz.func213,Tryz.ntmps213
    go_wp2_with fail
    go_ret
    exact ⟨(Below.refl _ _).alloc (Nat.le_refl _) _,.inr ⟨rfl,_,rfl⟩⟩
   have h11':nd≤4096:=by omega
   have hr:R=true:=by rw [hR2];simp;omega
   subst hr
   clear hR2
   go_enter Tryz.func213,Tryz.ntmps213
   go_wp2_with fail
   go_ret
   exact ⟨(Below.refl _ _).alloc (Nat.le_refl _) _,.inl ⟨rfl,rfl⟩⟩
 exact key (by omega)
theorem bequal_any (A A':Option Addr) (n c n' c' B:Nat) (l l':List UInt8) (w:World) (h:Rd w B A n l) (h':Rd w B A' n' l') :
  Calls Tryz.prog 107 #[.slice A n c,.slice A' n' c'] w fun e w'=>e=.returned (.bool (l==l'))∧w=w':=by
 have r1:=run_str (P:=Tryz.prog) (c:=c) h 29 5 9 Tryz.underlying29 Tryz.underlying5 Tryz.underlying9
 have r2:=run_str (P:=Tryz.prog) (c:=c') h' 29 5 9 Tryz.underlying29 Tryz.underlying5 Tryz.underlying9
 have e1:(⟨l.toArray⟩:ByteArray).toList=l:=by rw [Lib.toList_data]
 have e2:(⟨l'.toArray⟩:ByteArray).toList=l':=by rw [Lib.toList_data]
 have HE:=hid (And.intro e1 e2)
 generalize (⟨l.toArray⟩:ByteArray)=s at *
 generalize (⟨l'.toArray⟩:ByteArray)=s' at *
 clear h h' e1 e2
 go_enter Tryz.func107,Tryz.ntmps107
 go_wp2_with fail
 go_ret
 refine ⟨?_,rfl⟩
 have h:(s.toList==s'.toList)=(l==l'):=by rw [HE.out.1,HE.out.2]
 rw [← h]
 rfl
open Go.Lib (decDigits)
def ahead (c:UInt8) (l:List UInt8):List UInt8:=l.takeWhile fun x=>x != c
def behind (c:UInt8) (l:List UInt8):List UInt8:=l.drop ((ahead c l).length+1)
def hasB (c:UInt8) (l:List UInt8):Bool:=decide ((ahead c l).length<l.length)
theorem ahead_nil (c:UInt8):ahead c []=[]:=rfl
theorem ahead_cons (c x:UInt8) (l:List UInt8):ahead c (x::l)=if x=c then [] else x::ahead c l:=by
 unfold ahead
 rw [List.takeWhile_cons]
 by_cases h:x=c <;> simp [h]
theorem ahead_no (c:UInt8):∀ l:List UInt8,∀ x∈ahead c l,x≠c
 | [],x,h=>by rw [ahead_nil] at h;cases h
 | y::l,x,h=>by
  rw [ahead_cons] at h
  split at h
  ·
   cases h
  ·
   rename_i hne
   rcases List.mem_cons.1 h with rfl|h
   ·
    exact hne
   ·
    exact ahead_no c l x h
theorem ahead_le (c:UInt8):∀ l:List UInt8,(ahead c l).length≤l.length
 | []=>Nat.le_refl _
 | y::l=>by
  rw [ahead_cons]
  split
  ·
   exact Nat.zero_le _
  ·
   have:=ahead_le c l;simp only [List.length_cons];omega
theorem ahead_take (c:UInt8):∀ l:List UInt8,ahead c l=l.take (ahead c l).length
 | []=>rfl
 | y::l=>by
  rw [ahead_cons]
  split
  ·
   rfl
  ·
   have:=ahead_take c l
   simp only [List.length_cons,List.take_succ_cons]
   rw [← this]
theorem ahead_all {c:UInt8} {l:List UInt8} (h:hasB c l=false):ahead c l=l:=by
 have h1:=ahead_le c l
 have h2:(ahead c l).length=l.length:=by unfold hasB at h;simp at h;omega
 rw [ahead_take c l,h2,List.take_length]
theorem behind_nil {c:UInt8} {l:List UInt8} (h:hasB c l=false):behind c l=[]:=by
 unfold behind
 rw [ahead_all h]
 simp
theorem cut_eq {c:UInt8}:∀ {l:List UInt8},hasB c l=true→l=ahead c l++c::behind c l
 | [],h=>by simp [hasB] at h
 | y::l,h=>by
  unfold behind
  rw [ahead_cons]
  by_cases hy:y=c
  ·
   subst hy;simp
  ·
   rw [if_neg hy]
   have h':hasB c l=true:=by
    unfold hasB at h ⊢
    rw [ahead_cons,if_neg hy] at h
    simp at h ⊢
    omega
   have e:=cut_eq h'
   unfold behind at e
   simp only [List.length_cons,List.drop_succ_cons,List.cons_append]
   rw [← e]
theorem index_ahead (c:UInt8):∀ l:List UInt8,Lib.indexByte l c=if hasB c l=true then ((ahead c l).length:Int) else -1
 | []=>by simp [Lib.indexByte,hasB]
 | y::l=>by
  have ih:=index_ahead c l
  have e1:hasB c (y::l)=if y=c then true else hasB c l:=by
   unfold hasB
   rw [ahead_cons]
   by_cases hy:y=c <;> simp [hy]
  rw [Lib.indexByte,e1,ahead_cons]
  by_cases hy:y=c
  ·
   subst hy;simp
  ·
   have hb:(y==c)=false:=by simpa using hy
   rw [hb,if_neg hy,if_neg hy,ih]
   rw [if_neg (by simp)]
   by_cases hh:hasB c l=true
   ·
    rw [if_pos hh,if_pos hh]
    have:¬ ((((ahead c l).length:Int) == -1)=true):=by rw [beq_iff_eq];omega
    rw [if_neg this,List.length_cons]
    omega
   ·
    rw [if_neg hh,if_neg hh];rfl
def nameC (s:List UInt8):Bool :=
 decide (s.length≤64)&&(Lib.hasPrefix s [47,47]&&(hasB 47 (s.drop 2)&&(!(ahead 47 (s.drop 2)).isEmpty&&((ahead 47 (s.drop 2)).all letterB&&(behind 47 (s.drop 2)).all lsB))))
theorem beq_comm_u (a b:UInt8):(a==b)=(b==a):=by
 by_cases h:a=b
 ·
  subst h;rfl
 ·
  have h2:¬ b=a:=fun e=>h e.symm
  rw [beq_eq_false_iff_ne.2 h,beq_eq_false_iff_ne.2 h2]
theorem toSlash_ahead (l:List UInt8):toSlash l=(ahead 47 l).length:=rfl
theorem letter_ls {c:UInt8} (h:c≠47):lsB c=letterB c:=by
 unfold lsB
 have:(c==47)=false:=by simpa using h
 rw [this,Bool.false_or]
theorem all_ls {l:List UInt8} (h:∀ x∈l,x≠47):l.all lsB=l.all letterB:=by
 induction l with
 | nil=>rfl
 | cons a l ih =>
  rw [List.all_cons,List.all_cons,letter_ls (h a (by simp)),ih (fun x hx=>h x (by simp [hx]))]
theorem nameC_eq (s:List UInt8):nameC s=nameB s:=by
 unfold nameC nameB
 congr 1
 match s with
 | []=>rfl
 | [a]=>simp [Lib.hasPrefix,List.isPrefixOf]
 | a::b::r =>
  have e1:Lib.hasPrefix (a::b::r) [47,47]=(a==47&&b==47):=by
   simp only [Lib.hasPrefix,List.isPrefixOf,Bool.and_true]
   rw [show ((47:UInt8)==a)=(a==47) from beq_comm_u _ _,show ((47:UInt8)==b)=(b==47) from beq_comm_u _ _]
  rw [e1]
  congr 1
  show (hasB 47 r&&_)=_
  rw [show (a::b::r).drop 2=r from rfl]
  by_cases hh:hasB 47 r=true
  ·
   have e:=cut_eq hh
   have e2:r.all lsB=((ahead 47 r).all letterB&&(behind 47 r).all lsB):=by
    conv=>lhs;rw [e]
    rw [List.all_append,List.all_cons,all_ls (ahead_no 47 r)]
    rfl
   have e3:decide (toSlash r<r.length)=true:=hh
   have e4:(!(ahead 47 r).isEmpty)=decide (1≤toSlash r):=by
    rw [toSlash_ahead]
    cases ahead 47 r <;> simp
   rw [hh,e3,e2,e4,Bool.true_and,Bool.and_true,Bool.and_comm]
  ·
   have e3:decide (toSlash r<r.length)=false:=by rw [Bool.not_eq_true] at hh;exact hh
   rw [Bool.not_eq_true] at hh
   rw [hh,e3,Bool.false_and,Bool.and_false,Bool.and_false]
end Go.Proofs.YteckeagobafoiaaGreatDoor
/- The library's contracts of the functions that layer 4 calls, at this program. -/
namespace Go.Proofs
open Go.Shelf
def Tryz.lays137_ren:Go.Shelf.Ren:=⟨fun|137=>247|217=>255|266=>261|n=>n,fun|9=>9|5=>5|3=>3|n=>n,fun|n=>n⟩
theorem Tryz.lays137:Go.Proofs.Lays.n137 Tryz.prog Tryz.lays137_ren:={
 mixed:=by kernel_rfl
 f137:=Tryz.func247.trans (congrArg some (by kernel_rfl))
 f217:=Tryz.func255.trans (congrArg some (by kernel_rfl))
 f266:=Tryz.func261.trans (congrArg some (by kernel_rfl))
 t3:=Tryz.underlying3
 a3:=Tryz.isAgg3
 z3:=Tryz.sizeOf3
 v3:=Tryz.zeroValue3
 t5:=Tryz.underlying5
 a5:=Tryz.isAgg5
 z5:=Tryz.sizeOf5
 v5:=Tryz.zeroValue5
 t9:=Tryz.underlying9
 a9:=Tryz.isAgg9
 z9:=Tryz.sizeOf9
 v9:=Tryz.zeroValue9 }
open Go.RowKit in
theorem Tryz.strings_IndexByte (s:ByteArray) (c:Int) (w:World) :
  Calls Tryz.prog 247 #[.string s,.int .u8 c] w fun e w'=>e=.returned (.int .i64 (Lib.indexByte s.data.toList c.toNat.toUInt8))∧w'=w:=Any.strings_IndexByte Tryz.lays137 s c w
def Tryz.lays103_ren:Go.Shelf.Ren:=⟨fun|103=>226|210=>244|206=>253|n=>n,fun|9=>9|4=>4|24=>296|3=>3|n=>n,fun|n=>n⟩
theorem Tryz.lays103:Go.Proofs.Lays.n103 Tryz.prog Tryz.lays103_ren:={
 mixed:=by kernel_rfl
 f103:=Tryz.func226.trans (congrArg some (by kernel_rfl))
 f206:=Tryz.func253.trans (congrArg some (by kernel_rfl))
 f210:=Tryz.func244.trans (congrArg some (by kernel_rfl))
 t3:=Tryz.underlying3
 a3:=Tryz.isAgg3
 z3:=Tryz.sizeOf3
 v3:=Tryz.zeroValue3
 t4:=Tryz.underlying4
 a4:=Tryz.isAgg4
 z4:=Tryz.sizeOf4
 v4:=Tryz.zeroValue4
 t9:=Tryz.underlying9
 a9:=Tryz.isAgg9
 z9:=Tryz.sizeOf9
 v9:=Tryz.zeroValue9
 t24:=Tryz.underlying296
 a24:=Tryz.isAgg296
 z24:=Tryz.sizeOf296
 v24:=Tryz.zeroValue296 }
open Go.RowKit in
theorem Tryz.strings_CutPrefix (s p:ByteArray) (w:World) :
  Calls Tryz.prog 226 #[.string s,.string p] w fun e w'=>e=.returned (.tuple #[.string ⟨(Lib.trimPrefix s.data.toList p.data.toList).toArray⟩,.bool (Lib.hasPrefix s.data.toList p.data.toList)])∧w'=w:=Any.strings_CutPrefix Tryz.lays103 s p w
def Tryz.laysPu25_ren:Go.Shelf.Ren:=⟨fun|25=>185|n=>n,fun|9=>9|3=>3|4=>4|37=>29|0=>0|47=>286|5=>5|n=>n,fun|n=>n⟩
theorem Tryz.laysPu25:Go.Proofs.LaysPu.n25 Tryz.prog Tryz.laysPu25_ren:={
 mixed:=by kernel_rfl
 f25:=Tryz.func185.trans (congrArg some (by kernel_rfl))
 t0:=Tryz.underlying0
 a0:=Tryz.isAgg0
 z0:=Tryz.sizeOf0
 v0:=Tryz.zeroValue0
 i0:=by kernel_rfl
 t3:=Tryz.underlying3
 a3:=Tryz.isAgg3
 z3:=Tryz.sizeOf3
 v3:=Tryz.zeroValue3
 i3:=by kernel_rfl
 t4:=Tryz.underlying4
 a4:=Tryz.isAgg4
 z4:=Tryz.sizeOf4
 v4:=Tryz.zeroValue4
 i4:=by kernel_rfl
 t5:=Tryz.underlying5
 a5:=Tryz.isAgg5
 z5:=Tryz.sizeOf5
 v5:=Tryz.zeroValue5
 i5:=by kernel_rfl
 t9:=Tryz.underlying9
 a9:=Tryz.isAgg9
 z9:=Tryz.sizeOf9
 v9:=Tryz.zeroValue9
 i9:=by kernel_rfl
 t37:=Tryz.underlying29
 a37:=Tryz.isAgg29
 z37:=Tryz.sizeOf29
 v37:=Tryz.zeroValue29
 i37:=by kernel_rfl
 t47:=Tryz.underlying286
 a47:=Tryz.isAgg286
 z47:=Tryz.sizeOf286
 v47:=Tryz.zeroValue286
 i47:=by kernel_rfl }
open Go.RowKit in
theorem Tryz.stringslite_Clone (s:ByteArray) (w:World) (hlim:s.size≤281474976710656) :
  Calls Tryz.prog 185 #[.string s] w fun e w'=>e=.returned (.string s)∧Below w.heap.size w w':=AnyPu.stringslite_Clone Tryz.laysPu25 s w hlim
def Tryz.lays217_ren:Go.Shelf.Ren:=⟨fun|217=>255|266=>261|n=>n,fun|9=>9|5=>5|3=>3|n=>n,fun|n=>n⟩
theorem Tryz.lays217:Go.Proofs.Lays.n217 Tryz.prog Tryz.lays217_ren:={
 mixed:=by kernel_rfl
 f217:=Tryz.func255.trans (congrArg some (by kernel_rfl))
 f266:=Tryz.func261.trans (congrArg some (by kernel_rfl))
 t3:=Tryz.underlying3
 a3:=Tryz.isAgg3
 z3:=Tryz.sizeOf3
 v3:=Tryz.zeroValue3
 t5:=Tryz.underlying5
 a5:=Tryz.isAgg5
 z5:=Tryz.sizeOf5
 v5:=Tryz.zeroValue5
 t9:=Tryz.underlying9
 a9:=Tryz.isAgg9
 z9:=Tryz.sizeOf9
 v9:=Tryz.zeroValue9 }
open Go.RowKit Go.Lib in
theorem Tryz.stringslite_IndexByte (s:ByteArray) (c:Int) (w:World) :
  Calls Tryz.prog 255 #[.string s,.int .u8 c] w fun e w'=>e=.returned (.int .i64 (Lib.indexByte s.data.toList c.toNat.toUInt8))∧w'=w:=Any.stringslite_IndexByte Tryz.lays217 s c w
end Go.Proofs
/- The plain mathematics of layer 6: bundles, the bytes that they are. No program's number stands here but the sums' (CrcR). -/
namespace Go.Proofs.YteckeagobafoiaaGreatDoor
set_option maxRecDepth 100000
set_option maxHeartbeats 16000000
/-! ### Endpoints' items -/
theorem letter_plain {c:UInt8} (h:lsB c=true):(decide (32≤c.toNat)&&decide (c.toNat≤126))=true:=by
 have h0:∀ v:Fin 256,lsB (UInt8.ofNat v.val)=true→(decide (32≤(UInt8.ofNat v.val).toNat)&&decide ((UInt8.ofNat v.val).toNat≤126))=true:=by decide +kernel
 have:=h0 ⟨c.toNat,c.toNat_lt⟩
 simp only [UInt8.ofNat_toNat] at this
 exact this h
theorem name_plain {s:List UInt8} (h:nameB s=true):plain s=true:=by
 obtain ⟨r,rfl,h2,-⟩:=name_head h
 have hr:(r.all fun c=>decide (32≤c.toNat)&&decide (c.toNat≤126))=true:=List.all_eq_true.2 fun c hc=>letter_plain (List.all_eq_true.1 h2 c hc)
 unfold plain
 rw [List.all_cons,List.all_cons,hr]
 decide
theorem itemE_good {e:Epd} (h:checkB e=true):right (itemE e)=true∧dep (itemE e)≤2∧par (itemE e)≤5:=by
 by_cases h1:e.scheme=1
 ·
  obtain ⟨hn,hs,hm⟩:=check_dtn h h1
  unfold itemE
  rw [if_neg (by omega)]
  by_cases h0:e.name=[]
  ·
   rw [if_pos h0]
   exact ⟨by simp [right,rights,own],by simp [dep,deps],by simp [par,pars]⟩
  ·
   rw [if_neg h0]
   have hp:=name_plain (hm.resolve_left h0)
   exact ⟨by simp [right,rights,own,hp],by simp [dep,deps],by simp [par,pars]⟩
 ·
  obtain ⟨h2,hm,-⟩:=check_ipn h h1
  unfold itemE
  rw [if_pos h2]
  exact ⟨by simp [right,rights,own],by simp [dep,deps],by simp [par,pars]⟩
theorem itemE_siz {e:Epd} (h:checkB e=true):Siz (itemE e):=by
 by_cases h1:e.scheme=1
 ·
  obtain ⟨hn,hs,hm⟩:=check_dtn h h1
  unfold itemE
  rw [if_neg (by omega)]
  by_cases h0:e.name=[]
  ·
   rw [if_pos h0]
   exact ⟨by decide,by simp,by simp,⟨by rw [h1];decide,by simp,by simp,trivial⟩,⟨by decide,by simp,by simp,trivial⟩,trivial⟩
  ·
   rw [if_neg h0]
   obtain ⟨r,hr,-,-,-,hl⟩:=name_head (hm.resolve_left h0)
   exact ⟨by decide,by simp,by simp,⟨by rw [h1];decide,by simp,by simp,trivial⟩,⟨by decide,by omega,by simp,trivial⟩,trivial⟩
 ·
  obtain ⟨h2,hm,-,h3,h4⟩:=check_ipn h h1
  unfold itemE
  rw [if_pos h2]
  exact ⟨by decide,by simp,by simp,⟨by rw [h2];decide,by simp,by simp,trivial⟩,⟨by decide,by simp,by simp,⟨by omega,by simp,by simp,trivial⟩,⟨by omega,by simp,by simp,trivial⟩,trivial⟩,trivial⟩
theorem wri_4 (l:List Itm):wri (.mk 4 0 [] l)=hd 4 l.length++wrs l:=by rw [wri,if_neg (by decide),if_neg (by decide),if_pos rfl]
theorem wri_t (d:List UInt8):wri (.mk 3 0 d [])=hd 3 d.length++d:=by rw [wri,if_neg (by decide),if_pos (by decide)];rfl
theorem wri_itemE_len {e:Epd} (h:checkB e=true):(wri (itemE e)).length≤110:=by
 have hl:∀ m n,(hd m n).length≤9:=fun m n=>by rw [hd_len];have:=hsz_le n;omega
 have a0:=hl 4 2
 have a1:=hl 0 e.scheme.toNat
 by_cases h1:e.scheme=1
 ·
  obtain ⟨hn,hs,hm⟩:=check_dtn h h1
  unfold itemE
  rw [if_neg (by omega),wri_4]
  by_cases h0:e.name=[]
  ·
   rw [if_pos h0]
   have a3:=hl 0 0
   simp only [wrs,wri_u,List.length_append,List.length_cons,List.length_nil,Nat.zero_add,Nat.reduceAdd,List.append_nil]
   omega
  ·
   rw [if_neg h0]
   obtain ⟨r,hr,-,-,-,hl2⟩:=name_head (hm.resolve_left h0)
   have a3:=hl 3 e.name.length
   simp only [wrs,wri_u,wri_t,List.length_append,List.length_cons,List.length_nil,Nat.zero_add,Nat.reduceAdd,List.append_nil]
   omega
 ·
  obtain ⟨h2,hm,-⟩:=check_ipn h h1
  unfold itemE
  rw [if_pos h2,wri_4]
  have a3:=hl 0 e.node
  have a4:=hl 0 e.service
  simp only [wrs,wri_u,wri_4,List.length_append,List.length_cons,List.length_nil,Nat.zero_add,Nat.reduceAdd,List.append_nil]
  omega
/-! ### Bundles -/
structure Bun where
 flg:Nat
 crc:Int
 dst:Epd
 src:Epd
 rep:Epd
 tim:Nat
 seq:Nat
 lif:Nat
 blks:List Blk
def fragB (f:Nat):Bool:=Go.bits BinOp.and IntKind.u64 (f:Int) 1 != 0
def wholeB (f:Nat):Bool:=Go.bits BinOp.and IntKind.u64 (f:Int) 475140==4
def singB (t:Nat):Bool:=decide (t=10)||(decide (t=7)||decide (t=6))
def frm (a:List Blk):List Blk→Bool
 | []=>true
 | x::r=>blkOk x&&((decide (x.typ=1)==r.isEmpty)&&((!(a.any fun y=>decide (y.num=x.num)))&&((!(singB x.typ&&a.any fun y=>decide (y.typ=x.typ)))&&frm (a++[x]) r)))
def blksOk (l:List Blk):Bool:=decide (1≤l.length∧l.length≤16)&&frm [] l
def primOk (b:Bun):Bool:=decide (0≤b.crc∧b.crc≤2)&&((checkB b.dst&&(checkB b.src&&checkB b.rep))&&((!(noneB b.dst))&&(!(noneB b.src && !(wholeB b.flg)))))
def cauU (b:Bun):Int:=if fragB b.flg=true then 62 else if primOk b=true∧blksOk b.blks=true then 0 else 60
def BdP (b:Bun):Prop:=b.flg<18446744073709551616∧b.tim<18446744073709551616∧b.seq<18446744073709551616∧b.lif<18446744073709551616
def Wr (b:Bun):Prop:=(0≤b.crc∧b.crc≤2)∧checkB b.dst=true∧checkB b.src=true∧checkB b.rep=true
def partsP (b:Bun):List Itm:=[.mk 0 7 [] [],.mk 0 b.flg [] [],.mk 0 b.crc.toNat [] [],itemE b.dst,itemE b.src,itemE b.rep,.mk 4 0 [] [.mk 0 b.tim [] [],.mk 0 b.seq [] []],.mk 0 b.lif [] []]
def itmP (b:Bun) (s:List UInt8):Itm:=.mk 4 0 [] (partsP b++if b.crc=0 then [] else [.mk 2 0 s []])
def bodyP (b:Bun):List UInt8:=hd 4 (if b.crc=0 then 8 else 9)++(wrs (partsP b)++if b.crc=0 then [] else hd 2 (sumN b.crc))
def nullsP (b:Bun):List UInt8:=List.replicate (sumN b.crc) 0
theorem nullsP_len (b:Bun):(nullsP b).length=sumN b.crc:=by simp [nullsP]
def sumP (b:Bun):List UInt8:=crcBytes b.crc (bodyP b++nullsP b)
def primW (b:Bun):List UInt8:=bodyP b++sumP b
theorem sumP_len (b:Bun):(sumP b).length=sumN b.crc:=crcBytes_len _ _
theorem wri_itmP (b:Bun) (s:List UInt8) (hs:s.length=sumN b.crc):wri (itmP b s)=bodyP b++s:=by
 unfold itmP
 rw [wri,if_neg (by decide),if_neg (by decide),if_pos rfl]
 unfold bodyP
 by_cases h0:b.crc=0
 ·
  have:s=[]:=List.eq_nil_of_length_eq_zero (by rw [hs,h0];rfl)
  subst this
  simp only [if_pos h0,List.append_nil]
  rw [show (partsP b).length=8 from rfl]
 ·
  simp only [if_neg h0]
  rw [wrs_ap,show (partsP b++[Itm.mk 2 0 s []]).length=9 from rfl,wrs,wri_b,wrs,hs]
  simp [List.append_assoc]
theorem itmP_fits {b:Bun} (s:List UInt8) (h:Wr b):Fits (itmP b s):=by
 obtain ⟨-,hd,hs,hr⟩:=h
 obtain ⟨d1,d2,d3⟩:=itemE_good hd
 obtain ⟨s1,s2,s3⟩:=itemE_good hs
 obtain ⟨r1,r2,r3⟩:=itemE_good hr
 unfold itmP partsP
 by_cases h0:b.crc=0
 ·
  simp only [if_pos h0]
  exact ⟨by simp [right,rights,own,d1,s1,r1],by simp [dep,deps];omega,by simp [par,pars];omega⟩
 ·
  simp only [if_neg h0]
  exact ⟨by simp [right,rights,own,d1,s1,r1],by simp [dep,deps];omega,by simp [par,pars];omega⟩
theorem itmP_siz {b:Bun} (s:List UInt8) (h:Wr b) (hb:BdP b) (hs:s.length<18446744073709551616):Siz (itmP b s):=by
 obtain ⟨hc,hd,hsr,hr⟩:=h
 obtain ⟨h1,h2,h3,h4⟩:=hb
 have h5:b.crc.toNat<18446744073709551616:=by omega
 have d1:=itemE_siz hd
 have s1:=itemE_siz hsr
 have r1:=itemE_siz hr
 unfold itmP partsP
 have hrow:∀ t:List Itm,Sizs t→Sizs ([.mk 0 7 [] [],.mk 0 b.flg [] [],.mk 0 b.crc.toNat [] [],itemE b.dst,itemE b.src,itemE b.rep,.mk 4 0 [] [.mk 0 b.tim [] [],.mk 0 b.seq [] []],.mk 0 b.lif [] []]++t):=fun t ht =>
  ⟨⟨by decide,by simp,by simp,trivial⟩,⟨h1,by simp,by simp,trivial⟩,⟨h5,by simp,by simp,trivial⟩,d1,s1,r1,⟨by decide,by simp,by simp,⟨h2,by simp,by simp,trivial⟩,⟨h3,by simp,by simp,trivial⟩,trivial⟩,⟨h4,by simp,by simp,trivial⟩,ht⟩
 by_cases h0:b.crc=0
 ·
  simp only [if_pos h0]
  exact ⟨by decide,by simp,by simp,hrow [] trivial⟩
 ·
  simp only [if_neg h0]
  exact ⟨by decide,by simp,by simp,hrow _ ⟨⟨by decide,hs,by simp,trivial⟩,trivial⟩⟩
theorem bodyP_len {b:Bun} (h:Wr b):(bodyP b).length≤450:=by
 obtain ⟨-,d0,s0,r0⟩:=h
 have d1:=wri_itemE_len d0
 have s1:=wri_itemE_len s0
 have r1:=wri_itemE_len r0
 have hl:∀ m n,(hd m n).length≤9:=fun m n=>by rw [hd_len];have:=hsz_le n;omega
 unfold bodyP partsP
 have h1:=hl 4 (if b.crc=0 then 8 else 9)
 have h2:=hl 0 7
 have h3:=hl 0 b.flg
 have h4:=hl 0 b.crc.toNat
 have h5:=hl 0 b.tim
 have h6:=hl 0 b.seq
 have h7:=hl 0 b.lif
 have h8:=hl 4 2
 have h9:=hl 2 (sumN b.crc)
 simp only [wrs,wri_u,wri_4,List.length_append,List.length_cons,List.length_nil,Nat.zero_add,Nat.reduceAdd,List.append_nil]
 generalize (hd 4 (if b.crc=0 then 8 else 9)).length=q at *
 by_cases h0:b.crc=0
 ·
  rw [if_pos h0,List.length_nil];omega
 ·
  rw [if_neg h0];omega
theorem bodyP_pos (b:Bun):1≤(bodyP b).length:=by unfold bodyP;simp only [List.length_append,hd_len];omega
theorem primW_len {b:Bun} (h:Wr b):(primW b).length≤454:=by
 unfold primW
 rw [List.length_append,sumP_len]
 have:=bodyP_len h
 have:=sumN_le b.crc
 omega
theorem prim_dec {b:Bun} (h:Wr b) (hb:BdP b) (m:List UInt8):decode (primW b++m)=(itmP b (sumP b),((primW b).length:Int),0):=by
 have hw:=wri_itmP b (sumP b) (sumP_len b)
 have:=decode_wr (itmP_fits (sumP b) h) (itmP_siz (sumP b) h hb (by rw [sumP_len];have:=sumN_le b.crc;omega)) m
 rw [hw] at this
 exact this
def blkWs:List Blk→List UInt8 | []=>[]|x::r=>blkW x++blkWs r
def bunW (b:Bun):List UInt8:=0x9f::(primW b++(blkWs b.blks++[0xff]))
theorem primOk_iff {b:Bun}:primOk b=true↔Wr b∧noneB b.dst=false∧(noneB b.src=true→wholeB b.flg=true):=by
 unfold primOk Wr
 simp only [Bool.and_eq_true,decide_eq_true_eq,Bool.not_eq_true',Bool.and_eq_false_iff,Bool.not_eq_false']
 constructor
 ·
  rintro ⟨h1,⟨h2,h3,h4⟩,h5,h6⟩
  exact ⟨⟨h1,h2,h3,h4⟩,h5,fun h=>h6.resolve_left (by rw [h];decide)⟩
 ·
  rintro ⟨⟨h1,h2,h3,h4⟩,h5,h6⟩
  refine ⟨h1,⟨h2,h3,h4⟩,h5,?_⟩
  cases hn:noneB b.src
  ·
   exact .inl rfl
  ·
   exact .inr (h6 hn)
theorem cauU_0 {b:Bun}:cauU b=0↔fragB b.flg=false∧primOk b=true∧blksOk b.blks=true:=by
 unfold cauU
 cases fragB b.flg <;> by_cases h:primOk b=true∧blksOk b.blks=true <;> simp [h] <;> simp_all
def PrimAt (l:List UInt8) (b:Bun):Prop:=Wr b∧BdP b∧∃ m,l=primW b++m
theorem PrimAt.dec {l:List UInt8} {b:Bun} (h:PrimAt l b):decode l=(itmP b (sumP b),((primW b).length:Int),0):=by
 obtain ⟨h1,h2,m,rfl⟩:=h
 exact prim_dec h1 h2 m
end Go.Proofs.YteckeagobafoiaaGreatDoor
/- Chosen by shake.py of the texts of the layers below: what dec_any need. -/
section
namespace Go.Proofs.YteckeagobafoiaaGreatDoor
set_option maxRecDepth 100000
set_option maxHeartbeats 16000000
open Go.RowKit
end Go.Proofs.YteckeagobafoiaaGreatDoor
end
/- What Check of layer 5 returns. -/
namespace Go.Proofs.YteckeagobafoiaaGreatDoor
set_option maxRecDepth 100000
set_option maxHeartbeats 16000000
open Go.RowKit
open Go.Lib (hid)
theorem bccheck_any (t n f:Nat) (c:Int) (A:Option Addr) (nd cd:Nat) (d:List UInt8) (w:World) (hd:d.length=nd) :
  Calls Tryz.prog 182 #[blkV t n f c A nd cd] w fun e w'=>e=.returned (.bool (blkOk ⟨t,n,f,c,d⟩))∧Below w.heap.size w w':=by
 have C1:=hid (fun W=>bcheck_any t n f c A nd cd d W hd)
 have q2:=fun (W:World) (u:TypeId) (x:Value)=>run_eql_iface_nil (P:=Tryz.prog) (w:=W) 78 (by kernel_rfl) u x
 clear hd
 generalize blkOk ⟨t,n,f,c,d⟩=R at *
 unfold blkV at *
 go_enter Tryz.func182,Tryz.ntmps182
 go_wp2_with fail
 refine (C1.out _).mono ?_
 rintro e w1 ⟨hb,⟨rfl,rfl⟩|⟨rfl,s,rfl⟩⟩
 ·
  have HB:=hid (((Below.refl _ _).alloc (Nat.le_refl _) _).trans (hb.mono (le_alloc _ _)))
  clear hb
  go_wp2_with fail
  go_ret
  exact ⟨rfl,HB.out⟩
 ·
  have HB:=hid (((Below.refl _ _).alloc (Nat.le_refl _) _).trans (hb.mono (le_alloc _ _)))
  clear hb
  unfold bfl at *
  go_wp2_with fail
  go_ret
  exact ⟨rfl,HB.out⟩
theorem Rd.grown {w w':World} {B n:Nat} {A:Option Addr} {l:List UInt8} {row:Option Nat} (h:Rd w B A n l) (hg:w.grownBy w' row) (hB:B≤w.heap.size) (hne:∀ b o,A=some ⟨b,o,none⟩→row≠some b):Rd w' B A n l :=
 ⟨h.1,fun hn=>by
  obtain ⟨b,o,e,hb,hc⟩:=h.2 hn
  refine ⟨b,o,e,hb,fun i hi=>?_⟩
  rw [← hc i hi]
  simp only [World.cell?]
  rw [hg.block b (by omega) (fun h=>hne b o e h.symm)]⟩
theorem wpList_makeB {P:Program} {ops:Array Oper} {rest:List Oper} {o:Oper} {a:Act} {w:World} {Q:Exit→Act→World→Prop} (hg:o.guard=none) (l c:Operand) (t:TypeId) (hop:o.op=Op.makeSlice t l c)
  (e:TypeId) (ht:P.underlying t=some (.slice e)) (hinfo:(P.info? e).map (fun i=>(i.zero,i.size,i.bytes))=some (some (.int .u8 0),1,1)) (M C:Nat) (x y:Int) (hl:a.eval l=.int .i64 x) (hc:a.eval c=.int .i64 y) (hx:x=(M:Int)) (hy:y=(C:Int)) (hMC:M≤C) (hC:C≤140737488355328)
  (h:∀ w':World,Ob w' w.heap.size e (.slice (some ⟨w.heap.size,0,none⟩) M C) (List.replicate M 0)→Below w.heap.size w w'→wpList P ops Q rest (a.put o.dst (.slice (some ⟨w.heap.size,0,none⟩) M C)) w'):wpList P ops Q (o::rest) a w:=by
 subst hx hy
 obtain ⟨i,hi,hzz⟩:=Option.map_eq_some_iff.1 hinfo
 simp only [Prod.mk.injEq] at hzz
 obtain ⟨hz,hs,hb⟩:=hzz
 have hr:=run_make (P:=P) w t e i (.int .u8 0) ht hi hz .i64 .i64 (M:Int) (C:Int) (by omega) (by omega) (by rw [hb];omega) (by omega)
 simp only [Int.toNat_natCast,hs,Nat.mul_one] at hr
 refine wpList_plain hg fun K hK=>?_
 unfold Oper.wp
 simp [execOp,hop,hl,hc,hr,Result.andThen]
 refine hK _ _ (h _ ⟨?_,.inr ⟨w.heap.size,C,_,by simp,Nat.le_refl _,heap_alloc_new w _,by simpa using hMC,by unfold maxLen;omega,by rw [size_madeCells,Nat.mul_one],?_⟩⟩ ((Below.refl _ _).alloc (Nat.le_refl _) _))
 ·
  simp
 ·
  apply List.ext_getElem?
  intro j
  have hz1:(Value.int IntKind.u8 0).cells=#[.int .u8 0]:=rfl
  rw [hz1]
  by_cases hj:j<M
  ·
   have hj2:j<C:=by omega
   simp [hj,madeCells,hj2,Nat.mod_one,bv]
  ·
   simp [hj]
   omega
theorem cput_any (x:Int) (n:Nat) (k:Int) (hk:k=(n:Int)) (hn:n≤8) (w:World) (hx0:0≤x) (hx1:x<18446744073709551616) :
  Calls Tryz.prog 219 #[.int .u64 x,.int .i64 k] w fun e w'=>∃ A,e=.returned (.slice A n n)∧Rd w' w'.heap.size A n (be x.toNat n)∧Below w.heap.size w w':=by
 subst hk
 refine (put_any x (n:Int) w hx0 hx1).mono ?_
 rintro e w' ⟨rfl,hr,hb⟩
 have hp:psz (n:Int)=n:=by unfold psz;omega
 rw [hp] at hr
 exact ⟨_,by rw [hp],Rb.rd hr (be_length _ _) (Rb.lt hr),hb⟩
theorem padL_eq (N m:Nat) (hm:m=63 - (N % 64+8) % 64):padL N=(List.replicate (1+m) (0:UInt8)).set 0 128++be (8*N) 8:=by
 rw [padL,hm,Nat.add_comm 1]
 rfl
theorem cpad_any (N:Nat) (hN:N<9223372036854775808) (w:World):Calls Tryz.prog 211 #[.int .i64 (N:Int)] w (GivesO 5 (padL N) w):=by
 obtain ⟨m,hm⟩:∃ m,m=63 - (N % 64+8) % 64:=⟨_,rfl⟩
 have hm64:m<64:=by omega
 have q1:63 - ((N:Int)+8) % 64=(m:Int):=by omega
 have HP:=hid (padL_eq N m hm)
 have hx1:(IntKind.u64.wrap (8*(N:Int))).toNat % 256 ^ 8=(8*N) % 256 ^ 8:=by
  rw [IntKind.wrap_u64];omega
 have hx2:0≤IntKind.u64.wrap (8*(N:Int))∧IntKind.u64.wrap (8*(N:Int))<18446744073709551616:=by
  rw [IntKind.wrap_u64];omega
 have n0:(0:Int)≤(N:Int):=by omega
 go_enter Tryz.func211,Tryz.ntmps211
 have C2:=hid (cput_any (IntKind.u64.wrap (8*(N:Int))) 8 8 rfl (by decide))
 have HE:=hid (be_lt 8 _ _ hx1)
 have HX2:=hid hx2
 clear hm hx1 hx2
 go_wp2_with (first
  | (refine wpList_makeB rfl (.tmp 13) (.tmp 16) 29 rfl 5 Tryz.underlying29 info_u8 (1+m) (1+m+8) _ _ rfl rfl (by omega) (by omega) (by omega) (by omega) ?_;intro w1 ho1 hb1;have O1:=hid ho1;have B1:=hid hb1;have cz:=ho1.cell (j:=0) (by simp) (by omega);have fz:=ho1.frozen (by simp) 0;clear ho1 hb1)
  | fail)
 refine (C2.out _ HX2.out.1 HX2.out.2).mono ?_
 rintro e w2 ⟨A2,rfl,hr2,hb2⟩
 rw [HE.out] at hr2
 have ho:=(O1.out.stored (by simp) 0 128 (u:=.int .u8 128) rfl).below hb2
 have hb3:Below w.heap.size w w2:=(B1.out.setCell (Nat.le_refl _) _).trans (hb2.mono (by rw [World.size_setCell];exact B1.out.size))
 have HO:=hid ho
 have HB3:=hid hb3
 have HRD:=hid hr2
 clear ho hb3 hr2 hb2
 go_wp2_with (first
  | (at_builtin;refine wpList_appB rfl (.tmp 20) (.tmp 24) 29 rfl w.heap.size 5 Tryz.underlying29 info_u8 _ ((List.replicate (1+m) (0:UInt8)).set 0 128) rfl HO.out _ _ 8 8 (be (8*N) 8) rfl HRD.out (by simp;omega) HB3.out.size ?_;intro v3 w3 ho3 hb3;have O3:=hid ho3;have B3:=hid hb3;clear ho3 hb3)
  | fail)
 go_ret
 exact ⟨_,rfl,by rw [HP.out];exact O3.out,HB3.out.trans B3.out⟩
def RdF (w:World) (F:Nat→Prop) (A:Option Addr) (n:Nat) (l:List UInt8):Prop :=
 l.length=n∧(0<n→∃ b o,A=some ⟨b,o,none⟩∧F b∧∀ i,i<n→w.cell? ⟨b,o+i,none⟩=some (.int .u8 ((l.getD i 0).toNat:Int)))
section
variable {w w':World} {F G:Nat→Prop} {n k:Nat} {A:Option Addr} {l:List UInt8}
theorem RdF.keep (h:RdF w F A n l) (hk:∀ b,F b→w'.heap[b]?=w.heap[b]?):RdF w' F A n l :=
 ⟨h.1,fun hn=>by
  obtain ⟨b,o,e,hb,hc⟩:=h.2 hn
  refine ⟨b,o,e,hb,fun i hi=>?_⟩
  rw [← hc i hi]
  simp only [World.cell?]
  rw [hk b hb]⟩
theorem RdF.rd (h:RdF w F A n l) {B:Nat} (hF:∀ b,F b→b<B):Rd w B A n l :=
 ⟨h.1,fun hn=>by
  obtain ⟨b,o,e,hb,hc⟩:=h.2 hn
  exact ⟨b,o,e,hF b hb,hc⟩⟩
theorem Rd.rdF {B:Nat} (h:Rd w B A n l) (hF:∀ b,b<B→F b):RdF w F A n l :=
 ⟨h.1,fun hn=>by
  obtain ⟨b,o,e,hb,hc⟩:=h.2 hn
  exact ⟨b,o,e,hF b hb,hc⟩⟩
theorem RdF.imp (h:RdF w F A n l) (hF:∀ b,F b→G b):RdF w G A n l :=
 ⟨h.1,fun hn=>by
  obtain ⟨b,o,e,hb,hc⟩:=h.2 hn
  exact ⟨b,o,e,hF b hb,hc⟩⟩
theorem RdF.cut (h:RdF w F A n l):RdF w F (A.map (·.add k)) (n - k) (l.drop k):=by
 refine ⟨by rw [List.length_drop,h.1],fun hn=>?_⟩
 obtain ⟨b,o,rfl,hb,hc⟩:=h.2 (by omega)
 refine ⟨b,o+k,by unfold Addr.add;simp,hb,fun i hi=>?_⟩
 rw [Nat.add_assoc,hc (k+i) (by omega)]
 simp [List.getD,List.getElem?_drop]
theorem RdF.nil_:RdF w F A 0 []:=⟨rfl,fun h=>absurd h (by omega)⟩
theorem RdF.take (h:RdF w F A n l) (hk:k≤n):RdF w F A k (l.take k):=by
 have hl:=h.1
 refine ⟨by rw [List.length_take];omega,fun hn=>?_⟩
 obtain ⟨b,o,e,hb,hc⟩:=h.2 (by omega)
 refine ⟨b,o,e,hb,fun i hi=>?_⟩
 rw [hc i (by omega)]
 simp [List.getD,hi]
end
theorem cutF_l {P:Program} {w:World} {F:Nat→Prop} {n:Nat} {A:Option Addr} {l:List UInt8} (t e:TypeId) (ht:P.underlying t=some (.slice e)) (hz:∀ W:World,(sizeOf e).run P W=.ok 1 W) (c:Nat) (h:RdF w F A n l) (x:Int) (k:Nat) (hx:x=(k:Int)) (hk:k≤n) (hc:n≤c) :
  ∃ A' c',(∀ W:World,(Instr.slice t (.slice A n c) (some (.int .i64 x)) none none).run P W=.ok (.slice A' (n - k) c') W)∧n - k≤c'∧c'≤c∧RdF w F A' (n - k) (l.drop k):=by
 subst hx
 by_cases hck:c=k
 ·
  refine ⟨A,c - k,fun W=>?_,by omega,by omega,?_⟩
  ·
   subst hck
   go_simp
  ·
   have hl:=h.1
   have e:n - k=0:=by omega
   rw [e,List.drop_eq_nil_of_le (by omega)]
   exact RdF.nil_
 ·
  refine ⟨A.map (·.add k),c - k,fun W=>?_,by omega,by omega,h.cut⟩
  go_simp
theorem cutF_h {P:Program} {w:World} {F:Nat→Prop} {n:Nat} {A:Option Addr} {l:List UInt8} (t e:TypeId) (ht:P.underlying t=some (.slice e)) (hz:∀ W:World,(sizeOf e).run P W=.ok 1 W) (c:Nat) (h:RdF w F A n l) (x:Int) (k:Nat) (hx:x=(k:Int)) (hk:k≤n) (hc:n≤c) :
  ∃ A' c',(∀ W:World,(Instr.slice t (.slice A n c) none (some (.int .i64 x)) none).run P W=.ok (.slice A' k c') W)∧k≤c'∧c'≤c∧RdF w F A' k (l.take k):=by
 subst hx
 by_cases hc0:c=0
 ·
  have hk0:k=0:=by omega
  subst hk0 hc0
  refine ⟨A,0,fun W=>?_,by omega,by omega,h.take hk⟩
  go_simp
 ·
  refine ⟨A,c,fun W=>?_,by omega,by omega,h.take hk⟩
  go_simp
  intro h
  omega
structure Pt where
 A:Option Addr
 n:Nat
 c:Nat
 l:List UInt8
def PtOk (w:World) (F:Nat→Prop) (p:Pt):Prop:=RdF w F p.A p.n p.l∧p.n≤p.c∧p.c≤9223372036854775807
def PtsF (w:World) (F:Nat→Prop) (A:Option Addr) (n:Nat) (ps:List Pt):Prop :=
 ps.length=n∧(0<n→∃ b o,A=some ⟨b,o,none⟩∧F b∧∀ i p,ps[i]?=some p→w.cell? ⟨b,o+i,none⟩=some (.slice p.A p.n p.c))∧∀ p∈ps,PtOk w F p
def catP (ps:List Pt):List UInt8:=ps.flatMap Pt.l
theorem PtsF.keep {w w':World} {F:Nat→Prop} {A:Option Addr} {n:Nat} {ps:List Pt} (h:PtsF w F A n ps) (hk:∀ b,F b→w'.heap[b]?=w.heap[b]?):PtsF w' F A n ps :=
 ⟨h.1,fun hn=>by
  obtain ⟨b,o,e,hb,hc⟩:=h.2.1 hn
  refine ⟨b,o,e,hb,fun i p hp=>?_⟩
  rw [← hc i p hp]
  simp only [World.cell?]
  rw [hk b hb],fun p hp=>⟨(h.2.2 p hp).1.keep hk,(h.2.2 p hp).2⟩⟩
theorem catP_step {ps:List Pt} {i:Nat} {p:Pt} (h:ps[i]?=some p):catP (ps.take (i+1))=catP (ps.take i)++p.l:=by
 obtain ⟨hl,rfl⟩:=List.getElem?_eq_some_iff.1 h
 unfold catP
 rw [List.take_succ_eq_append_getElem hl,List.flatMap_append]
 simp
end Go.Proofs.YteckeagobafoiaaGreatDoor
