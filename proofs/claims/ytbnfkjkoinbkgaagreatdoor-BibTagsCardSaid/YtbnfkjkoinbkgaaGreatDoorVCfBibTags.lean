import Derived.Test.YtbnfkjkoinbkgaaGreatDoorVAbb
import Derived.Test.YtbnfkjkoinbkgaaGreatDoorVEidI3
import Derived.Test.YtbnfkjkoinbkgaaGreatDoorVEidT2
import Derived.Test.YtbnfkjkoinbkgaaGreatDoorVKCheck
import Derived.Test.YtbnfkjkoinbkgaaGreatDoorVKDec2
import Derived.Test.YtbnfkjkoinbkgaaGreatDoorVKMake
import Derived.Test.YtbnfkjkoinbkgaaGreatDoorVShaB
import Derived.Test.YtbnfkjkoinbkgaaGreatDoorVShaP
import Derived.Test.YtbnfkjkoinbkgaaGreatDoorVShaT
import Derived.Lib.SmallJoins
import Derived.ChangeArms
import Derived.ChangeSlices
import Derived.OpenShut
import Derived.Deep.AppendLies
import Derived.Deep.RegionHeld3
import Derived.Below
import Derived.Test.YtbnfkjkoinbkgaaGreatDoorRows
import Derived.Test.YtbnfkjkoinbkgaaGreatDoorChecked
import Derived.JoinedCond
import Derived.Deep.DeepHandedRow
import Derived.KernelRfl
namespace Go.Proofs.YtbnfkjkoinbkgaaGreatDoor
set_option maxRecDepth 100000
set_option maxHeartbeats 16000000
open Go.RowKit
def Qnp(k:LB):LB:=if 64<k.length then Qkq k else k
def Qf1(k:LB):LB:=Qnp k++List.replicate (64 - (Qnp k).length) 0
def Qfb(b:LB)(x:UInt8):LB:=b.map (· ^^^ x)
def Qha(k t:LB):LB:=Qkq (Qfb (Qf1 k) 0x5c++Qkq (Qfb (Qf1 k) 0x36++t))
theorem Qcg(l:LB):(Qkq l).length=32:=by
 have e:∀ L:List (BitVec 32),(Qif L).length=4*L.length:=fun L=>by
  induction L with
  | nil=>rfl
  | cons y t ih=>rw[show Qif (y::t)=be y.toNat 4++Qif t from rfl,List.length_append,Qa9,ih,List.length_cons];omega
 exact e _
theorem Quv(k:LB):(Qnp k).length≤64:=by
 unfold Qnp;split
 ·
  rw[Qcg];decide
 ·
  omega
theorem Qcn(k:LB):(Qf1 k).length=64:=by
 have:=Quv k
 unfold Qf1;rw[List.length_append,List.length_replicate];omega
theorem Qcj(b:LB)(x:UInt8):(Qfb b x).length=b.length:=by simp[Qfb]
theorem Qck(k t:LB):(Qha k t).length=32:=Qcg _
open Go.Lib (hid)
def Q1f(x:Itm)(n e:Int)(w:World)(en:Ending)(w':World):Prop:=∃ v,en=.returned (.tuple #[v,.int .i64 n,.int .i64 e])∧RdI (Qap (Qax w.heap.size) w') w'.heap.size v x∧Below w.heap.size w w'
theorem RdI.maskd{S:Nat→Bool}{W:World}{B:Nat}{v:Value}{x:Itm}(h:RdI (Qap S W) B v x):RdI (Qap S W.drew) B v x:=RdI.keep (w:=Qap S W) (w':=Qap S W.drew) (fun _ _=>rfl) h
theorem Qnh(A:OA)(n c B:Nat)(l:LB)(w:World)(hB:B≤w.heap.size)(h:Rd w B A n l)(hn:n≤140737488355328)(hc:n≤c)(hL:LaidE w) :
  Calls Tryz.prog 127 #[.slice A n c] w (Q1f (Qba l).1 (Qba l).2.1 (Qba l).2.2 w):=by
 have hst:RSt ((w.alloc zk0).alloc (.cells #[.slice A n c,.int .i64 0,.int .i64 0,.int .i64 0] 220)) (w.heap.size+1) A n c l 0 0 0 :=
  ⟨by simp,by simp,by simp,by simp,by simp,by simp,by simp,((h.alloc hB _).alloc (Nat.le_trans hB (Qaa _ _)) _).more (by omega),Nat.zero_le _,hn,hc⟩
 have C1:=hid (Qp7 8 _ _ _ _ _ _ _ _ _ (by rfl) (Nat.zero_le _) hst);obtain⟨r,hr⟩:∃ r,r=dec 8 0 (l.drop 0):=⟨_,rfl⟩
 rw[← hr] at C1
 have HR:=hid hr;have hlen:=h.1;have HL:=hid hL;clear hst h hr;have hgl:2<w.heap.size:=hL.lt;clear hL;rcases r with z|⟨x,p',l'⟩
 ·
  have hd:Qba l=(.zero,0,z):=by
   unfold Qba;have:=HR.out
   rw[List.drop_zero] at this
   rw[← this]
  rw[hd]
  clear hd;have HC:Hid (Calls Tryz.prog 150 #[.pointer (some ⟨w.heap.size+1,0,none⟩)] ((w.alloc zk0).alloc (.cells #[.slice A n c,.int .i64 0,.int .i64 0,.int .i64 0] 220)) fun e w' =>
   e=.returned (.tuple #[.agg #[.int .i64 0,.int .u64 0,.slice none 0 0,.slice none 0 0],.iface 212 (.agg #[.int .i64 z])])∧Only (w.heap.size+1) ((w.alloc zk0).alloc (.cells #[.slice A n c,.int .i64 0,.int .i64 0,.int .i64 0] 220)) w'):=C1
  clear C1;go_enter Tryz.func127,Tryz.ntmps127;go_wp2_with fail;refine HC.out.mono ?_;rintro e w1 ⟨rfl,ho⟩;have hb1:=(ho.below (by simp)).mono (B':=w.heap.size+1) zr;have hb2:Below (w.heap.size+1) (w.alloc zk0) (w1.alloc zk0) :=
   (((Below.refl _ _).alloc (by simp) _).trans hb1).alloc (by have:=hb1.size;simp at this;omega) _
  have hbw:Below w.heap.size w (w1.alloc zk0):=zb.trans (hb2.mono (Nat.le_succ _));have C2:=hid (Qrs z _ (HL.out.below hbw hgl));have HB2:=hid hb2;have HBW:=hid hbw;clear ho hb1 hb2 hbw;go_wp2_with fail;refine C2.out.mono ?_;rintro e w3 ⟨rfl,hb3⟩;have hb4:=HB2.out.trans (hb3.mono (by have:=HB2.out.size;simpa using this));obtain⟨⟨z0,z1,z2,z3⟩,f0,f1,f2,f3⟩:=Qa4 hb4;have HB4:=hid (((Below.refl w.heap.size w).alloc zr _).trans (hb4.mono (Nat.le_succ _)));clear hb3 hb4;go_wp2_with fail;refine bodyPost_ret (v:=.tuple #[Qaw,.int .i64 0,.int .i64 z]) (by simp[results,Tryz.results127,go_sem,z0,z1,z2,z3,Qaw]) rfl ⟨_,rfl,RdI.mk_uint (by decide),Qex HB4.out zr⟩
 ·
  have hd:Qba l=(x,((l.length - l'.length:Nat):Int),0):=by
   unfold Qba;have:=HR.out
   rw[List.drop_zero] at this
   rw[← this]
  rw[hd]
  clear hd;obtain⟨M,hM⟩:∃ M,M=l.length - l'.length:=⟨_,rfl⟩
  rw[← hM]
  have HM:=hid hM;clear hM;go_enter Tryz.func127,Tryz.ntmps127;go_wp2_with fail;refine C1.out.mono ?_;rintro e w1 ⟨v,i1,rfl,hv,hs1,hl1,ho⟩;obtain⟨k1,n1,A1,nd1,cd1,AL1,nl1,cl1,rfl⟩:=hv.form;have hb1:=(ho.below (by simp)).mono (B':=w.heap.size+1) zr;have hsz1:w.heap.size+2≤w1.heap.size:=by have:=ho.size;simpa using this
  have hb2:Below (w.heap.size+1) (w.alloc zk0) (w1.alloc (zo1 k1 n1 A1 nd1 cd1 AL1 nl1 cl1)) :=
   (((Below.refl _ _).alloc (by simp) _).trans hb1).alloc (by omega) _
  obtain⟨⟨z0,z1,z2,z3⟩,f0,f1,f2,f3⟩:=Qa4 hb2;have HBW:=hid (((Below.refl w.heap.size w).alloc zr zk0).trans (hb2.mono (Nat.le_succ _)));have r1:=(hs1.alloc (zo1 k1 n1 A1 nd1 cd1 AL1 nl1 cl1)).c1;have HV:=hid (hv.mask_go (S':=Qax (w.heap.size+2)) (w':=w1.alloc (zo1 k1 n1 A1 nd1 cd1 AL1 nl1 cl1)) (B':=w1.heap.size+1) (Nat.le_succ _) (fun k hk _=>Below.heap_alloc _ _ _ hk) (fun k _ hk=>by have:=Qaz.1 hk;simp at this;exact Qaz.2 this));have hi1:M=i1:=by
   have:=hs1.hi
   rw[HM.out,← hl1,List.length_drop]
   omega
  have HI1:=hid hi1;have HSZ:=hid hsz1;clear hv hs1 hl1 ho hb1 hb2 hi1 hsz1;go_wp2_with fail;go_region
  go_wp2_with fail;have hv2:=(HV.out.fin (b:=w.heap.size) (lo':=w.heap.size) (u0:=.int .i64 k1) (u1:=.int .u64 (n1:Int)) (u2:=.slice A1 nd1 cd1) (u3:=.slice AL1 nl1 cl1) (by simp) (by omega) (by omega))
  have hv3:=RdI.maskd hv2;rw[HI1.out]
  refine bodyPost_ret (v:=.tuple #[.agg #[.int .i64 k1,.int .u64 (n1:Int),.slice A1 nd1 cd1,.slice AL1 nl1 cl1],.int .i64 (i1:Int),.int .i64 0]) (by simp[results,Tryz.results127,go_sem,z0,z1,z2,z3]) rfl ⟨_,rfl,hv3,(Qex HBW.out zr).drew⟩
open Go.RowKit Go.ChangeShapes Go.WideShapes Go.ChangeAt
theorem Qqx:Tryz.prog.cellsOf 43=5:=by kernel_rfl
theorem Qld:Tryz.prog.cellsOf 22=1:=by kernel_rfl
theorem Qqw:Tryz.prog.cellsOf 3=1:=by kernel_rfl
theorem Q06:Tryz.prog.cellsOf 29=1:=by kernel_rfl
theorem wfU{n:Int}(h:(Lit.int .u64 n).wf=true):0≤n∧n<18446744073709551616:=by
 simp[Lit.wf,IntKind.min,IntKind.max,IntKind.signed,IntKind.bits] at h;omega
def Q5m(E:Epd)(w:World)(e:Ending)(w':World):Prop:=Below w.heap.size w w' ∧
 ((Qag E=true∧∃ v,e=.returned (.tuple #[v,.int .i64 0])∧RdI (Qap (Qax w.heap.size) w') w'.heap.size v (Qal E)) ∨
  (Qag E=false∧e=.returned (.tuple #[Qb0,.int .i64 40])))
theorem Qu2(A:Snt)(sc:Int)(s:ByteArray)(n0 v0:Nat)(w:World)(hA:Lds A w)(hs:s.size≤140737488355328)(hn:n0<18446744073709551616)(hv:v0<18446744073709551616) :
  Calls Tryz.prog 115 #[Qbq sc s n0 v0] w (Q5m (ep sc s n0 v0) w):=by
 have HA1:=hid ((hA.alloc (zo3 sc s n0 v0)).alloc zk0);have C1:=hid (Qfc A sc s n0 v0 _ HA1.out hs hn hv);have HB0:Hid (Below w.heap.size w ((w.alloc (zo3 sc s n0 v0)).alloc zk0)):=zb.alloc (Qaa _ _) _;generalize ep sc s n0 v0=E at *;clear hA hs hn hv;unfold Qbq at *;go_enter Tryz.func115,Tryz.ntmps115;go_wp2_with fail;refine C1.out.mono ?_;rintro e w1 ⟨hb,hcase⟩;have HL1:=hid (HA1.out.below hb zr);have HB1:=hid (hb.mono (show w.heap.size+2≤_ by simp));have HZ1:Hid (w.heap.size+2≤w1.heap.size):=by show _≤_;have h:=hb.size;simpa using h
 have HNE:Hid (¬ w.heap.size+1=w1.heap.size):=fun h=>by have:=HZ1.out;omega
 clear hb;obtain⟨hc,v,rfl,hr⟩|⟨hc,a,tx,ha,rfl⟩:=hcase
 ·
  obtain⟨k,m,D,nd,cd,AL,nl,cl,rfl⟩:=hr.form;have hs2:((w.alloc (zo3 sc s n0 v0)).alloc zk0).heap.size=w.heap.size+2:=by simp
  rw[hs2] at hr
  have HR:=hid (hr.grow ((Below.refl w1.heap.size w1).alloc zr (zo1 k m D nd cd AL nl cl)) zr);have HC:=hid hc;have CN:=hid (fun W (hW:Lds A W)=>Qfg A W hW);clear hc hr hs2;go_wp2_with fail;have HA2:=hid (HL1.out.alloc (zo1 k m D nd cd AL nl cl));have HB2:=hid (HB1.out.trans (((Below.refl w1.heap.size w1).alloc zr (zo1 k m D nd cd AL nl cl)).mono HZ1.out));have HLT:Hid (w1.heap.size<(w1.alloc (zo1 k m D nd cd AL nl cl)).heap.size):=by show _<_;simp
  obtain⟨p0,p1,p2,p3⟩:=Qbh (Below.refl _ (w1.alloc (zo1 k m D nd cd AL nl cl)));generalize w1.alloc (zo1 k m D nd cd AL nl cl)=W1 at *;have HD:=hid (HA2.out.below (Below.drew_ (B:=W1.heap.size)) zr);have HZ2:=hid (Nat.le_trans HZ1.out (Nat.le_of_lt HLT.out));go_region_held3 (fun W=>W.cell? ⟨w1.heap.size,0,none⟩=some (.int .i64 k)∧W.cell? ⟨w1.heap.size,1,none⟩=some (.int .u64 (m:Int))∧W.cell? ⟨w1.heap.size,2,none⟩=some (.slice D nd cd)∧W.cell? ⟨w1.heap.size,3,none⟩=some (.slice AL nl cl))
   (first|(with_reducible exact⟨Qau x0 HNE.out,Qau x1 HNE.out,Qau x2 HNE.out,Qau x3 HNE.out⟩)|(with_reducible exact⟨x0,x1,x2,x3⟩)|(exact⟨p0,p1,p2,p3⟩)|fail)
   (first
    | (go_at_call 141;refine(CN.out _ HD.out).mono ?_;rintro e w2 ⟨rfl,hb2⟩;have hb2':Below W1.heap.size W1 w2:=Below.drew_.trans hb2;have x0:=(hb2'.cell (p:=⟨w1.heap.size,0,none⟩) HLT.out).trans p0;have x1:=(hb2'.cell (p:=⟨w1.heap.size,1,none⟩) HLT.out).trans p1;have x2:=(hb2'.cell (p:=⟨w1.heap.size,2,none⟩) HLT.out).trans p2;have x3:=(hb2'.cell (p:=⟨w1.heap.size,3,none⟩) HLT.out).trans p3;have hb3:=HB2.out.trans (hb2'.mono HZ2.out);have BX:=hid hb2';obtain⟨⟨z0,z1,z2,z3⟩,f0,f1,f2,f3⟩:=Qgc (g:=w.heap.size+1) (by simp) hb3;have B3:=hid hb3;clear hb2 hb2' hb3)
    | fail)
  go_wp2_with fail;refine bodyPost_ret (v:=.tuple #[.agg #[.int .i64 k,.int .u64 (m:Int),.slice D nd cd,.slice AL nl cl],.int .i64 0]) (by simp[results,Tryz.results115,go_sem,z0,z1,z2,z3]) rfl ⟨Qas (HB0.out.trans (B3.out.mono (Nat.le_add_right _ 2))) (Nat.le_succ _),.inl ⟨HC.out,_,rfl,?_⟩⟩;exact(HR.out.grow BX.out zr).put4 (Nat.le_add_right _ 2) (Nat.lt_succ_self _) (Nat.le_of_eq size_put4.symm)
 ·
  have HC:=hid hc;have CN:=hid (fun W (hW:Lds A W)=>Qii A 1 (.iface 230 (.agg #[.string tx,snt a])) a W hW (.wrap 0 tx _ _ a (.leaf a ha)) (by decide));clear hc ha;unfold Qb0 Qsz snt at *;go_wp2_with fail;have HA2:=hid (HL1.out.alloc zk0);have HB2:=hid (HB1.out.trans (((Below.refl w1.heap.size w1).alloc zr zk0).mono HZ1.out));have HLT:Hid (w1.heap.size<(w1.alloc zk0).heap.size):=by show _<_;simp
  obtain⟨p0,p1,p2,p3⟩:=Qbh (Below.refl _ (w1.alloc zk0));generalize w1.alloc zk0=W1 at *;have HD:=hid (HA2.out.below (Below.drew_ (B:=W1.heap.size)) zr);have HZ2:=hid (Nat.le_trans HZ1.out (Nat.le_of_lt HLT.out));go_region_held3 (fun W=>W.cell? ⟨w1.heap.size,0,none⟩=some (.int .i64 0)∧W.cell? ⟨w1.heap.size,1,none⟩=some (.int .u64 0)∧W.cell? ⟨w1.heap.size,2,none⟩=some (.slice none 0 0)∧W.cell? ⟨w1.heap.size,3,none⟩=some (.slice none 0 0))
   (first|(with_reducible exact⟨Qau x0 HNE.out,Qau x1 HNE.out,Qau x2 HNE.out,Qau x3 HNE.out⟩)|(with_reducible exact⟨x0,x1,x2,x3⟩)|(exact⟨p0,p1,p2,p3⟩)|fail)
   (first
    | (go_at_call 141;refine(CN.out _ HD.out).mono ?_;rintro e w2 ⟨rfl,hb2⟩;have hb2':Below W1.heap.size W1 w2:=Below.drew_.trans hb2;have x0:=(hb2'.cell (p:=⟨w1.heap.size,0,none⟩) HLT.out).trans p0;have x1:=(hb2'.cell (p:=⟨w1.heap.size,1,none⟩) HLT.out).trans p1;have x2:=(hb2'.cell (p:=⟨w1.heap.size,2,none⟩) HLT.out).trans p2;have x3:=(hb2'.cell (p:=⟨w1.heap.size,3,none⟩) HLT.out).trans p3;have hb3:=HB2.out.trans (hb2'.mono HZ2.out);have BX:=hid hb2';obtain⟨⟨z0,z1,z2,z3⟩,f0,f1,f2,f3⟩:=Qgc (g:=w.heap.size+1) (by simp) hb3;have B3:=hid hb3;clear hb2 hb2' hb3)
    | fail)
  go_wp2_with fail;refine bodyPost_ret (v:=.tuple #[Qb0,.int .i64 40]) (by simp[results,Tryz.results115,go_sem,z0,z1,z2,z3,Qb0]) rfl ⟨Qas (HB0.out.trans (B3.out.mono (Nat.le_add_right _ 2))) (Nat.le_succ _),.inr ⟨HC.out,rfl⟩⟩
def RowAt(w:World)(g:Nat)(cs:List Value):Prop:=g<w.heap.size∧∀ j u,cs[j]?=some u→w.cell? ((⟨g,0,none⟩:Addr).add j)=some u
theorem Qi9(g j:Nat):(⟨g,0,none⟩:Addr).add j=⟨g,j,none⟩:=by unfold Addr.add;split <;> simp_all
theorem RowAt.made(w:World)(cs:Array Value)(t:TypeId):RowAt (w.alloc (.cells cs t)) w.heap.size cs.toList :=
 ⟨by simp,fun j u hj=>by
  rw[Qi9,World.cell?_alloc_at _ _ _ _ rfl]
  simpa using hj⟩
theorem RowAt.below{w w':World}{g:Nat}{cs:List Value}(h:RowAt w g cs)(hb:Below w.heap.size w w'):RowAt w' g cs :=
 ⟨Nat.lt_of_lt_of_le h.1 hb.size,fun j u hj=>by rw[Qi9,hb.cell (p:=⟨g,j,none⟩) h.1,← Qi9];exact h.2 j u hj⟩
theorem RowAt.alloc{w:World}{g:Nat}{cs:List Value}(h:RowAt w g cs)(o:Obj):RowAt (w.alloc o) g cs:=h.below ((Below.refl _ _).alloc zr o)
theorem RowAt.grown{w w':World}{g g0:Nat}{cs:List Value}(h:RowAt w g cs)(hg:w.grownBy w' (some g0))(hne:g≠g0):RowAt w' g cs :=
 ⟨Nat.lt_of_lt_of_le h.1 hg.size,fun j u hj=>by rw[Qi9,hg.cell_far ⟨g,j,none⟩ h.1 (fun e=>hne (Option.some.inj e)),← Qi9];exact h.2 j u hj⟩
theorem Qao{P:Program}{md:Region.Mode}{l:List Oper}{Q:Exit→Act→World→Prop}{S:World→Prop}{i:Nat}{oi:Oper}{v:Value}{fuel:Nat}{listed:Array Bool}{a:Act}{w:World}(hi:l[i]?=some oi)
  (hs:Region.noSelect l.toArray=true) (hf:Region.free md l.toArray listed i=true) (hr:(Region.ready md l.toArray listed).contains i=true)
  (hQ:∀ c a w,Q (.panic c) (a.put oi.dst v) w→Q (.panic c) a w) (hw:Region.wanted oi (yielded l.toArray a.tmps)=true) (hy:∀ w,S w→(execOp a.eval oi).run P w=.ok (.value v) w) (hS:S w)
  (h:wpAnyH P md l.toArray Q S fuel (listed.setIfInBounds i true) (a.put oi.dst v) w):wpAnyH P md l.toArray Q S (fuel+1) listed a w :=
 wpAnyH_take (oi:=oi) (v:=v) (by simpa using hi) hs hf hr hQ (Or.inl ⟨hw,hy⟩) hS h
theorem Qdd(n:Int)(w:World) :
  Calls Tryz.prog 67 #[.int .u64 n] w fun e w'=>e=.returned (zv6 0 n none 0 0 none 0 0)∧Below w.heap.size w w':=by
 go_enter Tryz.func67,Tryz.ntmps67;go_wp2_with fail;exact bodyPost_ret (v:=.agg #[.int .i64 0,.int .u64 n,.slice none 0 0,.slice none 0 0]) (by simp[results,Tryz.results67,go_sem]) rfl ⟨rfl,zb⟩
theorem RdI.mask0{w:World}{B:Nat}{v:Value}{x:Itm}(h:RdI w B v x):RdI (Qap (Qax 0) w) B v x:=RdI.keep (w:=w) (w':=Qap (Qax 0) w) (fun _ _=>Qaq (Qaz.2 (Nat.zero_le _))) h
theorem RdIs.unmask{S:Nat→Bool}{w:World}{B b o:Nat}{l:List Itm}(hb:b<B)(h:RdIs (Qap S w) B b o l):RdIs w B b o l:=h.sub zr (fun _ _ _ hc=>Qaj hc) hb
theorem Qod(t n f:Nat)(c:Int)(A:OA)(nd cd:Nat)(d:LB)(w:World)(hd:d.length=nd) :
  Calls Tryz.prog 100 #[Qe3 t n f c A nd cd] w fun e w'=>e=.returned (.bool (Qdj ⟨t,n,f,c,d⟩))∧Below w.heap.size w w':=by
 obtain⟨R,hR⟩:∃ R,R=Qdj ⟨t,n,f,c,d⟩:=⟨_,rfl⟩
 rw[← hR]
 have hR2:R=true↔((1≤(t:Int)∧(t:Int)≤255)∧¬ (n:Int)=0∧(¬ (t:Int)=1∨(n:Int)=1)∧(0≤c∧c≤2)∧(nd:Int)≤4096):=by
  rw[hR,← hd,Qeu]
  simp only;omega
 clear hR hd;have hN0:0≤(n:Int):=by omega
 unfold Qe3;generalize (t:Int)=T at *;generalize (n:Int)=N at *;have no:∀ (_:¬ R=true),R=false:=fun h=>by simpa using h
 by_cases h1:T<1
 ·
  obtain rfl:=no (by rw[hR2];omega);clear hR2 no;have h1n:¬ 1≤T:=by omega
  go_enter Tryz.func100,Tryz.ntmps100;go_wp2_with fail;go_ret;exact⟨rfl,zb⟩
 have h1p:1≤T:=by omega
 by_cases h2:255<T
 ·
  obtain rfl:=no (by rw[hR2];omega);clear hR2 no;have h2n:¬ T≤255:=by omega
  go_enter Tryz.func100,Tryz.ntmps100;go_wp2_with fail;go_ret;exact⟨rfl,zb⟩
 have h2p:T≤255:=by omega
 by_cases h3:N=0
 ·
  obtain rfl:=no (by rw[hR2];omega);clear hR2 no;have h3n:¬ 0<N:=by omega
  go_enter Tryz.func100,Tryz.ntmps100;go_wp2_with fail;go_ret;exact⟨rfl,zb⟩
 have h3p:0<N:=by omega
 by_cases h4:c<0
 ·
  obtain rfl:=no (by rw[hR2];omega);clear hR2 no;have h4n:¬ 0≤c:=by omega
  go_enter Tryz.func100,Tryz.ntmps100;go_wp2_with fail;go_ret;exact⟨rfl,zb⟩
 have h4p:0≤c:=by omega
 by_cases h5:2<c
 ·
  obtain rfl:=no (by rw[hR2];omega);clear hR2 no;have h5n:¬ c≤2:=by omega
  go_enter Tryz.func100,Tryz.ntmps100;go_wp2_with fail;go_ret;exact⟨rfl,zb⟩
 have h5p:c≤2:=by omega
 by_cases h6:(4096:Int)<nd
 ·
  obtain rfl:=no (by rw[hR2];omega);clear hR2 no;have h6n:¬ (nd:Int)≤4096:=by omega
  have h6m:4096<nd:=by omega
  go_enter Tryz.func100,Tryz.ntmps100;go_wp2_with fail;go_ret;exact⟨rfl,zb⟩
 have h6p:(nd:Int)≤4096:=by omega
 have h6q:nd≤4096:=by omega
 have h6d:decide ((nd:Int)≤4096)=true:=by simpa using h6p
 by_cases h7:T=1
 ·
  subst h7;by_cases h8:N=1
  ·
   subst h8;obtain rfl:R=true:=by rw[hR2];omega
   clear hR2 no;go_enter Tryz.func100,Tryz.ntmps100;go_wp2_with fail;go_ret;exact⟨rfl,zb⟩
  ·
   obtain rfl:=no (by rw[hR2];omega);have h8b:(N==1)=false:=by rw[beq_eq_false_iff_ne];exact h8
   clear hR2 no;go_enter Tryz.func100,Tryz.ntmps100;go_wp2_with fail;go_ret;exact⟨rfl,zb⟩
 ·
  obtain rfl:R=true:=by rw[hR2];omega
  have h7b:(T==1)=false:=by rw[beq_eq_false_iff_ne];exact h7
  clear hR2 no;go_enter Tryz.func100,Tryz.ntmps100;go_wp2_with fail;go_ret;exact⟨rfl,zb⟩
theorem Qtv(X:Nat)(w:World) :
  Calls Tryz.prog 130 #[.int .u8 (X:Int)] w fun e w'=>e=.returned (.bool ((decide (97≤X)&&decide (X≤122))||((decide (48≤X)&&decide (X≤57))||(decide (X=46)||(decide (X=45)||decide (X=95))))))∧w=w':=by
 obtain⟨R,hR⟩:∃ R,R=((decide (97≤X)&&decide (X≤122))||((decide (48≤X)&&decide (X≤57))||(decide (X=46)||(decide (X=45)||decide (X=95))))):=⟨_,rfl⟩
 rw[← hR]
 have HR:=hid hR;clear hR;go_enter Tryz.func130,Tryz.ntmps130;go_wp2
 all_goals go_ret
 all_goals
  refine⟨congrArg (fun b=>Ending.returned (Value.bool b)) ((?_:_=_).trans HR.out.symm),rfl⟩;rw[Bool.eq_iff_iff]
  simp;try omega
theorem Qn9(x:UInt8)(w:World) :
  Calls Tryz.prog 130 #[.int .u8 (x.toNat:Int)] w fun e w'=>e=.returned (.bool (Qbk x))∧w=w':=by
 rw[Qj6]
 exact Qtv x.toNat w
theorem Qef(a:UInt8)(r:LB):Qa0 (a::r)=if a=47 then 0 else Qa0 r+1:=by
 unfold Qa0;by_cases h:a=47
 ·
  simp[List.takeWhile,h]
 ·
  have:(a != 47)=true:=by simpa using h
  simp[List.takeWhile,this,h]
theorem Qjp:∀ (r:LB) (j:Nat) (hj:j<r.length),j<Qa0 r→r[j]'hj≠47
 | [],_,hj,_=>absurd hj (Nat.not_lt_zero _)
 | a::r,0,_,h=>by
  rw[Qef] at h
  intro e;rw[if_pos (by simpa using e)] at h
  exact absurd h (Nat.lt_irrefl _)
 | a::r,j+1,hj,h=>by
  rw[Qef] at h
  have hj':j<r.length:=by simpa using hj
  split at h
  ·
   exact absurd h (Nat.not_lt_zero _)
  ·
   simpa using Qjp r j hj' (by omega)
theorem Qjq:∀ (r:LB) (h:Qa0 r<r.length),r[Qa0 r]'h=47
 | [],h=>absurd h (Nat.not_lt_zero _)
 | a::r,h=>by
  have e:=Qef a r;by_cases ha:a=47
  ·
   rw[if_pos ha] at e
   simp only[e,List.getElem_cons_zero];exact ha
  ·
   rw[if_neg ha] at e
   have h2:Qa0 r<r.length:=by rw[e] at h;simpa using h
   simp only[e,List.getElem_cons_succ];exact Qjq r h2
theorem Q1t(s:ByteArray)(k:Nat)(hk:k<s.data.toList.length)(W:World):(Instr.index 9 (.string s) (.int .i64 (k:Int))).run Tryz.prog W=.ok (.int .u8 ((s.data.toList[k]'hk).toNat)) W:=by
 have hlt:k<s.size:=by rw[Lib.size_eq];exact hk
 obtain⟨x,hx⟩:∃ x,x=s.data.toList[k]'hk:=⟨_,rfl⟩
 rw[← hx]
 rw[hx]
 go_simp
 rfl
def Qgy(l:LB):Int:=if Qc1 l=true then (Qzz l:Int) else -1
theorem Qfs{l:LB}(h:Qc1 l=false):Qgy l = -1:=by unfold Qgy;rw[h];rfl
theorem Qx1(r:LB):Qc1 (47::47::r)=(decide (r.length+2≤64)&&(r.all lsB&&(decide (1≤Qa0 r)&&decide (Qa0 r<r.length)))):=by
 unfold Qc1;simp
theorem Q2b:lsB 47=true:=by decide
theorem Qrx{x:UInt8}(h:x≠47):lsB x=Qbk x:=by
 unfold lsB;rw[beq_eq_false_iff_ne.2 h,Bool.false_or]
theorem Qre(s:ByteArray)(w:World)(hs:s.size≤140737488355328) :
  Calls Tryz.prog 99 #[.string s] w fun e w'=>e=.returned (.int .i64 (Qgy s.data.toList))∧w=w':=by
 have hsz:s.size=s.data.toList.length:=Lib.size_eq s;obtain⟨L,hL⟩:∃ L,L=s.data.toList:=⟨_,rfl⟩
 by_cases h4:s.size<4
 ·
  have e1:(s.size:Int)<4:=by omega
  have hn:=hid (Qfs (l:=s.data.toList) (by
   cases hb:Qc1 s.data.toList with
   | false=>rfl
   | true =>
    obtain⟨r,hr,-,h1,h2,-⟩:=Qb4 hb;rw[hr] at hsz
    simp at hsz;omega))
  clear hL hsz;go_enter Tryz.func99,Tryz.ntmps99;go_wp2_with fail;go_ret;exact⟨(show Ending.returned _=Ending.returned _ by rw[hn.out];rfl),rfl⟩
 by_cases h64:64<s.size
 ·
  have e0:¬ (s.size:Int)<4:=by omega
  have e1:(64:Int)<(s.size:Int):=by omega
  have e2:decide ((64:Int)<(s.size:Int))=true:=decide_eq_true e1;have hn:=hid (Qfs (l:=s.data.toList) (by
   cases hb:Qc1 s.data.toList with
   | false=>rfl
   | true =>
    obtain⟨r,hr,-,-,-,h5⟩:=Qb4 hb;omega))
  clear hL hsz;go_enter Tryz.func99,Tryz.ntmps99;go_wp2_with fail;go_ret;exact⟨(show Ending.returned _=Ending.returned _ by rw[hn.out];rfl),rfl⟩
 have e0:¬ (s.size:Int)<4:=by omega
 have e1:¬ (64:Int)<(s.size:Int):=by omega
 have e2:decide ((64:Int)<(s.size:Int))=false:=decide_eq_false e1;have hix:∀ (k:Nat) (hk:k<s.data.toList.length) (W:World),(Instr.index 9 (.string s) (.int .i64 (k:Int))).run Tryz.prog W=.ok (.int .u8 ((s.data.toList[k]'hk).toNat)) W:=by
  exact fun k hk W=>Q1t s k hk W
 have HIX:=hid hix;have i0:∀ W,(Instr.index 9 (.string s) (.int .i64 0)).run Tryz.prog W=_:=fun W=>hix 0 (by omega) W
 have i1:∀ W,(Instr.index 9 (.string s) (.int .i64 1)).run Tryz.prog W=_:=fun W=>hix 1 (by omega) W
 clear hix;have hl4:4≤s.data.toList.length:=by omega
 have hl64:s.data.toList.length≤64:=by omega
 generalize ha:s.data.toList[0]'(by omega)=a at *;generalize hb:s.data.toList[1]'(by omega)=b at *;obtain⟨r,hr⟩:∃ r,s.data.toList=a::b::r:=by
  match hm:s.data.toList,hl4 with
  | a'::b'::r,_ =>
   simp only[hm,List.getElem_cons_zero,List.getElem_cons_succ] at ha hb;exact⟨r,by rw[← ha,← hb]⟩
 have h47:∀ x:UInt8,((x.toNat:Int) != 47)=decide (x≠47):=fun x=>by
  rw[Bool.eq_iff_iff]
  simp;constructor
  ·
   intro h e;subst e;exact h rfl
  ·
   intro h e;exact h (UInt8.toNat_inj.1 (by simpa using (show x.toNat=47 by omega)))
 by_cases ha47:a=47
 case neg =>
  have t1:((a.toNat:Int) != 47)=true:=by rw[h47];simpa using ha47
  have hn:=hid (Qfs (l:=s.data.toList) (by
   cases hb:Qc1 s.data.toList with
   | false=>rfl
   | true =>
    obtain⟨r',hr',-⟩:=Qb4 hb;rw[hr] at hr'
    injection hr' with h1 _
    exact absurd h1 ha47))
  clear hL hsz ha hb hr h47 HIX ha47 hl4 hl64;go_enter Tryz.func99,Tryz.ntmps99;go_wp2_with fail;go_ret;exact⟨(show Ending.returned _=Ending.returned _ by rw[hn.out];rfl),rfl⟩
 subst ha47;by_cases hb47:b=47
 case neg =>
  have t1:((b.toNat:Int) != 47)=true:=by rw[h47];simpa using hb47
  have hn:=hid (Qfs (l:=s.data.toList) (by
   cases hb:Qc1 s.data.toList with
   | false=>rfl
   | true =>
    obtain⟨r',hr',-⟩:=Qb4 hb;rw[hr] at hr'
    injection hr' with _ h1
    injection h1 with h1 _
    exact absurd h1 hb47))
  clear hL hsz ha hb hr h47 HIX hb47 hl4 hl64;go_enter Tryz.func99,Tryz.ntmps99;go_wp2_with fail;go_ret;exact⟨(show Ending.returned _=Ending.returned _ by rw[hn.out];rfl),rfl⟩
 subst hb47;have HSZ:Hid (s.size=r.length+2):=by show _=_;rw[hsz,hr];rfl
 have HNM:Hid (Qc1 s.data.toList=(r.all lsB&&(decide (1≤Qa0 r)&&decide (Qa0 r<r.length)))):=by
  show _=_;rw[hr,Qx1,decide_eq_true (by have:=HSZ.out;omega),Bool.true_and]
 have HTH:Hid (Qzz s.data.toList=2+Qa0 r):=by show _=_;rw[hr];rfl
 have HXR:Hid (∀ (j:Nat) (hj:j<r.length) (W:World),(Instr.index 9 (.string s) (.int .i64 ((j+2:Nat):Int))).run Tryz.prog W=.ok (.int .u8 ((r[j]'hj).toNat)) W):=fun j hj W=>by
  have h1:j+2<s.data.toList.length:=by rw[hr];simpa using hj
  rw[HIX.out (j+2) h1 W]
  simp only[hr,List.getElem_cons_succ]
 have NE:=hid (Qjp r);have AT:=hid (Qjq r);obtain⟨R,hR⟩:∃ R,R=Qgy s.data.toList:=⟨_,rfl⟩
 rw[← hR]
 have HR:=hid hR;have H47:=hid h47;clear hL hsz ha hb hr h47 HIX hl4 hl64 hR h4 h64;go_enter Tryz.func99,Tryz.ntmps99;go_wp2_with fail;clear i0 i1 e0 e1 e2;go_loop [3,4] (fun t i=>∃ (k I:Nat) (tv:Int),k≤r.length∧Hid (I=k+2)∧i=.int .i64 (I:Int)∧t=.int .i64 tv∧Hid (tv=if Qa0 r<k then ((2+Qa0 r:Nat):Int) else -1)∧Hid ((r.take k).all lsB=true)) (fun _ i=>s.size - (intOf i).toNat)
 case atStart=>exact⟨0,2,-1,Nat.zero_le _,rfl,rfl,rfl,by show _=_;rw[if_neg (Nat.not_lt_zero _)],by show _=_;simp⟩
 case round =>
  obtain⟨k,I,tv,hk,hI,rfl,rfl,htv,hall⟩:=hrel;by_cases hlt:k<r.length
  ·
   obtain⟨x,hx⟩:∃ x,x=r[k]'hlt:=⟨_,rfl⟩
   have hix:∀ W,(Instr.index 9 (.string s) (.int .i64 (I:Int))).run Tryz.prog W=.ok (.int .u8 (x.toNat:Int)) W:=fun W=>by
    have:=HXR.out k hlt W
    rw[← hI.out,← hx] at this
    exact this
   have hkk:(I:Int)<(s.size:Int):=by have:=HSZ.out;have:=hI.out;omega
   have hkd:decide ((I:Int)<(s.size:Int))=true:=decide_eq_true hkk;have C1:=hid (Qn9 x w);have hne:=H47.out x;have HLT:=hid hlt;have HXK:Hid (r.getD k 0=x):=by show _=_;rw[hx];simp[List.getD,hlt]
   have hstep:(r.take (k+1)).all lsB=lsB x:=by
    rw[List.take_succ_eq_append_getElem hlt,List.all_append,hall.out,Bool.true_and,← hx]
    simp
   have HST:=hid hstep;have heq:((x.toNat:Int)==47) = !decide (x≠47):=by rw[← hne];simp[bne]
   have HX:=hid hx;clear hstep hx;by_cases hx47:x=47
   ·
    have hlx:lsB x=true:=by rw[hx47];exact Q2b
    have HLX:Hid ((r.take (k+1)).all lsB=true):=by show _=_;rw[HST.out];exact hlx
    rw[decide_eq_false (by simpa using hx47)] at hne heq
    simp only[Bool.not_false] at heq;have HX47:Hid (r[k]'hlt=47):=HX.out.symm.trans hx47;by_cases hT:Qa0 r<k
    ·
     have ht:tv=((2+Qa0 r:Nat):Int):=by rw[htv.out,if_pos hT]
     have t0:¬ tv<0:=by omega
     have t0d:decide (tv<0)=false:=decide_eq_false t0;have HT2:Hid (tv=if Qa0 r<k+1 then ((2+Qa0 r:Nat):Int) else -1):=by show _=_;rw[if_pos (by omega)];exact ht
     clear ht hT hlx hx47 HX47 HX;go_wp2_with fail;go_round
     case rel=>exact⟨k+1,I+1,tv,by have:=HLT.out;omega,by show _=_;have:=hI.out;omega,by go_num,rfl,HT2,HLX.out⟩
     case measure=>simp[intOf];omega
    ·
     have ht:tv = -1:=by rw[htv.out,if_neg hT]
     subst ht;have hTk:Qa0 r=k:=by
      rcases Nat.lt_or_ge k (Qa0 r) with h|h
      ·
       exact absurd HX47.out (NE.out k hlt h)
      ·
       omega
     have HT2:Hid ((I:Int)=if Qa0 r<k+1 then ((2+Qa0 r:Nat):Int) else -1):=by show _=_;rw[if_pos (by omega)];have:=hI.out;omega
     clear hT hlx hx47 HX47 HX hTk htv;go_wp2_with fail;go_round
     case rel=>exact⟨k+1,I+1,(I:Int),by have:=HLT.out;omega,by show _=_;have:=hI.out;omega,by go_num,rfl,HT2,HLX.out⟩
     case measure=>simp[intOf];omega
   ·
    have hne2:decide (x≠47)=true:=by simpa using hx47
    rw[hne2] at hne heq
    simp only[Bool.not_true] at heq;have hls:=Qrx hx47;rw[hls] at HST
    have HX47:Hid (r[k]'hlt≠47):=by show _≠_;rw[← HX.out];exact hx47
    clear hne2 hls hx47 HX;cases hlx:Qbk x with
    | true =>
     rw[hlx] at C1 HST
     have HT2:Hid (tv=if Qa0 r<k+1 then ((2+Qa0 r:Nat):Int) else -1):=by
      show _=_;rw[htv.out]
      by_cases hT:Qa0 r<k
      ·
       rw[if_pos hT,if_pos (by omega)]
      ·
       rw[if_neg hT,if_neg (fun h=>by
        have hTk:Qa0 r=k:=by omega
        have:=AT.out (by rw[hTk];exact hlt)
        simp only[hTk] at this;exact HX47.out this)]
     clear hlx HX47 htv;go_wp2_with fail;refine C1.out.mono ?_;rintro e w' ⟨rfl,rfl⟩;go_wp2_with fail;go_round
     case rel=>exact⟨k+1,I+1,tv,by have:=HLT.out;omega,by show _=_;have:=hI.out;omega,by go_num,rfl,HT2,HST.out⟩
     case measure=>simp[intOf];omega
    | false =>
     rw[hlx] at C1 HST
     have hf:R = -1:=by
      rw[HR.out]
      refine Qfs ?_;rw[HNM.out,← List.take_append_drop (k+1) r,List.all_append,HST.out]
      simp
     subst hf;clear hlx HX47 htv;go_wp2_with fail;refine C1.out.mono ?_;rintro e w' ⟨rfl,rfl⟩;go_wp2_with fail;go_ret;exact⟨rfl,rfl⟩
  ·
   obtain rfl:k=r.length:=by omega
   have hkk:¬ (I:Int)<(s.size:Int):=by have:=HSZ.out;have:=hI.out;omega
   have hkd:decide ((I:Int)<(s.size:Int))=false:=decide_eq_false hkk;have hal:=hall.out;rw[List.take_length] at hal
   have hnm:=HNM.out;rw[hal,Bool.true_and] at hnm
   have hrr:=HR.out;unfold Qgy at hrr;rw[hnm,HTH.out] at hrr
   by_cases h3:tv<3
   ·
    have hR1:R = -1:=by
     rw[hrr,if_neg]
     intro h;simp only[Bool.and_eq_true,decide_eq_true_eq] at h;have:=htv.out
     rw[if_pos h.2] at this
     omega
    subst hR1;clear hal hnm hrr;go_wp2_with fail;go_ret;exact⟨rfl,rfl⟩
   ·
    have hR1:R=tv:=by
     have:=htv.out
     by_cases hT:Qa0 r<r.length
     ·
      rw[if_pos hT] at this
      rw[hrr,if_pos (by simp only[Bool.and_eq_true,decide_eq_true_eq];omega),this]
     ·
      rw[if_neg hT] at this
      omega
    subst hR1;clear hal hnm hrr;go_wp2_with fail;go_ret;exact⟨rfl,rfl⟩
theorem Qme(sc:Int)(s:ByteArray)(n v:Nat)(w:World) :
  Calls Tryz.prog 60 #[Qbq sc s n v] w fun e w'=>e=.returned (.bool (Qby (ep sc s n v)))∧Below w.heap.size w w':=by
 have hbe:s.toList.isEmpty=s.data.toList.isEmpty:=by rw[Lib.toList_data]
 obtain⟨R,hR⟩:∃ R,R=Qby (ep sc s n v):=⟨_,rfl⟩
 rw[← hR]
 have hR2:R=(sc==1&&(s.data.toList.isEmpty&&(n==0&&v==0))):=hR;clear hR;generalize s.data.toList.isEmpty=be at *;have HR:=hid hR2;clear hR2;unfold Qbq;cases be with
 | true =>
  go_enter Tryz.func60,Tryz.ntmps60;go_wp2
  all_goals go_ret
  all_goals
   refine⟨congrArg (fun b=>Ending.returned (Value.bool b)) ((?_:_=_).trans HR.out.symm),zb⟩;rw[Bool.eq_iff_iff]
   simp;try omega
 | false =>
  go_enter Tryz.func60,Tryz.ntmps60;go_wp2
  all_goals go_ret
  all_goals
   refine⟨congrArg (fun b=>Ending.returned (Value.bool b)) ((?_:_=_).trans HR.out.symm),zb⟩;rw[Bool.eq_iff_iff]
   simp;try omega
theorem Qtk(l:LB):decide ((0:Int)<Qgy l)=Qc1 l:=by
 unfold Qgy;cases Qc1 l with
 | true=>rw[if_pos rfl];unfold Qzz;simp;omega
 | false=>rw[if_neg (by decide)];decide
theorem Qcm(sc:Int)(s:ByteArray)(n v:Nat)(w:World)(hs:s.size≤140737488355328) :
  Calls Tryz.prog 59 #[Qbq sc s n v] w fun e w'=>e=.returned (.bool (Qag (ep sc s n v)))∧Below w.heap.size w w':=by
 have hbe:s.toList.isEmpty=s.data.toList.isEmpty:=by rw[Lib.toList_data]
 obtain⟨R,hR⟩:∃ R,R=Qag (ep sc s n v):=⟨_,rfl⟩
 rw[← hR]
 have hR2:R=if sc=1 then (n==0&&v==0)&&(s.data.toList.isEmpty||Qc1 s.data.toList) else sc==2&&(s.data.toList.isEmpty&&(decide (0<n)&&(decide (n≤4294967295)&&decide (v≤4294967295)))):=hR
 clear hR;have CS:=hid (fun W=>Qre s W hs);have SP:=Qtk s.data.toList;generalize Qgy s.data.toList=z at *;generalize Qc1 s.data.toList=nb at *;generalize s.data.toList.isEmpty=be at *;have HR:=hid hR2;clear hR2 hs;unfold Qbq;by_cases h1:sc=1
 ·
  subst h1;by_cases hn:n=0
  ·
   subst hn;by_cases hv:v=0
   ·
    subst hv;cases be with
    | true =>
     go_enter Tryz.func59,Tryz.ntmps59;go_wp2_with fail;go_ret;exact⟨congrArg (fun b=>Ending.returned (Value.bool b)) ((by simp:true=_).trans HR.out.symm),zb⟩
    | false =>
     go_enter Tryz.func59,Tryz.ntmps59;go_wp2_with fail;refine(CS.out _).mono ?_;rintro e w' ⟨rfl,rfl⟩;cases nb with
     | true =>
      have z0:(0:Int)<z:=by simpa using SP
      go_wp2_with fail;go_ret;exact⟨congrArg (fun b=>Ending.returned (Value.bool b)) ((by simp:true=_).trans HR.out.symm),zb⟩
     | false =>
      have z0:¬ (0:Int)<z:=by simpa using SP
      go_wp2_with fail;go_ret;exact⟨congrArg (fun b=>Ending.returned (Value.bool b)) ((by simp:false=_).trans HR.out.symm),zb⟩
   ·
    have e1:((v:Int)==0)=false:=by simp;omega
    go_enter Tryz.func59,Tryz.ntmps59;go_wp2_with fail;go_ret;exact⟨congrArg (fun b=>Ending.returned (Value.bool b)) ((by simp[hv]:false=_).trans HR.out.symm),zb⟩
  ·
   have e1:((n:Int)==0)=false:=by simp;omega
   go_enter Tryz.func59,Tryz.ntmps59;go_wp2_with fail;go_ret;exact⟨congrArg (fun b=>Ending.returned (Value.bool b)) ((by simp[hn]:false=_).trans HR.out.symm),zb⟩
 ·
  have e1:(sc==1)=false:=by simpa using h1
  have HR2:Hid (R=(sc==2&&(be&&(decide (0<n)&&(decide (n≤4294967295)&&decide (v≤4294967295)))))):=by show _=_;rw[HR.out,if_neg h1]
  clear HR h1 SP;cases be with
  | true =>
   go_enter Tryz.func59,Tryz.ntmps59;go_wp2
   all_goals go_ret
   all_goals
    refine⟨congrArg (fun b=>Ending.returned (Value.bool b)) ((?_:_=_).trans HR2.out.symm),zb⟩;rw[Bool.eq_iff_iff]
    simp;try omega
  | false =>
   go_enter Tryz.func59,Tryz.ntmps59;go_wp2
   all_goals go_ret
   all_goals
    refine⟨congrArg (fun b=>Ending.returned (Value.bool b)) ((?_:_=_).trans HR2.out.symm),zb⟩;rw[Bool.eq_iff_iff]
    simp
open Go.Lib (decDigits)
open Go.Lib (decDigits)
theorem Qji:joinedFacts Tryz.pinned.checked.prog 3 Tryz.f3 (OpenSpec.ofChange Rows.bibTagsSpec).bare Rows.bibTagsRow=true:=by
 unfold joinedFacts;repeat' (with_reducible refine Bool.and_eq_true_iff.2 ⟨?_,?_⟩)
 all_goals (as_aux_lemma=>kernel_rfl)
end Go.Proofs.YtbnfkjkoinbkgaaGreatDoor
