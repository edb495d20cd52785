import Derived.Test.YtbnfkjkoinbkgaaGreatDoorVAbb
import Derived.Test.YtbnfkjkoinbkgaaGreatDoorVEidQ
import Derived.Test.YtbnfkjkoinbkgaaGreatDoorVEidR
import Derived.Test.YtbnfkjkoinbkgaaGreatDoorVEidT2
import Derived.Test.YtbnfkjkoinbkgaaGreatDoorVShaP
import Derived.Test.YtbnfkjkoinbkgaaGreatDoorVShaT
import Derived.Stop.IfaceNil
namespace Go.Proofs.YtbnfkjkoinbkgaaGreatDoor
set_option maxRecDepth 100000
set_option maxHeartbeats 16000000
open Go.RowKit
open Go.Lib (hid)
def Red(A:Snt)(x:Itm)(w:World)(e:Ending)(w':World):Prop:=Below w.heap.size w w' ∧
 ((∃ (sc:Int) (s:ByteArray) (n v:Nat),e=.returned (.tuple #[Qbq sc s n v,.nilIface])∧s.size≤140737488355328∧n<18446744073709551616∧v<18446744073709551616∧Qag (ep sc s n v)=true∧Qal (ep sc s n v)=x) ∨
  ((∀ e0,Qag e0=true→Qal e0≠x)∧∃ (a:Addr) (j:Nat) (E:Value),Ch A j E a∧j≤2∧e=.returned (.tuple #[Qbq 0 ⟨#[]⟩ 0 0,E])))
theorem Qxk(A:Snt)(x:Itm)(v0:Value)(B:Nat)(w:World)(hA:Lds A w)(hB:B≤w.heap.size)(h:RdI w B v0 x) :
  Calls Tryz.prog 151 #[v0] w (Red A x w):=by
 obtain⟨k,m,D,nd,cd,AL,nl,cl,rfl⟩:=h.form;have HB0:Hid (Below w.heap.size w ((w.alloc (zo1 k m D nd cd AL nl cl)).alloc zk5)):=zb.alloc (Qaa _ _) _;have HA1:=hid ((hA.alloc (zo1 k m D nd cd AL nl cl)).alloc zk5);have hs1:((w.alloc (zo1 k m D nd cd AL nl cl)).alloc zk5).heap.size=w.heap.size+2:=by simp
 have C1:=hid (Qtc x _ B ((w.alloc (zo1 k m D nd cd AL nl cl)).alloc zk5) (by rw[hs1];omega) (h.below (HB0.out.mono hB)));have HX:=hid h;have HBW:=hid hB;have q1:=fun (W:World) (u:TypeId) (x:Value)=>run_neq_iface_nil (P:=Tryz.prog) (w:=W) 53 (by kernel_rfl) u x
 have q2:=fun (W:World) (u:TypeId) (x:Value)=>run_eql_iface_nil (P:=Tryz.prog) (w:=W) 53 (by kernel_rfl) u x
 clear h hA hB hs1;go_enter Tryz.func151,Tryz.ntmps151;go_wp2_with fail;refine C1.out.mono ?_;rintro e w1 ⟨hb,sc,s,n,v,rfl,h1,h2,h3,h4⟩;have hb12:=hb.mono (show w.heap.size+2≤_ by simp);have HZ1:Hid (w.heap.size+2≤w1.heap.size):=by show _≤_;have h:=hb.size;simpa using h
 have HL1:=hid (HA1.out.below hb zr);have HH:=hid h4;have HBD:=hid (And.intro h1 (And.intro h2 h3));have HL2:=hid (HL1.out.alloc (zo3 sc s n v));have C2:=hid (Qfc A sc s n v _ HL2.out h1 h2 h3);have HB1:=hid hb12;have hs2:(w1.alloc (zo3 sc s n v)).heap.size=w1.heap.size+1:=by simp
 clear hb hb12 h1 h2 h3 h4 C1;unfold Qbq at *;go_wp2_with fail;refine C2.out.mono ?_;rintro e w2 ⟨hb,hcase⟩;have HZ2:Hid (w1.heap.size+1≤w2.heap.size):=by show _≤_;have h:=hb.size;rw[hs2] at h;exact h
 have HL3:=hid (HL2.out.below hb zr);have pe:=Qbh hb;have HB2:=hid (HB1.out.trans ((((Below.refl w1.heap.size w1).alloc zr (zo3 sc s n v)).mono HZ1.out).trans (hb.mono (by rw[hs2];have:=HZ1.out;omega))));clear hb C2;obtain⟨hc,vy,rfl,hry⟩|⟨hc,a,tx,ha,rfl⟩:=hcase
 ·
  rw[hs2] at hry
  obtain⟨k2,m2,D2,nd2,cd2,AL2,nl2,cl2,rfl⟩:=hry.form;have hbI:=(Below.refl w2.heap.size w2).alloc zr (zo1 k2 m2 D2 nd2 cd2 AL2 nl2 cl2);have hry5:=(hry.grow hbI (Nat.zero_le _)).unmask;have HB5:=hid (HB2.out.trans (hbI.mono (by have:=HZ1.out;have:=HZ2.out;omega)));have HL5:=hid (HL3.out.alloc (zo1 k2 m2 D2 nd2 cd2 AL2 nl2 cl2));have hs3:(w2.alloc (zo1 k2 m2 D2 nd2 cd2 AL2 nl2 cl2)).heap.size=w2.heap.size+1:=by simp
  have hx5:=(HX.out.below ((HB0.out.trans (HB5.out.mono (Nat.le_add_right _ 2))).mono HBW.out)).more (show B≤(w2.alloc (zo1 k2 m2 D2 nd2 cd2 AL2 nl2 cl2)).heap.size by rw[hs3];have:=HZ1.out;have:=HZ2.out;have:=HBW.out;omega);have C3:=hid (Qv5 (par (Qal (ep sc s n v))+1) x (Qal (ep sc s n v)) _ _ _ _ (Nat.lt_succ_self _) zr hx5 hry5);have px:=Qbh (((Below.refl (w.alloc (zo1 k m D nd cd AL nl cl)).heap.size (w.alloc (zo1 k m D nd cd AL nl cl))).alloc zr zk5).trans (HB5.out.mono (by simp)));have pe5:∀ (p:Addr) (u:Value),w2.cell? p=some u→(w2.alloc (zo1 k2 m2 D2 nd2 cd2 AL2 nl2 cl2)).cell? p=some u:=fun p u hc=>(World.cell?_alloc_lt _ _ _ (World.block_lt_of_cell? w2 _ hc)).trans hc
  obtain⟨e0,e1,e2,e3⟩:=pe;have E0:=hid (pe5 _ _ e0);have E1:=hid (pe5 _ _ e1);have E2:=hid (pe5 _ _ e2);have E3:=hid (pe5 _ _ e3);have HC:=hid hc;have HW5:Hid (w1.heap.size<(w2.alloc (zo1 k2 m2 D2 nd2 cd2 AL2 nl2 cl2)).heap.size):=by show _<_;rw[hs3];have:=HZ2.out;omega
  have HW6:Hid (w.heap.size+2≤(w2.alloc (zo1 k2 m2 D2 nd2 cd2 AL2 nl2 cl2)).heap.size):=by show _≤_;rw[hs3];have:=HZ1.out;have:=HZ2.out;omega
  obtain⟨x0,x1,x2,x3⟩:=px;clear hc hry hbI hry5 hs3 hx5 pe5 e0 e1 e2 e3 hs2;go_wp2_with fail;refine C3.out.mono ?_;rintro e w3 ⟨r,rfl,hr,hb⟩;have HRR:=hid hr;have HB6:=hid (HB5.out.trans (hb.mono HW6.out));have hL6:=HL5.out.below hb zr;have e0:=(hb.cell (p:=⟨w1.heap.size,0,none⟩) HW5.out).trans E0.out;have e1:=(hb.cell (p:=⟨w1.heap.size,1,none⟩) HW5.out).trans E1.out;have e2:=(hb.cell (p:=⟨w1.heap.size,2,none⟩) HW5.out).trans E2.out;have e3:=(hb.cell (p:=⟨w1.heap.size,3,none⟩) HW5.out).trans E3.out;have gf:=hL6.cf;unfold snt at gf;clear hb hr hL6 x0 x1 x2 x3;obtain⟨⟨z0,z1,z2,z3⟩,f0,f1,f2,f3⟩:=Qq6 (g:=w.heap.size+1) (by simp) HB6.out
  cases r with
  | true =>
   go_wp2_with fail;refine bodyPost_ret (v:=.tuple #[Qbq sc s n v,.nilIface]) (by simp[results,Tryz.results151,go_sem,z0,z1,z2,z3,Qbq]) rfl ⟨Qcp (HB0.out.trans (HB6.out.mono (Nat.le_add_right _ 2))) (Nat.le_succ _),.inl ⟨sc,s,n,v,rfl,HBD.out.1,HBD.out.2.1,HBD.out.2.2,HC.out,(HRR.out.1 trivial).symm⟩⟩
  | false =>
   have HNO:Hid (∀ e0,Qag e0=true→Qal e0≠x):=fun e0 hc0 hi0=>by
    have h:=HH.out e0 hc0 hi0;rw[h] at hi0
    have:=HRR.out.2 hi0.symm
    cases this
   go_wp2_with fail;refine bodyPost_ret (v:=.tuple #[Qbq 0 ⟨#[]⟩ 0 0,Qsz ⟨#[105,116,101,109]⟩ (snt A.f)]) (by simp[results,Tryz.results151,go_sem,z0,z1,z2,z3,Qbq,snt,Qsz]) rfl ⟨Qcp (HB0.out.trans (HB6.out.mono (Nat.le_add_right _ 2))) (Nat.le_succ _),.inr ⟨HNO.out,A.f,_,_,.wrap 0 _ _ _ _ (.leaf A.f (.inr (.inr (.inr rfl)))),by decide,rfl⟩⟩
 ·
  have hbI:=(Below.refl w2.heap.size w2).alloc zr zk0;have HB5:=hid (HB2.out.trans (hbI.mono (by have:=HZ1.out;have:=HZ2.out;omega)));have HNO:Hid (∀ e0,Qag e0=true→Qal e0≠x):=fun e0 hc0 hi0=>by
   have h:=HH.out e0 hc0 hi0;rw[h,hc] at hc0
   cases hc0
  have HO:=hid ha;clear hbI hc ha pe hs2;obtain⟨⟨z0,z1,z2,z3⟩,f0,f1,f2,f3⟩:=Qq6 (g:=w.heap.size+1) (by simp) HB5.out;unfold Qb0 Qsz snt at *;go_wp2_with fail;refine bodyPost_ret (v:=.tuple #[Qbq 0 ⟨#[]⟩ 0 0,Qsz ⟨#[105,116,101,109]⟩ (Qsz tx (snt a))]) (by simp[results,Tryz.results151,go_sem,z0,z1,z2,z3,Qbq,snt,Qsz]) rfl ⟨Qcp (HB0.out.trans (HB5.out.mono (Nat.le_add_right _ 2))) (Nat.le_succ _),.inr ⟨HNO.out,a,_,_,.wrap 1 _ _ _ _ (.wrap 0 _ _ _ _ (.leaf a HO.out)),by decide,rfl⟩⟩
def Q4v(x:Itm)(w:World)(e:Ending)(w':World):Prop:=Below w.heap.size w w' ∧
 ((∃ (sc:Int) (s:ByteArray) (n v:Nat),e=.returned (.tuple #[Qbq sc s n v,.int .i64 0])∧s.size≤140737488355328∧n<18446744073709551616∧v<18446744073709551616∧Qag (ep sc s n v)=true∧Qal (ep sc s n v)=x) ∨
  ((∀ e0,Qag e0=true→Qal e0≠x)∧e=.returned (.tuple #[Qbq 0 ⟨#[]⟩ 0 0,.int .i64 40])))
theorem Qyr(A:Snt)(x:Itm)(v0:Value)(B:Nat)(w:World)(hA:Lds A w)(hB:B≤w.heap.size)(h:RdI w B v0 x) :
  Calls Tryz.prog 129 #[v0] w (Q4v x w):=by
 obtain⟨k,m,D,nd,cd,AL,nl,cl,rfl⟩:=h.form;have HB0:Hid (Below w.heap.size w ((w.alloc (zo1 k m D nd cd AL nl cl)).alloc zk5)):=zb.alloc (Qaa _ _) _;have HA1:=hid ((hA.alloc (zo1 k m D nd cd AL nl cl)).alloc zk5);have C1:=hid (Qxk A x _ B _ HA1.out (by have h1:=HB0.out.size;omega) (h.below (HB0.out.mono hB)));clear hA h hB;go_enter Tryz.func129,Tryz.ntmps129;go_wp2_with fail;refine C1.out.mono ?_;rintro e w1 ⟨hb,hcase⟩;have HL1:=hid (HA1.out.below hb zr);have HB1:=hid (hb.mono (show w.heap.size+2≤_ by simp));have HZ1:Hid (w.heap.size+2≤w1.heap.size):=by show _≤_;have h:=hb.size;simpa using h
 have HNE:Hid (¬ w.heap.size+1=w1.heap.size):=fun h=>by have:=HZ1.out;omega
 clear hb;obtain⟨sc,s,n,v,rfl,h2,h3,h4,h5,h6⟩|⟨h5,a,j,E,hch,hj,rfl⟩:=hcase
 ·
  have H:=hid (And.intro h2 (And.intro h3 (And.intro h4 (And.intro h5 h6))));have CN:=hid (fun W (hW:Lds A W)=>Qfg A W hW);clear h2 h3 h4 h5 h6;unfold Qbq at *;go_wp2_with fail;have HA2:=hid (HL1.out.alloc (zo3 sc s n v));have HB2:=hid (HB1.out.trans (((Below.refl w1.heap.size w1).alloc zr (zo3 sc s n v)).mono HZ1.out));have HLT:Hid (w1.heap.size<(w1.alloc (zo3 sc s n v)).heap.size):=by show _<_;simp
  obtain⟨p0,p1,p2,p3⟩:=Qbh (Below.refl _ (w1.alloc (zo3 sc s n v)));generalize w1.alloc (zo3 sc s n v)=W1 at *;have HD:=hid (HA2.out.below (Below.drew_ (B:=W1.heap.size)) zr);have HZ2:=hid (Nat.le_trans HZ1.out (Nat.le_of_lt HLT.out));go_region_held3 (fun W=>W.cell? ⟨w1.heap.size,0,none⟩=some (.int .i64 sc)∧W.cell? ⟨w1.heap.size,1,none⟩=some (.string s)∧W.cell? ⟨w1.heap.size,2,none⟩=some (.int .u64 (n:Int))∧W.cell? ⟨w1.heap.size,3,none⟩=some (.int .u64 (v:Int)))
   (first|(with_reducible exact⟨Qau x0 HNE.out,Qau x1 HNE.out,Qau x2 HNE.out,Qau x3 HNE.out⟩)|(with_reducible exact⟨x0,x1,x2,x3⟩)|(exact⟨p0,p1,p2,p3⟩)|fail)
   (first
    | (go_at_call 141;refine(CN.out _ HD.out).mono ?_;rintro e w2 ⟨rfl,hb2⟩;have hb2':Below W1.heap.size W1 w2:=Below.drew_.trans hb2;have x0:=(hb2'.cell (p:=⟨w1.heap.size,0,none⟩) HLT.out).trans p0;have x1:=(hb2'.cell (p:=⟨w1.heap.size,1,none⟩) HLT.out).trans p1;have x2:=(hb2'.cell (p:=⟨w1.heap.size,2,none⟩) HLT.out).trans p2;have x3:=(hb2'.cell (p:=⟨w1.heap.size,3,none⟩) HLT.out).trans p3;have hb3:=HB2.out.trans (hb2'.mono HZ2.out);have BX:=hid hb2';obtain⟨⟨z0,z1,z2,z3⟩,f0,f1,f2,f3⟩:=Qq6 (g:=w.heap.size+1) (by simp) hb3;have B3:=hid hb3;clear hb2 hb2' hb3)
    | fail)
  go_wp2_with fail;refine bodyPost_ret (v:=.tuple #[Qbq sc s n v,.int .i64 0]) (by simp[results,Tryz.results129,go_sem,z0,z1,z2,z3,Qbq]) rfl ⟨Qcp (HB0.out.trans (B3.out.mono (Nat.le_add_right _ 2))) (Nat.le_succ _),.inl ⟨sc,s,n,v,rfl,H.out.1,H.out.2.1,H.out.2.2.1,H.out.2.2.2.1,H.out.2.2.2.2⟩⟩
 ·
  have H:=hid h5;have CN:=hid (fun W (hW:Lds A W)=>Qii A j E a W hW hch (by omega));clear h5 hch hj;unfold Qbq at *;go_wp2_with fail;have HA2:=hid (HL1.out.alloc zk5);have HB2:=hid (HB1.out.trans (((Below.refl w1.heap.size w1).alloc zr zk5).mono HZ1.out));have HLT:Hid (w1.heap.size<(w1.alloc zk5).heap.size):=by show _<_;simp
  obtain⟨p0,p1,p2,p3⟩:=Qbh (Below.refl _ (w1.alloc zk5));generalize w1.alloc zk5=W1 at *;have HD:=hid (HA2.out.below (Below.drew_ (B:=W1.heap.size)) zr);have HZ2:=hid (Nat.le_trans HZ1.out (Nat.le_of_lt HLT.out));go_region_held3 (fun W=>W.cell? ⟨w1.heap.size,0,none⟩=some (.int .i64 0)∧W.cell? ⟨w1.heap.size,1,none⟩=some (.string ⟨#[]⟩)∧W.cell? ⟨w1.heap.size,2,none⟩=some (.int .u64 0)∧W.cell? ⟨w1.heap.size,3,none⟩=some (.int .u64 0))
   (first|(with_reducible exact⟨Qau x0 HNE.out,Qau x1 HNE.out,Qau x2 HNE.out,Qau x3 HNE.out⟩)|(with_reducible exact⟨x0,x1,x2,x3⟩)|(exact⟨p0,p1,p2,p3⟩)|fail)
   (first
    | (go_at_call 141;refine(CN.out _ HD.out).mono ?_;rintro e w2 ⟨rfl,hb2⟩;have hb2':Below W1.heap.size W1 w2:=Below.drew_.trans hb2;have x0:=(hb2'.cell (p:=⟨w1.heap.size,0,none⟩) HLT.out).trans p0;have x1:=(hb2'.cell (p:=⟨w1.heap.size,1,none⟩) HLT.out).trans p1;have x2:=(hb2'.cell (p:=⟨w1.heap.size,2,none⟩) HLT.out).trans p2;have x3:=(hb2'.cell (p:=⟨w1.heap.size,3,none⟩) HLT.out).trans p3;have hb3:=HB2.out.trans (hb2'.mono HZ2.out);have BX:=hid hb2';obtain⟨⟨z0,z1,z2,z3⟩,f0,f1,f2,f3⟩:=Qq6 (g:=w.heap.size+1) (by simp) hb3;have B3:=hid hb3;clear hb2 hb2' hb3)
    | fail)
  go_wp2_with fail;refine bodyPost_ret (v:=.tuple #[Qbq 0 ⟨#[]⟩ 0 0,.int .i64 40]) (by simp[results,Tryz.results129,go_sem,z0,z1,z2,z3,Qbq]) rfl ⟨Qcp (HB0.out.trans (B3.out.mono (Nat.le_add_right _ 2))) (Nat.le_succ _),.inr ⟨H.out,rfl⟩⟩
structure RdK (w:World) (B b o:Nat) (x:Blk) (A:OA) (nd cd:Nat):Prop where
 k0:w.cell? ⟨b,o,none⟩=some (.int .u64 (x.typ:Int))
 k1:w.cell? ⟨b,o+1,none⟩=some (.int .u64 (x.num:Int))
 k2:w.cell? ⟨b,o+2,none⟩=some (.int .u64 (x.flg:Int))
 k3:w.cell? ⟨b,o+3,none⟩=some (.int .i64 x.crc)
 k4:w.cell? ⟨b,o+4,none⟩=some (.slice A nd cd)
 bd:Bd x
 le:nd≤cd∧nd≤140737488355328
 rd:Rd w B A nd x.dat
theorem RdK.below{w w':World}{B b o nd cd:Nat}{x:Blk}{A:OA}(h:RdK w B b o x A nd cd)(hb:Below B w w')(hB:b<B):RdK w' B b o x A nd cd :=
 ⟨(hb.cell hB).trans h.k0,(hb.cell hB).trans h.k1,(hb.cell hB).trans h.k2,(hb.cell hB).trans h.k3,(hb.cell hB).trans h.k4,h.bd,h.le,h.rd.below hb⟩
theorem RdK.more{w:World}{B B' b o nd cd:Nat}{x:Blk}{A:OA}(h:RdK w B b o x A nd cd)(hB:B≤B'):RdK w B' b o x A nd cd :=
 ⟨h.k0,h.k1,h.k2,h.k3,h.k4,h.bd,h.le,h.rd.more hB⟩
def RdKs(w:World)(B b:Nat):Nat→List Blk→Prop
 | _,[]=>True
 | o,x::r=>(∃ A nd cd,RdK w B b o x A nd cd)∧RdKs w B b (o+5) r
theorem RdKs.below{w w':World}{B b:Nat}(hb:Below B w w')(hB:b<B):∀ {l:List Blk} {o:Nat},RdKs w B b o l→RdKs w' B b o l
 | [],_,_=>trivial
 | _::_,_,⟨⟨A,nd,cd,h⟩,hr⟩=>⟨⟨A,nd,cd,h.below hb hB⟩,RdKs.below hb hB hr⟩
theorem RdKs.more{w:World}{B B' b:Nat}(hB:B≤B'):∀ {l:List Blk} {o:Nat},RdKs w B b o l→RdKs w B' b o l
 | [],_,_=>trivial
 | _::_,_,⟨⟨A,nd,cd,h⟩,hr⟩=>⟨⟨A,nd,cd,h.more hB⟩,RdKs.more hB hr⟩
theorem RdKs.get{w:World}{B b:Nat}:∀ {l:List Blk} {o:Nat},RdKs w B b o l→∀ i (hi:i<l.length),∃ A nd cd,RdK w B b (o+i*5) (l[i]'hi) A nd cd
 | x::r,o,⟨h,hr⟩,0,_=>by simpa using h
 | x::r,o,⟨h,hr⟩,i+1,hi=>by
  have:=RdKs.get hr i (Nat.lt_of_succ_lt_succ hi)
  rw[show o+(i+1)*5=o+5+i*5 by omega]
  simpa using this
theorem RdKs.of_get{w:World}{B b:Nat}:∀ {l:List Blk} {o:Nat},(∀ i (hi:i<l.length),∃ A nd cd,RdK w B b (o+i*5) (l[i]'hi) A nd cd)→RdKs w B b o l
 | [],_,_=>trivial
 | x::r,o,h=>⟨by have:=h 0 (by simp);rw[Nat.zero_mul,Nat.add_zero] at this;exact this,RdKs.of_get fun i hi=>by
   have:=h (i+1) (by simpa using hi)
   rw[show o+(i+1)*5=o+5+i*5 by omega] at this
   simpa using this⟩
theorem RdKs.app{w:World}{B b:Nat}:∀ {l m:List Blk} {o:Nat},RdKs w B b o l→RdKs w B b (o+l.length*5) m→RdKs w B b o (l++m)
 | [],m,o,_,h=>by simpa using h
 | x::r,m,o,⟨h,hr⟩,hm=>⟨h,RdKs.app hr (by rw[show o+5+r.length*5=o+(x::r).length*5 by simp;omega];exact hm)⟩
def RdL(w:World)(B:Nat)(A:OA)(n:Nat)(l:List Blk):Prop:=l.length=n∧(0<n→∃ b o,A=some ⟨b,o,none⟩∧b<B∧RdKs w B b o l)∧n≤140737488355328
theorem RdL.below{w w':World}{B n:Nat}{A:OA}{l:List Blk}(h:RdL w B A n l)(hb:Below B w w'):RdL w' B A n l :=
 ⟨h.1,fun hn=>by obtain⟨b,o,e,h1,h2⟩:=h.2.1 hn;exact⟨b,o,e,h1,h2.below hb h1⟩,h.2.2⟩
theorem RdL.more{w:World}{B B' n:Nat}{A:OA}{l:List Blk}(h:RdL w B A n l)(hB:B≤B'):RdL w B' A n l :=
 ⟨h.1,fun hn=>by obtain⟨b,o,e,h1,h2⟩:=h.2.1 hn;exact⟨b,o,e,Nat.lt_of_lt_of_le h1 hB,h2.more hB⟩,h.2.2⟩
theorem RdL.nil_{w:World}{B:Nat}{A:OA}:RdL w B A 0 []:=⟨rfl,fun h=>absurd h (Nat.lt_irrefl 0),Nat.zero_le _⟩
theorem RdL.take{w:World}{B n:Nat}{A:OA}{l:List Blk}(h:RdL w B A n l)(i:Nat)(hi:i≤n):RdL w B A i (l.take i):=by
 obtain⟨h1,h2,h3⟩:=h;refine⟨by rw[List.length_take];omega,fun h0=>?_,by omega⟩;obtain⟨b,o,e,hb,hk⟩:=h2 (by omega);refine⟨b,o,e,hb,RdKs.of_get fun j hj=>?_⟩;have hjl:j<l.length:=by rw[List.length_take] at hj;omega
 have:=hk.get j hjl
 rw[List.getElem_take]
 exact this
structure BH where
 flg:Nat
 crc:Int
 dsc:Int
 dnm:ByteArray
 dn:Nat
 dv:Nat
 ssc:Int
 snm:ByteArray
 sn:Nat
 sv:Nat
 rsc:Int
 rnm:ByteArray
 rn:Nat
 rv:Nat
 tim:Nat
 seq:Nat
 lif:Nat
abbrev hbx(h:BH)(z:Int)(A:OA)(n c:Nat):Obj:=zo0 h.flg z h.dsc h.dnm h.dn h.dv h.ssc h.snm h.sn h.sv h.rsc h.rnm h.rn h.rv h.tim h.seq h.lif A n c
def BH.zero:BH:=⟨0,0,0,⟨#[]⟩,0,0,0,⟨#[]⟩,0,0,0,⟨#[]⟩,0,0,0,0,0⟩
def BH.dst(h:BH):Epd:=ep h.dsc h.dnm h.dn h.dv
def BH.src(h:BH):Epd:=ep h.ssc h.snm h.sn h.sv
def BH.rep(h:BH):Epd:=ep h.rsc h.rnm h.rn h.rv
def BH.bun(h:BH)(l:List Blk):Bun:=⟨h.flg,h.crc,h.dst,h.src,h.rep,h.tim,h.seq,h.lif,l⟩
structure BH.Bd (h:BH):Prop where
 flg:h.flg<18446744073709551616
 dnm:h.dnm.size≤140737488355328
 dn:h.dn<18446744073709551616
 dv:h.dv<18446744073709551616
 snm:h.snm.size≤140737488355328
 sn:h.sn<18446744073709551616
 sv:h.sv<18446744073709551616
 rnm:h.rnm.size≤140737488355328
 rn:h.rn<18446744073709551616
 rv:h.rv<18446744073709551616
 tim:h.tim<18446744073709551616
 seq:h.seq<18446744073709551616
 lif:h.lif<18446744073709551616
def Qbl(h:BH)(A:OA)(n c:Nat):Value:=.agg #[.int .u64 (h.flg:Int),.int .i64 h.crc,.int .i64 h.dsc,.string h.dnm,.int .u64 (h.dn:Int),.int .u64 (h.dv:Int),.int .i64 h.ssc,.string h.snm,.int .u64 (h.sn:Int),.int .u64 (h.sv:Int),.int .i64 h.rsc,.string h.rnm,.int .u64 (h.rn:Int),.int .u64 (h.rv:Int),.int .u64 (h.tim:Int),.int .u64 (h.seq:Int),.int .u64 (h.lif:Int),.slice A n c]
theorem Qpf{w w':World}{c0:Value}{c1:Value}{c2:Value}{c3:Value}{c4:Value}{c5:Value}{c6:Value}{c7:Value}{c8:Value}{c9:Value}{c10:Value}{c11:Value}{c12:Value}{c13:Value}{c14:Value}{c15:Value}{c16:Value}{c17:Value}{t:TypeId}{g:Nat}(hg:g=w.heap.size)(h:Below (g+1) (w.alloc (.cells #[c0,c1,c2,c3,c4,c5,c6,c7,c8,c9,c10,c11,c12,c13,c14,c15,c16,c17] t)) w') :
  w'.cell? ⟨g,0,none⟩=some c0∧w'.cell? ⟨g,1,none⟩=some c1∧w'.cell? ⟨g,2,none⟩=some c2∧w'.cell? ⟨g,3,none⟩=some c3∧w'.cell? ⟨g,4,none⟩=some c4∧w'.cell? ⟨g,5,none⟩=some c5∧w'.cell? ⟨g,6,none⟩=some c6∧w'.cell? ⟨g,7,none⟩=some c7∧w'.cell? ⟨g,8,none⟩=some c8∧w'.cell? ⟨g,9,none⟩=some c9∧w'.cell? ⟨g,10,none⟩=some c10∧w'.cell? ⟨g,11,none⟩=some c11∧w'.cell? ⟨g,12,none⟩=some c12∧w'.cell? ⟨g,13,none⟩=some c13∧w'.cell? ⟨g,14,none⟩=some c14∧w'.cell? ⟨g,15,none⟩=some c15∧w'.cell? ⟨g,16,none⟩=some c16∧w'.cell? ⟨g,17,none⟩=some c17:=by
 subst hg;refine⟨?_,?_,?_,?_,?_,?_,?_,?_,?_,?_,?_,?_,?_,?_,?_,?_,?_,?_⟩ <;> (rw[h.cell (Nat.lt_succ_self _),World.cell?_alloc_at _ _ _ _ rfl];rfl)
structure Wd (S:Snt) (w:World):Prop where
 lds:Lds S w
 laid:LaidE w
theorem Wd.below{S:Snt}{w w':World}{B:Nat}(h:Wd S w)(hb:Below B w w')(hB:w.heap.size≤B):Wd S w' :=
 ⟨h.lds.below hb hB,h.laid.below hb (Nat.lt_of_lt_of_le h.laid.lt hB)⟩
theorem Wd.alloc{S:Snt}{w:World}(h:Wd S w)(o:Obj):Wd S (w.alloc o):=h.below ((Below.refl _ _).alloc zr o) zr
theorem Below.push{B:Nat}{W0 w1 w2:World}(h:Below B W0 w1)(hB:B≤W0.heap.size)(h2:Below w1.heap.size w1 w2):Below B W0 w2 :=
 h.trans (h2.mono (Nat.le_trans hB h.size))
def Q3l(z:Int)(w:World)(e:Ending)(w':World):Prop:=Below w.heap.size w w'∧((z=0∧e=.returned .nilIface)∨(z≠0∧∃ s,e=.returned (ufl z s)))
def plc(p:Blk→Bool):List Blk→Nat→Int
 | [],_ => -1
 | x::r,i=>if p x=true then (i:Int) else plc p r (i+1)
theorem Qt5(p:Blk→Bool):∀ (l:List Blk) (i:Nat),decide (0≤plc p l i)=l.any p
 | [],_=>by simp[plc]
 | x::r,i=>by
  rw[plc,List.any_cons]
  cases h:p x
  ·
   rw[if_neg (by decide),Qt5 p r (i+1),Bool.false_or]
  ·
   rw[if_pos rfl,Bool.true_or];simp
theorem Qt6(p:Blk→Bool)(l:List Blk)(i:Nat)(hi:i<l.length):plc p (l.drop i) i=if p (l[i]'hi)=true then (i:Int) else plc p (l.drop (i+1)) (i+1):=by
 rw[List.drop_eq_getElem_cons hi,plc]
def Qbu(q:Nat)(x:Blk):Bool:=decide (x.num=q)
def Qdf(q:Nat)(x:Blk):Bool:=decide (x.typ=q)
theorem Q20(x:Blk)(A:OA)(nd cd g q:Nat)(w:World)(hg:w.cell? ⟨g,0,none⟩=some (.int .u64 (q:Int))) :
  Calls Tryz.prog 96 #[Qe3 x.typ x.num x.flg x.crc A nd cd,.pointer (some ⟨g,0,none⟩)] w fun e w'=>e=.returned (.bool (Qbu q x))∧Below w.heap.size w w':=by
 have hlt:=World.block_lt_of_cell? w _ hg;have hg1:(w.alloc (zo4 x.typ x.num x.flg x.crc A nd cd)).cell? ⟨g,0,none⟩=some (.int .u64 (q:Int)):=(World.cell?_alloc_lt _ _ _ hlt).trans hg;obtain⟨R,hR⟩:∃ R,R=Qbu q x:=⟨_,rfl⟩
 rw[← hR]
 have hr:((x.num:Int)==(q:Int))=R:=by
  rw[hR];unfold Qbu
  rw[Bool.eq_iff_iff];simp
  omega
 unfold Qe3;clear hg hR hlt;cases R with
 | true =>
  go_enter Tryz.func96,Tryz.ntmps96;go_wp2_with fail;go_ret;exact⟨rfl,zb⟩
 | false =>
  go_enter Tryz.func96,Tryz.ntmps96;go_wp2_with fail;go_ret;exact⟨rfl,zb⟩
theorem Q0n(A:OA)(n c B q g:Nat)(l:List Blk)(w:World)(h:RdL w B A n l)(hB:B≤w.heap.size)(hg:w.cell? ⟨g,0,none⟩=some (.int .u64 (q:Int)))(hlt:g<w.heap.size) :
  Calls Tryz.prog 95 #[.slice A n c,.func (.func 96) #[] #[.pointer (some ⟨g,0,none⟩)]] w fun e w'=>e=.returned (.int .i64 (plc (Qbu q) l 0))∧Below w.heap.size w w':=by
 have CL:=hid (fun x A nd cd (W:World) (hb:Below w.heap.size w W)=>Q20 x A nd cd g q W ((hb.cell (p:=⟨g,0,none⟩) hlt).trans hg));obtain⟨R,hR⟩:∃ R,R=plc (Qbu q) l 0:=⟨_,rfl⟩
 rw[← hR]
 have HR:=hid hR;have HH:=hid h;have hn47:=h.2.2;have HB0:=hid hB;clear hR hg hlt h hB;unfold Qe3 at *;go_enter Tryz.func95,Tryz.ntmps95;go_wp2_with fail;go_loopw [8] (fun v wl=>∃ i:Nat,i≤n∧v=.int .i64 (i:Int)∧Hid (Below w.heap.size w wl)∧Hid (plc (Qbu q) (l.drop i) i=R)) (fun v _=>n - (intOf v).toNat)
 case atStart=>exact⟨0,Nat.zero_le _,rfl,Below.refl _ _,HR.out.symm⟩
 case round =>
  obtain⟨i,hi,rfl,HB,HP⟩:=hrel;by_cases hlt:i<n
  ·
   have hil:i<l.length:=by rw[HH.out.1];exact hlt
   obtain⟨b,o,hA,hbB,hks⟩:=HH.out.2.1 (by omega);obtain⟨A1,nd,cd,hk⟩:=hks.get i hil;have hk2:=hk.below (HB.out.mono HB0.out) hbB;have hp:=Qt6 (Qbu q) l i hil;rw[HP.out] at hp
   generalize l[i]=x at *;have g0:=hk2.k0;have g1:=hk2.k1;have g2:=hk2.k2;have g3:=hk2.k3;have g4:=hk2.k4;have C1:=hid (CL.out x A1 nd cd wr HB.out);have HPP:=hid hp;clear hp hk hk2 hks hbB;subst hA;cases hv:Qbu q x with
   | true =>
    rw[hv] at C1
    have e:R=(i:Int):=by rw[HPP.out,hv,if_pos rfl]
    clear HPP HP HR hv;subst e;go_wp2_with fail;refine C1.out.mono ?_;rintro e w1 ⟨rfl,hb⟩;have HB2:=hid (HB.out.trans (hb.mono HB.out.size));clear hb g0 g1 g2 g3 g4;go_wp2_with fail;go_ret;exact⟨rfl,HB2.out⟩
   | false =>
    rw[hv] at C1
    have HP2:Hid (plc (Qbu q) (l.drop (i+1)) (i+1)=R):=by show _=_;rw[HPP.out,hv,if_neg (by decide)]
    clear HPP HP hv;go_wp2_with fail;refine C1.out.mono ?_;rintro e w1 ⟨rfl,hb⟩;have HB2:=hid (HB.out.trans (hb.mono HB.out.size));clear hb g0 g1 g2 g3 g4;go_wp2_with fail;go_roundw
    case rel=>exact⟨i+1,by omega,by go_num,HB2.out,HP2.out⟩
    case measure=>simp[intOf];omega
  ·
   obtain rfl:i=n:=by omega
   have e:R = -1:=by
    rw[← HP.out,List.drop_eq_nil_of_le (by rw[HH.out.1];exact Nat.le_refl _)];rfl
   clear HP HR;subst e;have HBE:=hid HB.out;go_wp2_with fail;go_ret;exact⟨rfl,HBE.out⟩
theorem Q2z(x:Blk)(A:OA)(nd cd g q:Nat)(w:World)(hg:w.cell? ⟨g,0,none⟩=some (.int .u64 (q:Int))) :
  Calls Tryz.prog 149 #[Qe3 x.typ x.num x.flg x.crc A nd cd,.pointer (some ⟨g,0,none⟩)] w fun e w'=>e=.returned (.bool (Qdf q x))∧Below w.heap.size w w':=by
 have hlt:=World.block_lt_of_cell? w _ hg;have hg1:(w.alloc (zo4 x.typ x.num x.flg x.crc A nd cd)).cell? ⟨g,0,none⟩=some (.int .u64 (q:Int)):=(World.cell?_alloc_lt _ _ _ hlt).trans hg;obtain⟨R,hR⟩:∃ R,R=Qdf q x:=⟨_,rfl⟩
 rw[← hR]
 have hr:((x.typ:Int)==(q:Int))=R:=by
  rw[hR];unfold Qdf
  rw[Bool.eq_iff_iff];simp
  omega
 unfold Qe3;clear hg hR hlt;cases R with
 | true =>
  go_enter Tryz.func149,Tryz.ntmps149;go_wp2_with fail;go_ret;exact⟨rfl,zb⟩
 | false =>
  go_enter Tryz.func149,Tryz.ntmps149;go_wp2_with fail;go_ret;exact⟨rfl,zb⟩
theorem Q0m(A:OA)(n c B q g:Nat)(l:List Blk)(w:World)(h:RdL w B A n l)(hB:B≤w.heap.size)(hg:w.cell? ⟨g,0,none⟩=some (.int .u64 (q:Int)))(hlt:g<w.heap.size) :
  Calls Tryz.prog 95 #[.slice A n c,.func (.func 149) #[] #[.pointer (some ⟨g,0,none⟩)]] w fun e w'=>e=.returned (.int .i64 (plc (Qdf q) l 0))∧Below w.heap.size w w':=by
 have CL:=hid (fun x A nd cd (W:World) (hb:Below w.heap.size w W)=>Q2z x A nd cd g q W ((hb.cell (p:=⟨g,0,none⟩) hlt).trans hg));obtain⟨R,hR⟩:∃ R,R=plc (Qdf q) l 0:=⟨_,rfl⟩
 rw[← hR]
 have HR:=hid hR;have HH:=hid h;have hn47:=h.2.2;have HB0:=hid hB;clear hR hg hlt h hB;unfold Qe3 at *;go_enter Tryz.func95,Tryz.ntmps95;go_wp2_with fail;go_loopw [8] (fun v wl=>∃ i:Nat,i≤n∧v=.int .i64 (i:Int)∧Hid (Below w.heap.size w wl)∧Hid (plc (Qdf q) (l.drop i) i=R)) (fun v _=>n - (intOf v).toNat)
 case atStart=>exact⟨0,Nat.zero_le _,rfl,Below.refl _ _,HR.out.symm⟩
 case round =>
  obtain⟨i,hi,rfl,HB,HP⟩:=hrel;by_cases hlt:i<n
  ·
   have hil:i<l.length:=by rw[HH.out.1];exact hlt
   obtain⟨b,o,hA,hbB,hks⟩:=HH.out.2.1 (by omega);obtain⟨A1,nd,cd,hk⟩:=hks.get i hil;have hk2:=hk.below (HB.out.mono HB0.out) hbB;have hp:=Qt6 (Qdf q) l i hil;rw[HP.out] at hp
   generalize l[i]=x at *;have g0:=hk2.k0;have g1:=hk2.k1;have g2:=hk2.k2;have g3:=hk2.k3;have g4:=hk2.k4;have C1:=hid (CL.out x A1 nd cd wr HB.out);have HPP:=hid hp;clear hp hk hk2 hks hbB;subst hA;cases hv:Qdf q x with
   | true =>
    rw[hv] at C1
    have e:R=(i:Int):=by rw[HPP.out,hv,if_pos rfl]
    clear HPP HP HR hv;subst e;go_wp2_with fail;refine C1.out.mono ?_;rintro e w1 ⟨rfl,hb⟩;have HB2:=hid (HB.out.trans (hb.mono HB.out.size));clear hb g0 g1 g2 g3 g4;go_wp2_with fail;go_ret;exact⟨rfl,HB2.out⟩
   | false =>
    rw[hv] at C1
    have HP2:Hid (plc (Qdf q) (l.drop (i+1)) (i+1)=R):=by show _=_;rw[HPP.out,hv,if_neg (by decide)]
    clear HPP HP hv;go_wp2_with fail;refine C1.out.mono ?_;rintro e w1 ⟨rfl,hb⟩;have HB2:=hid (HB.out.trans (hb.mono HB.out.size));clear hb g0 g1 g2 g3 g4;go_wp2_with fail;go_roundw
    case rel=>exact⟨i+1,by omega,by go_num,HB2.out,HP2.out⟩
    case measure=>simp[intOf];omega
  ·
   obtain rfl:i=n:=by omega
   have e:R = -1:=by
    rw[← HP.out,List.drop_eq_nil_of_le (by rw[HH.out.1];exact Nat.le_refl _)];rfl
   clear HP HR;subst e;have HBE:=hid HB.out;go_wp2_with fail;go_ret;exact⟨rfl,HBE.out⟩
theorem Qmf(A:OA)(n c B q:Nat)(l:List Blk)(w:World)(h:RdL w B A n l)(hB:B≤w.heap.size) :
  Calls Tryz.prog 51 #[.slice A n c,.int .u64 (q:Int)] w fun e w'=>e=.returned (.int .i64 (plc (Qbu q) l 0))∧Below w.heap.size w w':=by
 have C1:=hid (Q0n A n c B q w.heap.size l (w.alloc (zo11 q)) (h.below ((Below.refl _ _).alloc hB _)) (Nat.le_trans hB (Qaa _ _)) (by rw[World.cell?_alloc_at _ _ _ _ rfl];rfl) (by simp));clear h hB;go_enter Tryz.func51,Tryz.ntmps51;go_wp2_with fail;refine C1.out.mono ?_;rintro e w1 ⟨rfl,hb⟩;have HB:=hid (((Below.refl w.heap.size w).alloc zr (zo11 q)).trans (hb.mono (Qaa _ _)));clear hb;go_wp2_with fail;go_ret;exact⟨rfl,HB.out⟩
theorem Qne(A:OA)(n c B q g:Nat)(l:List Blk)(w:World)(h:RdL w B A n l)(hB:B≤w.heap.size)(hg:w.cell? ⟨g,0,none⟩=some (.int .u64 (q:Int))) :
  Calls Tryz.prog 148 #[.slice A n c,.func (.func 149) #[] #[.pointer (some ⟨g,0,none⟩)]] w fun e w'=>e=.returned (.bool (l.any (Qdf q)))∧Below w.heap.size w w':=by
 have C1:=hid (Q0m A n c B q g l w h hB hg (World.block_lt_of_cell? w _ hg));have hp:=Qt5 (Qdf q) l 0;generalize plc (Qdf q) l 0=P at *;rw[← hp]
 clear h hB hg hp;go_enter Tryz.func148,Tryz.ntmps148;go_wp2_with fail;refine C1.out.mono ?_;rintro e w1 ⟨rfl,hb⟩;have HB:=hid hb;clear hb;go_wp2_with fail;go_ret;exact⟨rfl,HB.out⟩
theorem Qo3(A:OA)(n c B q:Nat)(l:List Blk)(w:World)(h:RdL w B A n l)(hB:B≤w.heap.size) :
  Calls Tryz.prog 125 #[.slice A n c,.int .u64 (q:Int)] w fun e w'=>e=.returned (.bool (l.any (Qdf q)))∧Below w.heap.size w w':=by
 have C1:=hid (Qne A n c B q w.heap.size l (w.alloc (zo11 q)) (h.below ((Below.refl _ _).alloc hB _)) (Nat.le_trans hB (Qaa _ _)) (by rw[World.cell?_alloc_at _ _ _ _ rfl];rfl));clear h hB;go_enter Tryz.func125,Tryz.ntmps125;go_wp2_with fail;refine C1.out.mono ?_;rintro e w1 ⟨rfl,hb⟩;have HB:=hid (((Below.refl w.heap.size w).alloc zr (zo11 q)).trans (hb.mono (Qaa _ _)));clear hb;go_wp2_with fail;go_ret;exact⟨rfl,HB.out⟩
theorem Qrc(q:Nat)(w:World):Calls Tryz.prog 124 #[.int .u64 (q:Int)] w fun e w'=>e=.returned (.bool (Qcl q))∧w=w':=by
 have hs:Qcl q=(decide ((q:Int)=10)||(decide ((q:Int)=7)||decide ((q:Int)=6))):=by
  unfold Qcl;rw[Bool.eq_iff_iff]
  simp only[Bool.or_eq_true,decide_eq_true_eq];omega
 rw[hs]
 clear hs;generalize (q:Int)=Q;by_cases h1:Q=10
 ·
  subst h1;go_enter Tryz.func124,Tryz.ntmps124;go_wp2_with fail;go_ret;exact⟨rfl,rfl⟩
 ·
  have e1:(Q==10)=false:=by simpa using h1
  have d1:decide (Q=10)=false:=by simpa using h1
  rw[d1]
  clear d1 h1;by_cases h2:Q=7
  ·
   subst h2;go_enter Tryz.func124,Tryz.ntmps124;go_wp2_with fail;go_ret;exact⟨rfl,rfl⟩
  ·
   have e2:(Q==7)=false:=by simpa using h2
   have d2:decide (Q=7)=false:=by simpa using h2
   rw[d2]
   clear d2 h2;have d3:decide (Q=6)=(Q==6):=by rw[Bool.eq_iff_iff];simp
   rw[d3]
   clear d3;go_enter Tryz.func124,Tryz.ntmps124;go_wp2_with fail;go_ret;exact⟨by simp,rfl⟩
end Go.Proofs.YtbnfkjkoinbkgaaGreatDoor
