import Derived.Test.YtbnfkjkoinbkgaaGreatDoorVAbb
import Derived.Test.YtbnfkjkoinbkgaaGreatDoorVEidI3
import Derived.Test.YtbnfkjkoinbkgaaGreatDoorVEidT2
namespace Go.Proofs.YtbnfkjkoinbkgaaGreatDoor
set_option maxRecDepth 100000
set_option maxHeartbeats 16000000
open Go.RowKit
open Go.Lib (hid)
def Q44(x:Itm)(w:World)(e:Ending)(w':World):Prop:=Below w.heap.size w w' ∧
  ∃ (sc:Int) (s:ByteArray) (n v:Nat),e=.returned (Qbq sc s n v)∧s.size≤140737488355328∧n<18446744073709551616∧v<18446744073709551616∧∀ e',Qag e'=true→Qal e'=x→e'=ep sc s n v
theorem Quw{e:Epd}{k:Int}{m:Nat}{d:LB}{l:List Itm}(h:Qal e=.mk k m d l):l=[.mk 0 e.scheme.toNat [] [],Qss e]:=by
  rw[Qms] at h
  injection h with _ _ _ h
  exact h.symm
theorem Qly{e:Epd}(hc:Qag e=true){k k0 k1:Int}{m n0 n1:Nat}{d d0 d1:LB}{l0 l1:List Itm}(h:Qal e=.mk k m d [.mk k0 n0 d0 l0,.mk k1 n1 d1 l1]) :
    e.scheme=(n0:Int)∧(n0=1∨n0=2)∧e.name=d1∧((l1=[]∧e.node=0∧e.service=0)∨l1=[.mk 0 e.node [] [],.mk 0 e.service [] []]):=by
  have h2:=Quw h;simp only[List.cons.injEq,Itm.mk.injEq,and_true] at h2;obtain⟨⟨-,hn0,-,-⟩,hb⟩:=h2;unfold Qss at hb;by_cases h1:e.scheme=1
  · obtain⟨hn,hs,-⟩:=Qbz hc h1
    rw[if_neg (by rw[h1];decide)] at hb
    by_cases hnm:e.name=[]
    · rw[if_pos hnm] at hb
      simp only[Itm.mk.injEq] at hb;exact⟨by rw[hn0,h1];rfl,.inl (by rw[hn0,h1];rfl),by rw[hnm];exact hb.2.2.1.symm,.inl ⟨hb.2.2.2,hn,hs⟩⟩
    · rw[if_neg hnm] at hb
      simp only[Itm.mk.injEq] at hb;exact⟨by rw[hn0,h1];rfl,.inl (by rw[hn0,h1];rfl),hb.2.2.1.symm,.inl ⟨hb.2.2.2,hn,hs⟩⟩
  · obtain⟨h2,hnm,-,-,-⟩:=Qbe hc h1
    rw[if_pos h2] at hb
    simp only[Itm.mk.injEq] at hb;exact⟨by rw[hn0,h2];rfl,.inr (by rw[hn0,h2];rfl),by rw[hnm];exact hb.2.2.1.symm,.inr hb.2.2.2⟩
theorem Qhv{n:Nat}(h:n=1∨n=2):wrap64 (n:Int)=(n:Int):=by unfold wrap64;omega
theorem Qtc(x:Itm)(v:Value)(B:Nat)(w:World)(hB:B≤w.heap.size)(h:RdI w B v x) :
    Calls Tryz.prog 166 #[v] w (Q44 x w):=by
  obtain⟨k,m,d,l⟩:=x;obtain⟨A,nd,cd,AL,cl,rfl,-,-,-,-,hl,hrow⟩:=h.open;have HB0:Hid (Below w.heap.size w ((w.alloc (zo1 k m A nd cd AL l.length cl)).alloc zk5)):=zb.alloc (Qaa _ _) _;clear h;by_cases h2:l.length=2
  · obtain⟨x0,x1,rfl⟩:∃ x0 x1,l=[x0,x1]:=by
      match l,h2 with
      | [x0,x1],_=>exact⟨x0,x1,rfl⟩
    obtain⟨b,o,rfl,hb,hs⟩:=hrow (by simp);clear hrow hl h2;rw[show([x0,x1]:List Itm).length=2 from rfl] at *
    rw[RdIs,RdIs] at hs
    obtain⟨⟨c0,c1,c2,c3,g0,g1,g2,g3,hx0⟩,⟨e0,e1,e2,e3,q0,q1,q2,q3,hx1⟩,-⟩:=hs;obtain⟨k0,n0,d0,l0⟩:=x0;obtain⟨k1,n1,d1,l1⟩:=x1;obtain⟨A0,nd0,cd0,AL0,cl0,he0,-,hn0,-,-,-,-⟩:=hx0.open;obtain⟨A1,nd1,cd1,AL1,cl1,he1,-,-,hd1,hrd1,hl1,hrow1⟩:=hx1.open;injection he0 with he0
    simp only[Array.mk.injEq,List.cons.injEq,and_true] at he0;obtain⟨rfl,rfl,rfl,rfl⟩:=he0;injection he1 with he1
    simp only[Array.mk.injEq,List.cons.injEq,and_true] at he1;obtain⟨rfl,rfl,rfl,rfl⟩:=he1;obtain⟨W3,hW3⟩:∃ W3,W3=(((w.alloc (zo1 k m A nd cd (some ⟨b,o,none⟩) 2 cl)).alloc zk5).alloc (zo1 k1 n1 A1 nd1 cd1 AL1 l1.length cl1)):=⟨_,rfl⟩
    have hb3:Below w.heap.size w W3:=by rw[hW3];exact HB0.out.alloc (by simp;omega) _
    have hrd3:=hrd1.below (hb3.mono hB);have hstr1:(convert 29 9 (.slice A1 nd1 cd1)).run Tryz.prog W3.drew=.ok (.string ⟨d1.toArray⟩) W3.drew:=Qgh (hrd3.below (Below.drew_ (B:=B))) _ 5 _ Tryz.underlying29 Tryz.underlying5 Tryz.underlying9;have hlt:b<w.heap.size:=Nat.lt_of_lt_of_le hb hB;have kk:∀ j u,w.cell? ⟨b,j,none⟩=some u→W3.cell? ⟨b,j,none⟩=some u:=fun j u hc=>(hb3.cell (p:=⟨b,j,none⟩) hlt).trans hc
    have r1:=kk _ _ g1;have s0:=kk _ _ q0;have s1:=kk _ _ q1;have s2:=kk _ _ q2;have s3:=kk _ _ q3;have hz3:W3.heap.size=w.heap.size+3:=by rw[hW3];simp
    have hb31:Below (w.alloc (zo1 k m A nd cd (some ⟨b,o,none⟩) 2 cl)).heap.size (w.alloc (zo1 k m A nd cd (some ⟨b,o,none⟩) 2 cl)) W3:=by
      rw[hW3];exact zb.alloc (Qaa _ _) _
    obtain⟨-,-,-,t3⟩:=Qbh hb31;have hat:∀ j u,(#[.int .i64 k1,.int .u64 (n1:Int),.slice A1 nd1 cd1,.slice AL1 l1.length cl1]:Array Value)[j]?=some u→W3.cell? ⟨w.heap.size+1+1,j,none⟩=some u:=fun j u hj=>by
      rw[hW3,World.cell?_alloc_at _ _ _ _ (by simp)];exact hj
    have t32:=hat 2 _ rfl;have t33:=hat 3 _ rfl;have HBE:=hid (show Below (w.heap.size+1+1) ((w.alloc (zo1 k m A nd cd (some ⟨b,o,none⟩) 2 cl)).alloc zk5) W3 by rw[hW3];exact(Below.refl _ _).alloc (by simp) _);have HROW:=hid hrow1;have HX:=hid hx1;have HB3:=hid hb3;have HZ3:=hid hz3;have HN:=hid (And.intro hn0 (And.intro hd1 hrd1.1));have hstr2:=fun (W:World) (hw:Below W3.heap.size W3 W)=>Qgh (P:=Tryz.prog) (c:=cd1) ((hrd1.below (hb3.mono hB)).below (hw.mono (Nat.le_trans hB hb3.size))) 29 5 9 Tryz.underlying29 Tryz.underlying5 Tryz.underlying9
    have hstr3:=hstr2 (W3.alloc zk5) zb;have hstr4:=hstr2 (W3.alloc zk5).drew zb.drew;have kA:∀ (ob:Obj) {p:Addr} {u:Value},W3.cell? p=some u→(W3.alloc ob).cell? p=some u:=fun ob _ _ hc=>(World.cell?_alloc_lt W3 _ _ (World.block_lt_of_cell? W3 _ hc)).trans hc
    have t3a:=fun ob=>kA ob t3
    have t32a:=fun ob=>kA ob t32
    have t33a:=fun ob=>kA ob t33
    have r1a:=fun ob=>kA ob r1
    obtain⟨⟨zz0,zz1,zz2,zz3⟩,ff0,ff1,ff2,ff3⟩:=Qq6 (g:=w.heap.size+1) (by simp) HBE.out;have z0:=fun ob=>kA ob zz0
    have z1:=fun ob=>kA ob zz1
    have z2:=fun ob=>kA ob zz2
    have z3:=fun ob=>kA ob zz3
    have fA:∀ (ob:Obj) (j:Nat),W3.frozen? ⟨w.heap.size+1,j,none⟩=false→(W3.alloc ob).frozen? ⟨w.heap.size+1,j,none⟩=false:=fun ob j hf=>(World.frozen?_alloc_old W3 _ ⟨w.heap.size+1,j,none⟩ (by have:=HZ3.out;show w.heap.size+1≠_;omega)).trans hf
    have f0:=fun ob=>fA ob 0 ff0
    have f1:=fun ob=>fA ob 1 ff1
    have f2:=fun ob=>fA ob 2 ff2
    have f3:=fun ob=>fA ob 3 ff3
    have HFIN:Hid (∀ (c:Array Value) (u0 u1 u2 u3:Value) (W:World),Below W3.heap.size (W3.alloc (.cells c 25)) W→Below w.heap.size w ((((W.setCell ⟨w.heap.size+1,0,none⟩ u0).setCell ⟨w.heap.size+1,1,none⟩ u1).setCell ⟨w.heap.size+1,2,none⟩ u2).setCell ⟨w.heap.size+1,3,none⟩ u3)):=fun c u0 u1 u2 u3 W hb =>
      Qcp ((HB3.out.trans (((Below.refl W3.heap.size W3).alloc zr _).mono HB3.out.size)).trans (hb.mono HB3.out.size)) (Nat.le_succ _)
    clear fA zz0 zz1 zz2 zz3 ff0 ff1 ff2 ff3 hstr2;by_cases hl2:l1.length=2
    · obtain⟨y0,y1,rfl⟩:∃ y0 y1,l1=[y0,y1]:=by
        match l1,hl2 with
        | [y0,y1],_=>exact⟨y0,y1,rfl⟩
      obtain⟨b1,o1,rfl,hb1,hs1⟩:=hrow1 (by simp);rw[RdIs,RdIs] at hs1
      obtain⟨⟨a0,a1,a2,a3,-,i1,-,-,hy0⟩,⟨b0',b1',b2',b3',-,j1,-,-,hy1⟩,-⟩:=hs1;obtain⟨ky0,ny0,dy0,ly0⟩:=y0;obtain⟨ky1,ny1,dy1,ly1⟩:=y1;obtain⟨_,_,_,_,_,hey0,-,hny0,-,-,-,-⟩:=hy0.open;obtain⟨_,_,_,_,_,hey1,-,hny1,-,-,-,-⟩:=hy1.open;injection hey0 with hey0
      injection hey1 with hey1
      simp only[Array.mk.injEq,List.cons.injEq,and_true] at hey0 hey1;obtain⟨rfl,rfl,rfl,rfl⟩:=hey0;obtain⟨rfl,rfl,rfl,rfl⟩:=hey1;have hl1b:b1<w.heap.size:=Nat.lt_of_lt_of_le hb1 hB;have yy0:=fun ob=>kA ob ((hb3.cell (p:=⟨b1,o1+1,none⟩) hl1b).trans i1)
      have yy1:=fun ob=>kA ob ((hb3.cell (p:=⟨b1,o1+4+1,none⟩) hl1b).trans j1)
      have HNY:=hid (And.intro hny0 hny1);rw[show([.mk ky0 ny0 dy0 ly0,.mk ky1 ny1 dy1 ly1]:List Itm).length=2 from rfl] at *
      clear kA i1 j1 hy0 hy1 hny0 hny1 hl1b hl2;clear g0 g1 g2 g3 hx0 hx1 hrow1 hrd1 hrd3 hb3 hb31 hat kk hd1 hl1 hn0 hz3 s0 s1 s2 s3;go_enter Tryz.func166,Tryz.ntmps166;go_wp2_with fail;rw[← hW3]
      clear hW3 q0 q1 q2 q3;go_region
      all_goals go_wp2_with fail
      all_goals go_region
      all_goals go_wp2_with fail
      all_goals
        refine bodyPost_ret (v:=Qbq (wrap64 (n0:Int)) ⟨d1.toArray⟩ ny0 ny1) (by simp[results,Tryz.results166,go_sem,z0,z1,z2,z3,Qbq]) rfl ⟨(by first|exact HFIN.out _ _ _ _ _ _ (Below.refl _ _)|exact(HFIN.out _ _ _ _ _ _ (Below.refl _ _)).drew|exact(HFIN.out _ _ _ _ _ _ (Below.refl _ _)).drew.drew),wrap64 (n0:Int),⟨d1.toArray⟩,ny0,ny1,rfl,?_,HNY.out.1,HNY.out.2,fun e' hc' hi'=>?_⟩
      all_goals first
        | (rw[Lib.size_eq];simp;have h:=HN.out.2.2;have h2:=HN.out.2.1;omega)
        | (obtain⟨r1,r2,r3,r4⟩:=Qly hc' hi'
           obtain⟨h,-,-⟩|r5:=r4
           · cases h
           · simp only[List.cons.injEq,Itm.mk.injEq,and_true] at r5
             exact Qgr (by rw[r1];exact(Qhv r2).symm) (by rw[r3];unfold ep;simp) r5.1.2.1.symm r5.2.2.1.symm)
    · have hl2i:¬ ((l1.length:Int)=2):=by omega
      have HL2:=hid hl2;clear kA hl2;clear g0 g1 g2 g3 hx0 hx1 hrow1 hrd1 hrd3 hb3 hb31 hat kk hd1 hl1 hn0 hz3 s0 s1 s2 s3;have hN1:Hid (d1.length=nd1):=HN.out.2.2;go_enter Tryz.func166,Tryz.ntmps166;go_wp2_with fail;rw[← hW3]
      clear hW3 q0 q1 q2 q3;generalize hNN:l1.length=NN at *;have HNN:=hid hNN;clear hNN;have hbq:((NN:Int)==2)=false:=by rw[beq_eq_false_iff_ne];exact hl2i
      clear hl2i;go_region
      all_goals go_wp2_with fail
      all_goals
        refine bodyPost_ret (v:=Qbq (wrap64 (n0:Int)) ⟨d1.toArray⟩ 0 0) (by simp[results,Tryz.results166,go_sem,z0,z1,z2,z3,Qbq]) rfl ⟨(by first|exact HFIN.out _ _ _ _ _ _ (Below.refl _ _)|exact(HFIN.out _ _ _ _ _ _ (Below.refl _ _)).drew|exact(HFIN.out _ _ _ _ _ _ (Below.refl _ _)).drew.drew),wrap64 (n0:Int),⟨d1.toArray⟩,0,0,rfl,?_,by decide,by decide,fun e' hc' hi'=>?_⟩
      all_goals first
        | (rw[Lib.size_eq];simp;have h:=HN.out.2.2;have h2:=HN.out.2.1;omega)
        | (obtain⟨r1,r2,r3,r4⟩:=Qly hc' hi'
           obtain⟨-,h4,h5⟩|r5:=r4
           · exact Qgr (by rw[r1];exact(Qhv r2).symm) (by rw[r3];unfold ep;simp) h4 h5
           · exact absurd (by rw[← HNN.out,r5];rfl) HL2.out)
  · have HT:Hid (∀ w':World,Below w.heap.size w w'→Q44 (.mk k m d l) w (.returned (Qbq 0 ⟨#[]⟩ 0 0)) w'):=fun w' hb=>⟨hb,0,⟨#[]⟩,0,0,rfl,by decide,by decide,by decide,fun e' _ hi=>absurd (by rw[Quw hi];rfl) h2⟩
    have h2i:¬ ((l.length:Int)=2):=by omega
    have HL:=hid hl;clear hrow hl h2;have ZE:=Qq6 (g:=w.heap.size+1) (by simp) (Below.refl (w.heap.size+1+1) ((w.alloc (zo1 k m A nd cd AL l.length cl)).alloc zk5));obtain⟨⟨z0,z1,z2,z3⟩,f0,f1,f2,f3⟩:=ZE;go_enter Tryz.func166,Tryz.ntmps166;go_wp2_with fail;refine bodyPost_ret (v:=Qbq 0 ⟨#[]⟩ 0 0) (by simp[results,Tryz.results166,go_sem,z0,z1,z2,z3,Qbq]) rfl (HT.out _ ?_);first|exact HB0.out|exact Qcp HB0.out (Nat.le_succ _)
end Go.Proofs.YtbnfkjkoinbkgaaGreatDoor
