import Derived.Test.YtbnfkjkoinbkgaaGreatDoorVAbb
import Derived.Test.YtbnfkjkoinbkgaaGreatDoorVKFits
import Derived.Test.YtbnfkjkoinbkgaaGreatDoorVKHead
import Derived.Test.YtbnfkjkoinbkgaaGreatDoorVKMake
import Derived.Test.YtbnfkjkoinbkgaaGreatDoorVNumG
import Derived.Deep.AppendLies
import Derived.Deep.RegionHeld3
namespace Go.Proofs.YtbnfkjkoinbkgaaGreatDoor
set_option maxRecDepth 100000
set_option maxHeartbeats 16000000
open Go.RowKit
open Go.Lib (hid)
theorem RdIs.news{w:World}{B b:Nat}:∀ {l:List Itm} {o:Nat},RdIs w B b o l→∃ cs:List Value,cs.length=l.length*4∧(∀ j u,cs[j]?=some u→w.cell? ⟨b,o+j,none⟩=some u)∧(∀ u∈cs,u.oneCell'=true) ∧
  ∀ (W':World) (B' b' o':Nat),(∀ j u,cs[j]?=some u→W'.cell? ⟨b',o'+j,none⟩=some u)→(∀ p:Addr,p.block<B→W'.cell? p=w.cell? p)→B≤B'→RdIs W' B' b' o' l
 | [],o,_=>⟨[],rfl,fun j u h=>(by simp at h),fun u h=>(by cases h),fun W' B' b' o' _ _ _=>(by rw[RdIs];trivial)⟩
 | x::r,o,h=>by
  rw[RdIs] at h
  obtain⟨⟨c0,c1,c2,c3,g0,g1,g2,g3,gx⟩,hr⟩:=h;obtain⟨cs,h1,h2,h3,h4⟩:=RdIs.news hr;obtain⟨k,n,A,nd,cd,AL,nl,cl,e⟩:=gx.form;have hone:c0.oneCell'=true∧c1.oneCell'=true∧c2.oneCell'=true∧c3.oneCell'=true:=by
   injection e with e
   simp only[Array.mk.injEq,List.cons.injEq,and_true] at e;obtain⟨rfl,rfl,rfl,rfl⟩:=e;exact⟨rfl,rfl,rfl,rfl⟩
  refine⟨c0::c1::c2::c3::cs,by simp[h1];omega,?_,?_,?_⟩
  ·
   intro j u hj;match j with
   | 0=>cases hj;exact g0
   | 1=>cases hj;exact g1
   | 2=>cases hj;exact g2
   | 3=>cases hj;exact g3
   | j+4 =>
    have:=h2 j u (by simpa using hj)
    rw[show o+(j+4)=o+4+j by omega]
    exact this
  ·
   intro u hu;simp only[List.mem_cons] at hu;rcases hu with rfl|rfl|rfl|rfl|hu
   ·
    exact hone.1
   ·
    exact hone.2.1
   ·
    exact hone.2.2.1
   ·
    exact hone.2.2.2
   ·
    exact h3 u hu
  ·
   intro W' B' b' o' hc hk hB;rw[RdIs]
   refine⟨⟨c0,c1,c2,c3,hc 0 c0 rfl,hc 1 c1 rfl,hc 2 c2 rfl,hc 3 c3 rfl,(gx.keep hk).more hB⟩,h4 W' B' b' (o'+4) (fun j u hj=>?_) hk hB⟩;have:=hc (j+4) u (by simpa using hj)
   rw[show o'+(j+4)=o'+4+j by omega] at this
   exact this
theorem RdI.mk_list{w:World}{B b o n c:Nat}{l:List Itm}{k:Int}(hk:(Lit.int .i64 k).wf=true)(hc:n≤c)(hn:n≤140737488355328)(hl:l.length=n)(hb:b<B)(h:RdIs w B b o l):RdI w B (zv6 k 0 none 0 0 (some ⟨b,o,none⟩) n c) (.mk k 0 [] l):=by
 rw[RdI]
 exact⟨none,0,0,some ⟨b,o,none⟩,n,c,rfl,hk,by decide,⟨Nat.le_refl _,by decide⟩,Rd.nil_,⟨hc,hn⟩,hl,fun _=>⟨b,o,rfl,hb,h⟩⟩
theorem Qbr:(Tryz.prog.info? 119).map (fun i=>(i.zero,i.size,i.bytes))=some (some (zv6 0 0 none 0 0 none 0 0),4,64):=by kernel_rfl
theorem Qjy(b o n c B:Nat)(l:List Itm)(w:World)(hB:B≤w.heap.size)(hb:b<B)(h:RdIs w B b o l)(hl:l.length=n)(h0:0<n)(hn:n≤1000000)(_hc:n≤c) :
  Calls Tryz.prog 63 #[.slice (some ⟨b,o,none⟩) n c] w (Qwr (.mk 4 0 [] l) w):=by
 obtain⟨i0,hi0,hz0,hz1,hz2⟩:=info_parts Qbr;obtain⟨cs,n1,n2,n3,n4⟩:=h.news;rw[hl] at n1
 have bs:b<w.heap.size:=by omega
 have N2:Hid (∀ j u,cs[j]?=some u→((w.alloc zk0).alloc (.cells #[] 119)).cell? ((⟨b,o,none⟩:Addr).add j)=some u):=by
  intro j u hj;have e:(⟨b,o,none⟩:Addr).add j=⟨b,o+j,none⟩:=by unfold Addr.add;split <;> simp_all
  rw[e,World.cell?_alloc_lt _ _ _ (Nat.lt_of_lt_of_le bs (Qaa _ _)),World.cell?_alloc_lt _ _ _ bs]
  exact n2 j u hj
 have HO:=hid (show((w.alloc zk0).alloc (.cells #[] 119)).ownsRow (w.heap.size+1) 119 4 (.slice (some ⟨w.heap.size+1,0,none⟩) 0 0) 0 [] by
  have h:=World.ownsRow_lit (base:=w.heap.size+1) (e:=119) (size:=4) (w.alloc zk0) #[] 0 (by simp) (by decide) rfl;simpa using h)
 have N1:=hid n1;have N3:=hid n3;have N4:=hid n4;have HL:=hid hl;have HBB:=hid hB;have H0:=hid h0;have HN:=hid hn;have HI:=hid hi0;have HZ0:=hid hz0;have HZ1:=hid hz1;have HZ2:=hid hz2;clear n1 n2 n3 n4 h hl hB hb bs hi0 hz0 hz1 hz2 h0 hn;go_enter Tryz.func63,Tryz.ntmps63;go_wp2_with (first
  | (at_builtin;refine wpList_append_lies _ rfl (.tmp 3) (.tmp 4) 80 rfl (w.heap.size+1) 119 i0 _ 4 64 Tryz.underlying80 HI.out HZ0.out HZ1.out HZ2.out rfl (by decide) _ 0 [] rfl HO.out ⟨b,o,none⟩ n c cs rfl N1.out N2.out N3.out H0.out (by have:=HN.out;unfold maxLen;omega) (by have:=HN.out;omega) (by simp) _ rfl ?_;intro g cap w1 ho1 hg1 hat hlt;have B1:=hid (((Below.refl (w.heap.size+1) (w.alloc zk0)).alloc (by simp) _).grown hg1 (by simp) (fun k hk=>by cases hk;exact Nat.le_refl _));obtain⟨⟨z0,z1,z2,z3⟩,f0,f1,f2,f3⟩:=Qa4 B1.out;have O1:=hid ho1;have HLT:=hid hlt;clear ho1 hg1 hat hlt)
  | fail)
 have ho:=O1.out;rw[Nat.zero_add,List.nil_append] at ho
 have hg:=(ho.lt g rfl).1;have hcap:n≤cap:=by
  rcases ho.2 with ⟨hv,_⟩|⟨g',cap',cur,hv,_,_,hnc,_⟩
  ·
   cases hv
  ·
   injection hv with _ _ h3
   omega
 refine bodyPost_ret (v:=.agg #[.int .i64 4,.int .u64 0,.slice none 0 0,.slice (some ⟨g,0,none⟩) n cap]) (by simp[results,Tryz.results63,go_sem,z0,z1,z2,z3]) rfl ⟨_,rfl,RdI.mk_list (by decide) hcap (by have:=HN.out;omega) HL.out (by have:=HLT.out;simpa [World.setCell] using this) (N4.out _ _ g 0 ?_ ?_ ?_),?_⟩
 ·
  intro j u hj;have hjn:j<n*4:=by
   rw[← N1.out]
   rcases Nat.lt_or_ge j cs.length with h|h
   ·
    exact h
   ·
    rw[List.getElem?_eq_none h] at hj;cases hj
  rw[Nat.zero_add,World.cell?_setCell_far _ _ _ _ (by show w.heap.size≠g;omega),World.cell?_setCell_far _ _ _ _ (by show w.heap.size≠g;omega),World.cell?_setCell_far _ _ _ _ (by show w.heap.size≠g;omega),World.cell?_setCell_far _ _ _ _ (by show w.heap.size≠g;omega),ho.cellAt j hjn]
  exact hj
 ·
  intro p hp;have hp':p.block<w.heap.size:=Nat.lt_of_lt_of_le hp HBB.out;exact(Qas (zb.trans (B1.out.mono (Nat.le_succ _))) zr).cell hp'
 ·
  have:=HBB.out
  have h2:=B1.out.size;simp[World.setCell] at h2 ⊢;omega
 ·
  exact Qas (zb.trans (B1.out.mono (Nat.le_succ _))) zr
def Q1j(x:Itm):Value:=if Qbd x=false then .iface 212 (.agg #[.int .i64 2]) else if 8<dep x∨4096<par x then .iface 212 (.agg #[.int .i64 32]) else .nilIface
def LsAt(w:World)(B:Nat)(v:Value)(l:List Itm):Prop:=∃ (AL:OA) (cl:Nat),v=.slice AL l.length cl∧l.length≤cl∧l.length≤140737488355328∧(0<l.length→∃ b o,AL=some ⟨b,o,none⟩∧b<B∧RdIs w B b o l)
theorem LsAt.below{w w':World}{B:Nat}{v:Value}{l:List Itm}(h:LsAt w B v l)(hb:Below B w w'):LsAt w' B v l:=by
 obtain⟨AL,cl,e,h1,h2,h3⟩:=h;refine⟨AL,cl,e,h1,h2,fun h0=>?_⟩;obtain⟨b,o,ea,hbb,hr⟩:=h3 h0;exact⟨b,o,ea,hbb,hr.below hbb hb⟩
theorem Qtm(W:World):(sizeOf 119).run Tryz.prog W=.ok 4 W:=by kernel_rfl
theorem Qtl(W:World):(sizeOf 80).run Tryz.prog W=.ok 1 W:=by kernel_rfl
theorem Qm0:(Tryz.prog.info? 80).map (fun i=>(i.zero,i.size,i.bytes))=some (some (.slice none 0 0),1,24):=by kernel_rfl
theorem Qv3{w:World}{B b o c:Nat}{y:Itm}{r:List Itm}(h:RdIs w B b o (y::r))(hb:b<B)(hc:r.length+1≤c)(hn:r.length+1≤140737488355328) :
  ∃ A' c',(∀ W:World,(Instr.slice 80 (.slice (some ⟨b,o,none⟩) (r.length+1) c) (some (.int .i64 1)) none none).run Tryz.prog W=.ok (.slice A' r.length c') W)∧LsAt w B (.slice A' r.length c') r:=by
 have hz:=Qtm;have ht:=Tryz.underlying80;have hr:RdIs w B b (o+4) r:=by rw[RdIs] at h;exact h.2
 generalize hN:r.length=N at *;clear h;by_cases hck:c=1
 ·
  obtain rfl:N=0:=by omega
  refine⟨some ⟨b,o,none⟩,c - 1,fun W=>?_,⟨_,c - 1,by rw[hN],by omega,by omega,fun h=>(by omega)⟩⟩;subst hck;go_simp
 ·
  refine⟨some ⟨b,o+4,none⟩,c - 1,fun W=>?_,⟨_,c - 1,by rw[hN],by omega,by omega,fun _=>⟨b,o+4,rfl,hb,hr⟩⟩⟩;go_simp
  intro h;omega
theorem Qqs{g m cap:Nat}(h:m+1≤cap)(W:World) :
  (Instr.slice 209 (.slice (some ⟨g,0,none⟩) (m+1) cap) none (some (.int .i64 (m:Int))) none).run Tryz.prog W=.ok (.slice (some ⟨g,0,none⟩) m cap) W:=by
 have hz:=Qtl;have ht:=Tryz.underlying209;go_simp
 intro h;omega
theorem Qie{w:World}{base e g cap m:Nat}{cs:List Value}{c:Value}(h:w.ownsRow base e 1 (.slice (some ⟨g,0,none⟩) (m+1) cap) (m+1) (cs++[c])):w.ownsRow base e 1 (.slice (some ⟨g,0,none⟩) m cap) m cs:=by
 have hl:=h.1;rw[List.length_append,List.length_singleton] at hl
 rcases h.2 with ⟨h',_⟩|⟨g',cap',cur,h',hb,hg,hnc,hcm,hcs,htake⟩
 ·
  simp at h'
 ·
  simp only[Value.slice.injEq,Option.some.injEq,Addr.mk.injEq,and_true,true_and] at h';obtain⟨rfl,rfl⟩:=h';refine⟨by omega,.inr ⟨g,cap,cur,rfl,hb,hg,by omega,hcm,hcs,?_⟩⟩;have e:cur.toList.take (m*1)=(cur.toList.take ((m+1)*1)).take (m*1):=by rw[List.take_take];congr 1;omega
  rw[e,htake]
  exact List.take_left' (by omega)
theorem Qa7{w w':World}{base size n:Nat}{e:TypeId}{v:Value}{xs:List Value}(h:w.ownsRow base e size v n xs)(hb:Below w.heap.size w w'):w'.ownsRow base e size v n xs :=
 World.ownsRow.kept h (row:=none) ⟨hb.os,hb.tape,hb.output,hb.size,fun k hk _=>hb.block k hk⟩ (by cases v.ownBlock <;> simp)
theorem Qix{w w':World}{base size n:Nat}{e:TypeId}{v:Value}{xs:List Value}(h:w.ownsRow base e size v n xs)(hg:w.grownBy w' v.ownBlock)(hbase:base≤w.heap.size):Below base w w' :=
 ⟨hg.os,hg.tape,hg.output,hg.size,fun k hk=>hg.block k (by omega) (fun e=>by have:=(World.ownsRow.lt h k e.symm).1;omega)⟩
def Q3h:Value→Nat | .slice _ n _=>n|_=>0
theorem LsAt.first{w:World}{B:Nat}{v:Value}{y:Itm}{r:List Itm}(h:LsAt w B v (y::r)):∃ (b o c:Nat) (c0 c1 c2 c3:Value),v=.slice (some ⟨b,o,none⟩) (r.length+1) c∧r.length+1≤c∧r.length+1≤140737488355328∧b<B∧RdIs w B b o (y::r) ∧
  w.cell? ⟨b,o,none⟩=some c0∧w.cell? ⟨b,o+1,none⟩=some c1∧w.cell? ⟨b,o+2,none⟩=some c2∧w.cell? ⟨b,o+3,none⟩=some c3∧RdI w B (.agg #[c0,c1,c2,c3]) y:=by
 obtain⟨AL,cl,rfl,h1,h2,h3⟩:=h;rw[List.length_cons] at h1 h2 h3
 obtain⟨b,o,rfl,hb,hr⟩:=h3 (by omega);have hr2:=hr;rw[RdIs] at hr
 obtain⟨⟨c0,c1,c2,c3,g0,g1,g2,g3,gx⟩,_⟩:=hr;exact⟨b,o,cl,c0,c1,c2,c3,by rw[List.length_cons],h1,h2,hb,hr2,g0,g1,g2,g3,gx⟩
theorem Qv9(x:Itm)(v:Value)(w:World)(B:Nat)(hp:par x≤1000000)(hB:B≤w.heap.size)(h:RdI w B v x) :
  Calls Tryz.prog 119 #[v] w fun e w'=>e=.returned (Q1j x)∧Below w.heap.size w w':=by
 obtain⟨k,n,d,l⟩:=x;have hx:=h;obtain⟨A,nd,cd,AL,cl,rfl,h1,h2,h3,h4,h5,h7⟩:=h.open;generalize hX:Itm.mk k n d l=x at *;obtain⟨W0,hW0⟩:∃ q,q=(w.alloc (zo1 k n A nd cd AL l.length cl)).alloc (zo1 k n A nd cd AL l.length cl):=⟨_,rfl⟩
 have hz0:W0.heap.size=w.heap.size+2:=by rw[hW0];simp
 have hb0:Below w.heap.size w W0:=by rw[hW0];exact zb.alloc (Qaa _ _) _
 have hls:LsAt W0 (w.heap.size+2) (.slice (some ⟨w.heap.size+1,0,none⟩) 1 1) [x]:=by
  refine⟨_,1,rfl,by simp,by simp,fun _=>⟨w.heap.size+1,0,rfl,by omega,?_⟩⟩;rw[RdIs,RdIs]
  refine⟨⟨_,_,_,_,?_,?_,?_,?_,(hx.below (hb0.mono hB)).more (by omega)⟩,trivial⟩ <;> (rw[hW0];simp)
 have HLS:=hid hls;have HW0:=hid hW0;have HZ0:=hid hz0;have HB0:=hid hb0;have HP:=hid hp;obtain⟨RV,hRV⟩:∃ q,q=Q1j x:=⟨_,rfl⟩
 rw[← hRV]
 have HRV:=hid hRV;have HO:Hid ((W0.alloc (.cells #[.slice (some ⟨w.heap.size+1,0,none⟩) 1 1] 80)).ownsRow (w.heap.size+2) 80 1 (.slice (some ⟨w.heap.size+2,0,none⟩) 1 1) 1 [.slice (some ⟨w.heap.size+1,0,none⟩) 1 1]):=by
  have h:=World.ownsRow_lit (base:=w.heap.size+2) (e:=80) (size:=1) W0 #[.slice (some ⟨w.heap.size+1,0,none⟩) 1 1] 1 (by omega) (by decide) rfl;rw[hz0] at h
  exact h
 clear h hx h1 h4 h7 hls hz0 hb0 hRV hp hB hW0;generalize l.length=N at *;obtain⟨i0,hi0,hz0,hz1,hz2⟩:=info_parts Qm0;have HI:=hid hi0;have HI0:=hid hz0;have HI1:=hid hz1;have HI2:=hid hz2;clear hi0 hz0 hz1 hz2;go_enter Tryz.func119,Tryz.ntmps119;go_wp2_with fail;go_loopw [3,4,5] (fun ov pv dv wr=>∃ (g cap p D:Nat) (ps:List (Value×List Itm)),ov=.slice (some ⟨g,0,none⟩) ps.length cap∧pv=.int .i64 (p:Int)∧dv=.int .i64 (D:Int) ∧
   Hid (wr.ownsRow (w.heap.size+2) 80 1 (.slice (some ⟨g,0,none⟩) ps.length cap) ps.length (ps.map (·.1)))∧Hid (∀ q∈ps,LsAt W0 (w.heap.size+2) q.1 q.2)∧Hid (ChkSt x (ps.map (·.2)) p D)∧Hid (Below (w.heap.size+2) W0 wr))
  (fun ov pv _ _=>2*(par x - (intOf pv).toNat)+Q3h ov)
 case atStart =>
  refine⟨w.heap.size+2,1,0,0,[(.slice (some ⟨w.heap.size+1,0,none⟩) 1 1,[x])],rfl,rfl,rfl,?_,?_,ChkSt.start x,?_⟩
  ·
   have:=HO.out
   rw[HW0.out] at this
   exact this
  ·
   intro q hq;simp at hq;subst hq;exact HLS.out
  ·
   show Below _ _ _;rw[← HW0.out]
   exact(Below.refl _ _).alloc (by rw[HZ0.out];exact Nat.le_refl _) _
 case round =>
  obtain⟨g,cap,p,D,ps,rfl,rfl,rfl,hown,hls,hst,hbel⟩:=hrel;rcases List.eq_nil_or_concat ps with rfl|⟨a,⟨c,t⟩,hps⟩
  ·
   obtain⟨e1,e2,e3⟩:=(show ChkSt x [] p D from hst.out).done;have hrv:=HRV.out;have HB1:=hid (HB0.out.trans (hbel.out.mono (Nat.le_add_right _ 2)));unfold Q1j at hrv;rw[if_neg (by rw[e1];decide),e2,e3] at hrv
   clear e1 e2 e3;by_cases hd8:8<D
   ·
    have hdi:decide ((8:Int)<(D:Int))=true:=decide_eq_true (by omega);rw[if_pos (.inl hd8)] at hrv
    subst hrv;go_wp2_with fail;go_ret;exact⟨rfl,HB1.out⟩
   ·
    have hdi:decide ((8:Int)<(D:Int))=false:=decide_eq_false (by omega);by_cases hp4:4096<p
    ·
     have hpi:decide ((4096:Int)<(p:Int))=true:=decide_eq_true (by omega);rw[if_pos (.inr hp4)] at hrv
     subst hrv;go_wp2_with fail;go_ret;exact⟨rfl,HB1.out⟩
    ·
     have hpi:decide ((4096:Int)<(p:Int))=false:=decide_eq_false (by omega);rw[if_neg (by omega)] at hrv
     subst hrv;go_wp2_with fail;go_ret;exact⟨rfl,HB1.out⟩
  ·
   rw[List.concat_eq_append] at hps
   subst hps;have hown2:=hown.out;rw[List.length_append,List.length_singleton,List.map_append,List.map_singleton] at hown2
   have hst2:=hst.out;rw[List.map_append,List.map_singleton] at hst2
   have hst3:ChkSt x (a.map (·.2)++[t]) p D:=hst2;have hmb:a.length≤1000000∧p≤1000000∧D≤1000000:=by
    have q1:=hst3.lp;have q2:=hst3.pr;have q3:=hst3.dp;have q4:=HP.out;have q5:=Qvz x;rw[List.length_append,List.length_map,List.length_singleton] at q1
    omega
   obtain⟨hm6,hp6,hd6⟩:=hmb;have hlt:LsAt W0 (w.heap.size+2) c t:=hls.out (c,t) (by simp);have hla:∀ q∈a,LsAt W0 (w.heap.size+2) q.1 q.2:=fun q hq=>hls.out q (by simp[hq])
   have hcell:wr.cell? ⟨g,a.length,none⟩=some c:=by
    rw[World.ownsRow.cellAt hown2 a.length (by omega),List.getElem?_append_right (by simp)]
    simp
   have hcap:a.length+1≤cap∧cap≤maxLen:=by
    rcases hown2.2 with ⟨h',_⟩|⟨g',cap',cur,h',_,_,hnc,hcm,_⟩
    ·
     cases h'
    ·
     injection h' with _ _ h3
     omega
   rw[List.length_append,List.length_singleton]
   have HLA:=hid hla;have HOWN:=hid (show wr.ownsRow (w.heap.size+2) 80 1 (.slice (some ⟨g,0,none⟩) (a.length+1) cap) (a.length+1) (a.map (·.1)++[c]) from hown2);have HST:=hid hst3;have HLT:=hid hlt;have hcut:=Qqs (g:=g) hcap.1;clear hown hls hst hown2 hst2 hst3 hlt hla;cases t with
   | nil =>
    obtain⟨AL0,cl0,hc,-,-,-⟩:=HLT.out;subst hc;generalize hM:a.length=m at *;have HM:=hid hM;clear hM;go_wp2_with fail;go_roundw
    case rel=>exact⟨g,cap,p,D,a,by rw[HM.out],rfl,rfl,by show World.ownsRow _ _ _ _ _ _ _;rw[HM.out];exact Qie HOWN.out,HLA.out,HST.out.pop,hbel.out⟩
    case measure=>simp[intOf,Q3h]
   | cons y r =>
    obtain⟨b,o,cc,c0,c1,c2,c3,hc,hn1,hn2,hb,hr,g0,g1,g2,g3,gx⟩:=HLT.out.first;subst hc;obtain⟨A',c',hrun,hls'⟩:=Qv3 hr hb hn1 hn2;obtain⟨k1,n1,d1,l1⟩:=y;obtain⟨A1,nd1,cd1,AL1,cl1,hy,k1w,n1w,hd1,hrd1,hl1,h71⟩:=gx.open;injection hy with hy
    simp only[Array.mk.injEq,List.cons.injEq,and_true] at hy;obtain⟨rfl,rfl,rfl,rfl⟩:=hy;have e0:wr.cell? ⟨b,o,none⟩=some (.int .i64 k1):=(hbel.out.cell (p:=⟨b,o,none⟩) hb).trans g0;have e1:wr.cell? ⟨b,o+1,none⟩=some (.int .u64 (n1:Int)):=(hbel.out.cell (p:=⟨b,o+1,none⟩) hb).trans g1;have e2:wr.cell? ⟨b,o+2,none⟩=some (.slice A1 nd1 cd1):=(hbel.out.cell (p:=⟨b,o+2,none⟩) hb).trans g2;have e3:wr.cell? ⟨b,o+3,none⟩=some (.slice AL1 l1.length cl1):=(hbel.out.cell (p:=⟨b,o+3,none⟩) hb).trans g3;have hfz:wr.frozen? ⟨g,a.length,none⟩=false:=World.ownsRow.frozenAt HOWN.out _;obtain⟨hgb,hgl⟩:=World.ownsRow.lt HOWN.out g rfl
    have HGB:=hid hgb;have HGL:=hid hgl;have HLS':=hid hls';have HGX:=hid gx;have HRD1:=hid hrd1;have HD1:=hid hd1.2;have HL1:=hid (show LsAt W0 (w.heap.size+2) (.slice AL1 l1.length cl1) l1 from⟨AL1,cl1,rfl,hl1.1,hl1.2,h71⟩);have HBLT:=hid hb;clear hr hls' gx hrd1 hd1 hl1 h71 g0 g1 g2 g3 hb hgb hgl;generalize hM:a.length=m at *;generalize hR:r.length=rn at *;generalize hLn:l1.length=ln at *;have HM:=hid hM;have HR:=hid hR;have HLN:=hid hLn;clear hM hR hLn;have hcA:(wr.alloc (zo1 k1 n1 A1 nd1 cd1 AL1 ln cl1)).cell? ⟨g,m,none⟩=some (.slice (some ⟨b,o,none⟩) (rn+1) cc):=by
     rw[World.cell?_alloc_lt _ _ _ HGL.out];exact hcell
    have hfA:(wr.alloc (zo1 k1 n1 A1 nd1 cd1 AL1 ln cl1)).frozen? ⟨g,m,none⟩=false:=by
     exact((Below.refl wr.heap.size wr).alloc zr _).frozen HGL.out |>.trans hfz
    have hb1:Below (w.heap.size+2) W0 ((wr.alloc (zo1 k1 n1 A1 nd1 cd1 AL1 ln cl1)).setCell ⟨g,m,none⟩ (.slice A' rn c')) :=
     (hbel.out.alloc (Nat.le_trans HGB.out (Nat.le_of_lt HGL.out)) _).setCell (p:=⟨g,m,none⟩) HGB.out _
    have hz1:((wr.alloc (zo1 k1 n1 A1 nd1 cd1 AL1 ln cl1)).setCell ⟨g,m,none⟩ (.slice A' rn c')).heap.size=wr.heap.size+1:=by simp[World.setCell]
    have ho1:((wr.alloc (zo1 k1 n1 A1 nd1 cd1 AL1 ln cl1)).setCell ⟨g,m,none⟩ (.slice A' rn c')).ownsRow (w.heap.size+2) 80 1 (.slice (some ⟨g,0,none⟩) (m+1) cap) (m+1) (a.map (·.1)++[.slice A' rn c']):=by
     have h:=(World.ownsRow.stored (World.ownsRow.alloc HOWN.out (zo1 k1 n1 A1 nd1 cd1 AL1 ln cl1)) m (.slice A' rn c')).1;rw[List.set_append_right _ _ (by rw[List.length_map,HM.out];exact Nat.le_refl _),List.length_map,HM.out,Nat.sub_self] at h
     exact h
    obtain⟨q0,q1,q2,q3⟩:((wr.alloc (zo1 k1 n1 A1 nd1 cd1 AL1 ln cl1)).setCell ⟨g,m,none⟩ (.slice A' rn c')).cell? ⟨wr.heap.size,0,none⟩=some (.int .i64 k1) ∧
      ((wr.alloc (zo1 k1 n1 A1 nd1 cd1 AL1 ln cl1)).setCell ⟨g,m,none⟩ (.slice A' rn c')).cell? ⟨wr.heap.size,1,none⟩=some (.int .u64 (n1:Int)) ∧
      ((wr.alloc (zo1 k1 n1 A1 nd1 cd1 AL1 ln cl1)).setCell ⟨g,m,none⟩ (.slice A' rn c')).cell? ⟨wr.heap.size,2,none⟩=some (.slice A1 nd1 cd1) ∧
      ((wr.alloc (zo1 k1 n1 A1 nd1 cd1 AL1 ln cl1)).setCell ⟨g,m,none⟩ (.slice A' rn c')).cell? ⟨wr.heap.size,3,none⟩=some (.slice AL1 ln cl1):=by
     have hne:g≠wr.heap.size:=Nat.ne_of_lt HGL.out;refine⟨?_,?_,?_,?_⟩ <;> (rw[World.cell?_setCell_far _ _ _ _ hne];simp)
    have HB1:=hid hb1;have HZ1:=hid hz1;have HO1:=hid ho1;clear hb1 hz1 ho1 hcut;have C1:=hid (fun W (hb:Below (w.heap.size+2) W0 W)=>Qwa k1 n1 nd1 cd1 ln cl1 (w.heap.size+2) A1 AL1 d1 l1 W (by have:=hb.size;have:=HZ0.out;omega) (HRD1.out.below hb) HD1.out HLN.out);go_wp2_with fail;refine(C1.out _ HB1.out).mono ?_;rintro e w1 ⟨rfl,hb2⟩;have HO2:=hid (Qa7 HO1.out hb2);rw[HZ1.out] at hb2
    have hz2:w.heap.size+2≤wr.heap.size:=Nat.le_trans HGB.out (Nat.le_of_lt HGL.out);have HB2:=hid (HB1.out.trans (hb2.mono (Nat.le_succ_of_le hz2)));have HF2:=hid hb2;have hr4:w1.cell? ⟨wr.heap.size,0,none⟩=some (.int .i64 k1)∧w1.cell? ⟨wr.heap.size,1,none⟩=some (.int .u64 (n1:Int))∧w1.cell? ⟨wr.heap.size,2,none⟩=some (.slice A1 nd1 cd1)∧w1.cell? ⟨wr.heap.size,3,none⟩=some (.slice AL1 ln cl1) :=
     ⟨(hb2.cell (p:=⟨wr.heap.size,0,none⟩) (Nat.lt_succ_self _)).trans q0,(hb2.cell (p:=⟨wr.heap.size,1,none⟩) (Nat.lt_succ_self _)).trans q1,(hb2.cell (p:=⟨wr.heap.size,2,none⟩) (Nat.lt_succ_self _)).trans q2,(hb2.cell (p:=⟨wr.heap.size,3,none⟩) (Nat.lt_succ_self _)).trans q3⟩
    obtain⟨r0,r1,r2,r3⟩:=hr4;clear q0 q1 q2 q3 hb2 hz2 e0 e1 e2 e3 hcA hfA hcell hfz;rcases ho:own k1 n1 d1 l1 with _|_
    ·
     have hbad:=HST.out.bad ho;have hrv:=HRV.out;unfold Q1j at hrv;rw[if_pos hbad] at hrv
     subst hrv;have HB3:=hid (HB0.out.trans (HB2.out.mono (Nat.le_add_right _ 2)));clear ho hbad;go_wp2_with fail;go_ret;exact⟨rfl,HB3.out⟩
    ·
     have HOW:=hid ho;clear ho;have C2:=hid (fun W=>Qsm k1 n1 (.slice A1 nd1 cd1) (.slice AL1 ln cl1) W rfl rfl);go_wp2_with fail;refine(C2.out _).mono ?_;rintro e w2 ⟨rfl,hb3⟩;have HO3:=hid (Qa7 HO2.out hb3);have hz3:wr.heap.size+1≤w1.heap.size:=by have:=HF2.out.size;rw[HZ1.out] at this;exact this
     have hb4:=hb3.mono hz3;have HB4:=hid (HB2.out.trans (hb3.mono (Nat.le_trans (Nat.le_succ_of_le (Nat.le_trans HGB.out (Nat.le_of_lt HGL.out))) hz3)));have hz4:=HB4.out.size;have HZ4:=hid (show w.heap.size+2≤w2.heap.size by have:=HZ0.out;omega);have s3:=(hb4.cell (p:=⟨wr.heap.size,3,none⟩) (Nat.lt_succ_self _)).trans r3;clear hb3 hz3 hb4 hz4 r0 r1 r2 r3;by_cases hk:k1=4∨k1=5
     ·
      have hkd:decide (k1=4∨k1=5)=true:=decide_eq_true hk;have HST2:=hid (HST.out.arr HOW.out hk);have hmx:max (D:Int) ((m:Int)+1)=((max D (m+1):Nat):Int):=by omega
      clear hk;have hmm:a.length=m:=HM.out;go_wp2_with (first
       | (at_builtin;refine wpList_append_lies _ rfl (.tmp 49) (.tmp 52) 209 rfl (w.heap.size+2) 80 i0 _ 1 24 Tryz.underlying209 HI.out HI0.out HI1.out HI2.out rfl (by decide) _ (m+1) (a.map (·.1)++[.slice A' rn c']) rfl (World.ownsRow.alloc HO3.out _) ⟨w2.heap.size,0,none⟩ 1 1 [.slice AL1 ln cl1] rfl rfl (by intro j u hj;cases j with|zero=>cases hj;simp[Addr.add]|succ j=>simp at hj) (by intro u hu;simp at hu;subst hu;rfl) (by decide) (by unfold maxLen;omega) (by omega) (Nat.le_trans HZ4.out (Qaa _ _)) _ rfl ?_;intro g2 cap2 w3 ho3 hg3 hat hlt;have HO4:=hid ho3;have HB5:=hid (Qix (World.ownsRow.alloc HO3.out _) hg3 (Nat.le_trans HZ4.out (Qaa _ _)));clear ho3 hg3 hat hlt)
       | fail)
      go_roundw
      case rel =>
       refine⟨g2,cap2,p+1,max D (m+1),a++[(.slice A' rn c',r)]++[(.slice AL1 ln cl1,l1)],?_,by go_num,rfl,?_,?_,?_,?_⟩
       ·
        rw[List.length_append,List.length_append,HM.out];rfl
       ·
        show World.ownsRow _ _ _ _ _ _ _;rw[List.length_append,List.length_append,List.map_append,List.map_append,HM.out]
        exact HO4.out
       ·
        intro q hq;rcases List.mem_append.1 hq with hq|hq
        ·
         rcases List.mem_append.1 hq with hq|hq
         ·
          exact HLA.out q hq
         ·
          simp at hq;subst hq;exact HLS'.out
        ·
         simp at hq;subst hq;exact HL1.out
       ·
        have:=HST2.out
        rw[List.length_map,HM.out] at this
        show ChkSt _ _ _ _;rw[List.map_append,List.map_append]
        exact this
       ·
        exact(HB4.out.alloc HZ4.out _).trans HB5.out
      case measure =>
       have:=HST.out.left
       simp[intOf,Q3h];omega
     ·
      have hkd:decide (k1=4∨k1=5)=false:=decide_eq_false hk;have HST2:=hid (HST.out.flat HOW.out hk);clear hk;go_wp2_with fail;go_roundw
      case rel =>
       refine⟨g,cap,p+1,D,a++[(.slice A' rn c',r)],?_,by go_num,rfl,?_,?_,?_,HB4.out⟩
       ·
        rw[List.length_append,HM.out];rfl
       ·
        show World.ownsRow _ _ _ _ _ _ _;rw[List.length_append,List.map_append,HM.out]
        exact HO3.out
       ·
        intro q hq;rcases List.mem_append.1 hq with hq|hq
        ·
         exact HLA.out q hq
        ·
         simp at hq;subst hq;exact HLS'.out
       ·
        rw[List.map_append];exact HST2.out
      case measure =>
       have:=HST.out.left
       simp[intOf,Q3h];omega
end Go.Proofs.YtbnfkjkoinbkgaaGreatDoor
