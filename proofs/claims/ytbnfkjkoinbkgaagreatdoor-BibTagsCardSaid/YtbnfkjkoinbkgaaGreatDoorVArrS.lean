import Derived.Test.YtbnfkjkoinbkgaaGreatDoorVAbb
import Derived.Test.YtbnfkjkoinbkgaaGreatDoorVCborR
import Derived.Test.YtbnfkjkoinbkgaaGreatDoorVKCheck
import Derived.Test.YtbnfkjkoinbkgaaGreatDoorVKDec2
import Derived.Test.YtbnfkjkoinbkgaaGreatDoorVKHead
import Derived.Test.YtbnfkjkoinbkgaaGreatDoorVNumG
import Derived.Test.YtbnfkjkoinbkgaaGreatDoorVSame
import Derived.Test.YtbnfkjkoinbkgaaGreatDoorVShaP
import Derived.Test.YtbnfkjkoinbkgaaGreatDoorRows
import Derived.Below
import Derived.BigCall
import Derived.BigGuard
import Derived.BigGuardPart
import Derived.BigQuiet
import Derived.Deep.AppendLies
import Derived.Deep.DeepCutAuto
import Derived.Deep.DeepFit
import Derived.Deep.Draws
import Derived.Deep.OwnRows
import Derived.Deep.QuietTactic
import Derived.Deep.RegionHeld3
import Derived.Laws.AppendOwn
import Derived.Laws.BitsAllLaws
import Derived.Laws.BytesArg
import Derived.Laws.IdiomStrings
import Derived.Laws.NewBlocks
import Derived.Laws.OwnMore
import Derived.Laws.Strings3
import Derived.Lib.EndianBits
import Derived.Lib.HexFns
import Derived.Lib.Hide
import Derived.Lib.ItoaNum
import Derived.Lib.SlBytesConst
import Derived.Lib.Strings
import Derived.Lib.Walk
import Derived.Maps.AppendAt
import Derived.Outline
import Derived.OwnWalk
import Derived.RegionTactic
import Derived.WalkKit
import Derived.WalkLawsBesides
section
namespace Go.Proofs.YtbnfkjkoinbkgaaGreatDoor
set_option maxRecDepth 100000
set_option maxHeartbeats 16000000
open Go.RowKit
end Go.Proofs.YtbnfkjkoinbkgaaGreatDoor
end
section
namespace Go.Proofs.YtbnfkjkoinbkgaaGreatDoor
set_option maxRecDepth 100000
set_option maxHeartbeats 16000000
open Go.RowKit
end Go.Proofs.YtbnfkjkoinbkgaaGreatDoor
end
section
namespace Go.Proofs.YtbnfkjkoinbkgaaGreatDoor
set_option maxRecDepth 100000
set_option maxHeartbeats 16000000
end Go.Proofs.YtbnfkjkoinbkgaaGreatDoor
end
section
namespace Go.Proofs.YtbnfkjkoinbkgaaGreatDoor
set_option maxRecDepth 100000
set_option maxHeartbeats 16000000
open Go.RowKit
end Go.Proofs.YtbnfkjkoinbkgaaGreatDoor
end
section
namespace Go.Proofs.YtbnfkjkoinbkgaaGreatDoor
set_option maxRecDepth 100000
set_option maxHeartbeats 16000000
open Go.RowKit
section
variable {w:World}{g n c i p d:Nat}{A:OA}{bs:LB}
end
end Go.Proofs.YtbnfkjkoinbkgaaGreatDoor
end
section
namespace Go.Proofs.YtbnfkjkoinbkgaaGreatDoor
set_option maxRecDepth 100000
set_option maxHeartbeats 16000000
open Go.RowKit
theorem RdIs.cells{w:World}{B b:Nat}:∀ {l:List Itm} {o:Nat},RdIs w B b o l→∃ cs:List Value,ItC w B cs l∧(∀ j u,cs[j]?=some u→w.cell? ⟨b,o+j,none⟩=some u)∧(∀ u∈cs,u.oneCell'=true)
 | [],o,_=>⟨[],trivial,fun j u h=>(by simp at h),fun u h=>(by cases h)⟩
 | x::r,o,h=>by
  rw[RdIs] at h
  obtain⟨⟨c0,c1,c2,c3,g0,g1,g2,g3,gx⟩,hr⟩:=h;obtain⟨cs,h1,h2,h3⟩:=RdIs.cells hr;obtain⟨k,n,A,nd,cd,AL,nl,cl,e⟩:=gx.form;have hone:c0.oneCell'=true∧c1.oneCell'=true∧c2.oneCell'=true∧c3.oneCell'=true:=by
   injection e with e
   simp only[Array.mk.injEq,List.cons.injEq,and_true] at e;obtain⟨rfl,rfl,rfl,rfl⟩:=e;exact⟨rfl,rfl,rfl,rfl⟩
  refine⟨c0::c1::c2::c3::cs,⟨gx,h1⟩,?_,?_⟩
  ·
   intro j u hj;match j with
   | 0=>cases hj;exact g0
   | 1=>cases hj;exact g1
   | 2=>cases hj;exact g2
   | 3=>cases hj;exact g3
   | j+4 =>
    have:=h2 j u (by simpa using hj)
    rw[show o+(j+4)=o+4+j by omega]
    exact this
  ·
   intro u hu;simp only[List.mem_cons] at hu;rcases hu with rfl|rfl|rfl|rfl|hu
   ·
    exact hone.1
   ·
    exact hone.2.1
   ·
    exact hone.2.2.1
   ·
    exact hone.2.2.2
   ·
    exact h3 u hu
def but(g r:Nat)(k:Nat):Bool:=k==g||k==r
theorem Qlq{P:Program}{w:World}{ops:Array Oper}{rest:List Oper}{o:Oper}{a:Act}{Q:Exit→Act→World→Prop}(hgd:o.guard=none)(s x:Operand)(t:TypeId)
  (ho:o.op=.call { callee:=.builtin .append,args:=#[s,x],argTypes:=#[t,t] }) (v1 v2 v:Value) (hs:a.eval s=v1) (hx:a.eval x=v2)
  (hr:(Builtin.append_ #[t,t] o.type #[v1,v2]).run P w=.ok v w) (h:wpList P ops Q rest (a.put o.dst v) w):wpList P ops Q (o::rest) a w:=by
 refine wpList_plain hgd fun K hK=>?_
 unfold Oper.wp execOp;simp only[ho,resolve,invoke,builtin,Sem.run_bind,Sem.run_pure,Result.andThen_ok,List.map_toArray,List.map_cons,List.map_nil,hs,hx,hr];exact hK _ _ h
theorem Qsl(A:OA)(c:Nat)(w:World) :
  Calls Tryz.prog 160 #[.slice A 0 c] w fun e w'=>e=.returned (.slice none 0 0)∧w=w':=by
 obtain⟨i0,hi0,hz0,hz1,hz2⟩:=info_parts Qbr;have hu:=Tryz.underlying80;have hr:(Builtin.append_ #[80,80] 80 #[.slice none 0 0,.slice A 0 c]).run Tryz.prog w=.ok (.slice none 0 0) w:=by
  rcases A with _|a
  ·
   simp[Builtin.append_,run_underlying hu,sizeOf,typeInfo,hi0,Builtin.lenOf,Builtin.firstCells]
  ·
   have hlc:(loadCells a 0).run Tryz.prog w=.ok #[] w:=by
    have:=run_loadCells_list (P:=Tryz.prog) w a [] (fun j v hj=>by simp at hj)
    simpa using this
   simp[Builtin.append_,run_underlying hu,sizeOf,typeInfo,hi0,Builtin.lenOf,Builtin.firstCells,hlc]
 have HR:=Lib.hid hr;clear hi0 hz0 hz1 hz2 hu hr;go_enter Tryz.func160,Tryz.ntmps160;go_wp2_with (first
  | (at_builtin;refine Qlq rfl (.const (.slice none 0 0)) (.tmp 3) 80 rfl _ _ _ rfl rfl HR.out ?_)
  | fail)
 go_ret;exact⟨rfl,rfl⟩
structure ClSt (r:Nat) (w wr:World) (g cap n gw:Nat) (l:List Itm) (cs:List Value):Prop where
 own:wr.ownsRow w.heap.size 119 4 (.slice (some ⟨g,0,none⟩) n cap) n cs
 its:ItC (Qap (but g r) wr) wr.heap.size cs l
 bel:Below w.heap.size w wr
 hw:wr.cell? ⟨gw,0,none⟩=some (.slice (some ⟨g,0,none⟩) n cap)
 ne:gw≠g
end Go.Proofs.YtbnfkjkoinbkgaaGreatDoor
end
section
namespace Go.Proofs.YtbnfkjkoinbkgaaGreatDoor
set_option maxRecDepth 100000
set_option maxHeartbeats 16000000
open Go.RowKit
section
variable {w wr w1:World}{r g cap n gw:Nat}{l:List Itm}{cs:List Value}
theorem ClSt.lt(h:ClSt r w wr g cap n gw l cs):w.heap.size≤g∧g<wr.heap.size:=World.ownsRow.lt h.own g rfl
end
end Go.Proofs.YtbnfkjkoinbkgaaGreatDoor
end
section
namespace Go.Proofs.YtbnfkjkoinbkgaaGreatDoor
set_option maxRecDepth 100000
set_option maxHeartbeats 16000000
open Go.RowKit
structure Put (W W':World) (B B' g q:Nat) (kk:Int) (m:Nat) (A:OA) (nd cd:Nat) (AL:OA) (nl cl:Nat) (A8:OA) (c8:Nat) (AL8:OA) (cl8:Nat):Prop where
 k0:W.cell? ⟨g,q,none⟩=some (.int .i64 kk)
 k1:W.cell? ⟨g,q+1,none⟩=some (.int .u64 (m:Int))
 k2:W.cell? ⟨g,q+2,none⟩=some (.slice A nd cd)
 k3:W.cell? ⟨g,q+3,none⟩=some (.slice AL nl cl)
 keep:∀ p u,W.cell? p=some u→p≠⟨g,q+2,none⟩→p≠⟨g,q+3,none⟩→W'.cell? p=some u
 n2:W'.cell? ⟨g,q+2,none⟩=some (.slice A8 nd c8)
 n3:W'.cell? ⟨g,q+3,none⟩=some (.slice AL8 nl cl8)
 hB:B≤B'
 h8:nd≤c8
 data:∀ d,Rd W B A nd d→Rd W' B' A8 nd d
 h9:nl≤cl8
 lst:0<nl→∀ b o,AL=some ⟨b,o,none⟩→∃ g9,AL8=some ⟨g9,0,none⟩∧g9<B'∧∀ j u,j<nl*4→W.cell? ⟨b,o+j,none⟩=some u→W'.cell? ⟨g9,0+j,none⟩=some u
end Go.Proofs.YtbnfkjkoinbkgaaGreatDoor
end
section
namespace Go.Proofs.YtbnfkjkoinbkgaaGreatDoor
set_option maxRecDepth 100000
set_option maxHeartbeats 16000000
open Go.RowKit
section
variable {W W':World}{B B' g q:Nat}{kk:Int}{m:Nat}{A:OA}{nd cd:Nat}{AL:OA}{nl cl:Nat}{A8:OA}{c8:Nat}{AL8:OA}{cl8:Nat}
theorem Put.int(h:Put W W' B B' g q kk m A nd cd AL nl cl A8 c8 AL8 cl8){p:Addr}{k:IntKind}{z:Int}(hc:W.cell? p=some (.int k z)):W'.cell? p=some (.int k z):=by
 refine h.keep p _ hc (fun e=>?_) (fun e=>?_)
 ·
  rw[e,h.k2] at hc;cases hc
 ·
  rw[e,h.k3] at hc;cases hc
theorem Put.bytes(h:Put W W' B B' g q kk m A nd cd AL nl cl A8 c8 AL8 cl8){A1:OA}{n:Nat}{d:LB}(hr:Rd W B A1 n d):Rd W' B' A1 n d :=
 ⟨hr.1,fun hn=>by
  obtain⟨b,o,e,hb,hc⟩:=hr.2 hn;exact⟨b,o,e,Nat.lt_of_lt_of_le hb h.hB,fun i hi=>h.int (hc i hi)⟩⟩
theorem Put.apart(h:Put W W' B B' g q kk m A nd cd AL nl cl A8 c8 AL8 cl8){b o:Nat}{k1:Int}{n1:Nat}{v2 v3:Value}(_g0:W.cell? ⟨b,o,none⟩=some (.int .i64 k1))(g1:W.cell? ⟨b,o+1,none⟩=some (.int .u64 (n1:Int)))(g2:W.cell? ⟨b,o+2,none⟩=some v2)(g3:W.cell? ⟨b,o+3,none⟩=some v3)
  (hne:¬ (b=g∧o=q)):W'.cell? ⟨b,o+2,none⟩=some v2∧W'.cell? ⟨b,o+3,none⟩=some v3:=by
 refine⟨h.keep _ _ g2 (fun e=>?_) (fun e=>?_),h.keep _ _ g3 (fun e=>?_) (fun e=>?_)⟩ <;> (injection e with e1 e2)
 ·
  exact hne ⟨e1,by omega⟩
 ·
  subst e1;rw[show o+1=q+2 by omega,h.k2] at g1
  cases g1
 ·
  subst e1;rw[show o+1=q by omega,h.k0] at g1
  cases g1
 ·
  exact hne ⟨e1,by omega⟩
mutual
theorem Put.item(h:Put W W' B B' g q kk m A nd cd AL nl cl A8 c8 AL8 cl8):∀ {x:Itm} {v:Value},RdI W B v x→RdI W' B' v x
 | .mk k n d l,v,hr=>by
  rw[RdI] at hr ⊢
  obtain⟨A1,nd1,cd1,AL1,nl1,cl1,e,h1,h2,h3,h4,h5,h6,h7⟩:=hr;refine⟨A1,nd1,cd1,AL1,nl1,cl1,e,h1,h2,h3,h.bytes h4,h5,h6,fun h0=>?_⟩;obtain⟨b,o,ea,hb,hs⟩:=h7 h0;exact⟨b,o,ea,Nat.lt_of_lt_of_le hb h.hB,Put.items h hs⟩
theorem Put.items(h:Put W W' B B' g q kk m A nd cd AL nl cl A8 c8 AL8 cl8):∀ {l:List Itm} {b o:Nat},RdIs W B b o l→RdIs W' B' b o l
 | [],b,o,_=>by rw[RdIs];trivial
 | x::r,b,o,hr=>by
  rw[RdIs] at hr ⊢
  obtain⟨⟨c0,c1,c2,c3,g0,g1,g2,g3,gx⟩,hr⟩:=hr;refine⟨?_,Put.items h hr⟩;obtain⟨k1,n1,A1,nd1,cd1,AL1,nl1,cl1,e⟩:=gx.form;injection e with e
  simp only[Array.mk.injEq,List.cons.injEq,and_true] at e;obtain⟨rfl,rfl,rfl,rfl⟩:=e;by_cases hq:b=g∧o=q
  ·
   obtain⟨eb,eo⟩:=hq;have eb:=eb.symm;have eo:=eo.symm;subst eb eo;have e0:=Option.some.inj (g0.symm.trans h.k0);have e1:=Option.some.inj (g1.symm.trans h.k1);have e2:=Option.some.inj (g2.symm.trans h.k2);have e3:=Option.some.inj (g3.symm.trans h.k3);rw[e0,e1,e2,e3] at gx
   exact⟨_,_,_,_,h.int h.k0,h.int h.k1,h.n2,h.n3,Put.again h gx⟩
  ·
   obtain⟨p2,p3⟩:=h.apart g0 g1 g2 g3 hq;exact⟨_,_,_,_,h.int g0,h.int g1,p2,p3,Put.item h gx⟩
theorem Put.again(h:Put W W' B B' g q kk m A nd cd AL nl cl A8 c8 AL8 cl8):∀ {x:Itm},RdI W B (zv6 kk m A nd cd AL nl cl) x→RdI W' B' (zv6 kk m A8 nd c8 AL8 nl cl8) x
 | .mk k n d l,hr=>by
  rw[RdI] at hr ⊢
  obtain⟨A1,nd1,cd1,AL1,nl1,cl1,e,h1,h2,h3,h4,h5,h6,h7⟩:=hr;injection e with e
  simp only[Array.mk.injEq,List.cons.injEq,Value.int.injEq,Value.slice.injEq,and_true,true_and] at e;obtain⟨ek,em,⟨ea,en,ec⟩,el,enl,ecl⟩:=e;subst ek ea en ec el enl ecl;refine⟨A8,nd,c8,AL8,nl,cl8,by rw[em],h1,h2,⟨h.h8,h3.2⟩,h.data d h4,⟨h.h9,h5.2⟩,h6,fun h0=>?_⟩;obtain⟨b,o,eAL,hb,hs⟩:=h7 h0;obtain⟨g9,e9,hg9,hc⟩:=h.lst h0 b o eAL;exact⟨g9,0,e9,hg9,Put.copy h hs (fun j u hj hu=>hc j u (by omega) hu)⟩
theorem Put.copy(h:Put W W' B B' g q kk m A nd cd AL nl cl A8 c8 AL8 cl8):∀ {l:List Itm} {b o g9 o9:Nat},RdIs W B b o l→(∀ j u,j<l.length*4→W.cell? ⟨b,o+j,none⟩=some u→W'.cell? ⟨g9,o9+j,none⟩=some u)→RdIs W' B' g9 o9 l
 | [],_,_,_,_,_,_=>by rw[RdIs];trivial
 | x::r,b,o,g9,o9,hr,hc=>by
  rw[RdIs] at hr ⊢
  obtain⟨⟨c0,c1,c2,c3,q0,q1,q2,q3,gx⟩,hr⟩:=hr;have hlen:(x::r).length*4=r.length*4+4:=by rw[List.length_cons];omega
  refine⟨⟨c0,c1,c2,c3,hc 0 _ (by omega) q0,hc 1 _ (by omega) q1,hc 2 _ (by omega) q2,hc 3 _ (by omega) q3,Put.item h gx⟩,Put.copy h hr (fun j u hj hu=>?_)⟩;have:=hc (4+j) u (by omega) (by rw[← Nat.add_assoc];exact hu)
  rw[← Nat.add_assoc] at this
  exact this
end
end
end Go.Proofs.YtbnfkjkoinbkgaaGreatDoor
end
section
namespace Go.Proofs.YtbnfkjkoinbkgaaGreatDoor
set_option maxRecDepth 100000
set_option maxHeartbeats 16000000
open Go.RowKit
theorem Rd.uniq{W:World}{B B' n:Nat}{A:OA}{d d':LB}(h:Rd W B A n d)(h':Rd W B' A n d'):d=d':=by
 refine List.ext_getElem (by rw[h.1,h'.1]) (fun i hi hi'=>?_);have hn:i<n:=by have:=h.1;omega
 obtain⟨b,o,e,_,hc⟩:=h.2 (by omega);obtain⟨b',o',e',_,hc'⟩:=h'.2 (by omega);rw[e] at e'
 injection e' with e'
 injection e' with e1 e2
 subst e1 e2;have:=(hc i hn).symm.trans (hc' i hn)
 simp only[Option.some.injEq,Value.int.injEq,true_and] at this;simp only[List.getD,List.getElem?_eq_getElem hi,List.getElem?_eq_getElem hi',Option.getD_some] at this;exact UInt8.toNat_inj.1 (by omega)
theorem Qes{P:Nat→Prop}(h:∃ m,P m):∃ m,P m∧∀ k,P k→m≤k:=by
 obtain⟨m,hm⟩:=h;induction m using Nat.strongRecOn with
 | _ m ih =>
  by_cases hk:∃ k,k<m∧P k
  ·
   obtain⟨k,hk1,hk2⟩:=hk;exact ih k hk1 hk2
  ·
   exact⟨m,hm,fun k hp=>by
    rcases Nat.lt_or_ge k m with hlt|hge
    ·
     exact absurd ⟨k,hlt,hp⟩ hk
    ·
     exact hge⟩
open Classical in
noncomputable def Qrz (P:Nat→Prop):Nat:=if h:∃ m,P m then Classical.choose (Qes h) else 0
theorem Qry{P:Nat→Prop}(h:∃ m,P m):P (Qrz P):=by
 unfold Qrz;rw[dif_pos h]
 exact(Classical.choose_spec (Qes h)).1
theorem Qx7{P:Nat→Prop}{k:Nat}(hk:P k):Qrz P≤k:=by
 unfold Qrz;rw[dif_pos ⟨k,hk⟩]
 exact(Classical.choose_spec (Qes ⟨k,hk⟩)).2 k hk
def Qk1(r:Nat→Bool)(v:Value)(k:Nat):Bool:=decide (v.ownBlock=some k)||r k
theorem Qg2{r:Nat→Bool}{v:Value}{k:Nat}:Qk1 r v k=false↔v.ownBlock≠some k∧r k=false:=by unfold Qk1;simp
theorem Qmj{S:Nat→Bool}{w:World}{p:Addr}(h:S p.block=true):(Qap S w).cell? p=none:=by
 cases hc:(Qap S w).cell? p with
 | none=>rfl
 | some u=>rw[Qb6 hc] at h;cases h
def Qrh(q:Nat×Nat×List Itm):Value:=.slice (some ⟨q.1,0,none⟩) q.2.2.length q.2.1
structure Row (r:Nat→Bool) (w wr:World) (wv:Value) (q:Nat×Nat×List Itm):Prop where
 rd:RdIs (Qap (Qk1 r wv) wr) wr.heap.size q.1 0 q.2.2
 cap:q.2.2.length≤q.2.1
 lo:w.heap.size≤q.1
 lt:q.1<wr.heap.size
 fz:∀ j,wr.frozen? ⟨q.1,j,none⟩=false
 ne:wv.ownBlock≠some q.1
structure ClG (r:Nat→Bool) (w wr:World) (top:Nat) (l:List Itm) (wv:Value) (ps:List (Nat×Nat×List Itm)):Prop where
 topr:RdIs (Qap (Qk1 r wv) wr) wr.heap.size top 0 l
 tlt:top<wr.heap.size
 own:wr.ownsRow w.heap.size 80 1 wv ps.length (ps.map Qrh)
 rows:∀ q∈ps,Row r w wr wv q
 bel:Below w.heap.size w wr
end Go.Proofs.YtbnfkjkoinbkgaaGreatDoor
end
section
namespace Go.Proofs.YtbnfkjkoinbkgaaGreatDoor
set_option maxRecDepth 100000
set_option maxHeartbeats 16000000
open Go.RowKit
section
variable {r:Nat→Bool}{w wr w1:World}{top:Nat}{l:List Itm}{wv wv':Value}{ps ps':List (Nat×Nat×List Itm)}
theorem Row.go{q:Nat×Nat×List Itm}(h:Row r w wr wv q)(hrd:∀ (l:List Itm) (b o:Nat),RdIs (Qap (Qk1 r wv) wr) wr.heap.size b o l→b<wr.heap.size→RdIs (Qap (Qk1 r wv') w1) w1.heap.size b o l)(hsz:wr.heap.size≤w1.heap.size)
  (hfz:∀ g j,g<wr.heap.size→wv.ownBlock≠some g→wr.frozen? ⟨g,j,none⟩=false→w1.frozen? ⟨g,j,none⟩=false) (hne:∀ k,k<wr.heap.size→wv.ownBlock≠some k→wv'.ownBlock≠some k):Row r w w1 wv' q :=
 ⟨hrd _ _ _ h.rd h.lt,h.cap,h.lo,Nat.lt_of_lt_of_le h.lt hsz,fun j=>hfz _ j h.lt h.ne (h.fz j),hne _ h.lt h.ne⟩
theorem ClG.go(h:ClG r w wr top l wv ps)(hrd:∀ (l:List Itm) (b o:Nat),RdIs (Qap (Qk1 r wv) wr) wr.heap.size b o l→b<wr.heap.size→RdIs (Qap (Qk1 r wv') w1) w1.heap.size b o l)(hsz:wr.heap.size≤w1.heap.size)
  (hfz:∀ g j,g<wr.heap.size→wv.ownBlock≠some g→wr.frozen? ⟨g,j,none⟩=false→w1.frozen? ⟨g,j,none⟩=false) (hne:∀ k,k<wr.heap.size→wv.ownBlock≠some k→wv'.ownBlock≠some k)
  (hown:w1.ownsRow w.heap.size 80 1 wv' ps'.length (ps'.map Qrh)) (hps:∀ q∈ps',q∈ps∨Row r w w1 wv' q) (hbel:Below w.heap.size w w1):ClG r w w1 top l wv' ps' :=
 ⟨hrd _ _ _ h.topr h.tlt,Nat.lt_of_lt_of_le h.tlt hsz,hown,fun q hq=>by
  rcases hps q hq with h1|h1
  ·
   exact(h.rows q h1).go hrd hsz hfz hne
  ·
   exact h1,hbel⟩
theorem ClG.pop{a:List (Nat×Nat×List Itm)}{q:Nat×Nat×List Itm}{gw cap:Nat}(h:ClG r w wr top l (.slice (some ⟨gw,0,none⟩) (a.length+1) cap) (a++[q])):ClG r w wr top l (.slice (some ⟨gw,0,none⟩) a.length cap) a∧Row r w wr (.slice (some ⟨gw,0,none⟩) a.length cap) q:=by
 have hown:=h.own;rw[List.length_append,List.length_singleton,List.map_append,List.map_singleton] at hown
 refine⟨⟨h.topr,h.tlt,Qie hown,fun p hp=>?_,h.bel⟩,?_⟩
 ·
  have:=h.rows p (by simp[hp])
  exact⟨this.rd,this.cap,this.lo,this.lt,this.fz,this.ne⟩
 ·
  have:=h.rows q (by simp)
  exact⟨this.rd,this.cap,this.lo,this.lt,this.fz,this.ne⟩
def Qgm(ps:List (Nat×Nat×List Itm)):Nat:=2*Qtd (ps.map (·.2.2))+ps.length
theorem Qj7(a:List (Nat×Nat×List Itm))(q:Nat×Nat×List Itm):Qgm (a++[q])=Qgm a+2*Qa5 q.2.2+1:=by
 unfold Qgm;rw[List.map_append,List.map_singleton,Qce,List.length_append,List.length_singleton]
 omega
end
end Go.Proofs.YtbnfkjkoinbkgaaGreatDoor
end
section
namespace Go.Proofs.YtbnfkjkoinbkgaaGreatDoor
set_option maxRecDepth 100000
set_option maxHeartbeats 16000000
open Go.RowKit
theorem Qza{S:Nat→Bool}{wr w9:World}{g q:Nat}{kk:Int}{m:Nat}{A:OA}{nd cd:Nat}{AL:OA}{nl cl:Nat}{A8:OA}{c8:Nat}{AL8:OA}{cl8:Nat}{d:LB}
  (hS:S g=false) (hg:g<wr.heap.size) (hS9:∀ k,wr.heap.size≤k→S k=false) (hb:Below wr.heap.size wr w9)
  (k0:(Qap S wr).cell? ⟨g,q,none⟩=some (.int .i64 kk)) (k1:(Qap S wr).cell? ⟨g,q+1,none⟩=some (.int .u64 (m:Int))) (k2:(Qap S wr).cell? ⟨g,q+2,none⟩=some (.slice A nd cd)) (k3:(Qap S wr).cell? ⟨g,q+3,none⟩=some (.slice AL nl cl))
  (h8:nd≤c8) (hdata:Rd (Qap (Qax wr.heap.size) w9) w9.heap.size A8 nd d) (hd:Rd (Qap S wr) wr.heap.size A nd d) (h9:nl≤cl8)
  (hl9:0<nl→∀ b o,AL=some ⟨b,o,none⟩→∃ g9,AL8=some ⟨g9,0,none⟩∧wr.heap.size≤g9∧g9<w9.heap.size∧∀ j u,j<nl*4→wr.cell? ⟨b,o+j,none⟩=some u→w9.cell? ⟨g9,0+j,none⟩=some u) :
  Put (Qap S wr) (Qap S ((w9.setCell ⟨g,q+2,none⟩ (.slice A8 nd c8)).setCell ⟨g,q+3,none⟩ (.slice AL8 nl cl8))) wr.heap.size ((w9.setCell ⟨g,q+2,none⟩ (.slice A8 nd c8)).setCell ⟨g,q+3,none⟩ (.slice AL8 nl cl8)).heap.size g q kk m A nd cd AL nl cl A8 c8 AL8 cl8:=by
 have hz:((w9.setCell ⟨g,q+2,none⟩ (.slice A8 nd c8)).setCell ⟨g,q+3,none⟩ (.slice AL8 nl cl8)).heap.size=w9.heap.size:=by simp[World.setCell]
 have k2':=(hb.cell (p:=⟨g,q+2,none⟩) hg).trans (Qaj k2);have k3':=(hb.cell (p:=⟨g,q+3,none⟩) hg).trans (Qaj k3);have hne:(⟨g,q+2,none⟩:Addr)≠⟨g,q+3,none⟩:=fun e=>by injection e with _ e2;omega
 have hnew:∀ (b j:Nat) (u:Value),b≠g→S b=false→w9.cell? ⟨b,j,none⟩=some u→(Qap S ((w9.setCell ⟨g,q+2,none⟩ (.slice A8 nd c8)).setCell ⟨g,q+3,none⟩ (.slice AL8 nl cl8))).cell? ⟨b,j,none⟩=some u:=fun b j u hbg hSb hu=>by
  rw[Qaq hSb,World.cell?_setCell_far _ _ _ _ (fun e=>hbg e.symm),World.cell?_setCell_far _ _ _ _ (fun e=>hbg e.symm)]
  exact hu
 refine⟨k0,k1,k2,k3,fun p u hp h2 h3=>?_,?_,?_,by rw[hz];exact hb.size,h8,fun d' hd'=>?_,h9,fun h0 b o e=>?_⟩
 ·
  have ho:=Qb6 hp;have hlt:=World.block_lt_of_cell? wr p (Qaj hp);rw[Qaq ho,World.cell?_setCell_other _ _ _ _ (fun e=>h3 e.symm),World.cell?_setCell_other _ _ _ _ (fun e=>h2 e.symm),hb.cell hlt]
  exact Qaj hp
 ·
  rw[Qaq hS,World.cell?_setCell_other _ _ _ _ (fun e=>hne e.symm)]
  exact World.cell?_setCell_same _ _ _ k2'
 ·
  rw[Qaq hS]
  refine World.cell?_setCell_same _ _ _ (u:=.slice AL nl cl) ?_;rw[World.cell?_setCell_other _ _ _ _ hne]
  exact k3'
 ·
  rw[hd'.uniq hd,hz]
  refine⟨hdata.1,fun hn=>?_⟩;obtain⟨b,o,e,hbb,hc⟩:=hdata.2 hn;refine⟨b,o,e,hbb,fun i hi=>?_⟩;have hci:=hc i hi;have hlo:wr.heap.size≤b:=Qaz.1 (Qb6 hci);exact hnew b (o+i) _ (by omega) (hS9 b hlo) (Qaj hci)
 ·
  obtain⟨g9,e9,hlo,hlt,hc⟩:=hl9 h0 b o e;refine⟨g9,e9,by rw[hz];exact hlt,fun j u hj hu=>?_⟩;exact hnew g9 (0+j) u (by omega) (hS9 g9 hlo) (hc j u hj (Qaj hu))
end Go.Proofs.YtbnfkjkoinbkgaaGreatDoor
end
section
namespace Go.Proofs.YtbnfkjkoinbkgaaGreatDoor
set_option maxRecDepth 100000
set_option maxHeartbeats 16000000
open Go.RowKit
section
variable {r:Nat→Bool}{w wr w9 w3:World}{top:Nat}{l:List Itm}{wv wv':Value}{ps:List (Nat×Nat×List Itm)}
theorem ClG.put2(h:ClG r w wr top l wv ps){q:Nat×Nat×List Itm}(hq:Row r w wr wv q)(hb:Below wr.heap.size wr w9){x y:Nat}{u u':Value}
  (hrd:∀ (l:List Itm) (b o:Nat),RdIs (Qap (Qk1 r wv) wr) wr.heap.size b o l→RdIs (Qap (Qk1 r wv) ((w9.setCell ⟨q.1,x,none⟩ u).setCell ⟨q.1,y,none⟩ u')) ((w9.setCell ⟨q.1,x,none⟩ u).setCell ⟨q.1,y,none⟩ u').heap.size b o l) :
  ClG r w ((w9.setCell ⟨q.1,x,none⟩ u).setCell ⟨q.1,y,none⟩ u') top l wv ps∧Row r w ((w9.setCell ⟨q.1,x,none⟩ u).setCell ⟨q.1,y,none⟩ u') wv q:=by
 have hsz:wr.heap.size≤((w9.setCell ⟨q.1,x,none⟩ u).setCell ⟨q.1,y,none⟩ u').heap.size:=by have:=hb.size;simpa [World.setCell] using this
 have hfz:∀ g j,g<wr.heap.size→wv.ownBlock≠some g→wr.frozen? ⟨g,j,none⟩=false→((w9.setCell ⟨q.1,x,none⟩ u).setCell ⟨q.1,y,none⟩ u').frozen? ⟨g,j,none⟩=false:=fun g j hg _ hf=>by
  rw[World.frozen?_setCell,World.frozen?_setCell,hb.frozen hg]
  exact hf
 have hset:∀ {W:World} (b j:Nat) (u:Value),W.ownsRow b 80 1 wv ps.length (ps.map Qrh)→(W.setCell ⟨q.1,j,none⟩ u).ownsRow b 80 1 wv ps.length (ps.map Qrh):=fun b j u ho =>
  World.ownsRow.kept ho (row:=some q.1) ⟨rfl,rfl,rfl,by simp[World.setCell],fun k _ hk=>Below.heap_setCell _ _ _ _ (fun e=>hk (by rw[e]))⟩ (.inr hq.ne)
 exact⟨h.go (fun l b o hr _=>hrd l b o hr) hsz hfz (fun _ _ hh=>hh) (hset _ _ _ (hset _ _ _ (Qa7 h.own hb))) (fun _ hp=>.inl hp) (((h.bel.trans (hb.mono h.bel.size)).setCell (p:=⟨q.1,x,none⟩) hq.lo _).setCell (p:=⟨q.1,y,none⟩) hq.lo _),
  hq.go (fun l b o hr _=>hrd l b o hr) hsz hfz (fun _ _ hh=>hh)⟩
theorem ClG.push(h:ClG r w wr top l wv ps){q p:Nat×Nat×List Itm}(hq:Row r w wr wv q)(hp:Row r w wr wv p)(o:Obj){g2 cap m:Nat}(hm:ps.length=m)(hown:w3.ownsRow w.heap.size 80 1 (.slice (some ⟨g2,0,none⟩) (m+1) cap) (m+1) (ps.map Qrh++[Qrh p]))
  (hgr:(wr.alloc o).grownBy w3 wv.ownBlock) (hor:wv.ownBlock=some g2∨g2=(wr.alloc o).heap.size) :
  ClG r w w3 top l (.slice (some ⟨g2,0,none⟩) (m+1) cap) (ps++[p])∧Row r w w3 (.slice (some ⟨g2,0,none⟩) (m+1) cap) q:=by
 subst hm;have hsz:wr.heap.size+1≤w3.heap.size:=by have:=hgr.size;simpa using this
 have hbl:∀ k,k<wr.heap.size→wv.ownBlock≠some k→w3.heap[k]?=wr.heap[k]?:=fun k hk hne=>(hgr.block k (by simp;omega) (fun e=>hne e.symm)).trans (Below.heap_alloc _ _ _ hk)
 have hne:∀ k,k<wr.heap.size→wv.ownBlock≠some k→(Value.slice (some ⟨g2,0,none⟩) (ps.length+1) cap).ownBlock≠some k:=fun k hk hn e=>by
  have e':g2=k:=by injection e
  rcases hor with h1|h1
  ·
   exact hn (by rw[h1,e'])
  ·
   simp at h1;omega
 have hrd:∀ (l:List Itm) (b o:Nat),RdIs (Qap (Qk1 r wv) wr) wr.heap.size b o l→b<wr.heap.size→RdIs (Qap (Qk1 r (.slice (some ⟨g2,0,none⟩) (ps.length+1) cap)) w3) w3.heap.size b o l:=fun l b o hr hb =>
  RdIs.sub (by omega) (fun x u _ hx=>mask_go hx (fun k hk hs=>hbl k hk (Qg2.1 hs).1) (fun k hk hs=>Qg2.2 ⟨hne k hk (Qg2.1 hs).1,(Qg2.1 hs).2⟩)) hb hr
 have hfz:∀ g j,g<wr.heap.size→wv.ownBlock≠some g→wr.frozen? ⟨g,j,none⟩=false→w3.frozen? ⟨g,j,none⟩=false:=fun g j hg hn hf =>
  (World.frozen?_of_block (w:=wr) (a:=⟨g,j,none⟩) (hbl g hg hn)).trans hf
 refine⟨h.go hrd (by omega) hfz hne (by rw[List.length_append,List.length_singleton,List.map_append,List.map_singleton];exact hown) (fun y hy=>?_) ?_,hq.go hrd (by omega) hfz hne⟩
 ·
  rcases List.mem_append.1 hy with hy|hy
  ·
   exact .inl hy
  ·
   rw[List.mem_singleton] at hy
   subst hy;exact .inr (hp.go hrd (by omega) hfz hne)
 ·
  have hb:=h.bel;exact⟨hgr.os.trans hb.os,hgr.tape.trans hb.tape,hgr.output.trans hb.output,by have:=hb.size;omega,fun k hk=>(hbl k (by have:=hb.size;omega) (fun e=>by have:=(World.ownsRow.lt h.own k e).1;omega)).trans (hb.block k hk)⟩
end
end Go.Proofs.YtbnfkjkoinbkgaaGreatDoor
end
section
namespace Go.Proofs.YtbnfkjkoinbkgaaGreatDoor
set_option maxRecDepth 100000
set_option maxHeartbeats 16000000
open Go.RowKit
theorem Qke(b o n c B:Nat)(l:List Itm)(w:World)(_hB:B≤w.heap.size)(h:RdIs w B b o l)(hl:l.length=n)(h0:0<n)(hn:n≤1000000)(_hc:n≤c) :
  Calls Tryz.prog 160 #[.slice (some ⟨b,o,none⟩) n c] w fun e w'=>∃ g cap,e=.returned (.slice (some ⟨g,0,none⟩) n cap)∧n≤cap∧w.heap.size≤g∧g<w'.heap.size∧(∀ j u,j<n*4→w.cell? ⟨b,o+j,none⟩=some u→w'.cell? ⟨g,0+j,none⟩=some u)∧(∀ j,w'.frozen? ⟨g,j,none⟩=false)∧Below w.heap.size w w':=by
 obtain⟨i0,hi0,hz0,hz1,hz2⟩:=info_parts Qbr;obtain⟨cs,n1,n2,n3⟩:=h.cells;have n0:=n1.len;rw[hl] at n0
 have N2:Hid (∀ j u,cs[j]?=some u→w.cell? ((⟨b,o,none⟩:Addr).add j)=some u):=by
  intro j u hj;have e:(⟨b,o,none⟩:Addr).add j=⟨b,o+j,none⟩:=by unfold Addr.add;split <;> simp_all
  rw[e]
  exact n2 j u hj
 have M2:=Lib.hid n2;have HO:=Lib.hid (World.ownsRow_nil w w.heap.size 119 4);have N0:=Lib.hid n0;have N3:=Lib.hid n3;have H0:=Lib.hid h0;have HN:=Lib.hid hn;have HI:=Lib.hid hi0;have HZ0:=Lib.hid hz0;have HZ1:=Lib.hid hz1;have HZ2:=Lib.hid hz2;clear n0 n1 n2 n3 h hi0 hz0 hz1 hz2 h0 hn hl;go_enter Tryz.func160,Tryz.ntmps160;go_wp2_with (first
  | (at_builtin;refine wpList_append_lies _ rfl (.const (.slice none 0 0)) (.tmp 3) 80 rfl w.heap.size 119 i0 _ 4 64 Tryz.underlying80 HI.out HZ0.out HZ1.out HZ2.out rfl (by decide) _ 0 [] rfl HO.out ⟨b,o,none⟩ n c cs rfl N0.out N2.out N3.out H0.out (by have:=HN.out;unfold maxLen;omega) (by have:=HN.out;omega) zr _ rfl ?_;intro g cap w1 ho1 hg1 hat hlt;have O1:=Lib.hid ho1;have HG1:=Lib.hid hg1;clear ho1 hg1 hat hlt)
  | fail)
 go_ret;have ho:=O1.out;rw[Nat.zero_add,List.nil_append] at ho
 have hb:Below w.heap.size w w1:=(Below.refl _ _).grown HG1.out zr (fun k hk=>by cases hk);have hg:=ho.lt g rfl;have hcap:n≤cap:=by
  rcases ho.2 with ⟨hv,_⟩|⟨g',cap',cur,hv,_,_,hnc,_⟩
  ·
   cases hv
  ·
   injection hv with _ _ h3
   omega
 refine⟨g,cap,by simp,hcap,hg.1,hg.2,fun j u hj hu=>?_,fun j=>ho.frozenAt j,hb⟩;have hjl:j<cs.length:=by rw[N0.out];exact hj
 have:=M2.out j cs[j] (List.getElem?_eq_getElem hjl)
 rw[hu] at this
 rw[Nat.zero_add,ho.cellAt j hj,List.getElem?_eq_getElem hjl,Option.some.inj this]
def Q1d(r:Nat→Bool)(w:World)(top:Nat)(l:List Itm)(m:Nat)(wv:Value)(wr:World):Prop :=
 ∃ (gw cap:Nat) (ps:List (Nat×Nat×List Itm)),wv=.slice (some ⟨gw,0,none⟩) ps.length cap∧ClG r w wr top l wv ps∧Qgm ps≤m∧Qgm ps≤2000001
theorem Qt8{lg:List Itm}{i:Nat}(hi:i<lg.length){kk:Int}{m:Nat}{d:LB}{ll:List Itm}(hx:lg[i]=.mk kk m d ll):Qa5 (lg.drop i)=1+Qa5 ll+Qa5 (lg.drop (i+1)):=by
 rw[List.drop_eq_getElem_cons hi,Qa5,hx,par]
theorem Itm.parts(x:Itm):∃ kk m d ll,x=Itm.mk kk m d ll:=match x with | .mk a b c d=>⟨a,b,c,d,rfl⟩
end Go.Proofs.YtbnfkjkoinbkgaaGreatDoor
end
section
namespace Go.Proofs.YtbnfkjkoinbkgaaGreatDoor
set_option maxRecDepth 100000
set_option maxHeartbeats 16000000
open Go.RowKit
section
variable {r:Nat→Bool}
theorem Qv8(b o n c B:Nat)(l:List Itm)(w:World)(hB:B≤w.heap.size)(_hbB:b<B)(hM:RdIs (Qap r w) B b o l)(hl:l.length=n)(h0:0<n)(hn:Qa5 l≤1000000)(hc:n≤c)(hr2:∀ k,r k=true→k<w.heap.size) :
  Calls Tryz.prog 142 #[.slice (some ⟨b,o,none⟩) n c] w fun e w'=>∃ g cap wv,e=.returned (.slice (some ⟨g,0,none⟩) n cap)∧n≤cap∧w.heap.size≤g∧g<w'.heap.size∧RdIs (Qap (Qk1 r wv) w') w'.heap.size g 0 l∧Below w.heap.size w w':=by
 have hn6:n≤1000000:=by have:=Qdy l;omega
 have h:RdIs w B b o l:=hM.sub zr (fun _ _ _ hc=>Qaj hc) _hbB;have C0:=Lib.hid (Qke b o n c B l w hB h hl h0 hn6 hc);have HH:=Lib.hid hM;have HL:=Lib.hid hl;have HP:=Lib.hid hn;have HR2:=Lib.hid hr2;have HBB:=Lib.hid hB;have C2:=Lib.hid (fun A c W=>Qsl A c W);obtain⟨i0,hi0,hz0,hz1,hz2⟩:=info_parts Qm0;have HI:=Lib.hid hi0;have HI0:=Lib.hid hz0;have HI1:=Lib.hid hz1;have HI2:=Lib.hid hz2;clear h hM hB hc hl hr2 hn hi0 hz0 hz1 hz2;go_enter Tryz.func142,Tryz.ntmps142;go_wp2_with fail;refine C0.out.mono ?_;rintro e w1 ⟨top,tcap,rfl,htc,htl,htu,hcell,hfz,hb⟩;have hrel0:Q1d r w top l (Qgm [(top,tcap,l)]) (.slice (some ⟨w1.heap.size,0,none⟩) 1 1) (w1.alloc (.cells #[.slice (some ⟨top,0,none⟩) n tcap] 80)):=by
  have hbb:=hb.size;obtain⟨cs,n1,n2,n3,n4⟩:=HH.out.news;have hbelow:Below w.heap.size w (w1.alloc (.cells #[.slice (some ⟨top,0,none⟩) n tcap] 80)):=hb.alloc hbb _;have hSf:∀ k,k≠w1.heap.size→r k=false→Qk1 r (.slice (some ⟨w1.heap.size,0,none⟩) 1 1) k=false:=fun k h1 h2=>Qg2.2 ⟨fun e=>by injection e with e;exact h1 e.symm,h2⟩
  have htr:RdIs (Qap (Qk1 r (.slice (some ⟨w1.heap.size,0,none⟩) 1 1)) (w1.alloc (.cells #[.slice (some ⟨top,0,none⟩) n tcap] 80))) (w1.alloc (.cells #[.slice (some ⟨top,0,none⟩) n tcap] 80)).heap.size top 0 l:=by
   refine n4 _ _ top 0 (fun j u hj=>?_) (fun p hp=>?_) (Nat.le_trans HBB.out hbelow.size)
   ·
    have hjl:j<n*4:=by
     rw[← HL.out,← n1]
     rcases Nat.lt_or_ge j cs.length with h|h
     ·
      exact h
     ·
      rw[List.getElem?_eq_none h] at hj;cases hj
    rw[Qaq (hSf _ (by show top≠_;omega) (by cases h:r top with|false=>rfl|true=>(have:=HR2.out top h;omega))),World.cell?_alloc_lt _ _ _ (by show top<_;omega)]
    exact hcell j u hjl (Qaj (n2 j u hj))
   ·
    have:=HBB.out
    cases hrp:r p.block with
    | false=>rw[Qaq (hSf _ (by omega) hrp),hbelow.cell (by omega),Qaq hrp]
    | true =>
     rw[Qmj hrp,Qmj]
     unfold Qk1;rw[hrp,Bool.or_true]
  have htlt:top<(w1.alloc (.cells #[.slice (some ⟨top,0,none⟩) n tcap] 80)).heap.size:=by simp;omega
  refine⟨w1.heap.size,1,[(top,tcap,l)],rfl,⟨htr,htlt,?_,fun q hq=>?_,hbelow⟩,Nat.le_refl _,?_⟩
  ·
   have h:=World.ownsRow_lit (base:=w.heap.size) (e:=80) (size:=1) w1 #[.slice (some ⟨top,0,none⟩) n tcap] 1 hbb (by decide) rfl;show World.ownsRow _ _ _ _ _ 1 [Qrh (top,tcap,l)];unfold Qrh;rw[HL.out]
   exact h
  ·
   rw[List.mem_singleton] at hq
   subst hq;exact⟨htr,by rw[HL.out];exact htc,htl,htlt,fun j=>(((Below.refl w1.heap.size w1).alloc zr _).frozen htu).trans (hfz j),fun e=>by injection e with e;simp at e;omega⟩
  ·
   have:=HP.out
   simp[Qgm,Qtd];omega
 have HREL:=Lib.hid hrel0;have HTC:=Lib.hid htc;have HTL:=Lib.hid htl;clear hcell hfz hb hrel0 htc htl htu C0;go_wp2_with fail;go_loopw [4] (fun wv wr=>∃ m:Nat,Hid (Q1d r w top l m wv wr)) (fun wv wr=>Qrz (fun m=>Q1d r w top l m wv wr))
 case atStart=>exact⟨_,HREL.out⟩
 case round =>
  obtain⟨m1,hrel⟩:=hrel;clear HREL;obtain⟨M,hM⟩:∃ M,M=Qrz (fun m=>Q1d r w top l m u4 wr):=⟨_,rfl⟩
  have hm:Q1d r w top l M u4 wr:=by rw[hM];exact Qry (P:=fun m=>Q1d r w top l m u4 wr) ⟨m1,hrel.out⟩
  have HM:=Lib.hid hM;clear hrel hM;obtain⟨gw,cap,ps,rfl,hcl,hlm,hl2⟩:=hm;rcases List.eq_nil_or_concat ps with rfl|⟨a,⟨g,cp,lg⟩,hps⟩
  ·
   have HC:=Lib.hid hcl;clear hcl;go_wp2_with fail;go_ret;exact⟨top,tcap,_,rfl,HTC.out,HTL.out,HC.out.tlt,HC.out.topr,HC.out.bel⟩
  ·
   rw[List.concat_eq_append] at hps
   subst hps;have hown:=hcl.own;rw[List.length_append,List.length_singleton,List.map_append,List.map_singleton] at hown
   have hcell:wr.cell? ⟨gw,a.length,none⟩=some (Qrh (g,cp,lg)):=by
    rw[World.ownsRow.cellAt hown a.length (by omega),List.getElem?_append_right (by simp)]
    simp
   have hcap:a.length+1≤cap:=by
    rcases hown.2 with ⟨h',_⟩|⟨g',cap',cur,h',_,_,hnc,_,_⟩
    ·
     cases h'
    ·
     injection h' with _ _ h3
     omega
   rw[Qj7] at hlm hl2
   have hm6:a.length≤2000001:=by unfold Qgm at hl2;omega
   have hcut:=Qqs (g:=gw) hcap;have hp0:ClG r w wr top l (.slice (some ⟨gw,0,none⟩) a.length cap) a∧Row r w wr (.slice (some ⟨gw,0,none⟩) a.length cap) (g,cp,lg):=by
    have hcl':ClG r w wr top l (.slice (some ⟨gw,0,none⟩) (a.length+1) cap) (a++[(g,cp,lg)]):=by
     rw[List.length_append,List.length_singleton] at hcl
     exact hcl
    exact hcl'.pop
   obtain⟨hcla,hrow⟩:=hp0;have hM2:=HM.out;rw[List.length_append,List.length_singleton] at hM2 ⊢
   have HM2:=Lib.hid hM2;clear HM hM2;unfold Qrh at hcell;simp only at hcell;have HCL:=Lib.hid hcla;have HROW:=Lib.hid hrow;have HLM:Hid (Qgm a+2*Qa5 lg+1≤M∧Qgm a+2*Qa5 lg+1≤2000001):=⟨hlm,hl2⟩
   have hlgn:lg.length≤1000000:=by have h1:=Qdy lg;have h2:=HLM.out.2;omega
   clear hcl hrow hown hcap hcla;generalize hMM:a.length=mm at *;have HMM:=Lib.hid hMM;clear hMM;generalize hLN:lg.length=ln at *;have HLN:=Lib.hid hLN;clear hLN;go_wp2_with fail;go_loopw [4,28] (fun wv iv wr=>∃ (i gw cap:Nat) (ps:List (Nat×Nat×List Itm)),i≤ln∧wv=.slice (some ⟨gw,0,none⟩) ps.length cap∧iv=.int .i64 (i:Int)∧Hid (ClG r w wr top l (.slice (some ⟨gw,0,none⟩) ps.length cap) ps)∧Hid (Row r w wr (.slice (some ⟨gw,0,none⟩) ps.length cap) (g,cp,lg))∧Hid (Qgm ps+2*Qa5 (lg.drop i)+1≤M∧Qgm ps+2*Qa5 (lg.drop i)+1≤2000001)) (fun _ iv _=>ln - (intOf iv).toNat)
   case atStart=>exact⟨0,gw,cap,a,Nat.zero_le _,by rw[HMM.out],rfl,by rw[HMM.out];exact HCL.out,by rw[HMM.out];exact HROW.out,by rw[List.drop_zero];exact HLM.out⟩
   case round =>
    clear HCL HROW HLM hcell hcut;obtain⟨i,gw2,cap2,ps,hi,rfl,rfl,hcl,hrow,hlm⟩:=hrel;by_cases hlt:i<ln
    ·
     have hil:i<lg.length:=by rw[HLN.out];exact hlt
     obtain⟨c0,c1,c2,c3,k0,k1,k2,k3,gx⟩:=hrow.out.rd.get i hil;simp only[Nat.zero_add] at k0 k1 k2 k3;obtain⟨kk,m,d,ll,hx⟩:=Itm.parts (lg[i]'hil);have hpd:=Qt8 hil hx;rw[hx] at gx
     obtain⟨A,nd,cd,AL,clp,he,hkw,hm,hd,hrd,hl5,hl7⟩:=gx.open;injection he with he
     simp only[Array.mk.injEq,List.cons.injEq,and_true] at he;obtain⟨rfl,rfl,rfl,rfl⟩:=he;have f2:wr.frozen? ⟨g,i*4+2,none⟩=false:=hrow.out.fz (i*4+2);have f3:wr.frozen? ⟨g,i*4+3,none⟩=false:=hrow.out.fz (i*4+3);have e2:=Qaj k2;have e3:=Qaj k3;have hrdu:Rd wr wr.heap.size A nd d:=hrd.sub zr (fun q u _ hq=>Qaj hq);have C1:=Lib.hid (Qda A nd cd wr.heap.size d wr.drew zr hrdu hd.2);have HK:=Lib.hid (And.intro k0 (And.intro k1 (And.intro k2 k3)));have HRD:=Lib.hid hrd;have HRL:=Lib.hid hrd.1;have HD:=Lib.hid hd;have HGL:Hid (g<wr.heap.size):=hrow.out.lt;have HGS:Hid (Qk1 r (.slice (some ⟨gw2,0,none⟩) ps.length cap2) g=false):=Qg2.2 ⟨hrow.out.ne,by have h1:=hrow.out.lo;cases h:r g with|false=>rfl|true=>(have h2:=HR2.out g h;simp at h1;omega)⟩
     have HS9:Hid (∀ k,wr.heap.size≤k→Qk1 r (.slice (some ⟨gw2,0,none⟩) ps.length cap2) k=false):=fun k hk=>Qg2.2 ⟨fun e=>by have:=(World.ownsRow.lt hcl.out.own k e).2;omega,by have h1:=hcl.out.bel.size;cases h:r k with|false=>rfl|true=>(have h2:=HR2.out k h;omega)⟩
     have HPD:=Lib.hid hpd;have i0':(0:Int)≤(i:Int):=by omega
     have i1':(i:Int)<(ln:Int):=by omega
     have hps6:ps.length≤2000001:=by have h1:=hlm.out.2;unfold Qgm at h1;omega
     rcases ll with _|⟨l0,lr⟩
     ·
      have hnl:([]:List Itm).length=0:=rfl;rw[hnl] at e3
      clear gx hrd hx k0 k1 k2 k3 hd hl5 hl7 hpd hrdu hil;generalize hPL:ps.length=pl at *;have HPL:=Lib.hid hPL;clear hPL;go_wp2_with fail;go_region_with
       (first
        | (go_at_call 91;refine C1.out.mono ?_;rintro e w8 ⟨v,rfl,ho8,hb8⟩;obtain⟨A8,c8,rfl,hc8,hm8,-⟩:=ho8.rdn HRL.out;have HN8:=Lib.hid ho8.news;have HC8:=Lib.hid hc8;have HB8:=Lib.hid ((Below.drew_ (B:=wr.heap.size) (w:=wr)).trans hb8);have q2:=(hb8.cell (p:=⟨g,i*4+2,none⟩) HGL.out).trans e2;have q3:=(hb8.cell (p:=⟨g,i*4+3,none⟩) HGL.out).trans e3;have p2:=(hb8.frozen (p:=⟨g,i*4+2,none⟩) HGL.out).trans f2;have p3:=(hb8.frozen (p:=⟨g,i*4+3,none⟩) HGL.out).trans f3;clear ho8 hc8 hb8)
        | (go_at_call 160;refine(C2.out _ _ _).mono ?_;rintro e w9 ⟨rfl,rfl⟩)
        | fail)
      all_goals
       have hput:=Qza HGS.out HGL.out HS9.out HB8.out HK.out.1 HK.out.2.1 HK.out.2.2.1 HK.out.2.2.2 HC8.out HN8.out HRD.out (Nat.le_refl 0) (AL8:=none) (fun hh=>absurd hh (Nat.lt_irrefl _));have hpp:=(show ClG r w wr top l (.slice (some ⟨gw2,0,none⟩) pl cap2) ps from hcl.out).put2 hrow.out HB8.out (x:=i*4+2) (y:=i*4+3) (u:=.slice A8 nd c8) (u':=.slice none 0 0) (fun l b o hh=>hput.items hh);have s3:((w8.setCell ⟨g,i*4+2,none⟩ (.slice A8 nd c8)).setCell ⟨g,i*4+3,none⟩ (.slice none 0 0)).cell? ⟨g,i*4+3,none⟩=some (.slice none 0 0):=Qaj hput.n3;have HPP:=Lib.hid hpp;clear hput hpp q2 q3 p2 p3
       go_wp2_with fail;go_roundw
       case rel=>exact⟨i+1,gw2,cap2,ps,by omega,by rw[HPL.out],by go_num,by rw[HPL.out];exact HPP.out.1,by rw[HPL.out];exact HPP.out.2,by have h1:=hlm.out;have h2:=HPD.out;have h3:Qa5 ([]:List Itm)=0:=(by rw[Qa5]);show _∧_;omega⟩
       case measure=>simp[intOf];omega
     ·
      obtain⟨b9,o9,rfl,hb9b,hs9⟩:=hl7 (by simp);have hll:Qa5 (l0::lr)≤1000000:=by have h1:=hlm.out.2;omega
      obtain⟨ll,hLL⟩:∃ ll,ll=l0::lr:=⟨_,rfl⟩
      have hpos:0<ll.length:=by rw[hLL];simp
      rw[← hLL] at e3 gx hx hpd hs9 hl5 hll
      have hl6:ll.length≤1000000:=by have:=Qdy ll;omega
      have hs9u:RdIs wr wr.heap.size b9 o9 ll:=hs9.sub zr (fun q u _ hq=>Qaj hq) hb9b;have C3:=Lib.hid (fun (W:World) (hb:Below wr.heap.size wr W)=>Qke b9 o9 ll.length clp wr.heap.size ll W hb.size (hs9u.below hb9b hb) rfl hpos hl6 hl5.1);have HS9L:=Lib.hid hs9;have HPD2:=Lib.hid hpd;have HB9L:=Lib.hid hb9b;have HK3:=Lib.hid (show(Qap (Qk1 r (.slice (some ⟨gw2,0,none⟩) ps.length cap2)) wr).cell? ⟨g,i*4+3,none⟩=some (.slice (some ⟨b9,o9,none⟩) ll.length clp) by rw[hLL];exact k3);have HLL:=Lib.hid hLL;clear gx hrd hx k0 k1 k2 k3 hd hl5 hl7 hpd hrdu hil hs9 hs9u hb9b hll HPD hLL;generalize hNN:ll.length=nn at *
      have HNN:=Lib.hid hNN;clear hNN;generalize hPL:ps.length=pl at *;have HPL:=Lib.hid hPL;clear hPL;have hnp:(0:Int)<(nn:Int):=by omega
      go_wp2_with fail;go_region_with
       (first
        | (go_at_call 91;refine C1.out.mono ?_;rintro e w8 ⟨v,rfl,ho8,hb8⟩;obtain⟨A8,c8,rfl,hc8,hm8,-⟩:=ho8.rdn HRL.out;have HN8:=Lib.hid ho8.news;have HC8:=Lib.hid hc8;have HB8:=Lib.hid ((Below.drew_ (B:=wr.heap.size) (w:=wr)).trans hb8);have q2:=(hb8.cell (p:=⟨g,i*4+2,none⟩) HGL.out).trans e2;have q3:=(hb8.cell (p:=⟨g,i*4+3,none⟩) HGL.out).trans e3;have p2:=(hb8.frozen (p:=⟨g,i*4+2,none⟩) HGL.out).trans f2;have p3:=(hb8.frozen (p:=⟨g,i*4+3,none⟩) HGL.out).trans f3;clear ho8 hc8 hb8)
        | (go_at_call 160;refine(C3.out _ HB8.out).mono ?_;rintro e w9 ⟨g9,cap9,rfl,hcap9,hlo9,hlt9,hcell9,hfz9,hb9⟩;have H9:=Lib.hid (And.intro hcap9 (And.intro hlo9 (And.intro hlt9 (And.intro hcell9 hfz9))));have HB9:=Lib.hid (HB8.out.trans (hb9.mono HB8.out.size));have HBX:=Lib.hid hb9;have s2:=(hb9.cell (p:=⟨g,i*4+2,none⟩) (Nat.lt_of_lt_of_le HGL.out HB8.out.size)).trans q2;have s3:=(hb9.cell (p:=⟨g,i*4+3,none⟩) (Nat.lt_of_lt_of_le HGL.out HB8.out.size)).trans q3;have t2:=(hb9.frozen (p:=⟨g,i*4+2,none⟩) (Nat.lt_of_lt_of_le HGL.out HB8.out.size)).trans p2;have t3:=(hb9.frozen (p:=⟨g,i*4+3,none⟩) (Nat.lt_of_lt_of_le HGL.out HB8.out.size)).trans p3;clear hcap9 hlo9 hlt9 hcell9 hfz9 hb9 q2 q3 p2 p3)
        | fail)
      all_goals
       have hwo:∀ k,(Value.slice (some ⟨gw2,0,none⟩) pl cap2).ownBlock=some k→k<wr.heap.size:=fun k e=>(World.ownsRow.lt hcl.out.own k e).2
       have hput:=Qza HGS.out HGL.out HS9.out HB9.out HK.out.1 HK.out.2.1 HK.out.2.2.1 HK3.out HC8.out (HN8.out.mask_go (S':=Qax wr.heap.size) (w':=w9) (B':=w9.heap.size) HBX.out.size (fun k hk _=>HBX.out.block k hk) (fun _ _ hh=>hh)) HRD.out H9.out.1 (AL8:=some ⟨g9,0,none⟩)
        (fun _ b' o' e=>⟨g9,rfl,Nat.le_trans HB8.out.size H9.out.2.1,H9.out.2.2.1,fun j u hj hu=>H9.out.2.2.2.1 j u hj (by injection e with e;injection e with e1 e2;subst e1 e2;exact(HB8.out.cell (World.block_lt_of_cell? wr _ hu)).trans hu)⟩)
       have hpp:=(show ClG r w wr top l (.slice (some ⟨gw2,0,none⟩) pl cap2) ps from hcl.out).put2 hrow.out HB9.out (x:=i*4+2) (y:=i*4+3) (u:=.slice A8 nd c8) (u':=.slice (some ⟨g9,0,none⟩) nn cap9) (fun l b o hh=>hput.items hh);have hz9:((w9.setCell ⟨g,i*4+2,none⟩ (.slice A8 nd c8)).setCell ⟨g,i*4+3,none⟩ (.slice (some ⟨g9,0,none⟩) nn cap9)).heap.size=w9.heap.size:=by simp[World.setCell]
       have hnew:Row r w ((w9.setCell ⟨g,i*4+2,none⟩ (.slice A8 nd c8)).setCell ⟨g,i*4+3,none⟩ (.slice (some ⟨g9,0,none⟩) nn cap9)) (.slice (some ⟨gw2,0,none⟩) pl cap2) (g9,cap9,ll):=by
        obtain⟨g9',e9,hg9,hc9⟩:=hput.lst (by omega) b9 o9 rfl;injection e9 with e9
        injection e9 with e9
        subst e9;refine⟨hput.copy HS9L.out (by rw[HNN.out];exact hc9),by show ll.length≤cap9;rw[HNN.out];exact H9.out.1,?_,by show g9<_;rw[hz9];exact H9.out.2.2.1,fun j=>by rw[World.frozen?_setCell,World.frozen?_setCell];exact H9.out.2.2.2.2 j,fun e=>?_⟩
        ·
         show w.heap.size≤g9;have h1:=hcl.out.bel.size;have h2:=HB8.out.size;have h3:=H9.out.2.1;omega
        ·
         have h1:=hwo _ e;have h2:=HB8.out.size;have h3:=H9.out.2.1;show False;simp only at h1;omega
       have s4:((w9.setCell ⟨g,i*4+2,none⟩ (.slice A8 nd c8)).setCell ⟨g,i*4+3,none⟩ (.slice (some ⟨g9,0,none⟩) nn cap9)).cell? ⟨g,i*4+3,none⟩=some (.slice (some ⟨g9,0,none⟩) nn cap9):=Qaj hput.n3;have HPP:=Lib.hid hpp;have HNEW:=Lib.hid hnew;clear hput hpp s2 s3 t2 t3 hnew hwo hz9;generalize ((w9.setCell ⟨g,i*4+2,none⟩ (.slice A8 nd c8)).setCell ⟨g,i*4+3,none⟩ (.slice (some ⟨g9,0,none⟩) nn cap9))=wf at *;have hfsz:w.heap.size≤wf.heap.size:=HPP.out.1.bel.size;have HOWN:=Lib.hid (show(wf.alloc (.cells #[.slice (some ⟨g9,0,none⟩) nn cap9] 80)).ownsRow w.heap.size 80 1 (.slice (some ⟨gw2,0,none⟩) pl cap2) pl (ps.map Qrh) by have h1:=HPP.out.1.own;rw[HPL.out] at h1;exact World.ownsRow.alloc h1 _)
       have HFS:=Lib.hid hfsz;clear hfsz;go_wp2_with (first
        | (at_builtin;refine wpList_append_lies _ rfl (.tmp 56) (.tmp 61) 209 rfl w.heap.size 80 i0 _ 1 24 Tryz.underlying209 HI.out HI0.out HI1.out HI2.out rfl (by decide) _ pl (ps.map Qrh) rfl HOWN.out ⟨wf.heap.size,0,none⟩ 1 1 [.slice (some ⟨g9,0,none⟩) nn cap9] rfl rfl (by intro j u hj;cases j with|zero=>cases hj;simp[Addr.add]|succ j=>simp at hj) (by intro u hu;simp at hu;subst hu;rfl) (by decide) (by unfold maxLen;omega) (by omega) (Nat.le_trans HFS.out (Qaa _ _)) _ rfl ?_;intro g2 cap4 w4 ho4 hg4 hat hlt4;have HO4:=Lib.hid ho4;have HG4:=Lib.hid hg4;have HAT:=Lib.hid hat;clear ho4 hg4 hat hlt4)
        | fail)
       have hpush:=(HPP.out.1).push HPP.out.2 HNEW.out _ HPL.out (by unfold Qrh;simp only[HNN.out];exact HO4.out) HG4.out HAT.out;have HPUSH:=Lib.hid hpush;have hlen2:(ps++[(g9,cap9,ll)]).length=pl+1:=by rw[List.length_append,List.length_singleton,HPL.out]
       have HLEN2:=Lib.hid hlen2;clear hpush hlen2;go_roundw
       case rel=>exact⟨i+1,g2,cap4,ps++[(g9,cap9,ll)],by omega,by rw[HLEN2.out],by go_num,by rw[HLEN2.out];exact HPUSH.out.1,by rw[HLEN2.out];exact HPUSH.out.2,by have h1:=hlm.out;have h2:=HPD2.out;have h3:=Qj7 ps (g9,cap9,ll);simp only at h3;show _∧_;omega⟩
       case measure=>simp[intOf];omega
    ·
     obtain rfl:i=ln:=by omega
     have hdn:lg.drop i=[]:=List.drop_eq_nil_of_le (by rw[HLN.out];exact Nat.le_refl _);have hfin:Q1d r w top l (M - 1) (.slice (some ⟨gw2,0,none⟩) ps.length cap2) wr:=by
      have h1:=hlm.out;exact⟨gw2,cap2,ps,rfl,hcl.out,by omega,by omega⟩
     have HFIN:=Lib.hid hfin;have hM1:1≤M:=by have h1:=hlm.out.1;omega
     clear hfin hdn;go_wp2_with fail;go_roundw
     case rel=>exact⟨M - 1,HFIN.out⟩
     case measure =>
      refine Nat.lt_of_le_of_lt (Qx7 HFIN.out) ?_;rw[← HM2.out]
      omega
def Q3c(S:Nat→Bool)(x:Itm)(w:World)(e:Ending)(w':World):Prop:=∃ v,e=.returned v∧RdI (Qap S w') w'.heap.size v x∧Below w.heap.size w w'
def Q3a(S:Nat→Bool)(b:Nat)(k:Nat):Bool:=S k||k==b
theorem Qi5(S:Nat→Bool)(b o n c B:Nat)(l:List Itm)(w:World)(hS:∀ k,S k=true→k<w.heap.size)(hB:B≤w.heap.size)(hb:b<B)(h:RdIs (Qap S w) B b o l)(hl:l.length=n)(h0:0<n)(hn:Qa5 l≤1000000)(hc:n≤c) :
  Calls Tryz.prog 117 #[.slice (some ⟨b,o,none⟩) n c] w (Q3c S (.mk 4 0 [] l) w):=by
 have hm:RdIs (Qap (Q3a S w.heap.size) (w.alloc zk0)) B b o l:=by
  refine h.sub zr (fun p u hp hc=>?_) hb;have h1:=Qb6 hc;have h2:=Qaj hc;have h3:p.block<w.heap.size:=Nat.lt_of_lt_of_le hp hB;rw[Qaq (by unfold Q3a;rw[h1,Bool.false_or,beq_eq_false_iff_ne];omega),World.cell?_alloc_lt _ _ _ h3]
  exact h2
 have C1:=Lib.hid (Qv8 (r:=Q3a S w.heap.size) b o n c B l (w.alloc zk0) (Nat.le_trans hB (Qaa _ _)) hb hm hl h0 hn hc (fun k hk=>by
  unfold Q3a at hk;rcases Bool.or_eq_true_iff.1 hk with h|h
  ·
   have:=hS k h;simp;omega
  ·
   have:=beq_iff_eq.1 h;simp;omega))
 have HL:=Lib.hid hl;have HN:Hid (n≤1000000):=by show _≤_;have:=Qdy l;omega
 have HSS:=Lib.hid hS;clear h hl hn hc hB hb hS hm;go_enter Tryz.func117,Tryz.ntmps117;go_wp2_with fail;refine C1.out.mono ?_;rintro e w1 ⟨g,cap,wv,rfl,hcap,hgl,hgu,hrd,hbel⟩;have hb':=Qea hbel;obtain⟨⟨z0,z1,z2,z3⟩,f0,f1,f2,f3⟩:=Qa4 hb';have B1:=Lib.hid hb';have HRD:=Lib.hid hrd;have HCAP:=Lib.hid hcap;have HG:=Lib.hid (And.intro hgl hgu);clear hcap hgl hgu hrd hbel hb';go_wp2_with fail;refine bodyPost_ret (v:=.agg #[.int .i64 4,.int .u64 0,.slice none 0 0,.slice (some ⟨g,0,none⟩) n cap]) (by simp[results,Tryz.results117,go_sem,z0,z1,z2,z3]) rfl ⟨_,rfl,?_,Qas (zb.trans (B1.out.mono (Nat.le_succ _))) zr⟩
 refine RdI.mk_list (by decide) HCAP.out (by have:=HN.out;omega) HL.out (by simp[World.setCell];exact HG.out.2) (HRD.out.sub (by simp[World.setCell]) (fun q u _ hc=>?_) HG.out.2);have hq0:=(Qg2.1 (Qb6 hc)).2;unfold Q3a at hq0;have hq1:S q.block=false:=(Bool.or_eq_false_iff.1 hq0).1;have hq:q.block≠w.heap.size:=beq_eq_false_iff_ne.1 (Bool.or_eq_false_iff.1 hq0).2;rw[Qaq hq1,World.cell?_setCell_far _ _ _ _ (fun e=>hq e.symm),World.cell?_setCell_far _ _ _ _ (fun e=>hq e.symm),World.cell?_setCell_far _ _ _ _ (fun e=>hq e.symm),World.cell?_setCell_far _ _ _ _ (fun e=>hq e.symm)]
 exact Qaj hc
end
end Go.Proofs.YtbnfkjkoinbkgaaGreatDoor
