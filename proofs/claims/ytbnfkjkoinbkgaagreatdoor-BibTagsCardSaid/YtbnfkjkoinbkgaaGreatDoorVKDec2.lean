import Derived.Test.YtbnfkjkoinbkgaaGreatDoorVAbb
import Derived.Test.YtbnfkjkoinbkgaaGreatDoorVKCheck
import Derived.Test.YtbnfkjkoinbkgaaGreatDoorVKRdH
import Derived.Test.YtbnfkjkoinbkgaaGreatDoorVNumG
namespace Go.Proofs.YtbnfkjkoinbkgaaGreatDoor
set_option maxRecDepth 100000
set_option maxHeartbeats 16000000
open Go.RowKit
structure LstSt (w wr:World) (g:Nat) (k:Int) (vL:Value) (cells:List Value) (xs:List Itm):Prop where
 b0:wr.cell? ⟨w.heap.size+1,0,none⟩=some (.int .i64 k)
 b1:wr.cell? ⟨w.heap.size+1,1,none⟩=some (.int .u64 0)
 b2:wr.cell? ⟨w.heap.size+1,2,none⟩=some (.slice none 0 0)
 b3:wr.cell? ⟨w.heap.size+1,3,none⟩=some vL
 bf:wr.frozen? ⟨w.heap.size+1,3,none⟩=false
 z0:wr.cell? ⟨w.heap.size,0,none⟩=some (.int .i64 0)
 z1:wr.cell? ⟨w.heap.size,1,none⟩=some (.int .u64 0)
 z2:wr.cell? ⟨w.heap.size,2,none⟩=some (.slice none 0 0)
 z3:wr.cell? ⟨w.heap.size,3,none⟩=some (.slice none 0 0)
 f0:wr.frozen? ⟨w.heap.size,0,none⟩=false
 f1:wr.frozen? ⟨w.heap.size,1,none⟩=false
 f2:wr.frozen? ⟨w.heap.size,2,none⟩=false
 f3:wr.frozen? ⟨w.heap.size,3,none⟩=false
 own:wr.ownsRow (w.heap.size+2) 119 4 vL xs.length cells
 its:ItC (Qap (Qij (w.heap.size+2) vL) wr) wr.heap.size cells xs
 only:Only g w wr
 sz:w.heap.size+2≤wr.heap.size
section
variable {w wr w1 w3:World}{g:Nat}{k:Int}{vL:Value}{cells:List Value}{xs:List Itm}
theorem LstSt.start(_hg:g<w.heap.size)(k:Int):LstSt w ((w.alloc zk0).alloc (zo1 k 0 none 0 0 none 0 0)) g k (.slice none 0 0) [] []:=by
 refine⟨by simp,by simp,by simp,by simp,by simp,by simp,by simp,by simp,by simp,by simp,by simp,by simp,by simp,World.ownsRow_nil _ _ _ _,trivial,((Only.refl g w).alloc _).alloc _,by simp⟩
theorem LstSt.on(h:LstSt w wr g k vL cells xs)(ho:Only g wr w1)(hg:g<w.heap.size):LstSt w w1 g k vL cells xs:=by
 have hsz:=h.sz;have hb:∀ j,j<wr.heap.size→j≠g→w1.heap[j]?=wr.heap[j]?:=ho.block;have c:=fun (q:Addr) (hq:q.block<wr.heap.size) (hq2:q.block≠g)=>World.cell?_of_block (w:=wr) (a:=q) (hb q.block hq hq2)
 have f:=fun (q:Addr) (hq:q.block<wr.heap.size) (hq2:q.block≠g)=>World.frozen?_of_block (w:=wr) (a:=q) (hb q.block hq hq2)
 have m0:w.heap.size<wr.heap.size∧w.heap.size≠g:=by omega
 have m1:w.heap.size+1<wr.heap.size∧w.heap.size+1≠g:=by omega
 refine⟨(c _ m1.1 m1.2).trans h.b0,(c _ m1.1 m1.2).trans h.b1,(c _ m1.1 m1.2).trans h.b2,(c _ m1.1 m1.2).trans h.b3,(f _ m1.1 m1.2).trans h.bf,(c _ m0.1 m0.2).trans h.z0,(c _ m0.1 m0.2).trans h.z1,(c _ m0.1 m0.2).trans h.z2,(c _ m0.1 m0.2).trans h.z3,
  (f _ m0.1 m0.2).trans h.f0,(f _ m0.1 m0.2).trans h.f1,(f _ m0.1 m0.2).trans h.f2,(f _ m0.1 m0.2).trans h.f3,?_,?_,h.only.trans ho,Nat.le_trans h.sz ho.size⟩
 ·
  refine World.ownsRow.kept h.own (row:=some g) ⟨ho.os,ho.tape,ho.output,ho.size,fun j hj hne=>hb j hj (fun e=>hne (by rw[e]))⟩ ?_;rcases hv:vL.ownBlock with _|q
  ·
   exact .inl rfl
  ·
   refine .inr fun e=>?_
   injection e with e
   have:=(World.ownsRow.lt h.own q hv).1
   omega
 ·
  exact h.its.mask_go ho.size (fun j hj hs=>hb j hj (by have:=(Qbs.1 hs).1;omega)) (fun _ _ hs=>hs)
theorem LstSt.push(h:LstSt w wr g k vL cells xs)(ho:Only g wr w1)(hg:g<w.heap.size){c0 c1 c2 c3:Value}{x:Itm}(hx:RdI (Qap (Qax wr.heap.size) w1) w1.heap.size (.agg #[c0,c1,c2,c3]) x)(o1 o2:Obj)
  {g2 cap m:Nat} (hm:xs.length=m) (hown:w3.ownsRow (w.heap.size+2) 119 4 (.slice (some ⟨g2,0,none⟩) (m+1) cap) (m+1) (cells++[c0,c1,c2,c3])) (hgr:((w1.alloc o1).alloc o2).grownBy w3 vL.ownBlock) (hor:vL.ownBlock=some g2∨g2=((w1.alloc o1).alloc o2).heap.size) :
  LstSt w (w3.setCell ⟨w.heap.size+1,3,none⟩ (.slice (some ⟨g2,0,none⟩) (m+1) cap)) g k (.slice (some ⟨g2,0,none⟩) (m+1) cap) (cells++[c0,c1,c2,c3]) (xs++[x]):=by
 subst hm;have h1:=((h.on ho hg).on ((Only.refl g w1).alloc o1) hg).on ((Only.refl g _).alloc o2) hg;have hz2:((w1.alloc o1).alloc o2).heap.size=w1.heap.size+2:=by simp
 have hzr:=ho.size;have hsz:=h.sz;have hlt:=fun q (e:vL.ownBlock=some q)=>World.ownsRow.lt h.own q e
 have hz3:=hgr.size;have hb:∀ j,j<((w1.alloc o1).alloc o2).heap.size→vL.ownBlock≠some j→w3.heap[j]?=((w1.alloc o1).alloc o2).heap[j]?:=fun j hj hne=>hgr.block j hj (fun e=>hne e.symm)
 have Qdq:∀ j,j<w.heap.size+2→vL.ownBlock≠some j:=fun j hj e=>by have:=(hlt j e).1;omega
 have c:=fun (q:Addr) (hq:q.block<w.heap.size+2)=>World.cell?_of_block (w:=(w1.alloc o1).alloc o2) (a:=q) (hb q.block (by omega) (Qdq _ hq))
 have f:=fun (q:Addr) (hq:q.block<w.heap.size+2)=>World.frozen?_of_block (w:=(w1.alloc o1).alloc o2) (a:=q) (hb q.block (by omega) (Qdq _ hq))
 have m0:w.heap.size<w.heap.size+2:=by omega
 have m1:w.heap.size+1<w.heap.size+2:=by omega
 have k0:∀ j u,w3.cell? ⟨w.heap.size,j,none⟩=some u→(w3.setCell ⟨w.heap.size+1,3,none⟩ (.slice (some ⟨g2,0,none⟩) (xs.length+1) cap)).cell? ⟨w.heap.size,j,none⟩=some u:=fun j u hu=>by
  rw[World.cell?_setCell_far _ _ _ _ (by show w.heap.size+1≠w.heap.size;omega)];exact hu
 have hnew:∀ j,j<((w1.alloc o1).alloc o2).heap.size→vL.ownBlock≠some j→g2≠j:=fun j hj hne e=>by
  rcases hor with e2|e2
  ·
   exact hne (by rw[e2,e])
  ·
   omega
 refine⟨Qbc (by decide) ((c _ m1).trans h1.b0),Qbc (by decide) ((c _ m1).trans h1.b1),Qbc (by decide) ((c _ m1).trans h1.b2),World.cell?_setCell_same _ _ _ ((c _ m1).trans h1.b3),by rw[World.frozen?_setCell];exact(f _ m1).trans h1.bf,
  k0 _ _ ((c _ m0).trans h1.z0),k0 _ _ ((c _ m0).trans h1.z1),k0 _ _ ((c _ m0).trans h1.z2),k0 _ _ ((c _ m0).trans h1.z3),
  by rw[World.frozen?_setCell];exact(f _ m0).trans h1.f0,by rw[World.frozen?_setCell];exact(f _ m0).trans h1.f1,by rw[World.frozen?_setCell];exact(f _ m0).trans h1.f2,by rw[World.frozen?_setCell];exact(f _ m0).trans h1.f3,?_,?_,?_,?_⟩
 ·
  rw[List.length_append,List.length_singleton]
  refine World.ownsRow.kept hown (row:=some (w.heap.size+1)) ⟨rfl,rfl,rfl,by simp[World.setCell],fun j _ hne=>Below.heap_setCell _ _ _ _ (fun e=>hne (by rw[e]))⟩ (.inr fun e=>?_);have:=(World.ownsRow.lt hown g2 rfl).1
  injection e with e
  simp at e;omega
 ·
  refine ItC.snoc ?_ ?_
  ·
   refine hx.mask_go (by simp[World.setCell];omega) (fun j hj hs=>?_) (fun j hj hs=>?_)
   ·
    have hs':=Qaz.1 hs;have hne:vL.ownBlock≠some j:=fun e=>by have:=(hlt j e).2;omega
    rw[Below.heap_setCell _ _ _ _ (by show j≠w.heap.size+1;omega),hb j (by omega) hne,Below.heap_alloc _ _ _ (by simp;omega),Below.heap_alloc _ _ _ hj]
   ·
    have hs':=Qaz.1 hs;have hne:vL.ownBlock≠some j:=fun e=>by have:=(hlt j e).2;omega
    exact Qbs.2 ⟨by omega,fun e=>hnew j (by omega) hne (by injection e)⟩
  ·
   refine(h1.its).mask_go (by simp[World.setCell];omega) (fun j hj hs=>?_) (fun j hj hs=>?_)
   ·
    have hs':=Qbs.1 hs;rw[Below.heap_setCell _ _ _ _ (by show j≠w.heap.size+1;omega),hb j hj hs'.2]
   ·
    have hs':=Qbs.1 hs;exact Qbs.2 ⟨hs'.1,fun e=>hnew j hj hs'.2 (by injection e)⟩
 ·
  have ho1:=h1.only;refine⟨hgr.os.trans ho1.os,hgr.tape.trans ho1.tape,hgr.output.trans ho1.output,by simp[World.setCell];omega,fun j hj hne=>?_⟩;rw[Below.heap_setCell _ _ _ _ (by show j≠w.heap.size+1;omega),hb j (by omega) (Qdq j (by omega))]
  exact ho1.block j hj hne
 ·
  simp[World.setCell];omega
theorem LstSt.far(h:LstSt w wr g k vL cells xs)(hgr:wr.grownBy w3 vL.ownBlock):w3.cell? ⟨w.heap.size+1,3,none⟩=some vL∧w3.frozen? ⟨w.heap.size+1,3,none⟩=false∧Below (w.heap.size+2) wr w3:=by
 have hsz:=h.sz;have hb:Below (w.heap.size+2) wr w3:=⟨hgr.os,hgr.tape,hgr.output,hgr.size,fun j hj=>hgr.block j (by omega) (fun e=>by have:=(World.ownsRow.lt h.own j e.symm).1;omega)⟩
 exact⟨(hb.cell (p:=⟨w.heap.size+1,3,none⟩) (Nat.lt_succ_self _)).trans h.b3,(hb.frozen (p:=⟨w.heap.size+1,3,none⟩) (Nat.lt_succ_self _)).trans h.bf,hb⟩
theorem RSt.setFar{n c i p d b j:Nat}{A:OA}{bs:LB}(h:RSt w g A n c bs i p d)(hb:g<b)(u:Value):RSt (w.setCell ⟨b,j,none⟩ u) g A n c bs i p d :=
 h.below (B:=b) ((Below.refl b w).setCell (p:=⟨b,j,none⟩) zr u) hb
theorem LstSt.read(h:LstSt w wr g k vL cells xs)(hk:(Lit.int .i64 k).wf=true)(hl:xs.length≤140737488355328):RdI (Qap (Qax (w.heap.size+2)) wr) wr.heap.size (.agg #[.int .i64 k,.int .u64 0,.slice none 0 0,vL]) (.mk k 0 [] xs):=by
 rcases h.own.2 with ⟨hv,h0⟩|⟨q,cap,cur,hv,hbq,hgq,hnc,hcm,hcs,htake⟩
 ·
  have e:xs=[]:=List.eq_nil_of_length_eq_zero h0;subst e;rw[hv]
  exact(RdI.mk_data (w:=wr) (B:=wr.heap.size) (nd:=0) (cd:=0) (A:=none) hk zr (by decide) Rd.nil_).bare
 ·
  have hlt:=World.ownsRow.lt h.own q (by rw[hv];rfl);have hown:=h.own;rw[hv] at hown ⊢
  refine RdI.mk_list hk hnc hl rfl hlt.2 (ItC.lie (h.its.mask_go zr (fun _ _ _=>rfl) (fun j _ hs=>Qaz.2 (Qbs.1 hs).1)) fun j u hj=>?_);have hjl:j<xs.length*4:=by
   rw[← hown.1]
   rcases Nat.lt_or_ge j cells.length with h|h
   ·
    exact h
   ·
    rw[List.getElem?_eq_none h] at hj;cases hj
  rw[Nat.zero_add,Qaq (Qaz.2 hlt.1),World.ownsRow.cellAt hown j hjl]
  exact hj
end
open Go.Lib (hid)
def Qnn(D:Nat):Prop:=∀ (w:World) (g:Nat) (A:OA) (n c:Nat) (bs:LB) (i p d:Nat),d+D=8→p≤4096→RSt w g A n c bs i p d →
  Calls Tryz.prog 150 #[.pointer (some ⟨g,0,none⟩)] w (Qc0 g A n c bs d (dec D p (bs.drop i)) w)
def Qxr(xs:List Itm)(r:Except Int (List Itm×Nat×List UInt8)):Except Int (List Itm×Nat×List UInt8) :=
 match r with
 | .error z=>.error z
 | .ok (ys,q,l')=>.ok (xs++ys,q,l')
def lst(k:Int)(r:Except Int (List Itm×Nat×List UInt8)):Except Int (Itm×Nat×List UInt8) :=
 match r with
 | .error z=>.error z
 | .ok (xs,q,l')=>.ok (.mk k 0 [] xs,q,l')
theorem Qpx(r:Except Int (List Itm×Nat×List UInt8)):Qxr [] r=r:=by
 rcases r with z|⟨ys,q,l'⟩ <;> rfl
structure ArrSt (w wr:World) (g:Nat) (A:OA) (n c:Nat) (bs:LB) (d D m j i p:Nat) (vL:Value) (cells:List Value) (xs:List Itm) (R:Except Int (List Itm×Nat×List UInt8)):Prop where
 st:RSt wr g A n c bs i p (d+1)
 ls:LstSt w wr g 4 vL cells xs
 hj:j≤m
 hl:xs.length=j
 hp:p≤4096
 hjp:j≤p
 eq:R=Qxr xs (Qg4 (dec D) (m - j) p (bs.drop i))
section
variable {w wr w1 w3:World}{g n c i p d D m j:Nat}{A:OA}{bs:LB}{vL:Value}{cells:List Value}{xs:List Itm}{R:Except Int (List Itm×Nat×List UInt8)}
theorem Qmk{sub:Nat→List UInt8→Except Int (Itm×Nat×List UInt8)}(k:Nat)(p:Nat)(l:LB)(hk:0<k):Qg4 sub k p l=match sub p l with
  | .error e=>.error e
  | .ok (x,p1,l1)=>match Qg4 sub (k - 1) p1 l1 with
   | .error e=>.error e
   | .ok (xs,p2,l2)=>.ok (x::xs,p2,l2):=by
 obtain⟨q,rfl⟩:∃ q,k=q+1:=⟨k - 1,by omega⟩
 rw[Qg4,Nat.add_sub_cancel]
 rcases sub p l with z|⟨x,p1,l1⟩
 ·
  rfl
 ·
  rcases Qg4 sub q p1 l1 with z|⟨ys,p2,l2⟩ <;> rfl
theorem ArrSt.fail(h:ArrSt w wr g A n c bs d D m j i p vL cells xs R)(hj:j<m){z:Int}(he:dec D p (bs.drop i)=.error z):R=.error z:=by
 rw[h.eq,Qmk _ _ _ (by omega),he]
 rfl
theorem ArrSt.next(h:ArrSt w wr g A n c bs d D m j i p vL cells xs R)(hj:j<m){x:Itm}{p1 i1:Nat}{l1:LB}(he:dec D p (bs.drop i)=.ok (x,p1,l1))(hl1:bs.drop i1=l1){w4:World}{vL':Value}{cells':List Value}
  (hst:RSt w4 g A n c bs i1 p1 (d+1)) (hls:LstSt w w4 g 4 vL' cells' (xs++[x])):ArrSt w w4 g A n c bs d D m (j+1) i1 p1 vL' cells' (xs++[x]) R:=by
 obtain⟨-,-,-,-,e5,e6⟩:=Qqp D p _ x p1 l1 h.hp he;have hpp:=Qoj x;have hjp:=h.hjp;refine⟨hst,hls,by omega,by rw[List.length_append,List.length_singleton,h.hl],e6,by omega,?_⟩;rw[h.eq,Qmk _ _ _ (by omega),he,hl1,Nat.sub_sub]
 show Qxr xs (match Qg4 (dec D) (m - (j+1)) p1 l1 with | .error e=>.error e | .ok (ys,p2,l2)=>.ok (x::ys,p2,l2))=_;rcases Qg4 (dec D) (m - (j+1)) p1 l1 with z|⟨ys,q,l'⟩
 ·
  rfl
 ·
  simp[Qxr]
theorem ArrSt.done(h:ArrSt w wr g A n c bs d D m j i p vL cells xs R)(hj:¬ j<m):R=.ok (xs,p,bs.drop i):=by
 have:=h.hj
 rw[h.eq,show m - j=0 by omega,Qg4,Qxr,List.append_nil]
theorem Qwj(IH:Hid (Qnn D))(hD:d+1+D=8)(hp:p≤4096)(h:RSt w g A n c bs i p d)(m:Nat)(hm:m<18446744073709551616) :
  Calls Tryz.prog 183 #[.pointer (some ⟨g,0,none⟩),.int .u64 (m:Int)] w (Qc0 g A n c bs d (lst 4 (Qg4 (dec D) m p (bs.drop i))) w):=by
 obtain⟨R,hR⟩:∃ R,R=Qg4 (dec D) m p (bs.drop i):=⟨_,rfl⟩
 rw[← hR]
 have hg:=h.lt;have HG:=hid hg;have hls:=LstSt.start hg 4;have hs0:=(h.alloc zk0).alloc (zo1 4 0 none 0 0 none 0 0);have q3:=hs0.c3;have qf:=hs0.f3;have hs1:=hs0.set3 (z:=(d:Int)+1) (d+1) (by omega);have hls1:=hls.on ((Only.refl g _).setCell (p:=⟨g,3,none⟩) rfl (.int .i64 ((d:Int)+1))) hg;have HST:=hid (show ArrSt w _ g A n c bs d D m 0 i p (.slice none 0 0) [] [] R from⟨hs1,hls1,Nat.zero_le _,rfl,hp,Nat.zero_le _,by rw[Nat.sub_zero,Qpx];exact hR⟩);have hd8:d≤8:=by omega
 obtain⟨i0,hi0,hz0,hz1,hz2⟩:=info_parts Qbr;have HI:=hid hi0;have HI0:=hid hz0;have HI1:=hid hz1;have HI2:=hid hz2;clear hR hls hs0 hs1 hls1 h hg hi0 hz0 hz1 hz2 hp;go_enter Tryz.func183,Tryz.ntmps183;go_wp2_with fail;go_loopw [18] (fun cnt wr=>∃ (j i p:Nat) (vL:Value) (cells:List Value) (xs:List Itm),cnt=.int .u64 (j:Int)∧j≤m∧Hid (ArrSt w wr g A n c bs d D m j i p vL cells xs R)) (fun cnt _=>m - (intOf cnt).toNat)
 case atStart=>exact⟨0,i,p,_,_,_,rfl,Nat.zero_le _,HST.out⟩
 case round =>
  obtain⟨j,i,p,vL,cells,xs,rfl,hj,hst⟩:=hrel;clear HST q3 qf;by_cases hlt:j<m
  ·
   have C1:=IH.out wr g A n c bs i p (d+1) (by omega) hst.out.hp hst.out.st;rcases hres:dec D p (bs.drop i) with z|⟨x,p1,l1⟩
   ·
    rw[hres] at C1
    have hRz:=hst.out.fail hlt hres;have HC:=hid C1;clear C1 hres;go_wp2_with fail;refine HC.out.mono ?_;rintro e w1 ⟨rfl,ho⟩;have hls2:=(hst.out.ls.on ho HG.out).on ((Only.refl g w1).alloc zk0) HG.out;have z0:=hls2.z0;have z1:=hls2.z1;have z2:=hls2.z2;have z3:=hls2.z3;have f0:=hls2.f0;have f1:=hls2.f1;have f2:=hls2.f2;have f3:=hls2.f3;have HO:=hid hls2.only;have HRZ:=hid hRz;clear ho hls2 hRz;unfold Qaw flt;go_wp2_with fail;refine bodyPost_ret (v:=.tuple #[Qaw,flt z]) (by simp[results,Tryz.results183,go_sem,z0,z1,z2,z3,Qaw,flt]) rfl ?_;rw[HRZ.out]
    exact⟨rfl,Qat HO.out zr⟩
   ·
    rw[hres] at C1
    have HC:=hid C1;have HRES:=hid hres;have hj4:j≤4096:=Nat.le_trans hst.out.hjp hst.out.hp;have HJ4:=hid hj4;clear C1 hres hj4;go_wp2_with fail;refine HC.out.mono ?_;rintro e w1 ⟨v,i1,rfl,hv,hst1,hl1,ho⟩;obtain⟨k1,n1,A1,nd1,cd1,AL1,nl1,cl1,rfl⟩:=hv.form;have hls1:=hst.out.ls.on ho HG.out;have hls2:=(hls1.on ((Only.refl g w1).alloc (zo1 k1 n1 A1 nd1 cd1 AL1 nl1 cl1)) HG.out)
    have b3:=hls2.b3;have hls3:=hls2.on ((Only.refl g _).alloc (zo1 k1 n1 A1 nd1 cd1 AL1 nl1 cl1)) HG.out;have HOWN:=hid (show World.ownsRow _ _ _ _ _ j _ by have:=hls3.own;rwa[hst.out.hl] at this);have HLS3:=hid hls3;have HV:=hid hv;have HST1:=hid hst1;have HL1:=hid hl1;have HO:=hid ho;clear hv hst1 hl1 ho hls1 hls2 hls3;go_wp2_with (first
     | (at_builtin;refine wpList_append_lies _ rfl (.tmp 30) (.tmp 32) 80 rfl (w.heap.size+2) 119 i0 _ 4 64 Tryz.underlying80 HI.out HI0.out HI1.out HI2.out rfl (by decide) vL j cells rfl HOWN.out ⟨w1.heap.size+1,0,none⟩ 1 1 [.int .i64 k1,.int .u64 (n1:Int),.slice A1 nd1 cd1,.slice AL1 nl1 cl1] rfl rfl (by intro q u hq;match q with|0=>(cases hq;simp[Addr.add])|1=>(cases hq;simp[Addr.add])|2=>(cases hq;simp[Addr.add])|3=>(cases hq;simp[Addr.add])|q+4=>simp at hq) (by intro u hu;simp at hu;rcases hu with rfl|rfl|rfl|rfl <;> rfl) (by decide) (by have:=HJ4.out;unfold maxLen;omega) (by have:=HJ4.out;omega) HLS3.out.sz _ rfl ?_;intro g2 cap2 w3 ho3 hg3 hat hlt3;have HG3:=hid hg3;have HO3:=hid ho3;have HAT:=hid hat;have hfar:=HLS3.out.far hg3;have s3:=hfar.1;have sf:=hfar.2.1;have HB3:=hid hfar.2.2;clear ho3 hg3 hat hlt3 hfar)
     | fail)
    go_roundw
    case rel =>
     have hp:=LstSt.push hst.out.ls HO.out HG.out HV.out _ _ hst.out.hl HO3.out HG3.out HAT.out;have hs3:RSt w3 g A n c bs i1 p1 (d+1):=((HST1.out.alloc _).alloc _).below HB3.out (Nat.lt_of_lt_of_le HG.out (Nat.le_add_right _ 2));exact⟨j+1,i1,p1,_,_,_,by go_num,by omega,hst.out.next hlt HRES.out HL1.out (hs3.setFar (Nat.lt_succ_of_lt HG.out) _) hp⟩
    case measure=>simp[intOf];omega
  ·
   obtain⟨AL,nL,cL,rfl⟩:∃ AL nL cL,vL=.slice AL nL cL:=by
    rcases hst.out.ls.own.2 with ⟨hv,_⟩|⟨q,cap,cur,hv,_⟩ <;> exact⟨_,_,_,hv⟩
   have hR:=hst.out.done hlt;have HST:=hid hst.out.st;have HLS:=hid hst.out.ls;have HJL:Hid (xs.length≤140737488355328):=by show _≤_;have:=hst.out.hjp;have:=hst.out.hp;have:=hst.out.hl;omega
   have q3:=hst.out.st.c3;have qf:=hst.out.st.f3;have e1:((d+1:Nat):Int)=(d:Int)+1:=by omega
   rw[e1] at q3
   have hs1:=hst.out.st.set3 (z:=(d:Int)) d rfl;have ho:=(Only.refl g wr).setCell (p:=⟨g,3,none⟩) rfl (.int .i64 (d:Int));have hls1:=hst.out.ls.on ho HG.out;have HRR:=hid hR;have HLS1:=hid hls1;have HS1:=hid hs1;have b0:=hls1.b0;have b1:=hls1.b1;have b2:=hls1.b2;have b3:=hls1.b3;have z0:=hls1.z0;have z1:=hls1.z1;have z2:=hls1.z2;have z3:=hls1.z3;have f0:=hls1.f0;have f1:=hls1.f1;have f2:=hls1.f2;have f3:=hls1.f3;clear hR hs1 ho hls1 e1 hst;go_wp2_with fail;refine bodyPost_ret (v:=.tuple #[.agg #[.int .i64 4,.int .u64 0,.slice none 0 0,.slice AL nL cL],.nilIface]) (by simp[results,Tryz.results183,go_sem,z0,z1,z2,z3]) rfl ?_
   rw[HRR.out]
   exact⟨_,i,rfl,(HLS1.out.read (by decide) HJL.out).fin zr (by omega) (by omega),HS1.out.set4 HG.out,rfl,Qat HLS1.out.only zr⟩
end
def Qus(w:World)(g n:Nat):Nat:=match w.cell? ⟨g,1,none⟩ with|some (.int _ i)=>n - i.toNat|_=>0
structure EndSt (w wr:World) (g:Nat) (A:OA) (n c:Nat) (bs:LB) (d D f i p:Nat) (vL:Value) (cells:List Value) (xs:List Itm) (R:Except Int (List Itm×Nat×List UInt8)):Prop where
 st:RSt wr g A n c bs i p (d+1)
 ls:LstSt w wr g 5 vL cells xs
 hf:(bs.drop i).length<f
 hp:p≤4096
 hjp:xs.length≤p
 eq:R=Qxr xs (Qez (dec D) f p (bs.drop i))
section
variable {w wr w1 w3:World}{g n c i p d D f:Nat}{A:OA}{bs:LB}{vL:Value}{cells:List Value}{xs:List Itm}{R:Except Int (List Itm×Nat×List UInt8)}
theorem Qmm(h:RSt w g A n c bs i p d):Qus w g n=n - i:=by unfold Qus;rw[h.c1];rfl
theorem Qm6{sub:Nat→List UInt8→Except Int (Itm×Nat×List UInt8)}(k:Nat)(p:Nat)(x:UInt8)(r:LB)(hk:0<k)(hx:x≠0xff):Qez sub k p (x::r)=match sub p (x::r) with
  | .error e=>.error e
  | .ok (x,p1,l1)=>match Qez sub (k - 1) p1 l1 with
   | .error e=>.error e
   | .ok (xs,p2,l2)=>.ok (x::xs,p2,l2):=by
 obtain⟨q,rfl⟩:∃ q,k=q+1:=⟨k - 1,by omega⟩
 rw[Qez,if_neg hx,Nat.add_sub_cancel]
 rcases sub p (x::r) with z|⟨x,p1,l1⟩
 ·
  rfl
 ·
  rcases Qez sub q p1 l1 with z|⟨ys,p2,l2⟩ <;> rfl
theorem Q0z(D p:Nat):dec D p []=.error 30:=by cases D <;> rfl
theorem EndSt.out(h:EndSt w wr g A n c bs d D f i p vL cells xs R)(he:¬ i<n):R=.error 30∧dec D p (bs.drop i)=.error 30:=by
 have hl:=h.st.rd.1;have e:bs.drop i=[]:=List.drop_eq_nil_of_le (by omega);obtain⟨q,rfl⟩:∃ q,f=q+1:=⟨f - 1,by have:=h.hf;omega⟩
 rw[h.eq,e]
 exact⟨rfl,Q0z _ _⟩
theorem EndSt.fail(h:EndSt w wr g A n c bs d D f i p vL cells xs R){x:UInt8}(hx:bs.drop i=x::bs.drop (i+1))(hne:x≠0xff){z:Int}(he:dec D p (bs.drop i)=.error z):R=.error z:=by
 have hf:=h.hf;rw[h.eq,hx,Qm6 _ _ _ _ (by omega) hne,← hx,he]
 rfl
theorem EndSt.next(h:EndSt w wr g A n c bs d D f i p vL cells xs R){y:UInt8}(hy:bs.drop i=y::bs.drop (i+1))(hne:y≠0xff){x:Itm}{p1 i1:Nat}{l1:LB}(he:dec D p (bs.drop i)=.ok (x,p1,l1))(hl1:bs.drop i1=l1){w4:World}{vL':Value}{cells':List Value}
  (hst:RSt w4 g A n c bs i1 p1 (d+1)) (hls:LstSt w w4 g 5 vL' cells' (xs++[x])):EndSt w w4 g A n c bs d D (f - 1) i1 p1 vL' cells' (xs++[x]) R∧n - i1<n - i:=by
 obtain⟨e1,-,-,-,e5,e6⟩:=Qqp D p _ x p1 l1 h.hp he;obtain⟨cc,rr,hw,-⟩:=Qww x;have hpp:=Qoj x;have hjp:=h.hjp;have hf:=h.hf;have hl:=h.st.rd.1;have hlen:l1.length<(bs.drop i).length:=by rw[e1,hw];simp;omega
 have hl1':=hlen;rw[← hl1,List.length_drop,List.length_drop] at hl1'
 refine⟨⟨hst,hls,by rw[hl1];omega,e6,by rw[List.length_append,List.length_singleton];omega,?_⟩,by omega⟩;rw[h.eq,hy,Qm6 _ _ _ _ (by omega) hne,← hy,he,hl1]
 show Qxr xs (match Qez (dec D) (f - 1) p1 l1 with | .error e=>.error e | .ok (ys,p2,l2)=>.ok (x::ys,p2,l2))=_;rcases Qez (dec D) (f - 1) p1 l1 with z|⟨ys,q,l'⟩
 ·
  rfl
 ·
  simp[Qxr]
theorem EndSt.on(h:EndSt w wr g A n c bs d D f i p vL cells xs R)(hb:Below wr.heap.size wr w1)(hg:g<w.heap.size):EndSt w w1 g A n c bs d D f i p vL cells xs R :=
 ⟨h.st.below hb h.st.lt,h.ls.on (Only.of_below hb) hg,h.hf,h.hp,h.hjp,h.eq⟩
theorem EndSt.done(h:EndSt w wr g A n c bs d D f i p vL cells xs R)(hy:bs.drop i=0xff::bs.drop (i+1)):R=.ok (xs,p,bs.drop (i+1)):=by
 obtain⟨q,rfl⟩:∃ q,f=q+1:=⟨f - 1,by have:=h.hf;omega⟩
 rw[h.eq,hy,Qez,if_pos rfl,Qxr,List.append_nil]
theorem Qo5(IH:Hid (Qnn D))(hD:d+1+D=8)(hp:p≤4096)(h:RSt w g A n c bs i p d) :
  Calls Tryz.prog 163 #[.pointer (some ⟨g,0,none⟩)] w (Qc0 g A n c bs d (lst 5 (Qez (dec D) ((bs.drop i).length+1) p (bs.drop i))) w):=by
 obtain⟨R,hR⟩:∃ R,R=Qez (dec D) ((bs.drop i).length+1) p (bs.drop i):=⟨_,rfl⟩
 rw[← hR]
 have hg:=h.lt;have HG:=hid hg;have hls:=LstSt.start hg 5;have hs0:=(h.alloc zk0).alloc (zo1 5 0 none 0 0 none 0 0);have q3:=hs0.c3;have qf:=hs0.f3;have hs1:=hs0.set3 (z:=(d:Int)+1) (d+1) (by omega);have hls1:=hls.on ((Only.refl g _).setCell (p:=⟨g,3,none⟩) rfl (.int .i64 ((d:Int)+1))) hg;have HST:=hid (show EndSt w _ g A n c bs d D ((bs.drop i).length+1) i p (.slice none 0 0) [] [] R from⟨hs1,hls1,Nat.lt_succ_self _,hp,Nat.zero_le _,by rw[Qpx];exact hR⟩);have hd8:d≤8:=by omega
 obtain⟨i0,hi0,hz0,hz1,hz2⟩:=info_parts Qbr;have HI:=hid hi0;have HI0:=hid hz0;have HI1:=hid hz1;have HI2:=hid hz2;clear hR hls hs0 hs1 hls1 h hg hi0 hz0 hz1 hz2 hp;go_enter Tryz.func163,Tryz.ntmps163;go_wp2_with fail;go_loopw [6] (fun _ wr=>∃ (f i p:Nat) (vL:Value) (cells:List Value) (xs:List Itm),Hid (EndSt w wr g A n c bs d D f i p vL cells xs R)) (fun _ wr=>Qus wr g n)
 case atStart=>exact⟨_,i,p,_,_,_,HST.out⟩
 case round =>
  obtain⟨f,i,p,vL,cells,xs,hst⟩:=hrel;clear HST q3 qf;have HS:=hid hst.out.st;have g0:=hst.out.st.c0;have g1:=hst.out.st.c1;have C0:=hid (fun k=>Calls.quiet_of (Qzc (hst.out.st.drewN k)));have hin:=hst.out.st.hi;have hn6:=hst.out.st.hn;by_cases hlt:i<n
  ·
   obtain⟨b,o,x,rfl,hcx,hy,hb⟩:=hst.out.st.byte hlt;have HB:=hid hb;have HY:=hid hy;have hz:(((n - i:Nat):Int)==0)=false:=by simp;omega
   have i0':(0:Int)≤(i:Int):=by omega
   have i1':(i:Int)<(n:Int):=by omega
   generalize hZ:n - i=Z at *;clear hb hy hZ;by_cases hff:x=0xff
   ·
    subst hff;have hxf:((255:Int) != 255)=false:=by simp
    have hcx2:wr.cell? ⟨b,o+i,none⟩=some (.int .u8 255):=hcx;clear hcx;go_wp2_with fail;go_quiet (first|(go_at_call 179;exact C0.out _)|fail)
    have HB0:=hid (Qai wr.heap.size wr nq);have hst0:=hst.out.on HB0.out HG.out;obtain⟨AL,nL,cL,rfl⟩:∃ AL nL cL,vL=.slice AL nL cL:=by
     rcases hst.out.ls.own.2 with ⟨hv,_⟩|⟨q,cap,cur,hv,_⟩ <;> exact⟨_,_,_,hv⟩
    have HRR:=hid (hst.out.done HY.out);have HJL:Hid (xs.length≤140737488355328):=by show _≤_;have:=hst.out.hjp;have:=hst.out.hp;omega
    have q3:=hst0.st.c3;have qf:=hst0.st.f3;have e1:((d+1:Nat):Int)=(d:Int)+1:=by omega
    rw[e1] at q3
    have hs1:=hst0.st.set3 (z:=(d:Int)) d rfl;have p1c:=hs1.c1;have p1f:=hs1.f1;have hs2:=hs1.set1 (z:=(i:Int)+1) (i+1) (by omega) (by omega);have ho:=((Only.refl g (wr.drewN nq)).setCell (p:=⟨g,3,none⟩) rfl (.int .i64 (d:Int))).setCell (p:=⟨g,1,none⟩) rfl (.int .i64 ((i:Int)+1));have hls1:=hst0.ls.on ho HG.out;have HLS1:=hid hls1;have HS1:=hid hs2;have b0:=hls1.b0;have b1:=hls1.b1;have b2:=hls1.b2;have b3:=hls1.b3;have z0:=hls1.z0;have z1:=hls1.z1;have z2:=hls1.z2;have z3:=hls1.z3;have f0:=hls1.f0;have f1:=hls1.f1;have f2:=hls1.f2;have f3:=hls1.f3;clear hs1 hs2 ho hls1 e1 hst0;go_wp2_with fail
    refine bodyPost_ret (v:=.tuple #[.agg #[.int .i64 5,.int .u64 0,.slice none 0 0,.slice AL nL cL],.nilIface]) (by simp[results,Tryz.results163,go_sem,z0,z1,z2,z3]) rfl ?_;rw[HRR.out]
    exact⟨_,i+1,rfl,(HLS1.out.read (by decide) HJL.out).fin zr (by omega) (by omega),HS1.out.set4 HG.out,rfl,Qat HLS1.out.only zr⟩
   ·
    have hxf:((x.toNat:Int) != 255)=true:=by
     have:x.toNat≠255:=fun e=>hff (UInt8.toNat_inj.1 e)
     simp;omega
    have HFF:=hid hff;clear hff;generalize x.toNat=X at *;go_wp2_with fail;go_quiet (first|(go_at_call 179;exact C0.out _)|fail)
    have HB0:=hid (Qai wr.heap.size wr nq);have C1:=IH.out (wr.drewN nq) g _ n c bs i p (d+1) (by omega) hst.out.hp (hst.out.st.below HB0.out HS.out.lt);rcases hres:dec D p (bs.drop i) with z|⟨y,p1,l1⟩
    ·
     rw[hres] at C1
     have hRz:=hst.out.fail HY.out HFF.out hres;have HC:=hid C1;clear C1 hres;go_wp2_with fail;refine HC.out.mono ?_;rintro e w1 ⟨rfl,ho⟩;have hls2:=((hst.out.on HB0.out HG.out).ls.on ho HG.out).on ((Only.refl g w1).alloc zk0) HG.out;have z0:=hls2.z0;have z1:=hls2.z1;have z2:=hls2.z2;have z3:=hls2.z3;have f0:=hls2.f0;have f1:=hls2.f1;have f2:=hls2.f2;have f3:=hls2.f3;have HO:=hid hls2.only;have HRZ:=hid hRz;clear ho hls2 hRz;unfold Qaw flt;go_wp2_with fail;refine bodyPost_ret (v:=.tuple #[Qaw,flt z]) (by simp[results,Tryz.results163,go_sem,z0,z1,z2,z3,Qaw,flt]) rfl ?_;rw[HRZ.out]
     exact⟨rfl,Qat HO.out zr⟩
    ·
     rw[hres] at C1
     have HC:=hid C1;have HRES:=hid hres;obtain⟨j,hj⟩:∃ j,j=xs.length:=⟨_,rfl⟩
     have hj4:j≤4096:=by rw[hj];exact Nat.le_trans hst.out.hjp hst.out.hp
     have HJ:=hid hj;have HJ4:=hid hj4;clear C1 hres hj4 hj;go_wp2_with fail;refine HC.out.mono ?_;rintro e w1 ⟨v,i1,rfl,hv,hst1,hl1,ho⟩;obtain⟨k1,n1,A1,nd1,cd1,AL1,nl1,cl1,rfl⟩:=hv.form;have hls1:=(hst.out.on HB0.out HG.out).ls.on ho HG.out;have hls2:=(hls1.on ((Only.refl g w1).alloc (zo1 k1 n1 A1 nd1 cd1 AL1 nl1 cl1)) HG.out)
     have b3:=hls2.b3;have hls3:=hls2.on ((Only.refl g _).alloc (zo1 k1 n1 A1 nd1 cd1 AL1 nl1 cl1)) HG.out;have HOWN:=hid (show World.ownsRow _ _ _ _ _ j _ by have:=hls3.own;rwa[← HJ.out] at this);have HLS3:=hid hls3;have HV:=hid hv;have HST1:=hid hst1;have HL1:=hid hl1;have HO:=hid ho;clear hv hst1 hl1 ho hls1 hls2 hls3;go_wp2_with (first
      | (at_builtin;refine wpList_append_lies _ rfl (.tmp 41) (.tmp 43) 80 rfl (w.heap.size+2) 119 i0 _ 4 64 Tryz.underlying80 HI.out HI0.out HI1.out HI2.out rfl (by decide) vL j cells rfl HOWN.out ⟨w1.heap.size+1,0,none⟩ 1 1 [.int .i64 k1,.int .u64 (n1:Int),.slice A1 nd1 cd1,.slice AL1 nl1 cl1] rfl rfl (by intro q u hq;match q with|0=>(cases hq;simp[Addr.add])|1=>(cases hq;simp[Addr.add])|2=>(cases hq;simp[Addr.add])|3=>(cases hq;simp[Addr.add])|q+4=>simp at hq) (by intro u hu;simp at hu;rcases hu with rfl|rfl|rfl|rfl <;> rfl) (by decide) (by have:=HJ4.out;unfold maxLen;omega) (by have:=HJ4.out;omega) HLS3.out.sz _ rfl ?_;intro g2 cap2 w3 ho3 hg3 hat hlt3;have HG3:=hid hg3;have HO3:=hid ho3;have HAT:=hid hat;have hfar:=HLS3.out.far hg3;have s3:=hfar.1;have sf:=hfar.2.1;have HB3:=hid hfar.2.2;clear ho3 hg3 hat hlt3 hfar)
      | fail)
     have hp:=LstSt.push (hst.out.on HB0.out HG.out).ls HO.out HG.out HV.out _ _ HJ.out.symm HO3.out HG3.out HAT.out;have hs3:RSt w3 g _ n c bs i1 p1 (d+1):=((HST1.out.alloc _).alloc _).below HB3.out (Nat.lt_of_lt_of_le HG.out (Nat.le_add_right _ 2));obtain⟨hnx,hlss⟩:=hst.out.next HY.out HFF.out HRES.out HL1.out (hs3.setFar (j:=3) (Nat.lt_succ_of_lt HG.out) _) hp;have HNX:=hid hnx;have HLS:=hid hlss;clear hp hs3 hnx hlss;go_roundw
     case rel=>exact⟨_,i1,p1,_,_,_,HNX.out⟩
     case measure=>rw[Qmm HNX.out.st,Qmm hst.out.st];exact HLS.out
  ·
   obtain⟨hRz,hres⟩:=hst.out.out hlt;rw[show n - i=0 by omega,show((0:Nat):Int)=0 from rfl] at C0
   go_wp2_with fail;go_quiet (first|(go_at_call 179;exact C0.out _)|fail)
   have HB0:=hid (Qai wr.heap.size wr nq);have C1:=IH.out (wr.drewN nq) g _ n c bs i p (d+1) (by omega) hst.out.hp (hst.out.st.below HB0.out HS.out.lt);rw[hres] at C1
   have HC:=hid C1;clear C1 hres;go_wp2_with fail;refine HC.out.mono ?_;rintro e w1 ⟨rfl,ho⟩;have hls2:=((hst.out.on HB0.out HG.out).ls.on ho HG.out).on ((Only.refl g w1).alloc zk0) HG.out;have z0:=hls2.z0;have z1:=hls2.z1;have z2:=hls2.z2;have z3:=hls2.z3;have f0:=hls2.f0;have f1:=hls2.f1;have f2:=hls2.f2;have f3:=hls2.f3;have HO:=hid hls2.only;have HRZ:=hid hRz;clear ho hls2 hRz;unfold Qaw flt;go_wp2_with fail;refine bodyPost_ret (v:=.tuple #[Qaw,flt 30]) (by simp[results,Tryz.results163,go_sem,z0,z1,z2,z3,Qaw,flt]) rfl ?_;rw[HRZ.out]
   exact⟨rfl,Qat HO.out zr⟩
end
def Qfi(sub:Nat→List UInt8→Except Int (Itm×Nat×List UInt8))(m k p:Nat)(r:LB):Except Int (Itm×Nat×List UInt8) :=
 if m=0 then .ok (.mk 0 k [] [],p,r) else if m=4 then lst 4 (Qg4 sub k p r) else Qe4 m k p r
def Qfq(sub:Nat→List UInt8→Except Int (Itm×Nat×List UInt8))(p:Nat)(rh:Except Int (Nat×Nat×List UInt8)):Except Int (Itm×Nat×List UInt8) :=
 match rh with
 | .error z=>.error z
 | .ok (m,k,r')=>Qfi sub m k p r'
theorem Qi0(W:World):(binOp .eql 234 .nilFunc .nilFunc).run Tryz.prog W=.ok (.bool true) W:=by kernel_rfl
theorem Qhm(f:Fn)(a b:Array Value)(W:World):(binOp .eql 234 (.func f a b) .nilFunc).run Tryz.prog W=.ok (.bool false) W:=by kernel_rfl
section
variable {w:World}{g n c i p d D:Nat}{A:OA}{bs:LB}{sub:Nat→List UInt8→Except Int (Itm×Nat×List UInt8)}{deep:Bool}
theorem Qjr(h:RSt w g A n c bs i p d)(m:Nat)(hm:m<18446744073709551616)(k:Nat)(hk:k=2∨k=3) :
  Calls Tryz.prog (if k=2 then 181 else 182) #[.pointer (some ⟨g,0,none⟩),.int .u64 (m:Int)] w (Qc0 g A n c bs d (Qe4 k m p (bs.drop i)) w):=by
 have hl:(bs.drop i).length=n - i:=by rw[List.length_drop,h.rd.1]
 rcases hk with rfl|rfl
 ·
  rw[if_pos rfl,Qe4,if_neg (by omega)]
  by_cases hs:n - i<m
  ·
   rw[if_pos (by rw[hl];exact hs)]
   exact Qpe h m hs hm
  ·
   rw[if_neg (by rw[hl];exact hs)]
   exact Qyy h m (by omega)
 ·
  rw[if_neg (by decide),Qe4]
  rcases hp:plain ((bs.drop i).take m) with _|_
  ·
   rw[if_pos ⟨rfl,rfl⟩]
   exact Qw0 h m hp
  ·
   rw[if_neg (by simp)]
   by_cases hs:n - i<m
   ·
    rw[if_pos (by rw[hl];exact hs)]
    exact Qq9 h m hp hs
   ·
    rw[if_neg (by rw[hl];exact hs)]
    exact Qz0 h m hp (by omega)
theorem Qyg{x:UInt8}{r:LB}(h:p=4096∨(Qhb x=true∧deep=true)):Qco sub deep p (x::r)=.error 32:=by rw[Qco,if_pos h]
theorem Qu4{x:UInt8}{r:LB}(h:¬ (p=4096∨(Qhb x=true∧deep=true)))(hx:x=0x9f):Qco sub deep p (x::r)=lst 5 (Qez sub (r.length+1) (p+1) r):=by
 rw[Qco,if_neg h,if_pos hx]
 rcases Qez sub (r.length+1) (p+1) r with z|⟨xs,p2,l2⟩ <;> rfl
theorem Qr3{x:UInt8}{r:LB}(h:¬ (p=4096∨(Qhb x=true∧deep=true)))(hx:¬ x=0x9f):Qco sub deep p (x::r)=Qfq sub (p+1) (Qca (x::r)):=by
 rw[Qco,if_neg h,if_neg hx]
 rcases Qca (x::r) with z|⟨m,k,r'⟩
 ·
  rfl
 ·
  show(if m=0 then _ else _)=Qfi sub m k (p+1) r';unfold Qfi;split
  ·
   rfl
  split
  ·
   rcases Qg4 sub k (p+1) r' with z|⟨xs,p2,l2⟩ <;> rfl
  ·
   rfl
theorem Qyo{x:UInt8}{r:LB}(h:Qjj x g=.nilFunc):Qca (x::r)=.error 31:=by
 have hx:=x.toNat_lt;unfold Qjj at h;by_cases h27:27<x.toNat % 32
 ·
  rw[Qca,if_pos (.inr h27)]
 rw[if_neg h27] at h
 by_cases h0:x.toNat / 32=0
 ·
  rw[if_pos h0] at h;cases h
 rw[if_neg h0] at h
 by_cases h2:x.toNat / 32=2
 ·
  rw[if_pos h2] at h;cases h
 rw[if_neg h2] at h
 by_cases h3:x.toNat / 32=3
 ·
  rw[if_pos h3] at h;cases h
 rw[if_neg h3] at h
 by_cases h4:x.toNat / 32=4
 ·
  rw[if_pos h4] at h;cases h
 rw[Qca,if_pos (.inl ⟨h0,h2,h3,h4⟩)]
theorem Qf4{x:UInt8}{r r':LB}{m k:Nat}(h:Qca (x::r)=.ok (m,k,r')):m=x.toNat / 32∧k<18446744073709551616:=by
 refine⟨?_,(Qqf h).2.1⟩;rw[Qca] at h
 split at h
 ·
  cases h
 split at h
 ·
  cases h;rfl
 split at h
 ·
  cases h
 split at h
 ·
  cases h
 ·
  cases h;rfl
theorem Qyd(h:RSt w g A n c bs i p d)(hl:¬ i<n) :
  Calls Tryz.prog 150 #[.pointer (some ⟨g,0,none⟩)] w fun e w'=>e=.returned (.tuple #[Qaw,flt 30])∧Only g w w':=by
 obtain rfl:i=n:=by have:=h.hi;omega
 have hs:=h.alloc zk0;have g0:=hs.c0;have g1:=hs.c1;clear h hs hl;go_enter Tryz.func150,Tryz.ntmps150;go_wp2_with fail;go_quiet (fail)
 obtain⟨⟨z0,z1,z2,z3⟩,f0,f1,f2,f3⟩:=Qa4 (w:=w) (W':=(w.alloc zk0).drewN nq) (Qai _ _ _);have HB:=hid (((Below.refl w.heap.size w).alloc zr zk0).trans (Qai _ _ nq));go_wp2_with fail;refine bodyPost_ret (v:=.tuple #[Qaw,flt 30]) (by simp[results,Tryz.results150,go_sem,z0,z1,z2,z3,Qaw,flt]) rfl ⟨rfl,Qat (Only.of_below HB.out) zr⟩
theorem Qu0(h:RSt w g A n c bs i p d)(hl:i<n)(x:UInt8)(hx:bs.drop i=x::bs.drop (i+1))(hp:p=4096) :
  Calls Tryz.prog 150 #[.pointer (some ⟨g,0,none⟩)] w fun e w'=>e=.returned (.tuple #[Qaw,flt 32])∧Only g w w':=by
 obtain⟨b,o,y,rfl,hcx,hy,hb⟩:=h.byte hl;rw[hx] at hy
 obtain⟨rfl,-⟩:=List.cons.inj hy;have hs:=h.alloc zk0;have g0:=hs.c0;have g1:=hs.c1;have HS:=hid hs;have HG:=hid h.lt;have HBL:=hid hb;have hcx2:(w.alloc zk0).cell? ⟨b,o+i,none⟩=some (.int .u8 (x.toNat:Int)):=by rw[World.cell?_alloc_lt _ _ _ (Nat.lt_trans hb h.lt)];exact hcx
 have hz:((i:Int)==(n:Int))=false:=by simp;omega
 have i0':(0:Int)≤(i:Int):=by omega
 have i1':(i:Int)<(n:Int):=by omega
 have hn6:=h.hn;clear hs hy hb hcx;have hp1:decide ((4096:Int)<(p:Int)+1)=true:=decide_eq_true (by omega);have hp2:(4096:Int)<(p:Int)+1:=by omega
 have hp5:p≤4096:=by omega
 generalize x.toNat=X at *;clear hx hp;clear h;go_enter Tryz.func150,Tryz.ntmps150;go_wp2_with fail;go_quiet (fail)
 have g0':((w.alloc zk0).drewN nq).cell? ⟨g,0,none⟩=some (.slice (some ⟨b,o,none⟩) n c):=g0;have g1':((w.alloc zk0).drewN nq).cell? ⟨g,1,none⟩=some (.int .i64 (i:Int)):=g1;have hcx3:((w.alloc zk0).drewN nq).cell? ⟨b,o+i,none⟩=some (.int .u8 (X:Int)):=hcx2;have HX1:=hid (Qai (w.heap.size+1) (w.alloc zk0) nq);have HS1:=hid (HS.out.drewN nq);generalize (w.alloc zk0).drewN nq=W1 at *;go_wp2_with fail;go_quiet (fail)
 have HX2:=hid (HX1.out.trans (Qai (w.heap.size+1) W1 nq));have HS2:=hid (HS1.out.drewN nq);have g2':=HS2.out.c2;have q2':=HS2.out.f2;generalize W1.drewN nq=W2 at *;have hs3:=HS2.out.set2 (z:=(p:Int)+1) (p+1) (by omega);have r1:=hs3.c1;have rf1:=hs3.f1;have r2:=hs3.c2;have r3:=hs3.c3;have e1:((p+1:Nat):Int)=(p:Int)+1:=by omega
 rw[e1] at r2
 have HS3:=hid hs3;have HOX:=hid ((Only.of_below (g:=g) (show Below (w.alloc zk0).heap.size (w.alloc zk0) W2 by have:=HX2.out;rwa[show(w.alloc zk0).heap.size=w.heap.size+1 by simp])).setCell (p:=⟨g,2,none⟩) rfl (.int .i64 ((p:Int)+1)));have HOW:=hid (((Only.refl g w).alloc zk0).trans HOX.out);clear hs3 e1 g0 g1 g0' g1' hcx2 hcx3 HX1 HS1;obtain⟨⟨z0,z1,z2,z3⟩,f0,f1,f2,f3⟩:=Qa6 HOX.out HG.out;go_wp2_with fail;refine bodyPost_ret (v:=.tuple #[Qaw,flt 32]) (by simp[results,Tryz.results150,go_sem,z0,z1,z2,z3,Qaw,flt]) rfl ⟨rfl,Qat HOW.out zr⟩
theorem Qu1(h:RSt w g A n c bs i p d)(hl:i<n)(x:UInt8)(hx:bs.drop i=x::bs.drop (i+1))(hp:p<4096)(ha:Qhb x=true)(hd:d=8) :
  Calls Tryz.prog 150 #[.pointer (some ⟨g,0,none⟩)] w fun e w'=>e=.returned (.tuple #[Qaw,flt 32])∧Only g w w':=by
 obtain⟨b,o,y,rfl,hcx,hy,hb⟩:=h.byte hl;rw[hx] at hy
 obtain⟨rfl,-⟩:=List.cons.inj hy;have hs:=h.alloc zk0;have g0:=hs.c0;have g1:=hs.c1;have HS:=hid hs;have HG:=hid h.lt;have HBL:=hid hb;have hcx2:(w.alloc zk0).cell? ⟨b,o+i,none⟩=some (.int .u8 (x.toNat:Int)):=by rw[World.cell?_alloc_lt _ _ _ (Nat.lt_trans hb h.lt)];exact hcx
 have hz:((i:Int)==(n:Int))=false:=by simp;omega
 have i0':(0:Int)≤(i:Int):=by omega
 have i1':(i:Int)<(n:Int):=by omega
 have hn6:=h.hn;clear hs hy hb hcx;have hp1:decide ((4096:Int)<(p:Int)+1)=false:=decide_eq_false (by omega);have hp2:(p:Int)+1≤4096:=by omega
 have C1:=hid (fun W=>Qcq x W);rw[ha] at C1
 generalize x.toNat=X at *;subst hd;clear hx;clear h;go_enter Tryz.func150,Tryz.ntmps150;go_wp2_with fail;go_quiet (fail)
 have g0':((w.alloc zk0).drewN nq).cell? ⟨g,0,none⟩=some (.slice (some ⟨b,o,none⟩) n c):=g0;have g1':((w.alloc zk0).drewN nq).cell? ⟨g,1,none⟩=some (.int .i64 (i:Int)):=g1;have hcx3:((w.alloc zk0).drewN nq).cell? ⟨b,o+i,none⟩=some (.int .u8 (X:Int)):=hcx2;have HX1:=hid (Qai (w.heap.size+1) (w.alloc zk0) nq);have HS1:=hid (HS.out.drewN nq);generalize (w.alloc zk0).drewN nq=W1 at *;go_wp2_with fail;go_quiet (fail)
 have HX2:=hid (HX1.out.trans (Qai (w.heap.size+1) W1 nq));have HS2:=hid (HS1.out.drewN nq);have g2':=HS2.out.c2;have q2':=HS2.out.f2;generalize W1.drewN nq=W2 at *;have hs3:=HS2.out.set2 (z:=(p:Int)+1) (p+1) (by omega);have r1:=hs3.c1;have rf1:=hs3.f1;have r2:=hs3.c2;have r3:=hs3.c3;have e1:((p+1:Nat):Int)=(p:Int)+1:=by omega
 rw[e1] at r2
 have HS3:=hid hs3;have HOX:=hid ((Only.of_below (g:=g) (show Below (w.alloc zk0).heap.size (w.alloc zk0) W2 by have:=HX2.out;rwa[show(w.alloc zk0).heap.size=w.heap.size+1 by simp])).setCell (p:=⟨g,2,none⟩) rfl (.int .i64 ((p:Int)+1)));have HOW:=hid (((Only.refl g w).alloc zk0).trans HOX.out);clear hs3 e1 g0 g1 g0' g1' hcx2 hcx3 HX1 HS1;go_wp2_with fail;refine(C1.out _).mono ?_;rintro e w3 ⟨rfl,rfl⟩;obtain⟨⟨z0,z1,z2,z3⟩,f0,f1,f2,f3⟩:=Qa6 HOX.out HG.out;go_wp2_with fail;refine bodyPost_ret (v:=.tuple #[Qaw,flt 32]) (by simp[results,Tryz.results150,go_sem,z0,z1,z2,z3,Qaw,flt]) rfl ⟨rfl,Qat HOW.out zr⟩
theorem Qmr(h:RSt w g A n c bs i p d)(hl:i<n)(x:UInt8)(hx:bs.drop i=x::bs.drop (i+1))(hp:p<4096)(h9:x=0x9f)(hd:d<8)(D':Nat)(hD:d+1+D'=8)(IH:Hid (Qnn D')) :
  Calls Tryz.prog 150 #[.pointer (some ⟨g,0,none⟩)] w (Qc0 g A n c bs d (lst 5 (Qez (dec D') ((bs.drop (i+1)).length+1) (p+1) (bs.drop (i+1)))) w):=by
 subst h9;obtain⟨b,o,y,rfl,hcx,hy,hb⟩:=h.byte hl;rw[hx] at hy
 obtain⟨hyx,-⟩:=List.cons.inj hy;rw[← hyx,show((0x9f:UInt8).toNat:Int)=159 from rfl] at hcx
 have hs:=h.alloc zk0;have g0:=hs.c0;have g1:=hs.c1;have HS:=hid hs;have HG:=hid h.lt;have HBL:=hid hb;have hcx2:(w.alloc zk0).cell? ⟨b,o+i,none⟩=some (.int .u8 159):=by rw[World.cell?_alloc_lt _ _ _ (Nat.lt_trans hb h.lt)];exact hcx
 have hz:((i:Int)==(n:Int))=false:=by simp;omega
 have i0':(0:Int)≤(i:Int):=by omega
 have i1':(i:Int)<(n:Int):=by omega
 have hn6:=h.hn;clear hs hy hb hcx;have hp1:decide ((4096:Int)<(p:Int)+1)=false:=decide_eq_false (by omega);have hp2:(p:Int)+1≤4096:=by omega
 have C1:=hid (fun W=>Qcq 0x9f W);rw[show Qhb 0x9f=true from rfl,show((0x9f:UInt8).toNat:Int)=159 from rfl] at C1
 have hd8:((d:Int)==8)=false:=by simp;omega
 obtain⟨r,hr⟩:∃ r,r=lst 5 (Qez (dec D') ((bs.drop (i+1)).length+1) (p+1) (bs.drop (i+1))):=⟨_,rfl⟩
 rw[← hr]
 have HR:=hid hr;clear hx hr hyx;clear h;go_enter Tryz.func150,Tryz.ntmps150;go_wp2_with fail;go_quiet (fail)
 have g0':((w.alloc zk0).drewN nq).cell? ⟨g,0,none⟩=some (.slice (some ⟨b,o,none⟩) n c):=g0;have g1':((w.alloc zk0).drewN nq).cell? ⟨g,1,none⟩=some (.int .i64 (i:Int)):=g1;have hcx3:((w.alloc zk0).drewN nq).cell? ⟨b,o+i,none⟩=some (.int .u8 159):=hcx2;have HX1:=hid (Qai (w.heap.size+1) (w.alloc zk0) nq);have HS1:=hid (HS.out.drewN nq);generalize (w.alloc zk0).drewN nq=W1 at *;go_wp2_with fail;go_quiet (fail)
 have HX2:=hid (HX1.out.trans (Qai (w.heap.size+1) W1 nq));have HS2:=hid (HS1.out.drewN nq);have g2':=HS2.out.c2;have q2':=HS2.out.f2;generalize W1.drewN nq=W2 at *;have hs3:=HS2.out.set2 (z:=(p:Int)+1) (p+1) (by omega);have r1:=hs3.c1;have rf1:=hs3.f1;have r2:=hs3.c2;have r3:=hs3.c3;have e1:((p+1:Nat):Int)=(p:Int)+1:=by omega
 rw[e1] at r2
 have HS3:=hid hs3;have HOX:=hid ((Only.of_below (g:=g) (show Below (w.alloc zk0).heap.size (w.alloc zk0) W2 by have:=HX2.out;rwa[show(w.alloc zk0).heap.size=w.heap.size+1 by simp])).setCell (p:=⟨g,2,none⟩) rfl (.int .i64 ((p:Int)+1)));have HOW:=hid (((Only.refl g w).alloc zk0).trans HOX.out);clear hs3 e1 g0 g1 g0' g1' hcx2 hcx3 HX1 HS1;have hs4:=HS3.out.set1 (z:=(i:Int)+1) (i+1) (by omega) (by omega);have HOY:=hid (HOX.out.setCell (p:=⟨g,1,none⟩) rfl (.int .i64 ((i:Int)+1)));have hc:=Qo5 IH hD (by omega:p+1≤4096) hs4;rw[← HR.out] at hc
 have HC:=hid hc;have HZY:Hid (w.heap.size+1≤((W2.setCell ⟨g,2,none⟩ (.int .i64 ((p:Int)+1))).setCell ⟨g,1,none⟩ (.int .i64 ((i:Int)+1))).heap.size):=by show _≤_;have:=HOY.out.size;simpa using this
 clear hs4 hc;go_wp2_with fail;refine(C1.out _).mono ?_;rintro e w3 ⟨rfl,rfl⟩;go_wp2_with fail;refine HC.out.mono ?_;rintro e w4 hg4;rcases r with z|⟨x2,p2,l2⟩
 ·
  obtain⟨rfl,ho4⟩:=hg4;obtain⟨⟨z0,z1,z2,z3⟩,f0,f1,f2,f3⟩:=Qa6 (HOY.out.trans ho4) HG.out;have HOZ:=hid (((Only.refl g w).alloc zk0).trans (HOY.out.trans ho4));clear ho4;unfold Qaw flt;go_wp2_with fail;refine bodyPost_ret (v:=.tuple #[Qaw,flt z]) (by simp[results,Tryz.results150,go_sem,z0,z1,z2,z3,Qaw,flt]) rfl ⟨rfl,Qat HOZ.out zr⟩
 ·
  obtain⟨v,i2,rfl,hv,hs4,hl2,ho4⟩:=hg4;obtain⟨k1,n1,A1,nd1,cd1,AL1,nl1,cl1,rfl⟩:=hv.form;obtain⟨⟨z0,z1,z2,z3⟩,f0,f1,f2,f3⟩:=Qa6 (HOY.out.trans ho4) HG.out;have HOZ:=hid (((Only.refl g w).alloc zk0).trans (HOY.out.trans ho4));have HV:=hid hv;have HS4:=hid hs4;have HL2:=hid hl2;clear ho4 hv hs4 hl2;go_wp2_with fail;refine bodyPost_ret (v:=.tuple #[.agg #[.int .i64 k1,.int .u64 (n1:Int),.slice A1 nd1 cd1,.slice AL1 nl1 cl1],.nilIface]) (by simp[results,Tryz.results150,go_sem,z0,z1,z2,z3]) rfl ?_;exact⟨_,i2,rfl,HV.out.fin zr HZY.out (Nat.le_of_succ_le HZY.out),HS4.out.set4 HG.out,HL2.out,Qat HOZ.out zr⟩
theorem Quz(h:RSt w g A n c bs i p d)(hl:i<n)(x:UInt8)(hx:bs.drop i=x::bs.drop (i+1))(hp:p<4096)(h9:¬ x=0x9f)(ha:Qhb x=false)(hb:Qjj x g=.nilFunc) :
  Calls Tryz.prog 150 #[.pointer (some ⟨g,0,none⟩)] w fun e w'=>e=.returned (.tuple #[Qaw,flt 31])∧Only g w w':=by
 obtain⟨b,o,y,rfl,hcx,hy,hbb⟩:=h.byte hl;rw[hx] at hy
 obtain⟨rfl,-⟩:=List.cons.inj hy;have hs:=h.alloc zk0;have g0:=hs.c0;have g1:=hs.c1;have HS:=hid hs;have HG:=hid h.lt;have HBL:=hid hbb;have hcx2:(w.alloc zk0).cell? ⟨b,o+i,none⟩=some (.int .u8 (x.toNat:Int)):=by rw[World.cell?_alloc_lt _ _ _ (Nat.lt_trans hbb h.lt)];exact hcx
 have hz:((i:Int)==(n:Int))=false:=by simp;omega
 have i0':(0:Int)≤(i:Int):=by omega
 have i1':(i:Int)<(n:Int):=by omega
 have hn6:=h.hn;clear hs hy hbb hcx;have hp1:decide ((4096:Int)<(p:Int)+1)=false:=decide_eq_false (by omega);have hp2:(p:Int)+1≤4096:=by omega
 have C1:=hid (fun W=>Qcq x W);rw[ha] at C1
 have C2:=hid (fun W=>Qdu x g W);rw[hb] at C2
 have hx9:((x.toNat:Int)==159)=false:=by
  have:x.toNat≠159:=fun e=>h9 (UInt8.toNat_inj.1 e)
  simp;omega
 have q77:=Qi0;generalize x.toNat=X at *;clear hx h9 hb;clear h;go_enter Tryz.func150,Tryz.ntmps150;go_wp2_with fail;go_quiet (fail)
 have g0':((w.alloc zk0).drewN nq).cell? ⟨g,0,none⟩=some (.slice (some ⟨b,o,none⟩) n c):=g0;have g1':((w.alloc zk0).drewN nq).cell? ⟨g,1,none⟩=some (.int .i64 (i:Int)):=g1;have hcx3:((w.alloc zk0).drewN nq).cell? ⟨b,o+i,none⟩=some (.int .u8 (X:Int)):=hcx2;have HX1:=hid (Qai (w.heap.size+1) (w.alloc zk0) nq);have HS1:=hid (HS.out.drewN nq);generalize (w.alloc zk0).drewN nq=W1 at *;go_wp2_with fail;go_quiet (fail)
 have HX2:=hid (HX1.out.trans (Qai (w.heap.size+1) W1 nq));have HS2:=hid (HS1.out.drewN nq);have g2':=HS2.out.c2;have q2':=HS2.out.f2;generalize W1.drewN nq=W2 at *;have hs3:=HS2.out.set2 (z:=(p:Int)+1) (p+1) (by omega);have r1:=hs3.c1;have rf1:=hs3.f1;have r2:=hs3.c2;have r3:=hs3.c3;have e1:((p+1:Nat):Int)=(p:Int)+1:=by omega
 rw[e1] at r2
 have HS3:=hid hs3;have HOX:=hid ((Only.of_below (g:=g) (show Below (w.alloc zk0).heap.size (w.alloc zk0) W2 by have:=HX2.out;rwa[show(w.alloc zk0).heap.size=w.heap.size+1 by simp])).setCell (p:=⟨g,2,none⟩) rfl (.int .i64 ((p:Int)+1)));have HOW:=hid (((Only.refl g w).alloc zk0).trans HOX.out);clear hs3 e1 g0 g1 g0' g1' hcx2 hcx3 HX1 HS1;go_wp2_with fail;refine(C1.out _).mono ?_;rintro e w3 ⟨rfl,rfl⟩;go_wp2_with fail;refine(C2.out _).mono ?_;rintro e w3 ⟨rfl,rfl⟩;obtain⟨⟨z0,z1,z2,z3⟩,f0,f1,f2,f3⟩:=Qa6 HOX.out HG.out;go_wp2_with fail;refine bodyPost_ret (v:=.tuple #[Qaw,flt 31]) (by simp[results,Tryz.results150,go_sem,z0,z1,z2,z3,Qaw,flt]) rfl ⟨rfl,Qat HOW.out zr⟩
end
section
variable {w:World}{g n c i p d D:Nat}{A:OA}{bs:LB}{sub:Nat→List UInt8→Except Int (Itm×Nat×List UInt8)}{deep:Bool}
theorem Qmp(h:RSt w g A n c bs i p d)(hl:i<n)(x:UInt8)(hx:bs.drop i=x::bs.drop (i+1))(hp:p<4096)(h9:¬ x=0x9f)(ha:Qhb x=false)(hb:Qjj x g=.func (.func 180) #[.pointer (some ⟨g,0,none⟩)] #[])(h27:x.toNat % 32≤27)(hm:x.toNat / 32=0∨x.toNat / 32=2∨x.toNat / 32=3∨x.toNat / 32=4)
  (HK:Hid (∀ (W:World) (i' p1 num:Nat),RSt W g A n c bs i' p1 d→num<18446744073709551616→p1≤4096→Calls Tryz.prog 180 #[.pointer (some ⟨g,0,none⟩),.int .u64 (num:Int)] W (Qc0 g A n c bs d (Qfi sub (x.toNat / 32) num p1 (bs.drop i')) W))) :
  Calls Tryz.prog 150 #[.pointer (some ⟨g,0,none⟩)] w (Qc0 g A n c bs d (Qfq sub (p+1) (Qca (bs.drop i))) w):=by
 obtain⟨b,o,y,rfl,hcx,hy,hbb⟩:=h.byte hl;rw[hx] at hy
 obtain⟨rfl,-⟩:=List.cons.inj hy;have hs:=h.alloc zk0;have g0:=hs.c0;have g1:=hs.c1;have HS:=hid hs;have HG:=hid h.lt;have HBL:=hid hbb;have hcx2:(w.alloc zk0).cell? ⟨b,o+i,none⟩=some (.int .u8 (x.toNat:Int)):=by rw[World.cell?_alloc_lt _ _ _ (Nat.lt_trans hbb h.lt)];exact hcx
 have hz:((i:Int)==(n:Int))=false:=by simp;omega
 have i0':(0:Int)≤(i:Int):=by omega
 have i1':(i:Int)<(n:Int):=by omega
 have hn6:=h.hn;clear hs hy hbb hcx;have hp1:decide ((4096:Int)<(p:Int)+1)=false:=decide_eq_false (by omega);have hp2:(p:Int)+1≤4096:=by omega
 have C1:=hid (fun W=>Qcq x W);rw[ha] at C1
 have C2:=hid (fun W=>Qdu x g W);rw[hb] at C2
 have hx9:((x.toNat:Int)==159)=false:=by
  have:x.toNat≠159:=fun e=>h9 (UInt8.toNat_inj.1 e)
  simp;omega
 have q77:=Qi0;have q78:=Qhm;have C3:=hid (fun W (hs:RSt W g (some ⟨b,o,none⟩) n c bs i (p+1) d)=>Qhk hs hl x hx h27 hm);obtain⟨rh,hrh⟩:∃ rh,rh=Qca (bs.drop i):=⟨_,rfl⟩
 have hmaj:∀ m num r',rh=.ok (m,num,r')→m=x.toNat / 32∧num<18446744073709551616:=fun m num r' e=>by
  rw[hrh,hx] at e
  exact Qf4 e
 rw[← hrh] at C3 ⊢
 obtain⟨r,hr⟩:∃ r,r=Qfq sub (p+1) rh:=⟨_,rfl⟩
 rw[← hr]
 have HR:=hid hr;have HMAJ:=hid hmaj;generalize x.toNat=X at *;clear hx h9 hb hrh hr hmaj h27 hm;clear h;go_enter Tryz.func150,Tryz.ntmps150;go_wp2_with fail;go_quiet (fail)
 have g0':((w.alloc zk0).drewN nq).cell? ⟨g,0,none⟩=some (.slice (some ⟨b,o,none⟩) n c):=g0;have g1':((w.alloc zk0).drewN nq).cell? ⟨g,1,none⟩=some (.int .i64 (i:Int)):=g1;have hcx3:((w.alloc zk0).drewN nq).cell? ⟨b,o+i,none⟩=some (.int .u8 (X:Int)):=hcx2;have HX1:=hid (Qai (w.heap.size+1) (w.alloc zk0) nq);have HS1:=hid (HS.out.drewN nq);generalize (w.alloc zk0).drewN nq=W1 at *;go_wp2_with fail;go_quiet (fail)
 have HX2:=hid (HX1.out.trans (Qai (w.heap.size+1) W1 nq));have HS2:=hid (HS1.out.drewN nq);have g2':=HS2.out.c2;have q2':=HS2.out.f2;generalize W1.drewN nq=W2 at *;have hs3:=HS2.out.set2 (z:=(p:Int)+1) (p+1) (by omega);have r1:=hs3.c1;have rf1:=hs3.f1;have r2:=hs3.c2;have r3:=hs3.c3;have e1:((p+1:Nat):Int)=(p:Int)+1:=by omega
 rw[e1] at r2
 have HS3:=hid hs3;have HOX:=hid ((Only.of_below (g:=g) (show Below (w.alloc zk0).heap.size (w.alloc zk0) W2 by have:=HX2.out;rwa[show(w.alloc zk0).heap.size=w.heap.size+1 by simp])).setCell (p:=⟨g,2,none⟩) rfl (.int .i64 ((p:Int)+1)));have HOW:=hid (((Only.refl g w).alloc zk0).trans HOX.out);clear hs3 e1 g0 g1 g0' g1' hcx2 hcx3 HX1 HS1;go_wp2_with fail;refine(C1.out _).mono ?_;rintro e w3 ⟨rfl,rfl⟩;go_wp2_with fail;refine(C2.out _).mono ?_;rintro e w3 ⟨rfl,rfl⟩;have HC3:=hid (C3.out _ HS3.out);clear C3;go_wp2_with fail;refine HC3.out.mono ?_;rintro e w4 hg4;rcases rh with z|⟨m,num,r'⟩
 ·
  obtain⟨rfl,ho4⟩:=hg4;obtain⟨⟨z0,z1,z2,z3⟩,f0,f1,f2,f3⟩:=Qa6 (HOX.out.trans ho4) HG.out;have HOZ:=hid (HOW.out.trans ho4);clear ho4;unfold flt;go_wp2_with fail;rw[HR.out]
  refine bodyPost_ret (v:=.tuple #[Qaw,flt z]) (by simp[results,Tryz.results150,go_sem,z0,z1,z2,z3,Qaw,flt]) rfl ⟨rfl,Qat HOZ.out zr⟩
 ·
  obtain⟨i2,rfl,hs4,hl2,ho4⟩:=hg4;obtain⟨hm1,hm2⟩:=HMAJ.out m num r' rfl;have hk:=HK.out w4 i2 (p+1) num hs4 hm2 (by omega);have hrr:Qfi sub (X / 32) num (p+1) (bs.drop i2)=r:=by rw[HR.out,Qfq,hm1,hl2]
  rw[hrr] at hk
  have HKK:=hid hk;have HOY:=hid (HOX.out.trans ho4);have HZY:Hid (w.heap.size+1≤w4.heap.size):=by show _≤_;have:=HOY.out.size;simpa using this
  clear hs4 hl2 ho4 hm1 hm2 hk hrr;rcases r with z|⟨x2,p2,l2⟩
  ·
   have HKE:Hid (Calls Tryz.prog 180 #[.pointer (some ⟨g,0,none⟩),.int .u64 (num:Int)] w4 fun e w'=>e=.returned (.tuple #[.agg #[.int .i64 0,.int .u64 0,.slice none 0 0,.slice none 0 0],.iface 212 (.agg #[.int .i64 z])])∧Only g w4 w'):=HKK;go_wp2_with (first|(go_at_call 180;refine HKE.out.mono ?_;rintro e w5 ⟨rfl,ho5⟩;obtain⟨⟨z0,z1,z2,z3⟩,f0,f1,f2,f3⟩:=Qa6 (HOY.out.trans ho5) HG.out;have HOZ:=hid (((Only.refl g w).alloc zk0).trans (HOY.out.trans ho5));clear ho5)|fail)
   refine bodyPost_ret (v:=.tuple #[Qaw,flt z]) (by simp[results,Tryz.results150,go_sem,z0,z1,z2,z3,Qaw,flt]) rfl ⟨rfl,Qat HOZ.out zr⟩
  ·
   go_wp2_with (first|(go_at_call 180;refine HKK.out.mono ?_;rintro e w5 ⟨v,i5,rfl,hv,hs5,hl5,ho5⟩;obtain⟨k1,n1,A1,nd1,cd1,AL1,nl1,cl1,rfl⟩:=hv.form;obtain⟨⟨z0,z1,z2,z3⟩,f0,f1,f2,f3⟩:=Qa6 (HOY.out.trans ho5) HG.out;have HOZ:=hid (((Only.refl g w).alloc zk0).trans (HOY.out.trans ho5));have HV:=hid hv;have HS5:=hid hs5;have HL5:=hid hl5;clear ho5 hv hs5 hl5)|fail)
   refine bodyPost_ret (v:=.tuple #[.agg #[.int .i64 k1,.int .u64 (n1:Int),.slice A1 nd1 cd1,.slice AL1 nl1 cl1],.nilIface]) (by simp[results,Tryz.results150,go_sem,z0,z1,z2,z3]) rfl ?_;exact⟨_,i5,rfl,HV.out.fin zr HZY.out (Nat.le_of_succ_le HZY.out),HS5.out.set4 HG.out,HL5.out,Qat HOZ.out zr⟩
end
section
variable {w:World}{g n c i p d D:Nat}{A:OA}{bs:LB}{sub:Nat→List UInt8→Except Int (Itm×Nat×List UInt8)}{deep:Bool}
theorem Qk5(h:RSt w g A n c bs i p d)(hl:i<n)(x:UInt8)(hx:bs.drop i=x::bs.drop (i+1))(hp:p<4096)(h9:¬ x=0x9f)(ha:Qhb x=false)(hb:Qjj x g=.func (.func 181) #[.pointer (some ⟨g,0,none⟩)] #[])(h27:x.toNat % 32≤27)(hm:x.toNat / 32=0∨x.toNat / 32=2∨x.toNat / 32=3∨x.toNat / 32=4)
  (HK:Hid (∀ (W:World) (i' p1 num:Nat),RSt W g A n c bs i' p1 d→num<18446744073709551616→p1≤4096→Calls Tryz.prog 181 #[.pointer (some ⟨g,0,none⟩),.int .u64 (num:Int)] W (Qc0 g A n c bs d (Qfi sub (x.toNat / 32) num p1 (bs.drop i')) W))) :
  Calls Tryz.prog 150 #[.pointer (some ⟨g,0,none⟩)] w (Qc0 g A n c bs d (Qfq sub (p+1) (Qca (bs.drop i))) w):=by
 obtain⟨b,o,y,rfl,hcx,hy,hbb⟩:=h.byte hl;rw[hx] at hy
 obtain⟨rfl,-⟩:=List.cons.inj hy;have hs:=h.alloc zk0;have g0:=hs.c0;have g1:=hs.c1;have HS:=hid hs;have HG:=hid h.lt;have HBL:=hid hbb;have hcx2:(w.alloc zk0).cell? ⟨b,o+i,none⟩=some (.int .u8 (x.toNat:Int)):=by rw[World.cell?_alloc_lt _ _ _ (Nat.lt_trans hbb h.lt)];exact hcx
 have hz:((i:Int)==(n:Int))=false:=by simp;omega
 have i0':(0:Int)≤(i:Int):=by omega
 have i1':(i:Int)<(n:Int):=by omega
 have hn6:=h.hn;clear hs hy hbb hcx;have hp1:decide ((4096:Int)<(p:Int)+1)=false:=decide_eq_false (by omega);have hp2:(p:Int)+1≤4096:=by omega
 have C1:=hid (fun W=>Qcq x W);rw[ha] at C1
 have C2:=hid (fun W=>Qdu x g W);rw[hb] at C2
 have hx9:((x.toNat:Int)==159)=false:=by
  have:x.toNat≠159:=fun e=>h9 (UInt8.toNat_inj.1 e)
  simp;omega
 have q77:=Qi0;have q78:=Qhm;have C3:=hid (fun W (hs:RSt W g (some ⟨b,o,none⟩) n c bs i (p+1) d)=>Qhk hs hl x hx h27 hm);obtain⟨rh,hrh⟩:∃ rh,rh=Qca (bs.drop i):=⟨_,rfl⟩
 have hmaj:∀ m num r',rh=.ok (m,num,r')→m=x.toNat / 32∧num<18446744073709551616:=fun m num r' e=>by
  rw[hrh,hx] at e
  exact Qf4 e
 rw[← hrh] at C3 ⊢
 obtain⟨r,hr⟩:∃ r,r=Qfq sub (p+1) rh:=⟨_,rfl⟩
 rw[← hr]
 have HR:=hid hr;have HMAJ:=hid hmaj;generalize x.toNat=X at *;clear hx h9 hb hrh hr hmaj h27 hm;clear h;go_enter Tryz.func150,Tryz.ntmps150;go_wp2_with fail;go_quiet (fail)
 have g0':((w.alloc zk0).drewN nq).cell? ⟨g,0,none⟩=some (.slice (some ⟨b,o,none⟩) n c):=g0;have g1':((w.alloc zk0).drewN nq).cell? ⟨g,1,none⟩=some (.int .i64 (i:Int)):=g1;have hcx3:((w.alloc zk0).drewN nq).cell? ⟨b,o+i,none⟩=some (.int .u8 (X:Int)):=hcx2;have HX1:=hid (Qai (w.heap.size+1) (w.alloc zk0) nq);have HS1:=hid (HS.out.drewN nq);generalize (w.alloc zk0).drewN nq=W1 at *;go_wp2_with fail;go_quiet (fail)
 have HX2:=hid (HX1.out.trans (Qai (w.heap.size+1) W1 nq));have HS2:=hid (HS1.out.drewN nq);have g2':=HS2.out.c2;have q2':=HS2.out.f2;generalize W1.drewN nq=W2 at *;have hs3:=HS2.out.set2 (z:=(p:Int)+1) (p+1) (by omega);have r1:=hs3.c1;have rf1:=hs3.f1;have r2:=hs3.c2;have r3:=hs3.c3;have e1:((p+1:Nat):Int)=(p:Int)+1:=by omega
 rw[e1] at r2
 have HS3:=hid hs3;have HOX:=hid ((Only.of_below (g:=g) (show Below (w.alloc zk0).heap.size (w.alloc zk0) W2 by have:=HX2.out;rwa[show(w.alloc zk0).heap.size=w.heap.size+1 by simp])).setCell (p:=⟨g,2,none⟩) rfl (.int .i64 ((p:Int)+1)));have HOW:=hid (((Only.refl g w).alloc zk0).trans HOX.out);clear hs3 e1 g0 g1 g0' g1' hcx2 hcx3 HX1 HS1;go_wp2_with fail;refine(C1.out _).mono ?_;rintro e w3 ⟨rfl,rfl⟩;go_wp2_with fail;refine(C2.out _).mono ?_;rintro e w3 ⟨rfl,rfl⟩;have HC3:=hid (C3.out _ HS3.out);clear C3;go_wp2_with fail;refine HC3.out.mono ?_;rintro e w4 hg4;rcases rh with z|⟨m,num,r'⟩
 ·
  obtain⟨rfl,ho4⟩:=hg4;obtain⟨⟨z0,z1,z2,z3⟩,f0,f1,f2,f3⟩:=Qa6 (HOX.out.trans ho4) HG.out;have HOZ:=hid (HOW.out.trans ho4);clear ho4;unfold flt;go_wp2_with fail;rw[HR.out]
  refine bodyPost_ret (v:=.tuple #[Qaw,flt z]) (by simp[results,Tryz.results150,go_sem,z0,z1,z2,z3,Qaw,flt]) rfl ⟨rfl,Qat HOZ.out zr⟩
 ·
  obtain⟨i2,rfl,hs4,hl2,ho4⟩:=hg4;obtain⟨hm1,hm2⟩:=HMAJ.out m num r' rfl;have hk:=HK.out w4 i2 (p+1) num hs4 hm2 (by omega);have hrr:Qfi sub (X / 32) num (p+1) (bs.drop i2)=r:=by rw[HR.out,Qfq,hm1,hl2]
  rw[hrr] at hk
  have HKK:=hid hk;have HOY:=hid (HOX.out.trans ho4);have HZY:Hid (w.heap.size+1≤w4.heap.size):=by show _≤_;have:=HOY.out.size;simpa using this
  clear hs4 hl2 ho4 hm1 hm2 hk hrr;rcases r with z|⟨x2,p2,l2⟩
  ·
   have HKE:Hid (Calls Tryz.prog 181 #[.pointer (some ⟨g,0,none⟩),.int .u64 (num:Int)] w4 fun e w'=>e=.returned (.tuple #[.agg #[.int .i64 0,.int .u64 0,.slice none 0 0,.slice none 0 0],.iface 212 (.agg #[.int .i64 z])])∧Only g w4 w'):=HKK;go_wp2_with (first|(go_at_call 181;refine HKE.out.mono ?_;rintro e w5 ⟨rfl,ho5⟩;obtain⟨⟨z0,z1,z2,z3⟩,f0,f1,f2,f3⟩:=Qa6 (HOY.out.trans ho5) HG.out;have HOZ:=hid (((Only.refl g w).alloc zk0).trans (HOY.out.trans ho5));clear ho5)|fail)
   refine bodyPost_ret (v:=.tuple #[Qaw,flt z]) (by simp[results,Tryz.results150,go_sem,z0,z1,z2,z3,Qaw,flt]) rfl ⟨rfl,Qat HOZ.out zr⟩
  ·
   go_wp2_with (first|(go_at_call 181;refine HKK.out.mono ?_;rintro e w5 ⟨v,i5,rfl,hv,hs5,hl5,ho5⟩;obtain⟨k1,n1,A1,nd1,cd1,AL1,nl1,cl1,rfl⟩:=hv.form;obtain⟨⟨z0,z1,z2,z3⟩,f0,f1,f2,f3⟩:=Qa6 (HOY.out.trans ho5) HG.out;have HOZ:=hid (((Only.refl g w).alloc zk0).trans (HOY.out.trans ho5));have HV:=hid hv;have HS5:=hid hs5;have HL5:=hid hl5;clear ho5 hv hs5 hl5)|fail)
   refine bodyPost_ret (v:=.tuple #[.agg #[.int .i64 k1,.int .u64 (n1:Int),.slice A1 nd1 cd1,.slice AL1 nl1 cl1],.nilIface]) (by simp[results,Tryz.results150,go_sem,z0,z1,z2,z3]) rfl ?_;exact⟨_,i5,rfl,HV.out.fin zr HZY.out (Nat.le_of_succ_le HZY.out),HS5.out.set4 HG.out,HL5.out,Qat HOZ.out zr⟩
end
section
variable {w:World}{g n c i p d D:Nat}{A:OA}{bs:LB}{sub:Nat→List UInt8→Except Int (Itm×Nat×List UInt8)}{deep:Bool}
theorem Qmq(h:RSt w g A n c bs i p d)(hl:i<n)(x:UInt8)(hx:bs.drop i=x::bs.drop (i+1))(hp:p<4096)(h9:¬ x=0x9f)(ha:Qhb x=false)(hb:Qjj x g=.func (.func 182) #[.pointer (some ⟨g,0,none⟩)] #[])(h27:x.toNat % 32≤27)(hm:x.toNat / 32=0∨x.toNat / 32=2∨x.toNat / 32=3∨x.toNat / 32=4)
  (HK:Hid (∀ (W:World) (i' p1 num:Nat),RSt W g A n c bs i' p1 d→num<18446744073709551616→p1≤4096→Calls Tryz.prog 182 #[.pointer (some ⟨g,0,none⟩),.int .u64 (num:Int)] W (Qc0 g A n c bs d (Qfi sub (x.toNat / 32) num p1 (bs.drop i')) W))) :
  Calls Tryz.prog 150 #[.pointer (some ⟨g,0,none⟩)] w (Qc0 g A n c bs d (Qfq sub (p+1) (Qca (bs.drop i))) w):=by
 obtain⟨b,o,y,rfl,hcx,hy,hbb⟩:=h.byte hl;rw[hx] at hy
 obtain⟨rfl,-⟩:=List.cons.inj hy;have hs:=h.alloc zk0;have g0:=hs.c0;have g1:=hs.c1;have HS:=hid hs;have HG:=hid h.lt;have HBL:=hid hbb;have hcx2:(w.alloc zk0).cell? ⟨b,o+i,none⟩=some (.int .u8 (x.toNat:Int)):=by rw[World.cell?_alloc_lt _ _ _ (Nat.lt_trans hbb h.lt)];exact hcx
 have hz:((i:Int)==(n:Int))=false:=by simp;omega
 have i0':(0:Int)≤(i:Int):=by omega
 have i1':(i:Int)<(n:Int):=by omega
 have hn6:=h.hn;clear hs hy hbb hcx;have hp1:decide ((4096:Int)<(p:Int)+1)=false:=decide_eq_false (by omega);have hp2:(p:Int)+1≤4096:=by omega
 have C1:=hid (fun W=>Qcq x W);rw[ha] at C1
 have C2:=hid (fun W=>Qdu x g W);rw[hb] at C2
 have hx9:((x.toNat:Int)==159)=false:=by
  have:x.toNat≠159:=fun e=>h9 (UInt8.toNat_inj.1 e)
  simp;omega
 have q77:=Qi0;have q78:=Qhm;have C3:=hid (fun W (hs:RSt W g (some ⟨b,o,none⟩) n c bs i (p+1) d)=>Qhk hs hl x hx h27 hm);obtain⟨rh,hrh⟩:∃ rh,rh=Qca (bs.drop i):=⟨_,rfl⟩
 have hmaj:∀ m num r',rh=.ok (m,num,r')→m=x.toNat / 32∧num<18446744073709551616:=fun m num r' e=>by
  rw[hrh,hx] at e
  exact Qf4 e
 rw[← hrh] at C3 ⊢
 obtain⟨r,hr⟩:∃ r,r=Qfq sub (p+1) rh:=⟨_,rfl⟩
 rw[← hr]
 have HR:=hid hr;have HMAJ:=hid hmaj;generalize x.toNat=X at *;clear hx h9 hb hrh hr hmaj h27 hm;clear h;go_enter Tryz.func150,Tryz.ntmps150;go_wp2_with fail;go_quiet (fail)
 have g0':((w.alloc zk0).drewN nq).cell? ⟨g,0,none⟩=some (.slice (some ⟨b,o,none⟩) n c):=g0;have g1':((w.alloc zk0).drewN nq).cell? ⟨g,1,none⟩=some (.int .i64 (i:Int)):=g1;have hcx3:((w.alloc zk0).drewN nq).cell? ⟨b,o+i,none⟩=some (.int .u8 (X:Int)):=hcx2;have HX1:=hid (Qai (w.heap.size+1) (w.alloc zk0) nq);have HS1:=hid (HS.out.drewN nq);generalize (w.alloc zk0).drewN nq=W1 at *;go_wp2_with fail;go_quiet (fail)
 have HX2:=hid (HX1.out.trans (Qai (w.heap.size+1) W1 nq));have HS2:=hid (HS1.out.drewN nq);have g2':=HS2.out.c2;have q2':=HS2.out.f2;generalize W1.drewN nq=W2 at *;have hs3:=HS2.out.set2 (z:=(p:Int)+1) (p+1) (by omega);have r1:=hs3.c1;have rf1:=hs3.f1;have r2:=hs3.c2;have r3:=hs3.c3;have e1:((p+1:Nat):Int)=(p:Int)+1:=by omega
 rw[e1] at r2
 have HS3:=hid hs3;have HOX:=hid ((Only.of_below (g:=g) (show Below (w.alloc zk0).heap.size (w.alloc zk0) W2 by have:=HX2.out;rwa[show(w.alloc zk0).heap.size=w.heap.size+1 by simp])).setCell (p:=⟨g,2,none⟩) rfl (.int .i64 ((p:Int)+1)));have HOW:=hid (((Only.refl g w).alloc zk0).trans HOX.out);clear hs3 e1 g0 g1 g0' g1' hcx2 hcx3 HX1 HS1;go_wp2_with fail;refine(C1.out _).mono ?_;rintro e w3 ⟨rfl,rfl⟩;go_wp2_with fail;refine(C2.out _).mono ?_;rintro e w3 ⟨rfl,rfl⟩;have HC3:=hid (C3.out _ HS3.out);clear C3;go_wp2_with fail;refine HC3.out.mono ?_;rintro e w4 hg4;rcases rh with z|⟨m,num,r'⟩
 ·
  obtain⟨rfl,ho4⟩:=hg4;obtain⟨⟨z0,z1,z2,z3⟩,f0,f1,f2,f3⟩:=Qa6 (HOX.out.trans ho4) HG.out;have HOZ:=hid (HOW.out.trans ho4);clear ho4;unfold flt;go_wp2_with fail;rw[HR.out]
  refine bodyPost_ret (v:=.tuple #[Qaw,flt z]) (by simp[results,Tryz.results150,go_sem,z0,z1,z2,z3,Qaw,flt]) rfl ⟨rfl,Qat HOZ.out zr⟩
 ·
  obtain⟨i2,rfl,hs4,hl2,ho4⟩:=hg4;obtain⟨hm1,hm2⟩:=HMAJ.out m num r' rfl;have hk:=HK.out w4 i2 (p+1) num hs4 hm2 (by omega);have hrr:Qfi sub (X / 32) num (p+1) (bs.drop i2)=r:=by rw[HR.out,Qfq,hm1,hl2]
  rw[hrr] at hk
  have HKK:=hid hk;have HOY:=hid (HOX.out.trans ho4);have HZY:Hid (w.heap.size+1≤w4.heap.size):=by show _≤_;have:=HOY.out.size;simpa using this
  clear hs4 hl2 ho4 hm1 hm2 hk hrr;rcases r with z|⟨x2,p2,l2⟩
  ·
   have HKE:Hid (Calls Tryz.prog 182 #[.pointer (some ⟨g,0,none⟩),.int .u64 (num:Int)] w4 fun e w'=>e=.returned (.tuple #[.agg #[.int .i64 0,.int .u64 0,.slice none 0 0,.slice none 0 0],.iface 212 (.agg #[.int .i64 z])])∧Only g w4 w'):=HKK;go_wp2_with (first|(go_at_call 182;refine HKE.out.mono ?_;rintro e w5 ⟨rfl,ho5⟩;obtain⟨⟨z0,z1,z2,z3⟩,f0,f1,f2,f3⟩:=Qa6 (HOY.out.trans ho5) HG.out;have HOZ:=hid (((Only.refl g w).alloc zk0).trans (HOY.out.trans ho5));clear ho5)|fail)
   refine bodyPost_ret (v:=.tuple #[Qaw,flt z]) (by simp[results,Tryz.results150,go_sem,z0,z1,z2,z3,Qaw,flt]) rfl ⟨rfl,Qat HOZ.out zr⟩
  ·
   go_wp2_with (first|(go_at_call 182;refine HKK.out.mono ?_;rintro e w5 ⟨v,i5,rfl,hv,hs5,hl5,ho5⟩;obtain⟨k1,n1,A1,nd1,cd1,AL1,nl1,cl1,rfl⟩:=hv.form;obtain⟨⟨z0,z1,z2,z3⟩,f0,f1,f2,f3⟩:=Qa6 (HOY.out.trans ho5) HG.out;have HOZ:=hid (((Only.refl g w).alloc zk0).trans (HOY.out.trans ho5));have HV:=hid hv;have HS5:=hid hs5;have HL5:=hid hl5;clear ho5 hv hs5 hl5)|fail)
   refine bodyPost_ret (v:=.tuple #[.agg #[.int .i64 k1,.int .u64 (n1:Int),.slice A1 nd1 cd1,.slice AL1 nl1 cl1],.nilIface]) (by simp[results,Tryz.results150,go_sem,z0,z1,z2,z3]) rfl ?_;exact⟨_,i5,rfl,HV.out.fin zr HZY.out (Nat.le_of_succ_le HZY.out),HS5.out.set4 HG.out,HL5.out,Qat HOZ.out zr⟩
end
section
variable {w:World}{g n c i p d D:Nat}{A:OA}{bs:LB}{sub:Nat→List UInt8→Except Int (Itm×Nat×List UInt8)}{deep:Bool}
theorem Qk6(h:RSt w g A n c bs i p d)(hl:i<n)(x:UInt8)(hx:bs.drop i=x::bs.drop (i+1))(hp:p<4096)(h9:¬ x=0x9f)(ha:Qhb x=true)(hd:d<8)(hb:Qjj x g=.func (.func 183) #[.pointer (some ⟨g,0,none⟩)] #[])(h27:x.toNat % 32≤27)(hm:x.toNat / 32=0∨x.toNat / 32=2∨x.toNat / 32=3∨x.toNat / 32=4)
  (HK:Hid (∀ (W:World) (i' p1 num:Nat),RSt W g A n c bs i' p1 d→num<18446744073709551616→p1≤4096→Calls Tryz.prog 183 #[.pointer (some ⟨g,0,none⟩),.int .u64 (num:Int)] W (Qc0 g A n c bs d (Qfi sub (x.toNat / 32) num p1 (bs.drop i')) W))) :
  Calls Tryz.prog 150 #[.pointer (some ⟨g,0,none⟩)] w (Qc0 g A n c bs d (Qfq sub (p+1) (Qca (bs.drop i))) w):=by
 obtain⟨b,o,y,rfl,hcx,hy,hbb⟩:=h.byte hl;rw[hx] at hy
 obtain⟨rfl,-⟩:=List.cons.inj hy;have hs:=h.alloc zk0;have g0:=hs.c0;have g1:=hs.c1;have HS:=hid hs;have HG:=hid h.lt;have HBL:=hid hbb;have hcx2:(w.alloc zk0).cell? ⟨b,o+i,none⟩=some (.int .u8 (x.toNat:Int)):=by rw[World.cell?_alloc_lt _ _ _ (Nat.lt_trans hbb h.lt)];exact hcx
 have hz:((i:Int)==(n:Int))=false:=by simp;omega
 have i0':(0:Int)≤(i:Int):=by omega
 have i1':(i:Int)<(n:Int):=by omega
 have hn6:=h.hn;clear hs hy hbb hcx;have hp1:decide ((4096:Int)<(p:Int)+1)=false:=decide_eq_false (by omega);have hp2:(p:Int)+1≤4096:=by omega
 have C1:=hid (fun W=>Qcq x W);rw[ha] at C1
 have C2:=hid (fun W=>Qdu x g W);rw[hb] at C2
 have hd8:((d:Int)==8)=false:=by simp;omega
 have hx9:((x.toNat:Int)==159)=false:=by
  have:x.toNat≠159:=fun e=>h9 (UInt8.toNat_inj.1 e)
  simp;omega
 have q77:=Qi0;have q78:=Qhm;have C3:=hid (fun W (hs:RSt W g (some ⟨b,o,none⟩) n c bs i (p+1) d)=>Qhk hs hl x hx h27 hm);obtain⟨rh,hrh⟩:∃ rh,rh=Qca (bs.drop i):=⟨_,rfl⟩
 have hmaj:∀ m num r',rh=.ok (m,num,r')→m=x.toNat / 32∧num<18446744073709551616:=fun m num r' e=>by
  rw[hrh,hx] at e
  exact Qf4 e
 rw[← hrh] at C3 ⊢
 obtain⟨r,hr⟩:∃ r,r=Qfq sub (p+1) rh:=⟨_,rfl⟩
 rw[← hr]
 have HR:=hid hr;have HMAJ:=hid hmaj;generalize x.toNat=X at *;clear hx h9 hb hrh hr hmaj h27 hm;clear h;go_enter Tryz.func150,Tryz.ntmps150;go_wp2_with fail;go_quiet (fail)
 have g0':((w.alloc zk0).drewN nq).cell? ⟨g,0,none⟩=some (.slice (some ⟨b,o,none⟩) n c):=g0;have g1':((w.alloc zk0).drewN nq).cell? ⟨g,1,none⟩=some (.int .i64 (i:Int)):=g1;have hcx3:((w.alloc zk0).drewN nq).cell? ⟨b,o+i,none⟩=some (.int .u8 (X:Int)):=hcx2;have HX1:=hid (Qai (w.heap.size+1) (w.alloc zk0) nq);have HS1:=hid (HS.out.drewN nq);generalize (w.alloc zk0).drewN nq=W1 at *;go_wp2_with fail;go_quiet (fail)
 have HX2:=hid (HX1.out.trans (Qai (w.heap.size+1) W1 nq));have HS2:=hid (HS1.out.drewN nq);have g2':=HS2.out.c2;have q2':=HS2.out.f2;generalize W1.drewN nq=W2 at *;have hs3:=HS2.out.set2 (z:=(p:Int)+1) (p+1) (by omega);have r1:=hs3.c1;have rf1:=hs3.f1;have r2:=hs3.c2;have r3:=hs3.c3;have e1:((p+1:Nat):Int)=(p:Int)+1:=by omega
 rw[e1] at r2
 have HS3:=hid hs3;have HOX:=hid ((Only.of_below (g:=g) (show Below (w.alloc zk0).heap.size (w.alloc zk0) W2 by have:=HX2.out;rwa[show(w.alloc zk0).heap.size=w.heap.size+1 by simp])).setCell (p:=⟨g,2,none⟩) rfl (.int .i64 ((p:Int)+1)));have HOW:=hid (((Only.refl g w).alloc zk0).trans HOX.out);clear hs3 e1 g0 g1 g0' g1' hcx2 hcx3 HX1 HS1;go_wp2_with fail;refine(C1.out _).mono ?_;rintro e w3 ⟨rfl,rfl⟩;go_wp2_with fail;refine(C2.out _).mono ?_;rintro e w3 ⟨rfl,rfl⟩;have HC3:=hid (C3.out _ HS3.out);clear C3;go_wp2_with fail;refine HC3.out.mono ?_;rintro e w4 hg4;rcases rh with z|⟨m,num,r'⟩
 ·
  obtain⟨rfl,ho4⟩:=hg4;obtain⟨⟨z0,z1,z2,z3⟩,f0,f1,f2,f3⟩:=Qa6 (HOX.out.trans ho4) HG.out;have HOZ:=hid (HOW.out.trans ho4);clear ho4;unfold flt;go_wp2_with fail;rw[HR.out]
  refine bodyPost_ret (v:=.tuple #[Qaw,flt z]) (by simp[results,Tryz.results150,go_sem,z0,z1,z2,z3,Qaw,flt]) rfl ⟨rfl,Qat HOZ.out zr⟩
 ·
  obtain⟨i2,rfl,hs4,hl2,ho4⟩:=hg4;obtain⟨hm1,hm2⟩:=HMAJ.out m num r' rfl;have hk:=HK.out w4 i2 (p+1) num hs4 hm2 (by omega);have hrr:Qfi sub (X / 32) num (p+1) (bs.drop i2)=r:=by rw[HR.out,Qfq,hm1,hl2]
  rw[hrr] at hk
  have HKK:=hid hk;have HOY:=hid (HOX.out.trans ho4);have HZY:Hid (w.heap.size+1≤w4.heap.size):=by show _≤_;have:=HOY.out.size;simpa using this
  clear hs4 hl2 ho4 hm1 hm2 hk hrr;rcases r with z|⟨x2,p2,l2⟩
  ·
   have HKE:Hid (Calls Tryz.prog 183 #[.pointer (some ⟨g,0,none⟩),.int .u64 (num:Int)] w4 fun e w'=>e=.returned (.tuple #[.agg #[.int .i64 0,.int .u64 0,.slice none 0 0,.slice none 0 0],.iface 212 (.agg #[.int .i64 z])])∧Only g w4 w'):=HKK;go_wp2_with (first|(go_at_call 183;refine HKE.out.mono ?_;rintro e w5 ⟨rfl,ho5⟩;obtain⟨⟨z0,z1,z2,z3⟩,f0,f1,f2,f3⟩:=Qa6 (HOY.out.trans ho5) HG.out;have HOZ:=hid (((Only.refl g w).alloc zk0).trans (HOY.out.trans ho5));clear ho5)|fail)
   refine bodyPost_ret (v:=.tuple #[Qaw,flt z]) (by simp[results,Tryz.results150,go_sem,z0,z1,z2,z3,Qaw,flt]) rfl ⟨rfl,Qat HOZ.out zr⟩
  ·
   go_wp2_with (first|(go_at_call 183;refine HKK.out.mono ?_;rintro e w5 ⟨v,i5,rfl,hv,hs5,hl5,ho5⟩;obtain⟨k1,n1,A1,nd1,cd1,AL1,nl1,cl1,rfl⟩:=hv.form;obtain⟨⟨z0,z1,z2,z3⟩,f0,f1,f2,f3⟩:=Qa6 (HOY.out.trans ho5) HG.out;have HOZ:=hid (((Only.refl g w).alloc zk0).trans (HOY.out.trans ho5));have HV:=hid hv;have HS5:=hid hs5;have HL5:=hid hl5;clear ho5 hv hs5 hl5)|fail)
   refine bodyPost_ret (v:=.tuple #[.agg #[.int .i64 k1,.int .u64 (n1:Int),.slice A1 nd1 cd1,.slice AL1 nl1 cl1],.nilIface]) (by simp[results,Tryz.results150,go_sem,z0,z1,z2,z3]) rfl ?_;exact⟨_,i5,rfl,HV.out.fin zr HZY.out (Nat.le_of_succ_le HZY.out),HS5.out.set4 HG.out,HL5.out,Qat HOZ.out zr⟩
end
section
variable {w:World}{g n c i p d D:Nat}{A:OA}{bs:LB}{sub:Nat→List UInt8→Except Int (Itm×Nat×List UInt8)}{deep:Bool}
theorem Qlj(x:UInt8):Qhb x=true↔(x=0x9f∨(x.toNat / 32=4∧x.toNat % 32≤27)):=by unfold Qhb;simp
theorem Qwe{x:UInt8}(h:¬ Qjj x g=.nilFunc):x.toNat % 32≤27∧(x.toNat / 32=0∨x.toNat / 32=2∨x.toNat / 32=3∨x.toNat / 32=4):=by
 unfold Qjj at h;by_cases h27:27<x.toNat % 32
 ·
  rw[if_pos h27] at h;exact absurd rfl h
 rw[if_neg h27] at h
 by_cases h0:x.toNat / 32=0
 ·
  omega
 rw[if_neg h0] at h
 by_cases h2:x.toNat / 32=2
 ·
  omega
 rw[if_neg h2] at h
 by_cases h3:x.toNat / 32=3
 ·
  omega
 rw[if_neg h3] at h
 by_cases h4:x.toNat / 32=4
 ·
  omega
 rw[if_neg h4] at h
 exact absurd rfl h
theorem Qmo(hdec:dec D=Qco sub deep)(hdeep:deep=decide (d=8))(hsub:deep=false→∃ D',d+1+D'=8∧sub=dec D'∧Qnn D')(hp:p≤4096)(h:RSt w g A n c bs i p d) :
  Calls Tryz.prog 150 #[.pointer (some ⟨g,0,none⟩)] w (Qc0 g A n c bs d (dec D p (bs.drop i)) w):=by
 rw[hdec]
 by_cases hl:i<n
 ·
  obtain⟨-,-,x,-,-,hx,-⟩:=h.byte hl;by_cases hc:p=4096∨(Qhb x=true∧deep=true)
  ·
   have e:Qco sub deep p (bs.drop i)=.error 32:=by rw[hx];exact Qyg hc
   rw[e]
   by_cases h4:p=4096
   ·
    exact(Qu0 h hl x hx h4).mono fun e w' hh=>hh
   ·
    rcases hc with hc|⟨ha,hdp⟩
    ·
     exact absurd hc h4
    ·
     rw[hdeep] at hdp
     exact(Qu1 h hl x hx (by omega) ha (of_decide_eq_true hdp)).mono fun e w' hh=>hh
  ·
   have hp4:p<4096:=by omega
   by_cases h9:x=0x9f
   ·
    have hdf:deep=false:=by
     rcases hd:deep with _|_
     ·
      rfl
     ·
      exact absurd (.inr ⟨(Qlj x).2 (.inl h9),hd⟩) hc
    obtain⟨D',hD',rfl,IH⟩:=hsub hdf;have e:Qco (dec D') deep p (bs.drop i)=lst 5 (Qez (dec D') ((bs.drop (i+1)).length+1) (p+1) (bs.drop (i+1))):=by rw[hx];exact Qu4 hc h9
    rw[e]
    exact Qmr h hl x hx hp4 h9 (by omega) D' hD' IH
   ·
    have e:Qco sub deep p (bs.drop i)=Qfq sub (p+1) (Qca (bs.drop i)):=by rw[hx];exact Qr3 hc h9
    rw[e]
    by_cases hb:Qjj x g=.nilFunc
    ·
     have ha:Qhb x=false:=by
      rcases har:Qhb x with _|_
      ·
       rfl
      ·
       exfalso
       rcases (Qlj x).1 har with h1|⟨h1,h2⟩
       ·
        exact h9 h1
       ·
        unfold Qjj at hb;rw[if_neg (by omega),if_neg (by omega),if_neg (by omega),if_neg (by omega),if_pos h1] at hb
        cases hb
     have e2:Qca (bs.drop i)=.error 31:=by rw[hx];exact Qyo hb
     rw[e2]
     exact(Quz h hl x hx hp4 h9 ha hb).mono fun e w' hh=>hh
    ·
     obtain⟨h27,hm⟩:=Qwe hb;have hna:¬ x.toNat / 32=4→Qhb x=false:=fun hne=>by
      rcases har:Qhb x with _|_
      ·
       rfl
      ·
       rcases (Qlj x).1 har with h1|⟨h1,h2⟩
       ·
        exact absurd h1 h9
       ·
        exact absurd h1 hne
     rcases hm with hm0|hm0|hm0|hm0
     ·
      have hbv:Qjj x g=.func (.func 180) #[.pointer (some ⟨g,0,none⟩)] #[]:=by unfold Qjj;rw[if_neg (by omega),if_pos hm0]
      refine Qmp h hl x hx hp4 h9 (hna (by omega)) hbv h27 (.inl hm0) (fun W i' p1 num hs hn _=>?_);rw[Qfi,if_pos hm0]
      exact Qwz hs num hn
     ·
      have hbv:Qjj x g=.func (.func 181) #[.pointer (some ⟨g,0,none⟩)] #[]:=by unfold Qjj;rw[if_neg (by omega),if_neg (by omega),if_pos hm0]
      refine Qk5 h hl x hx hp4 h9 (hna (by omega)) hbv h27 (.inr (.inl hm0)) (fun W i' p1 num hs hn _=>?_);rw[Qfi,if_neg (by omega),if_neg (by omega),hm0]
      exact Qjr hs num hn 2 (.inl rfl)
     ·
      have hbv:Qjj x g=.func (.func 182) #[.pointer (some ⟨g,0,none⟩)] #[]:=by unfold Qjj;rw[if_neg (by omega),if_neg (by omega),if_neg (by omega),if_pos hm0]
      refine Qmq h hl x hx hp4 h9 (hna (by omega)) hbv h27 (.inr (.inr (.inl hm0))) (fun W i' p1 num hs hn _=>?_);rw[Qfi,if_neg (by omega),if_neg (by omega),hm0]
      exact Qjr hs num hn 3 (.inr rfl)
     ·
      have hbv:Qjj x g=.func (.func 183) #[.pointer (some ⟨g,0,none⟩)] #[]:=by unfold Qjj;rw[if_neg (by omega),if_neg (by omega),if_neg (by omega),if_neg (by omega),if_pos hm0]
      have ha:Qhb x=true:=(Qlj x).2 (.inr ⟨hm0,h27⟩);have hdf:deep=false:=by
       rcases hd:deep with _|_
       ·
        rfl
       ·
        exact absurd (.inr ⟨ha,hd⟩) hc
      obtain⟨D',hD',rfl,IH⟩:=hsub hdf;refine Qk6 h hl x hx hp4 h9 ha (by omega) hbv h27 (.inr (.inr (.inr hm0))) (fun W i' p1 num hs hn hp1=>?_);rw[Qfi,if_neg (by omega),if_pos hm0]
      exact Qwj IH hD' hp1 hs num hn
 ·
  have hlen:=h.rd.1;have e:Qco sub deep p (bs.drop i)=.error 30:=by rw[List.drop_eq_nil_of_le (by omega),Qco]
  rw[e]
  exact(Qyd h hl).mono fun e w' hh=>hh
theorem Qp7:∀ D,Qnn D
 | 0=>fun w g A n c bs i p d hD hp h=>Qmo (sub:=fun _ _=>.error 32) (deep:=true) rfl (by rw[decide_eq_true (by omega:d=8)]) (fun hh=>by cases hh) hp h
 | D+1=>fun w g A n c bs i p d hD hp h=>Qmo (sub:=dec D) (deep:=false) rfl (by rw[decide_eq_false (by omega:¬ d=8)]) (fun _=>⟨D,by omega,rfl,Qp7 D⟩) hp h
end
end Go.Proofs.YtbnfkjkoinbkgaaGreatDoor
