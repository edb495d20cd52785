import Derived.Test.YtlecbblmaadpiaaGreatDoorKCborR
import Derived.Test.YtlecbblmaadpiaaGreatDoorKKCheck
import Derived.Test.YtlecbblmaadpiaaGreatDoorKKRd
import Derived.Test.YtlecbblmaadpiaaGreatDoorKKRdH
import Derived.Deep.AppendLies
namespace Go.Proofs.YtlecbblmaadpiaaGreatDoor
set_option maxRecDepth 100000
set_option maxHeartbeats 16000000
open Go.RowKit
open Go.Lib (hid)
theorem RdIs.news {w:World} {B b:Nat}:∀ {l:List Itm} {o:Nat},RdIs w B b o l→∃ cs:List Value,cs.length=l.length*4∧(∀ j u,cs[j]?=some u→w.cell? ⟨b,o+j,none⟩=some u)∧(∀ u∈cs,u.oneCell'=true) ∧
  ∀ (W':World) (B' b' o':Nat),(∀ j u,cs[j]?=some u→W'.cell? ⟨b',o'+j,none⟩=some u)→(∀ p:Addr,p.block<B→W'.cell? p=w.cell? p)→B≤B'→RdIs W' B' b' o' l
 | [],o,_=>⟨[],rfl,fun j u h=>(by simp at h),fun u h=>(by cases h),fun W' B' b' o' _ _ _=>(by rw [RdIs];trivial)⟩
 | x::r,o,h=>by
  rw [RdIs] at h
  obtain ⟨⟨c0,c1,c2,c3,g0,g1,g2,g3,gx⟩,hr⟩:=h
  obtain ⟨cs,h1,h2,h3,h4⟩:=RdIs.news hr
  obtain ⟨k,n,A,nd,cd,AL,nl,cl,e⟩:=gx.form
  have hone:c0.oneCell'=true∧c1.oneCell'=true∧c2.oneCell'=true∧c3.oneCell'=true:=by
   injection e with e
   simp only [Array.mk.injEq,List.cons.injEq,and_true] at e
   obtain ⟨rfl,rfl,rfl,rfl⟩:=e
   exact ⟨rfl,rfl,rfl,rfl⟩
  refine ⟨c0::c1::c2::c3::cs,by simp [h1];omega,?_,?_,?_⟩
  ·
   intro j u hj
   match j with
   | 0=>cases hj;exact g0
   | 1=>cases hj;exact g1
   | 2=>cases hj;exact g2
   | 3=>cases hj;exact g3
   | j+4 =>
    have:=h2 j u (by simpa using hj)
    rw [show o+(j+4)=o+4+j by omega]
    exact this
  ·
   intro u hu
   simp only [List.mem_cons] at hu
   rcases hu with rfl|rfl|rfl|rfl|hu
   ·
    exact hone.1
   ·
    exact hone.2.1
   ·
    exact hone.2.2.1
   ·
    exact hone.2.2.2
   ·
    exact h3 u hu
  ·
   intro W' B' b' o' hc hk hB
   rw [RdIs]
   refine ⟨⟨c0,c1,c2,c3,hc 0 c0 rfl,hc 1 c1 rfl,hc 2 c2 rfl,hc 3 c3 rfl,(gx.keep hk).more hB⟩,h4 W' B' b' (o'+4) (fun j u hj=>?_) hk hB⟩
   have:=hc (j+4) u (by simpa using hj)
   rw [show o'+(j+4)=o'+4+j by omega] at this
   exact this
theorem RdI.mk_list {w:World} {B b o n c:Nat} {l:List Itm} {k:Int} (hk:(Lit.int .i64 k).wf=true) (hc:n≤c) (hn:n≤140737488355328) (hl:l.length=n) (hb:b<B) (h:RdIs w B b o l):RdI w B (.agg #[.int .i64 k,.int .u64 0,.slice none 0 0,.slice (some ⟨b,o,none⟩) n c]) (.mk k 0 [] l):=by
 rw [RdI]
 exact ⟨none,0,0,some ⟨b,o,none⟩,n,c,rfl,hk,by decide,⟨Nat.le_refl _,by decide⟩,Rd.nil_,⟨hc,hn⟩,hl,fun _=>⟨b,o,rfl,hb,h⟩⟩
theorem info_item:(Tryz.prog.info? 30).map (fun i=>(i.zero,i.size,i.bytes))=some (some (.agg #[.int .i64 0,.int .u64 0,.slice none 0 0,.slice none 0 0]),4,64):=by kernel_rfl
theorem rarray_any (b o n c B:Nat) (l:List Itm) (w:World) (hB:B≤w.heap.size) (hb:b<B) (h:RdIs w B b o l) (hl:l.length=n) (h0:0<n) (hn:n≤1000000) (_hc:n≤c) :
  Calls Tryz.prog 43 #[.slice (some ⟨b,o,none⟩) n c] w (GivesI (.mk 4 0 [] l) w):=by
 obtain ⟨i0,hi0,hz0,hz1,hz2⟩:=info_parts info_item
 obtain ⟨cs,n1,n2,n3,n4⟩:=h.news
 rw [hl] at n1
 have bs:b<w.heap.size:=by omega
 have N2:Hid (∀ j u,cs[j]?=some u→((w.alloc (.cells #[.int .i64 0,.int .u64 0,.slice none 0 0,.slice none 0 0] 30)).alloc (.cells #[] 30)).cell? ((⟨b,o,none⟩:Addr).add j)=some u):=by
  intro j u hj
  have e:(⟨b,o,none⟩:Addr).add j=⟨b,o+j,none⟩:=by unfold Addr.add;split <;> simp_all
  rw [e,World.cell?_alloc_lt _ _ _ (Nat.lt_of_lt_of_le bs (le_alloc _ _)),World.cell?_alloc_lt _ _ _ bs]
  exact n2 j u hj
 have HO:=hid (show ((w.alloc (.cells #[.int .i64 0,.int .u64 0,.slice none 0 0,.slice none 0 0] 30)).alloc (.cells #[] 30)).ownsRow (w.heap.size+1) 30 4 (.slice (some ⟨w.heap.size+1,0,none⟩) 0 0) 0 [] by
  have h:=World.ownsRow_lit (base:=w.heap.size+1) (e:=30) (size:=4) (w.alloc (.cells #[.int .i64 0,.int .u64 0,.slice none 0 0,.slice none 0 0] 30)) #[] 0 (by simp) (by decide) rfl
  simpa using h)
 have N1:=hid n1
 have N3:=hid n3
 have N4:=hid n4
 have HL:=hid hl
 have HBB:=hid hB
 have H0:=hid h0
 have HN:=hid hn
 have HI:=hid hi0
 have HZ0:=hid hz0
 have HZ1:=hid hz1
 have HZ2:=hid hz2
 clear n1 n2 n3 n4 h hl hB hb bs hi0 hz0 hz1 hz2 h0 hn
 go_enter Tryz.func43,Tryz.ntmps43
 go_wp2_with (first
  | (at_builtin;refine wpList_append_lies _ rfl (.tmp 3) (.tmp 4) 28 rfl (w.heap.size+1) 30 i0 _ 4 64 Tryz.underlying28 HI.out HZ0.out HZ1.out HZ2.out rfl (by decide) _ 0 [] rfl HO.out ⟨b,o,none⟩ n c cs rfl N1.out N2.out N3.out H0.out (by have:=HN.out;unfold maxLen;omega) (by have:=HN.out;omega) (by simp) _ rfl ?_;intro g cap w1 ho1 hg1 hat hlt;have B1:=hid (((Below.refl (w.heap.size+1) (w.alloc (.cells #[.int .i64 0,.int .u64 0,.slice none 0 0,.slice none 0 0] 30))).alloc (by simp) _).grown hg1 (by simp) (fun k hk=>by cases hk;exact Nat.le_refl _));obtain ⟨⟨z0,z1,z2,z3⟩,f0,f1,f2,f3⟩:=zero_cells B1.out;have O1:=hid ho1;have HLT:=hid hlt;clear ho1 hg1 hat hlt)
  | fail)
 have ho:=O1.out
 rw [Nat.zero_add,List.nil_append] at ho
 have hg:=(ho.lt g rfl).1
 have hcap:n≤cap:=by
  rcases ho.2 with ⟨hv,_⟩|⟨g',cap',cur,hv,_,_,hnc,_⟩
  ·
   cases hv
  ·
   injection hv with _ _ h3
   omega
 refine bodyPost_ret (v:=.agg #[.int .i64 4,.int .u64 0,.slice none 0 0,.slice (some ⟨g,0,none⟩) n cap]) (by simp [results,Tryz.results43,go_sem,z0,z1,z2,z3]) rfl ⟨_,rfl,RdI.mk_list (by decide) hcap (by have:=HN.out;omega) HL.out (by have:=HLT.out;simpa [World.setCell] using this) (N4.out _ _ g 0 ?_ ?_ ?_),?_⟩
 ·
  intro j u hj
  have hjn:j<n*4:=by
   rw [← N1.out]
   rcases Nat.lt_or_ge j cs.length with h|h
   ·
    exact h
   ·
    rw [List.getElem?_eq_none h] at hj;cases hj
  rw [Nat.zero_add,World.cell?_setCell_far _ _ _ _ (by show w.heap.size≠g;omega),World.cell?_setCell_far _ _ _ _ (by show w.heap.size≠g;omega),World.cell?_setCell_far _ _ _ _ (by show w.heap.size≠g;omega),World.cell?_setCell_far _ _ _ _ (by show w.heap.size≠g;omega),ho.cellAt j hjn]
  exact hj
 ·
  intro p hp
  have hp':p.block<w.heap.size:=Nat.lt_of_lt_of_le hp HBB.out
  exact (below_set4 (((Below.refl _ _).alloc nlr _).trans (B1.out.mono (Nat.le_succ _))) nlr).cell hp'
 ·
  have:=HBB.out
  have h2:=B1.out.size
  simp [World.setCell] at h2 ⊢
  omega
 ·
  exact below_set4 (((Below.refl _ _).alloc nlr _).trans (B1.out.mono (Nat.le_succ _))) nlr
structure LstSt (w wr:World) (g:Nat) (k:Int) (vL:Value) (cells:List Value) (xs:List Itm):Prop where
 b0:wr.cell? ⟨w.heap.size+1,0,none⟩=some (.int .i64 k)
 b1:wr.cell? ⟨w.heap.size+1,1,none⟩=some (.int .u64 0)
 b2:wr.cell? ⟨w.heap.size+1,2,none⟩=some (.slice none 0 0)
 b3:wr.cell? ⟨w.heap.size+1,3,none⟩=some vL
 bf:wr.frozen? ⟨w.heap.size+1,3,none⟩=false
 z0:wr.cell? ⟨w.heap.size,0,none⟩=some (.int .i64 0)
 z1:wr.cell? ⟨w.heap.size,1,none⟩=some (.int .u64 0)
 z2:wr.cell? ⟨w.heap.size,2,none⟩=some (.slice none 0 0)
 z3:wr.cell? ⟨w.heap.size,3,none⟩=some (.slice none 0 0)
 f0:wr.frozen? ⟨w.heap.size,0,none⟩=false
 f1:wr.frozen? ⟨w.heap.size,1,none⟩=false
 f2:wr.frozen? ⟨w.heap.size,2,none⟩=false
 f3:wr.frozen? ⟨w.heap.size,3,none⟩=false
 own:wr.ownsRow (w.heap.size+2) 30 4 vL xs.length cells
 its:ItC (mask (lowsOr (w.heap.size+2) vL) wr) wr.heap.size cells xs
 only:Only g w wr
 sz:w.heap.size+2≤wr.heap.size
section
variable {w wr w1 w3:World} {g:Nat} {k:Int} {vL:Value} {cells:List Value} {xs:List Itm}
theorem LstSt.start (_hg:g<w.heap.size) (k:Int):LstSt w ((w.alloc (.cells #[.int .i64 0,.int .u64 0,.slice none 0 0,.slice none 0 0] 30)).alloc (.cells #[.int .i64 k,.int .u64 0,.slice none 0 0,.slice none 0 0] 30)) g k (.slice none 0 0) [] []:=by
 refine ⟨by simp,by simp,by simp,by simp,by simp,by simp,by simp,by simp,by simp,by simp,by simp,by simp,by simp,World.ownsRow_nil _ _ _ _,trivial,((Only.refl g w).alloc _).alloc _,by simp⟩
theorem LstSt.on (h:LstSt w wr g k vL cells xs) (ho:Only g wr w1) (hg:g<w.heap.size):LstSt w w1 g k vL cells xs:=by
 have hsz:=h.sz
 have hb:∀ j,j<wr.heap.size→j≠g→w1.heap[j]?=wr.heap[j]?:=ho.block
 have c:=fun (q:Addr) (hq:q.block<wr.heap.size) (hq2:q.block≠g)=>World.cell?_of_block (w:=wr) (a:=q) (hb q.block hq hq2)
 have f:=fun (q:Addr) (hq:q.block<wr.heap.size) (hq2:q.block≠g)=>World.frozen?_of_block (w:=wr) (a:=q) (hb q.block hq hq2)
 have m0:w.heap.size<wr.heap.size∧w.heap.size≠g:=by omega
 have m1:w.heap.size+1<wr.heap.size∧w.heap.size+1≠g:=by omega
 refine ⟨(c _ m1.1 m1.2).trans h.b0,(c _ m1.1 m1.2).trans h.b1,(c _ m1.1 m1.2).trans h.b2,(c _ m1.1 m1.2).trans h.b3,(f _ m1.1 m1.2).trans h.bf,(c _ m0.1 m0.2).trans h.z0,(c _ m0.1 m0.2).trans h.z1,(c _ m0.1 m0.2).trans h.z2,(c _ m0.1 m0.2).trans h.z3,
  (f _ m0.1 m0.2).trans h.f0,(f _ m0.1 m0.2).trans h.f1,(f _ m0.1 m0.2).trans h.f2,(f _ m0.1 m0.2).trans h.f3,?_,?_,h.only.trans ho,Nat.le_trans h.sz ho.size⟩
 ·
  refine World.ownsRow.kept h.own (row:=some g) ⟨ho.os,ho.tape,ho.output,ho.size,fun j hj hne=>hb j hj (fun e=>hne (by rw [e]))⟩ ?_
  rcases hv:vL.ownBlock with _|q
  ·
   exact .inl rfl
  ·
   refine .inr fun e=>?_
   injection e with e
   have:=(World.ownsRow.lt h.own q hv).1
   omega
 ·
  exact h.its.mask_go ho.size (fun j hj hs=>hb j hj (by have:=(lowsOr_f.1 hs).1;omega)) (fun _ _ hs=>hs)
theorem LstSt.push (h:LstSt w wr g k vL cells xs) (ho:Only g wr w1) (hg:g<w.heap.size) {c0 c1 c2 c3:Value} {x:Itm} (hx:RdI (mask (lows wr.heap.size) w1) w1.heap.size (.agg #[c0,c1,c2,c3]) x) (o1 o2:Obj)
  {g2 cap m:Nat} (hm:xs.length=m) (hown:w3.ownsRow (w.heap.size+2) 30 4 (.slice (some ⟨g2,0,none⟩) (m+1) cap) (m+1) (cells++[c0,c1,c2,c3])) (hgr:((w1.alloc o1).alloc o2).grownBy w3 vL.ownBlock) (hor:vL.ownBlock=some g2∨g2=((w1.alloc o1).alloc o2).heap.size) :
  LstSt w (w3.setCell ⟨w.heap.size+1,3,none⟩ (.slice (some ⟨g2,0,none⟩) (m+1) cap)) g k (.slice (some ⟨g2,0,none⟩) (m+1) cap) (cells++[c0,c1,c2,c3]) (xs++[x]):=by
 subst hm
 have h1:=((h.on ho hg).on ((Only.refl g w1).alloc o1) hg).on ((Only.refl g _).alloc o2) hg
 have hz2:((w1.alloc o1).alloc o2).heap.size=w1.heap.size+2:=by simp
 have hzr:=ho.size
 have hsz:=h.sz
 have hlt:=fun q (e:vL.ownBlock=some q)=>World.ownsRow.lt h.own q e
 have hz3:=hgr.size
 have hb:∀ j,j<((w1.alloc o1).alloc o2).heap.size→vL.ownBlock≠some j→w3.heap[j]?=((w1.alloc o1).alloc o2).heap[j]?:=fun j hj hne=>hgr.block j hj (fun e=>hne e.symm)
 have hlow:∀ j,j<w.heap.size+2→vL.ownBlock≠some j:=fun j hj e=>by have:=(hlt j e).1;omega
 have c:=fun (q:Addr) (hq:q.block<w.heap.size+2)=>World.cell?_of_block (w:=(w1.alloc o1).alloc o2) (a:=q) (hb q.block (by omega) (hlow _ hq))
 have f:=fun (q:Addr) (hq:q.block<w.heap.size+2)=>World.frozen?_of_block (w:=(w1.alloc o1).alloc o2) (a:=q) (hb q.block (by omega) (hlow _ hq))
 have m0:w.heap.size<w.heap.size+2:=by omega
 have m1:w.heap.size+1<w.heap.size+2:=by omega
 have k0:∀ j u,w3.cell? ⟨w.heap.size,j,none⟩=some u→(w3.setCell ⟨w.heap.size+1,3,none⟩ (.slice (some ⟨g2,0,none⟩) (xs.length+1) cap)).cell? ⟨w.heap.size,j,none⟩=some u:=fun j u hu=>by
  rw [World.cell?_setCell_far _ _ _ _ (by show w.heap.size+1≠w.heap.size;omega)];exact hu
 have hnew:∀ j,j<((w1.alloc o1).alloc o2).heap.size→vL.ownBlock≠some j→g2≠j:=fun j hj hne e=>by
  rcases hor with e2|e2
  ·
   exact hne (by rw [e2,e])
  ·
   omega
 refine ⟨cell_set_ne (by decide) ((c _ m1).trans h1.b0),cell_set_ne (by decide) ((c _ m1).trans h1.b1),cell_set_ne (by decide) ((c _ m1).trans h1.b2),World.cell?_setCell_same _ _ _ ((c _ m1).trans h1.b3),by rw [World.frozen?_setCell];exact (f _ m1).trans h1.bf,
  k0 _ _ ((c _ m0).trans h1.z0),k0 _ _ ((c _ m0).trans h1.z1),k0 _ _ ((c _ m0).trans h1.z2),k0 _ _ ((c _ m0).trans h1.z3),
  by rw [World.frozen?_setCell];exact (f _ m0).trans h1.f0,by rw [World.frozen?_setCell];exact (f _ m0).trans h1.f1,by rw [World.frozen?_setCell];exact (f _ m0).trans h1.f2,by rw [World.frozen?_setCell];exact (f _ m0).trans h1.f3,?_,?_,?_,?_⟩
 ·
  rw [List.length_append,List.length_singleton]
  refine World.ownsRow.kept hown (row:=some (w.heap.size+1)) ⟨rfl,rfl,rfl,by simp [World.setCell],fun j _ hne=>Below.heap_setCell _ _ _ _ (fun e=>hne (by rw [e]))⟩ (.inr fun e=>?_)
  have:=(World.ownsRow.lt hown g2 rfl).1
  injection e with e
  simp at e
  omega
 ·
  refine ItC.snoc ?_ ?_
  ·
   refine hx.mask_go (by simp [World.setCell];omega) (fun j hj hs=>?_) (fun j hj hs=>?_)
   ·
    have hs':=lows_f.1 hs
    have hne:vL.ownBlock≠some j:=fun e=>by have:=(hlt j e).2;omega
    rw [Below.heap_setCell _ _ _ _ (by show j≠w.heap.size+1;omega),hb j (by omega) hne,Below.heap_alloc _ _ _ (by simp;omega),Below.heap_alloc _ _ _ hj]
   ·
    have hs':=lows_f.1 hs
    have hne:vL.ownBlock≠some j:=fun e=>by have:=(hlt j e).2;omega
    exact lowsOr_f.2 ⟨by omega,fun e=>hnew j (by omega) hne (by injection e)⟩
  ·
   refine (h1.its).mask_go (by simp [World.setCell];omega) (fun j hj hs=>?_) (fun j hj hs=>?_)
   ·
    have hs':=lowsOr_f.1 hs
    rw [Below.heap_setCell _ _ _ _ (by show j≠w.heap.size+1;omega),hb j hj hs'.2]
   ·
    have hs':=lowsOr_f.1 hs
    exact lowsOr_f.2 ⟨hs'.1,fun e=>hnew j hj hs'.2 (by injection e)⟩
 ·
  have ho1:=h1.only
  refine ⟨hgr.os.trans ho1.os,hgr.tape.trans ho1.tape,hgr.output.trans ho1.output,by simp [World.setCell];omega,fun j hj hne=>?_⟩
  rw [Below.heap_setCell _ _ _ _ (by show j≠w.heap.size+1;omega),hb j (by omega) (hlow j (by omega))]
  exact ho1.block j hj hne
 ·
  simp [World.setCell];omega
theorem LstSt.far (h:LstSt w wr g k vL cells xs) (hgr:wr.grownBy w3 vL.ownBlock):w3.cell? ⟨w.heap.size+1,3,none⟩=some vL∧w3.frozen? ⟨w.heap.size+1,3,none⟩=false∧Below (w.heap.size+2) wr w3:=by
 have hsz:=h.sz
 have hb:Below (w.heap.size+2) wr w3:=⟨hgr.os,hgr.tape,hgr.output,hgr.size,fun j hj=>hgr.block j (by omega) (fun e=>by have:=(World.ownsRow.lt h.own j e.symm).1;omega)⟩
 exact ⟨(hb.cell (p:=⟨w.heap.size+1,3,none⟩) (Nat.lt_succ_self _)).trans h.b3,(hb.frozen (p:=⟨w.heap.size+1,3,none⟩) (Nat.lt_succ_self _)).trans h.bf,hb⟩
theorem RSt.setFar {n c i p d b j:Nat} {A:Option Addr} {bs:List UInt8} (h:RSt w g A n c bs i p d) (hb:g<b) (u:Value):RSt (w.setCell ⟨b,j,none⟩ u) g A n c bs i p d :=
 h.below (B:=b) ((Below.refl b w).setCell (p:=⟨b,j,none⟩) nlr u) hb
theorem LstSt.read (h:LstSt w wr g k vL cells xs) (hk:(Lit.int .i64 k).wf=true) (hl:xs.length≤140737488355328):RdI (mask (lows (w.heap.size+2)) wr) wr.heap.size (.agg #[.int .i64 k,.int .u64 0,.slice none 0 0,vL]) (.mk k 0 [] xs):=by
 rcases h.own.2 with ⟨hv,h0⟩|⟨q,cap,cur,hv,hbq,hgq,hnc,hcm,hcs,htake⟩
 ·
  have e:xs=[]:=List.eq_nil_of_length_eq_zero h0
  subst e
  rw [hv]
  exact (RdI.mk_data (w:=wr) (B:=wr.heap.size) (nd:=0) (cd:=0) (A:=none) hk nlr (by decide) Rd.nil_).bare
 ·
  have hlt:=World.ownsRow.lt h.own q (by rw [hv];rfl)
  have hown:=h.own
  rw [hv] at hown ⊢
  refine RdI.mk_list hk hnc hl rfl hlt.2 (ItC.lie (h.its.mask_go nlr (fun _ _ _=>rfl) (fun j _ hs=>lows_f.2 (lowsOr_f.1 hs).1)) fun j u hj=>?_)
  have hjl:j<xs.length*4:=by
   rw [← hown.1]
   rcases Nat.lt_or_ge j cells.length with h|h
   ·
    exact h
   ·
    rw [List.getElem?_eq_none h] at hj;cases hj
  rw [Nat.zero_add,mask_cell (lows_f.2 hlt.1),World.ownsRow.cellAt hown j hjl]
  exact hj
end
def ItemIH (D:Nat):Prop:=∀ (w:World) (g:Nat) (A:Option Addr) (n c:Nat) (bs:List UInt8) (i p d:Nat),d+D=8→p≤4096→RSt w g A n c bs i p d →
  Calls Tryz.prog 159 #[.pointer (some ⟨g,0,none⟩)] w (GivesR g A n c bs d (dec D p (bs.drop i)) w)
def prep (xs:List Itm) (r:Except Int (List Itm×Nat×List UInt8)):Except Int (List Itm×Nat×List UInt8) :=
 match r with
 | .error z=>.error z
 | .ok (ys,q,l')=>.ok (xs++ys,q,l')
def lst (k:Int) (r:Except Int (List Itm×Nat×List UInt8)):Except Int (Itm×Nat×List UInt8) :=
 match r with
 | .error z=>.error z
 | .ok (xs,q,l')=>.ok (.mk k 0 [] xs,q,l')
theorem prep_nil (r:Except Int (List Itm×Nat×List UInt8)):prep [] r=r:=by
 rcases r with z|⟨ys,q,l'⟩ <;> rfl
structure ArrSt (w wr:World) (g:Nat) (A:Option Addr) (n c:Nat) (bs:List UInt8) (d D m j i p:Nat) (vL:Value) (cells:List Value) (xs:List Itm) (R:Except Int (List Itm×Nat×List UInt8)):Prop where
 st:RSt wr g A n c bs i p (d+1)
 ls:LstSt w wr g 4 vL cells xs
 hj:j≤m
 hl:xs.length=j
 hp:p≤4096
 hjp:j≤p
 eq:R=prep xs (many (dec D) (m - j) p (bs.drop i))
section
variable {w wr w1 w3:World} {g n c i p d D m j:Nat} {A:Option Addr} {bs:List UInt8} {vL:Value} {cells:List Value} {xs:List Itm} {R:Except Int (List Itm×Nat×List UInt8)}
theorem many_succ {sub:Nat→List UInt8→Except Int (Itm×Nat×List UInt8)} (k:Nat) (p:Nat) (l:List UInt8) (hk:0<k):many sub k p l=match sub p l with
  | .error e=>.error e
  | .ok (x,p1,l1)=>match many sub (k - 1) p1 l1 with
   | .error e=>.error e
   | .ok (xs,p2,l2)=>.ok (x::xs,p2,l2):=by
 obtain ⟨q,rfl⟩:∃ q,k=q+1:=⟨k - 1,by omega⟩
 rw [many,Nat.add_sub_cancel]
 rcases sub p l with z|⟨x,p1,l1⟩
 ·
  rfl
 ·
  rcases many sub q p1 l1 with z|⟨ys,p2,l2⟩ <;> rfl
theorem ArrSt.fail (h:ArrSt w wr g A n c bs d D m j i p vL cells xs R) (hj:j<m) {z:Int} (he:dec D p (bs.drop i)=.error z):R=.error z:=by
 rw [h.eq,many_succ _ _ _ (by omega),he]
 rfl
theorem ArrSt.next (h:ArrSt w wr g A n c bs d D m j i p vL cells xs R) (hj:j<m) {x:Itm} {p1 i1:Nat} {l1:List UInt8} (he:dec D p (bs.drop i)=.ok (x,p1,l1)) (hl1:bs.drop i1=l1) {w4:World} {vL':Value} {cells':List Value}
  (hst:RSt w4 g A n c bs i1 p1 (d+1)) (hls:LstSt w w4 g 4 vL' cells' (xs++[x])):ArrSt w w4 g A n c bs d D m (j+1) i1 p1 vL' cells' (xs++[x]) R:=by
 obtain ⟨-,-,-,-,e5,e6⟩:=dec_ok D p _ x p1 l1 h.hp he
 have hpp:=par_pos x
 have hjp:=h.hjp
 refine ⟨hst,hls,by omega,by rw [List.length_append,List.length_singleton,h.hl],e6,by omega,?_⟩
 rw [h.eq,many_succ _ _ _ (by omega),he,hl1,Nat.sub_sub]
 show prep xs (match many (dec D) (m - (j+1)) p1 l1 with | .error e=>.error e | .ok (ys,p2,l2)=>.ok (x::ys,p2,l2))=_
 rcases many (dec D) (m - (j+1)) p1 l1 with z|⟨ys,q,l'⟩
 ·
  rfl
 ·
  simp [prep]
theorem ArrSt.done (h:ArrSt w wr g A n c bs d D m j i p vL cells xs R) (hj:¬ j<m):R=.ok (xs,p,bs.drop i):=by
 have:=h.hj
 rw [h.eq,show m - j=0 by omega,many,prep,List.append_nil]
theorem array_any (IH:Hid (ItemIH D)) (hD:d+1+D=8) (hp:p≤4096) (h:RSt w g A n c bs i p d) (m:Nat) (hm:m<18446744073709551616) :
  Calls Tryz.prog 226 #[.pointer (some ⟨g,0,none⟩),.int .u64 (m:Int)] w (GivesR g A n c bs d (lst 4 (many (dec D) m p (bs.drop i))) w):=by
 obtain ⟨R,hR⟩:∃ R,R=many (dec D) m p (bs.drop i):=⟨_,rfl⟩
 rw [← hR]
 have hg:=h.lt
 have HG:=hid hg
 have hls:=LstSt.start hg 4
 have hs0:=(h.alloc (.cells #[.int .i64 0,.int .u64 0,.slice none 0 0,.slice none 0 0] 30)).alloc (.cells #[.int .i64 4,.int .u64 0,.slice none 0 0,.slice none 0 0] 30)
 have q3:=hs0.c3
 have qf:=hs0.f3
 have hs1:=hs0.set3 (z:=(d:Int)+1) (d+1) (by omega)
 have hls1:=hls.on ((Only.refl g _).setCell (p:=⟨g,3,none⟩) rfl (.int .i64 ((d:Int)+1))) hg
 have HST:=hid (show ArrSt w _ g A n c bs d D m 0 i p (.slice none 0 0) [] [] R from ⟨hs1,hls1,Nat.zero_le _,rfl,hp,Nat.zero_le _,by rw [Nat.sub_zero,prep_nil];exact hR⟩)
 have hd8:d≤8:=by omega
 obtain ⟨i0,hi0,hz0,hz1,hz2⟩:=info_parts info_item
 have HI:=hid hi0
 have HI0:=hid hz0
 have HI1:=hid hz1
 have HI2:=hid hz2
 clear hR hls hs0 hs1 hls1 h hg hi0 hz0 hz1 hz2 hp
 go_enter Tryz.func226,Tryz.ntmps226
 go_wp2_with fail
 go_loopw [18] (fun cnt wr=>∃ (j i p:Nat) (vL:Value) (cells:List Value) (xs:List Itm),cnt=.int .u64 (j:Int)∧j≤m∧Hid (ArrSt w wr g A n c bs d D m j i p vL cells xs R)) (fun cnt _=>m - (intOf cnt).toNat)
 case atStart=>exact ⟨0,i,p,_,_,_,rfl,Nat.zero_le _,HST.out⟩
 case round =>
  obtain ⟨j,i,p,vL,cells,xs,rfl,hj,hst⟩:=hrel
  clear HST q3 qf
  by_cases hlt:j<m
  ·
   have C1:=IH.out wr g A n c bs i p (d+1) (by omega) hst.out.hp hst.out.st
   rcases hres:dec D p (bs.drop i) with z|⟨x,p1,l1⟩
   ·
    rw [hres] at C1
    have hRz:=hst.out.fail hlt hres
    have HC:=hid C1
    clear C1 hres
    go_wp2_with fail
    refine HC.out.mono ?_
    rintro e w1 ⟨rfl,ho⟩
    have hls2:=(hst.out.ls.on ho HG.out).on ((Only.refl g w1).alloc (.cells #[.int .i64 0,.int .u64 0,.slice none 0 0,.slice none 0 0] 30)) HG.out
    have z0:=hls2.z0
    have z1:=hls2.z1
    have z2:=hls2.z2
    have z3:=hls2.z3
    have f0:=hls2.f0
    have f1:=hls2.f1
    have f2:=hls2.f2
    have f3:=hls2.f3
    have HO:=hid hls2.only
    have HRZ:=hid hRz
    clear ho hls2 hRz
    unfold noItem flt
    go_wp2_with fail
    refine bodyPost_ret (v:=.tuple #[noItem,flt z]) (by simp [results,Tryz.results226,go_sem,z0,z1,z2,z3,noItem,flt]) rfl ?_
    rw [HRZ.out]
    exact ⟨rfl,set4_only HO.out nlr⟩
   ·
    rw [hres] at C1
    have HC:=hid C1
    have HRES:=hid hres
    have hj4:j≤4096:=Nat.le_trans hst.out.hjp hst.out.hp
    have HJ4:=hid hj4
    clear C1 hres hj4
    go_wp2_with fail
    refine HC.out.mono ?_
    rintro e w1 ⟨v,i1,rfl,hv,hst1,hl1,ho⟩
    obtain ⟨k1,n1,A1,nd1,cd1,AL1,nl1,cl1,rfl⟩:=hv.form
    have hls1:=hst.out.ls.on ho HG.out
    have hls2:=(hls1.on ((Only.refl g w1).alloc (.cells #[.int .i64 k1,.int .u64 (n1:Int),.slice A1 nd1 cd1,.slice AL1 nl1 cl1] 30)) HG.out)
    have b3:=hls2.b3
    have hls3:=hls2.on ((Only.refl g _).alloc (.cells #[.int .i64 k1,.int .u64 (n1:Int),.slice A1 nd1 cd1,.slice AL1 nl1 cl1] 30)) HG.out
    have HOWN:=hid (show World.ownsRow _ _ _ _ _ j _ by have:=hls3.own;rwa [hst.out.hl] at this)
    have HLS3:=hid hls3
    have HV:=hid hv
    have HST1:=hid hst1
    have HL1:=hid hl1
    have HO:=hid ho
    clear hv hst1 hl1 ho hls1 hls2 hls3
    go_wp2_with (first
     | (at_builtin;refine wpList_append_lies _ rfl (.tmp 30) (.tmp 32) 28 rfl (w.heap.size+2) 30 i0 _ 4 64 Tryz.underlying28 HI.out HI0.out HI1.out HI2.out rfl (by decide) vL j cells rfl HOWN.out ⟨w1.heap.size+1,0,none⟩ 1 1 [.int .i64 k1,.int .u64 (n1:Int),.slice A1 nd1 cd1,.slice AL1 nl1 cl1] rfl rfl (by intro q u hq;match q with|0=>(cases hq;simp [Addr.add])|1=>(cases hq;simp [Addr.add])|2=>(cases hq;simp [Addr.add])|3=>(cases hq;simp [Addr.add])|q+4=>simp at hq) (by intro u hu;simp at hu;rcases hu with rfl|rfl|rfl|rfl <;> rfl) (by decide) (by have:=HJ4.out;unfold maxLen;omega) (by have:=HJ4.out;omega) HLS3.out.sz _ rfl ?_;intro g2 cap2 w3 ho3 hg3 hat hlt3;have HG3:=hid hg3;have HO3:=hid ho3;have HAT:=hid hat;have hfar:=HLS3.out.far hg3;have s3:=hfar.1;have sf:=hfar.2.1;have HB3:=hid hfar.2.2;clear ho3 hg3 hat hlt3 hfar)
     | fail)
    go_roundw
    case rel =>
     have hp:=LstSt.push hst.out.ls HO.out HG.out HV.out _ _ hst.out.hl HO3.out HG3.out HAT.out
     have hs3:RSt w3 g A n c bs i1 p1 (d+1):=((HST1.out.alloc _).alloc _).below HB3.out (Nat.lt_of_lt_of_le HG.out (Nat.le_add_right _ 2))
     exact ⟨j+1,i1,p1,_,_,_,by go_num,by omega,hst.out.next hlt HRES.out HL1.out (hs3.setFar (Nat.lt_succ_of_lt HG.out) _) hp⟩
    case measure=>simp [intOf];omega
  ·
   obtain ⟨AL,nL,cL,rfl⟩:∃ AL nL cL,vL=.slice AL nL cL:=by
    rcases hst.out.ls.own.2 with ⟨hv,_⟩|⟨q,cap,cur,hv,_⟩ <;> exact ⟨_,_,_,hv⟩
   have hR:=hst.out.done hlt
   have HST:=hid hst.out.st
   have HLS:=hid hst.out.ls
   have HJL:Hid (xs.length≤140737488355328):=by show _≤_;have:=hst.out.hjp;have:=hst.out.hp;have:=hst.out.hl;omega
   have q3:=hst.out.st.c3
   have qf:=hst.out.st.f3
   have e1:((d+1:Nat):Int)=(d:Int)+1:=by omega
   rw [e1] at q3
   have hs1:=hst.out.st.set3 (z:=(d:Int)) d rfl
   have ho:=(Only.refl g wr).setCell (p:=⟨g,3,none⟩) rfl (.int .i64 (d:Int))
   have hls1:=hst.out.ls.on ho HG.out
   have HRR:=hid hR
   have HLS1:=hid hls1
   have HS1:=hid hs1
   have b0:=hls1.b0
   have b1:=hls1.b1
   have b2:=hls1.b2
   have b3:=hls1.b3
   have z0:=hls1.z0
   have z1:=hls1.z1
   have z2:=hls1.z2
   have z3:=hls1.z3
   have f0:=hls1.f0
   have f1:=hls1.f1
   have f2:=hls1.f2
   have f3:=hls1.f3
   clear hR hs1 ho hls1 e1 hst
   go_wp2_with fail
   refine bodyPost_ret (v:=.tuple #[.agg #[.int .i64 4,.int .u64 0,.slice none 0 0,.slice AL nL cL],.nilIface]) (by simp [results,Tryz.results226,go_sem,z0,z1,z2,z3]) rfl ?_
   rw [HRR.out]
   exact ⟨_,i,rfl,(HLS1.out.read (by decide) HJL.out).fin nlr (by omega) (by omega),HS1.out.set4 HG.out,rfl,set4_only HLS1.out.only nlr⟩
end
def leftOf (w:World) (g n:Nat):Nat:=match w.cell? ⟨g,1,none⟩ with|some (.int _ i)=>n - i.toNat|_=>0
structure EndSt (w wr:World) (g:Nat) (A:Option Addr) (n c:Nat) (bs:List UInt8) (d D f i p:Nat) (vL:Value) (cells:List Value) (xs:List Itm) (R:Except Int (List Itm×Nat×List UInt8)):Prop where
 st:RSt wr g A n c bs i p (d+1)
 ls:LstSt w wr g 5 vL cells xs
 hf:(bs.drop i).length<f
 hp:p≤4096
 hjp:xs.length≤p
 eq:R=prep xs (endl (dec D) f p (bs.drop i))
section
variable {w wr w1 w3:World} {g n c i p d D f:Nat} {A:Option Addr} {bs:List UInt8} {vL:Value} {cells:List Value} {xs:List Itm} {R:Except Int (List Itm×Nat×List UInt8)}
theorem leftOf_st (h:RSt w g A n c bs i p d):leftOf w g n=n - i:=by unfold leftOf;rw [h.c1];rfl
theorem endl_succ {sub:Nat→List UInt8→Except Int (Itm×Nat×List UInt8)} (k:Nat) (p:Nat) (x:UInt8) (r:List UInt8) (hk:0<k) (hx:x≠0xff):endl sub k p (x::r)=match sub p (x::r) with
  | .error e=>.error e
  | .ok (x,p1,l1)=>match endl sub (k - 1) p1 l1 with
   | .error e=>.error e
   | .ok (xs,p2,l2)=>.ok (x::xs,p2,l2):=by
 obtain ⟨q,rfl⟩:∃ q,k=q+1:=⟨k - 1,by omega⟩
 rw [endl,if_neg hx,Nat.add_sub_cancel]
 rcases sub p (x::r) with z|⟨x,p1,l1⟩
 ·
  rfl
 ·
  rcases endl sub q p1 l1 with z|⟨ys,p2,l2⟩ <;> rfl
theorem dec_nil (D p:Nat):dec D p []=.error 30:=by cases D <;> rfl
theorem EndSt.out (h:EndSt w wr g A n c bs d D f i p vL cells xs R) (he:¬ i<n):R=.error 30∧dec D p (bs.drop i)=.error 30:=by
 have hl:=h.st.rd.1
 have e:bs.drop i=[]:=List.drop_eq_nil_of_le (by omega)
 obtain ⟨q,rfl⟩:∃ q,f=q+1:=⟨f - 1,by have:=h.hf;omega⟩
 rw [h.eq,e]
 exact ⟨rfl,dec_nil _ _⟩
theorem EndSt.fail (h:EndSt w wr g A n c bs d D f i p vL cells xs R) {x:UInt8} (hx:bs.drop i=x::bs.drop (i+1)) (hne:x≠0xff) {z:Int} (he:dec D p (bs.drop i)=.error z):R=.error z:=by
 have hf:=h.hf
 rw [h.eq,hx,endl_succ _ _ _ _ (by omega) hne,← hx,he]
 rfl
theorem EndSt.next (h:EndSt w wr g A n c bs d D f i p vL cells xs R) {y:UInt8} (hy:bs.drop i=y::bs.drop (i+1)) (hne:y≠0xff) {x:Itm} {p1 i1:Nat} {l1:List UInt8} (he:dec D p (bs.drop i)=.ok (x,p1,l1)) (hl1:bs.drop i1=l1) {w4:World} {vL':Value} {cells':List Value}
  (hst:RSt w4 g A n c bs i1 p1 (d+1)) (hls:LstSt w w4 g 5 vL' cells' (xs++[x])):EndSt w w4 g A n c bs d D (f - 1) i1 p1 vL' cells' (xs++[x]) R∧n - i1<n - i:=by
 obtain ⟨e1,-,-,-,e5,e6⟩:=dec_ok D p _ x p1 l1 h.hp he
 obtain ⟨cc,rr,hw,-⟩:=wr_ne x
 have hpp:=par_pos x
 have hjp:=h.hjp
 have hf:=h.hf
 have hl:=h.st.rd.1
 have hlen:l1.length<(bs.drop i).length:=by rw [e1,hw];simp;omega
 have hl1':=hlen
 rw [← hl1,List.length_drop,List.length_drop] at hl1'
 refine ⟨⟨hst,hls,by rw [hl1];omega,e6,by rw [List.length_append,List.length_singleton];omega,?_⟩,by omega⟩
 rw [h.eq,hy,endl_succ _ _ _ _ (by omega) hne,← hy,he,hl1]
 show prep xs (match endl (dec D) (f - 1) p1 l1 with | .error e=>.error e | .ok (ys,p2,l2)=>.ok (x::ys,p2,l2))=_
 rcases endl (dec D) (f - 1) p1 l1 with z|⟨ys,q,l'⟩
 ·
  rfl
 ·
  simp [prep]
theorem EndSt.on (h:EndSt w wr g A n c bs d D f i p vL cells xs R) (hb:Below wr.heap.size wr w1) (hg:g<w.heap.size):EndSt w w1 g A n c bs d D f i p vL cells xs R :=
 ⟨h.st.below hb h.st.lt,h.ls.on (Only.of_below hb) hg,h.hf,h.hp,h.hjp,h.eq⟩
theorem EndSt.done (h:EndSt w wr g A n c bs d D f i p vL cells xs R) (hy:bs.drop i=0xff::bs.drop (i+1)):R=.ok (xs,p,bs.drop (i+1)):=by
 obtain ⟨q,rfl⟩:∃ q,f=q+1:=⟨f - 1,by have:=h.hf;omega⟩
 rw [h.eq,hy,endl,if_pos rfl,prep,List.append_nil]
theorem endless_any (IH:Hid (ItemIH D)) (hD:d+1+D=8) (hp:p≤4096) (h:RSt w g A n c bs i p d) :
  Calls Tryz.prog 200 #[.pointer (some ⟨g,0,none⟩)] w (GivesR g A n c bs d (lst 5 (endl (dec D) ((bs.drop i).length+1) p (bs.drop i))) w):=by
 obtain ⟨R,hR⟩:∃ R,R=endl (dec D) ((bs.drop i).length+1) p (bs.drop i):=⟨_,rfl⟩
 rw [← hR]
 have hg:=h.lt
 have HG:=hid hg
 have hls:=LstSt.start hg 5
 have hs0:=(h.alloc (.cells #[.int .i64 0,.int .u64 0,.slice none 0 0,.slice none 0 0] 30)).alloc (.cells #[.int .i64 5,.int .u64 0,.slice none 0 0,.slice none 0 0] 30)
 have q3:=hs0.c3
 have qf:=hs0.f3
 have hs1:=hs0.set3 (z:=(d:Int)+1) (d+1) (by omega)
 have hls1:=hls.on ((Only.refl g _).setCell (p:=⟨g,3,none⟩) rfl (.int .i64 ((d:Int)+1))) hg
 have HST:=hid (show EndSt w _ g A n c bs d D ((bs.drop i).length+1) i p (.slice none 0 0) [] [] R from ⟨hs1,hls1,Nat.lt_succ_self _,hp,Nat.zero_le _,by rw [prep_nil];exact hR⟩)
 have hd8:d≤8:=by omega
 obtain ⟨i0,hi0,hz0,hz1,hz2⟩:=info_parts info_item
 have HI:=hid hi0
 have HI0:=hid hz0
 have HI1:=hid hz1
 have HI2:=hid hz2
 clear hR hls hs0 hs1 hls1 h hg hi0 hz0 hz1 hz2 hp
 go_enter Tryz.func200,Tryz.ntmps200
 go_wp2_with fail
 go_loopw [6] (fun _ wr=>∃ (f i p:Nat) (vL:Value) (cells:List Value) (xs:List Itm),Hid (EndSt w wr g A n c bs d D f i p vL cells xs R)) (fun _ wr=>leftOf wr g n)
 case atStart=>exact ⟨_,i,p,_,_,_,HST.out⟩
 case round =>
  obtain ⟨f,i,p,vL,cells,xs,hst⟩:=hrel
  clear HST q3 qf
  have HS:=hid hst.out.st
  have g0:=hst.out.st.c0
  have g1:=hst.out.st.c1
  have C0:=hid (fun k=>Calls.quiet_of (left_q (hst.out.st.drewN k)))
  have hin:=hst.out.st.hi
  have hn6:=hst.out.st.hn
  by_cases hlt:i<n
  ·
   obtain ⟨b,o,x,rfl,hcx,hy,hb⟩:=hst.out.st.byte hlt
   have HB:=hid hb
   have HY:=hid hy
   have hz:(((n - i:Nat):Int)==0)=false:=by simp;omega
   have i0':(0:Int)≤(i:Int):=by omega
   have i1':(i:Int)<(n:Int):=by omega
   generalize hZ:n - i=Z at *
   clear hb hy hZ
   by_cases hff:x=0xff
   ·
    subst hff
    have hxf:((255:Int) != 255)=false:=by simp
    have hcx2:wr.cell? ⟨b,o+i,none⟩=some (.int .u8 255):=hcx
    clear hcx
    go_wp2_with fail
    go_quiet (first|(go_at_call 222;exact C0.out _)|fail)
    have HB0:=hid (below_drewN wr.heap.size wr nq)
    have hst0:=hst.out.on HB0.out HG.out
    obtain ⟨AL,nL,cL,rfl⟩:∃ AL nL cL,vL=.slice AL nL cL:=by
     rcases hst.out.ls.own.2 with ⟨hv,_⟩|⟨q,cap,cur,hv,_⟩ <;> exact ⟨_,_,_,hv⟩
    have HRR:=hid (hst.out.done HY.out)
    have HJL:Hid (xs.length≤140737488355328):=by show _≤_;have:=hst.out.hjp;have:=hst.out.hp;omega
    have q3:=hst0.st.c3
    have qf:=hst0.st.f3
    have e1:((d+1:Nat):Int)=(d:Int)+1:=by omega
    rw [e1] at q3
    have hs1:=hst0.st.set3 (z:=(d:Int)) d rfl
    have p1c:=hs1.c1
    have p1f:=hs1.f1
    have hs2:=hs1.set1 (z:=(i:Int)+1) (i+1) (by omega) (by omega)
    have ho:=((Only.refl g (wr.drewN nq)).setCell (p:=⟨g,3,none⟩) rfl (.int .i64 (d:Int))).setCell (p:=⟨g,1,none⟩) rfl (.int .i64 ((i:Int)+1))
    have hls1:=hst0.ls.on ho HG.out
    have HLS1:=hid hls1
    have HS1:=hid hs2
    have b0:=hls1.b0
    have b1:=hls1.b1
    have b2:=hls1.b2
    have b3:=hls1.b3
    have z0:=hls1.z0
    have z1:=hls1.z1
    have z2:=hls1.z2
    have z3:=hls1.z3
    have f0:=hls1.f0
    have f1:=hls1.f1
    have f2:=hls1.f2
    have f3:=hls1.f3
    clear hs1 hs2 ho hls1 e1 hst0
    go_wp2_with fail
    refine bodyPost_ret (v:=.tuple #[.agg #[.int .i64 5,.int .u64 0,.slice none 0 0,.slice AL nL cL],.nilIface]) (by simp [results,Tryz.results200,go_sem,z0,z1,z2,z3]) rfl ?_
    rw [HRR.out]
    exact ⟨_,i+1,rfl,(HLS1.out.read (by decide) HJL.out).fin nlr (by omega) (by omega),HS1.out.set4 HG.out,rfl,set4_only HLS1.out.only nlr⟩
   ·
    have hxf:((x.toNat:Int) != 255)=true:=by
     have:x.toNat≠255:=fun e=>hff (UInt8.toNat_inj.1 e)
     simp;omega
    have HFF:=hid hff
    clear hff
    generalize x.toNat=X at *
    go_wp2_with fail
    go_quiet (first|(go_at_call 222;exact C0.out _)|fail)
    have HB0:=hid (below_drewN wr.heap.size wr nq)
    have C1:=IH.out (wr.drewN nq) g _ n c bs i p (d+1) (by omega) hst.out.hp (hst.out.st.below HB0.out HS.out.lt)
    rcases hres:dec D p (bs.drop i) with z|⟨y,p1,l1⟩
    ·
     rw [hres] at C1
     have hRz:=hst.out.fail HY.out HFF.out hres
     have HC:=hid C1
     clear C1 hres
     go_wp2_with fail
     refine HC.out.mono ?_
     rintro e w1 ⟨rfl,ho⟩
     have hls2:=((hst.out.on HB0.out HG.out).ls.on ho HG.out).on ((Only.refl g w1).alloc (.cells #[.int .i64 0,.int .u64 0,.slice none 0 0,.slice none 0 0] 30)) HG.out
     have z0:=hls2.z0
     have z1:=hls2.z1
     have z2:=hls2.z2
     have z3:=hls2.z3
     have f0:=hls2.f0
     have f1:=hls2.f1
     have f2:=hls2.f2
     have f3:=hls2.f3
     have HO:=hid hls2.only
     have HRZ:=hid hRz
     clear ho hls2 hRz
     unfold noItem flt
     go_wp2_with fail
     refine bodyPost_ret (v:=.tuple #[noItem,flt z]) (by simp [results,Tryz.results200,go_sem,z0,z1,z2,z3,noItem,flt]) rfl ?_
     rw [HRZ.out]
     exact ⟨rfl,set4_only HO.out nlr⟩
    ·
     rw [hres] at C1
     have HC:=hid C1
     have HRES:=hid hres
     obtain ⟨j,hj⟩:∃ j,j=xs.length:=⟨_,rfl⟩
     have hj4:j≤4096:=by rw [hj];exact Nat.le_trans hst.out.hjp hst.out.hp
     have HJ:=hid hj
     have HJ4:=hid hj4
     clear C1 hres hj4 hj
     go_wp2_with fail
     refine HC.out.mono ?_
     rintro e w1 ⟨v,i1,rfl,hv,hst1,hl1,ho⟩
     obtain ⟨k1,n1,A1,nd1,cd1,AL1,nl1,cl1,rfl⟩:=hv.form
     have hls1:=(hst.out.on HB0.out HG.out).ls.on ho HG.out
     have hls2:=(hls1.on ((Only.refl g w1).alloc (.cells #[.int .i64 k1,.int .u64 (n1:Int),.slice A1 nd1 cd1,.slice AL1 nl1 cl1] 30)) HG.out)
     have b3:=hls2.b3
     have hls3:=hls2.on ((Only.refl g _).alloc (.cells #[.int .i64 k1,.int .u64 (n1:Int),.slice A1 nd1 cd1,.slice AL1 nl1 cl1] 30)) HG.out
     have HOWN:=hid (show World.ownsRow _ _ _ _ _ j _ by have:=hls3.own;rwa [← HJ.out] at this)
     have HLS3:=hid hls3
     have HV:=hid hv
     have HST1:=hid hst1
     have HL1:=hid hl1
     have HO:=hid ho
     clear hv hst1 hl1 ho hls1 hls2 hls3
     go_wp2_with (first
      | (at_builtin;refine wpList_append_lies _ rfl (.tmp 41) (.tmp 43) 28 rfl (w.heap.size+2) 30 i0 _ 4 64 Tryz.underlying28 HI.out HI0.out HI1.out HI2.out rfl (by decide) vL j cells rfl HOWN.out ⟨w1.heap.size+1,0,none⟩ 1 1 [.int .i64 k1,.int .u64 (n1:Int),.slice A1 nd1 cd1,.slice AL1 nl1 cl1] rfl rfl (by intro q u hq;match q with|0=>(cases hq;simp [Addr.add])|1=>(cases hq;simp [Addr.add])|2=>(cases hq;simp [Addr.add])|3=>(cases hq;simp [Addr.add])|q+4=>simp at hq) (by intro u hu;simp at hu;rcases hu with rfl|rfl|rfl|rfl <;> rfl) (by decide) (by have:=HJ4.out;unfold maxLen;omega) (by have:=HJ4.out;omega) HLS3.out.sz _ rfl ?_;intro g2 cap2 w3 ho3 hg3 hat hlt3;have HG3:=hid hg3;have HO3:=hid ho3;have HAT:=hid hat;have hfar:=HLS3.out.far hg3;have s3:=hfar.1;have sf:=hfar.2.1;have HB3:=hid hfar.2.2;clear ho3 hg3 hat hlt3 hfar)
      | fail)
     have hp:=LstSt.push (hst.out.on HB0.out HG.out).ls HO.out HG.out HV.out _ _ HJ.out.symm HO3.out HG3.out HAT.out
     have hs3:RSt w3 g _ n c bs i1 p1 (d+1):=((HST1.out.alloc _).alloc _).below HB3.out (Nat.lt_of_lt_of_le HG.out (Nat.le_add_right _ 2))
     obtain ⟨hnx,hlss⟩:=hst.out.next HY.out HFF.out HRES.out HL1.out (hs3.setFar (j:=3) (Nat.lt_succ_of_lt HG.out) _) hp
     have HNX:=hid hnx
     have HLS:=hid hlss
     clear hp hs3 hnx hlss
     go_roundw
     case rel=>exact ⟨_,i1,p1,_,_,_,HNX.out⟩
     case measure=>rw [leftOf_st HNX.out.st,leftOf_st hst.out.st];exact HLS.out
  ·
   obtain ⟨hRz,hres⟩:=hst.out.out hlt
   rw [show n - i=0 by omega,show ((0:Nat):Int)=0 from rfl] at C0
   go_wp2_with fail
   go_quiet (first|(go_at_call 222;exact C0.out _)|fail)
   have HB0:=hid (below_drewN wr.heap.size wr nq)
   have C1:=IH.out (wr.drewN nq) g _ n c bs i p (d+1) (by omega) hst.out.hp (hst.out.st.below HB0.out HS.out.lt)
   rw [hres] at C1
   have HC:=hid C1
   clear C1 hres
   go_wp2_with fail
   refine HC.out.mono ?_
   rintro e w1 ⟨rfl,ho⟩
   have hls2:=((hst.out.on HB0.out HG.out).ls.on ho HG.out).on ((Only.refl g w1).alloc (.cells #[.int .i64 0,.int .u64 0,.slice none 0 0,.slice none 0 0] 30)) HG.out
   have z0:=hls2.z0
   have z1:=hls2.z1
   have z2:=hls2.z2
   have z3:=hls2.z3
   have f0:=hls2.f0
   have f1:=hls2.f1
   have f2:=hls2.f2
   have f3:=hls2.f3
   have HO:=hid hls2.only
   have HRZ:=hid hRz
   clear ho hls2 hRz
   unfold noItem flt
   go_wp2_with fail
   refine bodyPost_ret (v:=.tuple #[noItem,flt 30]) (by simp [results,Tryz.results200,go_sem,z0,z1,z2,z3,noItem,flt]) rfl ?_
   rw [HRZ.out]
   exact ⟨rfl,set4_only HO.out nlr⟩
end
end Go.Proofs.YtlecbblmaadpiaaGreatDoor
