import Derived.Test.YtbnfkjkoinbkgaaGreatDoorVAbb
import Derived.Test.YtbnfkjkoinbkgaaGreatDoorVBunB
import Derived.Test.YtbnfkjkoinbkgaaGreatDoorVCfBibTags
import Derived.Test.YtbnfkjkoinbkgaaGreatDoorVEidT2
import Derived.Test.YtbnfkjkoinbkgaaGreatDoorVKCheck
import Derived.Test.YtbnfkjkoinbkgaaGreatDoorVKMake
import Derived.Test.YtbnfkjkoinbkgaaGreatDoorVShaT
import Derived.Deep.WholeRow
import Derived.Laws.CopyOwn
import Derived.Laws.ResultCell
import Derived.Deep.RegionHeld3
import Derived.Deep.AppendLies
import Derived.WalkMore
import Derived.OwnWalk
import Derived.StillTailTactics
import Derived.BigQuiet
import Derived.BigRegion
import Derived.Deep.QuietTactic
namespace Go.Proofs.YtbnfkjkoinbkgaaGreatDoor
set_option maxRecDepth 100000
set_option maxHeartbeats 16000000
open Go.RowKit
theorem Qb1:(Tryz.prog.info? 28).map (·.size)=some 18:=by kernel_rfl
theorem Qbp{P:Program}{w:World}{ops:Array Oper}{rest:List Oper}{o:Oper}{a:Act}{Q:Exit→Act→World→Prop}(hgd:o.guard=none)(ty:TypeId)(x y:Operand)(ho:o.op=.store ty x y)
  (g:Nat) {v0:Value} {v1:Value} {v2:Value} {v3:Value} {v4:Value} {v5:Value} {v6:Value} {v7:Value} {v8:Value} {v9:Value} {v10:Value} {v11:Value} {v12:Value} {v13:Value} {v14:Value} {v15:Value} {v16:Value} {v17:Value} (hx:a.eval x=.pointer (some ⟨g,0,none⟩)) (hy:a.eval y=.agg #[v0,v1,v2,v3,v4,v5,v6,v7,v8,v9,v10,v11,v12,v13,v14,v15,v16,v17]) (t:TypeId) (old:Array Value) (hg:w.heap[g]?=some (.cells old t (0,0)))
  (hi:(P.info? ty).map (·.size)=some 18) (hold:old.size=18) (h1:([v0,v1,v2,v3,v4,v5,v6,v7,v8,v9,v10,v11,v12,v13,v14,v15,v16,v17]:List Value).all (·.oneCell')=true)
  (h:∀ W',W'.heap[g]?=some (.cells #[v0,v1,v2,v3,v4,v5,v6,v7,v8,v9,v10,v11,v12,v13,v14,v15,v16,v17] t (0,0))→(W'.cell? ⟨g,0,none⟩=some v0∧W'.cell? ⟨g,1,none⟩=some v1∧W'.cell? ⟨g,2,none⟩=some v2∧W'.cell? ⟨g,3,none⟩=some v3∧W'.cell? ⟨g,4,none⟩=some v4∧W'.cell? ⟨g,5,none⟩=some v5∧W'.cell? ⟨g,6,none⟩=some v6∧W'.cell? ⟨g,7,none⟩=some v7∧W'.cell? ⟨g,8,none⟩=some v8∧W'.cell? ⟨g,9,none⟩=some v9∧W'.cell? ⟨g,10,none⟩=some v10∧W'.cell? ⟨g,11,none⟩=some v11∧W'.cell? ⟨g,12,none⟩=some v12∧W'.cell? ⟨g,13,none⟩=some v13∧W'.cell? ⟨g,14,none⟩=some v14∧W'.cell? ⟨g,15,none⟩=some v15∧W'.cell? ⟨g,16,none⟩=some v16∧W'.cell? ⟨g,17,none⟩=some v17)→(∀ p:Addr,p.block≠g→W'.cell? p=w.cell? p)→(∀ (B:Nat) (w0:World),Below B w0 w→B≤g→Below B w0 W')→W'.heap.size=w.heap.size→wpList P ops Q rest (a.put o.dst undef) W') :
  wpList P ops Q (o::rest) a w:=by
 have hrow:(w.setRow g #[v0,v1,v2,v3,v4,v5,v6,v7,v8,v9,v10,v11,v12,v13,v14,v15,v16,v17]).heap[g]?=some (.cells #[v0,v1,v2,v3,v4,v5,v6,v7,v8,v9,v10,v11,v12,v13,v14,v15,v16,v17] t (0,0)):=setRow_heap w g old _ t _ hg;have hc:∀ j v,(#[v0,v1,v2,v3,v4,v5,v6,v7,v8,v9,v10,v11,v12,v13,v14,v15,v16,v17]:Array Value)[j]?=some v→(w.setRow g #[v0,v1,v2,v3,v4,v5,v6,v7,v8,v9,v10,v11,v12,v13,v14,v15,v16,v17]).cell? ⟨g,j,none⟩=some v:=fun j v hj=>by
  unfold World.cell?;rw[hrow]
  simpa using hj
 exact wpList_store_row hgd ty x y ho g #[v0,v1,v2,v3,v4,v5,v6,v7,v8,v9,v10,v11,v12,v13,v14,v15,v16,v17] hx hy t old hg hi hold (Array.all_eq_true_iff_forall_mem.2 fun v hv=>List.all_eq_true.1 h1 v (by simpa using hv))
  (h _ hrow ⟨hc 0 _ rfl,hc 1 _ rfl,hc 2 _ rfl,hc 3 _ rfl,hc 4 _ rfl,hc 5 _ rfl,hc 6 _ rfl,hc 7 _ rfl,hc 8 _ rfl,hc 9 _ rfl,hc 10 _ rfl,hc 11 _ rfl,hc 12 _ rfl,hc 13 _ rfl,hc 14 _ rfl,hc 15 _ rfl,hc 16 _ rfl,hc 17 _ rfl⟩ (fun p hp=>cell_setRow_other w g _ p hp) (fun B w0 hb hB=>below_setRow hb hB _) (setRow_size w g _))
theorem Qzb{W:World}{g:Nat}{vs:Array Value}{t:TypeId}(hg:W.heap[g]?=some (.cells vs t (0,0)))(hs:vs.size=18):(loadVar 28 ⟨g,0,none⟩).run Tryz.prog W=.ok (.agg vs) W :=
 run_loadVar_row W g t 28 vs (0,0) _ hg Tryz.underlying28 rfl (by rw[hs];exact Qb1)
theorem Qh8{fn:Func}{p u:Tmp}(h:fn.results=#[.cell p 28,.tmp u])(tmps:Array Value)(W:World){g:Nat}{vs:Array Value}{t:TypeId}(hp:tmps.getD p undef=.pointer (some ⟨g,0,none⟩))
  (hg:W.heap[g]?=some (.cells vs t (0,0))) (hs:vs.size=18):(results fn tmps).run Tryz.prog W=.ok (.tuple #[.agg vs,tmps.getD u undef]) W:=by
 rw[results_cell_tmp h,hp]
 simp only[asAddr,Sem.run_pure,Result.andThen,Qzb hg hs]
theorem Q12{fn:Func}{p:Tmp}(h:fn.results=#[.cell p 28])(tmps:Array Value)(W:World){g:Nat}{vs:Array Value}{t:TypeId}(hp:tmps.getD p undef=.pointer (some ⟨g,0,none⟩))
  (hg:W.heap[g]?=some (.cells vs t (0,0))) (hs:vs.size=18):(results fn tmps).run Tryz.prog W=.ok (.agg vs) W :=
 results_cell_row h tmps W g t vs (0,0) _ hp hg Tryz.underlying28 rfl (by rw[hs];exact Qb1)
theorem Qae{w:World}{ops:Array Oper}{rest:List Oper}{o:Oper}{a:Act}{Q:Exit→Act→World→Prop}(hgd:o.guard=none)(x:Operand)(ho:o.op=.load 28 x)
  (g:Nat) (hx:a.eval x=.pointer (some ⟨g,0,none⟩)) (t:TypeId) (cs:Array Value) (hg:w.heap[g]?=some (.cells cs t (0,0))) (hs:cs.size=18) (h:wpList Tryz.prog ops Q rest (a.put o.dst (.agg cs)) w):wpList Tryz.prog ops Q (o::rest) a w :=
 wpList_load_row hgd 28 x ho g hx t cs (0,0) _ hg Tryz.underlying28 rfl (by rw[hs];exact Qb1) h
theorem Qad{w W:World}{c:Array Value}{t:TypeId}{g:Nat}(hg:g=w.heap.size)(h:Below (g+1) (w.alloc (.cells c t)) W):W.heap[g]?=some (.cells c t (0,0)):=by
 subst hg;rw[h.block w.heap.size (Nat.lt_succ_self _)]
 exact heap_alloc_new w _
theorem Qab{W:World}{g:Nat}{c:Array Value}{t:TypeId}(h:W.heap[g]?=some (.cells c t (0,0)))(j:Nat){v:Value}(hj:c[j]?=some v):W.cell? ⟨g,j,none⟩=some v:=by
 unfold World.cell?;rw[h]
 simpa using hj
theorem Q1x{W:World}{g:Nat}{t:TypeId}{c0:Value}{c1:Value}{c2:Value}{c3:Value}{c4:Value}{c5:Value}{c6:Value}{c7:Value}{c8:Value}{c9:Value}{c10:Value}{c11:Value}{c12:Value}{c13:Value}{c14:Value}{c15:Value}{c16:Value}{c17:Value}(v:Value)(h:W.heap[g]?=some (.cells #[c0,c1,c2,c3,c4,c5,c6,c7,c8,c9,c10,c11,c12,c13,c14,c15,c16,c17] t (0,0))) :
  (W.setCell ⟨g,17,none⟩ v).heap[g]?=some (.cells #[c0,c1,c2,c3,c4,c5,c6,c7,c8,c9,c10,c11,c12,c13,c14,c15,c16,v] t (0,0)):=by
 rw[setCell_eq_setRow W g 17 #[c0,c1,c2,c3,c4,c5,c6,c7,c8,c9,c10,c11,c12,c13,c14,c15,c16,c17] t (0,0) v h]
 exact setRow_heap W g _ _ t _ h
theorem Qb5{W:World}{g:Nat}{t:TypeId}{c:Array Value}(h:W.heap[g]?=some (.cells c t (0,0)))(j:Nat):W.frozen? ⟨g,j,none⟩=false:=by
 simp[World.frozen?,h]
theorem Qf7{ev:Operand→Value}{o:Oper}{x:Operand}(ho:o.op=.load 28 x){g:Nat}{cs:Array Value}{t:TypeId}(hx:ev x=.pointer (some ⟨g,0,none⟩)){W:World}(hg:W.heap[g]?=some (.cells cs t (0,0)))(hs:cs.size=18) :
  (execOp ev o).run Tryz.prog W=.ok (.value (.agg cs)) W:=by
 unfold execOp;simp only[ho,hx,Instr.loadAt,Instr.sureAddr,Sem.run_bind,Sem.run_pure,Result.andThen_ok,Qzb hg hs]
theorem Qdp{P:Program}{md:Region.Mode}{l:List Oper}{Q:Exit→Act→World→Prop}{S:World→Prop}{i:Nat}{oi:Oper}{v:Value}{fuel:Nat}{listed:Array Bool}{a:Act}{w:World}(hi:l[i]?=some oi)
  (hs:Region.noSelect l.toArray=true) (hf:Region.free md l.toArray listed i=true) (hr:(Region.ready md l.toArray listed).contains i=true)
  (hQ:∀ c a w,Q (.panic c) (a.put oi.dst v) w→Q (.panic c) a w) (hw:Region.wanted oi (yielded l.toArray a.tmps)=true) (hy:∀ w,S w→(execOp a.eval oi).run P w=.ok (.value v) w) (hS:S w)
  (h:wpAnyH P md l.toArray Q S fuel (listed.setIfInBounds i true) (a.put oi.dst v) w):wpAnyH P md l.toArray Q S (fuel+1) listed a w :=
 wpAnyH_take (oi:=oi) (v:=v) (by simpa using hi) hs hf hr hQ (Or.inl ⟨hw,hy⟩) hS h
theorem Qfl(b:Blk)(m r:LB):Qlg b++m≠0xff::r:=by
 unfold Qlg Qle;by_cases h:b.crc=0
 ·
  rw[if_pos h];intro e;simp[hd,Qdq] at e
 ·
  rw[if_neg h];intro e;simp[hd,Qdq] at e
structure PK where
 x:Blk
 A:OA
 nd:Nat
 cd:Nat
def Qc7(p:PK):List Value:=[.int .u64 (p.x.typ:Int),.int .u64 (p.x.num:Int),.int .u64 (p.x.flg:Int),.int .i64 p.x.crc,.slice p.A p.nd p.cd]
def Qcu:List PK→List Value
 | []=>[]
 | p::r=>Qc7 p++Qcu r
theorem Qhe:∀ a b:List PK,Qcu (a++b)=Qcu a++Qcu b
 | [],b=>rfl
 | p::r,b=>by rw[List.cons_append,Qcu,Qcu,Qhe r b,List.append_assoc]
theorem Qdw:∀ a:List PK,(Qcu a).length=a.length*5
 | []=>rfl
 | p::r=>by rw[Qcu,List.length_append,Qdw r,List.length_cons];simp[Qc7];omega
theorem Qkw:∀ (a:List PK),∀ v∈Qcu a,v.oneCell'=true
 | [],v,h=>by cases h
 | p::r,v,h=>by
  rw[Qcu,List.mem_append] at h
  rcases h with h|h
  ·
   simp only[Qc7,List.mem_cons,List.not_mem_nil,or_false] at h;rcases h with rfl|rfl|rfl|rfl|rfl <;> rfl
  ·
   exact Qkw r v h
structure OkK (lo:Nat) (w:World) (v:Value) (p:PK):Prop where
 bd:Bd p.x
 le:p.nd≤p.cd∧p.nd≤140737488355328
 rd:Rd w w.heap.size p.A p.nd p.x.dat
 far:0<p.nd→∀ b o,p.A=some ⟨b,o,none⟩→v.ownBlock≠some b
 new:0<p.nd→∀ b o,p.A=some ⟨b,o,none⟩→lo≤b
theorem OkK.go{lo:Nat}{w w':World}{v v':Value}{p:PK}(h:OkK lo w v p)(hsz:w.heap.size≤w'.heap.size)(hb:∀ j,j<w.heap.size→v.ownBlock≠some j→w'.heap[j]?=w.heap[j]?)
  (hv:∀ j,j<w.heap.size→v.ownBlock≠some j→v'.ownBlock≠some j):OkK lo w' v' p :=
 ⟨h.bd,h.le,⟨h.rd.1,fun hn=>by
  obtain⟨b,o,e,hlt,hc⟩:=h.rd.2 hn;exact⟨b,o,e,Nat.lt_of_lt_of_le hlt hsz,fun i hi=>(World.cell?_of_block (a:=⟨b,o+i,none⟩) (hb b hlt (h.far hn b o e))).trans (hc i hi)⟩⟩,fun hn b o e=>by
  obtain⟨b',o',e',hlt,-⟩:=h.rd.2 hn;rw[e] at e'
  cases e'
  exact hv b hlt (h.far hn b o e),h.new⟩
theorem OkK.below{lo:Nat}{w w':World}{v:Value}{p:PK}(h:OkK lo w v p)(hb:Below w.heap.size w w'):OkK lo w' v p :=
 h.go hb.size (fun j hj _=>hb.block j hj) (fun _ _ h=>h)
theorem Rd.sub_{w w':World}{B B' n:Nat}{A:OA}{l:LB}(h:Rd w B A n l)(hs:∀ p u,w.cell? p=some u→w'.cell? p=some u)(hB:B≤B'):Rd w' B' A n l :=
 ⟨h.1,fun hn=>by obtain⟨b,o,e,hb,hc⟩:=h.2 hn;exact⟨b,o,e,Nat.lt_of_lt_of_le hb hB,fun i hi=>hs _ _ (hc i hi)⟩⟩
theorem RdKs.sub_{w w':World}{B B' b:Nat}(hs:∀ p u,w.cell? p=some u→w'.cell? p=some u)(hB:B≤B'):∀ {l:List Blk} {o:Nat},RdKs w B b o l→RdKs w' B' b o l
 | [],_,_=>trivial
 | _::_,_,⟨⟨A,nd,cd,h⟩,hr⟩=>⟨⟨A,nd,cd,⟨hs _ _ h.k0,hs _ _ h.k1,hs _ _ h.k2,hs _ _ h.k3,hs _ _ h.k4,h.bd,h.le,h.rd.sub_ hs hB⟩⟩,RdKs.sub_ hs hB hr⟩
theorem RdL.sub_{w w':World}{B B' n:Nat}{A:OA}{l:List Blk}(h:RdL w B A n l)(hs:∀ p u,w.cell? p=some u→w'.cell? p=some u)(hB:B≤B'):RdL w' B' A n l :=
 ⟨h.1,fun hn=>by obtain⟨b,o,e,h1,h2⟩:=h.2.1 hn;exact⟨b,o,e,Nat.lt_of_lt_of_le h1 hB,RdKs.sub_ hs hB h2⟩,h.2.2⟩
theorem RdL.maskgo{lo lo' B n:Nat}{w w':World}{A:OA}{l:List Blk}(h:RdL (Qap (Qax lo) w) B A n l)(hl:lo'≤lo)(hw:∀ p:Addr,lo≤p.block→∀ u,w.cell? p=some u→w'.cell? p=some u){B':Nat}(hB:B≤B'):RdL (Qap (Qax lo') w') B' A n l :=
 h.sub_ (fun p u hc=>by
  have h1:=Qaz.1 (Qb6 hc);exact(Qaq (Qaz.2 (Nat.le_trans hl h1))).trans (hw p h1 u (Qaj hc))) hB
theorem RdL.unmask_{S:Nat→Bool}{w:World}{B n:Nat}{A:OA}{l:List Blk}(h:RdL (Qap S w) B A n l):RdL w B A n l:=h.sub_ (fun _ _ hc=>Qaj hc) zr
theorem Qkg:∀ {xs ys:List Blk} {r t:LB},(∀ x∈xs,Qdj x=true∧Bd x)→(∀ y∈ys,Qdj y=true∧Bd y)→Qd9 xs++0xff::r=Qd9 ys++0xff::t→xs=ys∧r=t
 | [],[],_,_,_,_,h=>by
  simp only[Qd9,List.nil_append,List.cons.injEq,true_and] at h;exact⟨rfl,h⟩
 | [],y::ys,r,t,_,_,h=>by
  rw[Qd9,Qd9,List.nil_append,List.append_assoc] at h
  exact absurd h.symm (Qfl y _ _)
 | x::xs,[],r,t,_,_,h=>by
  rw[Qd9,Qd9,List.nil_append,List.append_assoc] at h
  exact absurd h (Qfl x _ _)
 | x::xs,y::ys,r,t,hx,hy,h=>by
  rw[Qd9,Qd9,List.append_assoc,List.append_assoc] at h
  have h1:=Qhn x (Qd9 xs++0xff::r) (hx x (by simp)).1 (hx x (by simp)).2;have h2:=Qhn y (Qd9 ys++0xff::t) (hy y (by simp)).1 (hy y (by simp)).2;rw[h,h2] at h1
  simp only[Prod.mk.injEq] at h1;obtain⟨rfl,-⟩:=h1;have h3:=List.append_cancel_left h;obtain⟨rfl,rfl⟩:=Qkg (fun q hq=>hx q (by simp[hq])) (fun q hq=>hy q (by simp[hq])) h3;exact⟨rfl,rfl⟩
theorem Qh4{lo:Nat}{w:World}{b:Nat}{v:Value}(hb:lo≤b):∀ (ps:List PK) (o:Nat),(∀ j u,(Qcu ps)[j]?=some u→w.cell? ⟨b,o+j,none⟩=some u)→(∀ p∈ps,OkK lo w v p)→RdKs (Qap (Qax lo) w) w.heap.size b o (ps.map (·.x))
 | [],_,_,_=>trivial
 | p::r,o,hc,ho=>by
  have hp:=ho p (by simp);have h0:∀ j u,(Qc7 p)[j]?=some u→(Qap (Qax lo) w).cell? ⟨b,o+j,none⟩=some u:=fun j u hj=>(Qaq (Qaz.2 hb)).trans <| hc j u (by
   rw[Qcu,List.getElem?_append_left]
   ·
    exact hj
   ·
    rcases Nat.lt_or_ge j (Qc7 p).length with h|h
    ·
     exact h
    ·
     rw[List.getElem?_eq_none h] at hj;cases hj)
  refine⟨⟨p.A,p.nd,p.cd,⟨h0 0 _ rfl,h0 1 _ rfl,h0 2 _ rfl,h0 3 _ rfl,h0 4 _ rfl,hp.bd,hp.le,hp.rd.mask_any hp.new⟩⟩,Qh4 hb r (o+5) (fun j u hj=>?_) (fun q hq=>ho q (by simp[hq]))⟩;rw[show o+5+j=o+(5+j) by omega]
  refine hc (5+j) u ?_;rw[Qcu,List.getElem?_append_right (by simp[Qc7])]
  simpa [Qc7] using hj
structure BkSt (w wr:World) (v:Value) (ps:List PK):Prop where
 own:wr.ownsRow w.heap.size 43 5 v ps.length (Qcu ps)
 ok:∀ p∈ps,OkK w.heap.size wr v p
 bel:Below w.heap.size w wr
theorem BkSt.start(w:World):BkSt w w (.slice none 0 0) []:=⟨World.ownsRow_nil _ _ _ _,fun _ h=>(by cases h),Below.refl _ _⟩
theorem BkSt.form{w wr:World}{v:Value}{ps:List PK}(h:BkSt w wr v ps):∃ A cp,v=.slice A ps.length cp∧ps.length≤cp:=by
 rcases h.own.2 with ⟨hv,h0⟩|⟨q,cap,cur,hv,-,-,hnc,-⟩
 ·
  exact⟨none,0,by rw[hv,h0],by omega⟩
 ·
  exact⟨_,_,hv,hnc⟩
theorem BkSt.on{w wr w1:World}{v:Value}{ps:List PK}(h:BkSt w wr v ps)(hb:Below wr.heap.size wr w1):BkSt w w1 v ps :=
 ⟨Qa7 h.own hb,fun p hp=>(h.ok p hp).below hb,h.bel.trans (hb.mono h.bel.size)⟩
theorem BkSt.push{w wr w3:World}{v:Value}{ps:List PK}(h:BkSt w wr v ps){p:PK}(hp:OkK w.heap.size wr v p){g cap m:Nat}(hm:ps.length=m)(hown:w3.ownsRow w.heap.size 43 5 (.slice (some ⟨g,0,none⟩) (m+1) cap) (m+1) (Qcu ps++Qc7 p))
  (hgr:wr.grownBy w3 v.ownBlock) (hat:v.ownBlock=some g∨g=wr.heap.size):BkSt w w3 (.slice (some ⟨g,0,none⟩) (m+1) cap) (ps++[p]):=by
 subst hm;have hb:∀ j,j<wr.heap.size→v.ownBlock≠some j→w3.heap[j]?=wr.heap[j]?:=fun j hj hne=>hgr.block j hj (fun e=>hne e.symm)
 have hv:∀ j,j<wr.heap.size→v.ownBlock≠some j→(Value.slice (some ⟨g,0,none⟩) (ps.length+1) cap).ownBlock≠some j:=fun j hj hne e=>by
  injection e with e
  have e':g=j:=e;rcases hat with h2|h2
  ·
   exact hne (by rw[h2,e'])
  ·
   omega
 refine⟨?_,fun q hq=>?_,?_⟩
 ·
  rw[List.length_append,List.length_singleton,Qhe,show Qcu [p]=Qc7 p by simp[Qcu]]
  exact hown
 ·
  rcases List.mem_append.1 hq with hq|hq
  ·
   exact(h.ok q hq).go hgr.size hb hv
  ·
   rw[List.mem_singleton] at hq
   subst hq;exact hp.go hgr.size hb hv
 ·
  refine⟨hgr.os.trans h.bel.os,hgr.tape.trans h.bel.tape,hgr.output.trans h.bel.output,Nat.le_trans h.bel.size hgr.size,fun j hj=>?_⟩;rw[hb j (Nat.lt_of_lt_of_le hj h.bel.size) (fun e=>by have:=(World.ownsRow.lt h.own j e).1;omega)]
  exact h.bel.block j hj
theorem BkSt.read{w wr:World}{A:OA}{cp:Nat}{ps:List PK}(h:BkSt w wr (.slice A ps.length cp) ps)(hn:ps.length≤140737488355328):RdL (Qap (Qax w.heap.size) wr) wr.heap.size A ps.length (ps.map (·.x)):=by
 refine⟨by simp,fun h0=>?_,hn⟩;rcases h.own.2 with ⟨hv,h1⟩|⟨q,cap,cur,hv,-⟩
 ·
  omega
 ·
  injection hv with hv _ _
  subst hv;have hlt:=World.ownsRow.lt h.own q rfl;refine⟨q,0,rfl,hlt.2,Qh4 hlt.1 ps 0 (fun j u hj=>?_) h.ok⟩;have hjl:j<ps.length*5:=by
   rw[← Qdw]
   rcases Nat.lt_or_ge j (Qcu ps).length with h|h
   ·
    exact h
   ·
    rw[List.getElem?_eq_none h] at hj;cases hj
  rw[Nat.zero_add,World.ownsRow.cellAt h.own j hjl]
  exact hj
theorem Qsq(b:Blk)(m r:LB):Qlg b++m≠0xff::r:=Qfl b m r
def Q4z(ys:List Blk):Prop:=∀ y∈ys,Qdj y=true∧Bd y
def NoP(m:LB)(k:Nat):Prop:=∀ (ys:List Blk) (rest:LB),Q4z ys→ys.length≤k→m≠Qd9 ys++0xff::rest
theorem NoP.step{m:LB}{x:Blk}{k:Nat}(hd:Q2u m=(x,((Qlg x).length:Int),0))(hx:m=Qlg x++m.drop (Qlg x).length)(h:NoP (m.drop (Qlg x).length) k):NoP m (k+1):=by
 intro ys rest hy hk e;match ys,hy,hk,e with
 | [],_,_,e=>exact Qsq x _ rest (hx.symm.trans e)
 | y::ys,hy,hk,e =>
  rw[Qd9,List.append_assoc] at e
  have hyy:=hy y (by simp);have h2:=Qhn y (Qd9 ys++0xff::rest) hyy.1 hyy.2;rw[← e,hd] at h2
  simp only[Prod.mk.injEq,and_true] at h2;obtain⟨rfl,-⟩:=h2;refine h ys rest (fun q hq=>hy q (by simp[hq])) (by simpa using hk) ?_;rw[e,List.drop_left]
theorem NoP.none{m:LB}{k:Nat}(h1:∀ rest,m≠0xff::rest)(h2:∀ y N,Q2u m≠(y,N,0)):NoP m k:=by
 intro ys rest hy hk e;match ys,hy,e with
 | [],_,e=>exact h1 rest e
 | y::ys,hy,e =>
  rw[Qd9,List.append_assoc] at e
  have hyy:=hy y (by simp);have h3:=Qhn y (Qd9 ys++0xff::rest) hyy.1 hyy.2;rw[← e] at h3
  exact h2 _ _ h3
theorem NoP.zero{m:LB}(h1:∀ rest,m≠0xff::rest):NoP m 0:=by
 intro ys rest hy hk e;have:ys=[]:=List.eq_nil_of_length_eq_zero (by omega)
 subst this;exact h1 rest e
open Go.Lib (hid)
theorem Qum{S:Nat→Bool}{w w':World}{p:Addr}(h:w'.heap[p.block]?=w.heap[p.block]?):(Qap S w').cell? p=(Qap S w).cell? p:=by
 apply World.cell?_of_block;unfold Qap;simp only[Array.getElem?_mapIdx,h]
theorem Qgi(lo:Nat)(s:ByteArray)(w:World)(hlo:lo≤w.heap.size)(hs:s.size≤140737488355328) :
  Calls Tryz.prog 107 #[.string s] w (Qbj lo (.mk 3 0 s.data.toList []) w):=by
 obtain⟨c,W',hrun,hrd,hc,hb,hz⟩:=Qkf (w.alloc zk0) s;have hz1:(w.alloc zk0).heap.size=w.heap.size+1:=by simp
 rw[hz1] at hrun hrd hb hz
 obtain⟨⟨z0,z1,z2,z3⟩,f0,f1,f2,f3⟩:=Qa4 hb;have HRD:=hid hrd;have HB:=hid hb;have HZ:=hid hz;have HS:=hid hs;have HLO:=hid hlo;clear hrd hb hz hz1 hs hlo;go_enter Tryz.func107,Tryz.ntmps107;go_wp2_with fail;have hsz4:((((W'.setCell ⟨w.heap.size,0,none⟩ (.int .i64 3)).setCell ⟨w.heap.size,1,none⟩ (.int .u64 0)).setCell ⟨w.heap.size,2,none⟩ (.slice (some ⟨w.heap.size+1,0,none⟩) s.size c)).setCell ⟨w.heap.size,3,none⟩ (.slice none 0 0)).heap.size=W'.heap.size:=by simp[World.setCell]
 refine bodyPost_ret (v:=.agg #[.int .i64 3,.int .u64 0,.slice (some ⟨w.heap.size+1,0,none⟩) s.size c,.slice none 0 0]) (by simp[results,Tryz.results107,go_sem,z0,z1,z2,z3]) rfl ⟨_,rfl,RdI.mk_data (by decide) hc HS.out (Rd.mask_one ?_ (Nat.le_trans HLO.out (Nat.le_succ _))),?_⟩
 ·
  rw[hsz4,HZ.out]
  exact HRD.out.set4 (fun _ b o h=>(by cases h;omega))
 ·
  exact Qas (zb.trans (HB.out.mono (Nat.le_succ _))) zr
theorem Qdx(lo b o n c B:Nat)(l:List Itm)(w:World)(hB:B≤w.heap.size)(hb:b<B)(h:RdIs (Qap (Qax lo) w) B b o l)(hlo:lo≤w.heap.size)(hl:l.length=n)(h0:0<n)(hn:n≤1000000)(_hc:n≤c) :
  Calls Tryz.prog 63 #[.slice (some ⟨b,o,none⟩) n c] w (Qbj lo (.mk 4 0 [] l) w):=by
 obtain⟨i0,hi0,hz0,hz1,hz2⟩:=info_parts Qbr;obtain⟨cs,n1,n2,n3,n4⟩:=h.news;rw[hl] at n1
 have bs:b<w.heap.size:=by omega
 have N2:Hid (∀ j u,cs[j]?=some u→((w.alloc zk0).alloc (.cells #[] 119)).cell? ((⟨b,o,none⟩:Addr).add j)=some u):=by
  intro j u hj;have e:(⟨b,o,none⟩:Addr).add j=⟨b,o+j,none⟩:=by unfold Addr.add;split <;> simp_all
  rw[e,World.cell?_alloc_lt _ _ _ (Nat.lt_of_lt_of_le bs (Qaa _ _)),World.cell?_alloc_lt _ _ _ bs]
  exact Qaj (n2 j u hj)
 have HO:=hid (show((w.alloc zk0).alloc (.cells #[] 119)).ownsRow (w.heap.size+1) 119 4 (.slice (some ⟨w.heap.size+1,0,none⟩) 0 0) 0 [] by
  have h:=World.ownsRow_lit (base:=w.heap.size+1) (e:=119) (size:=4) (w.alloc zk0) #[] 0 (by simp) (by decide) rfl;simpa using h)
 have HLO:=hid hlo;have N1:=hid n1;have N3:=hid n3;have N4:=hid n4;have HL:=hid hl;have HBB:=hid hB;have H0:=hid h0;have HN:=hid hn;have HI:=hid hi0;have HZ0:=hid hz0;have HZ1:=hid hz1;have HZ2:=hid hz2;clear hlo n1 n2 n3 n4 h hl hB hb bs hi0 hz0 hz1 hz2 h0 hn;go_enter Tryz.func63,Tryz.ntmps63;go_wp2_with (first
  | (at_builtin;refine wpList_append_lies _ rfl (.tmp 3) (.tmp 4) 80 rfl (w.heap.size+1) 119 i0 _ 4 64 Tryz.underlying80 HI.out HZ0.out HZ1.out HZ2.out rfl (by decide) _ 0 [] rfl HO.out ⟨b,o,none⟩ n c cs rfl N1.out N2.out N3.out H0.out (by have:=HN.out;unfold maxLen;omega) (by have:=HN.out;omega) (by simp) _ rfl ?_;intro g cap w1 ho1 hg1 hat hlt;have B1:=hid (((Below.refl (w.heap.size+1) (w.alloc zk0)).alloc (by simp) _).grown hg1 (by simp) (fun k hk=>by cases hk;exact Nat.le_refl _));obtain⟨⟨z0,z1,z2,z3⟩,f0,f1,f2,f3⟩:=Qa4 B1.out;have O1:=hid ho1;have HLT:=hid hlt;clear ho1 hg1 hat hlt)
  | fail)
 have ho:=O1.out;rw[Nat.zero_add,List.nil_append] at ho
 have hg:=(ho.lt g rfl).1;have hcap:n≤cap:=by
  rcases ho.2 with ⟨hv,_⟩|⟨g',cap',cur,hv,_,_,hnc,_⟩
  ·
   cases hv
  ·
   injection hv with _ _ h3
   omega
 refine bodyPost_ret (v:=.agg #[.int .i64 4,.int .u64 0,.slice none 0 0,.slice (some ⟨g,0,none⟩) n cap]) (by simp[results,Tryz.results63,go_sem,z0,z1,z2,z3]) rfl ⟨_,rfl,RdI.mk_list (by decide) hcap (by have:=HN.out;omega) HL.out (by have:=HLT.out;simpa [World.setCell] using this) (N4.out _ _ g 0 ?_ ?_ ?_),?_⟩
 ·
  intro j u hj;have hjn:j<n*4:=by
   rw[← N1.out]
   rcases Nat.lt_or_ge j cs.length with h|h
   ·
    exact h
   ·
    rw[List.getElem?_eq_none h] at hj;cases hj
  rw[Qaq (Qaz.2 (show lo≤g by have:=HLO.out;omega)),Nat.zero_add,World.cell?_setCell_far _ _ _ _ (by show w.heap.size≠g;omega),World.cell?_setCell_far _ _ _ _ (by show w.heap.size≠g;omega),World.cell?_setCell_far _ _ _ _ (by show w.heap.size≠g;omega),World.cell?_setCell_far _ _ _ _ (by show w.heap.size≠g;omega),ho.cellAt j hjn]
  exact hj
 ·
  intro p hp;have hp':p.block<w.heap.size:=Nat.lt_of_lt_of_le hp HBB.out;exact Qum ((Qas (zb.trans (B1.out.mono (Nat.le_succ _))) zr).block _ hp')
 ·
  have:=HBB.out
  have h2:=B1.out.size;simp[World.setCell] at h2 ⊢;omega
 ·
  exact Qas (zb.trans (B1.out.mono (Nat.le_succ _))) zr
theorem Qde(b o n c:Nat)(cs:List Value)(w:World)(bs:b<w.heap.size)(n1:cs.length=n*4)(n2:∀ j u,cs[j]?=some u→w.cell? ⟨b,o+j,none⟩=some u)(n3:∀ u∈cs,u.oneCell'=true)(h0:0<n)(hn:n≤1000000) :
  Calls Tryz.prog 63 #[.slice (some ⟨b,o,none⟩) n c] w fun e w'=>∃ g cap,e=.returned (zv6 4 0 none 0 0 (some ⟨g,0,none⟩) n cap)∧w.heap.size<g∧g<w'.heap.size∧n≤cap∧(∀ j u,cs[j]?=some u→w'.cell? ⟨g,j,none⟩=some u)∧Below w.heap.size w w':=by
 obtain⟨i0,hi0,hz0,hz1,hz2⟩:=info_parts Qbr;have N2:Hid (∀ j u,cs[j]?=some u→((w.alloc zk0).alloc (.cells #[] 119)).cell? ((⟨b,o,none⟩:Addr).add j)=some u):=by
  intro j u hj;have e:(⟨b,o,none⟩:Addr).add j=⟨b,o+j,none⟩:=by unfold Addr.add;split <;> simp_all
  rw[e,World.cell?_alloc_lt _ _ _ (Nat.lt_of_lt_of_le bs (Qaa _ _)),World.cell?_alloc_lt _ _ _ bs]
  exact n2 j u hj
 have HO:=hid (show((w.alloc zk0).alloc (.cells #[] 119)).ownsRow (w.heap.size+1) 119 4 (.slice (some ⟨w.heap.size+1,0,none⟩) 0 0) 0 [] by
  have h:=World.ownsRow_lit (base:=w.heap.size+1) (e:=119) (size:=4) (w.alloc zk0) #[] 0 (by simp) (by decide) rfl;simpa using h)
 have N1:=hid n1;have N3:=hid n3;have H0:=hid h0;have HN:=hid hn;have HI:=hid hi0;have HZ0:=hid hz0;have HZ1:=hid hz1;have HZ2:=hid hz2;clear n1 n2 n3 bs hi0 hz0 hz1 hz2 h0 hn;go_enter Tryz.func63,Tryz.ntmps63;go_wp2_with (first
  | (at_builtin;refine wpList_append_lies _ rfl (.tmp 3) (.tmp 4) 80 rfl (w.heap.size+1) 119 i0 _ 4 64 Tryz.underlying80 HI.out HZ0.out HZ1.out HZ2.out rfl (by decide) _ 0 [] rfl HO.out ⟨b,o,none⟩ n c cs rfl N1.out N2.out N3.out H0.out (by have:=HN.out;unfold maxLen;omega) (by have:=HN.out;omega) (by simp) _ rfl ?_;intro g cap w1 ho1 hg1 hat hlt;have B1:=hid (((Below.refl (w.heap.size+1) (w.alloc zk0)).alloc (by simp) _).grown hg1 (by simp) (fun k hk=>by cases hk;exact Nat.le_refl _));obtain⟨⟨z0,z1,z2,z3⟩,f0,f1,f2,f3⟩:=Qa4 B1.out;have O1:=hid ho1;have HLT:=hid hlt;clear ho1 hg1 hat hlt)
  | fail)
 have ho:=O1.out;rw[Nat.zero_add,List.nil_append] at ho
 have hg:=(ho.lt g rfl).1;have hcap:n≤cap:=by
  rcases ho.2 with ⟨hv,_⟩|⟨g',cap',cur,hv,_,_,hnc,_⟩
  ·
   cases hv
  ·
   injection hv with _ _ h3
   omega
 refine bodyPost_ret (v:=.agg #[.int .i64 4,.int .u64 0,.slice none 0 0,.slice (some ⟨g,0,none⟩) n cap]) (by simp[results,Tryz.results63,go_sem,z0,z1,z2,z3]) rfl ⟨g,cap,rfl,hg,by have:=HLT.out;simpa [World.setCell] using this,hcap,?_,?_⟩
 ·
  intro j u hj;have hjn:j<n*4:=by
   rw[← N1.out]
   rcases Nat.lt_or_ge j cs.length with h|h
   ·
    exact h
   ·
    rw[List.getElem?_eq_none h] at hj;cases hj
  rw[World.cell?_setCell_far _ _ _ _ (by show w.heap.size≠g;omega),World.cell?_setCell_far _ _ _ _ (by show w.heap.size≠g;omega),World.cell?_setCell_far _ _ _ _ (by show w.heap.size≠g;omega),World.cell?_setCell_far _ _ _ _ (by show w.heap.size≠g;omega),ho.cellAt j hjn]
  exact hj
 ·
  exact Qas (zb.trans (B1.out.mono (Nat.le_succ _))) zr
theorem Qbf:(Tryz.prog.info? 119).map (·.size)=some 4:=by kernel_rfl
theorem Q2e{W:World}{g:Nat}{vs:Array Value}{t:TypeId}(hg:W.heap[g]?=some (.cells vs t (0,0)))(hs:vs.size=4):(loadVar 119 ⟨g,0,none⟩).run Tryz.prog W=.ok (.agg vs) W :=
 run_loadVar_row W g t 119 vs (0,0) _ hg Tryz.underlying119 rfl (by rw[hs];exact Qbf)
theorem Qd7{ev:Operand→Value}{o:Oper}{x:Operand}(ho:o.op=.load 119 x){g:Nat}{cs:Array Value}{t:TypeId}(hx:ev x=.pointer (some ⟨g,0,none⟩)){W:World}(hg:W.heap[g]?=some (.cells cs t (0,0)))(hs:cs.size=4) :
  (execOp ev o).run Tryz.prog W=.ok (.value (.agg cs)) W:=by
 unfold execOp;simp only[ho,hx,Instr.loadAt,Instr.sureAddr,Sem.run_bind,Sem.run_pure,Result.andThen_ok,Q2e hg hs]
def St4(g:Nat)(t:TypeId)(vs:Array Value)(w W':World):Prop:=W'.heap[g]?=some (.cells vs t (0,0))∧(∀ (B:Nat) (w0:World),Below B w0 w→B≤g→Below B w0 W')∧W'.heap.size=w.heap.size∧∀ j,j≠g→W'.heap[j]?=w.heap[j]?
theorem Qbg{P:Program}{w:World}{ops:Array Oper}{rest:List Oper}{o:Oper}{a:Act}{Q:Exit→Act→World→Prop}(hgd:o.guard=none)(ty:TypeId)(x y:Operand)(ho:o.op=.store ty x y)
  (g:Nat) (v0 v1 v2 v3:Value) (hx:a.eval x=.pointer (some ⟨g,0,none⟩)) (hy:a.eval y=.agg #[v0,v1,v2,v3]) (t:TypeId) (old:Array Value) (hg:w.heap[g]?=some (.cells old t (0,0)))
  (hi:(P.info? ty).map (·.size)=some 4) (hold:old.size=4) (h1:([v0,v1,v2,v3]:List Value).all (·.oneCell')=true)
  (h:∀ W',St4 g t #[v0,v1,v2,v3] w W'→wpList P ops Q rest (a.put o.dst undef) W') :
  wpList P ops Q (o::rest) a w :=
 wpList_store_row hgd ty x y ho g #[v0,v1,v2,v3] hx hy t old hg hi hold (Array.all_eq_true_iff_forall_mem.2 fun v hv=>List.all_eq_true.1 h1 v (by simpa using hv))
  (h _ ⟨setRow_heap w g old _ t _ hg,fun B w0 hb hB=>below_setRow hb hB _,setRow_size w g _,fun j hj=>setRow_other w g j _ hj⟩)
theorem Qc5{P:Program}{w:World}{ops:Array Oper}{o:Oper}{a:Act}{K:Act→World→Prop}{Q:Exit→Act→World→Prop}{E:Prop}(hgd:o.guard=none)(ty:TypeId)(x y:Operand)(ho:o.op=.store ty x y)
  (g:Nat) (v0 v1 v2 v3:Value) (hx:a.eval x=.pointer (some ⟨g,0,none⟩)) (hy:a.eval y=.agg #[v0,v1,v2,v3]) (t:TypeId) (old:Array Value) (hg:w.heap[g]?=some (.cells old t (0,0)))
  (hi:(P.info? ty).map (·.size)=some 4) (hold:old.size=4) (h1:([v0,v1,v2,v3]:List Value).all (·.oneCell')=true)
  (h:∀ W',St4 g t #[v0,v1,v2,v3] w W'→K (a.put o.dst undef) W') :
  if Region.wanted o (yielded ops a.tmps)=true then Oper.wp P o a w K Q else E:=by
 have hw:Region.wanted o (yielded ops a.tmps)=true:=by simp[Region.wanted,hgd]
 rw[if_pos hw]
 exact wp_store_row ty x y ho g #[v0,v1,v2,v3] hx hy t old hg hi hold (Array.all_eq_true_iff_forall_mem.2 fun v hv=>List.all_eq_true.1 h1 v (by simpa using hv))
  (h _ ⟨setRow_heap w g old _ t _ hg,fun B w0 hb hB=>below_setRow hb hB _,setRow_size w g _,fun j hj=>setRow_other w g j _ hj⟩)
theorem Qty{fn:Func}{p u:Tmp}(h:fn.results=#[.cell p 119,.tmp u])(tmps:Array Value)(W:World){g:Nat}{vs:Array Value}{t:TypeId}(hp:tmps.getD p undef=.pointer (some ⟨g,0,none⟩))
  (hg:W.heap[g]?=some (.cells vs t (0,0))) (hs:vs.size=4):(results fn tmps).run Tryz.prog W=.ok (.tuple #[.agg vs,tmps.getD u undef]) W:=by
 rw[results_cell_tmp h,hp]
 simp only[asAddr,Sem.run_pure,Result.andThen,Q2e hg hs]
theorem ItL.row{lo:Nat}{W:World}{cs:List Value}{xs:List Itm}{t:TypeId}(hlo:lo≤W.heap.size)(h:ItC (Qap (Qax lo) W) W.heap.size cs xs) :
  RdIs (Qap (Qax lo) (W.alloc (.cells cs.toArray t))) (W.alloc (.cells cs.toArray t)).heap.size W.heap.size 0 xs:=RdIs.more (by simp) (ItC.row hlo h)
theorem RdI.maskup{lo lo':Nat}{w w':World}{v:Value}{x:Itm}(h:RdI (Qap (Qax lo) w) w.heap.size v x)(hl:lo'≤lo)(hb:∀ j,lo≤j→j<w.heap.size→w'.heap[j]?=w.heap[j]?)(hs:w.heap.size≤w'.heap.size):RdI (Qap (Qax lo') w') w'.heap.size v x :=
 h.mask_go hs (fun k hk hf=>hb k (Qaz.1 hf) hk) (fun _ _ hf=>Qaz.2 (Nat.le_trans hl (Qaz.1 hf)))
theorem Qqe:(Tryz.prog.info? 43).map (fun i=>(i.zero,i.size,i.bytes))=some (some (.agg #[.int .u64 0,.int .u64 0,.int .u64 0,.int .i64 0,.slice none 0 0]),5,56):=by kernel_rfl
def SrcK(w:World)(B:Nat)(p:PK):Prop:=Bd p.x∧(p.nd≤p.cd∧p.nd≤140737488355328)∧Rd w B p.A p.nd p.x.dat
theorem RdKs.pks{w:World}{B b:Nat}:∀ {l:List Blk} {o:Nat},RdKs w B b o l→∃ ps:List PK,ps.map (·.x)=l∧(∀ j u,(Qcu ps)[j]?=some u→w.cell? ⟨b,o+j,none⟩=some u)∧∀ p∈ps,SrcK w B p
 | [],_,_=>⟨[],rfl,fun j u hj=>by simp[Qcu] at hj,fun _ h=>by cases h⟩
 | x::r,o,⟨⟨A,nd,cd,hk⟩,hr⟩=>by
  obtain⟨ps,h1,h2,h3⟩:=RdKs.pks hr;refine⟨⟨x,A,nd,cd⟩::ps,by rw[List.map_cons,h1],fun j u hj=>?_,fun p hp=>?_⟩
  ·
   rw[Qcu] at hj
   match j,hj with
   | 0,hj=>cases hj;exact hk.k0
   | 1,hj=>cases hj;exact hk.k1
   | 2,hj=>cases hj;exact hk.k2
   | 3,hj=>cases hj;exact hk.k3
   | 4,hj=>cases hj;exact hk.k4
   | j+5,hj =>
    rw[List.getElem?_append_right (by simp[Qc7])] at hj
    have:=h2 j u (by simpa [Qc7] using hj)
    rw[show o+(j+5)=o+5+j by omega]
    exact this
  ·
   rcases List.mem_cons.1 hp with rfl|hp
   ·
    exact⟨hk.bd,hk.le,hk.rd⟩
   ·
    exact h3 p hp
theorem Qpu:∀ (qs:List PK) (i:Nat) (hi:i<qs.length) (A:OA) (c:Nat),Qcu (qs.set i ⟨(qs[i]'hi).x,A,(qs[i]'hi).nd,c⟩)=(Qcu qs).set (i*5+4) (.slice A (qs[i]'hi).nd c)
 | p::r,0,_,A,c=>by simp[Qcu,Qc7]
 | p::r,i+1,hi,A,c=>by
  have ih:=Qpu r i (by simpa using hi) A c;simp only[List.set_cons_succ,List.getElem_cons_succ,Qcu];rw[ih,List.set_append_right _ _ (by simp[Qc7];omega)]
  congr 2
  simp[Qc7];omega
theorem Qr1(b o n c B:Nat)(ps:List PK)(w:World)(hB:B≤w.heap.size)(hb:b<B)(hc:∀ j u,(Qcu ps)[j]?=some u→w.cell? ⟨b,o+j,none⟩=some u)(hn:ps.length=n)(h0:0<n)(hm:n≤1000) :
  Calls Tryz.prog 90 #[.slice (some ⟨b,o,none⟩) n c] w fun e w'=>∃ g cap,e=.returned (.slice (some ⟨g,0,none⟩) n cap)∧w'.ownsRow w.heap.size 43 5 (.slice (some ⟨g,0,none⟩) n cap) n (Qcu ps)∧Below w.heap.size w w'∧g<w'.heap.size:=by
 obtain⟨i0,hi0,hz0,hz1,hz2⟩:=info_parts Qqe;have HI:=hid hi0;have HI0:=hid hz0;have HI1:=hid hz1;have HI2:=hid hz2;have q22:=fun (W:World) (a:OA) (n c:Nat)=>Lib.run_eql_slice_nil (P:=Tryz.prog) W 26 43 a n c 0 0 Tryz.underlying26
 have HB0:=hid ((Below.refl w.heap.size w).alloc zr (.cells #[] 43));have hlt:b<w.heap.size:=Nat.lt_of_lt_of_le hb hB;have OX:Hid ((w.alloc (.cells #[] 43)).ownsRow w.heap.size 43 5 (.slice (some ⟨w.heap.size,0,none⟩) 0 0) 0 []):=World.ownsRow_lit (base:=w.heap.size) (e:=43) (size:=5) w #[] 0 zr (by decide) rfl;have NX:Hid (∀ j u,(Qcu ps)[j]?=some u→(w.alloc (.cells #[] 43)).cell? ((⟨b,o,none⟩:Addr).add j)=some u):=fun j u hj=>by
  rw[show(⟨b,o,none⟩:Addr).add j=⟨b,o+j,none⟩ by unfold Addr.add;split <;> simp_all,World.cell?_alloc_lt _ _ ⟨b,o+j,none⟩ hlt]
  exact hc j u hj
 have HN:=hid (And.intro hn (And.intro h0 hm));have HLN:Hid ((Qcu ps).length=n*5):=by show _=_;rw[Qdw,hn]
 clear hi0 hz0 hz1 hz2 hB hb hc hn h0 hm hlt;go_enter Tryz.func90,Tryz.ntmps90;go_wp2_with (first
  | (at_builtin;refine wpList_append_lies _ rfl (.tmp 5) (.tmp 6) 26 rfl w.heap.size 43 i0 _ 5 56 Tryz.underlying26 HI.out HI0.out HI1.out HI2.out rfl (by decide) (.slice (some ⟨w.heap.size,0,none⟩) 0 0) 0 [] rfl OX.out ⟨b,o,none⟩ n c (Qcu ps) rfl HLN.out NX.out (Qkw ps) HN.out.2.1 (by have:=HN.out.2.2;unfold maxLen;omega) (by have:=HN.out.2.2;omega) (Qaa _ _) _ rfl ?_;intro g cap w3 ho3 hg3 hat hlt3;have HG3:=hid hg3;have HO3:=hid ho3;have HAT:=hid hat;have HLT3:=hid hlt3;clear ho3 hg3 hat hlt3)
  | fail)
 go_ret;have ho:=HO3.out;rw[Nat.zero_add,List.nil_append] at ho
 refine⟨g,cap,rfl,ho,⟨HG3.out.os,HG3.out.tape,HG3.out.output,by have:=HG3.out.size;have:=HB0.out.size;omega,fun j hj=>?_⟩,HLT3.out⟩;rw[HG3.out.block j (by have:=HB0.out.size;omega) (fun e=>by have:=HB0.out.size;injection e with e;simp at e;omega)]
 exact Below.heap_alloc _ _ _ hj
theorem Qeh{W:World}{g j:Nat}{cs:Array Value}{t:TypeId}{fr:Nat×Nat}{v:Value}(h:W.heap[g]?=some (.cells cs t fr))(hj:cs[j]?=some v):W.setCell ⟨g,j,none⟩ v=W:=by
 rw[setCell_eq_setRow W g j cs t fr v h]
 have e:cs.setIfInBounds j v=cs:=by
  apply Array.ext_getElem?;intro i;rw[Array.getElem?_setIfInBounds]
  split
  ·
   rename_i hi
   subst hi;have hlt:=(Array.getElem?_eq_some_iff.1 hj).1;rw[if_pos hlt,hj]
  ·
   rfl
 rw[e]
 have e2:(W.setRow g cs).heap=W.heap:=by
  apply Array.ext_getElem?;intro i;by_cases hi:i=g
  ·
   subst hi;rw[setRow_heap W i cs cs t fr h,h]
  ·
   exact setRow_other W g i cs hi
 unfold World.setRow at e2 ⊢;simp only at e2;rw[e2]
theorem SrcK.below{w w':World}{B:Nat}{p:PK}(h:SrcK w B p)(hb:Below B w w'):SrcK w' B p:=⟨h.1,h.2.1,h.2.2.below hb⟩
structure CpSt (lo base B g cap n:Nat) (W5:World) (l:List Blk) (k:Nat) (wr:World) (qs:List PK):Prop where
 own:wr.ownsRow base 43 5 (.slice (some ⟨g,0,none⟩) n cap) n (Qcu qs)
 map:qs.map (·.x)=l
 len:qs.length=n
 done:∀ j (hj:j<qs.length),j<k→OkK lo wr (.slice (some ⟨g,0,none⟩) n cap) qs[j]
 rest:∀ j (hj:j<qs.length),k≤j→SrcK wr B qs[j]
 bel:Below base W5 wr
theorem CpSt.blk{lo base B g cap n:Nat}{W5:World}{l:List Blk}{k:Nat}{wr:World}{qs:List PK}(h:CpSt lo base B g cap n W5 l k wr qs):base≤g∧g<wr.heap.size:=World.ownsRow.lt h.own g rfl
theorem Qts:∀ (qs:List PK) (k:Nat) (hk:k<qs.length),(Qcu qs)[k*5+4]?=some (.slice qs[k].A qs[k].nd qs[k].cd)
 | p::r,0,_=>rfl
 | p::r,k+1,hk=>by
  rw[Qcu,List.getElem?_append_right (by simp[Qc7];omega)]
  have:=Qts r k (by simpa using hk)
  rw[show(k+1)*5+4 - (Qc7 p).length=k*5+4 by simp[Qc7];omega,this]
  rfl
theorem CpSt.cell{lo base B g cap n:Nat}{W5:World}{l:List Blk}{k:Nat}{wr:World}{qs:List PK}(h:CpSt lo base B g cap n W5 l k wr qs){j:Nat}(hj:j<qs.length):wr.cell? ⟨g,j*5+4,none⟩=some (.slice qs[j].A qs[j].nd qs[j].cd):=by
 rw[World.ownsRow.cellAt h.own _ (by rw[← h.len];omega)]
 exact Qts qs j hj
theorem CpSt.step{lo base B g cap n:Nat}{W5:World}{l:List Blk}{k:Nat}{wr wc:World}{qs:List PK}(h:CpSt lo base B g cap n W5 l k wr qs)(hlo:lo≤base)(hB:B≤base)(hk:k<qs.length)(hb:Below wr.heap.size wr wc)
  {A:OA} {c:Nat} (hO:Ob wc wr.heap.size 5 (.slice A qs[k].nd c) qs[k].x.dat) :
  CpSt lo base B g cap n W5 l (k+1) (wc.setCell ⟨g,k*5+4,none⟩ (.slice A qs[k].nd c)) (qs.set k ⟨qs[k].x,A,qs[k].nd,c⟩):=by
 have hg:=h.blk;have hsrc:=h.rest k hk zr;have hrd:n=n∧qs[k].nd≤c∧Rd wc wc.heap.size A qs[k].nd qs[k].x.dat:=by
  obtain⟨A',c',hv,hc,-,hr⟩:=hO.rdn hsrc.2.2.1;injection hv with h1 h2 h3
  subst h1 h3;exact⟨rfl,hc,hr⟩
 have hnew:∀ b o,A=some ⟨b,o,none⟩→wr.heap.size≤b:=fun b o e=>(World.ownsRow.lt hO b (by rw[e];rfl)).1
 have hoff:∀ {B':Nat} {A':OA} {m:Nat} {d:LB},Rd wc B' A' m d→(0<m→∀ b o,A'=some ⟨b,o,none⟩→b≠g)→B'≤wc.heap.size→Rd (wc.setCell ⟨g,k*5+4,none⟩ (.slice A qs[k].nd c)) B' A' m d:=fun hr hne _=>⟨hr.1,fun h0=>by
  obtain⟨b,o,e,hlt,hc⟩:=hr.2 h0;exact⟨b,o,e,hlt,fun i hi=>by rw[World.cell?_setCell_far _ _ _ _ (by have:=hne h0 b o e;show ¬ g=b;omega)];exact hc i hi⟩⟩
 have hsz:(wc.setCell ⟨g,k*5+4,none⟩ (.slice A qs[k].nd c)).heap.size=wc.heap.size:=by simp[World.setCell]
 have hbw:Below base wr wc:=hb.mono (by omega);refine⟨?_,?_,?_,?_,?_,?_⟩
 ·
  rw[Qpu]
  exact(World.ownsRow.stored (Qa7 h.own hb) _ _).1
 ·
  rw[List.map_set,← h.map]
  apply List.ext_getElem?;intro i;rw[List.getElem?_set]
  split
  ·
   rename_i hi
   subst hi;rw[List.length_map,if_pos hk]
   simp[hk]
  ·
   rfl
 ·
  rw[List.length_set];exact h.len
 ·
  intro j hj hjk;rw[List.length_set] at hj
  by_cases he:j=k
  ·
   subst he;rw[List.getElem_set_self]
   refine⟨hsrc.1,⟨hrd.2.1,hsrc.2.1.2⟩,?_,?_,?_⟩
   ·
    rw[hsz]
    exact hoff hrd.2.2 (fun _ b o e=>by have:=hnew b o e;omega) zr
   ·
    intro _ b o e hh;injection hh with hh
    have:=hnew b o e
    have hh':g=b:=hh;omega
   ·
    intro _ b o e;have:=hnew b o e
    omega
  ·
   rw[List.getElem_set_ne (by omega)]
   have ho:=(h.done j hj (by omega)).below hb;refine⟨ho.bd,ho.le,?_,ho.far,ho.new⟩;rw[hsz]
   exact hoff ho.rd (fun h0 b o e hh=>ho.far h0 b o e (by rw[hh];rfl)) zr
 ·
  intro j hj hjk;rw[List.length_set] at hj
  rw[List.getElem_set_ne (by omega)]
  have hs:=(h.rest j hj (by omega)).below (hbw.mono hB);refine⟨hs.1,hs.2.1,hoff hs.2.2 (fun h0 b o e hh=>?_) (by have:=hb.size;omega)⟩;obtain⟨b',o',e',hlt,-⟩:=hs.2.2.2 h0;rw[e] at e'
  injection e' with e'
  injection e' with e1 e2
  omega
 ·
  exact(h.bel.trans hbw).setCell (p:=⟨g,k*5+4,none⟩) hg.1 _
theorem CpSt.full{lo base B g cap n:Nat}{W5:World}{l:List Blk}{k:Nat}{wr:World}{qs:List PK}(h:CpSt lo base B g cap n W5 l k wr qs)(hlo:lo≤base)(hk:n≤k)(hn:n≤140737488355328) :
  RdL (Qap (Qax lo) wr) wr.heap.size (some ⟨g,0,none⟩) n l:=by
 have hg:=h.blk;refine⟨by rw[← h.map,List.length_map,h.len],fun h0=>⟨g,0,rfl,hg.2,?_⟩,hn⟩;rw[← h.map]
 refine Qh4 (v:=.slice (some ⟨g,0,none⟩) n cap) (Nat.le_trans hlo hg.1) qs 0 (fun j u hj=>?_) (fun p hp=>?_)
 ·
  have hjl:j<n*5:=by
   rw[← h.len,← Qdw]
   rcases Nat.lt_or_ge j (Qcu qs).length with h|h
   ·
    exact h
   ·
    rw[List.getElem?_eq_none h] at hj;cases hj
  rw[Nat.zero_add,World.ownsRow.cellAt h.own j hjl]
  exact hj
 ·
  obtain⟨j,hj,rfl⟩:=List.getElem_of_mem hp;exact h.done j hj (by rw[h.len] at hj;omega)
def Q5n(h:BH)(l:List Blk)(w:World)(e:Ending)(w':World):Prop:=Below w.heap.size w w'∧∃ (A:OA) (n c:Nat),e=.returned (Qbl h A n c)∧RdL (Qap (Qax w.heap.size) w') w'.heap.size A n l∧n≤c
theorem Qnx(h:BH)(l:List Blk)(A:OA)(n c B:Nat)(w:World)(hbd:h.Bd)(hr:RdL w B A n l)(hB:B≤w.heap.size)(h0:0<n)(hm:n≤1000) :
  Calls Tryz.prog 48 #[Qbl h A n c] w (Q5n h l w):=by
 obtain⟨b,o,rfl,hb,hks⟩:=hr.2.1 h0;obtain⟨ps,hmap,hcell,hsrc⟩:=hks.pks;have hlen:ps.length=n:=by rw[← hr.1,← hmap,List.length_map]
 have HP:=hid (And.intro hmap (And.intro hcell (And.intro hsrc hlen)));have HH:=hid (And.intro hb (And.intro hB (And.intro h0 hm)));have HN:=hid hbd;have HB0:=hid (((Below.refl w.heap.size w).alloc zr (zo0 h.flg h.crc h.dsc h.dnm h.dn h.dv h.ssc h.snm h.sn h.sv h.rsc h.rnm h.rn h.rv h.tim h.seq h.lif (some ⟨b,o,none⟩) n c)).alloc (Qaa _ _) zk3);have HW0:Hid (Below (w.heap.size+2) ((w.alloc (zo0 h.flg h.crc h.dsc h.dnm h.dn h.dv h.ssc h.snm h.sn h.sv h.rsc h.rnm h.rn h.rv h.tim h.seq h.lif (some ⟨b,o,none⟩) n c)).alloc zk3) ((w.alloc (zo0 h.flg h.crc h.dsc h.dnm h.dn h.dv h.ssc h.snm h.sn h.sv h.rsc h.rnm h.rn h.rv h.tim h.seq h.lif (some ⟨b,o,none⟩) n c)).alloc zk3)):=Below.refl _ _
 have HS0:Hid (((w.alloc (zo0 h.flg h.crc h.dsc h.dnm h.dn h.dv h.ssc h.snm h.sn h.sv h.rsc h.rnm h.rn h.rv h.tim h.seq h.lif (some ⟨b,o,none⟩) n c)).alloc zk3).heap.size=w.heap.size+2):=by show _=_;simp
 have HX1:=hid (fun (W:World) (hb:Below (w.heap.size+2) ((w.alloc (zo0 h.flg h.crc h.dsc h.dnm h.dn h.dv h.ssc h.snm h.sn h.sv h.rsc h.rnm h.rn h.rv h.tim h.seq h.lif (some ⟨b,o,none⟩) n c)).alloc zk3) W)=>(Qad (w:=w) (g:=w.heap.size) rfl (((Below.refl (w.heap.size+1) (w.alloc (zo0 h.flg h.crc h.dsc h.dnm h.dn h.dv h.ssc h.snm h.sn h.sv h.rsc h.rnm h.rn h.rv h.tim h.seq h.lif (some ⟨b,o,none⟩) n c))).alloc (by simp) zk3).trans (hb.mono (Nat.le_succ _)))));have HX2:=hid (fun (W:World) (hb:Below (w.heap.size+2) ((w.alloc (zo0 h.flg h.crc h.dsc h.dnm h.dn h.dv h.ssc h.snm h.sn h.sv h.rsc h.rnm h.rn h.rv h.tim h.seq h.lif (some ⟨b,o,none⟩) n c)).alloc zk3) W)=>(Qad (w:=w.alloc (zo0 h.flg h.crc h.dsc h.dnm h.dn h.dv h.ssc h.snm h.sn h.sv h.rsc h.rnm h.rn h.rv h.tim h.seq h.lif (some ⟨b,o,none⟩) n c)) (g:=w.heap.size+1) (by simp) hb))
 have C1:=hid (fun W=>Qgg h.dnm W hbd.dnm);have C2:=hid (fun W=>Qgg h.snm W hbd.snm);have C3:=hid (fun W=>Qgg h.rnm W hbd.rnm);clear hbd hr hB h0 hm hb hks hmap hcell hsrc hlen;unfold Qbl;go_enter Tryz.func48,Tryz.ntmps48;go_wp2_with fail;refine(C1.out _).mono ?_;rintro e w1 ⟨rfl,hb1⟩;have B1:=hid (Below.push HW0.out (Nat.le_of_eq HS0.out.symm) hb1);have f3:=Qb5 (HX1.out _ B1.out) 3;have x3s:=Qab (HX1.out _ B1.out) 3 rfl;have x7:=Qab (HX1.out _ B1.out) 7 rfl;have E1:=hid (Qeh (HX1.out _ B1.out) (j:=3) (v:=.string h.dnm) rfl);clear hb1;go_wp2_with fail
 rw[E1.out]
 clear E1 f3 x3s;refine(C2.out _).mono ?_;rintro e w2 ⟨rfl,hb2⟩;have B2:=hid (Below.push B1.out (Nat.le_of_eq HS0.out.symm) hb2);have f7:=Qb5 (HX1.out _ B2.out) 7;have x7s:=Qab (HX1.out _ B2.out) 7 rfl;have x11:=Qab (HX1.out _ B2.out) 11 rfl;have E2:=hid (Qeh (HX1.out _ B2.out) (j:=7) (v:=.string h.snm) rfl);clear hb2 x7;go_wp2_with fail;rw[E2.out]
 clear E2 f7 x7s;refine(C3.out _).mono ?_;rintro e w3 ⟨rfl,hb3⟩;have B3:=hid (Below.push B2.out (Nat.le_of_eq HS0.out.symm) hb3);have f11:=Qb5 (HX1.out _ B3.out) 11;have x11s:=Qab (HX1.out _ B3.out) 11 rfl;have x17:=Qab (HX1.out _ B3.out) 17 rfl;have E3:=hid (Qeh (HX1.out _ B3.out) (j:=11) (v:=.string h.rnm) rfl);have BB3:=hid (HB0.out.trans (B3.out.mono (Nat.le_add_right _ 2)));have C4:=hid (Qr1 b o n c B ps w3 (Nat.le_trans HH.out.2.1 BB3.out.size) HH.out.1 (fun j u hj=>by
  rw[BB3.out.cell (p:=⟨b,o+j,none⟩) (Nat.lt_of_lt_of_le HH.out.1 HH.out.2.1)]
  exact HP.out.2.1 j u hj) HP.out.2.2.2 HH.out.2.2.1 HH.out.2.2.2)
 clear hb3 x11;go_wp2_with fail;rw[E3.out]
 clear E3 f11 x11s;refine C4.out.mono ?_;rintro e w4 ⟨g,cap,rfl,hown,hb4,hg4⟩;have B4:=hid (Below.push B3.out (Nat.le_of_eq HS0.out.symm) hb4);have hw2:w.heap.size+2≤w3.heap.size:=by have:=B3.out.size;have:=HS0.out;omega
 have HBS:=hid hw2;have hg3:w3.heap.size≤g:=(World.ownsRow.lt hown g rfl).1;have x17':=Qab (HX1.out _ B4.out) 17 rfl;have f17:=Qb5 (HX1.out _ B4.out) 17;have hrow5:=Q1x (.slice (some ⟨g,0,none⟩) n cap) (HX1.out _ B4.out);have hz5:(w4.setCell ⟨w.heap.size,17,none⟩ (.slice (some ⟨g,0,none⟩) n cap)).heap[w.heap.size+1]?=_:=(Below.heap_setCell w4 ⟨w.heap.size,17,none⟩ (.slice (some ⟨g,0,none⟩) n cap) (w.heap.size+1) (by simp)).trans (HX2.out _ B4.out);have hown5:=ownsRow_setCell_below hown (a:=⟨w.heap.size,17,none⟩) (by show w.heap.size<_;omega) (.slice (some ⟨g,0,none⟩) n cap);have BB5:=hid ((HB0.out.trans (B4.out.mono (Nat.le_add_right _ 2))).setCell (p:=⟨w.heap.size,17,none⟩) zr (.slice (some ⟨g,0,none⟩) n cap))
 have x17b:=Qab hrow5 17 rfl;have hcap:n≤cap:=by
  rcases hown.2 with ⟨hv,-⟩|⟨q,cap',cur,hv,-,-,hnc,-⟩
  ·
   cases hv
  ·
   injection hv with _ _ h3;omega
 have HROW5:=hid hrow5;have HZ5:=hid hz5;have HC:=hid (And.intro hg3 hcap);have hsz5:(w4.setCell ⟨w.heap.size,17,none⟩ (.slice (some ⟨g,0,none⟩) n cap)).heap.size=w4.heap.size:=by simp[World.setCell]
 have HSZ5:Hid (w3.heap.size≤(w4.setCell ⟨w.heap.size,17,none⟩ (.slice (some ⟨g,0,none⟩) n cap)).heap.size):=by show _≤_;rw[hsz5];omega
 have HCS:Hid (CpSt w3.heap.size w3.heap.size B g cap n (w4.setCell ⟨w.heap.size,17,none⟩ (.slice (some ⟨g,0,none⟩) n cap)) l 0 (w4.setCell ⟨w.heap.size,17,none⟩ (.slice (some ⟨g,0,none⟩) n cap)) ps) :=
  ⟨hown5,HP.out.1,HP.out.2.2.2,fun j hj h=>absurd h (Nat.not_lt_zero j),fun j hj _=>(HP.out.2.2.1 _ (List.getElem_mem hj)).below (BB5.out.mono HH.out.2.1),Below.refl _ _⟩
 clear hown hb4 hg4 hg3 x17 hrow5 hz5 hown5 hcap hw2 hsz5 C4;go_wp2_with fail;generalize w4.setCell ⟨w.heap.size,17,none⟩ (.slice (some ⟨g,0,none⟩) n cap)=W5 at *;go_loopw [29] (fun v wr=>∃ (k:Nat) (qs:List PK),k≤n∧v=.int .i64 (k:Int)∧Hid (CpSt w3.heap.size w3.heap.size B g cap n W5 l k wr qs)) (fun v _=>n - (intOf v).toNat)
 case atStart=>exact⟨0,ps,Nat.zero_le _,rfl,HCS.out⟩
 case round =>
  obtain⟨k,qs,hk,rfl,HS⟩:=hrel;have HROWr:=hid ((HS.out.bel.block w.heap.size (by have:=HBS.out;omega)).trans HROW5.out);have HZr:=hid ((HS.out.bel.block (w.heap.size+1) (by have:=HBS.out;omega)).trans HZ5.out);by_cases hlt:k<n
  ·
   have hkl:k<qs.length:=by rw[HS.out.len];exact hlt
   have hii:(k:Int)<(n:Int):=by omega
   have hs:=HS.out.rest k hkl zr;have hSz:=HS.out.bel.size;have hBr:B≤wr.heap.size:=by have:=HH.out.2.1;have:=HBS.out;have:=HSZ5.out;omega
   have hcr:=HS.out.cell hkl;have hfr:=World.ownsRow.frozenAt HS.out.own (k*5+4);have hgl:=HS.out.blk;have HQ:Hid (∀ (wc:World) (A:OA) (c:Nat),Below wr.heap.size wr wc→Ob wc wr.heap.size 5 (.slice A qs[k].nd c) qs[k].x.dat→CpSt w3.heap.size w3.heap.size B g cap n W5 l (k+1) (wc.setCell ⟨g,k*5+4,none⟩ (.slice A qs[k].nd c)) (qs.set k ⟨qs[k].x,A,qs[k].nd,c⟩)) :=
    fun wc A c hb hO=>HS.out.step zr (by have:=HH.out.2.1;have:=HBS.out;omega) hkl hb hO
   have C5:=hid (fun (W:World) (hW:Below wr.heap.size wr W)=>Qda qs[k].A qs[k].nd qs[k].cd B qs[k].x.dat W (Nat.le_trans hBr hW.size) (hs.2.2.below (hW.mono hBr)) hs.2.1.2);have hS:∀ W,Below wr.heap.size wr W→W.cell? ⟨w.heap.size,17,none⟩=some (.slice (some ⟨g,0,none⟩) n cap)∧W.cell? ⟨g,k*5+4,none⟩=some (.slice qs[k].A qs[k].nd qs[k].cd)∧W.frozen? ⟨g,k*5+4,none⟩=false:=fun W hW =>
    ⟨(hW.cell (p:=⟨w.heap.size,17,none⟩) (by show w.heap.size<_;have:=HBS.out;omega)).trans (Qab HROWr.out 17 rfl),(hW.cell (p:=⟨g,k*5+4,none⟩) hgl.2).trans hcr,(hW.frozen (p:=⟨g,k*5+4,none⟩) hgl.2).trans hfr⟩
   have HSS:=hid hS;have HL:Hid (qs[k].x.dat.length=qs[k].nd):=hs.2.2.1;have HGW:Hid (w.heap.size<g):=by show _<_;have:=hgl.1;have:=HBS.out;omega
   generalize qs[k]=q at *;clear hs hSz hBr hcr hfr hgl hS;go_wp2_with fail;have hd:=(HSS.out _ (Below.refl _ _)).2.1;have hdd:=Qcw hd;refine wp_region_held_drew (S:=fun W=>W.cell? ⟨w.heap.size,17,none⟩=some (.slice (some ⟨g,0,none⟩) n cap)) (by kernel_rfl) (HSS.out _ Below.drew_).1 (fun hHeld=>?_);refine Qdp (i:=0) (v:=?v0) rfl (by kernel_rfl) (by kernel_rfl) (by kernel_rfl) (fun _ _ _ h=>h) (by rfl) ?hy0 (by assumption) ?rest0
   case hy0=>(intro w hSw;go_simp;try with_reducible rfl)
   try simp only[zs]
   refine Qdp (i:=1) (v:=?v1) rfl (by kernel_rfl) (by kernel_rfl) (by kernel_rfl) (fun _ _ _ h=>h) (by rfl) ?hy1 (by assumption) ?rest1
   case hy1=>(intro w hSw;go_simp;try with_reducible rfl)
   try simp only[zs]
   refine Qdp (i:=2) (v:=?v2) rfl (by kernel_rfl) (by kernel_rfl) (by kernel_rfl) (fun _ _ _ h=>h) (by rfl) ?hy2 (by assumption) ?rest2
   case hy2=>(intro w hSw;go_simp;try with_reducible rfl)
   try simp only[zs]
   refine Qdp (i:=3) (v:=?v3) rfl (by kernel_rfl) (by kernel_rfl) (by kernel_rfl) (fun _ _ _ h=>h) (by rfl) ?hy3 (by assumption) ?rest3
   case hy3=>(intro w hSw;go_simp;try with_reducible rfl)
   try simp only[zs]
   refine Qdp (i:=4) (v:=?v4) rfl (by kernel_rfl) (by kernel_rfl) (by kernel_rfl) (fun _ _ _ h=>h) (by rfl) ?hy4 (by assumption) ?rest4
   case hy4=>(intro w hSw;go_simp;try with_reducible rfl)
   try simp only[zs]
   refine Qdp (i:=5) (v:=?v5) rfl (by kernel_rfl) (by kernel_rfl) (by kernel_rfl) (fun _ _ _ h=>h) (by rfl) ?hy5 (by assumption) ?rest5
   case hy5=>(intro w hSw;go_simp;try with_reducible rfl)
   try simp only[zs]
   refine Qdp (i:=6) (v:=?v6) rfl (by kernel_rfl) (by kernel_rfl) (by kernel_rfl) (fun _ _ _ h=>h) (by rfl) ?hy6 (by assumption) ?rest6
   case hy6=>(intro w hSw;go_simp;try with_reducible rfl)
   try simp only[zs]
   refine Qdp (i:=7) (v:=?v7) rfl (by kernel_rfl) (by kernel_rfl) (by kernel_rfl) (fun _ _ _ h=>h) (by rfl) ?hy7 (by assumption) ?rest7
   case hy7=>(intro w hSw;go_simp;try with_reducible rfl)
   try simp only[zs]
   refine wpAnyH_ready (rs:=[8]) (by kernel_rfl) (by simp) ?_;refine AllReadyH.cons rfl (fun K hK=>?_) AllReadyH.nil;go_simp
   refine hK.out _ _ (HSS.out _ Below.drew_).1 (fun hHeld=>?_);try simp only[zs]
   clear hK K;refine wpAnyH_ready (rs:=[9]) (by kernel_rfl) (by simp) ?_;refine AllReadyH.cons rfl (fun K hK=>?_) AllReadyH.nil;go_simp
   refine(C5.out _ Below.drew_).mono ?_;rintro e w5 ⟨v5,rfl,ho5,hb5⟩;obtain⟨A5,c5,rfl,-,-,-⟩:=ho5.rdn HL.out;have D2:Hid (Below wr.heap.size wr w5):=Below.drew_.trans hb5;have O2:=hid ho5;have y1:=(HSS.out _ D2.out).2.1;have y2:=(HSS.out _ D2.out).2.2;clear hb5 ho5 hd hdd;go_simp
   refine hK.out _ _ (HSS.out _ D2.out).1 (fun hHeld=>?_);try simp only[zs]
   clear hK K;refine Qdp (i:=10) (v:=?v10) rfl (by kernel_rfl) (by kernel_rfl) (by kernel_rfl) (fun _ _ _ h=>h) (by rfl) ?hy10 (by assumption) ?rest10
   case hy10=>(intro w hSw;go_simp;try with_reducible rfl)
   try simp only[zs]
   refine Qdp (i:=11) (v:=?v11) rfl (by kernel_rfl) (by kernel_rfl) (by kernel_rfl) (fun _ _ _ h=>h) (by rfl) ?hy11 (by assumption) ?rest11
   case hy11=>(intro w hSw;go_simp;try with_reducible rfl)
   try simp only[zs]
   refine wpAnyH_ready (rs:=[12]) (by kernel_rfl) (by simp) ?_;refine AllReadyH.cons rfl (fun K hK=>?_) AllReadyH.nil;go_simp
   refine hK.out _ _ (by rw[World.cell?_setCell_far _ _ _ _ (by have:=HGW.out;show ¬ g=w.heap.size;omega)];exact(HSS.out _ D2.out).1) (fun hHeld=>?_);try simp only[Act.put]
   clear hK K;refine wpAnyH_done (by kernel_rfl) ?_ _;have HST:=hid (HQ.out w5 A5 c5 D2.out O2.out);clear y1 y2;go_wp2_with fail;have hw:wrap64 ((k:Int)+1)=((k+1:Nat):Int):=by unfold wrap64;have:=HH.out.2.2.2;omega
   go_roundw
   case rel=>exact⟨k+1,_,by omega,by rw[hw],HST⟩
   case measure =>
    have key:∀ z:Int,intOf (.int .i64 z)=z:=fun z=>rfl
    rw[hw,key,key,Int.toNat_natCast,Int.toNat_natCast]
    omega
  ·
   obtain rfl:k=n:=by omega
   have hii:decide ((k:Int)<(k:Int))=false:=decide_eq_false (by omega);have hrl:=HS.out.full zr zr (by have:=HH.out.2.2.2;omega);have hbel:=BB5.out.trans (HS.out.bel.mono (by have:=HBS.out;omega));have HRL:=hid hrl;have HBE:=hid hbel;clear hrl hbel;go_wp2_with (first
    | (refine Qae rfl (.tmp 1) rfl _ rfl _ _ HROWr.out rfl ?_)
    | (refine Qbp rfl 28 (.tmp 2) (.tmp 45) rfl _ rfl rfl _ _ HZr.out Qb1 rfl rfl ?_;intro W' hrow' _ hoth hbel hsz;have HWB:=hid (hbel _ _ HBE.out (Nat.le_succ _));clear hbel)
    | fail)
   refine bodyPost_ret (Q12 Tryz.results48 _ _ rfl hrow' rfl) rfl ⟨HWB.out,some ⟨g,0,none⟩,k,cap,rfl,?_,HC.out.2⟩;exact HRL.out.maskgo (by have:=HBS.out;omega) (fun p hp u hu=>(hoth p (by have:=HBS.out;omega)).trans hu) (Nat.le_of_eq hsz.symm)
theorem Quy(b:Bun)(s:LB):(Qeb b s).list=Qb3 b++if b.crc=0 then [] else [.mk 2 0 s []]:=rfl
theorem Qux{x0 x1 x2 x3 x4 x5 x6 x7:Itm}{rest:List Itm}{b:Bun}{s:LB}(h:x0::x1::x2::x3::x4::x5::x6::x7::rest=(Qeb b s).list) :
  x1=.mk 0 b.flg [] []∧x2=.mk 0 b.crc.toNat [] []∧x3=Qal b.dst∧x4=Qal b.src∧x5=Qal b.rep∧x6=.mk 4 0 [] [.mk 0 b.tim [] [],.mk 0 b.seq [] []]∧x7=.mk 0 b.lif [] []:=by
 rw[Quy] at h
 unfold Qb3 at h;simp only[List.cons_append,List.cons.injEq] at h;exact⟨h.2.1,h.2.2.1,h.2.2.2.1,h.2.2.2.2.1,h.2.2.2.2.2.1,h.2.2.2.2.2.2.1,h.2.2.2.2.2.2.2.1⟩
def Qll(lo:Nat)(x:Itm)(w:World)(e:Ending)(w':World):Prop:=∃ val,e=.returned (.tuple #[val,.int .i64 0])∧RdI (Qap (Qax lo) w') w'.heap.size val x∧Below w.heap.size w w'
theorem Qac{B g:Nat}{w w':World}{c:Obj}(h:w.heap[g]?=some c)(hb:Below B w w')(hg:g<B):w'.heap[g]?=some c:=(hb.block g hg).trans h
theorem Qaf{g:Nat}{w:World}{c:Obj}(h:w.heap[g]?=some c):g<w.heap.size:=(Array.getElem?_eq_some_iff.1 h).1
theorem Qtw(lo:Nat)(s:ByteArray)(n v:Nat)(w:World)(hlo:lo≤w.heap.size)(hs:s.size≤140737488355328)(hn:n<18446744073709551616)(hv:v<18446744073709551616)(_h:True)(hc:Qag (ep 2 s n v)=true) :
  Calls Tryz.prog 66 #[Qbq 2 s n v] w (Qll lo (.mk 4 0 [] [.mk 0 2 [] [],.mk 4 0 [] [.mk 0 n [] [],.mk 0 v [] []]]) w):=by
 have C1:=hid (fun W=>Qcm 2 s n v W hs);rw[hc] at C1
 have CT:=hid (fun (lo:Nat) (W:World) (hlo:lo≤W.heap.size)=>Qgi lo s W hlo hs);have HNV:=hid (And.intro hn hv);have HLO:Hid (lo≤w.heap.size+2):=by show _≤_;omega
 obtain⟨X2,hX2⟩:∃ X2:Itm,X2=.mk 4 0 [] [.mk 0 n [] [],.mk 0 v [] []]:=⟨_,rfl⟩
 have HX:Hid (Itm.mk 4 0 [] [.mk 0 2 [] [],.mk 4 0 [] [.mk 0 n [] [],.mk 0 v [] []]]=.mk 4 0 [] [.mk 0 2 [] [],X2]):=by show _=_;rw[hX2]
 have HX2:=hid hX2;clear hX2;have HB0:=hid (((Below.refl w.heap.size w).alloc zr (zo3 2 s n v)).alloc (Qaa _ _) zk0);have HW0:Hid (Below (w.heap.size+2) ((w.alloc (zo3 2 s n v)).alloc zk0) ((w.alloc (zo3 2 s n v)).alloc zk0)):=Below.refl _ _;have HS0:Hid (((w.alloc (zo3 2 s n v)).alloc zk0).heap.size=w.heap.size+2):=by show _=_;simp
 have HE0:Hid (((w.alloc (zo3 2 s n v)).alloc zk0).heap[w.heap.size]?=some (.cells #[.int .i64 2,.string s,.int .u64 (n:Int),.int .u64 (v:Int)] 25 (0,0))):=Qad (w:=w) rfl ((Below.refl (w.heap.size+1) (w.alloc (zo3 2 s n v))).alloc (by simp) zk0);have HR0:Hid (((w.alloc (zo3 2 s n v)).alloc zk0).heap[w.heap.size+1]?=some (.cells #[.int .i64 0,.int .u64 0,.slice none 0 0,.slice none 0 0] 119 (0,0))):=Qad (w:=w.alloc (zo3 2 s n v)) (by simp) (Below.refl _ _);clear hs hn hv hc hlo;unfold Qbq at *;go_enter Tryz.func66,Tryz.ntmps66;go_wp2_with fail;refine(C1.out _).mono ?_;rintro e w1 ⟨rfl,hb⟩
 have B1:=hid (Below.push HW0.out (Nat.le_of_eq HS0.out.symm) hb);have e1:=Qab (Qac HE0.out B1.out (by omega)) 1 rfl;clear hb;go_wp2_with fail;refine(CT.out w1.heap.size w1 zr).mono ?_;rintro e w2 ⟨v2,rfl,hv2,hb⟩;have B2:=hid (Below.push B1.out (Nat.le_of_eq HS0.out.symm) hb);have HL1:Hid (w.heap.size+2≤w1.heap.size):=by show _≤_;have:=B1.out.size;have:=HS0.out;omega
 have HL2:Hid (w.heap.size+2≤w2.heap.size):=Nat.le_trans HL1.out hb.size;obtain⟨k2,n2,A2,nd2,cd2,AL2,nl2,cl2,rfl⟩:=hv2.unmask.form;have V2:=hid hv2;clear hb hv2 e1;go_wp2_with (first
  | (refine Qbg rfl 119 (.tmp 4) (.tmp 11) rfl _ _ _ _ _ rfl rfl _ _ (heap_alloc_new w2 _) Qbf rfl rfl ?_;intro w3 hst3;have B3:=hid (hst3.2.1 _ _ (B2.out.alloc HL2.out zk0) HL2.out);have Y3:=hid hst3.1;have V3:=hid (V2.out.maskup HL1.out (fun j _ hj=>((hst3.2.2.2 j (by omega)).trans (Below.heap_alloc _ _ _ hj))) (Nat.le_trans (Qaa w2 zk0) (Nat.le_of_eq hst3.2.2.1.symm)));have Z3:Hid (w3.heap.size=w2.heap.size+1):=hst3.2.2.1.trans (by simp);have e0:=Qab (Qac HE0.out B3.out (by omega)) 0 rfl;have e1:=Qab (Qac HE0.out B3.out (by omega)) 1 rfl;clear hst3)
  | fail)
 clear e0 e1 V3 V2;have E3:=hid (Qac HE0.out B3.out (by omega));refine wp_region_held_drew (S:=fun W=>W.heap[w.heap.size]?=some (.cells #[.int .i64 2,.string s,.int .u64 (n:Int),.int .u64 (v:Int)] 25 (0,0))) (by kernel_rfl) E3.out (fun hHeld=>?_);have BC:Hid (Below w3.heap.size w3 w3.drew):=Below.drew_;refine Qao (i:=0) (v:=?v0_1) rfl (by kernel_rfl) (by kernel_rfl) (by kernel_rfl) (fun _ _ _ h=>h) (by rfl) ?hy0_1 (by assumption) ?rest0_1
 case hy0_1=>(intro W hSw;go_simp;try with_reducible rfl)
 try simp only[zs]
 refine Qao (i:=1) (v:=?v1_2) rfl (by kernel_rfl) (by kernel_rfl) (by kernel_rfl) (fun _ _ _ h=>h) (by rfl) ?hy1_2 (by assumption) ?rest1_2
 case hy1_2=>(intro W hSw;have e2:=Qab hSw 2 rfl;go_simp;try with_reducible rfl)
 try simp only[zs]
 refine Qao (i:=3) (v:=?v3_3) rfl (by kernel_rfl) (by kernel_rfl) (by kernel_rfl) (fun _ _ _ h=>h) (by rfl) ?hy3_3 (by assumption) ?rest3_3
 case hy3_3=>(intro W hSw;go_simp;try with_reducible rfl)
 try simp only[zs]
 refine Qao (i:=4) (v:=?v4_4) rfl (by kernel_rfl) (by kernel_rfl) (by kernel_rfl) (fun _ _ _ h=>h) (by rfl) ?hy4_4 (by assumption) ?rest4_4
 case hy4_4=>(intro W hSw;have e3:=Qab hSw 3 rfl;go_simp;try with_reducible rfl)
 try simp only[zs]
 refine wpAnyH_ready (rs:=[2]) (by kernel_rfl) (by simp) ?_;refine AllReadyH.cons rfl (fun K hK=>?_) AllReadyH.nil;rw[if_pos (by rfl)]
 go_simp
 refine(Qdd (n:Int) _).mono ?_;rintro e wa ⟨rfl,hb⟩;replace BC:=hid (BC.out.trans (hb.mono BC.out.size));clear hb;go_simp
 refine hK.out _ _ (Qac E3.out BC.out (Qaf E3.out)) (fun hHeld=>?_);try simp only[zs]
 clear hK K;refine wpAnyH_ready (rs:=[5]) (by kernel_rfl) (by simp) ?_;refine AllReadyH.cons rfl (fun K hK=>?_) AllReadyH.nil;rw[if_pos (by rfl)]
 go_simp
 refine(Qdd (v:Int) _).mono ?_;rintro e wb ⟨rfl,hb⟩;replace BC:=hid (BC.out.trans (hb.mono BC.out.size));clear hb;go_simp
 refine hK.out _ _ (Qac E3.out BC.out (Qaf E3.out)) (fun hHeld=>?_);try simp only[zs]
 clear hK K;refine wpAnyH_ready (rs:=[6]) (by kernel_rfl) (by simp) ?_;refine AllReadyH.cons rfl (fun K hK=>?_) AllReadyH.nil;rw[if_pos (by rfl)]
 go_simp
 have hit:ItC (Qap (Qax w3.heap.size) wb) wb.heap.size [.int .i64 0,.int .u64 (n:Int),.slice none 0 0,.slice none 0 0,.int .i64 0,.int .u64 (v:Int),.slice none 0 0,.slice none 0 0] [.mk 0 n [] [],.mk 0 v [] []]:=⟨RdI.mk_uint HNV.out.1,RdI.mk_uint HNV.out.2,trivial⟩
 have HIT:=hid (ItL.row (t:=119) BC.out.size hit);replace BC:=hid (BC.out.alloc BC.out.size (zo7 0 n none 0 0 none 0 0 0 v none 0 0 none 0 0));clear hit;refine hK.out _ _ (Qac E3.out BC.out (Qaf E3.out)) (fun hHeld=>?_);try simp only[zs]
 clear hK K;refine wpAnyH_ready (rs:=[7]) (by kernel_rfl) (by simp) ?_;refine AllReadyH.cons rfl (fun K hK=>?_) AllReadyH.nil;rw[if_pos (by rfl)]
 go_simp
 refine(Qdx w3.heap.size wb.heap.size 0 2 2 _ [.mk 0 n [] [],.mk 0 v [] []] (wb.alloc (zo7 0 n none 0 0 none 0 0 0 v none 0 0 none 0 0)) zr (by simp) HIT.out BC.out.size rfl (by decide) (by decide) zr).mono ?_;rintro e w4 ⟨v4,rfl,hv4,hb⟩;replace BC:=hid (BC.out.trans (hb.mono BC.out.size));obtain⟨k4,n4,A4,nd4,cd4,AL4,nl4,cl4,rfl⟩:=hv4.unmask.form;have V4:=hid hv4;clear hb hv4;go_simp
 refine hK.out _ _ (Qac E3.out BC.out (Qaf E3.out)) (fun hHeld=>?_);try simp only[zs]
 clear hK K;refine wpAnyH_ready (rs:=[8]) (by kernel_rfl) (by simp) ?_;refine AllReadyH.cons rfl (fun K hK=>?_) AllReadyH.nil;have Y4:=Qac Y3.out BC.out (Qaf Y3.out);have E4:=Qac E3.out BC.out (Qaf E3.out);have B4:=Below.push B3.out (Nat.le_of_eq HS0.out.symm) BC.out;refine Qc5 (by rfl) 119 (.tmp 4) (.tmp 22) (by rfl) _ _ _ _ _ (by rfl) (by rfl) _ _ Y4 Qbf rfl rfl ?_;intro w5 hstw5;have V5:=hid (V4.out.maskup (lo':=w.heap.size+2) (by have:=Z3.out;have:=HL2.out;omega) (fun j hj _=>hstw5.2.2.2 j (by have:=Z3.out;omega)) (Nat.le_of_eq hstw5.2.2.1.symm));have BT:=hid (hstw5.2.1 _ _ B4 HL2.out)
 have YT:=hid hstw5.1;refine hK.out _ _ ((hstw5.2.2.2 _ (by have:=HL2.out;omega)).trans E4) (fun hHeld=>?_);try simp only[zs]
 clear hK K;refine wpAnyH_done (by kernel_rfl) ?_ _;go_wp2_with fail;have RT:Hid (RdI (Qap (Qax (w.heap.size+2)) w5) w5.heap.size (zv6 k4 n4 A4 nd4 cd4 AL4 nl4 cl4) X2):=by rw[HX2.out];exact V5.out
 clear hstw5 Y4 E4 B4 BC V4 V5 HIT hHeld E3 Y3 B3;have ET:=hid (Qac HE0.out BT.out (by omega));have QT:=hid (Qac HR0.out BT.out (by omega));have LT:Hid (w.heap.size+2≤w5.heap.size):=by show _≤_;have:=BT.out.size;have:=HS0.out;omega
 refine wp_region_held_drew (S:=fun W=>W.heap[w.heap.size]?=some (.cells #[.int .i64 2,.string s,.int .u64 (n:Int),.int .u64 (v:Int)] 25 (0,0))∧W.heap[w2.heap.size]?=some (.cells #[.int .i64 k4,.int .u64 (n4:Int),.slice A4 nd4 cd4,.slice AL4 nl4 cl4] 119 (0,0))) (by kernel_rfl) ⟨ET.out,YT.out⟩ (fun hHeld=>?_);have BC:Hid (Below w5.heap.size w5 w5.drew):=Below.drew_;refine Qao (i:=0) (v:=?v0_5) rfl (by kernel_rfl) (by kernel_rfl) (by kernel_rfl) (fun _ _ _ h=>h) (by rfl) ?hy0_5 (by assumption) ?rest0_5
 case hy0_5=>(intro W hSw;go_simp;try with_reducible rfl)
 try simp only[zs]
 refine Qao (i:=1) (v:=?v1_6) rfl (by kernel_rfl) (by kernel_rfl) (by kernel_rfl) (fun _ _ _ h=>h) (by rfl) ?hy1_6 (by assumption) ?rest1_6
 case hy1_6=>(intro W hSw;have e0:=Qab hSw.1 0 rfl;go_simp;try with_reducible rfl)
 try simp only[zs]
 refine Qao (i:=2) (v:=?v2_7) rfl (by kernel_rfl) (by kernel_rfl) (by kernel_rfl) (fun _ _ _ h=>h) (by rfl) ?hy2_7 (by assumption) ?rest2_7
 case hy2_7=>(intro W hSw;go_simp;try with_reducible rfl)
 try simp only[zs]
 refine Qao (i:=4) rfl (by kernel_rfl) (by kernel_rfl) (by kernel_rfl) (fun _ _ _ h=>h) (by rfl) (fun W hW=>Qd7 rfl rfl hW.2 rfl) (by assumption) ?_;try simp only[zs]
 refine wpAnyH_ready (rs:=[3]) (by kernel_rfl) (by simp) ?_;refine AllReadyH.cons rfl (fun K hK=>?_) AllReadyH.nil;rw[if_pos (by rfl)]
 go_simp
 refine(Qdd 2 _).mono ?_;rintro e wu ⟨rfl,hb⟩;replace BC:=hid (BC.out.trans (hb.mono BC.out.size));clear hb;go_simp
 refine hK.out _ _ (⟨Qac ET.out BC.out (Qaf ET.out),Qac YT.out BC.out (Qaf YT.out)⟩) (fun hHeld=>?_);try simp only[zs]
 clear hK K;refine wpAnyH_ready (rs:=[5]) (by kernel_rfl) (by simp) ?_;refine AllReadyH.cons rfl (fun K hK=>?_) AllReadyH.nil;rw[if_pos (by rfl)]
 go_simp
 have hit:ItC (Qap (Qax (w.heap.size+2)) wu) wu.heap.size [.int .i64 0,.int .u64 2,.slice none 0 0,.slice none 0 0,.int .i64 k4,.int .u64 (n4:Int),.slice A4 nd4 cd4,.slice AL4 nl4 cl4] [.mk 0 2 [] [],X2]:=⟨RdI.mk_uint (n:=2) (by decide),RT.out.maskup zr (fun j _ hj=>BC.out.block j hj) BC.out.size,trivial⟩
 have HIT:=hid (ItL.row (t:=119) (Nat.le_trans LT.out BC.out.size) hit);replace BC:=hid (BC.out.alloc BC.out.size (zo7 0 2 none 0 0 none 0 0 k4 n4 A4 nd4 cd4 AL4 nl4 cl4));clear hit;refine hK.out _ _ (⟨Qac ET.out BC.out (Qaf ET.out),Qac YT.out BC.out (Qaf YT.out)⟩) (fun hHeld=>?_);try simp only[zs]
 clear hK K;refine wpAnyH_ready (rs:=[6]) (by kernel_rfl) (by simp) ?_;refine AllReadyH.cons rfl (fun K hK=>?_) AllReadyH.nil;rw[if_pos (by rfl)]
 go_simp
 refine(Qdx (w.heap.size+2) wu.heap.size 0 2 2 _ [.mk 0 2 [] [],X2] (wu.alloc (zo7 0 2 none 0 0 none 0 0 k4 n4 A4 nd4 cd4 AL4 nl4 cl4)) zr (by simp) HIT.out (Nat.le_trans LT.out BC.out.size) rfl (by decide) (by decide) zr).mono ?_;rintro e w7 ⟨v7,rfl,hv7,hb⟩;replace BC:=hid (BC.out.trans (hb.mono BC.out.size));obtain⟨k7,n7,A7,nd7,cd7,AL7,nl7,cl7,rfl⟩:=hv7.unmask.form;have V7:=hid hv7;clear hb hv7;go_simp
 refine hK.out _ _ (⟨Qac ET.out BC.out (Qaf ET.out),Qac YT.out BC.out (Qaf YT.out)⟩) (fun hHeld=>?_);try simp only[zs]
 clear hK K;refine wpAnyH_ready (rs:=[7]) (by kernel_rfl) (by simp) ?_;refine AllReadyH.cons rfl (fun K hK=>?_) AllReadyH.nil;have QC:=Qac QT.out BC.out (Qaf QT.out);have E7:=Qac ET.out BC.out (Qaf ET.out);have Y7:=Qac YT.out BC.out (Qaf YT.out);refine Qc5 (by rfl) 119 (.tmp 2) (.tmp 33) (by rfl) _ _ _ _ _ (by rfl) (by rfl) _ _ QC Qbf rfl rfl ?_;intro w8 hstw8;have V8:=hid (V7.out.maskup HLO.out (fun j hj _=>hstw8.2.2.2 j (by omega)) (Nat.le_of_eq hstw8.2.2.1.symm));have B8:=hid (hstw8.2.1 _ _ (HB0.out.trans ((BT.out.trans (BC.out.mono LT.out)).mono (Nat.le_add_right _ 2))) (Nat.le_succ _))
 have R8:=hid hstw8.1;refine hK.out _ _ (⟨(hstw8.2.2.2 _ (by omega)).trans E7,(hstw8.2.2.2 _ (by have:=HL2.out;omega)).trans Y7⟩) (fun hHeld=>?_);try simp only[zs]
 clear hK K;refine Qao (i:=8) (v:=?v8_8) rfl (by kernel_rfl) (by kernel_rfl) (by kernel_rfl) (fun _ _ _ h=>h) (by rfl) ?hy8_8 (by assumption) ?rest8_8
 case hy8_8=>(intro W hSw;go_simp;try with_reducible rfl)
 try simp only[zs]
 refine wpAnyH_done (by kernel_rfl) ?_ _;go_wp2_with fail;exact bodyPost_ret (Qty Tryz.results66 _ _ rfl R8.out rfl) rfl ⟨_,rfl,by rw[HX.out];exact V8.out,B8.out⟩
theorem Qrj(lo:Nat)(s:ByteArray)(n v:Nat)(w:World)(hlo:lo≤w.heap.size)(hs:s.size≤140737488355328)(hn:n<18446744073709551616)(hv:v<18446744073709551616)(he:s.data.toList=[])(hc:Qag (ep 1 s n v)=true) :
  Calls Tryz.prog 66 #[Qbq 1 s n v] w (Qll lo (.mk 4 0 [] [.mk 0 1 [] [],.mk 0 0 [] []]) w):=by
 have C1:=hid (fun W=>Qcm 1 s n v W hs);rw[hc] at C1
 have CT:=hid (fun (lo:Nat) (W:World) (hlo:lo≤W.heap.size)=>Qgi lo s W hlo hs);have HNV:=hid (And.intro hn hv);have HLO:Hid (lo≤w.heap.size+2):=by show _≤_;omega
 obtain⟨X2,hX2⟩:∃ X2:Itm,X2=.mk 0 0 [] []:=⟨_,rfl⟩
 have HX:Hid (Itm.mk 4 0 [] [.mk 0 1 [] [],.mk 0 0 [] []]=.mk 4 0 [] [.mk 0 1 [] [],X2]):=by show _=_;rw[hX2]
 have HX2:=hid hX2;clear hX2;have hbe:s.toList.isEmpty=true:=by rw[Lib.toList_data];rw[he];rfl
 have HB0:=hid (((Below.refl w.heap.size w).alloc zr (zo3 1 s n v)).alloc (Qaa _ _) zk0);have HW0:Hid (Below (w.heap.size+2) ((w.alloc (zo3 1 s n v)).alloc zk0) ((w.alloc (zo3 1 s n v)).alloc zk0)):=Below.refl _ _;have HS0:Hid (((w.alloc (zo3 1 s n v)).alloc zk0).heap.size=w.heap.size+2):=by show _=_;simp
 have HE0:Hid (((w.alloc (zo3 1 s n v)).alloc zk0).heap[w.heap.size]?=some (.cells #[.int .i64 1,.string s,.int .u64 (n:Int),.int .u64 (v:Int)] 25 (0,0))):=Qad (w:=w) rfl ((Below.refl (w.heap.size+1) (w.alloc (zo3 1 s n v))).alloc (by simp) zk0);have HR0:Hid (((w.alloc (zo3 1 s n v)).alloc zk0).heap[w.heap.size+1]?=some (.cells #[.int .i64 0,.int .u64 0,.slice none 0 0,.slice none 0 0] 119 (0,0))):=Qad (w:=w.alloc (zo3 1 s n v)) (by simp) (Below.refl _ _);clear hs hn hv hc hlo he;unfold Qbq at *;go_enter Tryz.func66,Tryz.ntmps66;go_wp2_with fail;refine(C1.out _).mono ?_;rintro e w1 ⟨rfl,hb⟩
 have B1:=hid (Below.push HW0.out (Nat.le_of_eq HS0.out.symm) hb);have e1:=Qab (Qac HE0.out B1.out (by omega)) 1 rfl;clear hb;go_wp2_with fail;refine(CT.out w1.heap.size w1 zr).mono ?_;rintro e w2 ⟨v2,rfl,hv2,hb⟩;have B2:=hid (Below.push B1.out (Nat.le_of_eq HS0.out.symm) hb);have HL1:Hid (w.heap.size+2≤w1.heap.size):=by show _≤_;have:=B1.out.size;have:=HS0.out;omega
 have HL2:Hid (w.heap.size+2≤w2.heap.size):=Nat.le_trans HL1.out hb.size;obtain⟨k2,n2,A2,nd2,cd2,AL2,nl2,cl2,rfl⟩:=hv2.unmask.form;have V2:=hid hv2;clear hb hv2 e1;go_wp2_with (first
  | (refine Qbg rfl 119 (.tmp 4) (.tmp 11) rfl _ _ _ _ _ rfl rfl _ _ (heap_alloc_new w2 _) Qbf rfl rfl ?_;intro w3 hst3;have B3:=hid (hst3.2.1 _ _ (B2.out.alloc HL2.out zk0) HL2.out);have Y3:=hid hst3.1;have V3:=hid (V2.out.maskup HL1.out (fun j _ hj=>((hst3.2.2.2 j (by omega)).trans (Below.heap_alloc _ _ _ hj))) (Nat.le_trans (Qaa w2 zk0) (Nat.le_of_eq hst3.2.2.1.symm)));have Z3:Hid (w3.heap.size=w2.heap.size+1):=hst3.2.2.1.trans (by simp);have e0:=Qab (Qac HE0.out B3.out (by omega)) 0 rfl;have e1:=Qab (Qac HE0.out B3.out (by omega)) 1 rfl;clear hst3)
  | fail)
 refine(Qdd 0 _).mono ?_;rintro e w4 ⟨rfl,hb⟩;have B4:=hid (Below.push B3.out (Nat.le_of_eq HS0.out.symm) hb);have Y4:=hid (Qac Y3.out hb (Qaf Y3.out));clear hb e0 e1;go_wp2_with (first
  | (refine Qbg rfl 119 (.tmp 4) (.tmp 26) rfl _ _ _ _ _ rfl rfl _ _ Y4.out Qbf rfl rfl ?_;intro w5 hst5;have BT:=hid (hst5.2.1 _ _ B4.out HL2.out);have YT:=hid hst5.1;clear hst5)
  | fail)
 have RT:Hid (RdI (Qap (Qax (w.heap.size+2)) w5) w5.heap.size (zv6 0 0 none 0 0 none 0 0) X2):=by rw[HX2.out];exact RdI.mk_uint (n:=0) (by decide)
 have ET:=hid (Qac HE0.out BT.out (by omega));have QT:=hid (Qac HR0.out BT.out (by omega));have LT:Hid (w.heap.size+2≤w5.heap.size):=by show _≤_;have:=BT.out.size;have:=HS0.out;omega
 refine wp_region_held_drew (S:=fun W=>W.heap[w.heap.size]?=some (.cells #[.int .i64 1,.string s,.int .u64 (n:Int),.int .u64 (v:Int)] 25 (0,0))∧W.heap[w2.heap.size]?=some (.cells #[.int .i64 0,.int .u64 0,.slice none 0 0,.slice none 0 0] 119 (0,0))) (by kernel_rfl) ⟨ET.out,YT.out⟩ (fun hHeld=>?_);have BC:Hid (Below w5.heap.size w5 w5.drew):=Below.drew_;refine Qao (i:=0) (v:=?v0_9) rfl (by kernel_rfl) (by kernel_rfl) (by kernel_rfl) (fun _ _ _ h=>h) (by rfl) ?hy0_9 (by assumption) ?rest0_9
 case hy0_9=>(intro W hSw;go_simp;try with_reducible rfl)
 try simp only[zs]
 refine Qao (i:=1) (v:=?v1_10) rfl (by kernel_rfl) (by kernel_rfl) (by kernel_rfl) (fun _ _ _ h=>h) (by rfl) ?hy1_10 (by assumption) ?rest1_10
 case hy1_10=>(intro W hSw;have e0:=Qab hSw.1 0 rfl;go_simp;try with_reducible rfl)
 try simp only[zs]
 refine Qao (i:=2) (v:=?v2_11) rfl (by kernel_rfl) (by kernel_rfl) (by kernel_rfl) (fun _ _ _ h=>h) (by rfl) ?hy2_11 (by assumption) ?rest2_11
 case hy2_11=>(intro W hSw;go_simp;try with_reducible rfl)
 try simp only[zs]
 refine Qao (i:=4) rfl (by kernel_rfl) (by kernel_rfl) (by kernel_rfl) (fun _ _ _ h=>h) (by rfl) (fun W hW=>Qd7 rfl rfl hW.2 rfl) (by assumption) ?_;try simp only[zs]
 refine wpAnyH_ready (rs:=[3]) (by kernel_rfl) (by simp) ?_;refine AllReadyH.cons rfl (fun K hK=>?_) AllReadyH.nil;rw[if_pos (by rfl)]
 go_simp
 refine(Qdd 1 _).mono ?_;rintro e wu ⟨rfl,hb⟩;replace BC:=hid (BC.out.trans (hb.mono BC.out.size));clear hb;go_simp
 refine hK.out _ _ (⟨Qac ET.out BC.out (Qaf ET.out),Qac YT.out BC.out (Qaf YT.out)⟩) (fun hHeld=>?_);try simp only[zs]
 clear hK K;refine wpAnyH_ready (rs:=[5]) (by kernel_rfl) (by simp) ?_;refine AllReadyH.cons rfl (fun K hK=>?_) AllReadyH.nil;rw[if_pos (by rfl)]
 go_simp
 have hit:ItC (Qap (Qax (w.heap.size+2)) wu) wu.heap.size [.int .i64 0,.int .u64 1,.slice none 0 0,.slice none 0 0,.int .i64 0,.int .u64 0,.slice none 0 0,.slice none 0 0] [.mk 0 1 [] [],X2]:=⟨RdI.mk_uint (n:=1) (by decide),RT.out.maskup zr (fun j _ hj=>BC.out.block j hj) BC.out.size,trivial⟩
 have HIT:=hid (ItL.row (t:=119) (Nat.le_trans LT.out BC.out.size) hit);replace BC:=hid (BC.out.alloc BC.out.size (zo7 0 1 none 0 0 none 0 0 0 0 none 0 0 none 0 0));clear hit;refine hK.out _ _ (⟨Qac ET.out BC.out (Qaf ET.out),Qac YT.out BC.out (Qaf YT.out)⟩) (fun hHeld=>?_);try simp only[zs]
 clear hK K;refine wpAnyH_ready (rs:=[6]) (by kernel_rfl) (by simp) ?_;refine AllReadyH.cons rfl (fun K hK=>?_) AllReadyH.nil;rw[if_pos (by rfl)]
 go_simp
 refine(Qdx (w.heap.size+2) wu.heap.size 0 2 2 _ [.mk 0 1 [] [],X2] (wu.alloc (zo7 0 1 none 0 0 none 0 0 0 0 none 0 0 none 0 0)) zr (by simp) HIT.out (Nat.le_trans LT.out BC.out.size) rfl (by decide) (by decide) zr).mono ?_;rintro e w7 ⟨v7,rfl,hv7,hb⟩;replace BC:=hid (BC.out.trans (hb.mono BC.out.size));obtain⟨k7,n7,A7,nd7,cd7,AL7,nl7,cl7,rfl⟩:=hv7.unmask.form;have V7:=hid hv7;clear hb hv7;go_simp
 refine hK.out _ _ (⟨Qac ET.out BC.out (Qaf ET.out),Qac YT.out BC.out (Qaf YT.out)⟩) (fun hHeld=>?_);try simp only[zs]
 clear hK K;refine wpAnyH_ready (rs:=[7]) (by kernel_rfl) (by simp) ?_;refine AllReadyH.cons rfl (fun K hK=>?_) AllReadyH.nil;have QC:=Qac QT.out BC.out (Qaf QT.out);have E7:=Qac ET.out BC.out (Qaf ET.out);have Y7:=Qac YT.out BC.out (Qaf YT.out);refine Qc5 (by rfl) 119 (.tmp 2) (.tmp 33) (by rfl) _ _ _ _ _ (by rfl) (by rfl) _ _ QC Qbf rfl rfl ?_;intro w8 hstw8;have V8:=hid (V7.out.maskup HLO.out (fun j hj _=>hstw8.2.2.2 j (by omega)) (Nat.le_of_eq hstw8.2.2.1.symm));have B8:=hid (hstw8.2.1 _ _ (HB0.out.trans ((BT.out.trans (BC.out.mono LT.out)).mono (Nat.le_add_right _ 2))) (Nat.le_succ _))
 have R8:=hid hstw8.1;refine hK.out _ _ (⟨(hstw8.2.2.2 _ (by omega)).trans E7,(hstw8.2.2.2 _ (by have:=HL2.out;omega)).trans Y7⟩) (fun hHeld=>?_);try simp only[zs]
 clear hK K;refine Qao (i:=8) (v:=?v8_12) rfl (by kernel_rfl) (by kernel_rfl) (by kernel_rfl) (fun _ _ _ h=>h) (by rfl) ?hy8_12 (by assumption) ?rest8_12
 case hy8_12=>(intro W hSw;go_simp;try with_reducible rfl)
 try simp only[zs]
 refine wpAnyH_done (by kernel_rfl) ?_ _;go_wp2_with fail;exact bodyPost_ret (Qty Tryz.results66 _ _ rfl R8.out rfl) rfl ⟨_,rfl,by rw[HX.out];exact V8.out,B8.out⟩
theorem Qtx(lo:Nat)(s:ByteArray)(n v:Nat)(w:World)(hlo:lo≤w.heap.size)(hs:s.size≤140737488355328)(hn:n<18446744073709551616)(hv:v<18446744073709551616)(he:s.data.toList≠[])(hc:Qag (ep 1 s n v)=true) :
  Calls Tryz.prog 66 #[Qbq 1 s n v] w (Qll lo (.mk 4 0 [] [.mk 0 1 [] [],.mk 3 0 s.data.toList []]) w):=by
 have C1:=hid (fun W=>Qcm 1 s n v W hs);rw[hc] at C1
 have CT:=hid (fun (lo:Nat) (W:World) (hlo:lo≤W.heap.size)=>Qgi lo s W hlo hs);have HNV:=hid (And.intro hn hv);have HLO:Hid (lo≤w.heap.size+2):=by show _≤_;omega
 obtain⟨X2,hX2⟩:∃ X2:Itm,X2=.mk 3 0 s.data.toList []:=⟨_,rfl⟩
 have HX:Hid (Itm.mk 4 0 [] [.mk 0 1 [] [],.mk 3 0 s.data.toList []]=.mk 4 0 [] [.mk 0 1 [] [],X2]):=by show _=_;rw[hX2]
 have HX2:=hid hX2;clear hX2;have hbe:s.toList.isEmpty=false:=by rw[Lib.toList_data];cases hh:s.data.toList with|nil=>exact absurd hh he|cons a l=>rfl
 have HB0:=hid (((Below.refl w.heap.size w).alloc zr (zo3 1 s n v)).alloc (Qaa _ _) zk0);have HW0:Hid (Below (w.heap.size+2) ((w.alloc (zo3 1 s n v)).alloc zk0) ((w.alloc (zo3 1 s n v)).alloc zk0)):=Below.refl _ _;have HS0:Hid (((w.alloc (zo3 1 s n v)).alloc zk0).heap.size=w.heap.size+2):=by show _=_;simp
 have HE0:Hid (((w.alloc (zo3 1 s n v)).alloc zk0).heap[w.heap.size]?=some (.cells #[.int .i64 1,.string s,.int .u64 (n:Int),.int .u64 (v:Int)] 25 (0,0))):=Qad (w:=w) rfl ((Below.refl (w.heap.size+1) (w.alloc (zo3 1 s n v))).alloc (by simp) zk0);have HR0:Hid (((w.alloc (zo3 1 s n v)).alloc zk0).heap[w.heap.size+1]?=some (.cells #[.int .i64 0,.int .u64 0,.slice none 0 0,.slice none 0 0] 119 (0,0))):=Qad (w:=w.alloc (zo3 1 s n v)) (by simp) (Below.refl _ _);clear hs hn hv hc hlo he;unfold Qbq at *;go_enter Tryz.func66,Tryz.ntmps66;go_wp2_with fail;refine(C1.out _).mono ?_;rintro e w1 ⟨rfl,hb⟩
 have B1:=hid (Below.push HW0.out (Nat.le_of_eq HS0.out.symm) hb);have e1:=Qab (Qac HE0.out B1.out (by omega)) 1 rfl;clear hb;go_wp2_with fail;refine(CT.out w1.heap.size w1 zr).mono ?_;rintro e w2 ⟨v2,rfl,hv2,hb⟩;have B2:=hid (Below.push B1.out (Nat.le_of_eq HS0.out.symm) hb);have HL1:Hid (w.heap.size+2≤w1.heap.size):=by show _≤_;have:=B1.out.size;have:=HS0.out;omega
 have HL2:Hid (w.heap.size+2≤w2.heap.size):=Nat.le_trans HL1.out hb.size;obtain⟨k2,n2,A2,nd2,cd2,AL2,nl2,cl2,rfl⟩:=hv2.unmask.form;have V2:=hid hv2;clear hb hv2 e1;go_wp2_with (first
  | (refine Qbg rfl 119 (.tmp 4) (.tmp 11) rfl _ _ _ _ _ rfl rfl _ _ (heap_alloc_new w2 _) Qbf rfl rfl ?_;intro w3 hst3;have B3:=hid (hst3.2.1 _ _ (B2.out.alloc HL2.out zk0) HL2.out);have Y3:=hid hst3.1;have V3:=hid (V2.out.maskup HL1.out (fun j _ hj=>((hst3.2.2.2 j (by omega)).trans (Below.heap_alloc _ _ _ hj))) (Nat.le_trans (Qaa w2 zk0) (Nat.le_of_eq hst3.2.2.1.symm)));have Z3:Hid (w3.heap.size=w2.heap.size+1):=hst3.2.2.1.trans (by simp);have e0:=Qab (Qac HE0.out B3.out (by omega)) 0 rfl;have e1:=Qab (Qac HE0.out B3.out (by omega)) 1 rfl;clear hst3)
  | fail)
 have BT:=B3;have YT:=Y3;have RT:Hid (RdI (Qap (Qax (w.heap.size+2)) w3) w3.heap.size (zv6 k2 n2 A2 nd2 cd2 AL2 nl2 cl2) X2):=by rw[HX2.out];exact V3.out
 clear e0 e1;have ET:=hid (Qac HE0.out BT.out (by omega));have QT:=hid (Qac HR0.out BT.out (by omega));have LT:Hid (w.heap.size+2≤w3.heap.size):=by show _≤_;have:=BT.out.size;have:=HS0.out;omega
 refine wp_region_held_drew (S:=fun W=>W.heap[w.heap.size]?=some (.cells #[.int .i64 1,.string s,.int .u64 (n:Int),.int .u64 (v:Int)] 25 (0,0))∧W.heap[w2.heap.size]?=some (.cells #[.int .i64 k2,.int .u64 (n2:Int),.slice A2 nd2 cd2,.slice AL2 nl2 cl2] 119 (0,0))) (by kernel_rfl) ⟨ET.out,YT.out⟩ (fun hHeld=>?_);have BC:Hid (Below w3.heap.size w3 w3.drew):=Below.drew_;refine Qao (i:=0) (v:=?v0_13) rfl (by kernel_rfl) (by kernel_rfl) (by kernel_rfl) (fun _ _ _ h=>h) (by rfl) ?hy0_13 (by assumption) ?rest0_13
 case hy0_13=>(intro W hSw;go_simp;try with_reducible rfl)
 try simp only[zs]
 refine Qao (i:=1) (v:=?v1_14) rfl (by kernel_rfl) (by kernel_rfl) (by kernel_rfl) (fun _ _ _ h=>h) (by rfl) ?hy1_14 (by assumption) ?rest1_14
 case hy1_14=>(intro W hSw;have e0:=Qab hSw.1 0 rfl;go_simp;try with_reducible rfl)
 try simp only[zs]
 refine Qao (i:=2) (v:=?v2_15) rfl (by kernel_rfl) (by kernel_rfl) (by kernel_rfl) (fun _ _ _ h=>h) (by rfl) ?hy2_15 (by assumption) ?rest2_15
 case hy2_15=>(intro W hSw;go_simp;try with_reducible rfl)
 try simp only[zs]
 refine Qao (i:=4) rfl (by kernel_rfl) (by kernel_rfl) (by kernel_rfl) (fun _ _ _ h=>h) (by rfl) (fun W hW=>Qd7 rfl rfl hW.2 rfl) (by assumption) ?_;try simp only[zs]
 refine wpAnyH_ready (rs:=[3]) (by kernel_rfl) (by simp) ?_;refine AllReadyH.cons rfl (fun K hK=>?_) AllReadyH.nil;rw[if_pos (by rfl)]
 go_simp
 refine(Qdd 1 _).mono ?_;rintro e wu ⟨rfl,hb⟩;replace BC:=hid (BC.out.trans (hb.mono BC.out.size));clear hb;go_simp
 refine hK.out _ _ (⟨Qac ET.out BC.out (Qaf ET.out),Qac YT.out BC.out (Qaf YT.out)⟩) (fun hHeld=>?_);try simp only[zs]
 clear hK K;refine wpAnyH_ready (rs:=[5]) (by kernel_rfl) (by simp) ?_;refine AllReadyH.cons rfl (fun K hK=>?_) AllReadyH.nil;rw[if_pos (by rfl)]
 go_simp
 have hit:ItC (Qap (Qax (w.heap.size+2)) wu) wu.heap.size [.int .i64 0,.int .u64 1,.slice none 0 0,.slice none 0 0,.int .i64 k2,.int .u64 (n2:Int),.slice A2 nd2 cd2,.slice AL2 nl2 cl2] [.mk 0 1 [] [],X2]:=⟨RdI.mk_uint (n:=1) (by decide),RT.out.maskup zr (fun j _ hj=>BC.out.block j hj) BC.out.size,trivial⟩
 have HIT:=hid (ItL.row (t:=119) (Nat.le_trans LT.out BC.out.size) hit);replace BC:=hid (BC.out.alloc BC.out.size (zo7 0 1 none 0 0 none 0 0 k2 n2 A2 nd2 cd2 AL2 nl2 cl2));clear hit;refine hK.out _ _ (⟨Qac ET.out BC.out (Qaf ET.out),Qac YT.out BC.out (Qaf YT.out)⟩) (fun hHeld=>?_);try simp only[zs]
 clear hK K;refine wpAnyH_ready (rs:=[6]) (by kernel_rfl) (by simp) ?_;refine AllReadyH.cons rfl (fun K hK=>?_) AllReadyH.nil;rw[if_pos (by rfl)]
 go_simp
 refine(Qdx (w.heap.size+2) wu.heap.size 0 2 2 _ [.mk 0 1 [] [],X2] (wu.alloc (zo7 0 1 none 0 0 none 0 0 k2 n2 A2 nd2 cd2 AL2 nl2 cl2)) zr (by simp) HIT.out (Nat.le_trans LT.out BC.out.size) rfl (by decide) (by decide) zr).mono ?_;rintro e w7 ⟨v7,rfl,hv7,hb⟩;replace BC:=hid (BC.out.trans (hb.mono BC.out.size));obtain⟨k7,n7,A7,nd7,cd7,AL7,nl7,cl7,rfl⟩:=hv7.unmask.form;have V7:=hid hv7;clear hb hv7;go_simp
 refine hK.out _ _ (⟨Qac ET.out BC.out (Qaf ET.out),Qac YT.out BC.out (Qaf YT.out)⟩) (fun hHeld=>?_);try simp only[zs]
 clear hK K;refine wpAnyH_ready (rs:=[7]) (by kernel_rfl) (by simp) ?_;refine AllReadyH.cons rfl (fun K hK=>?_) AllReadyH.nil;have QC:=Qac QT.out BC.out (Qaf QT.out);have E7:=Qac ET.out BC.out (Qaf ET.out);have Y7:=Qac YT.out BC.out (Qaf YT.out);refine Qc5 (by rfl) 119 (.tmp 2) (.tmp 33) (by rfl) _ _ _ _ _ (by rfl) (by rfl) _ _ QC Qbf rfl rfl ?_;intro w8 hstw8;have V8:=hid (V7.out.maskup HLO.out (fun j hj _=>hstw8.2.2.2 j (by omega)) (Nat.le_of_eq hstw8.2.2.1.symm));have B8:=hid (hstw8.2.1 _ _ (HB0.out.trans ((BT.out.trans (BC.out.mono LT.out)).mono (Nat.le_add_right _ 2))) (Nat.le_succ _))
 have R8:=hid hstw8.1;refine hK.out _ _ (⟨(hstw8.2.2.2 _ (by omega)).trans E7,(hstw8.2.2.2 _ (by have:=HL2.out;omega)).trans Y7⟩) (fun hHeld=>?_);try simp only[zs]
 clear hK K;refine Qao (i:=8) (v:=?v8_16) rfl (by kernel_rfl) (by kernel_rfl) (by kernel_rfl) (fun _ _ _ h=>h) (by rfl) ?hy8_16 (by assumption) ?rest8_16
 case hy8_16=>(intro W hSw;go_simp;try with_reducible rfl)
 try simp only[zs]
 refine wpAnyH_done (by kernel_rfl) ?_ _;go_wp2_with fail;exact bodyPost_ret (Qty Tryz.results66 _ _ rfl R8.out rfl) rfl ⟨_,rfl,by rw[HX.out];exact V8.out,B8.out⟩
theorem Qh6(lo:Nat)(sc:Int)(s:ByteArray)(n v:Nat)(w:World)(hlo:lo≤w.heap.size)(hs:s.size≤140737488355328)(hn:n<18446744073709551616)(hv:v<18446744073709551616)(hc:Qag (ep sc s n v)=true) :
  Calls Tryz.prog 66 #[Qbq sc s n v] w (Qll lo (Qal (ep sc s n v)) w):=by
 by_cases h1:sc=1
 ·
  subst h1;by_cases he:s.data.toList=[]
  ·
   have e:Qal (ep 1 s n v)=.mk 4 0 [] [.mk 0 1 [] [],.mk 0 0 [] []]:=by
    unfold Qal;rw[Qo4,if_neg (by show ¬ (1:Int)=2;decide),if_pos he]
    rfl
   rw[e]
   exact Qrj lo s n v w hlo hs hn hv he hc
  ·
   have e:Qal (ep 1 s n v)=.mk 4 0 [] [.mk 0 1 [] [],.mk 3 0 s.data.toList []]:=by
    unfold Qal;rw[Qo4,if_neg (by show ¬ (1:Int)=2;decide),if_neg he]
    rfl
   rw[e]
   exact Qtx lo s n v w hlo hs hn hv he hc
 ·
  obtain⟨h2,-,-,-,-⟩:=Qbe hc h1;have h2':sc=2:=h2;subst h2';exact Qtw lo s n v w hlo hs hn hv trivial hc
end Go.Proofs.YtbnfkjkoinbkgaaGreatDoor
