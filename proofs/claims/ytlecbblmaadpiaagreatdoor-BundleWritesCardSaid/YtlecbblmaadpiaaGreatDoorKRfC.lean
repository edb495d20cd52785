import Derived.Test.YtlecbblmaadpiaaGreatDoorKBunG
import Derived.Test.YtlecbblmaadpiaaGreatDoorKBunL
import Derived.Test.YtlecbblmaadpiaaGreatDoorKEidR
import Derived.Test.YtlecbblmaadpiaaGreatDoorKKRd
import Derived.Test.YtlecbblmaadpiaaGreatDoorKKRdE
import Derived.Deep.WholeRow
import Derived.Laws.CopyOwn
import Derived.Laws.ResultCell
import Derived.Deep.RegionHeld3
import Derived.WalkMore
namespace Go.Proofs.YtlecbblmaadpiaaGreatDoor
set_option maxRecDepth 100000
set_option maxHeartbeats 16000000
open Go.RowKit
theorem info_bun:(Tryz.prog.info? 73).map (·.size)=some 18:=by kernel_rfl
theorem wpList_st18 {P:Program} {w:World} {ops:Array Oper} {rest:List Oper} {o:Oper} {a:Act} {Q:Exit→Act→World→Prop} (hgd:o.guard=none) (ty:TypeId) (x y:Operand) (ho:o.op=.store ty x y)
  (g:Nat) {v0:Value} {v1:Value} {v2:Value} {v3:Value} {v4:Value} {v5:Value} {v6:Value} {v7:Value} {v8:Value} {v9:Value} {v10:Value} {v11:Value} {v12:Value} {v13:Value} {v14:Value} {v15:Value} {v16:Value} {v17:Value} (hx:a.eval x=.pointer (some ⟨g,0,none⟩)) (hy:a.eval y=.agg #[v0,v1,v2,v3,v4,v5,v6,v7,v8,v9,v10,v11,v12,v13,v14,v15,v16,v17]) (t:TypeId) (old:Array Value) (hg:w.heap[g]?=some (.cells old t (0,0)))
  (hi:(P.info? ty).map (·.size)=some 18) (hold:old.size=18) (h1:([v0,v1,v2,v3,v4,v5,v6,v7,v8,v9,v10,v11,v12,v13,v14,v15,v16,v17]:List Value).all (·.oneCell')=true)
  (h:∀ W',W'.heap[g]?=some (.cells #[v0,v1,v2,v3,v4,v5,v6,v7,v8,v9,v10,v11,v12,v13,v14,v15,v16,v17] t (0,0))→(W'.cell? ⟨g,0,none⟩=some v0∧W'.cell? ⟨g,1,none⟩=some v1∧W'.cell? ⟨g,2,none⟩=some v2∧W'.cell? ⟨g,3,none⟩=some v3∧W'.cell? ⟨g,4,none⟩=some v4∧W'.cell? ⟨g,5,none⟩=some v5∧W'.cell? ⟨g,6,none⟩=some v6∧W'.cell? ⟨g,7,none⟩=some v7∧W'.cell? ⟨g,8,none⟩=some v8∧W'.cell? ⟨g,9,none⟩=some v9∧W'.cell? ⟨g,10,none⟩=some v10∧W'.cell? ⟨g,11,none⟩=some v11∧W'.cell? ⟨g,12,none⟩=some v12∧W'.cell? ⟨g,13,none⟩=some v13∧W'.cell? ⟨g,14,none⟩=some v14∧W'.cell? ⟨g,15,none⟩=some v15∧W'.cell? ⟨g,16,none⟩=some v16∧W'.cell? ⟨g,17,none⟩=some v17)→(∀ p:Addr,p.block≠g→W'.cell? p=w.cell? p)→(∀ (B:Nat) (w0:World),Below B w0 w→B≤g→Below B w0 W')→W'.heap.size=w.heap.size→wpList P ops Q rest (a.put o.dst undef) W') :
  wpList P ops Q (o::rest) a w:=by
 have hrow:(w.setRow g #[v0,v1,v2,v3,v4,v5,v6,v7,v8,v9,v10,v11,v12,v13,v14,v15,v16,v17]).heap[g]?=some (.cells #[v0,v1,v2,v3,v4,v5,v6,v7,v8,v9,v10,v11,v12,v13,v14,v15,v16,v17] t (0,0)):=setRow_heap w g old _ t _ hg
 have hc:∀ j v,(#[v0,v1,v2,v3,v4,v5,v6,v7,v8,v9,v10,v11,v12,v13,v14,v15,v16,v17]:Array Value)[j]?=some v→(w.setRow g #[v0,v1,v2,v3,v4,v5,v6,v7,v8,v9,v10,v11,v12,v13,v14,v15,v16,v17]).cell? ⟨g,j,none⟩=some v:=fun j v hj=>by
  unfold World.cell?
  rw [hrow]
  simpa using hj
 exact wpList_store_row hgd ty x y ho g #[v0,v1,v2,v3,v4,v5,v6,v7,v8,v9,v10,v11,v12,v13,v14,v15,v16,v17] hx hy t old hg hi hold (Array.all_eq_true_iff_forall_mem.2 fun v hv=>List.all_eq_true.1 h1 v (by simpa using hv))
  (h _ hrow ⟨hc 0 _ rfl,hc 1 _ rfl,hc 2 _ rfl,hc 3 _ rfl,hc 4 _ rfl,hc 5 _ rfl,hc 6 _ rfl,hc 7 _ rfl,hc 8 _ rfl,hc 9 _ rfl,hc 10 _ rfl,hc 11 _ rfl,hc 12 _ rfl,hc 13 _ rfl,hc 14 _ rfl,hc 15 _ rfl,hc 16 _ rfl,hc 17 _ rfl⟩ (fun p hp=>cell_setRow_other w g _ p hp) (fun B w0 hb hB=>below_setRow hb hB _) (setRow_size w g _))
theorem load18 {W:World} {g:Nat} {vs:Array Value} {t:TypeId} (hg:W.heap[g]?=some (.cells vs t (0,0))) (hs:vs.size=18):(loadVar 73 ⟨g,0,none⟩).run Tryz.prog W=.ok (.agg vs) W :=
 run_loadVar_row W g t 73 vs (0,0) _ hg Tryz.underlying73 rfl (by rw [hs];exact info_bun)
theorem res_bt {fn:Func} {p u:Tmp} (h:fn.results=#[.cell p 73,.tmp u]) (tmps:Array Value) (W:World) {g:Nat} {vs:Array Value} {t:TypeId} (hp:tmps.getD p undef=.pointer (some ⟨g,0,none⟩))
  (hg:W.heap[g]?=some (.cells vs t (0,0))) (hs:vs.size=18):(results fn tmps).run Tryz.prog W=.ok (.tuple #[.agg vs,tmps.getD u undef]) W:=by
 rw [results_cell_tmp h,hp]
 simp only [asAddr,Sem.run_pure,Result.andThen,load18 hg hs]
theorem res_b {fn:Func} {p:Tmp} (h:fn.results=#[.cell p 73]) (tmps:Array Value) (W:World) {g:Nat} {vs:Array Value} {t:TypeId} (hp:tmps.getD p undef=.pointer (some ⟨g,0,none⟩))
  (hg:W.heap[g]?=some (.cells vs t (0,0))) (hs:vs.size=18):(results fn tmps).run Tryz.prog W=.ok (.agg vs) W :=
 results_cell_row h tmps W g t vs (0,0) _ hp hg Tryz.underlying73 rfl (by rw [hs];exact info_bun)
theorem res_btt {fn:Func} {p u v:Tmp} (h:fn.results=#[.cell p 73,.tmp u,.tmp v]) (tmps:Array Value) (W:World) {g:Nat} {vs:Array Value} {t:TypeId} (hp:tmps.getD p undef=.pointer (some ⟨g,0,none⟩))
  (hg:W.heap[g]?=some (.cells vs t (0,0))) (hs:vs.size=18):(results fn tmps).run Tryz.prog W=.ok (.tuple #[.agg vs,tmps.getD u undef,tmps.getD v undef]) W:=by
 have e:(results fn tmps).run Tryz.prog W=((asAddr (tmps.getD p undef)).run Tryz.prog W).andThen fun a w₁=>((loadVar 73 a).run Tryz.prog w₁).andThen fun x w₂=>.ok (.tuple #[x,tmps.getD u undef,tmps.getD v undef]) w₂:=by
  simp only [results,h]
  simp [Sem.run_bind,Result.andThen]
 rw [e,hp]
 simp only [asAddr,Sem.run_pure,Result.andThen,load18 hg hs]
theorem wpList_ld18 {w:World} {ops:Array Oper} {rest:List Oper} {o:Oper} {a:Act} {Q:Exit→Act→World→Prop} (hgd:o.guard=none) (x:Operand) (ho:o.op=.load 73 x)
  (g:Nat) (hx:a.eval x=.pointer (some ⟨g,0,none⟩)) (t:TypeId) (cs:Array Value) (hg:w.heap[g]?=some (.cells cs t (0,0))) (hs:cs.size=18) (h:wpList Tryz.prog ops Q rest (a.put o.dst (.agg cs)) w):wpList Tryz.prog ops Q (o::rest) a w :=
 wpList_load_row hgd 73 x ho g hx t cs (0,0) _ hg Tryz.underlying73 rfl (by rw [hs];exact info_bun) h
theorem row_of_box {w W:World} {c:Array Value} {t:TypeId} {g:Nat} (hg:g=w.heap.size) (h:Below (g+1) (w.alloc (.cells c t)) W):W.heap[g]?=some (.cells c t (0,0)):=by
 subst hg
 rw [h.block w.heap.size (Nat.lt_succ_self _)]
 exact heap_alloc_new w _
theorem cell_row {W:World} {g:Nat} {c:Array Value} {t:TypeId} (h:W.heap[g]?=some (.cells c t (0,0))) (j:Nat) {v:Value} (hj:c[j]?=some v):W.cell? ⟨g,j,none⟩=some v:=by
 unfold World.cell?
 rw [h]
 simpa using hj
theorem set17 {W:World} {g:Nat} {t:TypeId} {c0:Value} {c1:Value} {c2:Value} {c3:Value} {c4:Value} {c5:Value} {c6:Value} {c7:Value} {c8:Value} {c9:Value} {c10:Value} {c11:Value} {c12:Value} {c13:Value} {c14:Value} {c15:Value} {c16:Value} {c17:Value} (v:Value) (h:W.heap[g]?=some (.cells #[c0,c1,c2,c3,c4,c5,c6,c7,c8,c9,c10,c11,c12,c13,c14,c15,c16,c17] t (0,0))) :
  (W.setCell ⟨g,17,none⟩ v).heap[g]?=some (.cells #[c0,c1,c2,c3,c4,c5,c6,c7,c8,c9,c10,c11,c12,c13,c14,c15,c16,v] t (0,0)):=by
 rw [setCell_eq_setRow W g 17 #[c0,c1,c2,c3,c4,c5,c6,c7,c8,c9,c10,c11,c12,c13,c14,c15,c16,c17] t (0,0) v h]
 exact setRow_heap W g _ _ t _ h
theorem row_free {W:World} {g:Nat} {t:TypeId} {c:Array Value} (h:W.heap[g]?=some (.cells c t (0,0))) (j:Nat):W.frozen? ⟨g,j,none⟩=false:=by
 simp [World.frozen?,h]
/-! ### At a step of a region that draws its order -/
theorem exec_ld18 {ev:Operand→Value} {o:Oper} {x:Operand} (ho:o.op=.load 73 x) {g:Nat} {cs:Array Value} {t:TypeId} (hx:ev x=.pointer (some ⟨g,0,none⟩)) {W:World} (hg:W.heap[g]?=some (.cells cs t (0,0))) (hs:cs.size=18) :
  (execOp ev o).run Tryz.prog W=.ok (.value (.agg cs)) W:=by
 unfold execOp
 simp only [ho,hx,Instr.loadAt,Instr.sureAddr,Sem.run_bind,Sem.run_pure,Result.andThen_ok,load18 hg hs]
theorem step_st18 {P:Program} {w:World} {ops:Array Oper} {o:Oper} {a:Act} {K:Act→World→Prop} {Q:Exit→Act→World→Prop} {E:Prop} (hgd:o.guard=none) (ty:TypeId) (x y:Operand) (ho:o.op=.store ty x y)
  (g:Nat) {v0:Value} {v1:Value} {v2:Value} {v3:Value} {v4:Value} {v5:Value} {v6:Value} {v7:Value} {v8:Value} {v9:Value} {v10:Value} {v11:Value} {v12:Value} {v13:Value} {v14:Value} {v15:Value} {v16:Value} {v17:Value} (hx:a.eval x=.pointer (some ⟨g,0,none⟩)) (hy:a.eval y=.agg #[v0,v1,v2,v3,v4,v5,v6,v7,v8,v9,v10,v11,v12,v13,v14,v15,v16,v17]) (t:TypeId) (old:Array Value) (hg:w.heap[g]?=some (.cells old t (0,0)))
  (hi:(P.info? ty).map (·.size)=some 18) (hold:old.size=18) (h1:([v0,v1,v2,v3,v4,v5,v6,v7,v8,v9,v10,v11,v12,v13,v14,v15,v16,v17]:List Value).all (·.oneCell')=true)
  (h:∀ W',W'.heap[g]?=some (.cells #[v0,v1,v2,v3,v4,v5,v6,v7,v8,v9,v10,v11,v12,v13,v14,v15,v16,v17] t (0,0))→(∀ p:Addr,p.block≠g→W'.cell? p=w.cell? p)→(∀ (B:Nat) (w0:World),Below B w0 w→B≤g→Below B w0 W')→W'.heap.size=w.heap.size→(∀ j,j≠g→W'.heap[j]?=w.heap[j]?)→K (a.put o.dst undef) W') :
  if Region.wanted o (yielded ops a.tmps)=true then Oper.wp P o a w K Q else E:=by
 have hw:Region.wanted o (yielded ops a.tmps)=true:=by simp [Region.wanted,hgd]
 rw [if_pos hw]
 have hrow:(w.setRow g #[v0,v1,v2,v3,v4,v5,v6,v7,v8,v9,v10,v11,v12,v13,v14,v15,v16,v17]).heap[g]?=some (.cells #[v0,v1,v2,v3,v4,v5,v6,v7,v8,v9,v10,v11,v12,v13,v14,v15,v16,v17] t (0,0)):=setRow_heap w g old _ t _ hg
 exact wp_store_row ty x y ho g #[v0,v1,v2,v3,v4,v5,v6,v7,v8,v9,v10,v11,v12,v13,v14,v15,v16,v17] hx hy t old hg hi hold (Array.all_eq_true_iff_forall_mem.2 fun v hv=>List.all_eq_true.1 h1 v (by simpa using hv))
  (h _ hrow (fun p hp=>cell_setRow_other w g _ p hp) (fun B w0 hb hB=>below_setRow hb hB _) (setRow_size w g _) (fun j hj=>setRow_other w g j _ hj))
theorem takeW18 {P:Program} {md:Region.Mode} {l:List Oper} {Q:Exit→Act→World→Prop} {S:World→Prop} {i:Nat} {oi:Oper} {v:Value} {fuel:Nat} {listed:Array Bool} {a:Act} {w:World} (hi:l[i]?=some oi)
  (hs:Region.noSelect l.toArray=true) (hf:Region.free md l.toArray listed i=true) (hr:(Region.ready md l.toArray listed).contains i=true)
  (hQ:∀ c a w,Q (.panic c) (a.put oi.dst v) w→Q (.panic c) a w) (hw:Region.wanted oi (yielded l.toArray a.tmps)=true) (hy:∀ w,S w→(execOp a.eval oi).run P w=.ok (.value v) w) (hS:S w)
  (h:wpAnyH P md l.toArray Q S fuel (listed.setIfInBounds i true) (a.put oi.dst v) w):wpAnyH P md l.toArray Q S (fuel+1) listed a w :=
 wpAnyH_take (oi:=oi) (v:=v) (by simpa using hi) hs hf hr hQ (Or.inl ⟨hw,hy⟩) hS h
open Go.Lib (hid)
def SrcK (w:World) (B:Nat) (p:PK):Prop:=Bd p.x∧(p.nd≤p.cd∧p.nd≤140737488355328)∧Rd w B p.A p.nd p.x.dat
theorem RdKs.pks {w:World} {B b:Nat}:∀ {l:List Blk} {o:Nat},RdKs w B b o l→∃ ps:List PK,ps.map (·.x)=l∧(∀ j u,(rowK ps)[j]?=some u→w.cell? ⟨b,o+j,none⟩=some u)∧∀ p∈ps,SrcK w B p
 | [],_,_=>⟨[],rfl,fun j u hj=>by simp [rowK] at hj,fun _ h=>by cases h⟩
 | x::r,o,⟨⟨A,nd,cd,hk⟩,hr⟩=>by
  obtain ⟨ps,h1,h2,h3⟩:=RdKs.pks hr
  refine ⟨⟨x,A,nd,cd⟩::ps,by rw [List.map_cons,h1],fun j u hj=>?_,fun p hp=>?_⟩
  ·
   rw [rowK] at hj
   match j,hj with
   | 0,hj=>cases hj;exact hk.k0
   | 1,hj=>cases hj;exact hk.k1
   | 2,hj=>cases hj;exact hk.k2
   | 3,hj=>cases hj;exact hk.k3
   | 4,hj=>cases hj;exact hk.k4
   | j+5,hj =>
    rw [List.getElem?_append_right (by simp [fiveK])] at hj
    have:=h2 j u (by simpa [fiveK] using hj)
    rw [show o+(j+5)=o+5+j by omega]
    exact this
  ·
   rcases List.mem_cons.1 hp with rfl|hp
   ·
    exact ⟨hk.bd,hk.le,hk.rd⟩
   ·
    exact h3 p hp
theorem rowK_set:∀ (qs:List PK) (i:Nat) (hi:i<qs.length) (A:Option Addr) (c:Nat),rowK (qs.set i ⟨(qs[i]'hi).x,A,(qs[i]'hi).nd,c⟩)=(rowK qs).set (i*5+4) (.slice A (qs[i]'hi).nd c)
 | p::r,0,_,A,c=>by simp [rowK,fiveK]
 | p::r,i+1,hi,A,c=>by
  have ih:=rowK_set r i (by simpa using hi) A c
  simp only [List.set_cons_succ,List.getElem_cons_succ,rowK]
  rw [ih,List.set_append_right _ _ (by simp [fiveK];omega)]
  congr 2
  simp [fiveK]
  omega
theorem kclone_any (b o n c B:Nat) (ps:List PK) (w:World) (hB:B≤w.heap.size) (hb:b<B) (hc:∀ j u,(rowK ps)[j]?=some u→w.cell? ⟨b,o+j,none⟩=some u) (hn:ps.length=n) (h0:0<n) (hm:n≤1000) :
  Calls Tryz.prog 176 #[.slice (some ⟨b,o,none⟩) n c] w fun e w'=>∃ g cap,e=.returned (.slice (some ⟨g,0,none⟩) n cap)∧w'.ownsRow w.heap.size 48 5 (.slice (some ⟨g,0,none⟩) n cap) n (rowK ps)∧Below w.heap.size w w'∧g<w'.heap.size:=by
 obtain ⟨i0,hi0,hz0,hz1,hz2⟩:=info_parts info_blk
 have HI:=hid hi0
 have HI0:=hid hz0
 have HI1:=hid hz1
 have HI2:=hid hz2
 have q22:=fun (W:World) (a:Option Addr) (n c:Nat)=>Lib.run_eql_slice_nil (P:=Tryz.prog) W 71 48 a n c 0 0 Tryz.underlying71
 have HB0:=hid ((Below.refl w.heap.size w).alloc nlr (.cells #[] 48))
 have hlt:b<w.heap.size:=Nat.lt_of_lt_of_le hb hB
 have OX:Hid ((w.alloc (.cells #[] 48)).ownsRow w.heap.size 48 5 (.slice (some ⟨w.heap.size,0,none⟩) 0 0) 0 []):=World.ownsRow_lit (base:=w.heap.size) (e:=48) (size:=5) w #[] 0 nlr (by decide) rfl
 have NX:Hid (∀ j u,(rowK ps)[j]?=some u→(w.alloc (.cells #[] 48)).cell? ((⟨b,o,none⟩:Addr).add j)=some u):=fun j u hj=>by
  rw [show (⟨b,o,none⟩:Addr).add j=⟨b,o+j,none⟩ by unfold Addr.add;split <;> simp_all,World.cell?_alloc_lt _ _ ⟨b,o+j,none⟩ hlt]
  exact hc j u hj
 have HN:=hid (And.intro hn (And.intro h0 hm))
 have HLN:Hid ((rowK ps).length=n*5):=by show _=_;rw [rowK_len,hn]
 clear hi0 hz0 hz1 hz2 hB hb hc hn h0 hm hlt
 go_enter Tryz.func176,Tryz.ntmps176
 go_wp2_with (first
  | (at_builtin;refine wpList_append_lies _ rfl (.tmp 5) (.tmp 6) 71 rfl w.heap.size 48 i0 _ 5 56 Tryz.underlying71 HI.out HI0.out HI1.out HI2.out rfl (by decide) (.slice (some ⟨w.heap.size,0,none⟩) 0 0) 0 [] rfl OX.out ⟨b,o,none⟩ n c (rowK ps) rfl HLN.out NX.out (rowK_one ps) HN.out.2.1 (by have:=HN.out.2.2;unfold maxLen;omega) (by have:=HN.out.2.2;omega) (le_alloc _ _) _ rfl ?_;intro g cap w3 ho3 hg3 hat hlt3;have HG3:=hid hg3;have HO3:=hid ho3;have HAT:=hid hat;have HLT3:=hid hlt3;clear ho3 hg3 hat hlt3)
  | fail)
 go_ret
 have ho:=HO3.out
 rw [Nat.zero_add,List.nil_append] at ho
 refine ⟨g,cap,rfl,ho,⟨HG3.out.os,HG3.out.tape,HG3.out.output,by have:=HG3.out.size;have:=HB0.out.size;omega,fun j hj=>?_⟩,HLT3.out⟩
 rw [HG3.out.block j (by have:=HB0.out.size;omega) (fun e=>by have:=HB0.out.size;injection e with e;simp at e;omega)]
 exact Below.heap_alloc _ _ _ hj
theorem setCell_self {W:World} {g j:Nat} {cs:Array Value} {t:TypeId} {fr:Nat×Nat} {v:Value} (h:W.heap[g]?=some (.cells cs t fr)) (hj:cs[j]?=some v):W.setCell ⟨g,j,none⟩ v=W:=by
 rw [setCell_eq_setRow W g j cs t fr v h]
 have e:cs.setIfInBounds j v=cs:=by
  apply Array.ext_getElem?
  intro i
  rw [Array.getElem?_setIfInBounds]
  split
  ·
   rename_i hi
   subst hi
   have hlt:=(Array.getElem?_eq_some_iff.1 hj).1
   rw [if_pos hlt,hj]
  ·
   rfl
 rw [e]
 have e2:(W.setRow g cs).heap=W.heap:=by
  apply Array.ext_getElem?
  intro i
  by_cases hi:i=g
  ·
   subst hi;rw [setRow_heap W i cs cs t fr h,h]
  ·
   exact setRow_other W g i cs hi
 unfold World.setRow at e2 ⊢
 simp only at e2
 rw [e2]
theorem SrcK.below {w w':World} {B:Nat} {p:PK} (h:SrcK w B p) (hb:Below B w w'):SrcK w' B p:=⟨h.1,h.2.1,h.2.2.below hb⟩
structure CpSt (lo base B g cap n:Nat) (W5:World) (l:List Blk) (k:Nat) (wr:World) (qs:List PK):Prop where
 own:wr.ownsRow base 48 5 (.slice (some ⟨g,0,none⟩) n cap) n (rowK qs)
 map:qs.map (·.x)=l
 len:qs.length=n
 done:∀ j (hj:j<qs.length),j<k→OkK lo wr (.slice (some ⟨g,0,none⟩) n cap) qs[j]
 rest:∀ j (hj:j<qs.length),k≤j→SrcK wr B qs[j]
 bel:Below base W5 wr
theorem CpSt.blk {lo base B g cap n:Nat} {W5:World} {l:List Blk} {k:Nat} {wr:World} {qs:List PK} (h:CpSt lo base B g cap n W5 l k wr qs):base≤g∧g<wr.heap.size:=World.ownsRow.lt h.own g rfl
theorem rowK_at:∀ (qs:List PK) (k:Nat) (hk:k<qs.length),(rowK qs)[k*5+4]?=some (.slice qs[k].A qs[k].nd qs[k].cd)
 | p::r,0,_=>rfl
 | p::r,k+1,hk=>by
  rw [rowK,List.getElem?_append_right (by simp [fiveK];omega)]
  have:=rowK_at r k (by simpa using hk)
  rw [show (k+1)*5+4 - (fiveK p).length=k*5+4 by simp [fiveK];omega,this]
  rfl
theorem CpSt.cell {lo base B g cap n:Nat} {W5:World} {l:List Blk} {k:Nat} {wr:World} {qs:List PK} (h:CpSt lo base B g cap n W5 l k wr qs) {j:Nat} (hj:j<qs.length):wr.cell? ⟨g,j*5+4,none⟩=some (.slice qs[j].A qs[j].nd qs[j].cd):=by
 rw [World.ownsRow.cellAt h.own _ (by rw [← h.len];omega)]
 exact rowK_at qs j hj
theorem CpSt.step {lo base B g cap n:Nat} {W5:World} {l:List Blk} {k:Nat} {wr wc:World} {qs:List PK} (h:CpSt lo base B g cap n W5 l k wr qs) (hlo:lo≤base) (hB:B≤base) (hk:k<qs.length) (hb:Below wr.heap.size wr wc)
  {A:Option Addr} {c:Nat} (hO:Ob wc wr.heap.size 5 (.slice A qs[k].nd c) qs[k].x.dat) :
  CpSt lo base B g cap n W5 l (k+1) (wc.setCell ⟨g,k*5+4,none⟩ (.slice A qs[k].nd c)) (qs.set k ⟨qs[k].x,A,qs[k].nd,c⟩):=by
 have hg:=h.blk
 have hsrc:=h.rest k hk nlr
 have hrd:n=n∧qs[k].nd≤c∧Rd wc wc.heap.size A qs[k].nd qs[k].x.dat:=by
  obtain ⟨A',c',hv,hc,-,hr⟩:=hO.rdn hsrc.2.2.1
  injection hv with h1 h2 h3
  subst h1 h3
  exact ⟨rfl,hc,hr⟩
 have hnew:∀ b o,A=some ⟨b,o,none⟩→wr.heap.size≤b:=fun b o e=>(World.ownsRow.lt hO b (by rw [e];rfl)).1
 have hoff:∀ {B':Nat} {A':Option Addr} {m:Nat} {d:List UInt8},Rd wc B' A' m d→(0<m→∀ b o,A'=some ⟨b,o,none⟩→b≠g)→B'≤wc.heap.size→Rd (wc.setCell ⟨g,k*5+4,none⟩ (.slice A qs[k].nd c)) B' A' m d:=fun hr hne _=>⟨hr.1,fun h0=>by
  obtain ⟨b,o,e,hlt,hc⟩:=hr.2 h0
  exact ⟨b,o,e,hlt,fun i hi=>by rw [World.cell?_setCell_far _ _ _ _ (by have:=hne h0 b o e;show ¬ g=b;omega)];exact hc i hi⟩⟩
 have hsz:(wc.setCell ⟨g,k*5+4,none⟩ (.slice A qs[k].nd c)).heap.size=wc.heap.size:=by simp [World.setCell]
 have hbw:Below base wr wc:=hb.mono (by omega)
 refine ⟨?_,?_,?_,?_,?_,?_⟩
 ·
  rw [rowK_set]
  exact (World.ownsRow.stored (ownsRow_below h.own hb) _ _).1
 ·
  rw [List.map_set,← h.map]
  apply List.ext_getElem?
  intro i
  rw [List.getElem?_set]
  split
  ·
   rename_i hi
   subst hi
   rw [List.length_map,if_pos hk]
   simp [hk]
  ·
   rfl
 ·
  rw [List.length_set];exact h.len
 ·
  intro j hj hjk
  rw [List.length_set] at hj
  by_cases he:j=k
  ·
   subst he
   rw [List.getElem_set_self]
   refine ⟨hsrc.1,⟨hrd.2.1,hsrc.2.1.2⟩,?_,?_,?_⟩
   ·
    rw [hsz]
    exact hoff hrd.2.2 (fun _ b o e=>by have:=hnew b o e;omega) nlr
   ·
    intro _ b o e hh
    injection hh with hh
    have:=hnew b o e
    have hh':g=b:=hh
    omega
   ·
    intro _ b o e
    have:=hnew b o e
    omega
  ·
   rw [List.getElem_set_ne (by omega)]
   have ho:=(h.done j hj (by omega)).below hb
   refine ⟨ho.bd,ho.le,?_,ho.far,ho.new⟩
   rw [hsz]
   exact hoff ho.rd (fun h0 b o e hh=>ho.far h0 b o e (by rw [hh];rfl)) nlr
 ·
  intro j hj hjk
  rw [List.length_set] at hj
  rw [List.getElem_set_ne (by omega)]
  have hs:=(h.rest j hj (by omega)).below (hbw.mono hB)
  refine ⟨hs.1,hs.2.1,hoff hs.2.2 (fun h0 b o e hh=>?_) (by have:=hb.size;omega)⟩
  obtain ⟨b',o',e',hlt,-⟩:=hs.2.2.2 h0
  rw [e] at e'
  injection e' with e'
  injection e' with e1 e2
  omega
 ·
  exact (h.bel.trans hbw).setCell (p:=⟨g,k*5+4,none⟩) hg.1 _
theorem CpSt.full {lo base B g cap n:Nat} {W5:World} {l:List Blk} {k:Nat} {wr:World} {qs:List PK} (h:CpSt lo base B g cap n W5 l k wr qs) (hlo:lo≤base) (hk:n≤k) (hn:n≤140737488355328) :
  RdL (mask (lows lo) wr) wr.heap.size (some ⟨g,0,none⟩) n l:=by
 have hg:=h.blk
 refine ⟨by rw [← h.map,List.length_map,h.len],fun h0=>⟨g,0,rfl,hg.2,?_⟩,hn⟩
 rw [← h.map]
 refine rowK_read (v:=.slice (some ⟨g,0,none⟩) n cap) (Nat.le_trans hlo hg.1) qs 0 (fun j u hj=>?_) (fun p hp=>?_)
 ·
  have hjl:j<n*5:=by
   rw [← h.len,← rowK_len]
   rcases Nat.lt_or_ge j (rowK qs).length with h|h
   ·
    exact h
   ·
    rw [List.getElem?_eq_none h] at hj;cases hj
  rw [Nat.zero_add,World.ownsRow.cellAt h.own j hjl]
  exact hj
 ·
  obtain ⟨j,hj,rfl⟩:=List.getElem_of_mem hp
  exact h.done j hj (by rw [h.len] at hj;omega)
theorem mask_same {S:Nat→Bool} {w w':World} {p:Addr} (h:w'.heap[p.block]?=w.heap[p.block]?):(mask S w').cell? p=(mask S w).cell? p:=by
 apply World.cell?_of_block
 unfold mask
 simp only [Array.getElem?_mapIdx,h]
theorem rtextL_any (lo:Nat) (s:ByteArray) (w:World) (hlo:lo≤w.heap.size) (hs:s.size≤140737488355328) :
  Calls Tryz.prog 67 #[.string s] w (GivesL lo (.mk 3 0 s.data.toList []) w):=by
 obtain ⟨c,W',hrun,hrd,hc,hb,hz⟩:=conv_bytes (w.alloc (.cells #[.int .i64 0,.int .u64 0,.slice none 0 0,.slice none 0 0] 30)) s
 have hz1:(w.alloc (.cells #[.int .i64 0,.int .u64 0,.slice none 0 0,.slice none 0 0] 30)).heap.size=w.heap.size+1:=by simp
 rw [hz1] at hrun hrd hb hz
 obtain ⟨⟨z0,z1,z2,z3⟩,f0,f1,f2,f3⟩:=zero_cells hb
 have HRD:=hid hrd
 have HB:=hid hb
 have HZ:=hid hz
 have HS:=hid hs
 have HLO:=hid hlo
 clear hrd hb hz hz1 hs hlo
 go_enter Tryz.func67,Tryz.ntmps67
 go_wp2_with fail
 have hsz4:((((W'.setCell ⟨w.heap.size,0,none⟩ (.int .i64 3)).setCell ⟨w.heap.size,1,none⟩ (.int .u64 0)).setCell ⟨w.heap.size,2,none⟩ (.slice (some ⟨w.heap.size+1,0,none⟩) s.size c)).setCell ⟨w.heap.size,3,none⟩ (.slice none 0 0)).heap.size=W'.heap.size:=by simp [World.setCell]
 refine bodyPost_ret (v:=.agg #[.int .i64 3,.int .u64 0,.slice (some ⟨w.heap.size+1,0,none⟩) s.size c,.slice none 0 0]) (by simp [results,Tryz.results67,go_sem,z0,z1,z2,z3]) rfl ⟨_,rfl,RdI.mk_data (by decide) hc HS.out (Rd.mask_one ?_ (Nat.le_trans HLO.out (Nat.le_succ _))),?_⟩
 ·
  rw [hsz4,HZ.out]
  exact HRD.out.set4 (fun _ b o h=>(by cases h;omega))
 ·
  exact below_set4 (((Below.refl _ _).alloc nlr _).trans (HB.out.mono (Nat.le_succ _))) nlr
theorem rarrayL_any (lo b o n c B:Nat) (l:List Itm) (w:World) (hB:B≤w.heap.size) (hb:b<B) (h:RdIs (mask (lows lo) w) B b o l) (hlo:lo≤w.heap.size) (hl:l.length=n) (h0:0<n) (hn:n≤1000000) (_hc:n≤c) :
  Calls Tryz.prog 43 #[.slice (some ⟨b,o,none⟩) n c] w (GivesL lo (.mk 4 0 [] l) w):=by
 obtain ⟨i0,hi0,hz0,hz1,hz2⟩:=info_parts info_item
 obtain ⟨cs,n1,n2,n3,n4⟩:=h.news
 rw [hl] at n1
 have bs:b<w.heap.size:=by omega
 have N2:Hid (∀ j u,cs[j]?=some u→((w.alloc (.cells #[.int .i64 0,.int .u64 0,.slice none 0 0,.slice none 0 0] 30)).alloc (.cells #[] 30)).cell? ((⟨b,o,none⟩:Addr).add j)=some u):=by
  intro j u hj
  have e:(⟨b,o,none⟩:Addr).add j=⟨b,o+j,none⟩:=by unfold Addr.add;split <;> simp_all
  rw [e,World.cell?_alloc_lt _ _ _ (Nat.lt_of_lt_of_le bs (le_alloc _ _)),World.cell?_alloc_lt _ _ _ bs]
  exact mask_sub (n2 j u hj)
 have HO:=hid (show ((w.alloc (.cells #[.int .i64 0,.int .u64 0,.slice none 0 0,.slice none 0 0] 30)).alloc (.cells #[] 30)).ownsRow (w.heap.size+1) 30 4 (.slice (some ⟨w.heap.size+1,0,none⟩) 0 0) 0 [] by
  have h:=World.ownsRow_lit (base:=w.heap.size+1) (e:=30) (size:=4) (w.alloc (.cells #[.int .i64 0,.int .u64 0,.slice none 0 0,.slice none 0 0] 30)) #[] 0 (by simp) (by decide) rfl
  simpa using h)
 have HLO:=hid hlo
 have N1:=hid n1
 have N3:=hid n3
 have N4:=hid n4
 have HL:=hid hl
 have HBB:=hid hB
 have H0:=hid h0
 have HN:=hid hn
 have HI:=hid hi0
 have HZ0:=hid hz0
 have HZ1:=hid hz1
 have HZ2:=hid hz2
 clear hlo n1 n2 n3 n4 h hl hB hb bs hi0 hz0 hz1 hz2 h0 hn
 go_enter Tryz.func43,Tryz.ntmps43
 go_wp2_with (first
  | (at_builtin;refine wpList_append_lies _ rfl (.tmp 3) (.tmp 4) 28 rfl (w.heap.size+1) 30 i0 _ 4 64 Tryz.underlying28 HI.out HZ0.out HZ1.out HZ2.out rfl (by decide) _ 0 [] rfl HO.out ⟨b,o,none⟩ n c cs rfl N1.out N2.out N3.out H0.out (by have:=HN.out;unfold maxLen;omega) (by have:=HN.out;omega) (by simp) _ rfl ?_;intro g cap w1 ho1 hg1 hat hlt;have B1:=hid (((Below.refl (w.heap.size+1) (w.alloc (.cells #[.int .i64 0,.int .u64 0,.slice none 0 0,.slice none 0 0] 30))).alloc (by simp) _).grown hg1 (by simp) (fun k hk=>by cases hk;exact Nat.le_refl _));obtain ⟨⟨z0,z1,z2,z3⟩,f0,f1,f2,f3⟩:=zero_cells B1.out;have O1:=hid ho1;have HLT:=hid hlt;clear ho1 hg1 hat hlt)
  | fail)
 have ho:=O1.out
 rw [Nat.zero_add,List.nil_append] at ho
 have hg:=(ho.lt g rfl).1
 have hcap:n≤cap:=by
  rcases ho.2 with ⟨hv,_⟩|⟨g',cap',cur,hv,_,_,hnc,_⟩
  ·
   cases hv
  ·
   injection hv with _ _ h3
   omega
 refine bodyPost_ret (v:=.agg #[.int .i64 4,.int .u64 0,.slice none 0 0,.slice (some ⟨g,0,none⟩) n cap]) (by simp [results,Tryz.results43,go_sem,z0,z1,z2,z3]) rfl ⟨_,rfl,RdI.mk_list (by decide) hcap (by have:=HN.out;omega) HL.out (by have:=HLT.out;simpa [World.setCell] using this) (N4.out _ _ g 0 ?_ ?_ ?_),?_⟩
 ·
  intro j u hj
  have hjn:j<n*4:=by
   rw [← N1.out]
   rcases Nat.lt_or_ge j cs.length with h|h
   ·
    exact h
   ·
    rw [List.getElem?_eq_none h] at hj;cases hj
  rw [mask_cell (lows_f.2 (show lo≤g by have:=HLO.out;omega)),Nat.zero_add,World.cell?_setCell_far _ _ _ _ (by show w.heap.size≠g;omega),World.cell?_setCell_far _ _ _ _ (by show w.heap.size≠g;omega),World.cell?_setCell_far _ _ _ _ (by show w.heap.size≠g;omega),World.cell?_setCell_far _ _ _ _ (by show w.heap.size≠g;omega),ho.cellAt j hjn]
  exact hj
 ·
  intro p hp
  have hp':p.block<w.heap.size:=Nat.lt_of_lt_of_le hp HBB.out
  exact mask_same ((below_set4 (((Below.refl _ _).alloc nlr _).trans (B1.out.mono (Nat.le_succ _))) nlr).block _ hp')
 ·
  have:=HBB.out
  have h2:=B1.out.size
  simp [World.setCell] at h2 ⊢
  omega
 ·
  exact below_set4 (((Below.refl _ _).alloc nlr _).trans (B1.out.mono (Nat.le_succ _))) nlr
theorem rarrayC_any (b o n c:Nat) (cs:List Value) (w:World) (bs:b<w.heap.size) (n1:cs.length=n*4) (n2:∀ j u,cs[j]?=some u→w.cell? ⟨b,o+j,none⟩=some u) (n3:∀ u∈cs,u.oneCell'=true) (h0:0<n) (hn:n≤1000000) :
  Calls Tryz.prog 43 #[.slice (some ⟨b,o,none⟩) n c] w fun e w'=>∃ g cap,e=.returned (.agg #[.int .i64 4,.int .u64 0,.slice none 0 0,.slice (some ⟨g,0,none⟩) n cap])∧w.heap.size<g∧g<w'.heap.size∧n≤cap∧(∀ j u,cs[j]?=some u→w'.cell? ⟨g,j,none⟩=some u)∧Below w.heap.size w w':=by
 obtain ⟨i0,hi0,hz0,hz1,hz2⟩:=info_parts info_item
 have N2:Hid (∀ j u,cs[j]?=some u→((w.alloc (.cells #[.int .i64 0,.int .u64 0,.slice none 0 0,.slice none 0 0] 30)).alloc (.cells #[] 30)).cell? ((⟨b,o,none⟩:Addr).add j)=some u):=by
  intro j u hj
  have e:(⟨b,o,none⟩:Addr).add j=⟨b,o+j,none⟩:=by unfold Addr.add;split <;> simp_all
  rw [e,World.cell?_alloc_lt _ _ _ (Nat.lt_of_lt_of_le bs (le_alloc _ _)),World.cell?_alloc_lt _ _ _ bs]
  exact n2 j u hj
 have HO:=hid (show ((w.alloc (.cells #[.int .i64 0,.int .u64 0,.slice none 0 0,.slice none 0 0] 30)).alloc (.cells #[] 30)).ownsRow (w.heap.size+1) 30 4 (.slice (some ⟨w.heap.size+1,0,none⟩) 0 0) 0 [] by
  have h:=World.ownsRow_lit (base:=w.heap.size+1) (e:=30) (size:=4) (w.alloc (.cells #[.int .i64 0,.int .u64 0,.slice none 0 0,.slice none 0 0] 30)) #[] 0 (by simp) (by decide) rfl
  simpa using h)
 have N1:=hid n1
 have N3:=hid n3
 have H0:=hid h0
 have HN:=hid hn
 have HI:=hid hi0
 have HZ0:=hid hz0
 have HZ1:=hid hz1
 have HZ2:=hid hz2
 clear n1 n2 n3 bs hi0 hz0 hz1 hz2 h0 hn
 go_enter Tryz.func43,Tryz.ntmps43
 go_wp2_with (first
  | (at_builtin;refine wpList_append_lies _ rfl (.tmp 3) (.tmp 4) 28 rfl (w.heap.size+1) 30 i0 _ 4 64 Tryz.underlying28 HI.out HZ0.out HZ1.out HZ2.out rfl (by decide) _ 0 [] rfl HO.out ⟨b,o,none⟩ n c cs rfl N1.out N2.out N3.out H0.out (by have:=HN.out;unfold maxLen;omega) (by have:=HN.out;omega) (by simp) _ rfl ?_;intro g cap w1 ho1 hg1 hat hlt;have B1:=hid (((Below.refl (w.heap.size+1) (w.alloc (.cells #[.int .i64 0,.int .u64 0,.slice none 0 0,.slice none 0 0] 30))).alloc (by simp) _).grown hg1 (by simp) (fun k hk=>by cases hk;exact Nat.le_refl _));obtain ⟨⟨z0,z1,z2,z3⟩,f0,f1,f2,f3⟩:=zero_cells B1.out;have O1:=hid ho1;have HLT:=hid hlt;clear ho1 hg1 hat hlt)
  | fail)
 have ho:=O1.out
 rw [Nat.zero_add,List.nil_append] at ho
 have hg:=(ho.lt g rfl).1
 have hcap:n≤cap:=by
  rcases ho.2 with ⟨hv,_⟩|⟨g',cap',cur,hv,_,_,hnc,_⟩
  ·
   cases hv
  ·
   injection hv with _ _ h3
   omega
 refine bodyPost_ret (v:=.agg #[.int .i64 4,.int .u64 0,.slice none 0 0,.slice (some ⟨g,0,none⟩) n cap]) (by simp [results,Tryz.results43,go_sem,z0,z1,z2,z3]) rfl ⟨g,cap,rfl,hg,by have:=HLT.out;simpa [World.setCell] using this,hcap,?_,?_⟩
 ·
  intro j u hj
  have hjn:j<n*4:=by
   rw [← N1.out]
   rcases Nat.lt_or_ge j cs.length with h|h
   ·
    exact h
   ·
    rw [List.getElem?_eq_none h] at hj;cases hj
  rw [World.cell?_setCell_far _ _ _ _ (by show w.heap.size≠g;omega),World.cell?_setCell_far _ _ _ _ (by show w.heap.size≠g;omega),World.cell?_setCell_far _ _ _ _ (by show w.heap.size≠g;omega),World.cell?_setCell_far _ _ _ _ (by show w.heap.size≠g;omega),ho.cellAt j hjn]
  exact hj
 ·
  exact below_set4 (((Below.refl _ _).alloc nlr _).trans (B1.out.mono (Nat.le_succ _))) nlr
theorem size_it:(Tryz.prog.info? 30).map (·.size)=some 4:=by kernel_rfl
theorem load4 {W:World} {g:Nat} {vs:Array Value} {t:TypeId} (hg:W.heap[g]?=some (.cells vs t (0,0))) (hs:vs.size=4):(loadVar 30 ⟨g,0,none⟩).run Tryz.prog W=.ok (.agg vs) W :=
 run_loadVar_row W g t 30 vs (0,0) _ hg Tryz.underlying30 rfl (by rw [hs];exact size_it)
theorem exec_ld4 {ev:Operand→Value} {o:Oper} {x:Operand} (ho:o.op=.load 30 x) {g:Nat} {cs:Array Value} {t:TypeId} (hx:ev x=.pointer (some ⟨g,0,none⟩)) {W:World} (hg:W.heap[g]?=some (.cells cs t (0,0))) (hs:cs.size=4) :
  (execOp ev o).run Tryz.prog W=.ok (.value (.agg cs)) W:=by
 unfold execOp
 simp only [ho,hx,Instr.loadAt,Instr.sureAddr,Sem.run_bind,Sem.run_pure,Result.andThen_ok,load4 hg hs]
def St4 (g:Nat) (t:TypeId) (vs:Array Value) (w W':World):Prop:=W'.heap[g]?=some (.cells vs t (0,0))∧(∀ (B:Nat) (w0:World),Below B w0 w→B≤g→Below B w0 W')∧W'.heap.size=w.heap.size∧∀ j,j≠g→W'.heap[j]?=w.heap[j]?
theorem wpList_st4 {P:Program} {w:World} {ops:Array Oper} {rest:List Oper} {o:Oper} {a:Act} {Q:Exit→Act→World→Prop} (hgd:o.guard=none) (ty:TypeId) (x y:Operand) (ho:o.op=.store ty x y)
  (g:Nat) (v0 v1 v2 v3:Value) (hx:a.eval x=.pointer (some ⟨g,0,none⟩)) (hy:a.eval y=.agg #[v0,v1,v2,v3]) (t:TypeId) (old:Array Value) (hg:w.heap[g]?=some (.cells old t (0,0)))
  (hi:(P.info? ty).map (·.size)=some 4) (hold:old.size=4) (h1:([v0,v1,v2,v3]:List Value).all (·.oneCell')=true)
  (h:∀ W',St4 g t #[v0,v1,v2,v3] w W'→wpList P ops Q rest (a.put o.dst undef) W') :
  wpList P ops Q (o::rest) a w :=
 wpList_store_row hgd ty x y ho g #[v0,v1,v2,v3] hx hy t old hg hi hold (Array.all_eq_true_iff_forall_mem.2 fun v hv=>List.all_eq_true.1 h1 v (by simpa using hv))
  (h _ ⟨setRow_heap w g old _ t _ hg,fun B w0 hb hB=>below_setRow hb hB _,setRow_size w g _,fun j hj=>setRow_other w g j _ hj⟩)
theorem step_st4 {P:Program} {w:World} {ops:Array Oper} {o:Oper} {a:Act} {K:Act→World→Prop} {Q:Exit→Act→World→Prop} {E:Prop} (hgd:o.guard=none) (ty:TypeId) (x y:Operand) (ho:o.op=.store ty x y)
  (g:Nat) (v0 v1 v2 v3:Value) (hx:a.eval x=.pointer (some ⟨g,0,none⟩)) (hy:a.eval y=.agg #[v0,v1,v2,v3]) (t:TypeId) (old:Array Value) (hg:w.heap[g]?=some (.cells old t (0,0)))
  (hi:(P.info? ty).map (·.size)=some 4) (hold:old.size=4) (h1:([v0,v1,v2,v3]:List Value).all (·.oneCell')=true)
  (h:∀ W',St4 g t #[v0,v1,v2,v3] w W'→K (a.put o.dst undef) W') :
  if Region.wanted o (yielded ops a.tmps)=true then Oper.wp P o a w K Q else E:=by
 have hw:Region.wanted o (yielded ops a.tmps)=true:=by simp [Region.wanted,hgd]
 rw [if_pos hw]
 exact wp_store_row ty x y ho g #[v0,v1,v2,v3] hx hy t old hg hi hold (Array.all_eq_true_iff_forall_mem.2 fun v hv=>List.all_eq_true.1 h1 v (by simpa using hv))
  (h _ ⟨setRow_heap w g old _ t _ hg,fun B w0 hb hB=>below_setRow hb hB _,setRow_size w g _,fun j hj=>setRow_other w g j _ hj⟩)
theorem res_it {fn:Func} {p u:Tmp} (h:fn.results=#[.cell p 30,.tmp u]) (tmps:Array Value) (W:World) {g:Nat} {vs:Array Value} {t:TypeId} (hp:tmps.getD p undef=.pointer (some ⟨g,0,none⟩))
  (hg:W.heap[g]?=some (.cells vs t (0,0))) (hs:vs.size=4):(results fn tmps).run Tryz.prog W=.ok (.tuple #[.agg vs,tmps.getD u undef]) W:=by
 rw [results_cell_tmp h,hp]
 simp only [asAddr,Sem.run_pure,Result.andThen,load4 hg hs]
theorem ItL.row {lo:Nat} {W:World} {cs:List Value} {xs:List Itm} {t:TypeId} (hlo:lo≤W.heap.size) (h:ItC (mask (lows lo) W) W.heap.size cs xs) :
  RdIs (mask (lows lo) (W.alloc (.cells cs.toArray t))) (W.alloc (.cells cs.toArray t)).heap.size W.heap.size 0 xs:=RdIs.more (by simp) (ItC.row hlo h)
theorem RdI.maskup {lo lo':Nat} {w w':World} {v:Value} {x:Itm} (h:RdI (mask (lows lo) w) w.heap.size v x) (hl:lo'≤lo) (hb:∀ j,lo≤j→j<w.heap.size→w'.heap[j]?=w.heap[j]?) (hs:w.heap.size≤w'.heap.size):RdI (mask (lows lo') w') w'.heap.size v x :=
 h.mask_go hs (fun k hk hf=>hb k (lows_f.1 hf) hk) (fun _ _ hf=>lows_f.2 (Nat.le_trans hl (lows_f.1 hf)))
end Go.Proofs.YtlecbblmaadpiaaGreatDoor
