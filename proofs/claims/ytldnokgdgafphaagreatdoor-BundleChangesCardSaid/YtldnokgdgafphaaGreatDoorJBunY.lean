/- A bundle stored whole: the 18 cells of a box laid anew at once. (Made by gen/bun.py.) -/
import Derived.Test.YtldnokgdgafphaaGreatDoorJBunG
import Derived.Test.YtldnokgdgafphaaGreatDoorJKHead
import Derived.Deep.WholeRow
import Derived.Laws.CopyOwn
import Derived.Laws.ResultCell
import Derived.Deep.RegionHeld3
import Derived.Stop.IfaceNil
namespace Go.Proofs.YtldnokgdgafphaaGreatDoor
open Go.RowKit
theorem info_bun:(Tryz.prog.info? 28).map (·.size)=some 18:=by kernel_rfl
theorem wpList_st18 {P:Program} {w:World} {ops:Array Oper} {rest:List Oper} {o:Oper} {a:Act} {Q:Exit→Act→World→Prop} (hgd:o.guard=none) (ty:TypeId) (x y:Operand) (ho:o.op=.store ty x y)
    (g:Nat) {v0:Value} {v1:Value} {v2:Value} {v3:Value} {v4:Value} {v5:Value} {v6:Value} {v7:Value} {v8:Value} {v9:Value} {v10:Value} {v11:Value} {v12:Value} {v13:Value} {v14:Value} {v15:Value} {v16:Value} {v17:Value} (hx:a.eval x=.pointer (some ⟨g,0,none⟩)) (hy:a.eval y=.agg #[v0,v1,v2,v3,v4,v5,v6,v7,v8,v9,v10,v11,v12,v13,v14,v15,v16,v17]) (t:TypeId) (old:Array Value) (hg:w.heap[g]?=some (.cells old t (0,0)))
    (hi:(P.info? ty).map (·.size)=some 18) (hold:old.size=18) (h1:([v0,v1,v2,v3,v4,v5,v6,v7,v8,v9,v10,v11,v12,v13,v14,v15,v16,v17]:List Value).all (·.oneCell')=true)
    (h:∀ W',W'.heap[g]?=some (.cells #[v0,v1,v2,v3,v4,v5,v6,v7,v8,v9,v10,v11,v12,v13,v14,v15,v16,v17] t (0,0))→(W'.cell? ⟨g,0,none⟩=some v0∧W'.cell? ⟨g,1,none⟩=some v1∧W'.cell? ⟨g,2,none⟩=some v2∧W'.cell? ⟨g,3,none⟩=some v3∧W'.cell? ⟨g,4,none⟩=some v4∧W'.cell? ⟨g,5,none⟩=some v5∧W'.cell? ⟨g,6,none⟩=some v6∧W'.cell? ⟨g,7,none⟩=some v7∧W'.cell? ⟨g,8,none⟩=some v8∧W'.cell? ⟨g,9,none⟩=some v9∧W'.cell? ⟨g,10,none⟩=some v10∧W'.cell? ⟨g,11,none⟩=some v11∧W'.cell? ⟨g,12,none⟩=some v12∧W'.cell? ⟨g,13,none⟩=some v13∧W'.cell? ⟨g,14,none⟩=some v14∧W'.cell? ⟨g,15,none⟩=some v15∧W'.cell? ⟨g,16,none⟩=some v16∧W'.cell? ⟨g,17,none⟩=some v17)→(∀ p:Addr,p.block≠g→W'.cell? p=w.cell? p)→(∀ (B:Nat) (w0:World),Below B w0 w→B≤g→Below B w0 W')→W'.heap.size=w.heap.size→wpList P ops Q rest (a.put o.dst undef) W') :
    wpList P ops Q (o::rest) a w:=by
  have hrow:(w.setRow g #[v0,v1,v2,v3,v4,v5,v6,v7,v8,v9,v10,v11,v12,v13,v14,v15,v16,v17]).heap[g]?=some (.cells #[v0,v1,v2,v3,v4,v5,v6,v7,v8,v9,v10,v11,v12,v13,v14,v15,v16,v17] t (0,0)):=setRow_heap w g old _ t _ hg
  have hc:∀ j v,(#[v0,v1,v2,v3,v4,v5,v6,v7,v8,v9,v10,v11,v12,v13,v14,v15,v16,v17]:Array Value)[j]?=some v→(w.setRow g #[v0,v1,v2,v3,v4,v5,v6,v7,v8,v9,v10,v11,v12,v13,v14,v15,v16,v17]).cell? ⟨g,j,none⟩=some v:=fun j v hj=>by
    unfold World.cell?
    rw [hrow]
    simpa using hj
  exact wpList_store_row hgd ty x y ho g #[v0,v1,v2,v3,v4,v5,v6,v7,v8,v9,v10,v11,v12,v13,v14,v15,v16,v17] hx hy t old hg hi hold (Array.all_eq_true_iff_forall_mem.2 fun v hv=>List.all_eq_true.1 h1 v (by simpa using hv))
    (h _ hrow ⟨hc 0 _ rfl,hc 1 _ rfl,hc 2 _ rfl,hc 3 _ rfl,hc 4 _ rfl,hc 5 _ rfl,hc 6 _ rfl,hc 7 _ rfl,hc 8 _ rfl,hc 9 _ rfl,hc 10 _ rfl,hc 11 _ rfl,hc 12 _ rfl,hc 13 _ rfl,hc 14 _ rfl,hc 15 _ rfl,hc 16 _ rfl,hc 17 _ rfl⟩ (fun p hp=>cell_setRow_other w g _ p hp) (fun B w0 hb hB=>below_setRow hb hB _) (setRow_size w g _))
set_option maxRecDepth 100000 in
theorem load18 {W:World} {g:Nat} {vs:Array Value} {t:TypeId} (hg:W.heap[g]?=some (.cells vs t (0,0))) (hs:vs.size=18):(loadVar 28 ⟨g,0,none⟩).run Tryz.prog W=.ok (.agg vs) W :=
  run_loadVar_row W g t 28 vs (0,0) _ hg Tryz.underlying28 rfl (by rw [hs];exact info_bun)
set_option maxRecDepth 100000 in
theorem res_bt {fn:Func} {p u:Tmp} (h:fn.results=#[.cell p 28,.tmp u]) (tmps:Array Value) (W:World) {g:Nat} {vs:Array Value} {t:TypeId} (hp:tmps.getD p undef=.pointer (some ⟨g,0,none⟩))
    (hg:W.heap[g]?=some (.cells vs t (0,0))) (hs:vs.size=18):(results fn tmps).run Tryz.prog W=.ok (.tuple #[.agg vs,tmps.getD u undef]) W:=by
  rw [results_cell_tmp h,hp]
  simp only [asAddr,Sem.run_pure,Result.andThen,load18 hg hs]
set_option maxRecDepth 100000 in
theorem res_b {fn:Func} {p:Tmp} (h:fn.results=#[.cell p 28]) (tmps:Array Value) (W:World) {g:Nat} {vs:Array Value} {t:TypeId} (hp:tmps.getD p undef=.pointer (some ⟨g,0,none⟩))
    (hg:W.heap[g]?=some (.cells vs t (0,0))) (hs:vs.size=18):(results fn tmps).run Tryz.prog W=.ok (.agg vs) W :=
  results_cell_row h tmps W g t vs (0,0) _ hp hg Tryz.underlying28 rfl (by rw [hs];exact info_bun)
set_option maxRecDepth 100000 in
theorem res_btt {fn:Func} {p u v:Tmp} (h:fn.results=#[.cell p 28,.tmp u,.tmp v]) (tmps:Array Value) (W:World) {g:Nat} {vs:Array Value} {t:TypeId} (hp:tmps.getD p undef=.pointer (some ⟨g,0,none⟩))
    (hg:W.heap[g]?=some (.cells vs t (0,0))) (hs:vs.size=18):(results fn tmps).run Tryz.prog W=.ok (.tuple #[.agg vs,tmps.getD u undef,tmps.getD v undef]) W:=by
  have e:(results fn tmps).run Tryz.prog W=((asAddr (tmps.getD p undef)).run Tryz.prog W).andThen fun a w₁=>((loadVar 28 a).run Tryz.prog w₁).andThen fun x w₂=>.ok (.tuple #[x,tmps.getD u undef,tmps.getD v undef]) w₂:=by
    simp only [results,h]
    simp [Sem.run_bind,Result.andThen]
  rw [e,hp]
  simp only [asAddr,Sem.run_pure,Result.andThen,load18 hg hs]
set_option maxRecDepth 100000 in
theorem wpList_ld18 {w:World} {ops:Array Oper} {rest:List Oper} {o:Oper} {a:Act} {Q:Exit→Act→World→Prop} (hgd:o.guard=none) (x:Operand) (ho:o.op=.load 28 x)
    (g:Nat) (hx:a.eval x=.pointer (some ⟨g,0,none⟩)) (t:TypeId) (cs:Array Value) (hg:w.heap[g]?=some (.cells cs t (0,0))) (hs:cs.size=18) (h:wpList Tryz.prog ops Q rest (a.put o.dst (.agg cs)) w):wpList Tryz.prog ops Q (o::rest) a w :=
  wpList_load_row hgd 28 x ho g hx t cs (0,0) _ hg Tryz.underlying28 rfl (by rw [hs];exact info_bun) h
theorem row_of_box {w W:World} {c:Array Value} {t:TypeId} {g:Nat} (hg:g=w.heap.size) (h:Below (g+1) (w.alloc (.cells c t)) W):W.heap[g]?=some (.cells c t (0,0)):=by
  subst hg
  rw [h.block w.heap.size (Nat.lt_succ_self _)]
  exact heap_alloc_new w _
theorem cell_row {W:World} {g:Nat} {c:Array Value} {t:TypeId} (h:W.heap[g]?=some (.cells c t (0,0))) (j:Nat) {v:Value} (hj:c[j]?=some v):W.cell? ⟨g,j,none⟩=some v:=by
  unfold World.cell?
  rw [h]
  simpa using hj
theorem set17 {W:World} {g:Nat} {t:TypeId} {c0:Value} {c1:Value} {c2:Value} {c3:Value} {c4:Value} {c5:Value} {c6:Value} {c7:Value} {c8:Value} {c9:Value} {c10:Value} {c11:Value} {c12:Value} {c13:Value} {c14:Value} {c15:Value} {c16:Value} {c17:Value} (v:Value) (h:W.heap[g]?=some (.cells #[c0,c1,c2,c3,c4,c5,c6,c7,c8,c9,c10,c11,c12,c13,c14,c15,c16,c17] t (0,0))) :
    (W.setCell ⟨g,17,none⟩ v).heap[g]?=some (.cells #[c0,c1,c2,c3,c4,c5,c6,c7,c8,c9,c10,c11,c12,c13,c14,c15,c16,v] t (0,0)):=by
  rw [setCell_eq_setRow W g 17 #[c0,c1,c2,c3,c4,c5,c6,c7,c8,c9,c10,c11,c12,c13,c14,c15,c16,c17] t (0,0) v h]
  exact setRow_heap W g _ _ t _ h
theorem row_free {W:World} {g:Nat} {t:TypeId} {c:Array Value} (h:W.heap[g]?=some (.cells c t (0,0))) (j:Nat):W.frozen? ⟨g,j,none⟩=false:=by
  simp [World.frozen?,h]
/-! ### At a step of a region that draws its order -/
theorem exec_ld18 {ev:Operand→Value} {o:Oper} {x:Operand} (ho:o.op=.load 28 x) {g:Nat} {cs:Array Value} {t:TypeId} (hx:ev x=.pointer (some ⟨g,0,none⟩)) {W:World} (hg:W.heap[g]?=some (.cells cs t (0,0))) (hs:cs.size=18) :
    (execOp ev o).run Tryz.prog W=.ok (.value (.agg cs)) W:=by
  unfold execOp
  simp only [ho,hx,Instr.loadAt,Instr.sureAddr,Sem.run_bind,Sem.run_pure,Result.andThen_ok,load18 hg hs]
theorem step_st18 {P:Program} {w:World} {ops:Array Oper} {o:Oper} {a:Act} {K:Act→World→Prop} {Q:Exit→Act→World→Prop} {E:Prop} (hgd:o.guard=none) (ty:TypeId) (x y:Operand) (ho:o.op=.store ty x y)
    (g:Nat) {v0:Value} {v1:Value} {v2:Value} {v3:Value} {v4:Value} {v5:Value} {v6:Value} {v7:Value} {v8:Value} {v9:Value} {v10:Value} {v11:Value} {v12:Value} {v13:Value} {v14:Value} {v15:Value} {v16:Value} {v17:Value} (hx:a.eval x=.pointer (some ⟨g,0,none⟩)) (hy:a.eval y=.agg #[v0,v1,v2,v3,v4,v5,v6,v7,v8,v9,v10,v11,v12,v13,v14,v15,v16,v17]) (t:TypeId) (old:Array Value) (hg:w.heap[g]?=some (.cells old t (0,0)))
    (hi:(P.info? ty).map (·.size)=some 18) (hold:old.size=18) (h1:([v0,v1,v2,v3,v4,v5,v6,v7,v8,v9,v10,v11,v12,v13,v14,v15,v16,v17]:List Value).all (·.oneCell')=true)
    (h:∀ W',W'.heap[g]?=some (.cells #[v0,v1,v2,v3,v4,v5,v6,v7,v8,v9,v10,v11,v12,v13,v14,v15,v16,v17] t (0,0))→(∀ p:Addr,p.block≠g→W'.cell? p=w.cell? p)→(∀ (B:Nat) (w0:World),Below B w0 w→B≤g→Below B w0 W')→W'.heap.size=w.heap.size→(∀ j,j≠g→W'.heap[j]?=w.heap[j]?)→K (a.put o.dst undef) W') :
    if Region.wanted o (yielded ops a.tmps)=true then Oper.wp P o a w K Q else E:=by
  have hw:Region.wanted o (yielded ops a.tmps)=true:=by simp [Region.wanted,hgd]
  rw [if_pos hw]
  have hrow:(w.setRow g #[v0,v1,v2,v3,v4,v5,v6,v7,v8,v9,v10,v11,v12,v13,v14,v15,v16,v17]).heap[g]?=some (.cells #[v0,v1,v2,v3,v4,v5,v6,v7,v8,v9,v10,v11,v12,v13,v14,v15,v16,v17] t (0,0)):=setRow_heap w g old _ t _ hg
  exact wp_store_row ty x y ho g #[v0,v1,v2,v3,v4,v5,v6,v7,v8,v9,v10,v11,v12,v13,v14,v15,v16,v17] hx hy t old hg hi hold (Array.all_eq_true_iff_forall_mem.2 fun v hv=>List.all_eq_true.1 h1 v (by simpa using hv))
    (h _ hrow (fun p hp=>cell_setRow_other w g _ p hp) (fun B w0 hb hB=>below_setRow hb hB _) (setRow_size w g _) (fun j hj=>setRow_other w g j _ hj))
theorem takeW18 {P:Program} {md:Region.Mode} {l:List Oper} {Q:Exit→Act→World→Prop} {S:World→Prop} {i:Nat} {oi:Oper} {v:Value} {fuel:Nat} {listed:Array Bool} {a:Act} {w:World} (hi:l[i]?=some oi)
    (hs:Region.noSelect l.toArray=true) (hf:Region.free md l.toArray listed i=true) (hr:(Region.ready md l.toArray listed).contains i=true)
    (hQ:∀ c a w,Q (.panic c) (a.put oi.dst v) w→Q (.panic c) a w) (hw:Region.wanted oi (yielded l.toArray a.tmps)=true) (hy:∀ w,S w→(execOp a.eval oi).run P w=.ok (.value v) w) (hS:S w)
    (h:wpAnyH P md l.toArray Q S fuel (listed.setIfInBounds i true) (a.put oi.dst v) w):wpAnyH P md l.toArray Q S (fuel+1) listed a w :=
  wpAnyH_take (oi:=oi) (v:=v) (by simpa using hi) hs hf hr hQ (Or.inl ⟨hw,hy⟩) hS h
end Go.Proofs.YtldnokgdgafphaaGreatDoor
/- What placeOf, hasType, isSingle of layer 6 return; slices.IndexFunc over blocks. (Made by gen/bun.py.) -/
namespace Go.Proofs.YtldnokgdgafphaaGreatDoor
open Go.RowKit
def plc (p:Blk→Bool):List Blk→Nat→Int
  | [],_ => -1
  | x::r,i=>if p x=true then (i:Int) else plc p r (i+1)
theorem plc_ge (p:Blk→Bool):∀ (l:List Blk) (i:Nat),decide (0≤plc p l i)=l.any p
  | [],_=>by simp [plc]
  | x::r,i=>by
    rw [plc,List.any_cons]
    cases h:p x
    · rw [if_neg (by decide),plc_ge p r (i+1),Bool.false_or]
    · rw [if_pos rfl,Bool.true_or];simp
theorem plc_bd (p:Blk→Bool):∀ (l:List Blk) (i:Nat),-1≤plc p l i∧plc p l i<i+l.length
  | [],i=>by simp [plc];omega
  | x::r,i=>by
    rw [plc,List.length_cons]
    have:=plc_bd p r (i+1)
    split <;> omega
theorem plc_at (p:Blk→Bool) (l:List Blk) (i:Nat) (hi:i<l.length):plc p (l.drop i) i=if p (l[i]'hi)=true then (i:Int) else plc p (l.drop (i+1)) (i+1):=by
  rw [List.drop_eq_getElem_cons hi,plc]
def pNum (q:Nat) (x:Blk):Bool:=decide (x.num=q)
def pTyp (q:Nat) (x:Blk):Bool:=decide (x.typ=q)
set_option maxRecDepth 100000 in
set_option maxHeartbeats 1000000 in
theorem cl_num (x:Blk) (A:Option Addr) (nd cd g q:Nat) (w:World) (hg:w.cell? ⟨g,0,none⟩=some (.int .u64 (q:Int))) :
    Calls Tryz.prog 69 #[blkV x.typ x.num x.flg x.crc A nd cd,.pointer (some ⟨g,0,none⟩)] w fun e w'=>e=.returned (.bool (pNum q x))∧Below w.heap.size w w':=by
  have hlt:=World.block_lt_of_cell? w _ hg
  have hg1:(w.alloc (.cells #[.int .u64 (x.typ:Int),.int .u64 (x.num:Int),.int .u64 (x.flg:Int),.int .i64 x.crc,.slice A nd cd] 43)).cell? ⟨g,0,none⟩=some (.int .u64 (q:Int)):=(World.cell?_alloc_lt _ _ _ hlt).trans hg
  obtain ⟨R,hR⟩:∃ R,R=pNum q x:=⟨_,rfl⟩
  rw [← hR]
  have hr:((x.num:Int)==(q:Int))=R:=by
    rw [hR];unfold pNum
    rw [Bool.eq_iff_iff];simp
    omega
  unfold blkV
  clear hg hR hlt
  cases R with
  | true =>
    go_enter Tryz.func69,Tryz.ntmps69
    go_wp2_with fail
    go_ret
    exact ⟨rfl,(Below.refl _ _).alloc (Nat.le_refl _) _⟩
  | false =>
    go_enter Tryz.func69,Tryz.ntmps69
    go_wp2_with fail
    go_ret
    exact ⟨rfl,(Below.refl _ _).alloc (Nat.le_refl _) _⟩
set_option maxRecDepth 100000 in
set_option maxHeartbeats 4000000 in
theorem ixf_num (A:Option Addr) (n c B q g:Nat) (l:List Blk) (w:World) (h:RdL w B A n l) (hB:B≤w.heap.size) (hg:w.cell? ⟨g,0,none⟩=some (.int .u64 (q:Int))) (hlt:g<w.heap.size) :
    Calls Tryz.prog 68 #[.slice A n c,.func (.func 69) #[] #[.pointer (some ⟨g,0,none⟩)]] w fun e w'=>e=.returned (.int .i64 (plc (pNum q) l 0))∧Below w.heap.size w w':=by
  have CL:=Lib.hid (fun x A nd cd (W:World) (hb:Below w.heap.size w W)=>cl_num x A nd cd g q W ((hb.cell (p:=⟨g,0,none⟩) hlt).trans hg))
  obtain ⟨R,hR⟩:∃ R,R=plc (pNum q) l 0:=⟨_,rfl⟩
  rw [← hR]
  have HR:=Lib.hid hR
  have HH:=Lib.hid h
  have hn47:=h.2.2
  have HB0:=Lib.hid hB
  clear hR hg hlt h hB
  unfold blkV at *
  go_enter Tryz.func68,Tryz.ntmps68
  go_wp2_with fail
  go_loopw [8] (fun v wl=>∃ i:Nat,i≤n∧v=.int .i64 (i:Int)∧Hid (Below w.heap.size w wl)∧Hid (plc (pNum q) (l.drop i) i=R)) (fun v _=>n - (intOf v).toNat)
  case atStart=>exact ⟨0,Nat.zero_le _,rfl,Below.refl _ _,HR.out.symm⟩
  case round =>
    obtain ⟨i,hi,rfl,HB,HP⟩:=hrel
    by_cases hlt:i<n
    · have hil:i<l.length:=by rw [HH.out.1];exact hlt
      obtain ⟨b,o,hA,hbB,hks⟩:=HH.out.2.1 (by omega)
      obtain ⟨A1,nd,cd,hk⟩:=hks.get i hil
      have hk2:=hk.below (HB.out.mono HB0.out) hbB
      have hp:=plc_at (pNum q) l i hil
      rw [HP.out] at hp
      generalize l[i]=x at *
      have g0:=hk2.k0
      have g1:=hk2.k1
      have g2:=hk2.k2
      have g3:=hk2.k3
      have g4:=hk2.k4
      have C1:=Lib.hid (CL.out x A1 nd cd wr HB.out)
      have HPP:=Lib.hid hp
      clear hp hk hk2 hks hbB
      subst hA
      cases hv:pNum q x with
      | true =>
        rw [hv] at C1
        have e:R=(i:Int):=by rw [HPP.out,hv,if_pos rfl]
        clear HPP HP HR hv
        subst e
        go_wp2_with fail
        refine C1.out.mono ?_
        rintro e w1 ⟨rfl,hb⟩
        have HB2:=Lib.hid (HB.out.trans (hb.mono HB.out.size))
        clear hb g0 g1 g2 g3 g4
        go_wp2_with fail
        go_ret
        exact ⟨rfl,HB2.out⟩
      | false =>
        rw [hv] at C1
        have HP2:Hid (plc (pNum q) (l.drop (i+1)) (i+1)=R):=by show _=_;rw [HPP.out,hv,if_neg (by decide)]
        clear HPP HP hv
        go_wp2_with fail
        refine C1.out.mono ?_
        rintro e w1 ⟨rfl,hb⟩
        have HB2:=Lib.hid (HB.out.trans (hb.mono HB.out.size))
        clear hb g0 g1 g2 g3 g4
        go_wp2_with fail
        go_roundw
        case rel=>exact ⟨i+1,by omega,by go_num,HB2.out,HP2.out⟩
        case measure=>simp [intOf];omega
    · obtain rfl:i=n:=by omega
      have e:R = -1:=by
        rw [← HP.out,List.drop_eq_nil_of_le (by rw [HH.out.1];exact Nat.le_refl _)];rfl
      clear HP HR
      subst e
      have HBE:=Lib.hid HB.out
      go_wp2_with fail
      go_ret
      exact ⟨rfl,HBE.out⟩
set_option maxRecDepth 100000 in
set_option maxHeartbeats 1000000 in
theorem cl_typ (x:Blk) (A:Option Addr) (nd cd g q:Nat) (w:World) (hg:w.cell? ⟨g,0,none⟩=some (.int .u64 (q:Int))) :
    Calls Tryz.prog 108 #[blkV x.typ x.num x.flg x.crc A nd cd,.pointer (some ⟨g,0,none⟩)] w fun e w'=>e=.returned (.bool (pTyp q x))∧Below w.heap.size w w':=by
  have hlt:=World.block_lt_of_cell? w _ hg
  have hg1:(w.alloc (.cells #[.int .u64 (x.typ:Int),.int .u64 (x.num:Int),.int .u64 (x.flg:Int),.int .i64 x.crc,.slice A nd cd] 43)).cell? ⟨g,0,none⟩=some (.int .u64 (q:Int)):=(World.cell?_alloc_lt _ _ _ hlt).trans hg
  obtain ⟨R,hR⟩:∃ R,R=pTyp q x:=⟨_,rfl⟩
  rw [← hR]
  have hr:((x.typ:Int)==(q:Int))=R:=by
    rw [hR];unfold pTyp
    rw [Bool.eq_iff_iff];simp
    omega
  unfold blkV
  clear hg hR hlt
  cases R with
  | true =>
    go_enter Tryz.func108,Tryz.ntmps108
    go_wp2_with fail
    go_ret
    exact ⟨rfl,(Below.refl _ _).alloc (Nat.le_refl _) _⟩
  | false =>
    go_enter Tryz.func108,Tryz.ntmps108
    go_wp2_with fail
    go_ret
    exact ⟨rfl,(Below.refl _ _).alloc (Nat.le_refl _) _⟩
set_option maxRecDepth 100000 in
set_option maxHeartbeats 4000000 in
theorem ixf_typ (A:Option Addr) (n c B q g:Nat) (l:List Blk) (w:World) (h:RdL w B A n l) (hB:B≤w.heap.size) (hg:w.cell? ⟨g,0,none⟩=some (.int .u64 (q:Int))) (hlt:g<w.heap.size) :
    Calls Tryz.prog 68 #[.slice A n c,.func (.func 108) #[] #[.pointer (some ⟨g,0,none⟩)]] w fun e w'=>e=.returned (.int .i64 (plc (pTyp q) l 0))∧Below w.heap.size w w':=by
  have CL:=Lib.hid (fun x A nd cd (W:World) (hb:Below w.heap.size w W)=>cl_typ x A nd cd g q W ((hb.cell (p:=⟨g,0,none⟩) hlt).trans hg))
  obtain ⟨R,hR⟩:∃ R,R=plc (pTyp q) l 0:=⟨_,rfl⟩
  rw [← hR]
  have HR:=Lib.hid hR
  have HH:=Lib.hid h
  have hn47:=h.2.2
  have HB0:=Lib.hid hB
  clear hR hg hlt h hB
  unfold blkV at *
  go_enter Tryz.func68,Tryz.ntmps68
  go_wp2_with fail
  go_loopw [8] (fun v wl=>∃ i:Nat,i≤n∧v=.int .i64 (i:Int)∧Hid (Below w.heap.size w wl)∧Hid (plc (pTyp q) (l.drop i) i=R)) (fun v _=>n - (intOf v).toNat)
  case atStart=>exact ⟨0,Nat.zero_le _,rfl,Below.refl _ _,HR.out.symm⟩
  case round =>
    obtain ⟨i,hi,rfl,HB,HP⟩:=hrel
    by_cases hlt:i<n
    · have hil:i<l.length:=by rw [HH.out.1];exact hlt
      obtain ⟨b,o,hA,hbB,hks⟩:=HH.out.2.1 (by omega)
      obtain ⟨A1,nd,cd,hk⟩:=hks.get i hil
      have hk2:=hk.below (HB.out.mono HB0.out) hbB
      have hp:=plc_at (pTyp q) l i hil
      rw [HP.out] at hp
      generalize l[i]=x at *
      have g0:=hk2.k0
      have g1:=hk2.k1
      have g2:=hk2.k2
      have g3:=hk2.k3
      have g4:=hk2.k4
      have C1:=Lib.hid (CL.out x A1 nd cd wr HB.out)
      have HPP:=Lib.hid hp
      clear hp hk hk2 hks hbB
      subst hA
      cases hv:pTyp q x with
      | true =>
        rw [hv] at C1
        have e:R=(i:Int):=by rw [HPP.out,hv,if_pos rfl]
        clear HPP HP HR hv
        subst e
        go_wp2_with fail
        refine C1.out.mono ?_
        rintro e w1 ⟨rfl,hb⟩
        have HB2:=Lib.hid (HB.out.trans (hb.mono HB.out.size))
        clear hb g0 g1 g2 g3 g4
        go_wp2_with fail
        go_ret
        exact ⟨rfl,HB2.out⟩
      | false =>
        rw [hv] at C1
        have HP2:Hid (plc (pTyp q) (l.drop (i+1)) (i+1)=R):=by show _=_;rw [HPP.out,hv,if_neg (by decide)]
        clear HPP HP hv
        go_wp2_with fail
        refine C1.out.mono ?_
        rintro e w1 ⟨rfl,hb⟩
        have HB2:=Lib.hid (HB.out.trans (hb.mono HB.out.size))
        clear hb g0 g1 g2 g3 g4
        go_wp2_with fail
        go_roundw
        case rel=>exact ⟨i+1,by omega,by go_num,HB2.out,HP2.out⟩
        case measure=>simp [intOf];omega
    · obtain rfl:i=n:=by omega
      have e:R = -1:=by
        rw [← HP.out,List.drop_eq_nil_of_le (by rw [HH.out.1];exact Nat.le_refl _)];rfl
      clear HP HR
      subst e
      have HBE:=Lib.hid HB.out
      go_wp2_with fail
      go_ret
      exact ⟨rfl,HBE.out⟩
set_option maxRecDepth 100000 in
set_option maxHeartbeats 1000000 in
theorem place_any (A:Option Addr) (n c B q:Nat) (l:List Blk) (w:World) (h:RdL w B A n l) (hB:B≤w.heap.size) :
    Calls Tryz.prog 43 #[.slice A n c,.int .u64 (q:Int)] w fun e w'=>e=.returned (.int .i64 (plc (pNum q) l 0))∧Below w.heap.size w w':=by
  have C1:=Lib.hid (ixf_num A n c B q w.heap.size l (w.alloc (.cells #[.int .u64 (q:Int)] 22)) (h.below ((Below.refl _ _).alloc hB _)) (Nat.le_trans hB (le_alloc _ _)) (by rw [World.cell?_alloc_at _ _ _ _ rfl];rfl) (by simp))
  clear h hB
  go_enter Tryz.func43,Tryz.ntmps43
  go_wp2_with fail
  refine C1.out.mono ?_
  rintro e w1 ⟨rfl,hb⟩
  have HB:=Lib.hid (((Below.refl w.heap.size w).alloc (Nat.le_refl _) (.cells #[.int .u64 (q:Int)] 22)).trans (hb.mono (le_alloc _ _)))
  clear hb
  go_wp2_with fail
  go_ret
  exact ⟨rfl,HB.out⟩
set_option maxRecDepth 100000 in
set_option maxHeartbeats 1000000 in
theorem contains_any (A:Option Addr) (n c B q g:Nat) (l:List Blk) (w:World) (h:RdL w B A n l) (hB:B≤w.heap.size) (hg:w.cell? ⟨g,0,none⟩=some (.int .u64 (q:Int))) :
    Calls Tryz.prog 107 #[.slice A n c,.func (.func 108) #[] #[.pointer (some ⟨g,0,none⟩)]] w fun e w'=>e=.returned (.bool (l.any (pTyp q)))∧Below w.heap.size w w':=by
  have C1:=Lib.hid (ixf_typ A n c B q g l w h hB hg (World.block_lt_of_cell? w _ hg))
  have hp:=plc_ge (pTyp q) l 0
  generalize plc (pTyp q) l 0=P at *
  rw [← hp]
  clear h hB hg hp
  go_enter Tryz.func107,Tryz.ntmps107
  go_wp2_with fail
  refine C1.out.mono ?_
  rintro e w1 ⟨rfl,hb⟩
  have HB:=Lib.hid hb
  clear hb
  go_wp2_with fail
  go_ret
  exact ⟨rfl,HB.out⟩
set_option maxRecDepth 100000 in
set_option maxHeartbeats 1000000 in
theorem hastype_any (A:Option Addr) (n c B q:Nat) (l:List Blk) (w:World) (h:RdL w B A n l) (hB:B≤w.heap.size) :
    Calls Tryz.prog 79 #[.slice A n c,.int .u64 (q:Int)] w fun e w'=>e=.returned (.bool (l.any (pTyp q)))∧Below w.heap.size w w':=by
  have C1:=Lib.hid (contains_any A n c B q w.heap.size l (w.alloc (.cells #[.int .u64 (q:Int)] 22)) (h.below ((Below.refl _ _).alloc hB _)) (Nat.le_trans hB (le_alloc _ _)) (by rw [World.cell?_alloc_at _ _ _ _ rfl];rfl))
  clear h hB
  go_enter Tryz.func79,Tryz.ntmps79
  go_wp2_with fail
  refine C1.out.mono ?_
  rintro e w1 ⟨rfl,hb⟩
  have HB:=Lib.hid (((Below.refl w.heap.size w).alloc (Nat.le_refl _) (.cells #[.int .u64 (q:Int)] 22)).trans (hb.mono (le_alloc _ _)))
  clear hb
  go_wp2_with fail
  go_ret
  exact ⟨rfl,HB.out⟩
set_option maxRecDepth 100000 in
set_option maxHeartbeats 1000000 in
theorem single_any (q:Nat) (w:World):Calls Tryz.prog 78 #[.int .u64 (q:Int)] w fun e w'=>e=.returned (.bool (singB q))∧w=w':=by
  have hs:singB q=(decide ((q:Int)=10)||(decide ((q:Int)=7)||decide ((q:Int)=6))):=by
    unfold singB
    rw [Bool.eq_iff_iff]
    simp only [Bool.or_eq_true,decide_eq_true_eq]
    omega
  rw [hs]
  clear hs
  generalize (q:Int)=Q
  by_cases h1:Q=10
  · subst h1
    go_enter Tryz.func78,Tryz.ntmps78
    go_wp2_with fail
    go_ret
    exact ⟨rfl,rfl⟩
  · have e1:(Q==10)=false:=by simpa using h1
    have d1:decide (Q=10)=false:=by simpa using h1
    rw [d1]
    clear d1 h1
    by_cases h2:Q=7
    · subst h2
      go_enter Tryz.func78,Tryz.ntmps78
      go_wp2_with fail
      go_ret
      exact ⟨rfl,rfl⟩
    · have e2:(Q==7)=false:=by simpa using h2
      have d2:decide (Q=7)=false:=by simpa using h2
      rw [d2]
      clear d2 h2
      have d3:decide (Q=6)=(Q==6):=by rw [Bool.eq_iff_iff];simp
      rw [d3]
      clear d3
      go_enter Tryz.func78,Tryz.ntmps78
      go_wp2_with fail
      go_ret
      exact ⟨by simp,rfl⟩
end Go.Proofs.YtldnokgdgafphaaGreatDoor
/- What Same of the references of layers 5 and 6 return, of what is one. (Made by gen/bun.py.) -/
namespace Go.Proofs.YtldnokgdgafphaaGreatDoor
open Go.RowKit
set_option maxRecDepth 100000 in
set_option maxHeartbeats 2000000 in
theorem rsameB_true (t n f:Nat) (c:Int) (A A':Option Addr) (nd cd cd' B:Nat) (d:List UInt8) (w:World) (hB:B≤w.heap.size) (h:Rd w B A nd d) (h':Rd w B A' nd d) :
    Calls Tryz.prog 44 #[blkV t n f c A nd cd,blkV t n f c A' nd cd'] w fun e w'=>e=.returned (.bool true)∧Below w.heap.size w w':=by
  have hb:=((Below.refl w.heap.size w).alloc (Nat.le_refl _) (.cells #[.int .u64 (t:Int),.int .u64 (n:Int),.int .u64 (f:Int),.int .i64 c,.slice A nd cd] 43)).alloc (le_alloc _ _) (.cells #[.int .u64 (t:Int),.int .u64 (n:Int),.int .u64 (f:Int),.int .i64 c,.slice A' nd cd'] 43)
  have C1:=Lib.hid (same_true A A' nd cd nd cd' B B d _ (h.below (hb.mono hB)) (h'.below (hb.mono hB)))
  have HB:=Lib.hid hb
  clear hb h h' hB
  unfold blkV
  generalize (t:Int)=T at *
  generalize (n:Int)=N at *
  generalize (f:Int)=F at *
  go_enter Tryz.func44,Tryz.ntmps44
  go_wp2_with fail
  refine C1.out.mono ?_
  rintro e w1 ⟨rfl,rfl⟩
  go_wp2_with fail
  go_ret
  exact ⟨rfl,HB.out⟩
theorem neq_eid_self (sc:Int) (s:ByteArray) (n v:Int) (w:World):(binOp .neq 25 (.agg #[.int .i64 sc,.string s,.int .u64 n,.int .u64 v]) (.agg #[.int .i64 sc,.string s,.int .u64 n,.int .u64 v])).run Tryz.prog w=.ok (.bool false) w:=by
  go_simp
set_option maxRecDepth 100000 in
set_option maxHeartbeats 16000000 in
theorem rsameU_true (h:BH) (l:List Blk) (A A':Option Addr) (n c c' B:Nat) (w:World) (hr:RdL w B A n l) (hr':RdL w B A' n l) (hB:B≤w.heap.size) :
    Calls Tryz.prog 22 #[bunV h A n c,bunV h A' n c'] w fun e w'=>e=.returned (.bool true)∧Below w.heap.size w w':=by
  have HB0:=Lib.hid (((Below.refl w.heap.size w).alloc (Nat.le_refl _) (.cells #[.int .u64 (h.flg:Int),.int .i64 h.crc,.int .i64 h.dsc,.string h.dnm,.int .u64 (h.dn:Int),.int .u64 (h.dv:Int),.int .i64 h.ssc,.string h.snm,.int .u64 (h.sn:Int),.int .u64 (h.sv:Int),.int .i64 h.rsc,.string h.rnm,.int .u64 (h.rn:Int),.int .u64 (h.rv:Int),.int .u64 (h.tim:Int),.int .u64 (h.seq:Int),.int .u64 (h.lif:Int),.slice A n c] 28)).alloc (le_alloc _ _) (.cells #[.int .u64 (h.flg:Int),.int .i64 h.crc,.int .i64 h.dsc,.string h.dnm,.int .u64 (h.dn:Int),.int .u64 (h.dv:Int),.int .i64 h.ssc,.string h.snm,.int .u64 (h.sn:Int),.int .u64 (h.sv:Int),.int .i64 h.rsc,.string h.rnm,.int .u64 (h.rn:Int),.int .u64 (h.rv:Int),.int .u64 (h.tim:Int),.int .u64 (h.seq:Int),.int .u64 (h.lif:Int),.slice A' n c'] 28))
  have HW0:Hid (Below (w.heap.size+2) ((w.alloc (.cells #[.int .u64 (h.flg:Int),.int .i64 h.crc,.int .i64 h.dsc,.string h.dnm,.int .u64 (h.dn:Int),.int .u64 (h.dv:Int),.int .i64 h.ssc,.string h.snm,.int .u64 (h.sn:Int),.int .u64 (h.sv:Int),.int .i64 h.rsc,.string h.rnm,.int .u64 (h.rn:Int),.int .u64 (h.rv:Int),.int .u64 (h.tim:Int),.int .u64 (h.seq:Int),.int .u64 (h.lif:Int),.slice A n c] 28)).alloc (.cells #[.int .u64 (h.flg:Int),.int .i64 h.crc,.int .i64 h.dsc,.string h.dnm,.int .u64 (h.dn:Int),.int .u64 (h.dv:Int),.int .i64 h.ssc,.string h.snm,.int .u64 (h.sn:Int),.int .u64 (h.sv:Int),.int .i64 h.rsc,.string h.rnm,.int .u64 (h.rn:Int),.int .u64 (h.rv:Int),.int .u64 (h.tim:Int),.int .u64 (h.seq:Int),.int .u64 (h.lif:Int),.slice A' n c'] 28)) ((w.alloc (.cells #[.int .u64 (h.flg:Int),.int .i64 h.crc,.int .i64 h.dsc,.string h.dnm,.int .u64 (h.dn:Int),.int .u64 (h.dv:Int),.int .i64 h.ssc,.string h.snm,.int .u64 (h.sn:Int),.int .u64 (h.sv:Int),.int .i64 h.rsc,.string h.rnm,.int .u64 (h.rn:Int),.int .u64 (h.rv:Int),.int .u64 (h.tim:Int),.int .u64 (h.seq:Int),.int .u64 (h.lif:Int),.slice A n c] 28)).alloc (.cells #[.int .u64 (h.flg:Int),.int .i64 h.crc,.int .i64 h.dsc,.string h.dnm,.int .u64 (h.dn:Int),.int .u64 (h.dv:Int),.int .i64 h.ssc,.string h.snm,.int .u64 (h.sn:Int),.int .u64 (h.sv:Int),.int .i64 h.rsc,.string h.rnm,.int .u64 (h.rn:Int),.int .u64 (h.rv:Int),.int .u64 (h.tim:Int),.int .u64 (h.seq:Int),.int .u64 (h.lif:Int),.slice A' n c'] 28))):=Below.refl _ _
  have HS0:Hid (((w.alloc (.cells #[.int .u64 (h.flg:Int),.int .i64 h.crc,.int .i64 h.dsc,.string h.dnm,.int .u64 (h.dn:Int),.int .u64 (h.dv:Int),.int .i64 h.ssc,.string h.snm,.int .u64 (h.sn:Int),.int .u64 (h.sv:Int),.int .i64 h.rsc,.string h.rnm,.int .u64 (h.rn:Int),.int .u64 (h.rv:Int),.int .u64 (h.tim:Int),.int .u64 (h.seq:Int),.int .u64 (h.lif:Int),.slice A n c] 28)).alloc (.cells #[.int .u64 (h.flg:Int),.int .i64 h.crc,.int .i64 h.dsc,.string h.dnm,.int .u64 (h.dn:Int),.int .u64 (h.dv:Int),.int .i64 h.ssc,.string h.snm,.int .u64 (h.sn:Int),.int .u64 (h.sv:Int),.int .i64 h.rsc,.string h.rnm,.int .u64 (h.rn:Int),.int .u64 (h.rv:Int),.int .u64 (h.tim:Int),.int .u64 (h.seq:Int),.int .u64 (h.lif:Int),.slice A' n c'] 28)).heap.size=w.heap.size+2):=by show _=_;simp
  have HX1:=Lib.hid (fun (W:World) (hb:Below (w.heap.size+2) ((w.alloc (.cells #[.int .u64 (h.flg:Int),.int .i64 h.crc,.int .i64 h.dsc,.string h.dnm,.int .u64 (h.dn:Int),.int .u64 (h.dv:Int),.int .i64 h.ssc,.string h.snm,.int .u64 (h.sn:Int),.int .u64 (h.sv:Int),.int .i64 h.rsc,.string h.rnm,.int .u64 (h.rn:Int),.int .u64 (h.rv:Int),.int .u64 (h.tim:Int),.int .u64 (h.seq:Int),.int .u64 (h.lif:Int),.slice A n c] 28)).alloc (.cells #[.int .u64 (h.flg:Int),.int .i64 h.crc,.int .i64 h.dsc,.string h.dnm,.int .u64 (h.dn:Int),.int .u64 (h.dv:Int),.int .i64 h.ssc,.string h.snm,.int .u64 (h.sn:Int),.int .u64 (h.sv:Int),.int .i64 h.rsc,.string h.rnm,.int .u64 (h.rn:Int),.int .u64 (h.rv:Int),.int .u64 (h.tim:Int),.int .u64 (h.seq:Int),.int .u64 (h.lif:Int),.slice A' n c'] 28)) W)=>cell_row (row_of_box (w:=w) (g:=w.heap.size) rfl (((Below.refl (w.heap.size+1) (w.alloc (.cells #[.int .u64 (h.flg:Int),.int .i64 h.crc,.int .i64 h.dsc,.string h.dnm,.int .u64 (h.dn:Int),.int .u64 (h.dv:Int),.int .i64 h.ssc,.string h.snm,.int .u64 (h.sn:Int),.int .u64 (h.sv:Int),.int .i64 h.rsc,.string h.rnm,.int .u64 (h.rn:Int),.int .u64 (h.rv:Int),.int .u64 (h.tim:Int),.int .u64 (h.seq:Int),.int .u64 (h.lif:Int),.slice A n c] 28))).alloc (by simp) (.cells #[.int .u64 (h.flg:Int),.int .i64 h.crc,.int .i64 h.dsc,.string h.dnm,.int .u64 (h.dn:Int),.int .u64 (h.dv:Int),.int .i64 h.ssc,.string h.snm,.int .u64 (h.sn:Int),.int .u64 (h.sv:Int),.int .i64 h.rsc,.string h.rnm,.int .u64 (h.rn:Int),.int .u64 (h.rv:Int),.int .u64 (h.tim:Int),.int .u64 (h.seq:Int),.int .u64 (h.lif:Int),.slice A' n c'] 28)).trans (hb.mono (Nat.le_succ _)))) 17 rfl)
  have HX2:=Lib.hid (fun (W:World) (hb:Below (w.heap.size+2) ((w.alloc (.cells #[.int .u64 (h.flg:Int),.int .i64 h.crc,.int .i64 h.dsc,.string h.dnm,.int .u64 (h.dn:Int),.int .u64 (h.dv:Int),.int .i64 h.ssc,.string h.snm,.int .u64 (h.sn:Int),.int .u64 (h.sv:Int),.int .i64 h.rsc,.string h.rnm,.int .u64 (h.rn:Int),.int .u64 (h.rv:Int),.int .u64 (h.tim:Int),.int .u64 (h.seq:Int),.int .u64 (h.lif:Int),.slice A n c] 28)).alloc (.cells #[.int .u64 (h.flg:Int),.int .i64 h.crc,.int .i64 h.dsc,.string h.dnm,.int .u64 (h.dn:Int),.int .u64 (h.dv:Int),.int .i64 h.ssc,.string h.snm,.int .u64 (h.sn:Int),.int .u64 (h.sv:Int),.int .i64 h.rsc,.string h.rnm,.int .u64 (h.rn:Int),.int .u64 (h.rv:Int),.int .u64 (h.tim:Int),.int .u64 (h.seq:Int),.int .u64 (h.lif:Int),.slice A' n c'] 28)) W)=>cell_row (row_of_box (w:=w.alloc (.cells #[.int .u64 (h.flg:Int),.int .i64 h.crc,.int .i64 h.dsc,.string h.dnm,.int .u64 (h.dn:Int),.int .u64 (h.dv:Int),.int .i64 h.ssc,.string h.snm,.int .u64 (h.sn:Int),.int .u64 (h.sv:Int),.int .i64 h.rsc,.string h.rnm,.int .u64 (h.rn:Int),.int .u64 (h.rv:Int),.int .u64 (h.tim:Int),.int .u64 (h.seq:Int),.int .u64 (h.lif:Int),.slice A n c] 28)) (g:=w.heap.size+1) (by simp) hb) 17 rfl)
  have HR:=Lib.hid (And.intro hr (And.intro hr' hB))
  have n1:=fun W=>neq_eid_self h.dsc h.dnm (h.dn:Int) (h.dv:Int) W
  have n2:=fun W=>neq_eid_self h.ssc h.snm (h.sn:Int) (h.sv:Int) W
  have n3:=fun W=>neq_eid_self h.rsc h.rnm (h.rn:Int) (h.rv:Int) W
  have hn47:=hr.2.2
  clear hr hr' hB
  unfold bunV
  go_enter Tryz.func22,Tryz.ntmps22
  go_wp2_with fail
  go_loopw [5] (fun v wr=>∃ i:Nat,i≤n∧v=.int .i64 (i:Int)∧Hid (Below (w.heap.size+2) ((w.alloc (.cells #[.int .u64 (h.flg:Int),.int .i64 h.crc,.int .i64 h.dsc,.string h.dnm,.int .u64 (h.dn:Int),.int .u64 (h.dv:Int),.int .i64 h.ssc,.string h.snm,.int .u64 (h.sn:Int),.int .u64 (h.sv:Int),.int .i64 h.rsc,.string h.rnm,.int .u64 (h.rn:Int),.int .u64 (h.rv:Int),.int .u64 (h.tim:Int),.int .u64 (h.seq:Int),.int .u64 (h.lif:Int),.slice A n c] 28)).alloc (.cells #[.int .u64 (h.flg:Int),.int .i64 h.crc,.int .i64 h.dsc,.string h.dnm,.int .u64 (h.dn:Int),.int .u64 (h.dv:Int),.int .i64 h.ssc,.string h.snm,.int .u64 (h.sn:Int),.int .u64 (h.sv:Int),.int .i64 h.rsc,.string h.rnm,.int .u64 (h.rn:Int),.int .u64 (h.rv:Int),.int .u64 (h.tim:Int),.int .u64 (h.seq:Int),.int .u64 (h.lif:Int),.slice A' n c'] 28)) wr)) (fun v _=>n - (intOf v).toNat)
  case atStart=>exact ⟨0,Nat.zero_le _,rfl,HW0.out⟩
  case round =>
    obtain ⟨i,hi,rfl,HB⟩:=hrel
    have hBw:Hid (Below w.heap.size w wr):=HB0.out.trans (HB.out.mono (Nat.le_add_right _ 2))
    by_cases hlt:i<n
    · have hil:i<l.length:=by rw [HR.out.1.1];exact hlt
      have hii:(i:Int)<(n:Int):=by omega
      obtain ⟨b,o,hA,hbB,hks⟩:=HR.out.1.2.1 (by omega)
      obtain ⟨b',o',hA',hbB',hks'⟩:=HR.out.2.1.2.1 (by omega)
      obtain ⟨A1,nd,cd,hk⟩:=hks.get i hil
      obtain ⟨A2,nd2,cd2,hk'⟩:=hks'.get i hil
      generalize l[i]=x at *
      obtain rfl:nd=nd2:=hk.rd.1.symm.trans hk'.rd.1
      have HKK:=Lib.hid (And.intro hk (And.intro hk' (And.intro hbB hbB')))
      subst hA hA'
      have hS:∀ W,Below wr.heap.size wr W→W.cell? ⟨w.heap.size,17,none⟩=some (.slice (some ⟨b,o,none⟩) n c)∧W.cell? ⟨w.heap.size+1,17,none⟩=some (.slice (some ⟨b',o',none⟩) n c')∧(W.cell? ⟨b,o+i * 5,none⟩=some (.int .u64 (x.typ:Int))∧W.cell? ⟨b,o+i * 5+1,none⟩=some (.int .u64 (x.num:Int))∧W.cell? ⟨b,o+i * 5+2,none⟩=some (.int .u64 (x.flg:Int))∧W.cell? ⟨b,o+i * 5+3,none⟩=some (.int .i64 x.crc)∧W.cell? ⟨b,o+i * 5+4,none⟩=some (.slice A1 nd cd))∧(W.cell? ⟨b',o'+i * 5,none⟩=some (.int .u64 (x.typ:Int))∧W.cell? ⟨b',o'+i * 5+1,none⟩=some (.int .u64 (x.num:Int))∧W.cell? ⟨b',o'+i * 5+2,none⟩=some (.int .u64 (x.flg:Int))∧W.cell? ⟨b',o'+i * 5+3,none⟩=some (.int .i64 x.crc)∧W.cell? ⟨b',o'+i * 5+4,none⟩=some (.slice A2 nd cd2)):=fun W hW=>by
        have hb1:=Below.push HB.out (Nat.le_of_eq HS0.out.symm) hW
        have hbw:=hBw.out.trans (hW.mono hBw.out.size)
        have h1:=HKK.out.1.below (hbw.mono HR.out.2.2) HKK.out.2.2.1
        have h2:=HKK.out.2.1.below (hbw.mono HR.out.2.2) HKK.out.2.2.2
        exact ⟨HX1.out W hb1,HX2.out W hb1,⟨h1.k0,h1.k1,h1.k2,h1.k3,h1.k4⟩,⟨h2.k0,h2.k1,h2.k2,h2.k3,h2.k4⟩⟩
      have HSS:=Lib.hid hS
      have CS:=Lib.hid (fun (W:World) (hW:Below wr.heap.size wr W)=>rsameB_true x.typ x.num x.flg x.crc A1 A2 nd cd cd2 B x.dat W (Nat.le_trans HR.out.2.2 (hBw.out.trans (hW.mono hBw.out.size)).size) (HKK.out.1.rd.below ((hBw.out.trans (hW.mono hBw.out.size)).mono HR.out.2.2)) (HKK.out.2.1.rd.below ((hBw.out.trans (hW.mono hBw.out.size)).mono HR.out.2.2)))
      have x17:=(hS wr (Below.refl _ _)).1
      clear hk hk' hks hks' hbB hbB' hS
      unfold blkV at *
      go_wp2_with fail
      clear x17
      go_region_held3 (fun W=>W.cell? ⟨w.heap.size,17,none⟩=some (.slice (some ⟨b,o,none⟩) n c)∧W.cell? ⟨w.heap.size+1,17,none⟩=some (.slice (some ⟨b',o',none⟩) n c')∧(W.cell? ⟨b,o+i * 5,none⟩=some (.int .u64 (x.typ:Int))∧W.cell? ⟨b,o+i * 5+1,none⟩=some (.int .u64 (x.num:Int))∧W.cell? ⟨b,o+i * 5+2,none⟩=some (.int .u64 (x.flg:Int))∧W.cell? ⟨b,o+i * 5+3,none⟩=some (.int .i64 x.crc)∧W.cell? ⟨b,o+i * 5+4,none⟩=some (.slice A1 nd cd))∧(W.cell? ⟨b',o'+i * 5,none⟩=some (.int .u64 (x.typ:Int))∧W.cell? ⟨b',o'+i * 5+1,none⟩=some (.int .u64 (x.num:Int))∧W.cell? ⟨b',o'+i * 5+2,none⟩=some (.int .u64 (x.flg:Int))∧W.cell? ⟨b',o'+i * 5+3,none⟩=some (.int .i64 x.crc)∧W.cell? ⟨b',o'+i * 5+4,none⟩=some (.slice A2 nd cd2)))
        (first | (with_reducible exact HSS.out _ D2.out) | (with_reducible exact HSS.out _ Below.drew_) | (with_reducible exact HSS.out _ (Below.refl _ _)) | fail)
        (first
          | (go_at_call 44;refine (CS.out _ Below.drew_).mono ?_;rintro e w2 ⟨rfl,hb2⟩;have D2:Hid (Below wr.heap.size wr w2):=Below.drew_.trans hb2;clear hb2)
          | fail)
      have HB2:=Lib.hid (Below.push HB.out (Nat.le_of_eq HS0.out.symm) D2.out)
      go_wp2_with fail
      go_roundw
      case rel=>exact ⟨i+1,by omega,by go_num,HB2.out⟩
      case measure=>simp [intOf];omega
    · obtain rfl:i=n:=by omega
      have x17:=HX1.out _ HB.out
      have hii:decide ((i:Int)<(i:Int))=false:=decide_eq_false (by omega)
      go_wp2_with fail
      go_ret
      exact ⟨rfl,hBw.out⟩
end Go.Proofs.YtldnokgdgafphaaGreatDoor
/- What Find of layer 6's reference returns. (Made by gen/bun.py.) -/
namespace Go.Proofs.YtldnokgdgafphaaGreatDoor
open Go.RowKit
set_option maxRecDepth 100000 in
set_option maxHeartbeats 4000000 in
theorem rfindU_any (h:BH) (l:List Blk) (A:Option Addr) (n c B q:Nat) (w:World) (hr:RdL w B A n l) (hB:B≤w.heap.size) :
    Calls Tryz.prog 24 #[bunV h A n c,.int .u64 (q:Int)] w fun e w'=>e=.returned (.int .i64 (plc (pNum q) l 0))∧Below w.heap.size w w':=by
  obtain ⟨R,hR⟩:∃ R,R=plc (pNum q) l 0:=⟨_,rfl⟩
  rw [← hR]
  have HRR:Hid (plc (pNum q) (l.drop 0) 0=R):=hR.symm
  have HB0:=Lib.hid ((Below.refl w.heap.size w).alloc (Nat.le_refl _) (.cells #[.int .u64 (h.flg:Int),.int .i64 h.crc,.int .i64 h.dsc,.string h.dnm,.int .u64 (h.dn:Int),.int .u64 (h.dv:Int),.int .i64 h.ssc,.string h.snm,.int .u64 (h.sn:Int),.int .u64 (h.sv:Int),.int .i64 h.rsc,.string h.rnm,.int .u64 (h.rn:Int),.int .u64 (h.rv:Int),.int .u64 (h.tim:Int),.int .u64 (h.seq:Int),.int .u64 (h.lif:Int),.slice A n c] 28))
  have x17:(w.alloc (.cells #[.int .u64 (h.flg:Int),.int .i64 h.crc,.int .i64 h.dsc,.string h.dnm,.int .u64 (h.dn:Int),.int .u64 (h.dv:Int),.int .i64 h.ssc,.string h.snm,.int .u64 (h.sn:Int),.int .u64 (h.sv:Int),.int .i64 h.rsc,.string h.rnm,.int .u64 (h.rn:Int),.int .u64 (h.rv:Int),.int .u64 (h.tim:Int),.int .u64 (h.seq:Int),.int .u64 (h.lif:Int),.slice A n c] 28)).cell? ⟨w.heap.size,17,none⟩=some (.slice A n c):=cell_row (row_of_box (w:=w) rfl (Below.refl _ _)) 17 rfl
  have HR:=Lib.hid (hr.below (HB0.out.mono hB))
  have hn47:=hr.2.2
  clear hr hB hR
  unfold bunV
  go_enter Tryz.func24,Tryz.ntmps24
  go_wp2_with fail
  generalize w.alloc (.cells #[.int .u64 (h.flg:Int),.int .i64 h.crc,.int .i64 h.dsc,.string h.dnm,.int .u64 (h.dn:Int),.int .u64 (h.dv:Int),.int .i64 h.ssc,.string h.snm,.int .u64 (h.sn:Int),.int .u64 (h.sv:Int),.int .i64 h.rsc,.string h.rnm,.int .u64 (h.rn:Int),.int .u64 (h.rv:Int),.int .u64 (h.tim:Int),.int .u64 (h.seq:Int),.int .u64 (h.lif:Int),.slice A n c] 28)=W0 at *
  go_loop [5] (fun v=>∃ i:Nat,i≤n∧v=.int .i64 (i:Int)∧Hid (plc (pNum q) (l.drop i) i=R)) (fun v=>n - (intOf v).toNat)
  case atStart=>exact ⟨0,Nat.zero_le _,rfl,HRR⟩
  case round =>
    obtain ⟨i,hi,rfl,HP⟩:=hrel
    by_cases hlt:i<n
    · have hii:decide ((i:Int)<(n:Int))=true:=decide_eq_true (by omega)
      have hi1:(i:Int)<(n:Int):=by omega
      have hil:i<l.length:=by rw [HR.out.1];exact hlt
      have hp:=plc_at (pNum q) l i hil
      rw [HP.out] at hp
      obtain ⟨b,o,rfl,hbB,hks⟩:=HR.out.2.1 (by omega)
      obtain ⟨A1,nd,cd,hk⟩:=hks.get i hil
      have g1:=hk.k1
      generalize l[i]=x at *
      clear hk hks hbB
      by_cases hq:x.num=q
      · have hz:R=(i:Int):=by rw [hp,if_pos (by unfold pNum;simp [hq])]
        subst hz
        subst hq
        clear hp
        go_wp2_with fail
        go_ret
        exact ⟨rfl,HB0.out⟩
      · have hqq:((x.num:Int)==(q:Int))=false:=by rw [beq_eq_false_iff_ne];omega
        have HP2:Hid (plc (pNum q) (l.drop (i+1)) (i+1)=R):=by show _=_;rw [hp,if_neg (by unfold pNum;simp [hq])]
        clear hp
        go_wp2_with fail
        go_round
        case rel=>exact ⟨i+1,by omega,by go_num,HP2⟩
        case measure=>simp [intOf];omega
    · obtain rfl:i=n:=by omega
      have hii:decide ((i:Int)<(i:Int))=false:=decide_eq_false (by omega)
      have hz:R = -1:=by
        rw [← HP.out,List.drop_of_length_le (by rw [HR.out.1];exact Nat.le_refl _)]
        rfl
      subst hz
      go_wp2_with fail
      go_ret
      exact ⟨rfl,HB0.out⟩
end Go.Proofs.YtldnokgdgafphaaGreatDoor
