import Derived.Test.YtbnfkjkoinbkgaaGreatDoorVAbb
import Derived.Test.YtbnfkjkoinbkgaaGreatDoorVNumG
import Derived.Test.YtbnfkjkoinbkgaaGreatDoorVShaB
import Derived.Deep.RegionHeld3
import Derived.Laws.CopyOwn
import Derived.IntWalk
import Derived.Deep.QuietTactic
namespace Go.Proofs.YtbnfkjkoinbkgaaGreatDoor
set_option maxRecDepth 100000
set_option maxHeartbeats 16000000
open Go.RowKit
open Go.Lib (hid)
theorem Rd.mid{w:World}{B n i j:Nat}{A:OA}{l:LB}(h:Rd w B A n l)(hij:i≤j)(hj:j≤n):Rd w B (A.map (·.add i)) (j - i) ((l.drop i).take (j - i)) :=
 (h.cut (k:=i)).take (by omega)
theorem Qv2{P:Program}{w:World}{B n:Nat}{A:OA}{l:LB}(t e:TypeId)(ht:P.underlying t=some (.slice e))(hz:∀ W:World,(sizeOf e).run P W=.ok 1 W)(c:Nat)(h:Rd w B A n l)(x y:Int)(i j:Nat)(hx:x=(i:Int))(hy:y=(j:Int))(hij:i<j)(hj:j≤n)(hc:n≤c) :
  ∃ A' c',(∀ W:World,(Instr.slice t (.slice A n c) (some (.int .i64 x)) (some (.int .i64 y)) none).run P W=.ok (.slice A' (j - i) c') W)∧j - i≤c'∧c'≤c∧Rd w B A' (j - i) ((l.drop i).take (j - i)):=by
 subst hx hy;refine⟨A.map (·.add i),c - i,fun W=>?_,by omega,by omega,h.mid (by omega) hj⟩;have h1:¬ c=i:=by omega
 have h2:j≤c:=by omega
 have h3:i≤j:=by omega
 go_simp
theorem Qzq(b:LB)(k j:Nat):(wL b (k+1)).getD j 0=if j=k then wnx b (wL b k) k else (wL b k).getD j 0:=by
 have hl:=Qbt b k;by_cases h:j=k
 ·
  subst h;rw[if_pos rfl,wL]
  simp[List.getD,hl]
 ·
  rw[if_neg h,wL]
  rcases Nat.lt_or_ge j k with h1|h1
  ·
   simp[List.getD,List.getElem?_append_left (show j<(wL b k).length by omega)]
  ·
   simp[List.getD,List.getElem?_eq_none (l:=wL b k) (i:=j) (by omega),List.getElem?_eq_none (l:=wL b k++[wnx b (wL b k) k]) (i:=j) (by simp[hl];omega)]
def WRow(w:World)(g:Nat)(t:TypeId)(b:LB)(k:Nat):Prop:=w.rowIs g t 64 (fun j=>.int .u32 (((wL b k).getD j 0).toNat:Int))
theorem WRow.push{w:World}{g:Nat}{t:TypeId}{b:LB}{k:Nat}(h:WRow w g t b k){v:Value}(hv:v=.int .u32 ((wnx b (wL b k) k).toNat:Int)):WRow (w.setCell ⟨g,k,none⟩ v) g t b (k+1):=by
 subst hv;refine(World.rowIs.set h k _).congr fun j _=>?_
 rw[Qzq]
 split <;> rfl
theorem Qri(w:World)(t:TypeId)(n:Nat)(z:Value):(w.alloc (.cells (Array.replicate n z) t)).rowIs w.heap.size t n (fun _=>z):=by
 have h:=World.rowIs_alloc w (Array.replicate n z) t (fun _=>z) (fun i hi=>by
  have hi':i<n:=by simpa using hi
  simp[hi'])
 rwa[Array.size_replicate] at h
theorem Qh5{w:World}{g n:Nat}{t:TypeId}{l:List (BitVec 32)}(hl:l.length=n)(h:w.rowIs g t n (fun j=>.int .u32 ((l.getD j 0).toNat:Int))):w.heap[g]?=some (.cells (wc l).toArray t (0,0)):=by
 obtain⟨c,hb,hs,hc⟩:=h;have e:c=(wc l).toArray:=by
  apply Array.ext_getElem?;intro i;rcases Nat.lt_or_ge i n with hi|hi
  ·
   rw[hc i hi,Qy6 l i (by omega)]
  ·
   rw[Array.getElem?_eq_none (by omega),Array.getElem?_eq_none (by rw[List.size_toArray,Qcd];omega)]
 rw[hb,e]
theorem Q2c(N:Nat):Value.int .u32 ((N:Int) % 4294967296)=.int .u32 ((BitVec.ofNat 32 N).toNat:Int):=by
 rw[BitVec.toNat_ofNat];rfl
theorem Qy4(b:LB)(l:List (BitVec 32))(k:Nat)(h:k<16):wnx b l k=BitVec.ofNat 32 (Qc3 ((b.drop (4*k)).take 4)):=by unfold wnx;rw[if_pos h]
theorem Qy5(b:LB)(l:List (BitVec 32))(k:Nat)(h:¬ k<16):wnx b l k=l.getD (k - 16) 0+tT (l.getD (k - 15) 0) 7 18 3+l.getD (k - 7) 0+tT (l.getD (k - 2) 0) 17 19 10:=by unfold wnx;rw[if_neg h]
theorem Qhp(B:Nat)(w:World)(k:Nat):Below B w (w.drewN k):=⟨rfl,rfl,rfl,Nat.le_refl _,fun _ _=>rfl⟩
theorem Qsj(A:OA)(c B:Nat)(b:LB)(w:World)(hr:Rd w B A 64 b)(hB:B≤w.heap.size)(hc:64≤c)(hc2:c≤9223372036854775807) :
  Calls Tryz.prog 170 #[.slice A 64 c] w fun e w'=>e=.returned (.agg (wc (wL b 64)).toArray)∧Below w.heap.size w w':=by
 have HR:=hid hr;have HB:=hid hB;clear hr hB;go_enter Tryz.func170,Tryz.ntmps170;go_wp2_with (first
  | (refine Qcc rfl 242 rfl _ Qht ?_)
  | fail)
 go_loopw [5] (fun i wr=>∃ k:Nat,k≤64∧i=.int .i64 k∧Hid (WRow wr (w.heap.size+1) 242 b k)∧Hid (wr.heap[w.heap.size]?=some (.cells (Array.replicate 64 (.int .u32 0)) 242 (0,0)))∧Hid (Below w.heap.size w wr))
  (fun i _=>64 - (intOf i).toNat)
 case atStart =>
  refine⟨0,by omega,rfl,?_,?_,zb.alloc (by simp) _⟩
  ·
   have h:=Qri (w.alloc (.cells (Array.replicate 64 (.int .u32 0)) 242)) 242 64 (.int .u32 0);have e:(w.alloc (.cells (Array.replicate 64 (.int .u32 0)) 242)).heap.size=w.heap.size+1:=by simp
   rw[e] at h
   exact h.congr fun j _=>by simp[wL]
  ·
   exact((Below.refl (w.heap.size+1) (w.alloc (.cells (Array.replicate 64 (.int .u32 0)) 242))).alloc (by simp) _).block w.heap.size (by omega) |>.trans (heap_alloc_new w _)
 case round =>
  obtain⟨k,hk,rfl,hrow,hres,hbel⟩:=hrel;by_cases hlt:k<64
  ·
   have hf1:wr.frozen? ⟨w.heap.size+1,k,none⟩=false:=World.rowIs.frozen hrow.out _;have hc1:wr.cell? ⟨w.heap.size+1,k,none⟩=some _:=World.rowIs.cell hrow.out hlt;by_cases h16:k<16
   ·
    obtain⟨A',c',hsl,hc',hc'',hr'⟩:=Qv2 (P:=Tryz.prog) 29 5 rfl Qdc c (HR.out.below (hbel.out.mono HB.out)) (4*(k:Int)) (4*((k:Int)+1)) (4*k) (4*k+4) (by omega) (by omega) (by omega) (by omega) hc;rw[show 4*k+4 - 4*k=4 by omega] at hr' hsl hc'
    have C:=hid (Qvm A' 4 c' _ wr B hr' (by omega) hc' (by omega));have hw:=hid (Qy4 b (wL b k) k h16);clear hr';go_wp2_with fail;refine C.out.mono ?_;rintro e w1 ⟨rfl,rfl⟩;go_wp2_with fail;go_roundw
    case rel =>
     refine⟨k+1,by omega,by go_num,WRow.push hrow.out ?_,?_,hbel.out.setCell (by simp) _⟩
     ·
      rw[hw.out];exact Q2c _
     ·
      exact(heap_setCell_other _ _ _ _ (by simp)).trans hres.out
    case measure=>simp[intOf];omega
   ·
    have hrw:=hrow.out;obtain⟨p0,hp0⟩:∃ p,p=k - 16:=⟨_,rfl⟩
    obtain⟨p1,hp1⟩:∃ p,p=k - 15:=⟨_,rfl⟩
    obtain⟨p2,hp2⟩:∃ p,p=k - 7:=⟨_,rfl⟩
    obtain⟨p3,hp3⟩:∃ p,p=k - 2:=⟨_,rfl⟩
    have hw:=Qy5 b (wL b k) k h16;rw[← hp0,← hp1,← hp2,← hp3] at hw
    obtain⟨x0,hx0⟩:∃ x,x=(wL b k).getD p0 0:=⟨_,rfl⟩
    obtain⟨x1,hx1⟩:∃ x,x=(wL b k).getD p1 0:=⟨_,rfl⟩
    obtain⟨x2,hx2⟩:∃ x,x=(wL b k).getD p2 0:=⟨_,rfl⟩
    obtain⟨x3,hx3⟩:∃ x,x=(wL b k).getD p3 0:=⟨_,rfl⟩
    have c0:wr.cell? ⟨w.heap.size+1,p0,none⟩=some (.int .u32 (x0.toNat:Int)):=by rw[hx0];exact World.rowIs.cell hrw (by omega)
    have c1:wr.cell? ⟨w.heap.size+1,p1,none⟩=some (.int .u32 (x1.toNat:Int)):=by rw[hx1];exact World.rowIs.cell hrw (by omega)
    have c2:wr.cell? ⟨w.heap.size+1,p2,none⟩=some (.int .u32 (x2.toNat:Int)):=by rw[hx2];exact World.rowIs.cell hrw (by omega)
    have c3:wr.cell? ⟨w.heap.size+1,p3,none⟩=some (.int .u32 (x3.toNat:Int)):=by rw[hx3];exact World.rowIs.cell hrw (by omega)
    rw[← hx0,← hx1,← hx2,← hx3] at hw
    have HW:=hid hw;have ne:∀ p,p≠k→(⟨w.heap.size+1,k,none⟩:Addr)≠⟨w.heap.size+1,p,none⟩:=fun p h e=>h (by injection e with _ e;exact e.symm)
    have K0:=hid (show ∀ (W:World) (v:Value),(W.setCell ⟨w.heap.size+1,k,none⟩ v).cell? ⟨w.heap.size+1,p0,none⟩=W.cell? ⟨w.heap.size+1,p0,none⟩ from fun W v=>World.cell?_setCell_other _ _ _ _ (ne p0 (by omega)));have K1:=hid (show ∀ (W:World) (v:Value),(W.setCell ⟨w.heap.size+1,k,none⟩ v).cell? ⟨w.heap.size+1,p1,none⟩=W.cell? ⟨w.heap.size+1,p1,none⟩ from fun W v=>World.cell?_setCell_other _ _ _ _ (ne p1 (by omega)));have K2:=hid (show ∀ (W:World) (v:Value),(W.setCell ⟨w.heap.size+1,k,none⟩ v).cell? ⟨w.heap.size+1,p2,none⟩=W.cell? ⟨w.heap.size+1,p2,none⟩ from fun W v=>World.cell?_setCell_other _ _ _ _ (ne p2 (by omega)))
    have K3:=hid (show ∀ (W:World) (v:Value),(W.setCell ⟨w.heap.size+1,k,none⟩ v).cell? ⟨w.heap.size+1,p3,none⟩=W.cell? ⟨w.heap.size+1,p3,none⟩ from fun W v=>World.cell?_setCell_other _ _ _ _ (ne p3 (by omega)));have C1:=hid (fun W=>show Calls Tryz.prog 186 #[.int .u32 (x1.toNat:Int),.int .i64 7,.int .i64 18,.int .i64 3] W _ from Qh2 x1 7 18 3 (by decide) (by decide) (by decide) W);have C2:=hid (fun W=>show Calls Tryz.prog 186 #[.int .u32 (x3.toNat:Int),.int .i64 17,.int .i64 19,.int .i64 10] W _ from Qh2 x3 17 19 10 (by decide) (by decide) (by decide) W);have a0:IntKind.i64.wrap ((k:Int) - 16)=(p0:Int):=by rw[IntWalk.i64_in _ (by omega)];omega
    have a1:IntKind.i64.wrap ((k:Int) - 15)=(p1:Int):=by rw[IntWalk.i64_in _ (by omega)];omega
    have a2:IntKind.i64.wrap ((k:Int) - 7)=(p2:Int):=by rw[IntWalk.i64_in _ (by omega)];omega
    have a3:IntKind.i64.wrap ((k:Int) - 2)=(p3:Int):=by rw[IntWalk.i64_in _ (by omega)];omega
    have l0:(p0:Int)<64:=by omega
    have l1:(p1:Int)<64:=by omega
    have l2:(p2:Int)<64:=by omega
    have l3:(p3:Int)<64:=by omega
    have m0:(0:Int)≤(p0:Int):=by omega
    have m1:(0:Int)≤(p1:Int):=by omega
    have m2:(0:Int)≤(p2:Int):=by omega
    have m3:(0:Int)≤(p3:Int):=by omega
    have mk:(0:Int)≤(k:Int):=by omega
    clear hx0 hx1 hx2 hx3 hw hrw hp0 hp1 hp2 hp3 ne;go_wp2_with fail;go_region_held3 (fun W=>W.cell? ⟨w.heap.size+1,p0,none⟩=some (.int .u32 (x0.toNat:Int))∧W.cell? ⟨w.heap.size+1,p1,none⟩=some (.int .u32 (x1.toNat:Int))∧W.cell? ⟨w.heap.size+1,p2,none⟩=some (.int .u32 (x2.toNat:Int))∧W.cell? ⟨w.heap.size+1,p3,none⟩=some (.int .u32 (x3.toNat:Int)))
     (first
      | exact⟨c0,c1,c2,c3⟩
      | exact⟨(K0.out _ _).trans c0,(K1.out _ _).trans c1,(K2.out _ _).trans c2,(K3.out _ _).trans c3⟩
      | fail)
     (first
      | (go_at_call 186;with_reducible refine(C1.out _).mono ?_;rintro e w1 ⟨rfl,m1,rfl⟩)
      | (go_at_call 186;with_reducible refine(C2.out _).mono ?_;rintro e w2 ⟨rfl,m2,rfl⟩)
      | fail)
    go_wp2_with fail;go_roundw
    case rel =>
     refine⟨k+1,by omega,by go_num,WRow.push (w:=wr.drewN _) hrow.out ?_,?_,?_⟩
     ·
      rw[HW.out]
      congr 1
     ·
      exact(heap_setCell_other _ _ _ _ (by simp)).trans hres.out
     ·
      exact Below.setCell (hbel.out.trans (Qhp _ _ _)) (by simp) _
    case measure=>simp[intOf];omega
  ·
   obtain rfl:k=64:=by omega
   have hs:(wc (wL b 64)).toArray.size=64:=by rw[List.size_toArray,Qcd,Qbt]
   have h1:=Qlr (wL b 64);have hg:=Qh5 (Qbt b 64) hrow.out;obtain⟨K,hK⟩:∃ K,K=(wc (wL b 64)).toArray:=⟨_,rfl⟩
   rw[← hK] at hs h1 hg
   have HS:=hid hs;have HK:=hid hK;have H1:=hid h1;have HG:=hid hg;clear hs hK h1 hg;go_wp2_with (first
    | (refine wpList_load_row rfl 242 (.tmp 3) rfl (w.heap.size+1) rfl 242 K (0,0) _ HG.out Tryz.underlying242 rfl (by rw[HS.out];exact Qiq) ?_)
    | (refine wpList_store_row rfl 242 (.tmp 2) (.tmp 45) rfl w.heap.size K rfl rfl 242 _ hres.out (by rw[HS.out];exact Qiq) (by rw[HS.out,Array.size_replicate]) H1.out ?_)
    | fail)
   refine bodyPost_ret (v:=.agg K) (results_cell_row (p:=2) (ty:=242) rfl _ _ w.heap.size 242 K (0,0) _ rfl (setRow_heap wr w.heap.size _ K _ _ hres.out) Tryz.underlying242 rfl (by rw[HS.out];exact Qiq)) rfl ?_;exact⟨by rw[HK.out],below_setRow hbel.out zr _⟩
theorem Qey{w:World}{g n:Nat}{t:TypeId}{l:List (BitVec 32)}{K:Array Value}(hK:K=(wc l).toArray)(hl:l.length=n)(hg:w.heap[g]?=some (.cells K t (0,0))):w.rowIs g t n (fun j=>.int .u32 ((l.getD j 0).toNat:Int)):=by
 subst hK;exact⟨_,hg,by rw[List.size_toArray,Qcd,hl],fun i hi=>Qy6 l i (by omega)⟩
theorem Q1l(w:World):(zeroValue 200).run Tryz.prog w=.ok (.agg (Array.replicate 8 (.int .u32 0))) w :=
 (zero_of_info (P:=Tryz.prog) (t:=200) (v:=.agg (Array.replicate 8 (.int .u32 0))) (n:=8) (by kernel_rfl)).1 w
def Qwu(s r:St)(k j:Nat):BitVec 32:=if j<k then s.list.getD j 0+r.list.getD j 0 else s.list.getD j 0
theorem Quj(s r:St)(j:Nat):Qwu s r 0 j=s.list.getD j 0:=by simp[Qwu]
theorem Quk(s r:St)(k j:Nat):Qwu s r (k+1) j=if j=k then s.list.getD k 0+r.list.getD k 0 else Qwu s r k j:=by
 unfold Qwu;by_cases h:j=k
 ·
  subst h;simp
 ·
  rw[if_neg h]
  by_cases h2:j<k
  ·
   rw[if_pos h2,if_pos (by omega)]
  ·
   rw[if_neg h2,if_neg (by omega)]
theorem Qx4(s r:St):∀ j,j<8→Qwu s r 8 j=(s.add r).list.getD j 0
 | 0,_=>rfl|1,_=>rfl|2,_=>rfl|3,_=>rfl|4,_=>rfl|5,_=>rfl|6,_=>rfl|7,_=>rfl
 | j+8,h=>by omega
theorem Qfo{P:Program}{ops:Array Oper}{rest:List Oper}{o:Oper}{a:Act}{w:World}{Q:Exit→Act→World→Prop}(hg:o.guard=none)(t:TypeId)(ho:o.op=.alloc t)(C:Array Value)(hz:∀ w:World,(zeroValue t).run P w=.ok (.agg C) w)(N:Nat)(hN:w.heap.size=N)
  (h:wpList P ops Q rest (a.put o.dst (.pointer (some ⟨N,0,none⟩))) (w.alloc (.cells C t))):wpList P ops Q (o::rest) a w:=by
 subst hN;exact Qcc hg t ho C hz h
theorem Qfj(w:World)(o:Obj)(k:Nat)(h:k<w.heap.size):(w.alloc o).heap[k]?=w.heap[k]?:=((Below.refl w.heap.size w).alloc zr o).block k h
theorem Qed{P:Program}{ops:Array Oper}{rest:List Oper}{o:Oper}{a:Act}{w:World}{Q:Exit→Act→World→Prop}(hgd:o.guard=none)(ty:TypeId)(x y:Operand)(ho:o.op=.store ty x y)
  (g:Nat) (cells:Array Value) (hx:a.eval x=.pointer (some ⟨g,0,none⟩)) (hy:a.eval y=.agg cells)
  (t:TypeId) (old:Array Value) (hg:w.heap[g]?=some (.cells old t (0,0))) (hi:(P.info? ty).map (·.size)=some cells.size)
  (hold:old.size=cells.size) (h1:cells.all (·.oneCell')=true)
  (h:∀ W':World,W'.heap[g]?=some (.cells cells t (0,0))→(∀ k,k≠g→W'.heap[k]?=w.heap[k]?)→(∀ (B:Nat) (w0:World),Below B w0 w→B≤g→Below B w0 W')→W'.heap.size=w.heap.size→wpList P ops Q rest (a.put o.dst undef) W') :
  wpList P ops Q (o::rest) a w :=
 wpList_store_row hgd ty x y ho g cells hx hy t old hg hi hold h1
  (h _ (setRow_heap w g old cells t _ hg) (fun k hk=>setRow_other w g k _ hk) (fun _ _ hb hB=>below_setRow hb hB _) (setRow_size w g _))
theorem Q31(a:BitVec 32):bits BinOp.xor .u32 IntKind.u32.max (a.toNat:Int)=((~~~ a).toNat:Int):=by
 have e:=u32_xor_nat 4294967295 a.toNat (by decide) a.isLt;rw[show IntKind.u32.max=((4294967295:Nat):Int) from rfl,e,show(4294967295:Nat)=(BitVec.allOnes 32).toNat from rfl,← BitVec.toNat_xor,BitVec.allOnes_xor]
theorem Q5c(h t f y x u v:BitVec 32):(((h.toNat:Int)+t.toNat+f.toNat+y.toNat+x.toNat) % 4294967296+((u.toNat:Int)+v.toNat) % 4294967296) % 4294967296=((h+t+f+y+x+(u+v)).toNat:Int):=by
 simp only[BitVec.toNat_add];omega
theorem Q5b(d h t f y x:BitVec 32):((d.toNat:Int)+((h.toNat:Int)+t.toNat+f.toNat+y.toNat+x.toNat) % 4294967296) % 4294967296=((d+(h+t+f+y+x)).toNat:Int):=by
 simp only[BitVec.toNat_add];omega
theorem iu{a b:Int}(h:a=b):Value.int .u32 a=.int .u32 b:=by rw[h]
theorem Qxy(s:St)(A:OA)(c B:Nat)(b:LB)(w:World)(hr:Rd w B A 64 b)(hB:B≤w.heap.size)(hc:64≤c)(hc2:c≤9223372036854775807) :
  Calls Tryz.prog 156 #[.agg (wc s.list).toArray,.slice A 64 c] w fun e w'=>e=.returned (.agg (wc (nxt s b).list).toArray)∧Below w.heap.size w w':=by
 have HR:=hid hr;have HB:=hid hB;have H1:=hid (Qlr kL);have H2:=hid (Qlr (wL b 64));obtain⟨KC,hKC⟩:∃ K,K=(wc kL).toArray:=⟨_,rfl⟩
 obtain⟨KW,hKW⟩:∃ K,K=(wc (wL b 64)).toArray:=⟨_,rfl⟩
 have c1:=fun (W:World) (h:Rd W B A 64 b) (hb:B≤W.heap.size)=>Qsj A c B b W h hb hc hc2
 have c2:=Qjd;rw[← hKC] at H1 c2
 rw[← hKW] at H2 c1
 have C1:=hid c1;have C2:=hid c2;have HKC:=hid hKC;have HKW:=hid hKW;have SC:Hid (KC.size=64):=by show _=_;rw[hKC,List.size_toArray,Qcd,Qf2]
 have SW:Hid (KW.size=64):=by show _=_;rw[hKW,List.size_toArray,Qcd,Qbt]
 clear hr hB c1 c2 hKC hKW;go_enter Tryz.func156,Tryz.ntmps156;go_wp2_with (first
  | (refine Qcc rfl 200 rfl _ Q1l ?_)
  | (refine Qcc rfl 242 rfl _ Qht ?_)
  | fail)
 refine(C1.out _ (((HR.out.alloc HB.out _).alloc (Nat.le_trans HB.out (by simp)) _)) (Nat.le_trans HB.out (by simp;omega))).mono ?_;rintro e w1 ⟨rfl,hb1⟩;have B1:=hid hb1;clear hb1;go_wp2_with fail;refine(C2.out _).mono ?_;rintro e w2 ⟨rfl,hb2⟩;have z2:w.heap.size+2≤w2.heap.size:=by
  have h1:=B1.out.size;have h2:=hb2.size;simp at h1;omega
 have b2:Below (w.heap.size+2) ((w.alloc (Obj.cells (wc s.list).toArray 200)).alloc (Obj.cells (Array.replicate 8 (Value.int IntKind.u32 0)) 200)) w2:=by
  have h1:=B1.out;refine(h1.mono (by simp)).trans (hb2.mono (by have h2:=h1.size;simp at h2;omega))
 have q0:w2.heap[w.heap.size]?=some (.cells (wc s.list).toArray 200 (0,0)):=by
  rw[b2.block w.heap.size (by omega),Qfj _ _ _ (by simp)]
  exact heap_alloc_new w _
 have q1:w2.heap[w.heap.size+1]?=some (.cells (Array.replicate 8 (.int .u32 0)) 200 (0,0)):=by
  rw[b2.block (w.heap.size+1) (by omega)]
  have h:=heap_alloc_new (w.alloc (Obj.cells (wc s.list).toArray 200)) (Obj.cells (Array.replicate 8 (Value.int IntKind.u32 0)) 200);simpa using h
 have bw:Below w.heap.size w w2:=(((Below.refl _ w).alloc zr _).alloc (by simp) _).trans (b2.mono (by omega));have Z2:=hid z2;have Q0:=hid q0;have Q1:=hid q1;have BW:=hid bw;clear hb2 z2 b2 q0 q1 bw;have k5:((w2.alloc (.cells (Array.replicate 64 (.int .u32 0)) 242)).alloc (.cells (Array.replicate 64 (.int .u32 0)) 242)).heap[w2.heap.size]?=some (.cells (Array.replicate 64 (.int .u32 0)) 242 (0,0)):=by
  rw[Qfj _ _ _ (by simp)]
  exact heap_alloc_new w2 _
 have k6:((w2.alloc (.cells (Array.replicate 64 (.int .u32 0)) 242)).alloc (.cells (Array.replicate 64 (.int .u32 0)) 242)).heap[w2.heap.size+1]?=some (.cells (Array.replicate 64 (.int .u32 0)) 242 (0,0)):=by
  have h:=heap_alloc_new (w2.alloc (.cells (Array.replicate 64 (.int .u32 0)) 242)) (.cells (Array.replicate 64 (.int .u32 0)) 242);simpa using h
 have K5:=hid k5;have K6:=hid k6;clear k5 k6;go_wp2_with (first
  | (refine Qfo rfl 242 rfl _ Qht w2.heap.size rfl ?_;refine Qfo rfl 242 rfl _ Qht (w2.heap.size+1) (by simp) ?_)
  | (refine Qed rfl 242 (.tmp 5) (.tmp 21) rfl w2.heap.size KW rfl rfl 242 _ K5.out (by rw[SW.out];exact Qiq) (by rw[SW.out,Array.size_replicate]) H2.out ?_;intro w3 r3 o3 b3 z3;have R3:=hid r3;have O3:=hid o3;have B3:=hid b3;have Z3:=hid z3;clear r3 o3 b3 z3;refine Qed rfl 242 (.tmp 6) (.tmp 22) rfl (w2.heap.size+1) KC rfl rfl 242 _ ((O3.out (w2.heap.size+1) (by omega)).trans K6.out) (by rw[SC.out];exact Qiq) (by rw[SC.out,Array.size_replicate]) H1.out ?_;intro w4 r4 o4 b4 z4;have R4:=hid r4;have O4:=hid o4;have B4:=hid b4;have Z4:=hid z4;clear r4 o4 b4 z4)
  | fail)
 have rW:w4.rowIs w2.heap.size 242 64 (fun j=>.int .u32 (((wL b 64).getD j 0).toNat:Int)) :=
  Qey HKW.out (Qbt b 64) ((O4.out w2.heap.size (by omega)).trans R3.out)
 have rK:w4.rowIs (w2.heap.size+1) 242 64 (fun j=>.int .u32 ((kL.getD j 0).toNat:Int)) :=
  Qey HKC.out Qf2 R4.out
 have low:∀ k,k<w2.heap.size→w4.heap[k]?=w2.heap[k]?:=fun k hk=>by
  rw[O4.out k (by omega),O3.out k (by omega),Qfj _ _ _ (by simp;omega),Qfj _ _ _ hk]
 have zz:=Z2.out;have rS:w4.rowIs w.heap.size 200 8 (fun j=>.int .u32 ((s.list.getD j 0).toNat:Int)) :=
  Qey rfl rfl ((low _ (by omega)).trans Q0.out)
 have rR:w4.heap[w.heap.size+1]?=some (.cells (Array.replicate 8 (.int .u32 0)) 200 (0,0)):=(low _ (by omega)).trans Q1.out;have bW:Below w.heap.size w w4:=B4.out _ _ (B3.out _ _ ((BW.out.alloc (by omega) _).alloc (by simp;omega) _) (by omega)) (by omega);have e0:w4.cell? ⟨w.heap.size,0,none⟩=some (.int .u32 (s.a.toNat:Int)):=World.rowIs.cell rS (by decide);have e1:w4.cell? ⟨w.heap.size,1,none⟩=some (.int .u32 (s.b.toNat:Int)):=World.rowIs.cell rS (by decide);have e2:w4.cell? ⟨w.heap.size,2,none⟩=some (.int .u32 (s.c.toNat:Int)):=World.rowIs.cell rS (by decide);have e3:w4.cell? ⟨w.heap.size,3,none⟩=some (.int .u32 (s.d.toNat:Int)):=World.rowIs.cell rS (by decide)
 have e4:w4.cell? ⟨w.heap.size,4,none⟩=some (.int .u32 (s.e.toNat:Int)):=World.rowIs.cell rS (by decide);have e5:w4.cell? ⟨w.heap.size,5,none⟩=some (.int .u32 (s.f.toNat:Int)):=World.rowIs.cell rS (by decide);have e6:w4.cell? ⟨w.heap.size,6,none⟩=some (.int .u32 (s.g.toNat:Int)):=World.rowIs.cell rS (by decide);have e7:w4.cell? ⟨w.heap.size,7,none⟩=some (.int .u32 (s.h.toNat:Int)):=World.rowIs.cell rS (by decide);have z5:w4.heap.size=w2.heap.size+2:=by rw[Z4.out,Z3.out];simp
 have RW:=hid rW;have RK:=hid rK;have RS:=hid rS;have RR:=hid rR;have BWx:=hid bW;have Z5:=hid z5;clear rW rK low zz rS rR bW z5;simp only[zs];go_region
 go_wp2_with fail;go_region
 clear e0 e1 e2 e3 e4 e5 e6 e7;go_wp2_with fail;go_loopw [39,7,8,9,10,11,12,13,14] (fun i a1 a2 a3 a4 a5 a6 a7 a8 wr=>∃ (k:Nat) (S:St) (m:Nat),k≤64∧i=.int .i64 k∧Hid (S=rN s (wL b 64) k)∧a1=.int .u32 (S.a.toNat:Int)∧a2=.int .u32 (S.b.toNat:Int)∧a3=.int .u32 (S.c.toNat:Int)∧a4=.int .u32 (S.d.toNat:Int)∧a5=.int .u32 (S.e.toNat:Int)∧a6=.int .u32 (S.f.toNat:Int)∧a7=.int .u32 (S.g.toNat:Int)∧a8=.int .u32 (S.h.toNat:Int)∧Hid (wr=w4.drewN m))
  (fun i _ _ _ _ _ _ _ _ _=>64 - (intOf i).toNat)
 case atStart=>exact⟨0,s,2,by omega,rfl,rfl,rfl,rfl,rfl,rfl,rfl,rfl,rfl,rfl,rfl⟩
 case round =>
  obtain⟨k,S,m,hk,rfl,hS,rfl,rfl,rfl,rfl,rfl,rfl,rfl,rfl,hwr⟩:=hrel;by_cases hlt:k<64
  ·
   obtain⟨x,hx⟩:∃ x,x=(wL b 64).getD k 0:=⟨_,rfl⟩
   obtain⟨y,hy⟩:∃ y,y=kL.getD k 0:=⟨_,rfl⟩
   have cx:wr.cell? ⟨w2.heap.size,k,none⟩=some (.int .u32 (x.toNat:Int)):=by rw[hx,hwr.out];exact World.rowIs.cell RW.out hlt
   have cy:wr.cell? ⟨w2.heap.size+1,k,none⟩=some (.int .u32 (y.toNat:Int)):=by rw[hy,hwr.out];exact World.rowIs.cell RK.out hlt
   have T1:=hid (fun W n=>Calls.quiet_of_same (n:=n) ((show Calls Tryz.prog 172 #[.int .u32 (S.e.toNat:Int),.int .i64 6,.int .i64 11,.int .i64 25] (World.drewN W n) _ from Qjo S.e 6 11 25 (by decide) (by decide) (by decide) (W.drewN n)).mono (fun _ _ h=>⟨h.1,h.2.symm⟩)));have T2:=hid (fun W=>(show Calls Tryz.prog 172 #[.int .u32 (S.a.toNat:Int),.int .i64 2,.int .i64 13,.int .i64 22] W _ from Qjo S.a 2 13 22 (by decide) (by decide) (by decide) W));have k0:(0:Int)≤(k:Int):=by omega
   have k1:(k:Int)<64:=by omega
   have Hx:=hid hx;have Hy:=hid hy;clear hx hy;go_wp2_with fail;go_quiet (first|(go_at_call 172;exact T1.out _ _)|fail)
   go_wp2_with fail;refine(T2.out _).mono ?_;rintro e w5 ⟨rfl,rfl⟩;go_wp2_with fail;go_roundw
   case rel =>
    refine⟨k+1,S.rnd y x,m+nq,by omega,by go_num,?_,iu ?_,rfl,rfl,rfl,iu ?_,rfl,rfl,rfl,?_⟩
    ·
     show _=_;rw[hS.out,Hx.out,Hy.out];rfl
    ·
     rw[Qy3,Q31,Qy3,Qfm,Qy3,Qy3,Qfm,Qy3,Qfm]
     exact Q5c _ _ _ _ _ _ _
    ·
     rw[Qy3,Q31,Qy3,Qfm]
     exact Q5b _ _ _ _ _ _
    ·
     show _=_;rw[hwr.out,World.drewN_drewN]
   case measure=>simp[intOf];omega
  ·
   obtain rfl:k=64:=by omega
   obtain⟨wq,hwq⟩:∃ W,W=wr:=⟨_,rfl⟩
   subst hwq;have hS2:nxt s b=s.add S:=by rw[hS.out];rfl
   have rS:wq.rowIs w.heap.size 200 8 (fun j=>.int .u32 ((Qwu s S 0 j).toNat:Int)):=by
    rw[hwr.out]
    exact World.rowIs.congr (w:=w4.drewN m) RS.out (fun j _=>by rw[Quj])
   have rR:wq.heap[w.heap.size+1]?=some (.cells (Array.replicate 8 (.int .u32 0)) 200 (0,0)):=by rw[hwr.out];exact RR.out
   have bW:Below w.heap.size w wq:=by rw[hwr.out];exact BWx.out.trans (Qhp _ _ _)
   have zrx:w.heap.size+2≤wq.heap.size:=by
    rw[hwr.out]
    show _≤w4.heap.size;rw[Z5.out];have:=Z2.out;omega
   have rB:(wq.alloc (.cells (wc S.list).toArray 200)).rowIs wq.heap.size 200 8 (fun j=>.int .u32 ((S.list.getD j 0).toNat:Int)):=Qey rfl rfl (heap_alloc_new _ _);obtain⟨g8,hg8⟩:∃ g,g=wq.heap.size:=⟨_,rfl⟩
   rw[← hg8] at rB zrx
   have S2:=hid hS2;have RS2:=hid rS;have RR2:=hid rR;have BW2:=hid bW;have ZR:=hid zrx;have RB:=hid rB;have HG8:=hid hg8;clear hS2 rS rR bW zrx rB hg8;go_wp2_with fail;go_loopw [99] (fun i wy=>∃ k:Nat,k≤8∧i=.int .i64 k∧Hid (wy.rowIs w.heap.size 200 8 (fun j=>.int .u32 ((Qwu s S k j).toNat:Int)))∧Hid (wy.rowIs wq.heap.size 200 8 (fun j=>.int .u32 ((S.list.getD j 0).toNat:Int)))∧Hid (wy.heap[w.heap.size+1]?=some (.cells (Array.replicate 8 (.int .u32 0)) 200 (0,0)))∧Hid (Below w.heap.size w wy))
    (fun i _=>8 - (intOf i).toNat)
   case atStart =>
    have hb:=BW2.out.size;have zrx:=ZR.out;have hg:=HG8.out;refine⟨0,by omega,rfl,World.rowIs.alloc RS2.out _,by have h:=RB.out;rw[hg] at h;exact h,(Qfj _ _ _ (by omega)).trans RR2.out,BW2.out.alloc hb _⟩
   case round =>
    obtain⟨q,hq,rfl,hr0,hr1,hr2,hbl⟩:=hrel;have hb:=BW2.out.size;have zrx:=ZR.out;have hg:=HG8.out;by_cases hlt:q<8
    ·
     obtain⟨x,hx⟩:∃ x,x=Qwu s S q q:=⟨_,rfl⟩
     obtain⟨y,hy⟩:∃ y,y=S.list.getD q 0:=⟨_,rfl⟩
     have cx:wr.cell? ⟨w.heap.size,q,none⟩=some (.int .u32 (x.toNat:Int)):=by rw[hx];exact World.rowIs.cell hr0.out hlt
     have cy:wr.cell? ⟨wq.heap.size,q,none⟩=some (.int .u32 (y.toNat:Int)):=by rw[hy];exact World.rowIs.cell hr1.out hlt
     have hf:wr.frozen? ⟨w.heap.size,q,none⟩=false:=World.rowIs.frozen hr0.out _;have k0:(0:Int)≤(q:Int):=by omega
     have k1:(q:Int)<8:=by omega
     have Hx:=hid hx;have Hy:=hid hy;clear hx hy;go_wp2_with fail;go_region
     go_wp2_with fail;go_roundw
     case rel =>
      refine⟨q+1,by omega,by go_num,?_,?_,?_,?_⟩
      ·
       refine(World.rowIs.set (w:=wr) hr0.out q _).congr fun j _=>?_
       rw[Quk]
       by_cases hj:j=q
       ·
        rw[if_pos hj,if_pos hj]
        refine iu ?_;have e:=Q29 x y;rw[Hx.out,Hy.out] at e
        rw[Hx.out,Hy.out,e]
        congr 2
        unfold Qwu;rw[if_neg (by omega)]
       ·
        rw[if_neg hj,if_neg hj]
      ·
       exact World.rowIs.setOther (w:=wr) hr1.out (by show wq.heap.size≠w.heap.size;omega) _
      ·
       exact(heap_setCell_other wr _ _ _ (by show w.heap.size+1≠w.heap.size;omega)).trans hr2.out
      ·
       exact(Below.setCell (p:=⟨w.heap.size,q,none⟩) hbl.out zr _).drew
     case measure=>simp[intOf];omega
    ·
     obtain rfl:q=8:=by omega
     have hg:=Qh5 (l:=(nxt s b).list) rfl (World.rowIs.congr hr0.out fun j hj=>by rw[Qx4 s S j hj,S2.out]);have hs:(wc (nxt s b).list).toArray.size=8:=by rw[List.size_toArray,Qcd];rfl
     have h1:=Qlr (nxt s b).list;obtain⟨K,hK⟩:∃ K,K=(wc (nxt s b).list).toArray:=⟨_,rfl⟩
     rw[← hK] at hs h1 hg
     have HS:=hid hs;have HK:=hid hK;have HX1:=hid h1;have HG:=hid hg;clear hs hK h1 hg;go_wp2_with (first
      | (refine wpList_load_row rfl 200 (.tmp 2) rfl w.heap.size rfl 200 K (0,0) _ HG.out Tryz.underlying200 rfl (by rw[HS.out];exact Qvc) ?_)
      | (refine Qed rfl 200 (.tmp 4) (.tmp 111) rfl (w.heap.size+1) K rfl rfl 200 _ hr2.out (by rw[HS.out];exact Qvc) (by rw[HS.out,Array.size_replicate]) HX1.out ?_;intro w6 r6 o6 b6 z6;have R6:=hid r6;have B6:=hid b6;clear r6 o6 b6 z6)
      | fail)
     refine bodyPost_ret (v:=.agg K) (results_cell_row (p:=4) (ty:=200) rfl _ _ (w.heap.size+1) 200 K (0,0) _ rfl R6.out Tryz.underlying200 rfl (by rw[HS.out];exact Qvc)) rfl ?_;exact⟨by rw[HK.out],B6.out _ _ hbl.out (by omega)⟩
end Go.Proofs.YtbnfkjkoinbkgaaGreatDoor
