import Derived.Test.YtbnfkjkoinbkgaaGreatDoorVAbb
import Derived.Test.YtbnfkjkoinbkgaaGreatDoorVArrS
import Derived.Test.YtbnfkjkoinbkgaaGreatDoorVEidT2
import Derived.Test.YtbnfkjkoinbkgaaGreatDoorVKDec2
import Derived.Test.YtbnfkjkoinbkgaaGreatDoorVShaD
import Derived.Test.YtbnfkjkoinbkgaaGreatDoorVShaP
import Derived.Deep.RegionHeld3
import Derived.Deep.AppendLies
import Derived.Laws.MakeOwn
import Derived.Laws.CopyOwn
import Derived.BigQuiet
import Derived.Deep.QuietTactic
import Derived.StillTailTactics
import Derived.RegionTactic
import Derived.Deep.RegionLawGrows
namespace Go.Proofs.YtbnfkjkoinbkgaaGreatDoor
set_option maxRecDepth 100000
set_option maxHeartbeats 16000000
open Go.RowKit
open Go.Lib (hid)
theorem Qds(n:Int)(w:World) :
  Calls Tryz.prog 111 #[.int .u64 n] w fun e w'=>e=.returned (zv6 0 n none 0 0 none 0 0)∧Below w.heap.size w w':=by
 go_enter Tryz.func111,Tryz.ntmps111;go_wp2_with fail;exact bodyPost_ret (v:=.agg #[.int .i64 0,.int .u64 n,.slice none 0 0,.slice none 0 0]) (by simp[results,Tryz.results111,go_sem]) rfl ⟨rfl,zb⟩
theorem Q21{w w':World}{c0 c1 c2 c3 c4:Value}{t:TypeId}{g:Nat}(hg:g=w.heap.size)(h:Below (g+1) (w.alloc (.cells #[c0,c1,c2,c3,c4] t)) w') :
  w'.cell? ⟨g,0,none⟩=some c0∧w'.cell? ⟨g,1,none⟩=some c1∧w'.cell? ⟨g,2,none⟩=some c2∧w'.cell? ⟨g,3,none⟩=some c3∧w'.cell? ⟨g,4,none⟩=some c4:=by
 subst hg;refine⟨?_,?_,?_,?_,?_⟩ <;> (rw[h.cell (Nat.lt_succ_self _),World.cell?_alloc_at _ _ _ _ rfl];rfl)
theorem Rd.mask_any{w:World}{lo B n:Nat}{A:OA}{l:LB}(h:Rd w B A n l)(hA:0<n→∀ b o,A=some ⟨b,o,none⟩→lo≤b):Rd (Qap (Qax lo) w) B A n l :=
 ⟨h.1,fun hn=>by
  obtain⟨b,o,e,hB,hc⟩:=h.2 hn;exact⟨b,o,e,hB,fun i hi=>(Qaq (Qaz.2 (hA hn b o e))).trans (hc i hi)⟩⟩
theorem Qfk(lo:Nat)(A:OA)(n c B:Nat)(l:LB)(w:World)(hlo:lo≤w.heap.size)(hB:B≤w.heap.size)(h:Rd w B A n l)(hn:n≤140737488355328) :
  Calls Tryz.prog 76 #[.slice A n c] w (Qbj lo (.mk 2 0 l []) w):=by
 have C1:=hid (Qda A n c B l (w.alloc zk0) (Nat.le_trans hB (Qaa _ _)) (h.alloc hB _) hn);have HLN:=hid h.1;have HN:=hid hn;have HLO:=hid hlo;clear h hn hB hlo;go_enter Tryz.func76,Tryz.ntmps76;go_wp2_with fail;refine C1.out.mono ?_;rintro e w1 ⟨v,rfl,ho,hb⟩;have hb':=Qea hb;obtain⟨⟨z0,z1,z2,z3⟩,f0,f1,f2,f3⟩:=Qa4 hb';obtain⟨A2,c2,rfl,hc2,hm2,hr2⟩:=ho.rdn HLN.out;have HR2:=hid hr2;have HO2:=hid ho;have B1:=hid hb';clear ho hb hb' hr2;go_wp2_with fail;have hblk:∀ b o,0<n→A2=some ⟨b,o,none⟩→w.heap.size<b:=by
  intro b o hn h;obtain⟨g,cap,hv,hg,_,_⟩:=HO2.out.form (by rw[HLN.out];exact hn);subst h;cases hv
  simp at hg;omega
 have HLO':=HLO.out;refine bodyPost_ret (v:=.agg #[.int .i64 2,.int .u64 0,.slice A2 n c2,.slice none 0 0]) (by simp[results,Tryz.results76,go_sem,z0,z1,z2,z3]) rfl ⟨_,rfl,RdI.mk_data (by decide) hc2 HN.out (Rd.mask_any ?_ (fun hn b o h=>by have:=hblk b o hn h;omega)),?_⟩
 ·
  refine Rd.set4 (HR2.out.more (by simp[World.setCell])) (fun hn b o h=>?_);have:=hblk b o hn h
  omega
 ·
  exact Qas (zb.trans (B1.out.mono (Nat.le_succ _))) zr
theorem ItC.row{lo:Nat}{W:World}{cs:List Value}{xs:List Itm}{t:TypeId}(hlo:lo≤W.heap.size)(h:ItC (Qap (Qax lo) W) W.heap.size cs xs) :
  RdIs (Qap (Qax lo) (W.alloc (.cells cs.toArray t))) (W.heap.size+1) W.heap.size 0 xs :=
 ItC.lie (h.mask_go (S':=Qax lo) (B':=W.heap.size+1) (Nat.le_succ _) (fun _ hk _=>Below.heap_alloc _ _ _ hk) (fun _ _ h=>h)) (fun j u hj=>by
  rw[Nat.zero_add,Qaq (Qaz.2 hlo),World.cell?_alloc_at _ _ _ _ rfl]
  simpa using hj)
theorem Qb9{lo n cap b B:Nat}{W:World}{xs:List Itm}(hlo:lo≤W.heap.size)(hB:B≤W.heap.size)(hb:b<B)(h:RdIs (Qap (Qax lo) W) B b 0 xs)(hn:xs.length=n)(h0:0<n)(hp:Qa5 xs≤1000000)(hc:n≤cap) :
  Calls Tryz.prog 117 #[.slice (some ⟨b,0,none⟩) n cap] W (Qbj lo (.mk 4 0 [] xs) W) :=
 Qi5 (Qax lo) b 0 n cap B xs W (fun k hk=>by have h1:=decide_eq_true_iff.1 hk;omega) hB hb h hn h0 hp hc
theorem Q0j(W:World):(Instr.makeSlice 29 (.int .i64 2) (.int .i64 2)).run Tryz.prog W=.ok (.slice (some ⟨W.heap.size,0,none⟩) 2 2) (W.alloc (.cells #[.int .u8 0,.int .u8 0] 5)):=by
 obtain⟨i,h1,h2,h3,h4⟩:=info_parts Qak;rw[run_makeSlice W 29 5 i _ Tryz.underlying29 h1 h2 .i64 .i64 2 2 (by decide) (by decide) (by rw[h3];decide) (by rw[h4];decide) (by decide),h3,show madeCells (Value.int IntKind.u8 0).cells (Int.toNat 2*1)=#[.int .u8 0,.int .u8 0] by kernel_rfl]
 rfl
theorem Q0i(W:World):(Instr.makeSlice 29 (.int .i64 4) (.int .i64 4)).run Tryz.prog W=.ok (.slice (some ⟨W.heap.size,0,none⟩) 4 4) (W.alloc (.cells #[.int .u8 0,.int .u8 0,.int .u8 0,.int .u8 0] 5)):=by
 obtain⟨i,h1,h2,h3,h4⟩:=info_parts Qak;rw[run_makeSlice W 29 5 i _ Tryz.underlying29 h1 h2 .i64 .i64 4 4 (by decide) (by decide) (by rw[h3];decide) (by rw[h4];decide) (by decide),h3,show madeCells (Value.int IntKind.u8 0).cells (Int.toNat 4*1)=#[.int .u8 0,.int .u8 0,.int .u8 0,.int .u8 0] by kernel_rfl]
 rfl
theorem Ob.low{w:World}{base base':Nat}{t:TypeId}{v:Value}{l:LB}(h:Ob w base t v l)(hb:base'≤base):Ob w base' t v l :=
 ⟨h.1,h.2.imp id fun ⟨g,cap,cur,hv,h1,r⟩=>⟨g,cap,cur,hv,Nat.le_trans hb h1,r⟩⟩
theorem Qet(x:Itm)(v:Value)(w:World)(B:Nat)(hf:Qkk x)(hlen:(wri x).length≤140737488355328)(hB:B≤w.heap.size)(h:RdI w B v x) :
  Calls Tryz.prog 86 #[v] w fun e w'=>∃ v',e=.returned (.tuple #[v',.int .i64 0])∧Ob w' w.heap.size 5 v' (wri x)∧Below w.heap.size w w':=by
 obtain⟨k,n,d,l⟩:=x;have HX:=hid h;obtain⟨A,nd,cd,AL,cl,rfl,h1,h2,h3,h4,h5,h7⟩:=h.open;generalize hX:Itm.mk k n d l=x at *;clear hX;have C1:=hid (fun W (hb:Below w.heap.size w W)=>Qv9 x _ W B (Nat.le_trans hf.2.2 (by decide)) (Nat.le_trans hB hb.size) (HX.out.below (hb.mono hB)));have C3:=hid (fun W (hb:Below w.heap.size w W)=>Qqr (par x+1) x _ (.slice none 0 0) [] W W.heap.size (Nat.lt_succ_self _) hf.1 (by simpa using hlen) zr ((HX.out.below (hb.mono hB)).more (Nat.le_trans hB hb.size)) (Ob.nil_ _ _ _));have B0:=hid ((Below.refl w.heap.size w).alloc zr (zo1 k n A nd cd AL l.length cl))
 generalize l.length=N at *;have hv:Q1j x=.nilIface:=by unfold Q1j;rw[if_neg (by rw[hf.1];decide),if_neg (by have:=hf.2;omega)]
 rw[hv] at C1
 clear h1 h4 h7 h hlen hv hf;generalize hWX:wri x=WX at *;go_enter Tryz.func86,Tryz.ntmps86;go_wp2_with fail;refine(C1.out _ B0.out).mono ?_;rintro e w1 ⟨rfl,hb1⟩;have HB1:=hid (B0.out.trans (hb1.mono B0.out.size));obtain⟨q0,q1,q2,q3⟩:=Qcx (Qea hb1);clear hb1;go_wp2_with fail;refine(C3.out _ HB1.out).mono ?_;rintro e w2 ⟨v,rfl,ho,hr⟩;rw[List.nil_append] at ho
 have HO:=hid (ho.low HB1.out.size);obtain⟨A2,c2,rfl,hc2,hm2,hr2⟩:=ho.rd;have HB2:=hid (HB1.out.trans ((hr.below (Ob.nil_ _ w1.heap.size 5) zr).mono HB1.out.size));clear ho hr2 hr q0 q1 q2 q3;go_wp2_with fail;go_ret2
 exact⟨_,rfl,HO.out,HB2.out⟩
theorem Q00{P:Program}(t e:TypeId)(ht:P.underlying t=some (.slice e))(hz:∀ W:World,(sizeOf e).run P W=.ok 1 W)(g n c k:Nat)(hk:k≤n)(hc:n≤c) :
  ∃ A' c',(∀ W:World,(Instr.slice t (.slice (some ⟨g,0,none⟩) n c) (some (.int .i64 (k:Int))) none none).run P W=.ok (.slice A' (n - k) c') W)∧(k<n→A'=some ⟨g,k,none⟩):=by
 by_cases hck:c=k
 ·
  refine⟨some ⟨g,0,none⟩,c - k,fun W=>?_,fun h=>absurd h (by omega)⟩;subst hck;go_simp
 ·
  refine⟨(some (⟨g,0,none⟩:Addr)).map (·.add k),c - k,fun W=>?_,fun _=>?_⟩
  ·
   go_simp
  ·
   unfold Addr.add;by_cases h0:k=0
   ·
    subst h0;simp
   ·
    simp[h0]
theorem Ob.tail{w w':World}{base g n cap m:Nat}{t:TypeId}{l s:LB}{cur:Array Value}(h:Ob w base t (.slice (some ⟨g,0,none⟩) n cap) l)(hg:w.heap[g]?=some (.cells cur t (0,0)))
  (hl:l.length=n) (hn:m+s.length=n) (hw:w'.heap[g]?=some (.cells (splice cur.toList m (s.map bv)).toArray t (0,0))):Ob w' base t (.slice (some ⟨g,0,none⟩) n cap) (l.take m++s):=by
 rcases h.2 with ⟨hv,_⟩|⟨g',cap',cur',hv,hb,hg',hnc,hcm,hcs,ht⟩
 ·
  cases hv
 ·
  cases hv
  rw[hg] at hg'
  cases hg'
  rw[Nat.mul_one] at ht
  rw[Nat.mul_one] at hcs
  have e9:cur.toList.length=cur.size:=Array.length_toList;have hlen:(l.take m++s).length=l.length:=by rw[List.length_append,List.length_take];omega
  refine⟨by rw[List.length_map,Nat.mul_one],.inr ⟨g,cap,(splice cur.toList m (s.map bv)).toArray,by rw[hlen],hb,hw,by rw[hlen];omega,hcm,?_,?_⟩⟩
  ·
   rw[List.size_toArray,length_splice _ _ _ (by rw[List.length_map,e9,hcs];omega),e9,hcs,Nat.mul_one]
  ·
   rw[hlen,Nat.mul_one]
   unfold splice;rw[List.length_map,hn]
   have hcur:cur.toList.take m=(l.take m).map bv:=by
    rw[List.map_take,← ht,List.take_take,Nat.min_eq_left (by omega)]
   rw[hcur,← List.append_assoc,List.take_left' (by rw[List.length_append,List.length_map,List.length_take,List.length_map];omega),List.map_append]
theorem Ob.cur{w:World}{base:Nat}{t:TypeId}{v:Value}{l:LB}(h:Ob w base t v l)(h0:0<l.length):∃ g cap cur,v=.slice (some ⟨g,0,none⟩) l.length cap∧base≤g∧l.length≤cap∧w.heap[g]?=some (.cells cur t (0,0))∧cur.size=cap:=by
 rcases h.2 with ⟨_,hn⟩|⟨g,cap,cur,hv,hb,hg,hnc,hcm,hcs,ht⟩
 ·
  omega
 ·
  exact⟨g,cap,cur,hv,hb,hnc,hg,by rwa[Nat.mul_one] at hcs⟩
theorem Qgs{B g:Nat}{w W':World}{u0 u1 u2 u3 u4:Value}(h:Below B w W')(hg:B≤g):Below B w (((((W'.setCell ⟨g,0,none⟩ u0).setCell ⟨g,1,none⟩ u1).setCell ⟨g,2,none⟩ u2).setCell ⟨g,3,none⟩ u3).setCell ⟨g,4,none⟩ u4) :=
 (((((h.setCell (p:=⟨g,0,none⟩) hg _).setCell (p:=⟨g,1,none⟩) hg _).setCell (p:=⟨g,2,none⟩) hg _).setCell (p:=⟨g,3,none⟩) hg _).setCell (p:=⟨g,4,none⟩) hg _)
theorem Q3n{w w':World}{g:Nat}(hg:g=w.heap.size)(h:Below (g+1) (w.alloc zk6) w') :
  (w'.cell? ⟨g,0,none⟩=some (.int .u64 0)∧w'.cell? ⟨g,1,none⟩=some (.int .u64 0)∧w'.cell? ⟨g,2,none⟩=some (.int .u64 0)∧w'.cell? ⟨g,3,none⟩=some (.int .i64 0)∧w'.cell? ⟨g,4,none⟩=some (.slice none 0 0)) ∧
  (w'.frozen? ⟨g,0,none⟩=false∧w'.frozen? ⟨g,1,none⟩=false∧w'.frozen? ⟨g,2,none⟩=false∧w'.frozen? ⟨g,3,none⟩=false∧w'.frozen? ⟨g,4,none⟩=false):=by
 refine⟨Q21 hg h,?_⟩;subst hg;refine⟨?_,?_,?_,?_,?_⟩ <;> (rw[h.frozen (Nat.lt_succ_self _)];simp)
theorem RdI.cells{w:World}{B:Nat}{c0 c1 c2 c3:Value}{k:Int}{n:Nat}{d:LB}{l:List Itm}(h:RdI w B (.agg #[c0,c1,c2,c3]) (.mk k n d l)) :
  ∃ (A:OA) (nd cd:Nat),c0=.int .i64 k∧c1=.int .u64 (n:Int)∧c2=.slice A nd cd∧n<18446744073709551616∧(nd≤cd∧nd≤140737488355328)∧Rd w B A nd d:=by
 obtain⟨A,nd,cd,AL,cl,e,-,h2,h3,h4,-,-⟩:=h.open;injection e with e
 simp only[Array.mk.injEq,List.cons.injEq,and_true] at e;obtain⟨rfl,rfl,rfl,-⟩:=e;exact⟨A,nd,cd,rfl,rfl,rfl,h2,h3,h4⟩
theorem Qcw{W:World}{p:Addr}{u:Value}(h:W.cell? p=some u):W.drew.cell? p=some u:=h
end Go.Proofs.YtbnfkjkoinbkgaaGreatDoor
namespace Go.Proofs.YtbnfkjkoinbkgaaGreatDoor
set_option maxRecDepth 100000
set_option maxHeartbeats 16000000
open Go.RowKit
open Go.Lib (hid)
def dgC(s:St)(v:Value)(z:Nat):Array Value:=#[.int .u32 (s.a.toNat:Int),.int .u32 (s.b.toNat:Int),.int .u32 (s.c.toNat:Int),.int .u32 (s.d.toNat:Int),.int .u32 (s.e.toNat:Int),.int .u32 (s.f.toNat:Int),.int .u32 (s.g.toNat:Int),.int .u32 (s.h.toNat:Int),v,.int .i64 (z:Int)]
def Dg(w:World)(g:Nat)(s:St)(v:Value)(z:Nat):Prop:=w.heap[g]?=some (.cells (dgC s v z) 203 (0,0))
section
variable {w w':World}{g:Nat}{s:St}{v:Value}{z:Nat}
theorem Dg.word(h:Dg w g s v z):∀ j,j<8→w.cell? ⟨g,j,none⟩=some (.int .u32 ((s.list.getD j 0).toNat:Int)):=by
 intro j hj;simp only[World.cell?];rw[h]
 have:j=0∨j=1∨j=2∨j=3∨j=4∨j=5∨j=6∨j=7:=by omega
 rcases this with rfl|rfl|rfl|rfl|rfl|rfl|rfl|rfl <;> rfl
theorem Dg.wait(h:Dg w g s v z):w.cell? ⟨g,8,none⟩=some v:=by
 simp only[World.cell?];rw[h]
 rfl
theorem Dg.len(h:Dg w g s v z):w.cell? ⟨g,9,none⟩=some (.int .i64 (z:Int)):=by
 simp only[World.cell?];rw[h]
 rfl
theorem Dg.free(h:Dg w g s v z)(j:Nat):w.frozen? ⟨g,j,none⟩=false:=by
 simp only[World.frozen?];rw[h]
 rfl
theorem Dg.lt(h:Dg w g s v z):g<w.heap.size:=(Array.getElem?_eq_some_iff.1 h).1
theorem Dg.of_block(h:Dg w g s v z)(e:w'.heap[g]?=w.heap[g]?):Dg w' g s v z:=e.trans h
theorem Dg.setWait(h:Dg w g s v z)(u:Value):Dg (w.setCell ⟨g,8,none⟩ u) g s u z:=by
 show _=_;rw[heap_setCell_same w g 8 _ _ u h]
 rfl
theorem Dg.setLen(h:Dg w g s v z)(y:Nat):Dg (w.setCell ⟨g,9,none⟩ (.int .i64 (y:Int))) g s v y:=by
 show _=_;rw[heap_setCell_same w g 9 _ _ _ h]
 rfl
end
theorem Qmg(s:St)(k:Nat)(hk:k<8):Qif (s.list.take (k+1))=Qif (s.list.take k)++be (s.list.getD k 0).toNat 4:=by
 have hl:k<s.list.length:=hk;rw[List.take_succ_eq_append_getElem hl]
 unfold Qif;rw[List.flatMap_append]
 congr 1
 simp[List.getD,hl]
theorem Qsi(g:Nat)(s:St)(v:Value)(z:Nat)(w:World)(h:Dg w g s v z) :
  Calls Tryz.prog 137 #[.pointer (some ⟨g,0,none⟩)] w (Qbi 5 (Qif s.list) w):=by
 have HD:=hid h;clear h;go_enter Tryz.func137,Tryz.ntmps137;go_wp2
 go_loopw [3,5] (fun v i wr=>∃ k:Nat,k≤8∧i=.int .i64 k∧Hid (Ob wr w.heap.size 5 v (Qif (s.list.take k)))∧Hid (Below w.heap.size w wr)) (fun _ i _=>8 - (intOf i).toNat)
 case atStart=>exact⟨0,Nat.zero_le _,rfl,Ob.nil_ _ _ _,Below.refl _ _⟩
 case round =>
  obtain⟨k,hk,rfl,hob,hbel⟩:=hrel;by_cases hlt:k<8
  ·
   obtain⟨x,hx⟩:∃ x,x=s.list.getD k 0:=⟨_,rfl⟩
   have hcx:wr.cell? ⟨g,k,none⟩=some (.int .u32 (x.toNat:Int)):=by
    rw[hx,hbel.out.cell (p:=⟨g,k,none⟩) HD.out.lt];exact HD.out.word k hlt
   have hxl:=x.isLt;have C:=hid (Qqv (x.toNat:Int) 4 4 rfl (by decide) wr (by omega) (by omega));have hlen:(Qif (s.list.take k)).length+4≤140737488355328:=by
    have:(Qif (s.list.take k)).length≤32:=by
     have e:∀ L:List (BitVec 32),(Qif L).length=4*L.length:=fun L=>by
      induction L with
      | nil=>rfl
      | cons y t ih=>rw[show Qif (y::t)=be y.toNat 4++Qif t from rfl,List.length_append,Qa9,ih,List.length_cons];omega
     rw[e,List.length_take];omega
    omega
   have HX:=hid hx;have HLN:=hid hlen;have k0:(0:Int)≤(k:Int):=by omega
   have k1:(k:Int)<8:=by omega
   clear hx hlen;go_wp2_with fail;refine C.out.mono ?_;rintro e w1 ⟨A1,rfl,hr1,hb1⟩;have R1:=hid hr1;have O1:=hid (hob.out.below hb1);have B1:=hid (hbel.out.trans (hb1.mono hbel.out.size));clear hr1 hb1;go_wp2_with (first
    | (at_builtin;refine Qam rfl (.tmp 8) (.tmp 16) 29 rfl w.heap.size 5 Tryz.underlying29 Qak _ (Qif (s.list.take k)) rfl O1.out _ _ 4 4 _ rfl R1.out HLN.out B1.out.size ?_;intro v2 w2 ho2 hb2;have O2:=hid ho2;have B2:=hid (B1.out.trans hb2);clear ho2 hb2)
    | fail)
   go_roundw
   case rel =>
    refine⟨k+1,by omega,by go_num,?_,B2.out⟩;show Ob _ _ _ _ _;rw[Qmg s k hlt,← HX.out]
    exact O2.out
   case measure=>simp[intOf];omega
  ·
   obtain rfl:k=8:=by omega
   go_wp2
   go_ret;exact⟨_,rfl,hob.out,hbel.out⟩
def wtL(T:LB):LB:=T.drop (64*(T.length / 64))
def stL(T:LB):St:=blks st0 T (T.length / 64)
theorem Qev(T:LB):(wtL T).length=T.length % 64:=by
 rw[wtL,List.length_drop];omega
theorem Qw6(T x:LB)(h:(wtL T).length+x.length<64):stL (T++x)=stL T∧wtL (T++x)=wtL T++x:=by
 rw[Qev] at h
 have e:(T++x).length / 64=T.length / 64:=by rw[List.length_append];omega
 refine⟨?_,?_⟩
 ·
  unfold stL;rw[e,Qlf st0 T x _ (by omega)]
 ·
  unfold wtL;rw[e,List.drop_append_of_le_length (by omega)]
theorem Qw7(T x:LB)(h:(wtL T).length+x.length=64):stL (T++x)=nxt (stL T) (wtL T++x)∧wtL (T++x)=[]:=by
 rw[Qev] at h
 have hd:=Qev T;have e:(T++x).length / 64=T.length / 64+1:=by rw[List.length_append];omega
 refine⟨?_,?_⟩
 ·
  unfold stL;rw[e,blks,Qlf st0 T x _ (by omega),List.drop_append_of_le_length (by omega)]
  congr 1
  rw[List.take_of_length_le]
  ·
   rfl
  ·
   show(wtL T++x).length≤64;rw[List.length_append];omega
 ·
  unfold wtL;rw[e]
  apply List.drop_eq_nil_of_le;rw[List.length_append];omega
theorem Ob.rd_n{w:World}{base n:Nat}{t:TypeId}{v:Value}{l:LB}(h:Ob w base t v l)(hl:l.length=n):∃ (A:OA) (c:Nat),v=.slice A n c∧n≤c∧c≤maxLen∧Rd w w.heap.size A n l:=by
 subst hl;exact h.rd
theorem Qn1{ops:Array Oper}{o:Oper}{a:Act}{w:World}{K:Act→World→Prop}{Q:Exit→Act→World→Prop}{E:Prop}(hgd:o.guard=none)(x y:Operand)(ho:o.op=.store 200 x y)
  (g:Nat) (s s':St) (v:Value) (z:Nat) (hx:a.eval x=.pointer (some ⟨g,0,none⟩)) (hy:a.eval y=.agg (wc s'.list).toArray) (hg:Dg w g s v z)
  (h:∀ W':World,Dg W' g s' v z→(∀ k,k≠g→W'.heap[k]?=w.heap[k]?)→(∀ (B:Nat) (w0:World),Below B w0 w→B≤g→Below B w0 W')→W'.heap.size=w.heap.size→K (a.put o.dst undef) W') :
  if Region.wanted o (yielded ops a.tmps)=true then Oper.wp Tryz.prog o a w K Q else E:=by
 have hw:Region.wanted o (yielded ops a.tmps)=true:=by simp[Region.wanted,hgd]
 rw[if_pos hw]
 have hrun:=run_storeCells_at (P:=Tryz.prog) g 0 203 (wc s'.list) 0 _ w hg (by show 0+0+8≤10;decide) (fun v hv=>by obtain⟨x,_,rfl⟩:=List.mem_map.1 hv;rfl);have e:((dgC s v z).toList.take (0+0)++wc s'.list++(dgC s v z).toList.drop (0+0+(wc s'.list).length)).toArray=dgC s' v z:=rfl;rw[e] at hrun
 have hv:(storeVar 200 ⟨g,0,none⟩ (.agg (wc s'.list).toArray)).run Tryz.prog w=.ok () (w.setRow g (dgC s' v z)):=by
  have hi:=Qvc;cases hq:Tryz.prog.info? 200 with
  | none=>simp[hq] at hi
  | some i =>
   have hs:i.size=8:=by simpa [hq] using hi
   have h8:(wc s'.list).toArray.size=8:=by rw[List.size_toArray,Qcd];rfl
   simp[storeVar,sizeOf,typeInfo,hq,Value.cells,hs,hrun];rw[show(wc s'.list).length=8 by rw[Qcd];rfl]
 unfold Oper.wp execOp;simp only[ho,hx,hy,Instr.storeAt,Instr.sureAddr,Sem.run_bind,Sem.run_pure,Result.andThen_ok,hv];exact h _ (setRow_heap w g _ _ _ _ hg) (fun k hk=>setRow_other w g k _ hk) (fun _ _ hb hB=>below_setRow hb hB _) (setRow_size w g _)
theorem Qci{P:Program}{md:Region.Mode}{l:List Oper}{Q:Exit→Act→World→Prop}{S:World→Prop}{i:Nat}{oi:Oper}{v:Value}{fuel:Nat}{listed:Array Bool}{a:Act}{w:World}(hi:l[i]?=some oi)
  (hs:Region.noSelect l.toArray=true) (hf:Region.free md l.toArray listed i=true) (hr:(Region.ready md l.toArray listed).contains i=true)
  (hQ:∀ c a w,Q (.panic c) (a.put oi.dst v) w→Q (.panic c) a w) (hw:Region.wanted oi (yielded l.toArray a.tmps)=true) (hy:∀ w,S w→(execOp a.eval oi).run P w=.ok (.value v) w) (hS:S w)
  (h:wpAnyH P md l.toArray Q S fuel (listed.setIfInBounds i true) (a.put oi.dst v) w):wpAnyH P md l.toArray Q S (fuel+1) listed a w :=
 wpAnyH_take (oi:=oi) (v:=v) (by simpa using hi) hs hf hr hQ (Or.inl ⟨hw,hy⟩) hS h
theorem Qti{P:Program}{w:World}{ops:Array Oper}{o:Oper}{a:Act}{K:Act→World→Prop}{Q:Exit→Act→World→Prop}{E:Prop}(hgd:o.guard=none)(s x:Operand)(t:TypeId)
  (ho:o.op=.call { callee:=.builtin .append,args:=#[s,x],argTypes:=#[t,t] })
  (base:Nat) (e:TypeId) (ht:P.underlying t=some (.slice e)) (hinfo:(P.info? e).map (fun i=>(i.zero,i.size,i.bytes))=some (some (.int .u8 0),1,1))
  (v:Value) (l:LB) (hs:a.eval s=v) (hown:Ob w base e v l) (B:Nat) (A:OA) (m c:Nat) (news:LB) (hx:a.eval x=.slice A m c) (hr:Rd w B A m news)
  (hbound:l.length+m≤140737488355328) (hbase:base≤w.heap.size)
  (h:∀ v' w',Ob w' base e v' (l++news)→w.grownBy w' v.ownBlock→(v'.ownBlock=v.ownBlock∨v'.ownBlock=some w.heap.size)→K (a.put o.dst v') w'):if Region.wanted o (yielded ops a.tmps)=true then Oper.wp P o a w K Q else E:=by
 have hw:Region.wanted o (yielded ops a.tmps)=true:=by simp[Region.wanted,hgd]
 rw[if_pos hw]
 obtain⟨v',w',hrun,h2,h3,h4⟩:=Qkt (P:=P) w base t o.type e ht hinfo v l hown B A m c news hr hbound hbase;unfold Oper.wp execOp;simp only[ho,resolve,invoke,builtin,Sem.run_bind,Sem.run_pure,Result.andThen_ok,List.map_toArray,List.map_cons,List.map_nil,hs,hx,hrun];exact h v' w' h2 h3 h4
theorem Ob.of_heap{w w':World}{base:Nat}{t:TypeId}{v:Value}{l:LB}(h:Ob w base t v l)(hk:∀ k,v.ownBlock=some k→w'.heap[k]?=w.heap[k]?):Ob w' base t v l :=
 ⟨h.1,h.2.imp id (fun ⟨g,cap,cur,h1,h2,h3,h4⟩=>⟨g,cap,cur,h1,h2,(hk g (by rw[h1];rfl)).trans h3,h4⟩)⟩
theorem Ob.none{w:World}{base:Nat}{t:TypeId}{q n cap:Nat}{l:LB}(h:Ob w base t (.slice (some ⟨q,0,none⟩) n cap) l):Ob w base t (.slice (some ⟨q,0,none⟩) 0 cap) []:=by
 rcases h.2 with ⟨hv,_⟩|⟨g,c,cur,h1,h2,h3,h4,h5,h6,h7⟩
 ·
  cases hv
 ·
  injection h1 with e1 e2 e3
  injection e1 with e1
  injection e1 with e1
  subst e1 e3;exact⟨rfl,.inr ⟨q,cap,cur,rfl,h2,h3,Nat.zero_le _,h5,h6,by simp⟩⟩
def Fr(w:World)(g:Nat)(v0:Value)(k:Nat):Prop:=k<w.heap.size∧k≠g∧v0.ownBlock≠some k
structure TkS (w wr:World) (g:Nat) (v0 v:Value) (S:St) (W:LB) (Z:Nat):Prop where
 dg:Dg wr g S v Z
 ob:Ob wr (g+1) 5 v W
 bl:Below g w wr
 fr:∀ k,Fr w g v0 k→wr.heap[k]?=w.heap[k]?
 ow:∀ k,v.ownBlock=some k→v0.ownBlock=some k∨w.heap.size≤k
 sz:w.heap.size≤wr.heap.size
section
variable {w wr w2 w3:World}{g:Nat}{v0 v v2:Value}{S S':St}{W W2:LB}{Z:Nat}
theorem TkS.own(h:TkS w wr g v0 v S W Z):∀ k,v.ownBlock=some k→g<k∧k<wr.heap.size:=fun k hk=>by
 have:=World.ownsRow.lt h.ob k hk
 omega
theorem TkS.set9(h:TkS w wr g v0 v S W Z)(y:Nat):TkS w (wr.setCell ⟨g,9,none⟩ (.int .i64 (y:Int))) g v0 v S W y where
 dg:=h.dg.setLen y
 ob:=ownsRow_setCell_below h.ob (a:=⟨g,9,none⟩) (Nat.lt_succ_self g) _
 bl:=h.bl.setCell (p:=⟨g,9,none⟩) zr _
 fr:=fun k hk=>(heap_setCell_other wr ⟨g,9,none⟩ k _ hk.2.1).trans (h.fr k hk)
 ow:=h.ow
 sz:=by rw[World.size_setCell];exact h.sz
theorem TkS.app(h:TkS w wr g v0 v S W Z)(hg:wr.grownBy w2 v.ownBlock)(ho:Ob w2 (g+1) 5 v2 W2)(hv:v2.ownBlock=v.ownBlock∨v2.ownBlock=some wr.heap.size):TkS w (w2.setCell ⟨g,8,none⟩ v2) g v0 v2 S W2 Z where
 dg:=(h.dg.of_block (hg.block g h.dg.lt (fun e=>by have:=(h.own g e.symm).1;omega))).setWait v2
 ob:=ownsRow_setCell_below ho (a:=⟨g,8,none⟩) (Nat.lt_succ_self g) _
 bl:=by
  have hb:Below g wr w2:=⟨hg.os,hg.tape,hg.output,hg.size,fun k hk=>hg.block k (by have:=h.dg.lt;omega) (fun e=>by have:=(h.own k e.symm).1;omega)⟩
  exact(h.bl.trans hb).setCell (p:=⟨g,8,none⟩) zr _
 fr:=fun k hk=>by
  rw[heap_setCell_other w2 ⟨g,8,none⟩ k _ hk.2.1,hg.block k (Nat.lt_of_lt_of_le hk.1 h.sz) (fun e=>by
   rcases h.ow k e.symm with h1|h1
   ·
    exact hk.2.2 h1
   ·
    have:=hk.1;omega)]
  exact h.fr k hk
 ow:=fun k hk=>by
  rcases hv with e|e
  ·
   exact h.ow k (by rw[← e];exact hk)
  ·
   rw[e] at hk
   injection hk with hk
   right
   rw[← hk]
   exact h.sz
 sz:=by rw[World.size_setCell];exact Nat.le_trans h.sz hg.size
theorem TkS.head(h:TkS w wr g v0 v S W Z)(hb:Below wr.heap.size wr w2)(hD:Dg w3 g S' v Z)(ho:∀ k,k≠g→w3.heap[k]?=w2.heap[k]?)(hB:∀ (B:Nat) (w0:World),Below B w0 w2→B≤g→Below B w0 w3)(hz:w3.heap.size=w2.heap.size):TkS w w3 g v0 v S' W Z where
 dg:=hD
 ob:=h.ob.of_heap fun k hk=>by
  have hk2:=h.own k hk;rw[ho k (by omega),hb.block k hk2.2]
 bl:=hB g w (h.bl.trans (hb.mono (Nat.le_of_lt h.dg.lt))) zr
 fr:=fun k hk=>by
  rw[ho k hk.2.1,hb.block k (Nat.lt_of_lt_of_le hk.1 h.sz)]
  exact h.fr k hk
 ow:=h.ow
 sz:=by rw[hz];exact Nat.le_trans h.sz hb.size
theorem TkS.empty{q n cap:Nat}(h:TkS w wr g v0 (.slice (some ⟨q,0,none⟩) n cap) S W Z):TkS w (wr.setCell ⟨g,8,none⟩ (.slice (some ⟨q,0,none⟩) 0 cap)) g v0 (.slice (some ⟨q,0,none⟩) 0 cap) S [] Z where
 dg:=h.dg.setWait _
 ob:=ownsRow_setCell_below h.ob.none (a:=⟨g,8,none⟩) (Nat.lt_succ_self g) _
 bl:=h.bl.setCell (p:=⟨g,8,none⟩) zr _
 fr:=fun k hk=>(heap_setCell_other wr ⟨g,8,none⟩ k _ hk.2.1).trans (h.fr k hk)
 ow:=h.ow
 sz:=by rw[World.size_setCell];exact h.sz
end
def Qw8:Value→Nat
 | .slice _ n _=>n
 | _=>0
def Q1c(w wr:World)(g:Nat)(v0 v:Value)(T:LB)(Z:Nat):Prop:=TkS w wr g v0 v (stL T) (wtL T) Z
theorem Qpm(g:Nat)(v0:Value)(T0:LB)(Ap:OA)(np cp:Nat)(ps:List Pt)(w:World)(hd:Dg w g (stL T0) v0 T0.length)(ho:Ob w (g+1) 5 v0 (wtL T0))
  (hp:PtsF w (Fr w g v0) Ap np ps) (hz:(T0++Qdn ps).length≤1099511627776) (hnp:np≤1099511627776) :
  Calls Tryz.prog 135 #[.pointer (some ⟨g,0,none⟩),.slice Ap np cp] w fun e w'=>e=.returned (.tuple #[])∧∃ v,Q1c w w' g v0 v (T0++Qdn ps) (T0++Qdn ps).length:=by
 have HP:=hid hp;have HZ:=hid hz;have H0:=hid ({ dg:=hd,ob:=ho,bl:=Below.refl _ _,fr:=fun _ _=>rfl,ow:=fun k hk=>.inl hk,sz:=Nat.le_refl _ }:TkS w w g v0 v0 (stL T0) (wtL T0) T0.length);clear hd ho hp hz;go_enter Tryz.func135,Tryz.ntmps135;go_wp2_with fail;go_loopw [9] (fun i wr=>∃ (k:Nat) (v:Value),k≤np∧i=.int .i64 k∧Hid (Q1c w wr g v0 v (T0++Qdn (ps.take k)) (T0++Qdn (ps.take k)).length)) (fun i _=>np - (intOf i).toNat)
 case atStart=>exact⟨0,v0,Nat.zero_le _,rfl,by rw[List.take_zero,show Qdn []=[] from rfl,List.append_nil];exact H0.out⟩
 case round =>
  obtain⟨k,v,hk,rfl,hst⟩:=hrel;by_cases hlt:k<np
  ·
   obtain⟨p,hpk⟩:∃ p,ps[k]?=some p:=⟨_,List.getElem?_eq_getElem (by rw[HP.out.1];exact hlt)⟩
   obtain⟨bp,op,rfl,hFp,hcp⟩:=HP.out.2.1 (by omega);obtain⟨hpr,hpc,hpm⟩:=HP.out.2.2 p (List.mem_of_getElem? hpk);have hcell:wr.cell? ⟨bp,op+k,none⟩=some (.slice p.A p.n p.c):=by
    rw[← hcp k p hpk]
    simp only[World.cell?];rw[(TkS.fr hst.out) bp hFp]
   obtain⟨T,hT⟩:∃ T,T=T0++Qdn (ps.take k):=⟨_,rfl⟩
   have hT2:T0++Qdn (ps.take (k+1))=T++p.l:=by rw[Qwc hpk,← List.append_assoc,hT]
   have hst2:=hst.out;rw[← hT] at hst2
   have hlen9:=(TkS.dg hst2).len;have hf9:=(TkS.dg hst2).free 9;have hsum:(T++p.l).length≤1099511627776:=by
    rw[← hT2]
    have e:T0++Qdn ps=(T0++Qdn (ps.take (k+1)))++Qdn (ps.drop (k+1)):=by
     rw[List.append_assoc]
     congr 1
     conv=>lhs;rw[← List.take_append_drop (k+1) ps]
     exact List.flatMap_append ..
    have:=HZ.out
    rw[e,List.length_append] at this
    omega
   have hnl:=hpr.1;have hlT:(T++p.l).length=T.length+p.n:=by rw[List.length_append,hnl]
   have hs1:(T.length:Int)+(p.n:Int)≤1099511627776:=by omega
   have ST:=hid hst2;have HTT:=hid hT2;have HPR:=hid hpr;have HSUM:=hid hsum;have HLT:=hid hlT;obtain⟨L0,hL0⟩:∃ L,L=T.length:=⟨_,rfl⟩
   rw[← hL0] at hlen9 hs1
   have HL0:=hid hL0;have HFP:=hid hFp;clear hst hT hT2 hst2 hpk hcp hFp hpr hsum hlT hL0 hnl;obtain⟨wq,hwq⟩:∃ W,W=wr:=⟨_,rfl⟩
   subst hwq;have ST9:=hid (TkS.set9 ST.out (T++p.l).length);rw[HLT.out,← HL0.out] at ST9
   have HPR9:Hid (RdF (wq.setCell ⟨g,9,none⟩ (.int .i64 ((L0+p.n:Nat):Int))) (Fr w g v0) p.A p.n p.l):=HPR.out.keep fun b hb=>(TkS.fr ST9.out) b hb
   go_wp2_with fail;go_loopw [5] (fun q wy=>∃ (A':OA) (n' c':Nat) (v:Value) (T' rest:LB),q=.slice A' n' c'∧n'≤c'∧c'≤9223372036854775807∧Hid (RdF wy (Fr w g v0) A' n' rest)∧Hid (T'++rest=T++p.l)∧Hid (Q1c w wy g v0 v T' (L0+p.n)))
    (fun q _=>Qw8 q)
   case atStart=>exact⟨p.A,p.n,p.c,v,T,p.l,rfl,hpc,hpm,HPR9.out,rfl,ST9.out⟩
   case round =>
    obtain⟨A',n',c',v,T',rest,rfl,hc',hcm,hrd,hcat,hst⟩:=hrel;by_cases h0:0<n'
    ·
     have hlr:=hrd.out.1;have hwl:=Qev T';obtain⟨nW,hnW⟩:∃ n,n=(wtL T').length:=⟨_,rfl⟩
     have hnW64:nW<64:=by omega
     obtain⟨Av,cv,rfl,hvc,hvm,hvr⟩:=Ob.rd_n (TkS.ob hst.out) hnW.symm;obtain⟨m,hm⟩:∃ m,m=min (64 - nW) n':=⟨_,rfl⟩
     have hmin:min (64 - (nW:Int)) (n':Int)=(m:Int):=by omega
     have hm1:m≤n':=by omega
     have hm2:0<m:=by omega
     have hm3:nW+m≤64:=by omega
     have hc8:=(TkS.dg hst.out).wait;have hf8:=(TkS.dg hst.out).free 8;obtain⟨A1,c1,hs1,hc1,hc1',hr1⟩:=Q2y (P:=Tryz.prog) 29 5 rfl Qdc c' hrd.out (m:Int) m rfl hm1 hc';obtain⟨A2,c2,hs2,hc2,hc2',hr2⟩:=Q2x (P:=Tryz.prog) 29 5 rfl Qdc c' hrd.out (m:Int) m rfl hm1 hc';have HR1:=hid hr1;have HR2:=hid hr2;have HNW:=hid hnW;have HM:=hid hm;have n0:(0:Int)<(n':Int):=by omega
     have w0:(nW:Int)<64:=by omega
     obtain⟨X,hX⟩:∃ X,X=rest.take m:=⟨_,rfl⟩
     obtain⟨W,hW⟩:∃ W,W=wtL T':=⟨_,rfl⟩
     obtain⟨S,hS⟩:∃ S,S=stL T':=⟨_,rfl⟩
     have hst2:TkS w wr g v0 (.slice Av nW cv) S W (L0+p.n):=by rw[hW,hS];exact hst.out
     have hXl:X.length=m:=by rw[hX,List.length_take,hlr];omega
     have hWl:W.length=nW:=by rw[hW,hnW]
     rw[← hX] at hr1
     have hrd1:Rd wr wr.heap.size A1 m X:=hr1.rd (fun b hb=>Nat.lt_of_lt_of_le hb.1 hst2.sz);have hbn:W.length+m≤140737488355328:=by rw[hWl];omega
     have HST2:=hid hst2;have HRD1:=hid hrd1;have HBN:=hid hbn;have HX:=hid hX;have HW:=hid hW;have HS:=hid hS;have HGL:=hid (show g+1≤wr.heap.size from hst2.dg.lt);obtain⟨nx,hnx⟩:∃ n,n=nW+m:=⟨_,rfl⟩
     have hlx:(W++X).length=nx:=by rw[List.length_append,hWl,hXl,hnx]
     have HLX:=hid hlx;have HNX:=hid hnx;clear hlr hwl hnW hvr hm hr1 hr2 hX hW hS hst2 hXl hWl hrd1 hbn hlx hnx;go_wp2_with fail;go_region_law (first
      | (refine Qti rfl (.tmp 38) (.tmp 41) 29 rfl (g+1) 5 Tryz.underlying29 Qak _ W rfl (TkS.ob HST2.out).drew wr.heap.size A1 m c1 X rfl HRD1.out.drew HBN.out HGL.out ?_;intro v2 w2 ho2 hb2 hv2;have T2:=hid (TkS.app HST2.out ⟨hb2.os,hb2.tape,hb2.output,hb2.size,hb2.block⟩ ho2 hv2);have d2:=(TkS.dg HST2.out).of_block (hb2.block g (TkS.dg HST2.out).lt (fun e=>by have:=(TkS.own HST2.out g e.symm).1;omega));have cz:=d2.wait;have fz:=d2.free 8;obtain⟨Ax,cx,rfl,hxc,hxm,hxr⟩:=Ob.rd_n ho2 HLX.out;have O2:=hid ho2;clear ho2 hb2 hv2 d2 hxr)
      | fail)
     clear cz fz;generalize w2.setCell ⟨g,8,none⟩ (.slice Ax nx cx)=wz at *;have HKR:Hid (RdF wr (Fr w g v0) A2 (n' - m) (rest.drop m)):=HR2.out;have HFR:=hid (fun (W3:World) (hf:∀ k,Fr w g v0 k→W3.heap[k]?=w.heap[k]?)=>HR2.out.keep fun b hb=>(hf b hb).trans ((TkS.fr HST2.out) b hb).symm);have HCAT2:Hid ((T'++X)++rest.drop m=T++p.l):=by
      show _=_;rw[List.append_assoc,HX.out,List.take_append_drop];exact hcat.out
     have hc8:=(TkS.dg T2.out).wait;by_cases hfull:nx=64
     ·
      obtain rfl:64=nx:=hfull.symm;have hx64:(wtL T').length+X.length=64:=by rw[← HW.out,← List.length_append];exact HLX.out
      obtain⟨hst3,hwt3⟩:=Qw7 T' X hx64;rw[← HS.out,← HW.out] at hst3
      obtain⟨q,rfl⟩:∃ q,Ax=some ⟨q,0,none⟩:=by
       obtain⟨q,cap,hv,_⟩:=(TkS.ob T2.out).form (by rw[HLX.out];decide);injection hv with hv
       exact⟨q,hv⟩
      obtain⟨_,hrdW,_,_⟩:=(TkS.ob T2.out).rd_;have e0:=(TkS.dg T2.out).word 0 (by decide);have e1:=(TkS.dg T2.out).word 1 (by decide);have e2:=(TkS.dg T2.out).word 2 (by decide);have e3:=(TkS.dg T2.out).word 3 (by decide);have e4:=(TkS.dg T2.out).word 4 (by decide);have e5:=(TkS.dg T2.out).word 5 (by decide);have e6:=(TkS.dg T2.out).word 6 (by decide);have e7:=(TkS.dg T2.out).word 7 (by decide);have C:=hid (show Calls Tryz.prog 156 #[.agg #[.int .u32 ((S.list.getD 0 0).toNat:Int),.int .u32 ((S.list.getD 1 0).toNat:Int),.int .u32 ((S.list.getD 2 0).toNat:Int),.int .u32 ((S.list.getD 3 0).toNat:Int),.int .u32 ((S.list.getD 4 0).toNat:Int),.int .u32 ((S.list.getD 5 0).toNat:Int),.int .u32 ((S.list.getD 6 0).toNat:Int),.int .u32 ((S.list.getD 7 0).toNat:Int)],.slice (some ⟨q,0,none⟩) 64 cx] wz.drew _ from Qxy S _ cx wz.heap.size (W++X) wz.drew hrdW.drew zr hxc (by unfold maxLen at hxm;omega))
      obtain⟨KK,hKK⟩:∃ K,K=(wc (nxt S (W++X)).list).toArray:=⟨_,rfl⟩
      have c:=C.out;rw[← hKK] at c
      have C:=hid c;have HKK:=hid hKK;clear c hKK;have HW3:=hid hwt3;have HS3:=hid hst3;clear hx64 hst3 hwt3 hrdW;generalize S.list.getD 0 0=s0 at *;generalize S.list.getD 1 0=s1 at *;generalize S.list.getD 2 0=s2 at *;generalize S.list.getD 3 0=s3 at *;generalize S.list.getD 4 0=s4 at *;generalize S.list.getD 5 0=s5 at *;generalize S.list.getD 6 0=s6 at *;generalize S.list.getD 7 0=s7 at *;go_wp2_with fail;refine wp_region_held_drew (S:=fun W=>W.cell? ⟨g,8,none⟩=some (.slice (some ⟨q,0,none⟩) 64 cx)) (by kernel_rfl) hc8 (fun hHeld=>?_);refine Qci (i:=0) (v:=?v0) rfl (by kernel_rfl) (by kernel_rfl) (by kernel_rfl) (fun _ _ _ h=>h) (by rfl) ?hy0 (by assumption) ?rest0
      case hy0=>(intro w hSw;go_simp;try with_reducible rfl)
      try simp only[zs]
      refine Qci (i:=1) (v:=?v1) rfl (by kernel_rfl) (by kernel_rfl) (by kernel_rfl) (fun _ _ _ h=>h) (by rfl) ?hy1 (by assumption) ?rest1
      case hy1=>(intro w hSw;go_simp;try with_reducible rfl)
      try simp only[zs]
      refine Qci (i:=2) (v:=?v2) rfl (by kernel_rfl) (by kernel_rfl) (by kernel_rfl) (fun _ _ _ h=>h) (by rfl) ?hy2 (by assumption) ?rest2
      case hy2=>(intro w hSw;go_simp;try with_reducible rfl)
      try simp only[zs]
      refine Qci (i:=3) (v:=?v3) rfl (by kernel_rfl) (by kernel_rfl) (by kernel_rfl) (fun _ _ _ h=>h) (by rfl) ?hy3 (by assumption) ?rest3
      case hy3=>(intro w hSw;go_simp;try with_reducible rfl)
      try simp only[zs]
      refine Qci (i:=5) (v:=?v5) rfl (by kernel_rfl) (by kernel_rfl) (by kernel_rfl) (fun _ _ _ h=>h) (by rfl) ?hy5 (by assumption) ?rest5
      case hy5=>(intro w hSw;go_simp;try with_reducible rfl)
      try simp only[zs]
      refine Qci (i:=6) (v:=?v6) rfl (by kernel_rfl) (by kernel_rfl) (by kernel_rfl) (fun _ _ _ h=>h) (by rfl) ?hy6 (by assumption) ?rest6
      case hy6=>(intro w hSw;go_simp;try with_reducible rfl)
      try simp only[zs]
      refine Qci (i:=7) (v:=?v7) rfl (by kernel_rfl) (by kernel_rfl) (by kernel_rfl) (fun _ _ _ h=>h) (by rfl) ?hy7 (by assumption) ?rest7
      case hy7=>(intro w hSw;go_simp;try with_reducible rfl)
      try simp only[zs]
      refine Qci (i:=8) (v:=?v8) rfl (by kernel_rfl) (by kernel_rfl) (by kernel_rfl) (fun _ _ _ h=>h) (by rfl) ?hy8 (by assumption) ?rest8
      case hy8=>(intro w hSw;go_simp;try with_reducible rfl)
      try simp only[zs]
      refine wpAnyH_ready (rs:=[4]) (by kernel_rfl) (by simp) ?_;refine AllReadyH.cons rfl (fun K hK=>?_) AllReadyH.nil;go_simp
      refine hK.out _ _ hc8 (fun hHeld=>?_);try simp only[zs]
      clear hK K;refine wpAnyH_ready (rs:=[9]) (by kernel_rfl) (by simp) ?_;refine AllReadyH.cons rfl (fun K hK=>?_) AllReadyH.nil;go_simp
      refine C.out.mono ?_;rintro e w3 ⟨rfl,hb3⟩;have B3:=hid hb3;have D3:=hid ((TkS.dg T2.out).of_block (hb3.block g (TkS.dg T2.out).lt));clear hb3;go_simp
      refine hK.out _ _ D3.out.wait (fun hHeld=>?_);try simp only[zs]
      clear hK K;refine Qci (i:=10) (v:=?v10) rfl (by kernel_rfl) (by kernel_rfl) (by kernel_rfl) (fun _ _ _ h=>h) (by rfl) ?hy10 (by assumption) ?rest10
      case hy10=>(intro w hSw;go_simp;try with_reducible rfl)
      try simp only[zs]
      refine Qci (i:=11) (v:=?v11) rfl (by kernel_rfl) (by kernel_rfl) (by kernel_rfl) (fun _ _ _ h=>h) (by rfl) ?hy11 (by assumption) ?rest11
      case hy11=>(intro w hSw;go_simp;try with_reducible rfl)
      try simp only[zs]
      refine wpAnyH_ready (rs:=[12]) (by kernel_rfl) (by simp) ?_;refine AllReadyH.cons rfl (fun K hK=>?_) AllReadyH.nil;refine Qn1 rfl (.tmp 65) (.tmp 63) rfl g S (nxt S (W++X)) _ _ rfl (congrArg Value.agg HKK.out) D3.out ?_;intro w4 d4 o4 b4 z4;have T4:=hid (TkS.head T2.out ⟨B3.out.os,B3.out.tape,B3.out.output,B3.out.size,B3.out.block⟩ d4 o4 b4 z4);clear d4 o4 b4 z4;refine hK.out _ _ T4.out.dg.wait (fun hHeld=>?_);try simp only[Act.put]
      clear hK K;refine wpAnyH_done (by kernel_rfl) ?_ _;have hfin:Q1c w (w4.setCell ⟨g,8,none⟩ (.slice (some ⟨q,0,none⟩) 0 cx)) g v0 (.slice (some ⟨q,0,none⟩) 0 cx) (T'++X) (L0+p.n):=by
       unfold Q1c;rw[HS3.out,HW3.out]
       exact TkS.empty T4.out
      have HFIN:=hid hfin;have hc9:=T4.out.dg.wait;have hf9:=T4.out.dg.free 8;clear hfin e0 e1 e2 e3 e4 e5 e6 e7 hc8;go_wp2_with fail;go_roundw
      case rel=>exact⟨A2,n' - m,c2,_,T'++X,rest.drop m,rfl,hc2,Nat.le_trans hc2' hcm,HFR.out _ (TkS.fr HFIN.out),HCAT2.out,HFIN.out⟩
      case measure=>show n' - m<n';omega
     ·
      have hne:((nx:Int)==64)=false:=by simp;omega
      have hx64:(wtL T').length+X.length<64:=by
       have h:=HLX.out;rw[List.length_append,HW.out] at h
       have:=HNX.out
       omega
      obtain⟨hst3,hwt3⟩:=Qw6 T' X hx64;have hfin:Q1c w wz g v0 (.slice Ax nx cx) (T'++X) (L0+p.n):=by
       unfold Q1c;rw[hst3,hwt3,← HS.out,← HW.out]
       exact T2.out
      have HFIN:=hid hfin;clear hx64 hst3 hwt3 hfin;go_wp2_with fail;go_roundw
      case rel=>exact⟨A2,n' - m,c2,_,T'++X,rest.drop m,rfl,hc2,Nat.le_trans hc2' hcm,HFR.out _ (TkS.fr HFIN.out),HCAT2.out,HFIN.out⟩
      case measure=>show n' - m<n';omega
    ·
     obtain rfl:n'=0:=by omega
     have hr0:rest=[]:=List.eq_nil_of_length_eq_zero hrd.out.1;have hend:=hst.out;have hcc:=hcat.out;rw[hr0,List.append_nil] at hcc
     rw[hcc,← HTT.out] at hend
     have hz2:L0+p.n=(T0++Qdn (ps.take (k+1))).length:=by rw[HTT.out,HLT.out,← HL0.out]
     rw[hz2] at hend
     have HEND:=hid hend;clear hend hcc hz2 hr0;go_wp2_with fail;go_roundw
     case rel=>exact⟨k+1,v,by omega,by go_num,HEND.out⟩
     case measure=>simp[intOf];omega
  ·
   obtain rfl:k=np:=by omega
   have hs:=hst.out;rw[List.take_of_length_le (by rw[HP.out.1];exact Nat.le_refl _)] at hs
   have HS:=hid hs;clear hs;go_wp2_with fail;go_end0
   exact⟨rfl,v,HS.out⟩
theorem PtsF.imp{w:World}{F G:Nat→Prop}{A:OA}{n:Nat}{ps:List Pt}(h:PtsF w F A n ps)(hF:∀ b,F b→G b):PtsF w G A n ps :=
 ⟨h.1,fun hn=>by
  obtain⟨b,o,e,hb,hc⟩:=h.2.1 hn;exact⟨b,o,e,hF b hb,hc⟩,fun p hp=>⟨(h.2.2 p hp).1.imp hF,(h.2.2 p hp).2⟩⟩
theorem Ob.rdF{w:World}{base n c:Nat}{t:TypeId}{A:OA}{l:LB}(h:Ob w base t (.slice A n c) l):RdF w (fun k=>base≤k∧k<w.heap.size) A n l:=by
 obtain⟨hl,hr,_,_⟩:=h.rd_;refine⟨hl,fun hn=>?_⟩;obtain⟨q,cap,hv,hb,hq,_⟩:=h.form (by omega);obtain⟨b,o,e,_,hc⟩:=hr.2 hn;injection hv with e1
 rw[e] at e1
 injection e1 with e1
 injection e1 with e1 e2
 subst e1 e2;exact⟨b,0,e,⟨hb,hq⟩,hc⟩
theorem Qqu(Ap:OA)(np cp:Nat)(ps:List Pt)(w:World)(hp:PtsF w (·<w.heap.size) Ap np ps)(hz:(Qdn ps).length≤549755813888)(hnp:np≤1099511627776) :
  Calls Tryz.prog 112 #[.slice Ap np cp] w (Qbi 5 (Qkq (Qdn ps)) w):=by
 have HP:=hid hp;have HZ:=hid hz;have C1:=hid (show Calls Tryz.prog 134 #[] w (fun e w'=>e=.returned (.agg #[.int .u32 1779033703,.int .u32 3144134277,.int .u32 1013904242,.int .u32 2773480762,.int .u32 1359893119,.int .u32 2600822924,.int .u32 528734635,.int .u32 1541459225])∧Below w.heap.size w w') from Qjf w);clear hp hz;go_enter Tryz.func112,Tryz.ntmps112;go_wp2_with fail;refine C1.out.mono ?_;rintro e w1 ⟨rfl,hb1⟩;have B1:=hid hb1;clear hb1;go_wp2_with fail;have hD:Dg (w1.alloc zk7) w1.heap.size (stL []) (.slice none 0 0) ([]:LB).length:=heap_alloc_new w1 _;have hz1:w.heap.size≤w1.heap.size:=B1.out.size
 have hP1:PtsF (w1.alloc zk7) (Fr (w1.alloc zk7) w1.heap.size (.slice none 0 0)) Ap np ps:=by
  refine(HP.out.keep (fun b hb=>?_)).imp (fun b hb=>⟨?_,?_,fun e=>by cases e⟩)
  ·
   rw[Qfj _ _ _ (Nat.lt_of_lt_of_le hb hz1),B1.out.block b hb]
  ·
   simp only[World.size_alloc];omega
  ·
   have:b<w.heap.size:=hb
   omega
 have hB1:Below w.heap.size w (w1.alloc zk7):=B1.out.alloc hz1 _;obtain⟨g,hg⟩:∃ g,g=w1.heap.size:=⟨_,rfl⟩
 rw[← hg] at hD hP1 hz1 ⊢
 generalize w1.alloc zk7=W1 at *;have hT1:=Qpm g (.slice none 0 0) [] Ap np cp ps W1 hD (Ob.nil_ _ _ _) hP1 (by rw[List.nil_append];have:=HZ.out;omega) hnp;rw[List.nil_append] at hT1
 have T1:=hid hT1;have BW:=hid hB1;have HGW:=hid hz1;obtain⟨T,hT⟩:∃ T,T=Qdn ps:=⟨_,rfl⟩
 have t1:=T1.out;have hzT:=HZ.out;rw[← hT] at t1 hzT
 have T2:=hid t1;have HT:=hid hT;have HZT:=hid hzT;clear hD hP1 hB1 hT1 hz1 T1 hT t1 hzT hg B1 C1;refine T2.out.mono ?_;rintro e w2 ⟨rfl,v1,ht⟩;have TK:=hid ht;obtain⟨N,hN⟩:∃ N,N=T.length:=⟨_,rfl⟩
 have hc9:=(TkS.dg ht).len;rw[← hN] at hc9
 have CP:=hid (Qyv N (by have:=HZT.out;omega) w2);have HN:=hid hN;clear ht hN;go_wp2_with fail;refine CP.out.mono ?_;rintro e w3 ⟨v2,rfl,ho3,hb3⟩;obtain⟨nx,hnx⟩:∃ n,n=(Qkz N).length:=⟨_,rfl⟩
 obtain⟨Ax,cx,rfl,hxc,hxm,-⟩:=Ob.rd_n ho3 hnx.symm;have O3:=hid ho3;have B3:=hid hb3;have HNX:=hid hnx;clear ho3 hb3 hnx;go_wp2_with fail;have hgl:=(TkS.dg TK.out).lt;have hs3:=B3.out.size;have hb4:Below w2.heap.size w2 (w3.alloc (zo9 Ax nx cx)):=B3.out.alloc hs3 _;have hd4:Dg (w3.alloc (zo9 Ax nx cx)) g (stL T) v1 T.length:=(TkS.dg TK.out).of_block (hb4.block g hgl);have ho4:Ob (w3.alloc (zo9 Ax nx cx)) (g+1) 5 v1 (wtL T):=(TkS.ob TK.out).below hb4;have hp4:PtsF (w3.alloc (zo9 Ax nx cx)) (Fr (w3.alloc (zo9 Ax nx cx)) g v1) (some ⟨w3.heap.size,0,none⟩) 1 [⟨Ax,nx,cx,Qkz N⟩]:=by
  refine⟨rfl,fun _=>⟨w3.heap.size,0,rfl,⟨by simp,by omega,fun e=>?_⟩,fun i p hi=>?_⟩,fun p hp=>?_⟩
  ·
   have:=(TkS.own TK.out _ e).2;omega
  ·
   have:i=0:=by
    rcases Nat.eq_zero_or_pos i with h|h
    ·
     exact h
    ·
     rw[List.getElem?_eq_none (by simp;omega)] at hi;cases hi
   subst this;injection hi with hi
   subst hi;simp only[World.cell?,Nat.zero_add];rw[heap_alloc_new]
   rfl
  ·
   rw[List.mem_singleton.1 hp]
   refine⟨((O3.out.rdF).keep (fun b hb=>Qfj _ _ _ hb.2)).imp (fun b hb=>⟨?_,?_,fun e=>?_⟩),hxc,by unfold maxLen at hxm;show cx≤_;omega⟩
   ·
    have:=hb.2;simp;omega
   ·
    have:=hb.1;omega
   ·
    have h1:=(TkS.own TK.out _ e).2;have:=hb.1;omega
 have hPl:(Qkz N).length≤72:=by rw[Qid];omega
 have hcat:Qdn [(⟨Ax,nx,cx,Qkz N⟩:Pt)]=Qkz N:=by simp[Qdn]
 have hT5:=Qpm g v1 T _ 1 1 _ _ hd4 ho4 hp4 (by rw[hcat,List.length_append];have:=HZT.out;omega) (by decide);rw[hcat] at hT5
 have T5:=hid hT5;have B4:=hid hb4;have HGL:=hid hgl;clear hgl hs3 hb4 hd4 ho4 hp4 hPl hcat hT5;refine T5.out.mono ?_;rintro e w5 ⟨rfl,v3,ht5⟩;have TK5:=hid ht5;have CB:=hid (Qsi g _ _ _ w5 (TkS.dg ht5));clear ht5;go_wp2_with fail;refine CB.out.mono ?_;rintro e w6 ⟨v6,rfl,ho6,hb6⟩;have hb:Below w.heap.size w w5:=by
  have b1:=BW.out;have b2:=(TkS.bl TK.out).mono HGW.out;have b3:=(B4.out.mono (Nat.le_of_lt HGL.out)).mono HGW.out;have b4:=(TkS.bl TK5.out).mono HGW.out;exact((b1.trans b2).trans b3).trans b4
 have O6:=hid (ho6.low hb.size);have B6:=hid (hb.trans (hb6.mono hb.size));clear ho6 hb6 hb;go_wp2_with fail;go_ret;refine⟨_,rfl,?_,B6.out⟩;have e:Qkq (Qdn ps)=Qif (stL (T++Qkz N)).list:=by rw[← HT.out,HN.out];rfl
 rw[e]
 exact O6.out
theorem Qky(W:World)(t:TypeId)(ps:List Pt)(cs:Array Value)(hcs:cs=(ps.map fun p=>Value.slice p.A p.n p.c).toArray)(n:Nat)(hn:ps.length=n)(h:∀ p∈ps,Rd W W.heap.size p.A p.n p.l∧p.n≤p.c∧p.c≤9223372036854775807) :
  PtsF (W.alloc (.cells cs t)) (·<(W.alloc (.cells cs t)).heap.size) (some ⟨W.heap.size,0,none⟩) n ps:=by
 subst hcs;refine⟨hn,fun _=>⟨W.heap.size,0,rfl,by simp,fun i p hp=>?_⟩,fun p hp=>⟨?_,(h p hp).2⟩⟩
 ·
  simp only[World.cell?,Nat.zero_add];rw[heap_alloc_new]
  simp[hp]
 ·
  exact((h p hp).1.alloc zr _).rdF (fun b hb=>by simp;omega)
theorem Qd8(p:Pt):Qdn [p]=p.l:=by simp[Qdn]
theorem Qw3(A:OA)(n c:Nat)(l:LB)(W:World)(h:Rd W W.heap.size A n l)(hc:n≤c)(hc2:c≤9223372036854775807)(hz:l.length≤549755813888) :
  Calls Tryz.prog 112 #[.slice (some ⟨W.heap.size,0,none⟩) 1 1] (W.alloc (zo9 A n c)) (Qbi 5 (Qkq l) (W.alloc (zo9 A n c))):=by
 have hp:=Qky W 29 [⟨A,n,c,l⟩] #[.slice A n c] rfl 1 rfl (fun p hp=>by rw[List.mem_singleton.1 hp];exact⟨h,hc,hc2⟩);have:=Qqu _ 1 1 _ _ hp (by rw[Qd8];exact hz) (by decide)
 rwa[Qd8] at this
theorem Qip:(Tryz.prog.info? 89).map (fun i=>(i.zero,i.size,i.bytes))=some (some (.int .u32 0),1,4):=by kernel_rfl
theorem Ow.low{w:World}{base base':Nat}{t:TypeId}{v:Value}{l:List (BitVec 32)}(h:Ow w base t v l)(hb:base'≤base):Ow w base' t v l :=
 ⟨h.1,h.2.imp id (fun ⟨g,cap,cur,h1,h2,h3⟩=>⟨g,cap,cur,h1,Nat.le_trans hb h2,h3⟩)⟩
def Qwq(t:TypeId)(l:List (BitVec 32))(w:World)(e:Ending)(w':World):Prop:=∃ v,e=.returned v∧Ow w' w.heap.size t v l∧Below w.heap.size w w'
theorem Qxg(N:Nat)(hN:N≤1099511627776)(w:World):Calls Tryz.prog 39 #[.int .i64 (N:Int)] w (Qbi 5 (Qkz N) w):=by
 obtain⟨m,hm⟩:∃ m,m=63 - (N % 64+8) % 64:=⟨_,rfl⟩
 have HP:Hid (Qkz N=(128::List.replicate m (0:UInt8))++be (8*N) 8):=by show _=_;rw[Qkz,hm];rfl
 have C2:=hid (fun W=>(show Calls Tryz.prog 38 #[.int .u64 (8*(N:Int)),.int .i64 8] W (Qbi 5 (be (8*(N:Int)).toNat 8) W) from Qkv (8*(N:Int)) 8 W (by omega) (by omega) (by decide)));have HE:Hid (be (8*(N:Int)).toNat 8=be (8*N) 8):=by show _=_;congr 1
 have w8:IntKind.u64.wrap (8*(N:Int))=8*(N:Int):=by rw[IntKind.wrap_u64];omega
 have HM:=hid hm;clear hm;go_enter Tryz.func39,Tryz.ntmps39;have n0:(0:Int)≤(N:Int):=by omega
 go_wp2_with fail;go_loopw [3] (fun v wr=>∃ k:Nat,k≤m∧(∃ A c,v=.slice A (1+k) c)∧Hid (Ob wr w.heap.size 5 v (128::List.replicate k 0))∧Hid (Below w.heap.size w wr)) (fun v _=>100 - Qw8 v)
 case atStart =>
  refine⟨0,Nat.zero_le _,⟨_,_,rfl⟩,?_,zb⟩;exact Ob.lit w [128] #[.int .u8 128] rfl zr 1 rfl (by decide)
 case round =>
  obtain⟨k,hk,⟨A,c,rfl⟩,hob,hbel⟩:=hrel;have hmm:=HM.out;have hk6:k<64:=by omega
  by_cases hlt:k<m
  ·
   have ht:(((N:Int) % 64+(1+(k:Int))+8) % 64 != 0)=true:=by
    rw[bne_iff_ne];omega
   have ht2:¬ ((N:Int)+(1+(k:Int))+8) % 64=0:=by omega
   obtain⟨L,hL⟩:∃ L,L=(128::List.replicate k (0:UInt8)):=⟨_,rfl⟩
   have ho:=hob.out;rw[← hL] at ho
   have hl:L.length=1+k:=by rw[hL];simp;omega
   have hl2:(L++[0]).length=1+(k+1):=by simp[hl];omega
   have HO:=hid ho;have HL:=hid hL;have HLL:=hid hl;have HL2:=hid hl2;have HK:=hid hlt;clear ho hL hl hl2 hmm;go_wp2_with (first
    | (at_builtin;refine Qam rfl (.tmp 15) (.tmp 16) 29 rfl w.heap.size 5 Tryz.underlying29 Qak _ L rfl (HO.out.alloc _) _ _ 1 1 [0] rfl (Rd.lit wr _ rfl [0] _ _ rfl 1 rfl) (by rw[HLL.out];have:=HK.out;have:=HM.out;omega) (Nat.le_trans hbel.out.size (Qaa _ _)) ?_;intro v1 w1 ho1 hb1;obtain⟨A1,c1,rfl,-,-,-⟩:=Ob.rd_n ho1 HL2.out;have O1:=hid ho1;have B1:=hid ((hbel.out.alloc hbel.out.size _).trans hb1);clear ho1 hb1)
    | fail)
   go_roundw
   case rel =>
    refine⟨k+1,by omega,⟨A1,c1,rfl⟩,?_,B1.out⟩;show Ob _ _ _ _ _;have h:=O1.out;rw[HL.out,List.cons_append,← List.replicate_succ'] at h
    exact h
   case measure=>show 100 - (1+(k+1))<100 - (1+k);have:=HM.out;omega
  ·
   obtain rfl:k=m:=by omega
   have ht:(((N:Int) % 64+(1+(k:Int))+8) % 64 != 0)=false:=by
    rw[bne_eq_false_iff_eq];omega
   have ht2:((N:Int)+(1+(k:Int))+8) % 64=0:=by omega
   clear hmm;go_wp2_with fail;refine(C2.out wr).mono ?_;rintro e w2 ⟨v2,rfl,ho2,hb2⟩;rw[HE.out] at ho2
   obtain⟨A2,c2,rfl,-,-,hr2⟩:=Ob.rd_n ho2 (Qa9 _ 8);have O2:=hid (hob.out.below hb2);have R2:=hid hr2;have B2:=hid (hbel.out.trans (hb2.mono hbel.out.size));clear ho2 hb2 hr2;go_wp2_with (first
    | (at_builtin;refine Qam rfl (.tmp 18) (.tmp 22) 29 rfl w.heap.size 5 Tryz.underlying29 Qak _ (128::List.replicate k 0) rfl O2.out _ _ 8 c2 (be (8*N) 8) rfl R2.out (by simp;omega) B2.out.size ?_;intro v3 w3 ho3 hb3;have O3:=hid ho3;have B3:=hid (B2.out.trans hb3);clear ho3 hb3)
    | fail)
   go_ret;exact⟨_,rfl,by rw[HP.out];exact O3.out,B3.out⟩
theorem Qra{P:Program}{w:World}{ops:Array Oper}{o:Oper}{a:Act}{K:Act→World→Prop}{Q:Exit→Act→World→Prop}{E:Prop}(hgd:o.guard=none)(s x:Operand)(t:TypeId)
  (ho:o.op=.call { callee:=.builtin .append,args:=#[s,x],argTypes:=#[t,t] })
  (base:Nat) (e:TypeId) (ht:P.underlying t=some (.slice e)) (hinfo:(P.info? e).map (fun i=>(i.zero,i.size,i.bytes))=some (some (.int .u32 0),1,4))
  (v:Value) (l:List (BitVec 32)) (hs:a.eval s=v) (hown:Ow w base e v l) (B:Nat) (A:OA) (m c:Nat) (news:List (BitVec 32)) (hx:a.eval x=.slice A m c) (hr:Rw w B A m news)
  (hbound:l.length+m≤35184372088832) (hbase:base≤w.heap.size)
  (h:∀ v' w',Ow w' base e v' (l++news)→w.grownBy w' v.ownBlock→K (a.put o.dst v') w'):if Region.wanted o (yielded ops a.tmps)=true then Oper.wp P o a w K Q else E:=by
 have hw:Region.wanted o (yielded ops a.tmps)=true:=by simp[Region.wanted,hgd]
 rw[if_pos hw]
 obtain⟨v',w',hrun,h2,h3,h4⟩:=Qpp (P:=P) w base t o.type e ht hinfo v l hown B A m c news hr hbound hbase;unfold Oper.wp execOp;simp only[ho,resolve,invoke,builtin,Sem.run_bind,Sem.run_pure,Result.andThen_ok,List.map_toArray,List.map_cons,List.map_nil,hs,hx,hrun];exact h v' w' h2 h3
theorem Q5d(x:BitVec 32):(x.toNat:Int) / (8:Int)=((x >>> 3).toNat:Int):=by rw[Q1z];omega
theorem Q3r(x:BitVec 32):(x.toNat:Int) / (1024:Int)=((x >>> 10).toNat:Int):=by rw[Q1z];omega
theorem Qs5(b:LB)(k:Nat)(x:BitVec 32)(h:wnx b (wL b k) k=x):wL b (k+1)=wL b k++[x]:=by rw[wL,h]
theorem Qrd(A:OA)(c B:Nat)(b:LB)(w:World)(hr:Rd w B A 64 b)(hB:B≤w.heap.size)(hc:64≤c)(_hc2:c≤9223372036854775807) :
  Calls Tryz.prog 68 #[.slice A 64 c] w (Qwq 89 (wL b 64) w):=by
 have HR:=hid hr;have HB:=hid hB;clear hr hB;go_enter Tryz.func68,Tryz.ntmps68;go_wp2_with fail;go_loopw [3,4] (fun v i wr=>∃ k:Nat,k≤16∧i=.int .i64 k∧Hid (Ow wr w.heap.size 89 v (wL b k))∧Hid (Below w.heap.size w wr)) (fun _ i _=>16 - (intOf i).toNat)
 case atStart=>exact⟨0,Nat.zero_le _,rfl,Ow.nil_ _ _ _,Below.refl _ _⟩
 case round =>
  obtain⟨k,hk,rfl,hob,hbel⟩:=hrel;by_cases hlt:k<16
  ·
   obtain⟨A',c',hsl,hc',hc'',hr'⟩:=Qv2 (P:=Tryz.prog) 29 5 rfl Qdc c (HR.out.below (hbel.out.mono HB.out)) (4*(k:Int)) (4*(k:Int)+4) (4*k) (4*k+4) (by omega) (by omega) (by omega) (by omega) hc;rw[show 4*k+4 - 4*k=4 by omega] at hr' hsl hc'
   have C:=hid (Qxi A' 4 c' _ wr B hr' (by decide));obtain⟨N,hN⟩:∃ N,N=Qc3 ((b.drop (4*k)).take 4):=⟨_,rfl⟩
   have cc:=C.out;rw[← hN] at cc
   have C2:=hid cc;have hw:wL b (k+1)=wL b k++[BitVec.ofNat 32 N]:=by rw[hN];exact Qs5 b k _ (Qy4 b _ k hlt)
   have Qdq:=Q2c N;obtain⟨x,hx⟩:∃ x,x=BitVec.ofNat 32 N:=⟨_,rfl⟩
   rw[← hx] at hw Qdq
   injection Qdq with _ Qdq
   have hbn:(wL b k).length+1≤35184372088832:=by rw[Qbt];omega
   have HW:=hid hw;have HLO:=hid Qdq;have HBN:=hid hbn;clear hr' C cc hN hw Qdq hx hbn;go_wp2_with fail;refine C2.out.mono ?_;rintro e w1 ⟨rfl,rfl⟩;go_wp2_with (first
    | (at_builtin;refine Qgu rfl (.tmp 14) (.tmp 24) 86 rfl w.heap.size 89 Tryz.underlying86 Qip _ (wL b k) rfl (hob.out.alloc _) _ _ 1 1 [x] rfl (Rw.lit wr _ rfl [x] _ _ (by rw[List.map_cons,List.map_nil,← HLO.out]) 1 rfl) HBN.out (Nat.le_trans hbel.out.size (Qaa _ _)) ?_;intro v1 w1 ho1 hb1;have O1:=hid ho1;have B1:=hid ((hbel.out.alloc hbel.out.size _).trans hb1);clear ho1 hb1)
    | fail)
   go_roundw
   case rel=>exact⟨k+1,by omega,by go_num,by show Ow _ _ _ _ _;rw[HW.out];exact O1.out,B1.out⟩
   case measure=>simp[intOf];omega
  ·
   obtain rfl:k=16:=by omega
   obtain⟨wq,hwq⟩:∃ W,W=wr:=⟨_,rfl⟩
   subst hwq;rw[show((16:Nat):Int)=16 from rfl]
   go_wp2_with fail;go_loopw [3,5] (fun v i wr=>∃ k:Nat,16≤k∧k≤64∧i=.int .i64 k∧Hid (Ow wr w.heap.size 89 v (wL b k))∧Hid (Below w.heap.size w wr)) (fun _ i _=>64 - (intOf i).toNat)
   case atStart=>exact⟨16,Nat.le_refl _,by omega,rfl,hob.out,hbel.out⟩
   case round =>
    obtain⟨k,hk16,hk,rfl,hob2,hbel2⟩:=hrel;by_cases hlt:k<64
    ·
     obtain⟨g,cap,rfl,hg1,hg2,hcap⟩:=hob2.out.form (by rw[Qbt];omega);have hll:=Qbt b k;have ho2:=hob2.out;rw[hll] at ho2 hcap ⊢
     obtain⟨p0,hp0⟩:∃ p,p=k - 16:=⟨_,rfl⟩
     obtain⟨p1,hp1⟩:∃ p,p=k - 15:=⟨_,rfl⟩
     obtain⟨p2,hp2⟩:∃ p,p=k - 7:=⟨_,rfl⟩
     obtain⟨p3,hp3⟩:∃ p,p=k - 2:=⟨_,rfl⟩
     have hw:=Qy5 b (wL b k) k (by omega);rw[← hp0,← hp1,← hp2,← hp3] at hw
     obtain⟨x0,hx0⟩:∃ x,x=(wL b k).getD p0 0:=⟨_,rfl⟩
     obtain⟨x1,hx1⟩:∃ x,x=(wL b k).getD p1 0:=⟨_,rfl⟩
     obtain⟨x2,hx2⟩:∃ x,x=(wL b k).getD p2 0:=⟨_,rfl⟩
     obtain⟨x3,hx3⟩:∃ x,x=(wL b k).getD p3 0:=⟨_,rfl⟩
     have c0:wr.cell? ⟨g,p0,none⟩=some (.int .u32 (x0.toNat:Int)):=by rw[hx0];exact ho2.cell hll (by omega)
     have c1:wr.cell? ⟨g,p1,none⟩=some (.int .u32 (x1.toNat:Int)):=by rw[hx1];exact ho2.cell hll (by omega)
     have c2:wr.cell? ⟨g,p2,none⟩=some (.int .u32 (x2.toNat:Int)):=by rw[hx2];exact ho2.cell hll (by omega)
     have c3:wr.cell? ⟨g,p3,none⟩=some (.int .u32 (x3.toNat:Int)):=by rw[hx3];exact ho2.cell hll (by omega)
     rw[← hx0,← hx1,← hx2,← hx3] at hw
     have a0:IntKind.i64.wrap ((k:Int) - 16)=(p0:Int):=by rw[IntWalk.i64_in _ (by omega)];omega
     have a1:IntKind.i64.wrap ((k:Int) - 15)=(p1:Int):=by rw[IntWalk.i64_in _ (by omega)];omega
     have a2:IntKind.i64.wrap ((k:Int) - 7)=(p2:Int):=by rw[IntWalk.i64_in _ (by omega)];omega
     have a3:IntKind.i64.wrap ((k:Int) - 2)=(p3:Int):=by rw[IntWalk.i64_in _ (by omega)];omega
     have l0:(p0:Int)<(k:Int):=by omega
     have l1:(p1:Int)<(k:Int):=by omega
     have l2:(p2:Int)<(k:Int):=by omega
     have l3:(p3:Int)<(k:Int):=by omega
     have m0:(0:Int)≤(p0:Int):=by omega
     have m1:(0:Int)≤(p1:Int):=by omega
     have m2:(0:Int)≤(p2:Int):=by omega
     have m3:(0:Int)≤(p3:Int):=by omega
     have HW:=hid (Qs5 b k _ hw);have HO2:=hid ho2;have HLL:=hid hll;have T1:=hid (fun W=>show Calls Tryz.prog 70 #[.int .u32 (x1.toNat:Int),.int .u32 7] W _ from Qcs x1 7 (by decide) (by decide) W);have T2:=hid (fun W=>show Calls Tryz.prog 70 #[.int .u32 (x1.toNat:Int),.int .u32 18] W _ from Qcs x1 18 (by decide) (by decide) W);have T3:=hid (fun W=>show Calls Tryz.prog 70 #[.int .u32 (x3.toNat:Int),.int .u32 17] W _ from Qcs x3 17 (by decide) (by decide) W);have T4:=hid (fun W=>show Calls Tryz.prog 70 #[.int .u32 (x3.toNat:Int),.int .u32 19] W _ from Qcs x3 19 (by decide) (by decide) W)
     clear hx0 hx1 hx2 hx3 hw hp0 hp1 hp2 hp3 ho2 hll;go_wp2_with fail;go_region
     go_wp2_with fail;refine(T1.out _).mono ?_;rintro e w1 ⟨rfl,rfl⟩;go_wp2_with fail;refine(T2.out _).mono ?_;rintro e w1 ⟨rfl,rfl⟩;go_wp2_with fail;refine(T3.out _).mono ?_;rintro e w1 ⟨rfl,rfl⟩;go_wp2_with fail;refine(T4.out _).mono ?_;rintro e w1 ⟨rfl,rfl⟩;go_wp2_with fail;have E8:bits BinOp.xor .u32 (bits BinOp.xor .u32 ((rr x1 7).toNat:Int) ((rr x1 18).toNat:Int)) ((x1.toNat:Int) / 8)=((tT x1 7 18 3).toNat:Int):=by
      rw[Qfm,Q5d,Qfm];rfl
     have E9:bits BinOp.xor .u32 (bits BinOp.xor .u32 ((rr x3 17).toNat:Int) ((rr x3 19).toNat:Int)) ((x3.toNat:Int) / 1024)=((tT x3 17 19 10).toNat:Int):=by
      rw[Qfm,Q3r,Qfm];rfl
     rw[E8,E9]
     clear E8 E9;obtain⟨y8,hy8⟩:∃ y,y=tT x1 7 18 3:=⟨_,rfl⟩
     obtain⟨y9,hy9⟩:∃ y,y=tT x3 17 19 10:=⟨_,rfl⟩
     have hw3:=HW.out;rw[← hy8,← hy9] at hw3 ⊢
     have HW3:=hid hw3;have d0:wr.drew.cell? ⟨g,p0,none⟩=some (.int .u32 (x0.toNat:Int)):=c0;have d2:wr.drew.cell? ⟨g,p2,none⟩=some (.int .u32 (x2.toNat:Int)):=c2;have HOz:=hid HO2.out.drew;have HBz:=hid hbel2.out.drew;have HLz:=hid (show(wL b k).length+1≤35184372088832 by rw[HLL.out];omega);have hxv:Value.int .u32 ((((x0.toNat:Int)+(y8.toNat:Int)+(x2.toNat:Int)+(y9.toNat:Int))) % 4294967296)=.int .u32 ((x0+y8+x2+y9).toNat:Int):=by
      congr 1
      simp only[BitVec.toNat_add];omega
     have HXV:=hid hxv;clear c0 c1 c2 c3 hy8 hy9 hw3 T1 T2 T3 T4 HW HO2 hxv;generalize wr.drew=wz at *;go_region_law (first
      | (refine Qra rfl (.tmp 56) (.tmp 72) 86 rfl w.heap.size 89 Tryz.underlying86 Qip _ (wL b k) rfl ((HOz.out.alloc _).drew) _ _ 1 1 [x0+y8+x2+y9] rfl ((Rw.lit wz _ rfl [x0+y8+x2+y9] _ _ (by first|rfl|(rw[IntKind.wrap_u32];rfl)|(rw[IntKind.wrap_u32,IntKind.wrap_u32,IntKind.wrap_u32];rfl)) 1 rfl).drew) HLz.out (Nat.le_trans HBz.out.size (by show _≤(wz.alloc _).heap.size;simp)) ?_;intro v1 w1 ho1 hg1;have O1:=hid ho1;have B1:=hid (show Below w.heap.size w w1 from(HBz.out.alloc HBz.out.size _).trans ⟨hg1.os,hg1.tape,hg1.output,hg1.size,fun q hq=>hg1.block q (Nat.lt_of_lt_of_le hq (Nat.le_trans HBz.out.size (by show _≤(wz.alloc _).heap.size;simp))) (fun e=>by have:=(World.ownsRow.lt HOz.out q e.symm).1;omega)⟩);clear ho1 hg1)
      | fail)
     all_goals
      go_wp2_with fail;go_roundw
      case rel=>exact⟨k+1,by omega,by omega,by go_num,by show Ow _ _ _ _ _;rw[HW3.out];exact O1.out,B1.out⟩
      case measure=>simp[intOf];omega
    ·
     obtain rfl:k=64:=by omega
     go_wp2_with fail;go_ret;exact⟨_,rfl,hob2.out,hbel2.out⟩
end Go.Proofs.YtbnfkjkoinbkgaaGreatDoor
