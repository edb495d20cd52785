import Derived.Test.YtbnfkjkoinbkgaaGreatDoorVAbb
import Derived.Test.YtbnfkjkoinbkgaaGreatDoorVCborM
import Derived.Test.YtbnfkjkoinbkgaaGreatDoorVSame
import Derived.BigCall
namespace Go.Proofs.YtbnfkjkoinbkgaaGreatDoor
set_option maxRecDepth 100000
set_option maxHeartbeats 16000000
open Go.RowKit
mutual
def RdI(w:World)(B:Nat)(v:Value):Itm→Prop
 | .mk k n d l=>∃ (A:OA) (nd cd:Nat) (AL:OA) (nl cl:Nat),v=.agg #[.int .i64 k,.int .u64 (n:Int),.slice A nd cd,.slice AL nl cl] ∧
   (Lit.int .i64 k).wf=true∧n<18446744073709551616∧(nd≤cd∧nd≤140737488355328)∧Rd w B A nd d∧(nl≤cl∧nl≤140737488355328)∧l.length=nl∧(0<nl→∃ b o,AL=some ⟨b,o,none⟩∧b<B∧RdIs w B b o l)
def RdIs(w:World)(B b o:Nat):List Itm→Prop
 | []=>True
 | x::r=>(∃ c0 c1 c2 c3:Value,w.cell? ⟨b,o,none⟩=some c0∧w.cell? ⟨b,o+1,none⟩=some c1∧w.cell? ⟨b,o+2,none⟩=some c2∧w.cell? ⟨b,o+3,none⟩=some c3∧RdI w B (.agg #[c0,c1,c2,c3]) x)∧RdIs w B b (o+4) r
end
mutual
theorem RdI.keep{w w':World}{B:Nat}(hk:∀ p:Addr,p.block<B→w'.cell? p=w.cell? p):∀ {x:Itm} {v:Value},RdI w B v x→RdI w' B v x
 | .mk k n d l,v,h=>by
  rw[RdI] at h ⊢
  obtain⟨A,nd,cd,AL,nl,cl,e,h1,h2,h3,h4,h5,h6,h7⟩:=h;refine⟨A,nd,cd,AL,nl,cl,e,h1,h2,h3,h4.keep hk,h5,h6,fun h0=>?_⟩;obtain⟨b,o,ea,hb,hs⟩:=h7 h0;exact⟨b,o,ea,hb,RdIs.keep hk hb hs⟩
theorem RdIs.keep{w w':World}{B:Nat}(hk:∀ p:Addr,p.block<B→w'.cell? p=w.cell? p){b:Nat}(hb:b<B):∀ {l:List Itm} {o:Nat},RdIs w B b o l→RdIs w' B b o l
 | [],o,_=>by rw[RdIs];trivial
 | x::r,o,h=>by
  rw[RdIs] at h ⊢
  obtain⟨⟨c0,c1,c2,c3,g0,g1,g2,g3,gx⟩,hr⟩:=h;exact⟨⟨c0,c1,c2,c3,(hk ⟨b,o,none⟩ hb).trans g0,(hk ⟨b,o+1,none⟩ hb).trans g1,(hk ⟨b,o+2,none⟩ hb).trans g2,(hk ⟨b,o+3,none⟩ hb).trans g3,RdI.keep hk gx⟩,RdIs.keep hk hb hr⟩
end
mutual
theorem RdI.more{w:World}{B B':Nat}(hB:B≤B'):∀ {x:Itm} {v:Value},RdI w B v x→RdI w B' v x
 | .mk k n d l,v,h=>by
  rw[RdI] at h ⊢
  obtain⟨A,nd,cd,AL,nl,cl,e,h1,h2,h3,h4,h5,h6,h7⟩:=h;refine⟨A,nd,cd,AL,nl,cl,e,h1,h2,h3,h4.more hB,h5,h6,fun h0=>?_⟩;obtain⟨b,o,ea,hb,hs⟩:=h7 h0;exact⟨b,o,ea,by omega,RdIs.more hB hs⟩
theorem RdIs.more{w:World}{B B':Nat}(hB:B≤B'){b:Nat}:∀ {l:List Itm} {o:Nat},RdIs w B b o l→RdIs w B' b o l
 | [],o,_=>by rw[RdIs];trivial
 | x::r,o,h=>by
  rw[RdIs] at h ⊢
  obtain⟨⟨c0,c1,c2,c3,g0,g1,g2,g3,gx⟩,hr⟩:=h;exact⟨⟨c0,c1,c2,c3,g0,g1,g2,g3,RdI.more hB gx⟩,RdIs.more hB hr⟩
end
section
variable {w w':World}{B B' b:Nat}{v:Value}{x:Itm}{l:List Itm}{o:Nat}
theorem RdI.below(h:RdI w B v x)(hb:Below B w w'):RdI w' B v x:=h.keep fun _ hp=>hb.cell hp
theorem RdIs.below(h:RdIs w B b o l)(h0:b<B)(hb:Below B w w'):RdIs w' B b o l:=h.keep (fun _ hp=>hb.cell hp) h0
theorem RdI.alloc(h:RdI w B v x)(hB:B≤w.heap.size)(ob:Obj):RdI (w.alloc ob) B v x:=h.keep fun p hp=>World.cell?_alloc_lt w ob p (by omega)
theorem RdIs.get:∀ {l:List Itm} {o:Nat},RdIs w B b o l→∀ i (hi:i<l.length),∃ c0 c1 c2 c3:Value,w.cell? ⟨b,o+i*4,none⟩=some c0∧w.cell? ⟨b,o+i*4+1,none⟩=some c1∧w.cell? ⟨b,o+i*4+2,none⟩=some c2∧w.cell? ⟨b,o+i*4+3,none⟩=some c3∧RdI w B (.agg #[c0,c1,c2,c3]) (l[i]'hi)
 | [],o,_,i,hi=>absurd hi (Nat.not_lt_zero _)
 | x::r,o,h,0,hi=>by
  rw[RdIs] at h
  simpa using h.1
 | x::r,o,h,i+1,hi=>by
  rw[RdIs] at h
  have:=RdIs.get h.2 i (by simpa using hi)
  rw[show o+(i+1)*4=o+4+i*4 by omega]
  simpa using this
theorem RdIs.of_get:∀ {l:List Itm} {o:Nat},(∀ i (hi:i<l.length),∃ c0 c1 c2 c3:Value,w.cell? ⟨b,o+i*4,none⟩=some c0∧w.cell? ⟨b,o+i*4+1,none⟩=some c1∧w.cell? ⟨b,o+i*4+2,none⟩=some c2∧w.cell? ⟨b,o+i*4+3,none⟩=some c3∧RdI w B (.agg #[c0,c1,c2,c3]) (l[i]'hi))→RdIs w B b o l
 | [],o,_=>by rw[RdIs];trivial
 | x::r,o,h=>by
  rw[RdIs]
  have h0:=h 0 (by simp);rw[Nat.zero_mul,Nat.add_zero] at h0
  refine⟨h0,RdIs.of_get fun i hi=>?_⟩;have:=h (i+1) (by simpa using hi)
  rw[show o+(i+1)*4=o+4+i*4 by omega] at this
  simpa using this
end
theorem RdI.open{w:World}{B:Nat}{v:Value}{k:Int}{n:Nat}{d:LB}{l:List Itm}(h:RdI w B v (.mk k n d l)) :
  ∃ (A:OA) (nd cd:Nat) (AL:OA) (cl:Nat),v=.agg #[.int .i64 k,.int .u64 (n:Int),.slice A nd cd,.slice AL l.length cl] ∧
   (Lit.int .i64 k).wf=true∧n<18446744073709551616∧(nd≤cd∧nd≤140737488355328)∧Rd w B A nd d∧(l.length≤cl∧l.length≤140737488355328)∧(0<l.length→∃ b o,AL=some ⟨b,o,none⟩∧b<B∧RdIs w B b o l):=by
 rw[RdI] at h
 obtain⟨A,nd,cd,AL,nl,cl,e,h1,h2,h3,h4,h5,h6,h7⟩:=h;subst h6;exact⟨A,nd,cd,AL,cl,e,h1,h2,h3,h4,h5,h7⟩
theorem RdI.form{w:World}{B:Nat}{v:Value}{x:Itm}(h:RdI w B v x):∃ (k:Int) (n:Nat) (A:OA) (nd cd:Nat) (AL:OA) (nl cl:Nat),v=.agg #[.int .i64 k,.int .u64 (n:Int),.slice A nd cd,.slice AL nl cl]:=by
 obtain⟨k,n,d,l⟩:=x;obtain⟨A,nd,cd,AL,cl,rfl,-,-,-,-,-,-⟩:=h.open;exact⟨_,_,_,_,_,_,_,_,rfl⟩
theorem Qdz:∀ {l:List Itm} {i:Nat} (hi:i<l.length),par (l[i]'hi)≤Qa5 l
 | [],_,hi=>absurd hi (Nat.not_lt_zero _)
 | x::r,0,_=>by rw[Qa5];simp
 | x::r,i+1,hi=>by
  have:=Qdz (l:=r) (i:=i) (by simpa using hi)
  rw[Qa5]
  simp;omega
mutual
theorem RdI.siz{w:World}{B:Nat}:∀ {x:Itm} {v:Value},RdI w B v x→Siz x
 | .mk k n d l,v,h=>by
  rw[RdI] at h
  obtain⟨A,nd,cd,AL,nl,cl,e,h1,h2,h3,h4,h5,h6,h7⟩:=h;have hd:=h4.1;refine⟨h2,by omega,by omega,?_⟩;rcases Nat.eq_zero_or_pos nl with h0|h0
  ·
   have:l=[]:=List.eq_nil_of_length_eq_zero (by omega)
   subst this;trivial
  ·
   obtain⟨b,o,ea,hb,hs⟩:=h7 h0;exact RdIs.siz hs
theorem RdIs.siz{w:World}{B b:Nat}:∀ {l:List Itm} {o:Nat},RdIs w B b o l→Qja l
 | [],_,_=>trivial
 | x::r,o,h=>by
  rw[RdIs] at h
  obtain⟨⟨c0,c1,c2,c3,g0,g1,g2,g3,gx⟩,hr⟩:=h;exact⟨RdI.siz gx,RdIs.siz hr⟩
end
theorem Qqo:∀ (a b:List Itm),Qcb (a++b)=max (Qcb a) (Qcb b)
 | [],b=>by rw[Qcb];simp
 | x::r,b=>by rw[List.cons_append,Qcb,Qcb,Qqo r b];omega
theorem Qvy(l:List Itm)(j:Nat)(h:j<l.length):Qcb (l.take (j+1))=max (Qcb (l.take j)) (dep (l[j]'h)):=by
 rw[List.take_succ_eq_append_getElem h,Qqo,Qcb,Qcb]
 omega
mutual
theorem Qvz:∀ x:Itm,dep x≤par x
 | .mk k _ _ l=>by have:=Qo7 l;rw[dep,par];split <;> omega
theorem Qo7:∀ l:List Itm,Qcb l≤Qa5 l
 | []=>by rw[Qcb];omega
 | x::r=>by have:=Qvz x;have:=Qo7 r;rw[Qcb,Qa5];omega
end
theorem Qfy:∀ (a b:List Itm),Qa5 (a++b)=Qa5 a+Qa5 b
 | [],b=>by rw[Qa5];simp
 | x::r,b=>by rw[List.cons_append,Qa5,Qa5,Qfy r b];omega
theorem Qt7(l:List Itm)(j:Nat)(h:j<l.length):Qa5 (l.take (j+1))=Qa5 (l.take j)+par (l[j]'h):=by
 rw[List.take_succ_eq_append_getElem h,Qfy,Qa5,Qa5]
 omega
theorem Qz7(l:List Itm)(j:Nat):Qa5 (l.take j)≤Qa5 l:=by
 conv=>rhs;rw[← List.take_append_drop j l,Qfy]
 omega
theorem Qoh(d:LB)(k:Nat)(h:plain d=true):plain (d.take k)=true:=by
 unfold plain at *;rw[List.all_eq_true] at *
 exact fun c hc=>h c (List.mem_of_mem_take hc)
theorem Qj1(l:LB)(x:UInt8):plain (l++[x])=(plain l&&(decide (32≤x.toNat)&&decide (x.toNat≤126))):=by
 unfold plain;rw[List.all_append]
 simp
theorem Qg1(l:LB)(k:Nat)(h:plain (l.take k)=false):plain l=false:=by
 rcases hb:plain l with _|_
 ·
  rfl
 ·
  rw[Qoh l k hb] at h;cases h
open Go.Lib (hid)
theorem Qpv:∀ (m:Nat) (x:Itm) (v:Value) (w:World) (B:Nat),par x<m→par x≤1000000→B≤w.heap.size→RdI w B v x →
  Calls Tryz.prog 102 #[v] w fun e w'=>e=.returned (.int .i64 (dep x:Int))∧Below w.heap.size w w'
 | 0,_,_,_,_,h,_,_,_=>absurd h (Nat.not_lt_zero _)
 | m+1,.mk k n d l,v,w,B,hm,hp,hB,h=>by
  obtain⟨A,nd,cd,AL,cl,rfl,h1,h2,h3,h4,h5,h7⟩:=h.open;have IH:=hid (Qpv m);have H7:=hid h7;have H4:=hid h4;clear h1 h7 h4 h;generalize hL:l.length=N at *;have HL:=hid hL;clear hL;obtain⟨DP,hDP⟩:∃ q,q=dep (.mk k n d l):=⟨_,rfl⟩
  rw[← hDP]
  have HDP:=hid hDP;clear hDP;go_enter Tryz.func102,Tryz.ntmps102;go_wp2_with fail;go_loopw [3,4] (fun v i wr=>∃ j:Nat,j≤N∧i=.int .i64 j∧v=.int .i64 (Qcb (l.take j):Int)∧Hid (Below (w.heap.size+1) (w.alloc (.cells #[Value.int IntKind.i64 k,Value.int IntKind.u64 ↑n,Value.slice A nd cd,Value.slice AL N cl] 119)) wr))
   (fun _ i _=>N - (intOf i).toNat)
  case atStart=>exact⟨0,Nat.zero_le _,rfl,rfl,Below.refl _ _⟩
  case round =>
   obtain⟨j,hj,rfl,rfl,hbel⟩:=hrel;have hb0:wr.cell? ⟨w.heap.size,0,none⟩=some (.int .i64 k):=(hbel.out.cell (p:=⟨w.heap.size,0,none⟩) (by simp)).trans (by simp);have hb3:wr.cell? ⟨w.heap.size,3,none⟩=some (.slice AL N cl):=(hbel.out.cell (p:=⟨w.heap.size,3,none⟩) (by simp)).trans (by simp);by_cases hlt:j<N
   ·
    obtain⟨b,o,rfl,hb,hs⟩:=H7.out (by omega);obtain⟨c0,c1,c2,c3,g0,g1,g2,g3,gx⟩:=hs.get j (by rw[HL.out];exact hlt);have hs':Below w.heap.size w wr:=zb.trans (hbel.out.mono (by omega));have hsz:w.heap.size+1≤wr.heap.size:=by have:=hbel.out.size;simpa using this
    have e0:wr.cell? ⟨b,o+j*4,none⟩=some c0:=(hs'.cell (p:=⟨b,o+j*4,none⟩) (by show b<_;omega)).trans g0;have e1:wr.cell? ⟨b,o+j*4+1,none⟩=some c1:=(hs'.cell (p:=⟨b,o+j*4+1,none⟩) (by show b<_;omega)).trans g1;have e2:wr.cell? ⟨b,o+j*4+2,none⟩=some c2:=(hs'.cell (p:=⟨b,o+j*4+2,none⟩) (by show b<_;omega)).trans g2;have e3:wr.cell? ⟨b,o+j*4+3,none⟩=some c3:=(hs'.cell (p:=⟨b,o+j*4+3,none⟩) (by show b<_;omega)).trans g3;have GX:=hid gx;have HS:=hid hs';have hpg:par (l[j]'(by rw[HL.out];exact hlt))≤Qa5 l:=Qdz _;rw[par] at hm hp
    have C1:=hid (IH.out (l[j]'(by rw[HL.out];exact hlt)) _ wr B (by omega) (by omega) (by omega) (gx.below (hs'.mono hB)));clear g0 g1 g2 g3 gx hs hs';go_wp2_with fail;refine C1.out.mono ?_;rintro e w1 ⟨rfl,hb1⟩;have HB1:=hid hb1;clear hb1 hb0 hb3 e0 e1 e2 e3;go_wp2_with fail;go_roundw
    case rel =>
     refine⟨j+1,by omega,by go_num,?_,hbel.out.trans (HB1.out.mono (by omega))⟩;rw[Qvy l j (by rw[HL.out];exact hlt)]
     congr 1
     omega
    case measure=>simp[intOf];omega
   ·
    obtain rfl:j=N:=by omega
    have HS:=hid (((Below.refl w.heap.size w).alloc zr _).trans (hbel.out.mono (by omega)));have hdl:Qcb (l.take j)=Qcb l:=by rw[List.take_of_length_le (by rw[HL.out];exact Nat.le_refl _)]
    have hdp:=Qo7 l;rw[par] at hp
    have hDP:=HDP.out;rw[dep] at hDP
    rw[hdl]
    generalize Qcb l=D at *;clear hdl;by_cases hk:k=4∨k=5
    ·
     rw[if_pos hk] at hDP
     have HD2:=hid hDP;clear hDP;rcases hk with rfl|rfl
     ·
      go_wp2_with fail;go_ret;exact⟨by rw[HD2.out];rfl,HS.out⟩
     ·
      go_wp2_with fail;go_ret;exact⟨by rw[HD2.out];rfl,HS.out⟩
    ·
     rw[if_neg hk] at hDP
     have HD2:=hid hDP;clear hDP;have k4:(k==4)=false:=by simp;omega
     have k5:(k==5)=false:=by simp;omega
     clear hk;go_wp2_with fail;go_ret;exact⟨by rw[HD2.out];rfl,HS.out⟩
theorem Qps:∀ (m:Nat) (x:Itm) (v:Value) (w:World) (B:Nat),par x<m→par x≤1000000→B≤w.heap.size→RdI w B v x →
  Calls Tryz.prog 103 #[v] w fun e w'=>e=.returned (.int .i64 (par x:Int))∧Below w.heap.size w w'
 | 0,_,_,_,_,h,_,_,_=>absurd h (Nat.not_lt_zero _)
 | m+1,.mk k n d l,v,w,B,hm,hp,hB,h=>by
  obtain⟨A,nd,cd,AL,cl,rfl,h1,h2,h3,h4,h5,h7⟩:=h.open;have IH:=hid (Qps m);have H7:=hid h7;have H4:=hid h4;clear h1 h7 h4 h;generalize hL:l.length=N at *;have HL:=hid hL;clear hL;obtain⟨DP,hDP⟩:∃ q,q=par (.mk k n d l):=⟨_,rfl⟩
  rw[← hDP]
  have HDP:=hid hDP;clear hDP;go_enter Tryz.func103,Tryz.ntmps103;go_wp2_with fail;go_loopw [3,4] (fun v i wr=>∃ j:Nat,j≤N∧i=.int .i64 j∧v=.int .i64 ((1+Qa5 (l.take j):Nat):Int)∧Hid (Below (w.heap.size+1) (w.alloc (.cells #[Value.int IntKind.i64 k,Value.int IntKind.u64 ↑n,Value.slice A nd cd,Value.slice AL N cl] 119)) wr))
   (fun _ i _=>N - (intOf i).toNat)
  case atStart=>exact⟨0,Nat.zero_le _,rfl,rfl,Below.refl _ _⟩
  case round =>
   obtain⟨j,hj,rfl,rfl,hbel⟩:=hrel;have hb0:wr.cell? ⟨w.heap.size,0,none⟩=some (.int .i64 k):=(hbel.out.cell (p:=⟨w.heap.size,0,none⟩) (by simp)).trans (by simp);have hb3:wr.cell? ⟨w.heap.size,3,none⟩=some (.slice AL N cl):=(hbel.out.cell (p:=⟨w.heap.size,3,none⟩) (by simp)).trans (by simp);by_cases hlt:j<N
   ·
    obtain⟨b,o,rfl,hb,hs⟩:=H7.out (by omega);obtain⟨c0,c1,c2,c3,g0,g1,g2,g3,gx⟩:=hs.get j (by rw[HL.out];exact hlt);have hpt:Qa5 (l.take j)≤Qa5 l:=Qz7 l j;have hs':Below w.heap.size w wr:=zb.trans (hbel.out.mono (by omega));have hsz:w.heap.size+1≤wr.heap.size:=by have:=hbel.out.size;simpa using this
    have e0:wr.cell? ⟨b,o+j*4,none⟩=some c0:=(hs'.cell (p:=⟨b,o+j*4,none⟩) (by show b<_;omega)).trans g0;have e1:wr.cell? ⟨b,o+j*4+1,none⟩=some c1:=(hs'.cell (p:=⟨b,o+j*4+1,none⟩) (by show b<_;omega)).trans g1;have e2:wr.cell? ⟨b,o+j*4+2,none⟩=some c2:=(hs'.cell (p:=⟨b,o+j*4+2,none⟩) (by show b<_;omega)).trans g2;have e3:wr.cell? ⟨b,o+j*4+3,none⟩=some c3:=(hs'.cell (p:=⟨b,o+j*4+3,none⟩) (by show b<_;omega)).trans g3;have GX:=hid gx;have HS:=hid hs';have hpg:par (l[j]'(by rw[HL.out];exact hlt))≤Qa5 l:=Qdz _;rw[par] at hm hp
    have C1:=hid (IH.out (l[j]'(by rw[HL.out];exact hlt)) _ wr B (by omega) (by omega) (by omega) (gx.below (hs'.mono hB)));clear g0 g1 g2 g3 gx hs hs';go_wp2_with fail;refine C1.out.mono ?_;rintro e w1 ⟨rfl,hb1⟩;have HB1:=hid hb1;clear hb1 hb0 hb3 e0 e1 e2 e3;go_wp2_with fail;go_roundw
    case rel =>
     refine⟨j+1,by omega,by go_num,?_,hbel.out.trans (HB1.out.mono (by omega))⟩;rw[Qt7 l j (by rw[HL.out];exact hlt)]
     congr 1
     omega
    case measure=>simp[intOf];omega
   ·
    obtain rfl:j=N:=by omega
    have HS:=hid (((Below.refl w.heap.size w).alloc zr _).trans (hbel.out.mono (by omega)));have hdl:Qa5 (l.take j)=Qa5 l:=by rw[List.take_of_length_le (by rw[HL.out];exact Nat.le_refl _)]
    have hDP:=HDP.out;rw[par] at hDP
    rw[hdl,← hDP]
    clear hdl hDP;go_wp2_with fail;go_ret;exact⟨rfl,HS.out⟩
theorem Qjv(A:OA)(n c B:Nat)(l:LB)(w:World)(h:Rd w B A n l)(hn:n≤140737488355328) :
  Calls Tryz.prog 131 #[.slice A n c] w fun e w'=>e=.returned (.bool (plain l))∧w=w':=by
 have HR:=hid h;clear h;obtain⟨PL,hPL⟩:∃ q,q=plain l:=⟨_,rfl⟩
 rw[← hPL]
 have HPL:=hid hPL;clear hPL;go_enter Tryz.func131,Tryz.ntmps131;go_wp2
 go_loop [3] (fun i=>∃ k:Nat,k≤n∧i=.int .i64 k∧Hid (plain (l.take k)=true)) (fun i=>n - (intOf i).toNat)
 case atStart=>exact⟨0,Nat.zero_le _,rfl,rfl⟩
 case round =>
  obtain⟨k,hk,rfl,hp⟩:=hrel;by_cases hlt:k<n
  ·
   obtain⟨b,o,rfl,hb,hcell⟩:=HR.out.2 (by omega);obtain⟨x,hx⟩:∃ x,x=l.getD k 0:=⟨_,rfl⟩
   have hcx:w.cell? ⟨b,o+k,none⟩=some (.int .u8 (x.toNat:Int)):=by rw[hx];exact hcell k hlt
   have hs:plain (l.take (k+1))=(decide (32≤x.toNat)&&decide (x.toNat≤126)):=by
    rw[Qdb l k (by have:=HR.out.1;omega),Qj1,hp.out,← hx];rfl
   have HS:=hid hs;clear hx hcell hs;obtain⟨X,hX⟩:∃ X,X=x.toNat:=⟨_,rfl⟩
   rw[← hX] at hcx
   have HX:=hid hX;clear hX;by_cases h32:32≤X∧X≤126
   ·
    obtain⟨h1,h2⟩:=h32;go_wp2_with fail;go_round
    case rel=>exact⟨k+1,by omega,by go_num,by show _=true;rw[HS.out,← HX.out];simp;omega⟩
    case measure=>simp[intOf];omega
   ·
    have hf:plain l=false:=Qg1 l (k+1) (by rw[HS.out,← HX.out];simp;omega);rw[← HPL.out] at hf
    subst hf;by_cases h1:X<32
    ·
     go_wp2_with fail;go_ret;exact⟨rfl,rfl⟩
    ·
     have h2:126<X:=by omega
     clear h32;go_wp2_with fail;go_ret;exact⟨rfl,rfl⟩
  ·
   obtain rfl:k=n:=by omega
   have e:plain l=true:=by
    have:=hp.out
    rwa[List.take_of_length_le (by have:=HR.out.1;omega)] at this
   rw[← HPL.out] at e
   subst e;go_wp2
   go_ret;exact⟨rfl,rfl⟩
theorem Q4c(X:Int)(h0:0≤X):((hsz X.toNat:Nat):Int)=(if X<24 then 0 else if X<256 then 1 else if X<65536 then 2 else if X<4294967296 then 4 else 8) ∧
  ((Qdq X.toNat:Nat):Int)=(if X<24 then X else if X<256 then 24 else if X<65536 then 25 else if X<4294967296 then 26 else 27):=by
 unfold hsz Qdq;constructor <;> (repeat' (split <;> try omega))
theorem Qz4(X S L:Int)(w:World)(h0:0≤X)(hn:X<18446744073709551616)
  (hS:S=(if X<24 then 0 else if X<256 then 1 else if X<65536 then 2 else if X<4294967296 then 4 else 8)) (hL:L=(if X<24 then X else if X<256 then 24 else if X<65536 then 25 else if X<4294967296 then 26 else 27)) :
  Calls Tryz.prog 37 #[.int .u64 X] w fun e w'=>e=.returned (.tuple #[.int .i64 S,.int .i64 L])∧w=w':=by
 by_cases h1:X<24
 ·
  rw[if_pos h1] at hS hL
  subst hS hL;go_enter Tryz.func37,Tryz.ntmps37;go_wp2
  go_ret2
  exact⟨rfl,rfl⟩
 by_cases h2:X<256
 ·
  rw[if_neg h1,if_pos h2] at hS hL
  subst hS hL;go_enter Tryz.func37,Tryz.ntmps37;go_wp2
  go_ret2
  exact⟨rfl,rfl⟩
 by_cases h3:X<65536
 ·
  rw[if_neg h1,if_neg h2,if_pos h3] at hS hL
  subst hS hL;go_enter Tryz.func37,Tryz.ntmps37;go_wp2
  go_ret2
  exact⟨rfl,rfl⟩
 by_cases h4:X<4294967296
 ·
  rw[if_neg h1,if_neg h2,if_neg h3,if_pos h4] at hS hL
  subst hS hL;go_enter Tryz.func37,Tryz.ntmps37;go_wp2
  go_ret2
  exact⟨rfl,rfl⟩
 rw[if_neg h1,if_neg h2,if_neg h3,if_neg h4] at hS hL
 subst hS hL;go_enter Tryz.func37,Tryz.ntmps37;go_wp2
 go_ret2
 exact⟨rfl,rfl⟩
theorem Qtp(n:Nat)(w:World)(hn:n<18446744073709551616) :
  Calls Tryz.prog 37 #[.int .u64 (n:Int)] w fun e w'=>e=.returned (.tuple #[.int .i64 (hsz n:Int),.int .i64 (Qdq n:Int)])∧w=w':=by
 have h:=Q4c (n:Int) (by omega);rw[Int.toNat_natCast] at h
 exact Qz4 (n:Int) _ _ w (by omega) (by omega) h.1 h.2
end Go.Proofs.YtbnfkjkoinbkgaaGreatDoor
