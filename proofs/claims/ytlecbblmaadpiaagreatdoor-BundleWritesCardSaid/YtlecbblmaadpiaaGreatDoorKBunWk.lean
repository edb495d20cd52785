import Derived.Test.YtlecbblmaadpiaaGreatDoorKBlkC
import Derived.Test.YtlecbblmaadpiaaGreatDoorKBunG
import Derived.Test.YtlecbblmaadpiaaGreatDoorKBunHd
import Derived.Test.YtlecbblmaadpiaaGreatDoorKRfC
import Derived.Lib.SmallJoins
import Derived.ChangeArms
import Derived.ChangeSlices
import Derived.OpenShut
import Derived.Deep.Slices
namespace Go.Proofs.YtlecbblmaadpiaaGreatDoor
set_option maxRecDepth 100000
set_option maxHeartbeats 16000000
open Go.RowKit Go.ChangeShapes Go.WideShapes Go.ChangeAt
theorem cellsBlk:Tryz.prog.cellsOf 48=5:=by kernel_rfl
theorem cellsU64:Tryz.prog.cellsOf 23=1:=by kernel_rfl
theorem cellsInt:Tryz.prog.cellsOf 3=1:=by kernel_rfl
theorem cellsBy:Tryz.prog.cellsOf 27=1:=by kernel_rfl
theorem wfU {n:Int} (h:(Lit.int .u64 n).wf=true):0≤n∧n<18446744073709551616:=by
 simp [Lit.wf,IntKind.min,IntKind.max,IntKind.signed,IntKind.bits] at h
 omega
open Go.RowKit Go.ChangeShapes Go.WideShapes Go.ChangeAt Go.Deep
section
variable {H:Type} {enc:TypeId×Value→H} {w:World}
theorem cEid:Tryz.prog.cellsOf 25=4:=by kernel_rfl
theorem cStr:Tryz.prog.cellsOf 9=1:=by kernel_rfl
theorem cSch:Tryz.prog.cellsOf 22=1:=by kernel_rfl
theorem cBs:Tryz.prog.cellsOf 71=1:=by kernel_rfl
theorem cBun:Tryz.prog.cellsOf 73=18:=by kernel_rfl
theorem bU8:Tryz.prog.bytesOf 5=1:=by kernel_rfl
theorem bBlk:1≤Tryz.prog.bytesOf 48:=of_decide_eq_true (by kernel_rfl)
theorem weightsAll_mem {e:TypeId}:∀ (l:List (DataW H)) (i:Nat) (hi:i<l.length) (x:Nat),x∈DataW.weights Tryz.prog e (l[i]'hi)→x∈DataW.weightsAll Tryz.prog e l
 | [],_,hi,_,_=>absurd hi (Nat.not_lt_zero _)
 | d::r,0,_,x,h=>by rw [DataW.weightsAll];exact List.mem_append.2 (.inl h)
 | d::r,i+1,hi,x,h=>by rw [DataW.weightsAll];exact List.mem_append.2 (.inr (weightsAll_mem r i (by simpa using hi) x (by simpa using h)))
theorem open_eidc {fuel:Nat} {cs:List Value} {y:DataW H×List MemPlace} (h:DataW.trod enc Tryz.prog w 0 (fun _=>true) true fuel 25 cs=some y) (hw:∀ x∈DataW.weights Tryz.prog 25 y.1,x≤reachBytes) :
  ∃ (sc:Int) (s:ByteArray) (n v:Nat),cs=[.int .i64 sc,.string s,.int .u64 (n:Int),.int .u64 (v:Int)]∧s.size≤140737488355328∧n<18446744073709551616∧v<18446744073709551616:=by
 obtain ⟨xs,n,rfl,rfl,hl,hlen,hf⟩:=DataW.trod_struct Tryz.underlying25 h
 rw [cEid] at hl
 match xs,hlen,cs,hl with
 | [y0,y1,y2,y3],_,[c0,c1,c2,c3],_ =>
  have g0:=hf 0 _ rfl
  have g1:=hf 1 _ rfl
  have g2:=hf 2 _ rfl
  have g3:=hf 3 _ rfl
  simp [cStr,cSch,cellsU64] at g0 g1 g2 g3
  obtain ⟨sc,e0,rfl,w0⟩:=DataW.trod_int Tryz.underlying22 g0
  obtain ⟨s,e1,rfl,w1⟩:=DataW.trod_string Tryz.underlying9 g1
  obtain ⟨a2,e2,rfl,w2⟩:=DataW.trod_int Tryz.underlying23 g2
  obtain ⟨a3,e3,rfl,w3⟩:=DataW.trod_int Tryz.underlying23 g3
  simp only [List.cons.injEq,and_true] at e0 e1 e2 e3
  subst e0 e1 e2 e3
  have hz:s.size≤140737488355328:=by
   have h:=hw s.data.toList.length (by simp [DataW.weights,Tryz.underlying25,DataW.weightsEach])
   have e:s.data.toList.length=s.size:=by simp
   rw [e] at h
   exact Nat.le_trans h (by decide)
  obtain ⟨q2,hq2,rfl⟩:∃ g:Nat,g<18446744073709551616∧a2=(g:Int):=⟨a2.toNat,by have h:=wfU w2;omega,by have h:=wfU w2;omega⟩
  obtain ⟨q3,hq3,rfl⟩:∃ g:Nat,g<18446744073709551616∧a3=(g:Int):=⟨a3.toNat,by have h:=wfU w3;omega,by have h:=wfU w3;omega⟩
  exact ⟨sc,s,q2,q3,rfl,hz,hq2,hq3⟩
theorem open_blkc {fuel:Nat} {cs:List Value} {y:DataW H×List MemPlace} (h:DataW.trod enc Tryz.prog w 0 (fun _=>true) true fuel 48 cs=some y) (hw:∀ x∈DataW.weights Tryz.prog 48 y.1,x≤reachBytes) :
  ∃ (b:Blk) (A:Option Addr) (nd cd:Nat),cs=[.int .u64 (b.typ:Int),.int .u64 (b.num:Int),.int .u64 (b.flg:Int),.int .i64 b.crc,.slice A nd cd]∧Bd b∧(nd≤cd∧nd≤140737488355328)∧Rd w w.heap.size A nd b.dat:=by
 obtain ⟨xs,n,rfl,rfl,hl,hlen,hf⟩:=DataW.trod_struct Tryz.underlying48 h
 rw [cellsBlk] at hl
 match xs,hlen,cs,hl with
 | [y0,y1,y2,y3,y4],_,[c0,c1,c2,c3,c4],_ =>
  have g0:=hf 0 _ rfl
  have g1:=hf 1 _ rfl
  have g2:=hf 2 _ rfl
  have g3:=hf 3 _ rfl
  have g4:=hf 4 _ rfl
  simp [cellsU64,cellsInt,cellsBy] at g0 g1 g2 g3 g4
  obtain ⟨a0,e0,rfl,w0⟩:=DataW.trod_int Tryz.underlying23 g0
  obtain ⟨a1,e1,rfl,w1⟩:=DataW.trod_int Tryz.underlying23 g1
  obtain ⟨a2,e2,rfl,w2⟩:=DataW.trod_int Tryz.underlying23 g2
  obtain ⟨a3,e3,rfl,w3⟩:=DataW.trod_int Tryz.underlying3 g3
  simp only [List.cons.injEq,and_true] at e0 e1 e2 e3
  subst e0 e1 e2 e3
  obtain ⟨q0,hq0,rfl⟩:∃ g:Nat,g<18446744073709551616∧a0=(g:Int):=⟨a0.toNat,by have h:=wfU w0;omega,by have h:=wfU w0;omega⟩
  obtain ⟨q1,hq1,rfl⟩:∃ g:Nat,g<18446744073709551616∧a1=(g:Int):=⟨a1.toNat,by have h:=wfU w1;omega,by have h:=wfU w1;omega⟩
  obtain ⟨q2,hq2,rfl⟩:∃ g:Nat,g<18446744073709551616∧a2=(g:Int):=⟨a2.toNat,by have h:=wfU w2;omega,by have h:=wfU w2;omega⟩
  rcases open_ints Tryz.underlying27 Tryz.underlying5 (by kernel_rfl) g4 with ⟨hcs,_⟩|⟨x,l,c,zs,hcs,_,hlc,hm,hz,hd,hcell,hwz⟩
  ·
   simp only [List.cons.injEq,and_true] at hcs
   subst hcs
   exact ⟨⟨q0,q1,q2,a3,[]⟩,none,0,0,rfl,⟨hq0,hq1,hq2⟩,⟨Nat.le_refl _,Nat.zero_le _⟩,Rd.nil_⟩
  ·
   simp only [List.cons.injEq,and_true] at hcs
   subst hcs
   have hz':zs.length=c:=by simpa using hz
   have hb:c≤140737488355328:=by
    subst hd
    have h:=hw c (by
     simp [DataW.weights,Tryz.underlying48,Tryz.underlying27,DataW.weightsEach,bU8,lits]
     omega)
    exact Nat.le_trans h (by decide)
   exact ⟨⟨q0,q1,q2,a3,_⟩,some x,l,c,rfl,⟨hq0,hq1,hq2⟩,⟨hlc,by omega⟩,Rd.of_ints hlc hz' hcell hwz⟩
theorem pick_blk:∀ (n:Nat) (P:Nat→Blk→Prop),(∀ i,i<n→∃ x,P i x)→∃ l:List Blk,l.length=n∧∀ i (hi:i<l.length),P i (l[i]'hi)
 | 0,P,_=>⟨[],rfl,fun i hi=>absurd hi (Nat.not_lt_zero _)⟩
 | n+1,P,h=>by
  obtain ⟨x,hx⟩:=h 0 (by omega)
  obtain ⟨l,h1,h2⟩:=pick_blk n (fun i=>P (i+1)) (fun i hi=>h (i+1) (by omega))
  refine ⟨x::l,by simp [h1],fun i hi=>?_⟩
  cases i with
  | zero=>exact hx
  | succ i=>exact h2 i (by simpa using hi)
theorem open_blks {fuel:Nat} {cs:List Value} {y:DataW H×List MemPlace} (h:DataW.trod enc Tryz.prog w 0 (fun _=>true) true fuel 71 cs=some y) (hw:∀ x∈DataW.weights Tryz.prog 71 y.1,x≤reachBytes) :
  ∃ (A:Option Addr) (n c:Nat) (l:List Blk),cs=[.slice A n c]∧n≤c∧RdL w w.heap.size A n l:=by
 rcases DataW.trod_slice Tryz.underlying71 h with ⟨rfl,rfl⟩|⟨a,len,cap,elems,rest,m,rfl,rfl,rfl,hba,hlc,hlm,hel,hget,hsp,_⟩
 ·
  exact ⟨none,0,0,[],rfl,Nat.le_refl _,RdL.nil_⟩
 ·
  have hwS:DataW.weights Tryz.prog 71 (.slice (elems.map (·.1)) (rest.map (·.1)))=((elems.map (·.1)).length+(rest.map (·.1)).length)*Tryz.prog.bytesOf 48::(DataW.weightsAll Tryz.prog 48 (elems.map (·.1))++DataW.weightsAll Tryz.prog 48 (rest.map (·.1))):=by
   rw [DataW.weights,Tryz.underlying71]
  rw [hwS] at hw
  have hlb:len≤140737488355328:=by
   have h1:=hw _ (List.mem_cons_self ..)
   rw [List.length_map,hel] at h1
   have h2:len*1≤(len+(rest.map (·.1)).length)*Tryz.prog.bytesOf 48:=Nat.mul_le_mul (Nat.le_add_right _ _) bBlk
   have h3:reachBytes≤140737488355328:=by decide
   omega
  have hone:∀ i,i<len→∃ (x:Blk) (A:Option Addr) (nd cd:Nat),w.cells? 0 (a.add (i*5)) 5=some [.int .u64 (x.typ:Int),.int .u64 (x.num:Int),.int .u64 (x.flg:Int),.int .i64 x.crc,.slice A nd cd]∧Bd x∧(nd≤cd∧nd≤140737488355328)∧Rd w w.heap.size A nd x.dat:=by
   intro i hi
   have hg:=hget i hi
   rw [cellsBlk,List.getElem?_eq_getElem (by rw [hel];exact hi)] at hg
   obtain ⟨cs',h1,h2⟩:=Option.bind_eq_some_iff.1 hg
   obtain ⟨x,A,nd,cd,rfl,hr⟩:=open_blkc h2 (fun x hx=>hw x (List.mem_cons_of_mem _ (List.mem_append.2 (.inl (weightsAll_mem (elems.map (·.1)) i (by rw [List.length_map,hel];exact hi) x (by rw [List.getElem_map];exact hx))))))
   exact ⟨x,A,nd,cd,h1,hr⟩
  obtain ⟨l,hl1,hl2⟩:=pick_blk len _ hone
  refine ⟨some a,len,cap,l,rfl,hlc,hl1,fun h0=>?_,hlb⟩
  obtain ⟨b,o,spot⟩:=a
  obtain ⟨A,nd,cd,h1,_⟩:=hl2 0 (by omega)
  obtain ⟨_,_,hcell⟩:=World.cells?_some h1
  have hc0:=hcell 0 (by omega)
  have hspot:spot=none:=by simpa [Addr.add] using World.cell?_spot hc0
  subst hspot
  refine ⟨b,o,rfl,?_,RdKs.of_get fun i hi=>?_⟩
  ·
   have:=World.block_lt_of_cell? w _ hc0
   simpa [Addr.add] using this
  ·
   obtain ⟨A,nd,cd,h1,hbd,hle,hrd⟩:=hl2 i hi
   obtain ⟨_,_,hcell⟩:=World.cells?_some h1
   have e:∀ j,((⟨b,o,none⟩:Addr).add (i*5)).add j=⟨b,o+i*5+j,none⟩:=fun j=>by rw [add_plain,add_plain]
   have q0:=hcell 0 (by omega)
   have q1:=hcell 1 (by omega)
   have q2:=hcell 2 (by omega)
   have q3:=hcell 3 (by omega)
   have q4:=hcell 4 (by omega)
   rw [e] at q0 q1 q2 q3 q4
   exact ⟨A,nd,cd,q0,q1,q2,q3,q4,hbd,hle,hrd⟩
theorem arr18 {α:Type} {cs:Array α} (h:cs.size=18):∃ c0 c1 c2 c3 c4 c5 c6 c7 c8 c9 c10 c11 c12 c13 c14 c15 c16 c17,cs=#[c0,c1,c2,c3,c4,c5,c6,c7,c8,c9,c10,c11,c12,c13,c14,c15,c16,c17]:=by
 obtain ⟨l⟩:=cs
 match l,h with
 | [c0,c1,c2,c3,c4,c5,c6,c7,c8,c9,c10,c11,c12,c13,c14,c15,c16,c17],_=>exact ⟨c0,c1,c2,c3,c4,c5,c6,c7,c8,c9,c10,c11,c12,c13,c14,c15,c16,c17,rfl⟩
end
def BunIn (w:World) (h:BH) (l:List Blk) (A:Option Addr) (n c:Nat):Prop:=h.Bd∧RdL w w.heap.size A n l∧n≤c
theorem open_bun {H:Type} {enc:TypeId×Value→H} {W:World} {r:Reach} {b0:Nat} {v:Value} {d:DataW H} {p:List MemPlace} (hv:Value.okWide Tryz.prog W r b0 73 v) (h:DataW.Trod enc Tryz.prog W 0 (fun _=>true) true 73 v d p) (hw:∀ x∈DataW.weights Tryz.prog 73 d,x≤reachBytes) :
  ∃ (h:BH) (l:List Blk) (A:Option Addr) (n c:Nat),v=bunV h A n c∧BunIn W h l A n c:=by
 obtain ⟨cs,rfl,hsz⟩:=okWide_struct Tryz.underlying73 hv
 obtain ⟨c0,c1,c2,c3,c4,c5,c6,c7,c8,c9,c10,c11,c12,c13,c14,c15,c16,c17,rfl⟩:=arr18 (hsz.trans cBun)
 clear hv hsz
 obtain ⟨fuel,hf⟩:=h
 obtain ⟨xs,n,_,hdd,hl,hlen,hfs⟩:=DataW.trod_struct Tryz.underlying73 hf
 clear hf hl
 obtain ⟨y0,y1,y2,y3,y4,y5,y6,y7,y8,rfl⟩:∃ y0 y1 y2 y3 y4 y5 y6 y7 y8,xs=[y0,y1,y2,y3,y4,y5,y6,y7,y8]:=by
  match xs,hlen with
  | [y0,y1,y2,y3,y4,y5,y6,y7,y8],_=>exact ⟨y0,y1,y2,y3,y4,y5,y6,y7,y8,rfl⟩
 obtain rfl:d=.agg [y0.1,y1.1,y2.1,y3.1,y4.1,y5.1,y6.1,y7.1,y8.1]:=congrArg Prod.fst hdd
 have hwS:DataW.weights Tryz.prog 73 (.agg [y0.1,y1.1,y2.1,y3.1,y4.1,y5.1,y6.1,y7.1,y8.1])=DataW.weights Tryz.prog 23 y0.1++(DataW.weights Tryz.prog 3 y1.1++(DataW.weights Tryz.prog 25 y2.1++(DataW.weights Tryz.prog 25 y3.1++(DataW.weights Tryz.prog 25 y4.1++(DataW.weights Tryz.prog 23 y5.1++(DataW.weights Tryz.prog 23 y6.1++(DataW.weights Tryz.prog 23 y7.1++(DataW.weights Tryz.prog 71 y8.1++[])))))))):=by
  rw [DataW.weights,Tryz.underlying73]
  simp [DataW.weightsEach]
 rw [hwS] at hw
 have hw2:∀ x∈DataW.weights Tryz.prog 25 y2.1,x≤reachBytes:=fun x hx=>hw x (by simp only [List.mem_append];exact .inr (.inr (.inl hx)))
 have hw3:∀ x∈DataW.weights Tryz.prog 25 y3.1,x≤reachBytes:=fun x hx=>hw x (by simp only [List.mem_append];exact .inr (.inr (.inr (.inl hx))))
 have hw4:∀ x∈DataW.weights Tryz.prog 25 y4.1,x≤reachBytes:=fun x hx=>hw x (by simp only [List.mem_append];exact .inr (.inr (.inr (.inr (.inl hx)))))
 have hw8:∀ x∈DataW.weights Tryz.prog 71 y8.1,x≤reachBytes:=fun x hx=>hw x (by simp only [List.mem_append];exact .inr (.inr (.inr (.inr (.inr (.inr (.inr (.inr (.inl hx)))))))))
 have k0:=hfs 0 _ rfl
 have k1:=hfs 1 _ rfl
 have k2:=hfs 2 _ rfl
 have k3:=hfs 3 _ rfl
 have k4:=hfs 4 _ rfl
 have k5:=hfs 5 _ rfl
 have k6:=hfs 6 _ rfl
 have k7:=hfs 7 _ rfl
 have k8:=hfs 8 _ rfl
 simp [Value.cells,cellsU64,cellsInt,cEid,cBs] at k0 k1 k2 k3 k4 k5 k6 k7 k8
 obtain ⟨a0,e0,-,w0⟩:=DataW.trod_int Tryz.underlying23 k0
 obtain ⟨a1,e1,-,w1⟩:=DataW.trod_int Tryz.underlying3 k1
 obtain ⟨s2,t2,n2,v2,e2,z2,zn2,zv2⟩:=open_eidc k2 hw2
 obtain ⟨s3,t3,n3,v3,e3,z3,zn3,zv3⟩:=open_eidc k3 hw3
 obtain ⟨s4,t4,n4,v4,e4,z4,zn4,zv4⟩:=open_eidc k4 hw4
 obtain ⟨a5,e5,-,w5⟩:=DataW.trod_int Tryz.underlying23 k5
 obtain ⟨a6,e6,-,w6⟩:=DataW.trod_int Tryz.underlying23 k6
 obtain ⟨a7,e7,-,w7⟩:=DataW.trod_int Tryz.underlying23 k7
 obtain ⟨A,nl,cl,l,e8,hlc,hrl⟩:=open_blks k8 hw8
 clear k0 k1 k2 k3 k4 k5 k6 k7 k8
 simp only [List.cons.injEq,and_true] at e0 e1 e2 e3 e4 e5 e6 e7 e8
 obtain ⟨e20,e21,e22,e23⟩:=e2
 obtain ⟨e30,e31,e32,e33⟩:=e3
 obtain ⟨e40,e41,e42,e43⟩:=e4
 subst e0 e1 e20 e21 e22 e23 e30 e31 e32 e33 e40 e41 e42 e43 e5 e6 e7 e8
 obtain ⟨q0,hq0,rfl⟩:∃ g:Nat,g<18446744073709551616∧a0=(g:Int):=⟨a0.toNat,by have h:=wfU w0;omega,by have h:=wfU w0;omega⟩
 obtain ⟨q5,hq5,rfl⟩:∃ g:Nat,g<18446744073709551616∧a5=(g:Int):=⟨a5.toNat,by have h:=wfU w5;omega,by have h:=wfU w5;omega⟩
 obtain ⟨q6,hq6,rfl⟩:∃ g:Nat,g<18446744073709551616∧a6=(g:Int):=⟨a6.toNat,by have h:=wfU w6;omega,by have h:=wfU w6;omega⟩
 obtain ⟨q7,hq7,rfl⟩:∃ g:Nat,g<18446744073709551616∧a7=(g:Int):=⟨a7.toNat,by have h:=wfU w7;omega,by have h:=wfU w7;omega⟩
 exact ⟨⟨q0,a1,s2,t2,n2,v2,s3,t3,n3,v3,s4,t4,n4,v4,q5,q6,q7⟩,l,A,nl,cl,rfl,⟨hq0,z2,zn2,zv2,z3,zn3,zv3,z4,zn4,zv4,hq5,hq6,hq7⟩,hrl,hlc⟩
open Go.RowKit
open Go.Lib (hid)
theorem few06_any (h:BH) (l:List Blk) (A:Option Addr) (n c B:Nat) (w:World) (hr:RdL w B A n l) (hB:B≤w.heap.size) :
  Calls Tryz.prog 45 #[bunV h A n c] w fun e w'=>∃ R:Bool,e=.returned (.bool R)∧Below w.heap.size w w':=by
 have HB0:=hid ((Below.refl w.heap.size w).alloc nlr (.cells #[.int .u64 (h.flg:Int),.int .i64 h.crc,.int .i64 h.dsc,.string h.dnm,.int .u64 (h.dn:Int),.int .u64 (h.dv:Int),.int .i64 h.ssc,.string h.snm,.int .u64 (h.sn:Int),.int .u64 (h.sv:Int),.int .i64 h.rsc,.string h.rnm,.int .u64 (h.rn:Int),.int .u64 (h.rv:Int),.int .u64 (h.tim:Int),.int .u64 (h.seq:Int),.int .u64 (h.lif:Int),.slice A n c] 73))
 have HS0:Hid ((w.alloc (.cells #[.int .u64 (h.flg:Int),.int .i64 h.crc,.int .i64 h.dsc,.string h.dnm,.int .u64 (h.dn:Int),.int .u64 (h.dv:Int),.int .i64 h.ssc,.string h.snm,.int .u64 (h.sn:Int),.int .u64 (h.sv:Int),.int .i64 h.rsc,.string h.rnm,.int .u64 (h.rn:Int),.int .u64 (h.rv:Int),.int .u64 (h.tim:Int),.int .u64 (h.seq:Int),.int .u64 (h.lif:Int),.slice A n c] 73)).heap.size=w.heap.size+1):=by show _=_;simp
 have x17:(w.alloc (.cells #[.int .u64 (h.flg:Int),.int .i64 h.crc,.int .i64 h.dsc,.string h.dnm,.int .u64 (h.dn:Int),.int .u64 (h.dv:Int),.int .i64 h.ssc,.string h.snm,.int .u64 (h.sn:Int),.int .u64 (h.sv:Int),.int .i64 h.rsc,.string h.rnm,.int .u64 (h.rn:Int),.int .u64 (h.rv:Int),.int .u64 (h.tim:Int),.int .u64 (h.seq:Int),.int .u64 (h.lif:Int),.slice A n c] 73)).cell? ⟨w.heap.size,17,none⟩=some (.slice A n c):=cell_row (row_of_box (w:=w) rfl (Below.refl _ _)) 17 rfl
 have HR:=hid (hr.below (HB0.out.mono hB))
 have hn47:=hr.2.2
 clear hr hB
 unfold bunV
 by_cases h30:30<n
 ·
  have t1:decide ((30:Int)<(n:Int))=true:=decide_eq_true (by omega)
  go_enter Tryz.func45,Tryz.ntmps45
  go_wp2_with fail
  go_ret
  exact ⟨_,rfl,HB0.out⟩
 have t1:decide ((30:Int)<(n:Int))=false:=decide_eq_false (by omega)
 go_enter Tryz.func45,Tryz.ntmps45
 go_wp2_with fail
 generalize w.alloc (.cells #[.int .u64 (h.flg:Int),.int .i64 h.crc,.int .i64 h.dsc,.string h.dnm,.int .u64 (h.dn:Int),.int .u64 (h.dv:Int),.int .i64 h.ssc,.string h.snm,.int .u64 (h.sn:Int),.int .u64 (h.sv:Int),.int .i64 h.rsc,.string h.rnm,.int .u64 (h.rn:Int),.int .u64 (h.rv:Int),.int .u64 (h.tim:Int),.int .u64 (h.seq:Int),.int .u64 (h.lif:Int),.slice A n c] 73)=W0 at *
 go_loop [3,4] (fun s v=>∃ i q:Nat,i≤n∧v=.int .i64 (i:Int)∧s=.int .i64 (q:Int)∧q≤140737488355328+5000) (fun _ v=>n - (intOf v).toNat)
 case atStart=>exact ⟨0,0,Nat.zero_le _,rfl,rfl,by omega⟩
 case round =>
  obtain ⟨i,q,hi,rfl,rfl,hq⟩:=hrel
  by_cases hlt:i<n
  ·
   have hii:decide ((i:Int)<(n:Int))=true:=decide_eq_true (by omega)
   have hi1:(i:Int)<(n:Int):=by omega
   by_cases hq5:q≤5000
   ·
    have hqq:decide ((q:Int)≤5000)=true:=decide_eq_true (by omega)
    have hil:i<l.length:=by rw [HR.out.1];exact hlt
    obtain ⟨b,o,rfl,hbB,hks⟩:=HR.out.2.1 (by omega)
    obtain ⟨A1,nd,cd,hk⟩:=hks.get i hil
    have g4:=hk.k4
    have hnd:=hk.le.2
    have hw:wrap64 ((q:Int)+(nd:Int))=((q+nd:Nat):Int):=by unfold wrap64;omega
    clear hk hks hbB
    go_wp2_with fail
    go_round
    case rel=>exact ⟨i+1,q+nd,by omega,by go_num,by rw [Int.natCast_add],by omega⟩
    case measure=>simp [intOf];omega
   ·
    have hqq:decide ((q:Int)≤5000)=false:=decide_eq_false (by omega)
    go_wp2_with fail
    go_ret
    exact ⟨by simp,HB0.out⟩
  ·
   obtain rfl:i=n:=by omega
   have hii:decide ((i:Int)<(i:Int))=false:=decide_eq_false (by omega)
   by_cases hq5:q≤5000
   ·
    have hqq:decide ((q:Int)≤5000)=true:=decide_eq_true (by omega)
    go_wp2_with fail
    go_ret
    exact ⟨by simp,HB0.out⟩
   ·
    have hqq:decide ((q:Int)≤5000)=false:=decide_eq_false (by omega)
    go_wp2_with fail
    go_ret
    exact ⟨by simp,HB0.out⟩
end Go.Proofs.YtlecbblmaadpiaaGreatDoor
