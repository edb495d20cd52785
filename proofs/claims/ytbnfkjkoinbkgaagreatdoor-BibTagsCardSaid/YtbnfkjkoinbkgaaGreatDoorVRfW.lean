import Derived.Test.YtbnfkjkoinbkgaaGreatDoorVAbb
import Derived.Test.YtbnfkjkoinbkgaaGreatDoorVBunB
import Derived.Test.YtbnfkjkoinbkgaaGreatDoorVCborR
import Derived.Test.YtbnfkjkoinbkgaaGreatDoorVCfBibTags
import Derived.Test.YtbnfkjkoinbkgaaGreatDoorVKHead
import Derived.Test.YtbnfkjkoinbkgaaGreatDoorVRfI
import Derived.Test.YtbnfkjkoinbkgaaGreatDoorVSame
import Derived.Test.YtbnfkjkoinbkgaaGreatDoorVShaT
import Derived.Deep.Slices
import Derived.Deep.RegionHeld3
import Derived.Laws.CopyOwn
import Derived.ChangeKeysEq
namespace Go.Proofs.YtbnfkjkoinbkgaaGreatDoor
set_option maxRecDepth 100000
set_option maxHeartbeats 16000000
open Go.RowKit
open Go.Lib (hid)
def Qzm(l:List Blk)(n:Nat)(w:World)(e:Ending)(w':World):Prop:=∃ R:Bool,e=.returned (.bool R)∧(R=true→n≤20∧∀ x∈l,x.dat.length≤3000)∧Below w.heap.size w w'
theorem Qvt(h:BH)(l:List Blk)(A:OA)(n c B:Nat)(w:World)(hr:RdL w B A n l)(hB:B≤w.heap.size) :
  Calls Tryz.prog 4 #[Qbl h A n c] w (Qzm l n w):=by
 have HB0:=hid ((Below.refl w.heap.size w).alloc zr (hbx h h.crc A n c));have HS0:Hid ((w.alloc (hbx h h.crc A n c)).heap.size=w.heap.size+1):=by show _=_;simp
 have x17:(w.alloc (hbx h h.crc A n c)).cell? ⟨w.heap.size,17,none⟩=some (.slice A n c):=Qab (Qad (w:=w) rfl (Below.refl _ _)) 17 rfl;have HR:=hid (hr.below (HB0.out.mono hB));have hn47:=hr.2.2;have HG:Hid (∀ e w' (R:Bool),e=.returned (.bool R)→(R=true→n≤20∧∀ x∈l,x.dat.length≤3000)→Below w.heap.size w w'→Qzm l n w e w'):=fun _ _ R h1 h2 h3=>⟨R,h1,h2,h3⟩
 clear hr hB;unfold Qbl;by_cases h20:20<n
 ·
  have t1:decide ((20:Int)<(n:Int))=true:=decide_eq_true (by omega);go_enter Tryz.func4,Tryz.ntmps4;go_wp2_with fail;go_ret;exact HG.out _ _ _ rfl (fun h=>absurd h (by decide)) HB0.out
 have t1:decide ((20:Int)<(n:Int))=false:=decide_eq_false (by omega);go_enter Tryz.func4,Tryz.ntmps4;go_wp2_with fail;generalize w.alloc (hbx h h.crc A n c)=W0 at *;go_loop [3,4] (fun s v=>∃ i q:Nat,i≤n∧v=.int .i64 (i:Int)∧s=.int .i64 (q:Int)∧q≤140737488355328+3000∧Hid (∀ x∈l.take i,x.dat.length≤q)) (fun _ v=>n - (intOf v).toNat)
 case atStart=>exact⟨0,0,Nat.zero_le _,rfl,rfl,by omega,fun x hx=>by simp at hx⟩
 case round =>
  obtain⟨i,q,hi,rfl,rfl,hq,HQ⟩:=hrel;by_cases hlt:i<n
  ·
   have hii:decide ((i:Int)<(n:Int))=true:=decide_eq_true (by omega);have hi1:(i:Int)<(n:Int):=by omega
   by_cases hq3:q≤3000
   ·
    have hqq:decide ((q:Int)≤3000)=true:=decide_eq_true (by omega);have hil:i<l.length:=by rw[HR.out.1];exact hlt
    obtain⟨b,o,rfl,hbB,hks⟩:=HR.out.2.1 (by omega);obtain⟨A1,nd,cd,hk⟩:=hks.get i hil;have g4:=hk.k4;have hnd:=hk.le.2;have HQ2:Hid (∀ x∈l.take (i+1),x.dat.length≤q+nd):=fun x hx=>by
     rw[List.take_add_one,List.mem_append] at hx
     rcases hx with hx|hx
     ·
      have:=HQ.out x hx;omega
     ·
      rw[List.getElem?_eq_getElem hil] at hx
      obtain rfl:x=l[i]:=by simpa using hx
      have:=hk.rd.1;omega
    clear HQ;have hw:wrap64 ((q:Int)+(nd:Int))=((q+nd:Nat):Int):=by unfold wrap64;omega
    clear hk hks hbB;go_wp2_with fail;go_round
    case rel=>exact⟨i+1,q+nd,by omega,by go_num,by rw[Int.natCast_add],by omega,HQ2⟩
    case measure=>simp[intOf];omega
   ·
    have hqq:decide ((q:Int)≤3000)=false:=decide_eq_false (by omega);go_wp2_with fail;go_ret;exact HG.out _ _ _ rfl (fun h=>absurd h (by decide)) HB0.out
  ·
   obtain rfl:i=n:=by omega
   have hii:decide ((i:Int)<(i:Int))=false:=decide_eq_false (by omega);by_cases hq3:q≤3000
   ·
    have hqq:decide ((q:Int)≤3000)=true:=decide_eq_true (by omega);go_wp2_with fail;go_ret;have hall:∀ x∈l,x.dat.length≤3000:=fun x hx=>by
     have:=HQ.out x (by rw[List.take_of_length_le (by rw[HR.out.1];exact Nat.le_refl _)];exact hx)
     omega
    exact HG.out _ _ _ rfl (fun _=>⟨by omega,hall⟩) HB0.out
   ·
    have hqq:decide ((q:Int)≤3000)=false:=decide_eq_false (by omega);go_wp2_with fail;go_ret;exact HG.out _ _ _ rfl (fun h=>absurd h (by decide)) HB0.out
theorem Qs8(n:Nat):Qkk (.mk 0 n [] []):=⟨by simp[Qbd,Qan,own],by simp[dep,Qcb],by simp[par,Qa5]⟩
theorem Qv1(d:LB):Qkk (.mk 2 0 d []):=⟨by simp[Qbd,Qan,own],by simp[dep,Qcb],by simp[par,Qa5]⟩
def Qva(p:LB)(sc:Nat)(t:Option Blk)(kind num flags:Nat):LB :=
 hd 0 sc++((if sc % 2=1∧t.isSome=true then p else [])++((match t with|some x=>if sc / 2 % 2=1 then hd 0 x.typ++(hd 0 x.num++hd 0 x.flg) else []|none=>[]) ++
  ((if sc / 4=1 then hd 0 kind++(hd 0 num++hd 0 flags) else [])++(match t with|some x=>hd 2 x.dat.length++x.dat|none=>p))))
theorem Qfx(p:Blk→Bool):∀ (l:List Blk) (i:Nat),(plc p l i = -1∧l.find? p=none)∨∃ (k:Nat) (hk:k<l.length),plc p l i=((i+k:Nat):Int)∧l.find? p=some (l[k]'hk)
 | [],i=>.inl ⟨rfl,rfl⟩
 | x::r,i=>by
  rw[plc,List.find?_cons]
  by_cases hx:p x=true
  ·
   rw[if_pos hx,hx]
   exact .inr ⟨0,by simp,rfl,rfl⟩
  ·
   rw[if_neg hx,Bool.not_eq_true] at *
   rw[hx]
   rcases Qfx p r (i+1) with h|⟨k,hk,h1,h2⟩
   ·
    exact .inl h
   ·
    exact .inr ⟨k+1,by simpa using hk,by rw[h1];congr 1;omega,by simpa using h2⟩
def Qdg(b:Bun)(q:Nat)(sc:Int)(kind num flags:Nat):LB×Int :=
 if Qa3 b≠0 then ([],Qa3 b) else if sc<0∨7<sc then ([],100) else if q=0 then (Qva (Qbx b) sc.toNat none kind num flags,0) else
  match b.blks.find? (Qbu q) with
  | none=>([],100)
  | some x=>if x.typ=11 then ([],100) else (Qva (Qbx b) sc.toNat (some x) kind num flags,0)
structure Bb where
 tgs:List Nat
 src:Epd
 sco:Int
 tag:List LB
def uI(n:Nat):Itm:=.mk 0 n [] []
def aI(l:List Itm):Itm:=.mk 4 0 [] l
def Qe5(t:LB):Itm:=aI [aI [uI 1,.mk 2 0 t []]]
def Qxs(s:Nat):Itm:=aI [aI [uI 1,uI 5],aI [uI 3,uI s]]
def Qd5(x:Bb):List Itm:=[aI (x.tgs.map uI),uI 1,uI 1,Qal x.src,Qxs x.sco.toNat,aI (x.tag.map Qe5)]
def Qgb(x:Bb):Bool :=
 decide (1≤x.tgs.length∧x.tgs.length≤15)&&(decide x.tgs.Nodup&&(decide (x.tag.length=x.tgs.length)&&(x.tag.all (fun t=>t.length==32)&&(decide (0≤x.sco∧x.sco≤7)&&(Qag x.src && !Qby x.src)))))
def Qjh(x:Bb):LB:=wrs (Qd5 x)
structure Rgt (x:Bb):Prop where
 l1:1≤x.tgs.length
 l15:x.tgs.length≤15
 nd:x.tgs.Nodup
 tl:x.tag.length=x.tgs.length
 t32:∀ t∈x.tag,t.length=32
 s0:0≤x.sco
 s7:x.sco≤7
 ck:Qag x.src=true
 nn:Qby x.src=false
theorem Qb7{x:Bb}:Qgb x=true↔Rgt x:=by
 unfold Qgb;simp only[Bool.and_eq_true,decide_eq_true_eq,List.all_eq_true,beq_iff_eq,Bool.not_eq_true'];constructor
 ·
  rintro ⟨⟨a,b⟩,c,d,e,⟨f,g⟩,h,i⟩;exact⟨a,b,c,d,e,f,g,h,i⟩
 ·
  rintro ⟨a,b,c,d,e,f,g,h,i⟩;exact⟨⟨a,b⟩,c,d,e,⟨f,g⟩,h,i⟩
theorem Qft:∀ l:List Nat,Qan (l.map uI)=true
 | []=>rfl
 | x::r=>by rw[List.map_cons,Qan,Qft r];rfl
theorem Qi2:∀ l:List Nat,Qcb (l.map uI)=0
 | []=>rfl
 | x::r=>by rw[List.map_cons,Qcb,Qi2 r];rfl
theorem Qff:∀ l:List Nat,Qa5 (l.map uI)=l.length
 | []=>rfl
 | x::r=>by rw[List.map_cons,Qa5,Qff r,List.length_cons];show 1+Qa5 []+_=_;rw[Qa5];omega
theorem Qh1:∀ l:List Nat,(∀ x∈l,x<18446744073709551616)→Qja (l.map uI)
 | [],_=>trivial
 | x::r,h=>by
  rw[List.map_cons]
  exact⟨⟨h x (List.mem_cons_self ..),by decide,by decide,trivial⟩,Qh1 r (fun y hy=>h y (List.mem_cons_of_mem _ hy))⟩
theorem Qe8:∀ l:List LB,Qan (l.map Qe5)=true
 | []=>rfl
 | x::r=>by rw[List.map_cons,Qan,Qe8 r];rfl
theorem Qg8:∀ l:List LB,Qcb (l.map Qe5)≤2
 | []=>Nat.zero_le _
 | x::r=>by
  rw[List.map_cons,Qcb]
  have:=Qg8 r
  have e:dep (Qe5 x)=2:=by simp[Qe5,aI,uI,dep,Qcb]
  omega
theorem Qel:∀ l:List LB,Qa5 (l.map Qe5)=4*l.length
 | []=>rfl
 | x::r=>by
  rw[List.map_cons,Qa5,Qel r,List.length_cons]
  have e:par (Qe5 x)=4:=by simp[Qe5,aI,uI,par,Qa5]
  omega
theorem Qgz:∀ l:List LB,(∀ x∈l,x.length<18446744073709551616)→Qja (l.map Qe5)
 | [],_=>trivial
 | x::r,h=>by
  rw[List.map_cons]
  have hx:=h x (List.mem_cons_self ..);refine⟨?_,Qgz r (fun y hy=>h y (List.mem_cons_of_mem _ hy))⟩;simp only[Qe5,aI,uI,Siz,Qja,List.length_cons,List.length_nil,and_true];refine⟨by decide,by decide,by decide,by decide,by decide,by decide,⟨by decide,by decide,by decide⟩,by decide,hx,by decide⟩
theorem Qgq{l:List Itm}(h1:Qan l=true)(h2:Qcb l≤7)(h3:Qa5 l≤4095):Qkk (aI l):=by
 refine⟨?_,?_,?_⟩
 ·
  show(own 4 0 [] l&&Qan l)=true;rw[h1];rfl
 ·
  show Qcb l+_≤8;rw[if_pos (.inl rfl)];omega
 ·
  show 1+Qa5 l≤4096;omega
theorem Qjt{l:List Itm}(h:Qja l)(hl:l.length<18446744073709551616):Siz (aI l):=⟨by decide,by decide,hl,h⟩
theorem Qvr(n:Nat):Qkk (uI n):=⟨rfl,by simp[uI,dep,Qcb],by simp[uI,par,Qa5]⟩
theorem Qy9{n:Nat}(h:n<18446744073709551616):Siz (uI n):=⟨h,by decide,by decide,trivial⟩
theorem Qr2{e:Epd}(h:Qag e=true):Qkk (Qal e):=by
 unfold Qal;by_cases h2:e.scheme=2
 ·
  rw[if_pos h2]
  exact Qgq (by simp[Qbd,Qan,own]) (by simp[dep,Qcb]) (by simp[par,Qa5])
 ·
  rw[if_neg h2]
  by_cases hn:e.name=[]
  ·
   rw[if_pos hn]
   exact Qgq (by simp[Qbd,Qan,own]) (by simp[dep,Qcb]) (by simp[par,Qa5])
  ·
   rw[if_neg hn]
   have h1:e.scheme=1:=by
    by_cases h1:e.scheme=1
    ·
     exact h1
    ·
     exact absurd (Qbe h h1).1 h2
   obtain⟨-,-,h3⟩:=Qbz h h1;have hp:plain e.name=true:=by
    rcases h3 with h3|h3
    ·
     exact absurd h3 hn
    ·
     obtain⟨r,e1,hr,-⟩:=Qb4 h3;rw[e1]
     unfold plain;rw[List.all_eq_true] at hr ⊢
     intro c hc;have hb:∀ c:UInt8,lsB c=true→32≤c.toNat∧c.toNat≤126:=by
      intro c hc;unfold lsB Qbk at hc;simp only[Bool.or_eq_true,Bool.and_eq_true,decide_eq_true_eq,beq_iff_eq] at hc;rcases hc with rfl|⟨h1,h2⟩|⟨h1,h2⟩|rfl|rfl|rfl
      ·
       decide
      ·
       omega
      ·
       omega
      ·
       decide
      ·
       decide
      ·
       decide
     simp only[List.mem_cons] at hc;rw[Bool.and_eq_true,decide_eq_true_eq,decide_eq_true_eq]
     rcases hc with rfl|rfl|hc
     ·
      decide
     ·
      decide
     ·
      exact hb c (hr c hc)
   exact Qgq (by simp[Qbd,Qan,own,hp]) (by simp[dep,Qcb]) (by simp[par,Qa5])
theorem Qyf{e:Epd}(h:Qag e=true):Siz (Qal e):=by
 have hs:e.scheme.toNat<18446744073709551616:=by
  by_cases h1:e.scheme=1
  ·
   rw[h1];decide
  ·
   rw[(Qbe h h1).1];decide
 unfold Qal;by_cases h2:e.scheme=2
 ·
  rw[if_pos h2]
  obtain⟨-,-,h3,h4,h5⟩:=Qbe h (by rw[h2];decide);refine Qjt ?_ (by simp);simp only[Qja,Siz,List.length_cons,List.length_nil,and_true];exact⟨⟨hs,by decide,by decide⟩,by decide,by decide,by decide,⟨by omega,by decide,by decide⟩,by omega,by decide,by decide⟩
 ·
  rw[if_neg h2]
  by_cases hn:e.name=[]
  ·
   rw[if_pos hn]
   refine Qjt ?_ (by simp);simp only[Qja,Siz,List.length_nil,and_true];exact⟨⟨hs,by decide,by decide⟩,by decide,by decide,by decide⟩
  ·
   rw[if_neg hn]
   have h1:e.scheme=1:=by
    by_cases h1:e.scheme=1
    ·
     exact h1
    ·
     exact absurd (Qbe h h1).1 h2
   obtain⟨-,-,h3⟩:=Qbz h h1;have hl:e.name.length≤64:=by
    rcases h3 with h3|h3
    ·
     exact absurd h3 hn
    ·
     obtain⟨r,-,-,-,-,h⟩:=Qb4 h3;exact h
   refine Qjt ?_ (by simp);simp only[Qja,Siz,List.length_nil,and_true];exact⟨⟨hs,by decide,by decide⟩,by decide,by omega,by decide⟩
def FS(l:List Itm):Prop:=∀ y∈l,Qkk y∧Siz y
theorem Qz9{s:Nat}(h:s<18446744073709551616):Qkk (Qxs s)∧Siz (Qxs s):=by
 refine⟨Qgq (by simp[aI,uI,Qbd,Qan,own]) (by simp[aI,uI,dep,Qcb]) (by simp[aI,uI,par,Qa5]),Qjt ?_ (by simp)⟩;simp only[aI,uI,Siz,Qja,List.length_cons,List.length_nil,and_true];exact⟨⟨by decide,by decide,by decide,⟨by decide,by decide,by decide⟩,by decide,by decide,by decide⟩,by decide,by decide,by decide,⟨by decide,by decide,by decide⟩,h,by decide,by decide⟩
theorem Qp4{x:Bb}(h:Rgt x)(hs:∀ n∈x.tgs,n<18446744073709551616):FS (Qd5 x):=by
 have h1:=h.l15;have h2:=h.tl;intro y hy;simp only[Qd5,List.mem_cons,List.not_mem_nil,or_false] at hy;rcases hy with rfl|rfl|rfl|rfl|rfl|rfl
 ·
  exact⟨Qgq (Qft _) (by rw[Qi2];decide) (by rw[Qff];omega),Qjt (Qh1 _ hs) (by rw[List.length_map];omega)⟩
 ·
  exact⟨Qvr 1,Qy9 (by decide)⟩
 ·
  exact⟨Qvr 1,Qy9 (by decide)⟩
 ·
  exact⟨Qr2 h.ck,Qyf h.ck⟩
 ·
  exact Qz9 (by have:=h.s7;have:=h.s0;omega)
 ·
  exact⟨Qgq (Qe8 _) (Nat.le_trans (Qg8 _) (by decide)) (by rw[Qel];omega),Qjt (Qgz _ (fun t ht=>by rw[h.t32 t ht];decide)) (by rw[List.length_map];omega)⟩
def Qg9:Nat→List UInt8→Option (List Itm×List UInt8)
 | 0,b=>some ([],b)
 | k+1,b=>if (Qba b).2.2≠0 then none else match Qg9 k (b.drop (Qba b).2.1.toNat) with
  | none=>none
  | some (l,r)=>some ((Qba b).1::l,r)
theorem Qqq:∀ (l:List Itm) (m:LB),FS l→Qg9 l.length (wrs l++m)=some (l,m)
 | [],m,_=>rfl
 | x::r,m,h=>by
  obtain⟨h1,h2⟩:=h x (List.mem_cons_self ..);rw[List.length_cons,wrs,List.append_assoc,Qg9,Qi3 h1 h2 (wrs r++m)]
  simp only[ne_eq,not_true_eq_false,if_false,Int.toNat_natCast];rw[List.drop_left' rfl,Qqq r m (fun y hy=>h y (List.mem_cons_of_mem _ hy))]
def Qje(l:List Itm)(o:Option (List Itm×List UInt8)):Option (List Itm×List UInt8):=match o with|none=>none|some (l',r)=>some (l++l',r)
theorem Qt4(o:Option (List Itm×List UInt8)):Qje [] o=o:=by rcases o with _|⟨l,r⟩ <;> rfl
theorem Qro(l:List Itm)(k:Nat)(b:LB)(h:(Qba b).2.2=0):Qje l (Qg9 (k+1) b)=Qje (l++[(Qba b).1]) (Qg9 k (b.drop (Qba b).2.1.toNat)):=by
 rw[Qg9,if_neg (by simp[h])]
 rcases Qg9 k (b.drop (Qba b).2.1.toNat) with _|⟨l',r⟩
 ·
  rfl
 ·
  simp[Qje]
theorem Qrp(l:List Itm)(k:Nat)(b:LB)(h:(Qba b).2.2≠0):Qje l (Qg9 (k+1) b)=none:=by
 rw[Qg9,if_pos h];rfl
def wth:Itm→List Nat→Itm
 | x,[]=>x
 | x,p::ps=>match x.list[p]? with|none=>.zero|some y=>wth y ps
structure Tk (l:List Itm) (x:Bb):Prop where
 tgs:x.tgs=(l.getD 0 .zero).list.map Itm.num
 sco:x.sco=IntKind.i64.wrap ((wth (l.getD 4 .zero) [1,1]).num:Int)
 tag:x.tag=(l.getD 5 .zero).list.map fun y=>(wth y [0,1]).data
 src:(Qag x.src=true∧Qal x.src=l.getD 3 .zero)∨((∀ e,Qag e=true→Qal e≠l.getD 3 .zero)∧x.src=⟨0,[],0,0⟩)
theorem Qzl{a b:Bb}(h1:a.tgs=b.tgs)(h2:a.src=b.src)(h3:a.sco=b.sco)(h4:a.tag=b.tag):a=b:=by
 obtain⟨a1,a2,a3,a4⟩:=a;obtain⟨b1,b2,b3,b4⟩:=b;simp only at h1 h2 h3 h4;subst h1 h2 h3 h4;rfl
theorem Qkm{n:Int}(h0:0≤n)(h7:n≤7):IntKind.i64.wrap n=n:=by
 have:n=0∨n=1∨n=2∨n=3∨n=4∨n=5∨n=6∨n=7:=by omega
 rcases this with rfl|rfl|rfl|rfl|rfl|rfl|rfl|rfl <;> rfl
theorem Qpl{x y:Bb}(h:Rgt x)(ht:Tk (Qd5 x) y):y=x:=by
 refine Qzl ?_ ?_ ?_ ?_
 ·
  rw[ht.tgs]
  show(x.tgs.map uI).map Itm.num=_;rw[List.map_map]
  exact List.map_id _
 ·
  rcases ht.src with ⟨h1,h2⟩|⟨h1,-⟩
  ·
   exact Qhg h1 h.ck h2
  ·
   exact absurd rfl (h1 x.src h.ck)
 ·
  rw[ht.sco]
  show IntKind.i64.wrap ((x.sco.toNat:Nat):Int)=x.sco;rw[Int.toNat_of_nonneg h.s0]
  exact Qkm h.s0 h.s7
 ·
  rw[ht.tag]
  show(x.tag.map Qe5).map (fun y=>(wth y [0,1]).data)=_;rw[List.map_map]
  exact List.map_id _
structure IsBib (b:LB) (x:Bb):Prop where
 rgt:Rgt x
 siz:∀ n∈x.tgs,n<18446744073709551616
 eq:Qjh x=b
theorem IsBib.six{b:LB}{x:Bb}(h:IsBib b x):Qg9 6 b=some (Qd5 x,[]):=by
 have:=Qqq (Qd5 x) [] (Qp4 h.rgt h.siz)
 rw[List.append_nil] at this
 rw[← h.eq]
 exact this
theorem Qzy{x:Bb}(h:Rgt x):Tk (Qd5 x) x:=by
 refine⟨?_,?_,?_,.inl ⟨h.ck,rfl⟩⟩
 ·
  show _=(x.tgs.map uI).map Itm.num;rw[List.map_map]
  exact(List.map_id _).symm
 ·
  show x.sco=IntKind.i64.wrap ((x.sco.toNat:Nat):Int);rw[Int.toNat_of_nonneg h.s0]
  exact(Qkm h.s0 h.s7).symm
 ·
  show _=(x.tag.map Qe5).map (fun y=>(wth y [0,1]).data);rw[List.map_map]
  exact(List.map_id _).symm
theorem IsBib.uniq{b:LB}{x y:Bb}(h:IsBib b x)(h':IsBib b y):y=x:=by
 have e:=h.six.symm.trans h'.six;simp only[Option.some.injEq,Prod.mk.injEq,and_true] at e;have:=Qzy h'.rgt
 rw[← e] at this
 exact Qpl h.rgt this
theorem Qr8{b:LB}(h:Qg9 6 b=none):∀ x,¬ IsBib b x:=fun x hx=>by rw[hx.six] at h;cases h
theorem Qoo{b r:LB}{l:List Itm}{y:Bb}(h:Qg9 6 b=some (l,r))(ht:Tk l y):∀ x,IsBib b x→x=y:=fun x hx=>by
 rw[hx.six] at h
 simp only[Option.some.injEq,Prod.mk.injEq] at h;rw[← h.1] at ht
 exact(Qpl hx.rgt ht).symm
def Qys(x:Itm):Epd :=
 match x.list with
 | [a,b]=>if a.num=2 then ⟨2,[],(b.list.getD 0 .zero).num,(b.list.getD 1 .zero).num⟩ else ⟨1,b.data,0,0⟩
 | _=>⟨0,[],0,0⟩
theorem Qvn{e:Epd}(h:Qag e=true):Qys (Qal e)=e:=by
 by_cases h1:e.scheme=1
 ·
  obtain⟨h3,h4,-⟩:=Qbz h h1;have hne:¬ e.scheme=2:=by rw[h1];decide
  have hs:e.scheme.toNat=1:=by rw[h1];rfl
  unfold Qal Qys;simp only[Itm.list,if_neg hne,hs];show(if (1:Nat)=2 then _ else _)=e;rw[if_neg (by decide)]
  refine Qgr h1.symm ?_ h3.symm h4.symm;show(if e.name=[] then Itm.mk 0 0 [] [] else Itm.mk 3 0 e.name []).data=e.name;by_cases hn:e.name=[]
  ·
   rw[if_pos hn,hn];rfl
  ·
   rw[if_neg hn];rfl
 ·
  obtain⟨h2,h3,-,-,-⟩:=Qbe h h1;have hs:e.scheme.toNat=2:=by rw[h2];rfl
  unfold Qal Qys;simp only[Itm.list,if_pos h2,hs];show(if (2:Nat)=2 then _ else _)=e;rw[if_pos rfl]
  exact Qgr h2.symm h3.symm rfl rfl
def tkB(l:List Itm):Bb:=⟨(l.getD 0 .zero).list.map Itm.num,Qys (l.getD 3 .zero),IntKind.i64.wrap ((wth (l.getD 4 .zero) [1,1]).num:Int),(l.getD 5 .zero).list.map fun y=>(wth y [0,1]).data⟩
def rdB(b:LB):Option Bb :=
 match Qg9 6 b with
 | none=>none
 | some (l,_)=>if Qgb (tkB l)=true∧((tkB l).tgs.all (fun n=>decide (n<18446744073709551616))=true∧Qjh (tkB l)=b) then some (tkB l) else none
theorem Qs9{x:Bb}(h:Rgt x):tkB (Qd5 x)=x:=by
 refine Qzl ?_ ?_ ?_ ?_
 ·
  show(x.tgs.map uI).map Itm.num=_;rw[List.map_map]
  exact List.map_id _
 ·
  exact Qvn h.ck
 ·
  show IntKind.i64.wrap ((x.sco.toNat:Nat):Int)=x.sco;rw[Int.toNat_of_nonneg h.s0]
  exact Qkm h.s0 h.s7
 ·
  show(x.tag.map Qe5).map (fun y=>(wth y [0,1]).data)=_;rw[List.map_map]
  exact List.map_id _
theorem Qek{b:LB}{x:Bb}:rdB b=some x↔IsBib b x:=by
 constructor
 ·
  intro h;unfold rdB at h;split at h
  ·
   cases h
  ·
   rename_i l r h6
   split at h
   ·
    rename_i hh
    injection h with h
    subst h;refine⟨Qb7.1 hh.1,fun n hn=>?_,hh.2.2⟩;have:=List.all_eq_true.1 hh.2.1 n hn
    simpa using this
   ·
    cases h
 ·
  intro h;unfold rdB;rw[h.six]
  show(if Qgb (tkB (Qd5 x))=true∧_ then some (tkB (Qd5 x)) else none)=some x;rw[Qs9 h.rgt,if_pos ⟨Qb7.2 h.rgt,List.all_eq_true.2 (fun n hn=>decide_eq_true (h.siz n hn)),h.eq⟩]
theorem Qpw{b:LB}:rdB b=none↔∀ x,¬ IsBib b x:=by
 constructor
 ·
  intro h x hx;rw[Qek.2 hx] at h
  cases h
 ·
  intro h;cases hr:rdB b with
  | none=>rfl
  | some x=>exact absurd (Qek.1 hr) (h x)
theorem Qt0{b r:LB}{l:List Itm}{y:Bb}(h:Qg9 6 b=some (l,r))(ht:Tk l y)(hs:∀ n∈y.tgs,n<18446744073709551616):rdB b=if Qgb y=true∧Qjh y=b then some y else none:=by
 by_cases hc:Qgb y=true∧Qjh y=b
 ·
  rw[if_pos hc]
  exact Qek.2 ⟨Qb7.1 hc.1,hs,hc.2⟩
 ·
  rw[if_neg hc]
  refine Qpw.2 fun x hx=>hc ?_
  have e:=Qoo h ht x hx;subst e;exact⟨Qb7.2 hx.rgt,hx.eq⟩
def Qbw(f:Nat→List UInt8×Int)(k:LB):List Nat→List LB×Int
 | []=>([],0)
 | t::ts=>if (f t).2≠0 then ([],(f t).2) else if (Qbw f k ts).2≠0 then ([],(Qbw f k ts).2) else (Qha k (f t).1::(Qbw f k ts).1,0)
def Qfd(f:Nat→List UInt8×Int)(k:LB):List Nat→List LB→Int
 | t::ts,g::gs=>if (f t).2≠0 then (f t).2 else if g≠Qha k (f t).1 then 101 else Qfd f k ts gs
 | _,_=>0
theorem Qhz(f:Nat→List UInt8×Int)(k:LB):∀ l:List Nat,(Qbw f k l).2=0→(Qbw f k l).1.length=l.length∧∀ t∈(Qbw f k l).1,t.length=32
 | [],_=>⟨rfl,fun t ht=>by cases ht⟩
 | t::ts,h=>by
  have ih:=Qhz f k ts;rw[Qbw] at h ⊢
  split at h
  ·
   rename_i h1;exact absurd h h1
  ·
   rename_i h1
   split at h
   ·
    rename_i h2;exact absurd h h2
   ·
    rename_i h2
    rw[if_neg h1,if_neg h2]
    obtain⟨i1,i2⟩:=ih (by simpa using h2);refine⟨by simp[i1],fun u hu=>?_⟩;rcases List.mem_cons.1 hu with rfl|hu
    ·
     exact Qck _ _
    ·
     exact i2 u hu
theorem Qlt(f g:Nat→List UInt8×Int)(k:LB):∀ l:List Nat,(Qbw f k l).2=0→(∀ t∈l,g t=f t)→Qfd g k l (Qbw f k l).1=0
 | [],_,_=>rfl
 | t::ts,h,hg=>by
  have ih:=Qlt f g k ts;rw[Qbw] at h ⊢
  split at h
  ·
   rename_i h1;exact absurd h h1
  ·
   rename_i h1
   split at h
   ·
    rename_i h2;exact absurd h h2
   ·
    rename_i h2
    rw[if_neg h1,if_neg h2,Qfd,hg t (List.mem_cons_self ..),if_neg h1,if_neg (by simp)]
    exact ih (by simpa using h2) (fun u hu=>hg u (List.mem_cons_of_mem _ hu))
theorem Qls(f:Nat→List UInt8×Int)(k:LB):∀ (l:List Nat) (gs:List LB),Qfd f k l gs=0→∀ i,i<l.length→i<gs.length→(f (l.getD i 0)).2=0∧gs.getD i []=Qha k (f (l.getD i 0)).1
 | [],gs,_,i,hi,_=>absurd hi (Nat.not_lt_zero _)
 | t::ts,[],_,i,_,hi=>absurd hi (Nat.not_lt_zero _)
 | t::ts,g::gs,h,i,h1,h2=>by
  rw[Qfd] at h
  split at h
  ·
   rename_i h3;exact absurd h h3
  ·
   rename_i h3
   split at h
   ·
    cases h
   ·
    rename_i h4
    match i with
    | 0=>exact⟨by simpa using h3,by simpa using h4⟩
    | j+1 =>
     have:=Qls f k ts gs h j (by simpa using h1) (by simpa using h2)
     simpa using this
def Qv6(q:Nat)(y:Blk):Bool:=decide (y.typ=11)&&(match rdB y.dat with|none=>false|some c=>c.tgs.contains q)
def Qjg(q:Nat)(l:List Blk):List Nat:=(l.filter (Qv6 q)).map Blk.num
def vrB(b:Bun)(q:Nat)(k:LB):Option Bb×Int :=
 if Qa3 b≠0 then (none,Qa3 b) else match b.blks.find? (Qbu q) with
  | none=>(none,100)
  | some y=>if y.typ≠11 then (none,100) else match rdB y.dat with
   | none=>(none,100)
   | some x=>if Qfd (fun t=>Qdg b t x.sco y.typ y.num y.flg) k x.tgs x.tag≠0 then (none,Qfd (fun t=>Qdg b t x.sco y.typ y.num y.flg) k x.tgs x.tag) else (some x,0)
def sgT(b:Bun)(tgs:List Nat)(num:Nat)(sc:Int)(k:LB):List LB×Int:=Qbw (fun t=>Qdg b t sc 11 num 0) k tgs
def RdN(w:World)(B:Nat)(A:OA)(n:Nat)(l:List Nat):Prop :=
 l.length=n∧(0<n→∃ b o,A=some ⟨b,o,none⟩∧b<B∧∀ i,i<n→w.cell? ⟨b,o+i,none⟩=some (.int .u64 ((l.getD i 0:Nat):Int)))
section
variable {w w':World}{B B' n:Nat}{A:OA}{l:List Nat}
theorem RdN.keep(h:RdN w B A n l)(hk:∀ p:Addr,p.block<B→w'.cell? p=w.cell? p):RdN w' B A n l :=
 ⟨h.1,fun hn=>by obtain⟨b,o,e,hb,hc⟩:=h.2 hn;exact⟨b,o,e,hb,fun i hi=>(hk ⟨b,o+i,none⟩ hb).trans (hc i hi)⟩⟩
theorem RdN.sub_(h:RdN w B A n l)(hs:∀ p u,w.cell? p=some u→w'.cell? p=some u)(hB:B≤B'):RdN w' B' A n l :=
 ⟨h.1,fun hn=>by obtain⟨b,o,e,hb,hc⟩:=h.2 hn;exact⟨b,o,e,Nat.lt_of_lt_of_le hb hB,fun i hi=>hs _ _ (hc i hi)⟩⟩
theorem RdN.more(h:RdN w B A n l)(hB:B≤B'):RdN w B' A n l:=h.sub_ (fun _ _ h=>h) hB
theorem RdN.below(h:RdN w B A n l)(hb:Below B w w'):RdN w' B A n l:=h.keep fun _ hp=>hb.cell hp
theorem RdN.nil_:RdN w B A 0 []:=⟨rfl,fun h=>absurd h (Nat.not_lt_zero _)⟩
theorem RdN.get(h:RdN w B A n l)(i:Nat)(hi:i<n):∃ b o,A=some ⟨b,o,none⟩∧b<B∧w.cell? ⟨b,o+i,none⟩=some (.int .u64 ((l.getD i 0:Nat):Int)):=by
 obtain⟨b,o,e,hb,hc⟩:=h.2 (by omega);exact⟨b,o,e,hb,hc i hi⟩
end
def uV(n:Nat):Value:=.int .u64 (n:Int)
theorem Qob{w:World}{base n:Nat}{v:Value}{l:List Nat}(t:TypeId)(h:w.ownsRow base t 1 v n (l.map uV)):∃ A c,v=.slice A n c∧n≤c∧RdN w w.heap.size A n l:=by
 have hl:l.length=n:=by have:=h.1;simpa using this
 rcases h.2 with ⟨rfl,rfl⟩|⟨g,cap,cur,rfl,hb,hg,hnc,hm,hs,ht⟩
 ·
  exact⟨none,0,rfl,Nat.le_refl _,hl,fun h0=>absurd h0 (Nat.not_lt_zero _)⟩
 ·
  refine⟨_,cap,rfl,hnc,hl,fun _=>⟨g,0,rfl,(Array.getElem?_eq_some_iff.1 hg).1,fun i hi=>?_⟩⟩;have hc:=World.ownsRow.cells h (g:=g) rfl i (uV (l.getD i 0)) (by
   rw[List.getElem?_map,List.getElem?_eq_getElem (by omega)]
   simp[List.getD,List.getElem?_eq_getElem (show i<l.length by omega)])
  have ea:(⟨g,0,none⟩:Addr).add i=⟨g,0+i,none⟩:=by unfold Addr.add;split <;> simp_all
  rw[ea] at hc
  exact hc
def RdT(w:World)(B:Nat)(A:OA)(n:Nat)(l:List LB):Prop :=
 l.length=n∧(0<n→∃ b o,A=some ⟨b,o,none⟩∧b<B∧∀ i,i<n→∃ At nt ct,w.cell? ⟨b,o+i,none⟩=some (.slice At nt ct)∧Rd w B At nt (l.getD i []))
section
variable {w w':World}{B B' n:Nat}{A:OA}{l:List LB}
theorem RdT.sub_(h:RdT w B A n l)(hs:∀ p u,w.cell? p=some u→w'.cell? p=some u)(hB:B≤B'):RdT w' B' A n l :=
 ⟨h.1,fun hn=>by obtain⟨b,o,e,hb,hc⟩:=h.2 hn;exact⟨b,o,e,Nat.lt_of_lt_of_le hb hB,fun i hi=>by obtain⟨At,nt,ct,h1,h2⟩:=hc i hi;exact⟨At,nt,ct,hs _ _ h1,h2.sub_ hs hB⟩⟩⟩
theorem RdT.below(h:RdT w B A n l)(hb:Below B w w'):RdT w' B A n l :=
 ⟨h.1,fun hn=>by obtain⟨b,o,e,hlt,hc⟩:=h.2 hn;exact⟨b,o,e,hlt,fun i hi=>by obtain⟨At,nt,ct,h1,h2⟩:=hc i hi;exact⟨At,nt,ct,(hb.cell (p:=⟨b,o+i,none⟩) hlt).trans h1,h2.below hb⟩⟩⟩
theorem RdT.more(h:RdT w B A n l)(hB:B≤B'):RdT w B' A n l:=h.sub_ (fun _ _ h=>h) hB
theorem RdT.nil_:RdT w B A 0 []:=⟨rfl,fun h=>absurd h (Nat.not_lt_zero _)⟩
theorem RdT.len(h:RdT w B A n l):l.length=n:=h.1
theorem RdT.get(h:RdT w B A n l)(i:Nat)(hi:i<n):∃ b o At nt ct,A=some ⟨b,o,none⟩∧b<B∧w.cell? ⟨b,o+i,none⟩=some (.slice At nt ct)∧Rd w B At nt (l.getD i [])∧True∧True:=by
 obtain⟨b,o,e,hb,hc⟩:=h.2 (by omega);obtain⟨At,nt,ct,h1,h2⟩:=hc i hi;exact⟨b,o,At,nt,ct,e,hb,h1,h2,trivial,trivial⟩
end
structure Tg where
 A:OA
 n:Nat
 c:Nat
def tgV(p:Tg):Value:=.slice p.A p.n p.c
theorem Qtz{w:World}{base n:Nat}{v:Value}{ps:List Tg}{l:List LB}(t:TypeId)(h:w.ownsRow base t 1 v n (ps.map tgV))(hl:l.length=n)(hp:∀ i p,ps[i]?=some p→Rd w w.heap.size p.A p.n (l.getD i [])):∃ A c,v=.slice A n c∧n≤c∧RdT w w.heap.size A n l:=by
 have hlp:ps.length=n:=by have:=h.1;simpa using this
 rcases h.2 with ⟨rfl,rfl⟩|⟨g,cap,cur,rfl,hb,hg,hnc,hm,hs,ht⟩
 ·
  exact⟨none,0,rfl,Nat.le_refl _,hl,fun h0=>absurd h0 (Nat.not_lt_zero _)⟩
 ·
  refine⟨_,cap,rfl,hnc,hl,fun _=>⟨g,0,rfl,(Array.getElem?_eq_some_iff.1 hg).1,fun i hi=>?_⟩⟩;have hil:i<ps.length:=by omega
  have hq:=List.getElem?_eq_getElem hil;have hc:=World.ownsRow.cells h (g:=g) rfl i (tgV ps[i]) (by rw[List.getElem?_map,hq];rfl);have ea:(⟨g,0,none⟩:Addr).add i=⟨g,0+i,none⟩:=by unfold Addr.add;split <;> simp_all
  rw[ea] at hc
  exact⟨_,_,_,hc,hp i _ hq⟩
def Qlh(A:OA)(n c:Nat)(sc:Int)(s:ByteArray)(nd sv:Nat)(so:Int)(At:OA)(nt ct:Nat):Value :=
 .agg #[.slice A n c,.int .i64 sc,.string s,.int .u64 (nd:Int),.int .u64 (sv:Int),.int .i64 so,.slice At nt ct]
def Qq0:Value:=.agg #[.slice none 0 0,.int .i64 0,.string ⟨#[]⟩,.int .u64 0,.int .u64 0,.int .i64 0,.slice none 0 0]
def RdX(w:World)(B:Nat)(v:Value)(x:Bb):Prop :=
 ∃ (A:OA) (n c:Nat) (sc:Int) (s:ByteArray) (nd sv:Nat) (At:OA) (nt ct:Nat),v=Qlh A n c sc s nd sv x.sco At nt ct∧(n≤c∧n≤140737488355328)∧(nt≤ct∧nt≤140737488355328) ∧
  RdN w B A n x.tgs∧(∀ t∈x.tgs,t<18446744073709551616)∧RdT w B At nt x.tag∧x.src=ep sc s nd sv∧s.size≤140737488355328∧nd<18446744073709551616∧sv<18446744073709551616
theorem RdX.below{w w':World}{B:Nat}{v:Value}{x:Bb}(h:RdX w B v x)(hb:Below B w w'):RdX w' B v x:=by
 obtain⟨A,n,c,sc,s,nd,sv,At,nt,ct,h0,h1,h2,h3,h4,h5,h6⟩:=h;exact⟨A,n,c,sc,s,nd,sv,At,nt,ct,h0,h1,h2,h3.below hb,h4,h5.below hb,h6⟩
theorem RdX.more{w:World}{B B':Nat}{v:Value}{x:Bb}(h:RdX w B v x)(hB:B≤B'):RdX w B' v x:=by
 obtain⟨A,n,c,sc,s,nd,sv,At,nt,ct,h0,h1,h2,h3,h4,h5,h6⟩:=h;exact⟨A,n,c,sc,s,nd,sv,At,nt,ct,h0,h1,h2,h3.more hB,h4,h5.more hB,h6⟩
theorem RdX.sub_{w w':World}{B B':Nat}{v:Value}{x:Bb}(h:RdX w B v x)(hs:∀ p u,w.cell? p=some u→w'.cell? p=some u)(hB:B≤B'):RdX w' B' v x:=by
 obtain⟨A,n,c,sc,s,nd,sv,At,nt,ct,h0,h1,h2,h3,h4,h5,h6⟩:=h;exact⟨A,n,c,sc,s,nd,sv,At,nt,ct,h0,h1,h2,h3.sub_ hs hB,h4,h5.sub_ hs hB,h6⟩
theorem RdX.unmask{S:Nat→Bool}{w:World}{B:Nat}{v:Value}{x:Bb}(h:RdX (Qap S w) B v x):RdX w B v x:=h.sub_ (fun _ _ hc=>Qaj hc) zr
theorem RdX.maskup{lo lo':Nat}{w w':World}{v:Value}{x:Bb}(h:RdX (Qap (Qax lo) w) w.heap.size v x)(hl:lo'≤lo)(hb:∀ j,lo≤j→j<w.heap.size→w'.heap[j]?=w.heap[j]?)(hs:w.heap.size≤w'.heap.size):RdX (Qap (Qax lo') w') w'.heap.size v x :=
 h.sub_ (fun p u hc=>by
  have h1:=Qaz.1 (Qb6 hc);have h2:=Qaj hc;have h3:=World.block_lt_of_cell? w p h2;rw[Qaq (Qaz.2 (Nat.le_trans hl h1)),World.cell?_of_block (hb p.block h1 h3)]
  exact h2) hs
theorem Qxm{w:World}{base n lo:Nat}{v:Value}{l:List Nat}(t:TypeId)(h:w.ownsRow base t 1 v n (l.map uV))(hlo:lo≤base):∃ A c,v=.slice A n c∧n≤c∧RdN (Qap (Qax lo) w) w.heap.size A n l:=by
 obtain⟨A,c,rfl,hc,hr⟩:=Qob t h;refine⟨A,c,rfl,hc,hr.1,fun hn=>?_⟩;obtain⟨b,o,e,hb,hcell⟩:=hr.2 hn;refine⟨b,o,e,hb,fun i hi=>?_⟩;have hbb:base≤b:=by
  rcases h.2 with ⟨h1,h2⟩|⟨g,cap,cur,h1,h2,-⟩
  ·
   omega
  ·
   rw[e] at h1
   simp only[Value.slice.injEq,Option.some.injEq,Addr.mk.injEq] at h1;omega
 rw[Qaq (Qaz.2 (Nat.le_trans hlo hbb))]
 exact hcell i hi
theorem Qxl{w:World}{base n lo:Nat}{v:Value}{ps:List Tg}{l:List LB}(t:TypeId)(h:w.ownsRow base t 1 v n (ps.map tgV))(hlo:lo≤base)(hl:l.length=n)(hp:∀ i p,ps[i]?=some p→Rd (Qap (Qax lo) w) w.heap.size p.A p.n (l.getD i [])):∃ A c,v=.slice A n c∧n≤c∧RdT (Qap (Qax lo) w) w.heap.size A n l:=by
 have hlp:ps.length=n:=by have:=h.1;simpa using this
 rcases h.2 with ⟨rfl,rfl⟩|⟨g,cap,cur,rfl,hb,hg,hnc,hm,hs,ht⟩
 ·
  exact⟨none,0,rfl,Nat.le_refl _,hl,fun h0=>absurd h0 (Nat.not_lt_zero _)⟩
 ·
  refine⟨_,cap,rfl,hnc,hl,fun _=>⟨g,0,rfl,(Array.getElem?_eq_some_iff.1 hg).1,fun i hi=>?_⟩⟩;have hil:i<ps.length:=by omega
  have hq:=List.getElem?_eq_getElem hil;have hc:=World.ownsRow.cells h (g:=g) rfl i (tgV ps[i]) (by rw[List.getElem?_map,hq];rfl);have ea:(⟨g,0,none⟩:Addr).add i=⟨g,0+i,none⟩:=by unfold Addr.add;split <;> simp_all
  rw[ea] at hc
  exact⟨_,_,_,by rw[Qaq (Qaz.2 (Nat.le_trans hlo hb))];exact hc,hp i _ hq⟩
def OwI(t:TypeId)(base:Nat)(w:World)(v:Value)(xs:List Itm):Prop:=∃ cells,w.ownsRow base t 4 v xs.length cells∧ItC (Qap (Qij base v) w) w.heap.size cells xs
theorem OwI.nil_{t:TypeId}{base:Nat}{w:World}:OwI t base w (.slice none 0 0) []:=⟨[],World.ownsRow_nil _ _ _ _,trivial⟩
theorem OwI.go{t:TypeId}{base:Nat}{w w':World}{v:Value}{xs:List Itm}(h:OwI t base w v xs)(hb:Below w.heap.size w w'):OwI t base w' v xs:=by
 obtain⟨cells,h1,h2⟩:=h;refine⟨cells,World.ownsRow.kept h1 (row:=none) ⟨hb.os,hb.tape,hb.output,hb.size,fun j hj _=>hb.block j hj⟩ ?_,h2.mask_go hb.size (fun j hj _=>hb.block j hj) (fun _ _ h=>h)⟩;rcases v.ownBlock with _|q
 ·
  exact .inl rfl
 ·
  exact .inr (by simp)
theorem OwI.push{t:TypeId}{base m:Nat}{w w1 w3:World}{v:Value}{xs:List Itm}{cells:List Value}(h1:w.ownsRow base t 4 v xs.length cells)(h2:ItC (Qap (Qij base v) w) w.heap.size cells xs)
  {c0 c1 c2 c3:Value} {x:Itm} (hx:RdI (Qap (Qax w.heap.size) w1) w1.heap.size (.agg #[c0,c1,c2,c3]) x) (hb:Below w.heap.size w w1) (hm:m=xs.length+1)
  {v3:Value} (hown:w3.ownsRow base t 4 v3 m (cells++[c0,c1,c2,c3])) (hg:w1.grownBy w3 v.ownBlock) (hor:v3.ownBlock=v.ownBlock∨∀ g,v3.ownBlock=some g→w1.heap.size≤g) (hbase:base≤w.heap.size):OwI t base w3 v3 (xs++[x]):=by
 subst hm;have hlt:=fun q (e:v.ownBlock=some q)=>World.ownsRow.lt h1 q e
 have hnew:∀ j,j<w1.heap.size→v.ownBlock≠some j→v3.ownBlock≠some j:=fun j hj hne e=>by
  rcases hor with h|h
  ·
   exact hne (by rw[← h];exact e)
  ·
   exact absurd (h j e) (by omega)
 have hsz:=hb.size;refine⟨cells++[c0,c1,c2,c3],by rw[List.length_append,List.length_singleton];exact hown,ItC.snoc ?_ ?_⟩
 ·
  refine hx.mask_go hg.size (fun j hj hs=>?_) (fun j hj hs=>?_)
  ·
   have:=Qaz.1 hs
   exact hg.block j hj (fun e=>by have:=(hlt j e.symm).2;omega)
  ·
   have:=Qaz.1 hs
   exact Qbs.2 ⟨by omega,hnew j hj (fun e=>by have:=(hlt j e).2;omega)⟩
 ·
  refine h2.mask_go (Nat.le_trans hsz hg.size) (fun j hj hs=>?_) (fun j hj hs=>?_)
  ·
   have hs':=Qbs.1 hs;rw[hg.block j (by omega) (fun e=>hs'.2 e.symm)]
   exact hb.block j hj
  ·
   have hs':=Qbs.1 hs;exact Qbs.2 ⟨hs'.1,hnew j (by omega) hs'.2⟩
theorem OwI.lie{t:TypeId}{base n:Nat}{w:World}{v:Value}{xs:List Itm}(h:OwI t base w v xs)(hn:xs.length=n)(h0:0<n):∃ g cap,v=.slice (some ⟨g,0,none⟩) n cap∧base≤g∧g<w.heap.size∧n≤cap∧RdIs (Qap (Qax base) w) w.heap.size g 0 xs:=by
 subst hn;obtain⟨cells,h1,h2⟩:=h;rcases h1.2 with ⟨-,hz⟩|⟨q,cap,cur,hv,hbq,hgq,hnc,hcm,hcs,htake⟩
 ·
  omega
 ·
  have hlt:=World.ownsRow.lt h1 q (by rw[hv];rfl);rw[hv] at h1 h2 ⊢
  refine⟨q,cap,rfl,hbq,hlt.2,hnc,ItC.lie (h2.mask_go zr (fun _ _ _=>rfl) (fun j _ hs=>Qaz.2 (Qbs.1 hs).1)) fun j u hj=>?_⟩;have hjl:j<xs.length*4:=by
   rw[← h1.1]
   rcases Nat.lt_or_ge j cells.length with h|h
   ·
    exact h
   ·
    rw[List.getElem?_eq_none h] at hj;cases hj
  rw[Nat.zero_add,Qaq (Qaz.2 hbq),World.ownsRow.cellAt h1 j hjl]
  exact hj
theorem Qyq(l l':List Nat)(hl:l.length=l'.length)(h:∀ i,i<l.length→l.getD i 0=l'.getD i 0):l=l':=by
 apply List.ext_getElem hl;intro i h1 h2;have:=h i h1
 simpa [List.getD,h1,h2] using this
theorem Qmd(A A':OA)(n n' c c' B B':Nat)(l l':List Nat)(w:World)(h:RdN w B A n l)(h':RdN w B' A' n' l')(hn:n≤140737488355328)(hn':n'≤140737488355328) :
  Calls Tryz.prog 13 #[.slice A n c,.slice A' n' c'] w fun e w'=>e=.returned (.bool (l==l'))∧∃ m,w'=w.drewN m:=by
 obtain⟨R,hR⟩:∃ R,R=(l==l'):=⟨_,rfl⟩
 rw[← hR]
 have HE:=hid hR;have HR:=hid h;have HR':=hid h';clear hR h h';by_cases hnn:n=n'
 ·
  subst hnn;have t0:((n:Int) != (n:Int))=false:=by simp
  go_enter Tryz.func13,Tryz.ntmps13;go_wp2_with fail;go_loopw [4,5] (fun s4 i wr=>∃ (k m:Nat),k≤n∧i=.int .i64 k∧Hid (wr=w.drewN m)∧Hid (∀ j,j<k→l.getD j 0=l'.getD j 0)) (fun _ i _=>n - (intOf i).toNat)
  case atStart=>exact⟨0,0,Nat.zero_le _,rfl,rfl,fun j hj=>absurd hj (Nat.not_lt_zero _)⟩
  case round =>
   obtain⟨k,m,hk,rfl,hwr,HK⟩:=hrel;by_cases hlt:k<n
   ·
    obtain⟨b,o,rfl,-,hc⟩:=HR.out.2 (by omega);obtain⟨b',o',rfl,-,hc'⟩:=HR'.out.2 (by omega);obtain⟨x,hx⟩:∃ x,x=l.getD k 0:=⟨_,rfl⟩
    obtain⟨y,hy⟩:∃ y,y=l'.getD k 0:=⟨_,rfl⟩
    have c1:wr.cell? ⟨b,o+k,none⟩=some (.int .u64 (x:Int)):=by rw[hx,hwr.out];exact hc k hlt
    have c2:wr.cell? ⟨b',o'+k,none⟩=some (.int .u64 (y:Int)):=by rw[hy,hwr.out];exact hc' k hlt
    have k0:(0:Int)≤(k:Int):=by omega
    have k1:(k:Int)<(n:Int):=by omega
    by_cases hxy:x=y
    ·
     have hne:((x:Int) != (y:Int))=false:=by simp[hxy]
     have HK2:Hid (∀ j,j<k+1→l.getD j 0=l'.getD j 0):=fun j hj=>by
      rcases Nat.lt_succ_iff_lt_or_eq.1 hj with h|h
      ·
       exact HK.out j h
      ·
       rw[h,← hx,← hy,hxy]
     clear hx hy hc hc' hxy HK;go_wp2_with fail;go_region
     go_wp2_with fail;go_roundw
     case rel=>exact⟨k+1,m+1,by omega,by go_num,by show _=_;rw[hwr.out];rfl,HK2⟩
     case measure=>simp[intOf];omega
    ·
     have hne:((x:Int) != (y:Int))=true:=by simp;omega
     have hr:R=false:=by
      rw[HE.out,Bool.eq_false_iff]
      intro hh;exact hxy (by rw[hx,hy,eq_of_beq hh])
     clear hx hy hc hc' hxy HK;subst hr;go_wp2_with fail;go_region
     go_wp2_with fail;go_ret;exact⟨rfl,m+1,by rw[hwr.out];rfl⟩
   ·
    obtain rfl:k=n:=by omega
    have hr:R=true:=by
     rw[HE.out,Qyq l l' (by rw[HR.out.1,HR'.out.1]) (fun i hi=>HK.out i (by rw[← HR.out.1];exact hi))]
     simp
    subst hr;go_wp2_with fail;go_ret;exact⟨rfl,m,hwr.out⟩
 ·
  have t0:((n:Int) != (n':Int))=true:=by simp;omega
  have hr:R=false:=by
   rw[HE.out,Bool.eq_false_iff]
   intro hh;exact hnn (by rw[← HR.out.1,← HR'.out.1,eq_of_beq hh])
  subst hr;go_enter Tryz.func13,Tryz.ntmps13;go_wp2_with fail;go_ret;exact⟨rfl,0,rfl⟩
open Go.RowKit Go.ChangeShapes Go.WideShapes Go.ChangeAt Go.Deep
section
variable {H:Type}{enc:TypeId×Value→H}{w:World}
theorem Q40:Tryz.prog.cellsOf 25=4:=by kernel_rfl
theorem Q5h:Tryz.prog.cellsOf 9=1:=by kernel_rfl
theorem Q5i:Tryz.prog.cellsOf 23=1:=by kernel_rfl
theorem cBs:Tryz.prog.cellsOf 26=1:=by kernel_rfl
theorem Q5j:Tryz.prog.cellsOf 28=18:=by kernel_rfl
theorem bU8:Tryz.prog.bytesOf 5=1:=by kernel_rfl
theorem Q5k:1≤Tryz.prog.bytesOf 43:=of_decide_eq_true (by kernel_rfl)
theorem Qe7{e:TypeId}:∀ (l:List (DataW H)) (i:Nat) (hi:i<l.length) (x:Nat),x∈DataW.weights Tryz.prog e (l[i]'hi)→x∈DataW.weightsAll Tryz.prog e l
 | [],_,hi,_,_=>absurd hi (Nat.not_lt_zero _)
 | d::r,0,_,x,h=>by rw[DataW.weightsAll];exact List.mem_append.2 (.inl h)
 | d::r,i+1,hi,x,h=>by rw[DataW.weightsAll];exact List.mem_append.2 (.inr (Qe7 r i (by simpa using hi) x (by simpa using h)))
theorem Qig{fuel:Nat}{cs:List Value}{y:DataW H×List MemPlace}(h:DataW.trod enc Tryz.prog w 0 (fun _=>true) true fuel 25 cs=some y)(hw:∀ x∈DataW.weights Tryz.prog 25 y.1,x≤reachBytes) :
  ∃ (sc:Int) (s:ByteArray) (n v:Nat),cs=[.int .i64 sc,.string s,.int .u64 (n:Int),.int .u64 (v:Int)]∧s.size≤140737488355328∧n<18446744073709551616∧v<18446744073709551616:=by
 obtain⟨xs,n,rfl,rfl,hl,hlen,hf⟩:=DataW.trod_struct Tryz.underlying25 h;rw[Q40] at hl
 match xs,hlen,cs,hl with
 | [y0,y1,y2,y3],_,[c0,c1,c2,c3],_ =>
  have g0:=hf 0 _ rfl;have g1:=hf 1 _ rfl;have g2:=hf 2 _ rfl;have g3:=hf 3 _ rfl;simp[Q5h,Q5i,Qld] at g0 g1 g2 g3;obtain⟨sc,e0,rfl,w0⟩:=DataW.trod_int Tryz.underlying23 g0;obtain⟨s,e1,rfl,w1⟩:=DataW.trod_string Tryz.underlying9 g1;obtain⟨a2,e2,rfl,w2⟩:=DataW.trod_int Tryz.underlying22 g2;obtain⟨a3,e3,rfl,w3⟩:=DataW.trod_int Tryz.underlying22 g3;simp only[List.cons.injEq,and_true] at e0 e1 e2 e3;subst e0 e1 e2 e3;have hz:s.size≤140737488355328:=by
   have h:=hw s.data.toList.length (by simp[DataW.weights,Tryz.underlying25,DataW.weightsEach]);have e:s.data.toList.length=s.size:=by simp
   rw[e] at h
   exact Nat.le_trans h (by decide)
  obtain⟨q2,hq2,rfl⟩:∃ g:Nat,g<18446744073709551616∧a2=(g:Int):=⟨a2.toNat,by have h:=wfU w2;omega,by have h:=wfU w2;omega⟩
  obtain⟨q3,hq3,rfl⟩:∃ g:Nat,g<18446744073709551616∧a3=(g:Int):=⟨a3.toNat,by have h:=wfU w3;omega,by have h:=wfU w3;omega⟩
  exact⟨sc,s,q2,q3,rfl,hz,hq2,hq3⟩
theorem Qub{fuel:Nat}{cs:List Value}{y:DataW H×List MemPlace}(h:DataW.trod enc Tryz.prog w 0 (fun _=>true) true fuel 43 cs=some y)(hw:∀ x∈DataW.weights Tryz.prog 43 y.1,x≤reachBytes) :
  ∃ (b:Blk) (A:OA) (nd cd:Nat),cs=[.int .u64 (b.typ:Int),.int .u64 (b.num:Int),.int .u64 (b.flg:Int),.int .i64 b.crc,.slice A nd cd]∧Bd b∧(nd≤cd∧nd≤140737488355328)∧Rd w w.heap.size A nd b.dat:=by
 obtain⟨xs,n,rfl,rfl,hl,hlen,hf⟩:=DataW.trod_struct Tryz.underlying43 h;rw[Qqx] at hl
 match xs,hlen,cs,hl with
 | [y0,y1,y2,y3,y4],_,[c0,c1,c2,c3,c4],_ =>
  have g0:=hf 0 _ rfl;have g1:=hf 1 _ rfl;have g2:=hf 2 _ rfl;have g3:=hf 3 _ rfl;have g4:=hf 4 _ rfl;simp[Qld,Qqw,Q06] at g0 g1 g2 g3 g4;obtain⟨a0,e0,rfl,w0⟩:=DataW.trod_int Tryz.underlying22 g0;obtain⟨a1,e1,rfl,w1⟩:=DataW.trod_int Tryz.underlying22 g1;obtain⟨a2,e2,rfl,w2⟩:=DataW.trod_int Tryz.underlying22 g2;obtain⟨a3,e3,rfl,w3⟩:=DataW.trod_int Tryz.underlying3 g3;simp only[List.cons.injEq,and_true] at e0 e1 e2 e3;subst e0 e1 e2 e3;obtain⟨q0,hq0,rfl⟩:∃ g:Nat,g<18446744073709551616∧a0=(g:Int):=⟨a0.toNat,by have h:=wfU w0;omega,by have h:=wfU w0;omega⟩
  obtain⟨q1,hq1,rfl⟩:∃ g:Nat,g<18446744073709551616∧a1=(g:Int):=⟨a1.toNat,by have h:=wfU w1;omega,by have h:=wfU w1;omega⟩
  obtain⟨q2,hq2,rfl⟩:∃ g:Nat,g<18446744073709551616∧a2=(g:Int):=⟨a2.toNat,by have h:=wfU w2;omega,by have h:=wfU w2;omega⟩
  rcases open_ints Tryz.underlying29 Tryz.underlying5 (by kernel_rfl) g4 with ⟨hcs,_⟩|⟨x,l,c,zs,hcs,_,hlc,hm,hz,hd,hcell,hwz⟩
  ·
   simp only[List.cons.injEq,and_true] at hcs;subst hcs;exact⟨⟨q0,q1,q2,a3,[]⟩,none,0,0,rfl,⟨hq0,hq1,hq2⟩,⟨Nat.le_refl _,Nat.zero_le _⟩,Rd.nil_⟩
  ·
   simp only[List.cons.injEq,and_true] at hcs;subst hcs;have hz':zs.length=c:=by simpa using hz
   have hb:c≤140737488355328:=by
    subst hd;have h:=hw c (by
     simp[DataW.weights,Tryz.underlying43,Tryz.underlying29,DataW.weightsEach,bU8,lits];omega)
    exact Nat.le_trans h (by decide)
   exact⟨⟨q0,q1,q2,a3,_⟩,some x,l,c,rfl,⟨hq0,hq1,hq2⟩,⟨hlc,by omega⟩,Rd.of_ints hlc hz' hcell hwz⟩
theorem Qpy:∀ (n:Nat) (P:Nat→Blk→Prop),(∀ i,i<n→∃ x,P i x)→∃ l:List Blk,l.length=n∧∀ i (hi:i<l.length),P i (l[i]'hi)
 | 0,P,_=>⟨[],rfl,fun i hi=>absurd hi (Nat.not_lt_zero _)⟩
 | n+1,P,h=>by
  obtain⟨x,hx⟩:=h 0 (by omega);obtain⟨l,h1,h2⟩:=Qpy n (fun i=>P (i+1)) (fun i hi=>h (i+1) (by omega));refine⟨x::l,by simp[h1],fun i hi=>?_⟩;cases i with
  | zero=>exact hx
  | succ i=>exact h2 i (by simpa using hi)
theorem Qua{fuel:Nat}{cs:List Value}{y:DataW H×List MemPlace}(h:DataW.trod enc Tryz.prog w 0 (fun _=>true) true fuel 26 cs=some y)(hw:∀ x∈DataW.weights Tryz.prog 26 y.1,x≤reachBytes) :
  ∃ (A:OA) (n c:Nat) (l:List Blk),cs=[.slice A n c]∧n≤c∧RdL w w.heap.size A n l:=by
 rcases DataW.trod_slice Tryz.underlying26 h with ⟨rfl,rfl⟩|⟨a,len,cap,elems,rest,m,rfl,rfl,rfl,hba,hlc,hlm,hel,hget,hsp,_⟩
 ·
  exact⟨none,0,0,[],rfl,Nat.le_refl _,RdL.nil_⟩
 ·
  have hwS:DataW.weights Tryz.prog 26 (.slice (elems.map (·.1)) (rest.map (·.1)))=((elems.map (·.1)).length+(rest.map (·.1)).length)*Tryz.prog.bytesOf 43::(DataW.weightsAll Tryz.prog 43 (elems.map (·.1))++DataW.weightsAll Tryz.prog 43 (rest.map (·.1))):=by
   rw[DataW.weights,Tryz.underlying26]
  rw[hwS] at hw
  have hlb:len≤140737488355328:=by
   have h1:=hw _ (List.mem_cons_self ..);rw[List.length_map,hel] at h1
   have h2:len*1≤(len+(rest.map (·.1)).length)*Tryz.prog.bytesOf 43:=Nat.mul_le_mul (Nat.le_add_right _ _) Q5k;have h3:reachBytes≤140737488355328:=by decide
   omega
  have hone:∀ i,i<len→∃ (x:Blk) (A:OA) (nd cd:Nat),w.cells? 0 (a.add (i*5)) 5=some [.int .u64 (x.typ:Int),.int .u64 (x.num:Int),.int .u64 (x.flg:Int),.int .i64 x.crc,.slice A nd cd]∧Bd x∧(nd≤cd∧nd≤140737488355328)∧Rd w w.heap.size A nd x.dat:=by
   intro i hi;have hg:=hget i hi;rw[Qqx,List.getElem?_eq_getElem (by rw[hel];exact hi)] at hg
   obtain⟨cs',h1,h2⟩:=Option.bind_eq_some_iff.1 hg;obtain⟨x,A,nd,cd,rfl,hr⟩:=Qub h2 (fun x hx=>hw x (List.mem_cons_of_mem _ (List.mem_append.2 (.inl (Qe7 (elems.map (·.1)) i (by rw[List.length_map,hel];exact hi) x (by rw[List.getElem_map];exact hx))))));exact⟨x,A,nd,cd,h1,hr⟩
  obtain⟨l,hl1,hl2⟩:=Qpy len _ hone;refine⟨some a,len,cap,l,rfl,hlc,hl1,fun h0=>?_,hlb⟩;obtain⟨b,o,spot⟩:=a;obtain⟨A,nd,cd,h1,_⟩:=hl2 0 (by omega);obtain⟨_,_,hcell⟩:=World.cells?_some h1;have hc0:=hcell 0 (by omega);have hspot:spot=none:=by simpa [Addr.add] using World.cell?_spot hc0
  subst hspot;refine⟨b,o,rfl,?_,RdKs.of_get fun i hi=>?_⟩
  ·
   have:=World.block_lt_of_cell? w _ hc0
   simpa [Addr.add] using this
  ·
   obtain⟨A,nd,cd,h1,hbd,hle,hrd⟩:=hl2 i hi;obtain⟨_,_,hcell⟩:=World.cells?_some h1;have e:∀ j,((⟨b,o,none⟩:Addr).add (i*5)).add j=⟨b,o+i*5+j,none⟩:=fun j=>by rw[add_plain,add_plain]
   have q0:=hcell 0 (by omega);have q1:=hcell 1 (by omega);have q2:=hcell 2 (by omega);have q3:=hcell 3 (by omega);have q4:=hcell 4 (by omega);rw[e] at q0 q1 q2 q3 q4
   exact⟨A,nd,cd,q0,q1,q2,q3,q4,hbd,hle,hrd⟩
theorem Q4q{α:Type}{cs:Array α}(h:cs.size=18):∃ c0 c1 c2 c3 c4 c5 c6 c7 c8 c9 c10 c11 c12 c13 c14 c15 c16 c17,cs=#[c0,c1,c2,c3,c4,c5,c6,c7,c8,c9,c10,c11,c12,c13,c14,c15,c16,c17]:=by
 obtain⟨l⟩:=cs;match l,h with
 | [c0,c1,c2,c3,c4,c5,c6,c7,c8,c9,c10,c11,c12,c13,c14,c15,c16,c17],_=>exact⟨c0,c1,c2,c3,c4,c5,c6,c7,c8,c9,c10,c11,c12,c13,c14,c15,c16,c17,rfl⟩
end
def Q3f(w:World)(h:BH)(l:List Blk)(A:OA)(n c:Nat):Prop:=h.Bd∧RdL w w.heap.size A n l∧n≤c
theorem Qxv{H:Type}{enc:TypeId×Value→H}{W:World}{r:Reach}{b0:Nat}{v:Value}{d:DataW H}{p:List MemPlace}(hv:Value.okWide Tryz.prog W r b0 28 v)(h:DataW.Trod enc Tryz.prog W 0 (fun _=>true) true 28 v d p)(hw:∀ x∈DataW.weights Tryz.prog 28 d,x≤reachBytes) :
  ∃ (h:BH) (l:List Blk) (A:OA) (n c:Nat),v=Qbl h A n c∧Q3f W h l A n c:=by
 obtain⟨cs,rfl,hsz⟩:=okWide_struct Tryz.underlying28 hv;obtain⟨c0,c1,c2,c3,c4,c5,c6,c7,c8,c9,c10,c11,c12,c13,c14,c15,c16,c17,rfl⟩:=Q4q (hsz.trans Q5j);clear hv hsz;obtain⟨fuel,hf⟩:=h;obtain⟨xs,n,_,hdd,hl,hlen,hfs⟩:=DataW.trod_struct Tryz.underlying28 hf;clear hf hl;obtain⟨y0,y1,y2,y3,y4,y5,y6,y7,y8,rfl⟩:∃ y0 y1 y2 y3 y4 y5 y6 y7 y8,xs=[y0,y1,y2,y3,y4,y5,y6,y7,y8]:=by
  match xs,hlen with
  | [y0,y1,y2,y3,y4,y5,y6,y7,y8],_=>exact⟨y0,y1,y2,y3,y4,y5,y6,y7,y8,rfl⟩
 obtain rfl:d=.agg [y0.1,y1.1,y2.1,y3.1,y4.1,y5.1,y6.1,y7.1,y8.1]:=congrArg Prod.fst hdd;have hwS:DataW.weights Tryz.prog 28 (.agg [y0.1,y1.1,y2.1,y3.1,y4.1,y5.1,y6.1,y7.1,y8.1])=DataW.weights Tryz.prog 22 y0.1++(DataW.weights Tryz.prog 3 y1.1++(DataW.weights Tryz.prog 25 y2.1++(DataW.weights Tryz.prog 25 y3.1++(DataW.weights Tryz.prog 25 y4.1++(DataW.weights Tryz.prog 22 y5.1++(DataW.weights Tryz.prog 22 y6.1++(DataW.weights Tryz.prog 22 y7.1++(DataW.weights Tryz.prog 26 y8.1++[])))))))):=by
  rw[DataW.weights,Tryz.underlying28]
  simp[DataW.weightsEach]
 rw[hwS] at hw
 have hw2:∀ x∈DataW.weights Tryz.prog 25 y2.1,x≤reachBytes:=fun x hx=>hw x (by simp only[List.mem_append];exact .inr (.inr (.inl hx)))
 have hw3:∀ x∈DataW.weights Tryz.prog 25 y3.1,x≤reachBytes:=fun x hx=>hw x (by simp only[List.mem_append];exact .inr (.inr (.inr (.inl hx))))
 have hw4:∀ x∈DataW.weights Tryz.prog 25 y4.1,x≤reachBytes:=fun x hx=>hw x (by simp only[List.mem_append];exact .inr (.inr (.inr (.inr (.inl hx)))))
 have hw8:∀ x∈DataW.weights Tryz.prog 26 y8.1,x≤reachBytes:=fun x hx=>hw x (by simp only[List.mem_append];exact .inr (.inr (.inr (.inr (.inr (.inr (.inr (.inr (.inl hx)))))))))
 have k0:=hfs 0 _ rfl;have k1:=hfs 1 _ rfl;have k2:=hfs 2 _ rfl;have k3:=hfs 3 _ rfl;have k4:=hfs 4 _ rfl;have k5:=hfs 5 _ rfl;have k6:=hfs 6 _ rfl;have k7:=hfs 7 _ rfl;have k8:=hfs 8 _ rfl;simp[Value.cells,Qld,Qqw,Q40,cBs] at k0 k1 k2 k3 k4 k5 k6 k7 k8;obtain⟨a0,e0,-,w0⟩:=DataW.trod_int Tryz.underlying22 k0;obtain⟨a1,e1,-,w1⟩:=DataW.trod_int Tryz.underlying3 k1;obtain⟨s2,t2,n2,v2,e2,z2,zn2,zw2⟩:=Qig k2 hw2;obtain⟨s3,t3,n3,v3,e3,z3,zn3,zw3⟩:=Qig k3 hw3;obtain⟨s4,t4,n4,v4,e4,z4,zn4,zw4⟩:=Qig k4 hw4;obtain⟨a5,e5,-,w5⟩:=DataW.trod_int Tryz.underlying22 k5;obtain⟨a6,e6,-,w6⟩:=DataW.trod_int Tryz.underlying22 k6
 obtain⟨a7,e7,-,w7⟩:=DataW.trod_int Tryz.underlying22 k7;obtain⟨A,nl,cl,l,e8,hlc,hrl⟩:=Qua k8 hw8;clear k0 k1 k2 k3 k4 k5 k6 k7 k8;simp only[List.cons.injEq,and_true] at e0 e1 e2 e3 e4 e5 e6 e7 e8;obtain⟨e20,e21,e22,e23⟩:=e2;obtain⟨e30,e31,e32,e33⟩:=e3;obtain⟨e40,e41,e42,e43⟩:=e4;subst e0 e1 e20 e21 e22 e23 e30 e31 e32 e33 e40 e41 e42 e43 e5 e6 e7 e8;obtain⟨q0,hq0,rfl⟩:∃ g:Nat,g<18446744073709551616∧a0=(g:Int):=⟨a0.toNat,by have h:=wfU w0;omega,by have h:=wfU w0;omega⟩
 obtain⟨q5,hq5,rfl⟩:∃ g:Nat,g<18446744073709551616∧a5=(g:Int):=⟨a5.toNat,by have h:=wfU w5;omega,by have h:=wfU w5;omega⟩
 obtain⟨q6,hq6,rfl⟩:∃ g:Nat,g<18446744073709551616∧a6=(g:Int):=⟨a6.toNat,by have h:=wfU w6;omega,by have h:=wfU w6;omega⟩
 obtain⟨q7,hq7,rfl⟩:∃ g:Nat,g<18446744073709551616∧a7=(g:Int):=⟨a7.toNat,by have h:=wfU w7;omega,by have h:=wfU w7;omega⟩
 exact⟨⟨q0,a1,s2,t2,n2,v2,s3,t3,n3,v3,s4,t4,n4,v4,q5,q6,q7⟩,l,A,nl,cl,rfl,⟨hq0,z2,zn2,zw2,z3,zn3,zw3,z4,zn4,zw4,hq5,hq6,hq7⟩,hrl,hlc⟩
theorem Qi1(x:Itm)(v:Value)(w:World)(B:Nat)(hf:Qkk x)(hlen:(wri x).length≤140737488355328)(hB:B≤w.heap.size)(h:RdI w B v x) :
  Calls Tryz.prog 75 #[v] w (Qbi 5 (wri x) w):=by
 obtain⟨k1,n1,A1,nd1,cd1,AL1,nl1,cl1,rfl⟩:=h.form;have C:=hid (fun (W:World) (hb:Below w.heap.size w W)=>Qet x _ W W.heap.size hf hlen zr ((h.below (hb.mono hB)).more (Nat.le_trans hB hb.size)));have HB0:=hid ((Below.refl w.heap.size w).alloc zr (zo1 k1 n1 A1 nd1 cd1 AL1 nl1 cl1));clear h hf hlen hB;generalize wri x=L at *;go_enter Tryz.func75,Tryz.ntmps75;go_wp2_with fail;refine(C.out _ HB0.out).mono ?_;rintro e w1 ⟨v',rfl,ho,hb⟩;have HO:=hid (ho.weak (Qaa w _));have B1:=hid (HB0.out.trans (hb.mono (Qaa w _)));clear ho hb;go_wp2_with fail;go_ret;exact⟨_,rfl,HO.out,B1.out⟩
structure PtSt (w:World) (base g0 gp gs:Nat) (sc:Int) (v:Value) (l:LB):Prop where
 h0:w.heap[g0]?=some (.cells #[v] 29 (0,0))
 hp:w.cell? ⟨gp,0,none⟩=some (.pointer (some ⟨g0,0,none⟩))
 hs:w.cell? ⟨gs,0,none⟩=some (.int .i64 sc)
 ob:Ob w base 5 v l
 np:gp≠g0
 ns:gs≠g0
 l0:g0<base
 lp:gp<base
 ls:gs<base
 lb:base≤w.heap.size
structure PtRun (g0:Nat) (v:Value) (w:World) (v':Value) (w':World):Prop where
 os:w'.os=w.os
 tape:w'.tape=w.tape
 output:w'.output=w.output
 size:w.heap.size≤w'.heap.size
 keep:∀ k,k<w.heap.size→k≠g0→v.ownBlock≠some k→w'.heap[k]?=w.heap[k]?
 own:v'.ownBlock=v.ownBlock∨∃ k,v'.ownBlock=some k∧w.heap.size≤k
section
variable {w w1 w2:World}{base g0 gp gs:Nat}{sc:Int}{v v1 v2:Value}{l:LB}
theorem PtRun.refl(g0:Nat)(v:Value)(w:World):PtRun g0 v w v w:=⟨rfl,rfl,rfl,Nat.le_refl _,fun _ _ _ _=>rfl,.inl rfl⟩
theorem PtRun.trans(h:PtRun g0 v w v1 w1)(k:PtRun g0 v1 w1 v2 w2):PtRun g0 v w v2 w2:=by
 refine⟨k.os.trans h.os,k.tape.trans h.tape,k.output.trans h.output,Nat.le_trans h.size k.size,fun i hi h0 hne=>?_,?_⟩
 ·
  refine(k.keep i (Nat.lt_of_lt_of_le hi h.size) h0 (fun e=>?_)).trans (h.keep i hi h0 hne);rcases h.own with ho|⟨q,ho,hq⟩
  ·
   exact hne (ho.symm.trans e)
  ·
   rw[ho] at e;injection e with e;omega
 ·
  rcases k.own with ko|⟨q,ko,hq⟩
  ·
   rcases h.own with ho|⟨q,ho,hq⟩
   ·
    exact .inl (ko.trans ho)
   ·
    exact .inr ⟨q,ko.trans ho,hq⟩
  ·
   exact .inr ⟨q,ko,Nat.le_trans h.size hq⟩
theorem PtRun.quiet(h:PtRun g0 v w v1 w1)(hb:Below w1.heap.size w1 w2):PtRun g0 v w v1 w2 :=
 h.trans ⟨hb.os,hb.tape,hb.output,hb.size,fun k hk _ _=>hb.block k hk,.inl rfl⟩
theorem PtSt.quiet(h:PtSt w base g0 gp gs sc v l)(hb:Below w.heap.size w w1):PtSt w1 base g0 gp gs sc v l :=
 ⟨(hb.block g0 (Nat.lt_of_lt_of_le h.l0 h.lb)).trans h.h0,(hb.cell (p:=⟨gp,0,none⟩) (Nat.lt_of_lt_of_le h.lp h.lb)).trans h.hp,(hb.cell (p:=⟨gs,0,none⟩) (Nat.lt_of_lt_of_le h.ls h.lb)).trans h.hs,h.ob.below hb,h.np,h.ns,h.l0,h.lp,h.ls,Nat.le_trans h.lb hb.size⟩
theorem PtRun.below(h:PtRun g0 v w v1 w1)(hs:PtSt w base g0 gp gs sc v l){b:Nat}(hb:b≤g0):Below b w w1 :=
 ⟨h.os,h.tape,h.output,h.size,fun k hk=>h.keep k (by have:=hs.l0;have:=hs.lb;omega) (by omega) (fun e=>by have:=(World.ownsRow.lt hs.ob k e).1;have:=hs.l0;omega)⟩
def PtOff(w:World)(g0:Nat)(v:Value)(b:Nat):Prop:=b<w.heap.size∧b≠g0∧v.ownBlock≠some b
theorem PtOff.run{b:Nat}(hb:PtOff w g0 v b)(h:PtRun g0 v w v1 w1):PtOff w1 g0 v1 b :=
 ⟨Nat.lt_of_lt_of_le hb.1 h.size,hb.2.1,fun e=>by
  rcases h.own with ho|⟨q,ho,hq⟩
  ·
   exact hb.2.2 (ho.symm.trans e)
  ·
   rw[ho] at e;injection e with e;have:=hb.1;omega⟩
theorem PtOff.cell{b j:Nat}(hb:PtOff w g0 v b)(h:PtRun g0 v w v1 w1):w1.cell? ⟨b,j,none⟩=w.cell? ⟨b,j,none⟩ :=
 World.cell?_of_block (a:=⟨b,j,none⟩) (h.keep b hb.1 hb.2.1 hb.2.2)
theorem PtOff.quiet{b:Nat}(hb:PtOff w g0 v b)(h:Below w.heap.size w w1):PtOff w1 g0 v b:=⟨Nat.lt_of_lt_of_le hb.1 h.size,hb.2⟩
theorem PtOff.new(hs:PtSt w base g0 gp gs sc v l){b:Nat}(hb:w.heap.size≤b)(hb1:b<w1.heap.size):PtOff w1 g0 v b :=
 ⟨hb1,by have:=hs.l0;have:=hs.lb;omega,fun e=>by have:=(World.ownsRow.lt hs.ob b e).2;omega⟩
theorem PtOff.old(hs:PtSt w base g0 gp gs sc v l){b:Nat}(hb:b<g0):PtOff w g0 v b :=
 ⟨by have:=hs.l0;have:=hs.lb;omega,by omega,fun e=>by have:=(World.ownsRow.lt hs.ob b e).1;have:=hs.l0;omega⟩
def RdOff(w:World)(g0:Nat)(v:Value)(A:OA)(n:Nat)(m:LB):Prop:=Rd w w.heap.size A n m∧(0<n→∀ b o,A=some ⟨b,o,none⟩→PtOff w g0 v b)
theorem RdOff.run{A:OA}{n:Nat}{m:LB}(hr:RdOff w g0 v A n m)(h:PtRun g0 v w v1 w1):RdOff w1 g0 v1 A n m:=by
 refine⟨⟨hr.1.1,fun hn=>?_⟩,fun hn b o e=>(hr.2 hn b o e).run h⟩;obtain⟨b,o,e,hb,hc⟩:=hr.1.2 hn;exact⟨b,o,e,Nat.lt_of_lt_of_le hb h.size,fun i hi=>((hr.2 hn b o e).cell h).trans (hc i hi)⟩
theorem RdOff.quiet{A:OA}{n:Nat}{m:LB}(hr:RdOff w g0 v A n m)(h:Below w.heap.size w w1):RdOff w1 g0 v A n m:=hr.run ((PtRun.refl g0 v w).quiet h)
theorem RdOff.old{A:OA}{n:Nat}{m:LB}(hs:PtSt w base g0 gp gs sc v l)(h:Rd w g0 A n m):RdOff w g0 v A n m :=
 ⟨h.more (by have:=hs.l0;have:=hs.lb;omega),fun hn b o e=>by
  obtain⟨b',o',e',hb,-⟩:=h.2 hn;rw[e] at e'
  injection e' with e'
  injection e' with e1 e2
  exact PtOff.old hs (by omega)⟩
theorem RdOff.new{m:LB}{vb:Value}(hs:PtSt w base g0 gp gs sc v l)(ho:Ob w1 w.heap.size 5 vb m):∃ (A:OA) (c:Nat),vb=.slice A m.length c∧m.length≤c∧RdOff w1 g0 v A m.length m:=by
 obtain⟨A,c,rfl,hc,-,hr⟩:=ho.rd;refine⟨A,c,rfl,hc,hr,fun hn b o e=>?_⟩;obtain⟨g,cap,hv,hg,hg2,-⟩:=ho.form hn;injection hv with hv
 rw[e] at hv
 injection hv with hv
 injection hv with e1 e2
 subst e1;exact PtOff.new hs hg hg2
end
def Qwt(gs gp:Nat):Value:=.func (.func 110) #[] #[.pointer (some ⟨gs,0,none⟩),.pointer (some ⟨gp,0,none⟩)]
theorem Qhh(part:Int)(R:Bool)(A:OA)(n c:Nat)(m:LB)(w:World)(base g0 gp gs:Nat)(sc:Int)(v:Value)(l:LB)
  (hb:(bits BinOp.and IntKind.i64 sc part==part)=R) (hP:PtSt w base g0 gp gs sc v l) (hr:RdOff w g0 v A n m) (hlen:l.length+n≤140737488355328) :
  Calls Tryz.prog 110 #[.int .i64 part,.slice A n c,.pointer (some ⟨gs,0,none⟩),.pointer (some ⟨gp,0,none⟩)] w fun e w'=>e=.returned (.tuple #[])∧∃ v',PtSt w' base g0 gp gs sc v' (if R=true then l++m else l)∧PtRun g0 v w v' w':=by
 have hs:=hP.hs;have hp:=hP.hp;have HP:=hid hP;have HR:=hid hr;have HL:=hid hlen;clear hP hr hlen;cases R with
 | false =>
  go_enter Tryz.func110,Tryz.ntmps110;go_wp2_with fail;go_end0
  exact⟨rfl,v,HP.out,PtRun.refl _ _ _⟩
 | true =>
  have h0:w.cell? ⟨g0,0,none⟩=some v:=Qab HP.out.h0 0 rfl;go_enter Tryz.func110,Tryz.ntmps110;go_wp2_with fail;have hf:w.heap[g0]?=some (.cells #[v] 29 (0,0)):=HP.out.h0;refine wp_region_held_drew (S:=fun W=>W.cell? ⟨gp,0,none⟩=some (.pointer (some ⟨g0,0,none⟩))) (by kernel_rfl) hp (fun hHeld=>?_);clear hs;refine Qao (i:=0) (v:=?v0) rfl (by kernel_rfl) (by kernel_rfl) (by kernel_rfl) (fun _ _ _ h=>h) (by rfl) ?hy0 (by assumption) ?rest0
  case hy0=>(intro W hSw;go_simp;try with_reducible rfl)
  try simp only[zs]
  refine Qao (i:=1) (v:=?v1) rfl (by kernel_rfl) (by kernel_rfl) (by kernel_rfl) (fun _ _ _ h=>h) (by rfl) ?hy1 (by assumption) ?rest1
  case hy1=>(intro W hSw;go_simp;try with_reducible rfl)
  try simp only[zs]
  refine Qao (i:=2) (v:=?v2) rfl (by kernel_rfl) (by kernel_rfl) (by kernel_rfl) (fun _ _ _ h=>h) (by rfl) ?hy2 (by assumption) ?rest2
  case hy2=>(intro W hSw;go_simp;try with_reducible rfl)
  try simp only[zs]
  refine Qao (i:=4) (v:=?v4) rfl (by kernel_rfl) (by kernel_rfl) (by kernel_rfl) (fun _ _ _ h=>h) (by rfl) ?hy4 (by assumption) ?rest4
  case hy4=>(intro W hSw;go_simp;try with_reducible rfl)
  try simp only[zs]
  refine wpAnyH_ready (rs:=[3]) (by kernel_rfl) (by simp) ?_;refine AllReadyH.cons rfl (fun K hK=>?_) AllReadyH.nil;have h0d:w.drew.cell? ⟨g0,0,none⟩=some v:=h0;go_simp
  refine hK.out _ _ hp (fun hHeld=>?_);try simp only[zs]
  clear hK K h0d;refine wpAnyH_ready (rs:=[5]) (by kernel_rfl) (by simp) ?_;refine AllReadyH.cons rfl (fun K hK=>?_) AllReadyH.nil;refine Ql2 (by rfl) (.tmp 14) (.tmp 15) 29 (by rfl) base 5 Tryz.underlying29 Qak v l (by rfl) HP.out.ob.drew w.heap.size A n c m (by rfl) HR.out.1.drew HL.out HP.out.lb ?_;intro v2 w2 ho2 hr2;obtain⟨A2,c2,rfl,-,-,-⟩:=ho2.rd;have HO2:=hid ho2;have R2:=hid hr2;have HL2:Hid ((l++m).length=l.length+m.length):=List.length_append;generalize (l++m).length=N2 at *;have hne0:v.ownBlock≠some g0:=fun e=>by have:=(World.ownsRow.lt HP.out.ob g0 e).1;have:=HP.out.l0;omega
  have hnep:v.ownBlock≠some gp:=fun e=>by have:=(World.ownsRow.lt HP.out.ob gp e).1;have:=HP.out.lp;omega
  have k0:w2.heap[g0]?=some (.cells #[v] 29 (0,0)):=(hr2.grown.block g0 (Nat.lt_of_lt_of_le HP.out.l0 HP.out.lb) (fun e=>hne0 e.symm)).trans hf;have K0:=hid k0;have c0:w2.cell? ⟨g0,0,none⟩=some v:=Qab k0 0 rfl;have f0:w2.frozen? ⟨g0,0,none⟩=false:=Qb5 k0 0;have cp:w2.cell? ⟨gp,0,none⟩=some (.pointer (some ⟨g0,0,none⟩)):=(hr2.cell (p:=⟨gp,0,none⟩) (Nat.lt_of_lt_of_le HP.out.lp HP.out.lb) hnep).trans HP.out.hp;clear ho2 hr2 k0 hHeld hne0 hnep;refine hK.out _ _ cp (fun hHeld=>?_);try simp only[zs]
  clear hK K;refine Qao (i:=6) (v:=?v6) rfl (by kernel_rfl) (by kernel_rfl) (by kernel_rfl) (fun _ _ _ h=>h) (by rfl) ?hy6 (by assumption) ?rest6
  case hy6=>(intro W hSw;go_simp;try with_reducible rfl)
  try simp only[zs]
  refine wpAnyH_ready (rs:=[7]) (by kernel_rfl) (by simp) ?_;refine AllReadyH.cons rfl (fun K hK=>?_) AllReadyH.nil;rw[if_pos (by rfl)]
  go_simp
  have cp2:(w2.setCell ⟨g0,0,none⟩ (.slice A2 N2 c2)).cell? ⟨gp,0,none⟩=some (.pointer (some ⟨g0,0,none⟩)):=(World.cell?_setCell_far _ _ _ _ (fun e=>HP.out.np e.symm)).trans cp;have HF:Hid (PtSt (w2.setCell ⟨g0,0,none⟩ (.slice A2 N2 c2)) base g0 gp gs sc (.slice A2 N2 c2) (l++m)∧PtRun g0 v w (.slice A2 N2 c2) (w2.setCell ⟨g0,0,none⟩ (.slice A2 N2 c2))):=by
   have hfar:∀ k,k≠g0→(w2.setCell ⟨g0,0,none⟩ (.slice A2 N2 c2)).heap[k]?=w2.heap[k]?:=fun k hk=>Deep.blk_setCell_other _ _ _ _ hk
   have hsz:(w2.setCell ⟨g0,0,none⟩ (.slice A2 N2 c2)).heap.size=w2.heap.size:=Deep.nblk_setCell _ _ _;have hlb:=HP.out.lb;have hl0:=HP.out.l0;have hls:=HP.out.ls;have hsw:w.heap.size≤w2.heap.size:=R2.out.grown.size;have hnes:v.ownBlock≠some gs:=fun e=>by have:=(World.ownsRow.lt HP.out.ob gs e).1;omega
   refine⟨⟨?_,cp2,?_,?_,HP.out.np,HP.out.ns,hl0,HP.out.lp,hls,by rw[hsz];omega⟩,⟨R2.out.grown.os,R2.out.grown.tape,R2.out.grown.output,by rw[hsz];exact hsw,fun k hk hk0 hne=>(hfar k hk0).trans (R2.out.grown.block k hk (fun e=>hne e.symm)),R2.out.own⟩⟩
   ·
    rw[setCell_eq_setRow w2 g0 0 #[v] 29 (0,0) _ K0.out]
    exact setRow_heap w2 g0 _ _ 29 _ K0.out
   ·
    exact(World.cell?_setCell_far _ _ _ _ (fun e=>HP.out.ns e.symm)).trans ((R2.out.cell (p:=⟨gs,0,none⟩) (by show gs<w.heap.size;omega) hnes).trans HP.out.hs)
   ·
    refine HO2.out.kept (row:=some g0) ⟨rfl,rfl,rfl,by rw[hsz];exact Nat.le_refl _,fun k _ hne=>hfar k (fun e=>hne (by rw[e]))⟩ (.inr fun e=>?_);have:=(World.ownsRow.lt HO2.out g0 e).1
    omega
  refine hK.out _ _ cp2 (fun hHeld=>?_);try simp only[zs]
  clear hK K;refine wpAnyH_done (by kernel_rfl) ?_ _;go_wp2_with fail;go_end0
  exact⟨rfl,_,HF.out.1,HF.out.2⟩
theorem PtSt.start(w:World)(g0:Nat)(sc:Int)(hg:g0<w.heap.size)(h0:w.heap[g0]?=some (.cells #[.slice none 0 0] 29 (0,0))) :
  PtSt ((w.alloc (.cells #[.pointer (some ⟨g0,0,none⟩)] 132)).alloc (.cells #[.int .i64 sc] 3)) (w.heap.size+2) g0 w.heap.size (w.heap.size+1) sc (.slice none 0 0) []:=by
 have b1:Below (w.heap.size+1) (w.alloc (.cells #[.pointer (some ⟨g0,0,none⟩)] 132)) ((w.alloc (.cells #[.pointer (some ⟨g0,0,none⟩)] 132)).alloc (.cells #[.int .i64 sc] 3)):=(Below.refl _ _).alloc (by simp) _;have b0:Below w.heap.size w ((w.alloc (.cells #[.pointer (some ⟨g0,0,none⟩)] 132)).alloc (.cells #[.int .i64 sc] 3)):=zb.alloc (Qaa _ _) _;have hs1:(w.alloc (.cells #[.pointer (some ⟨g0,0,none⟩)] 132)).heap.size=w.heap.size+1:=by simp
 have h2:=Qab (W:=(w.alloc (.cells #[.pointer (some ⟨g0,0,none⟩)] 132)).alloc (.cells #[.int .i64 sc] 3)) (Qad (w:=w.alloc (.cells #[.pointer (some ⟨g0,0,none⟩)] 132)) rfl (Below.refl _ _)) 0 rfl;rw[hs1] at h2
 exact⟨(b0.block g0 hg).trans h0,Qab (Qad rfl b1) 0 rfl,h2,Ob.nil_ _ _ _,by omega,by omega,by omega,by omega,by omega,by simp⟩
theorem Qjz(g0:Nat)(sc:Int)(w:World)(hg:g0<w.heap.size)(h0:w.heap[g0]?=some (.cells #[.slice none 0 0] 29 (0,0))) :
  Calls Tryz.prog 72 #[.pointer (some ⟨g0,0,none⟩),.int .i64 sc] w fun e w'=>∃ gp gs base,e=.returned (Qwt gs gp)∧PtSt w' base g0 gp gs sc (.slice none 0 0) []∧Below w.heap.size w w':=by
 have HP:=hid (PtSt.start w g0 sc hg h0);have HB:Hid (Below w.heap.size w ((w.alloc (.cells #[.pointer (some ⟨g0,0,none⟩)] 132)).alloc (.cells #[.int .i64 sc] 3))):=zb.alloc (Qaa _ _) _;clear h0;go_enter Tryz.func72,Tryz.ntmps72;go_wp2_with fail;go_ret;exact⟨_,_,_,rfl,HP.out,HB.out⟩
def hds(ns:List Nat):LB:=ns.flatMap (hd 0)
theorem Qyp(ns:List Nat)(i:Nat)(hi:i<ns.length):hds (ns.take (i+1))=hds (ns.take i)++hd 0 (ns[i]'hi):=by
 unfold hds;rw[List.take_add_one,List.getElem?_eq_getElem hi,List.flatMap_append]
 simp only[Option.toList,List.flatMap_cons,List.flatMap_nil,List.append_nil]
theorem Qgo(ns:List Nat):(hds ns).length≤9*ns.length:=by
 unfold hds;induction ns with
 | nil=>simp
 | cons a r ih =>
  rw[List.flatMap_cons,List.length_append,List.length_cons,Qbo]
  have:=Qa1 a
  omega
theorem Qep(part:Int)(R:Bool)(ns:List Nat)(gl N:Nat)(w:World)(base g0 gp gs:Nat)(sc:Int)(v:Value)(l:LB)
  (hb:(bits BinOp.and IntKind.i64 sc part==part)=R) (hP:PtSt w base g0 gp gs sc v l) (hrow:RowAt w gl (ns.map fun (x:Nat)=>Value.int .u64 (x:Int))) (hoff:PtOff w g0 v gl) (hN:ns.length=N) (hN5:N≤5) (hlen:l.length≤100000) (hns:∀ x∈ns,x<18446744073709551616) :
  Calls Tryz.prog 73 #[Qwt gs gp,.int .i64 part,.slice (some ⟨gl,0,none⟩) N N] w fun e w'=>e=.returned (.tuple #[])∧∃ v',PtSt w' base g0 gp gs sc v' (if R=true then l++hds ns else l)∧PtRun g0 v w v' w':=by
 obtain⟨LF,hLF⟩:∃ LF,LF=(if R=true then l++hds ns else l):=⟨_,rfl⟩
 rw[← hLF]
 have HLF:=hid hLF;have HP:=hid hP;have HRW:=hid hrow;have HOF:=hid hoff;have HN:=hid hN;have HL:=hid hlen;have HNS:=hid hns;have CU:=hid (fun (n:Nat) (W:World) (h:n<18446744073709551616)=>Qnd n W h);have CE:=hid (fun (n:Nat) (x:Value) (W:World) (h:n<18446744073709551616) (hr:RdI W W.heap.size x (.mk 0 n [] []))=>Qi1 (.mk 0 n [] []) x W W.heap.size (Qs8 n) (by rw[Qln,Qbo];have:=Qa1 n;omega) zr hr);have CPT:=hid (fun (A:OA) (n c:Nat) (m:LB) (W:World) (v1:Value) (l1:LB) (hP:PtSt W base g0 gp gs sc v1 l1) (hr:RdOff W g0 v1 A n m) (hlen:l1.length+n≤140737488355328)=>Qhh part R A n c m W base g0 gp gs sc v1 l1 hb hP hr hlen)
 clear hb hP hrow hoff hN hlen hns hLF;unfold Qwt at *;go_enter Tryz.func73,Tryz.ntmps73;go_wp2_with fail;go_loopw [7,10] (fun _ iv wr=>∃ (i:Nat) (v1:Value),i≤N∧iv=.int .i64 (i:Int)∧Hid (PtSt wr base g0 gp gs sc v1 (if R=true then l++hds (ns.take i) else l))∧Hid (PtRun g0 v w v1 wr)) (fun _ iv _=>N - (intOf iv).toNat)
 case atStart=>exact⟨0,v,Nat.zero_le _,rfl,by show PtSt _ _ _ _ _ _ _ _;simpa [hds] using HP.out,PtRun.refl _ _ _⟩
 case round =>
  obtain⟨i,v1,hi,rfl,HP1,HR1⟩:=hrel;by_cases hlt:i<N
  ·
   have hil:i<ns.length:=by rw[HN.out];exact hlt
   have hii:decide ((i:Int)<(N:Int))=true:=decide_eq_true (by omega);have hi1:(i:Int)<(N:Int):=by omega
   have hcell:wr.cell? ⟨gl,i,none⟩=some (.int .u64 ((ns[i]'hil:Nat):Int)):=by
    rw[HOF.out.cell HR1.out]
    have:=HRW.out.2 i (.int .u64 ((ns[i]'hil:Nat):Int)) (by rw[List.getElem?_map,List.getElem?_eq_getElem hil];rfl)
    rw[Qi9] at this
    exact this
   have hx:ns[i]'hil<18446744073709551616:=HNS.out _ (List.getElem_mem hil);have HTK:=hid (Qyp ns i hil);generalize ns[i]'hil=x at *;have C1:=hid (CU.out x wr hx);go_wp2_with fail;refine C1.out.mono ?_;rintro e w1 ⟨u1,rfl,hu1,hb1⟩;obtain⟨k1,n1,A1,nd1,cd1,AL1,nl1,cl1,rfl⟩:=hu1.form;have U1:=hid hu1;have P1:=hid (HP1.out.quiet hb1);have Q1:=hid (HR1.out.quiet hb1);clear hu1 hb1 hcell;go_wp2_with fail;refine(CE.out x _ w1 hx U1.out).mono ?_;rintro e w2 ⟨u2,rfl,ho2,hb2⟩;obtain⟨A2,c2,rfl,hc2,hoff2⟩:=RdOff.new P1.out ho2;have P2:=hid (P1.out.quiet hb2);have Q2:=hid (Q1.out.quiet hb2);have O2:=hid hoff2
   clear ho2 hb2 hoff2 hc2;go_wp2_with fail;refine(CPT.out A2 _ c2 _ w2 v1 _ P2.out O2.out ?_).mono ?_
   ·
    have h1:=Qgo (ns.take i);have h2:(ns.take i).length≤N:=by rw[List.length_take];omega
    have h3:=Qa1 x;have h4:=HL.out;rw[Qln,Qbo]
    split
    ·
     rw[List.length_append];omega
    ·
     omega
   rintro e w3 ⟨rfl,v3,h3,r3⟩;have P3:Hid (PtSt w3 base g0 gp gs sc v3 (if R=true then l++hds (ns.take (i+1)) else l)):=by
    have h3':=h3;rw[Qln] at h3'
    show PtSt _ _ _ _ _ _ _ _;rw[HTK.out]
    cases R with
    | false=>exact h3'
    | true=>simpa using h3'
   have Q3:=hid (Q2.out.trans r3);clear h3 r3;go_wp2_with fail;go_roundw
   case rel=>exact⟨i+1,v3,by omega,by go_num,P3.out,Q3.out⟩
   case measure=>simp[intOf];omega
  ·
   obtain rfl:N=i:=by omega
   have hii:decide ((N:Int)<(N:Int))=false:=decide_eq_false (by omega);go_wp2_with fail;go_end0
   refine⟨rfl,v1,?_,HR1.out⟩;have:=HP1.out
   rw[List.take_of_length_le (by rw[HN.out];exact Nat.le_refl _),← HLF.out] at this
   exact this
theorem Qc2(m n:Nat):(hd m n).length≤9:=by rw[Qbo];have:=Qa1 n;omega
theorem Qs2(n:Nat):(wri (uI n)).length≤9:=by show(hd 0 n).length≤9;exact Qc2 0 n
theorem Qlo(l:List Itm):wri (aI l)=hd 4 l.length++wrs l:=by unfold aI;rw[wri];rfl
theorem Qjm:∀ l:List Nat,(wrs (l.map uI)).length≤9*l.length
 | []=>by simp[wrs]
 | x::r=>by
  rw[List.map_cons,wrs,List.length_append,List.length_cons]
  have:=Qs2 x
  have:=Qjm r
  omega
theorem Qnr(t:LB)(h:t.length=32):(wri (Qe5 t)).length≤68:=by
 have e:wri (Qe5 t)=hd 4 1++(hd 4 2++(wri (uI 1)++((hd 2 t.length++t)++[]))++[]):=by
  unfold Qe5;rw[Qlo,wrs,wrs,Qlo,wrs,wrs,wrs,Qs3]
  rfl
 rw[e]
 simp only[List.length_append,List.length_nil];have:=Qc2 4 1
 have:=Qc2 4 2
 have:=Qs2 1
 have:=Qc2 2 t.length
 omega
theorem Qhu:∀ l:List LB,(∀ t∈l,t.length=32)→(wrs (l.map Qe5)).length≤68*l.length
 | [],_=>by simp[wrs]
 | x::r,h=>by
  rw[List.map_cons,wrs,List.length_append,List.length_cons]
  have:=Qnr x (h x (List.mem_cons_self ..))
  have:=Qhu r (fun t ht=>h t (List.mem_cons_of_mem _ ht))
  omega
theorem Qu3{e:Epd}(h:Qag e=true):(wri (Qal e)).length≤110:=by
 have h9:=Qc2;unfold Qal;by_cases h2:e.scheme=2
 ·
  rw[if_pos h2]
  have:=h9 4 2;have:=h9 0 e.scheme.toNat;have:=h9 0 e.node;have:=h9 0 e.service
  simp[wri,wrs];omega
 ·
  rw[if_neg h2]
  by_cases hn:e.name=[]
  ·
   rw[if_pos hn]
   have:=h9 4 2;have:=h9 0 e.scheme.toNat;have:=h9 0 0
   simp[wri,wrs];omega
  ·
   rw[if_neg hn]
   have h1:e.scheme=1:=by
    by_cases h1:e.scheme=1
    ·
     exact h1
    ·
     exact absurd (Qbe h h1).1 h2
   obtain⟨-,-,h3⟩:=Qbz h h1;have hl:e.name.length≤64:=by
    rcases h3 with h3|h3
    ·
     exact absurd h3 hn
    ·
     obtain⟨r,-,-,-,-,h⟩:=Qb4 h3;exact h
   have:=h9 4 2;have:=h9 0 e.scheme.toNat;have:=h9 3 e.name.length
   simp[wri,wrs];omega
theorem Qho{x:Bb}(h:Rgt x):(Qjh x).length≤2000:=by
 have e:Qjh x=(hd 4 (x.tgs.map uI).length++wrs (x.tgs.map uI))++(wri (uI 1)++(wri (uI 1)++(wri (Qal x.src)++(wri (Qxs x.sco.toNat)++((hd 4 (x.tag.map Qe5).length++wrs (x.tag.map Qe5))++[]))))):=by
  unfold Qjh Qd5;rw[wrs,wrs,wrs,wrs,wrs,wrs,wrs,Qlo,Qlo]
 have h1:=h.l15;have h2:=h.tl;have q1:=Qc2 4 (x.tgs.map uI).length;have q2:=Qjm x.tgs;have q3:=Qs2 1;have q4:=Qu3 h.ck;have q5:(wri (Qxs x.sco.toNat)).length≤63:=by
  have:=Qc2 4 2;have:=Qc2 0 1;have:=Qc2 0 5;have:=Qc2 0 3;have:=Qc2 0 x.sco.toNat
  unfold Qxs;simp[Qlo,wrs,uI,Qln];omega
 have q6:=Qc2 4 (x.tag.map Qe5).length;have q7:=Qhu x.tag h.t32;rw[e]
 simp only[List.length_append,List.length_nil];omega
theorem Qgd:∀ a b:List Itm,wrs (a++b)=wrs a++wrs b
 | [],b=>rfl
 | x::r,b=>by rw[List.cons_append,wrs,wrs,Qgd r b,List.append_assoc]
theorem RdIs.get4{w:World}{B b o:Nat}{l:List Itm}(h:RdIs w B b o l)(i:Nat)(hi:i<l.length):∃ (k:Int) (n:Nat) (A:OA) (nd cd:Nat) (AL:OA) (nl cl:Nat),
  w.cell? ⟨b,o+i*4,none⟩=some (.int .i64 k)∧w.cell? ⟨b,o+i*4+1,none⟩=some (.int .u64 (n:Int))∧w.cell? ⟨b,o+i*4+2,none⟩=some (.slice A nd cd)∧w.cell? ⟨b,o+i*4+3,none⟩=some (.slice AL nl cl) ∧
  RdI w B (zv6 k n A nd cd AL nl cl) (l[i]'hi):=by
 obtain⟨c0,c1,c2,c3,g0,g1,g2,g3,gx⟩:=h.get i hi;obtain⟨k,n,A,nd,cd,AL,nl,cl,he⟩:=gx.form;have e0:=congrArg (fun v=>match v with|Value.agg cs=>cs.toList|_=>[]) he;simp only[List.cons.injEq,and_true] at e0;obtain⟨rfl,rfl,rfl,rfl⟩:=e0;exact⟨k,n,A,nd,cd,AL,nl,cl,g0,g1,g2,g3,gx⟩
theorem Q4x(x y:UInt8):Value.int .u8 (bits BinOp.xor .u8 (x.toNat:Int) (y.toNat:Int))=.int .u8 ((x ^^^ y).toNat:Int):=by
 rw[u8_xor_nat _ _ x.toNat_lt y.toNat_lt,UInt8.toNat_xor]
theorem Qlm(l:LB)(y:UInt8)(k:Nat)(h:k<l.length):Qfb (l.take (k+1)) y=Qfb (l.take k) y++[l.getD k 0 ^^^ y]:=by
 rw[Qdb l k h]
 simp[Qfb]
theorem Rd.src{w:World}{B n:Nat}{A:OA}{l:LB}(h:Rd w B A n l)(h0:0<n):∃ ad,A=some ad∧∀ j u,(l.map bv)[j]?=some u→w.cell? (ad.add j)=some u:=by
 obtain⟨b,o,rfl,_,hc⟩:=h.2 h0;refine⟨_,rfl,fun j u hu=>?_⟩;have hj:j<l.length:=by
  rcases Nat.lt_or_ge j l.length with h1|h1
  ·
   exact h1
  ·
   rw[List.getElem?_eq_none (by simpa using h1)] at hu;cases hu
 have hh:=hc j (by rw[← h.1];exact hj);have ea:(⟨b,o,none⟩:Addr).add j=⟨b,o+j,none⟩:=by unfold Addr.add;split <;> simp_all
 rw[ea,hh,← hu]
 simp[List.getD,hj,bv]
theorem Qp0{w:World}{base g n:Nat}{t:TypeId}{l:LB}(h:Ob w base t (.slice (some ⟨g,0,none⟩) n n) l)(hn:l.length=n):w.heap[g]?=some (.cells (l.map bv).toArray t (0,0)):=by
 rcases h.2 with ⟨e,_⟩|⟨g',cap,cur,e,hb,hg,hnc,hm,hs,ht⟩
 ·
  cases e
 ·
  simp only[Value.slice.injEq,Option.some.injEq,Addr.mk.injEq] at e;obtain⟨⟨rfl,_,_⟩,e2,rfl⟩:=e;rw[hg]
  have:cur=(l.map bv).toArray:=by
   rw[← ht,List.take_of_length_le (by simp[hs,hn])]
  rw[this]
theorem Qih{w:World}{base g n:Nat}{t:TypeId}{l:LB}(hg:w.heap[g]?=some (.cells (l.map bv).toArray t (0,0)))(hb:base≤g)(hn:l.length=n)(hm:n≤maxLen):Ob w base t (.slice (some ⟨g,0,none⟩) n n) l:=by
 subst hn;exact⟨by simp,.inr ⟨g,l.length,_,rfl,hb,hg,Nat.le_refl _,hm,by simp,List.take_of_length_le (by simp)⟩⟩
theorem Qrb(k b:LB)(hb:b=Qnp k):splice ((List.replicate 64 (0:UInt8)).map bv) 0 (b.map bv)=(Qf1 k).map bv:=by
 subst hb;obtain⟨M,hM⟩:∃ M,M=64:=⟨_,rfl⟩
 unfold splice Qf1;rw[List.map_append,← hM]
 simp
theorem Qyw(A:OA)(n c B:Nat)(k:LB)(w:World)(h:Rd w B A n k)(hB:B≤w.heap.size)(hnc:n≤c)(hc:c≤9223372036854775807)(hn:n≤274877906944) :
  Calls Tryz.prog 77 #[.slice A n c] w (Qbi 5 (Qf1 k) w):=by
 have HKL:=hid h.1;have HR:=hid (h.more hB);have SP:=hid (Qrb k);have L64:=hid (show((List.replicate 64 (0:UInt8)).map bv).length=64 by simp);have LR:=hid (show(List.replicate 64 (0:UInt8)).length=64 by simp);have KLL:=hid (Qcn k);clear h hB;by_cases hlong:64<n
 ·
  have e1:(64:Int)<(n:Int):=by omega
  have KB:=hid (show Qkq k=Qnp k by unfold Qnp;rw[if_pos (by rw[HKL.out];exact hlong)]);go_enter Tryz.func77,Tryz.ntmps77;go_wp2_with fail;refine(Qw3 A n c k w HR.out hnc hc (by rw[HKL.out];omega)).mono ?_;rintro e w2 ⟨v2,rfl,ho2,hb2⟩;obtain⟨D2,d2,rfl,hd2,hm2,hr2⟩:=Ob.rd_n ho2 (Qcg k);have R2:=hid hr2;have B2:=hid (((Below.refl w.heap.size w).alloc zr (zo9 A n c)).trans (hb2.mono (Qaa _ _)));clear ho2 hb2 hr2;go_wp2_with (first
   | (refine Qdk rfl _ _ 29 rfl 5 Tryz.underlying29 Qak 64 64 64 64 rfl rfl rfl rfl zr (by decide) ?_;intro w3 ho3 hb3;have G3:=hid (Qp0 ho3 LR.out);have B3:=hid (B2.out.trans (hb3.mono B2.out.size));have S3:=hid ((R2.out.below hb3).src (by decide));clear ho3 hb3)
   | (refine wpList_copy_splice rfl (.tmp 11) (.tmp 12) 29 29 rfl 5 Tryz.underlying29 (by kernel_rfl) (some ⟨w2.heap.size,0,none⟩) D2 64 64 32 d2 rfl rfl w2.heap.size 0 ((List.replicate 64 (0:UInt8)).map bv) 5 G3.out ((Qkq k).map bv) (by rw[List.length_map,Qcg];rfl) (fun _=>⟨rfl,S3.out⟩) (by rw[List.length_map,Qcg,L64.out];decide) (Qqz _) w.heap.size w B3.out B2.out.size ?_;intro w4 hw4 hb4;have B4:=hid hb4;have G4:=hid hw4.out;clear hb4 hw4)
   | fail)
  go_ret;have g4:=G4.out;rw[SP.out _ KB.out] at g4
  exact⟨_,rfl,Qih g4 B2.out.size KLL.out (by decide),B4.out⟩
 ·
  have e1:¬ (64:Int)<(n:Int):=by omega
  have KB:=hid (show k=Qnp k by unfold Qnp;rw[if_neg (by rw[HKL.out];exact hlong)]);have MIN:=hid (show(k.map bv).length=Nat.min n 64 by rw[List.length_map,HKL.out];exact(Nat.min_eq_left (by omega)).symm);have FIT:=hid (show 0+(k.map bv).length≤((List.replicate 64 (0:UInt8)).map bv).length by rw[L64.out,List.length_map,HKL.out];omega);have POS:=hid (show 0<(k.map bv).length→0<n by rw[List.length_map,HKL.out];exact id);go_enter Tryz.func77,Tryz.ntmps77;go_wp2_with (first
   | (refine Qdk rfl _ _ 29 rfl 5 Tryz.underlying29 Qak 64 64 64 64 rfl rfl rfl rfl zr (by decide) ?_;intro w1 ho1 hb1;have G1:=hid (Qp0 ho1 LR.out);have B1:=hid hb1;have R1:=hid (HR.out.below hb1);clear ho1 hb1)
   | (refine wpList_copy_splice rfl (.tmp 11) (.tmp 12) 29 29 rfl 5 Tryz.underlying29 (by kernel_rfl) (some ⟨w.heap.size,0,none⟩) A 64 64 n c rfl rfl w.heap.size 0 ((List.replicate 64 (0:UInt8)).map bv) 5 G1.out (k.map bv) MIN.out (fun hp=>⟨rfl,R1.out.src (POS.out hp)⟩) FIT.out (Qqz _) w.heap.size w B1.out zr ?_;intro w4 hw4 hb4;have B4:=hid hb4;have G4:=hid hw4.out;clear hb4 hw4)
   | fail)
  go_ret;have g4:=G4.out;rw[SP.out _ KB.out] at g4
  exact⟨_,rfl,Qih g4 zr KLL.out (by decide),B4.out⟩
theorem Q0g(K:LB)(x:UInt8)(q:Nat)(h:q<K.length):(Qfb (K.take q) x++List.replicate (K.length - q) 0).set q (K.getD q 0 ^^^ x)=Qfb (K.take (q+1)) x++List.replicate (K.length - (q+1)) 0:=by
 have hl:(Qfb (K.take q) x).length=q:=by rw[Qcj,List.length_take];omega
 obtain⟨r,hr⟩:∃ r,K.length - q=r+1:=⟨K.length - (q+1),by omega⟩
 rw[Qlm K x q h,List.set_append_right _ _ (by omega),hl,Nat.sub_self,hr,List.replicate_succ,List.set_cons_zero,List.append_assoc,show K.length - (q+1)=r by omega]
 rfl
theorem Q0h(K:LB)(x:UInt8)(q:Nat)(h:q≤K.length):(Qfb (K.take q) x++List.replicate (K.length - q) (0:UInt8)).length=K.length:=by
 rw[List.length_append,Qcj,List.length_take,List.length_replicate];omega
theorem Qi4(A:OA)(n c:Nat)(K:LB)(y:UInt8)(w:World)(h:Rd w w.heap.size A n K)(h0:0<n)(hnc:n≤c)(hc:c≤9223372036854775807)(hn:n≤274877906944) :
  Calls Tryz.prog 79 #[.slice A n c,.int .u8 (y.toNat:Int)] w (Qbi 5 (Qfb K y) w):=by
 have KL:Hid (K.length=n):=h.1;obtain⟨b,o,rfl,hb,hcells⟩:=h.2 h0;have HC:=hid (And.intro hb hcells);clear h hb hcells;obtain⟨Y,hY⟩:∃ Y,Y=y.toNat:=⟨_,rfl⟩
 have hY1:Y<256:=by rw[hY];exact y.toNat_lt
 rw[← hY]
 have HY:=hid hY;clear hY;go_enter Tryz.func79,Tryz.ntmps79;go_wp2_with (first
  | (refine Qdk rfl _ _ 29 rfl 5 Tryz.underlying29 Qak n n (n:Int) (n:Int) rfl rfl rfl rfl zr (by omega) ?_;intro w1 ho1 hb1;have O1:=hid ho1;have B1:=hid hb1;clear ho1 hb1)
  | fail)
 go_loopw [6,12] (fun _ i wr=>∃ q:Nat,q≤n∧i=.int .i64 q∧Hid (Ob wr w.heap.size 5 (.slice (some ⟨w.heap.size,0,none⟩) n n) (Qfb (K.take q) y++List.replicate (K.length - q) 0))∧Hid (Below w.heap.size w wr)) (fun _ i _=>n - (intOf i).toNat)
 case atStart=>exact⟨0,Nat.zero_le _,rfl,by show Ob _ _ _ _ _;rw[KL.out];simpa [Qfb] using O1.out,B1.out⟩
 case round =>
  obtain⟨q,hq,rfl,hob,hbel⟩:=hrel;by_cases hlt:q<n
  ·
   have hl:=(Q0h K y q (by rw[KL.out];exact hq)).trans KL.out;obtain⟨x,hx⟩:∃ x,x=K.getD q 0:=⟨_,rfl⟩
   have fx:=hob.out.frozen hl q;have ox:=hob.out.cell hl hlt;have cx:wr.cell? ⟨b,o+q,none⟩=some (.int .u8 (x.toNat:Int)):=by rw[hbel.out.cell (p:=⟨b,o+q,none⟩) HC.out.1,HC.out.2 q hlt,hx]
   have hxv:=Q4x x y;rw[← HY.out] at hxv
   have O2:=hid (hob.out.stored hl q (x ^^^ y) hxv);have HX:=hid hx;have i0:(0:Int)≤(q:Int):=by omega
   have i1:(q:Int)<(n:Int):=by omega
   clear hl hx hxv;generalize (((Qfb (K.take q) y++List.replicate (K.length - q) 0).getD q 0).toNat:Int)=z0 at *;go_wp2_with fail;go_roundw
   case rel =>
    refine⟨q+1,by omega,by go_num,?_,hbel.out.setCell zr _⟩;show Ob _ _ _ _ _;rw[← Q0g K y q (by rw[KL.out];exact hlt),← HX.out]
    exact O2.out
   case measure=>simp[intOf];omega
  ·
   obtain rfl:q=n:=by omega
   have i1:¬ ((q:Int)<(q:Int)):=by omega
   have hs:=hob.out;rw[List.take_of_length_le (by rw[KL.out];exact Nat.le_refl _),KL.out,Nat.sub_self,List.replicate_zero,List.append_nil] at hs
   have HS:=hid hs;clear hs;go_wp2
   go_ret;exact⟨_,rfl,HS.out,hbel.out⟩
section
variable {P:Program}(w:World)
theorem Q1s(x y:UInt8):((x.toNat:Int)==(y.toNat:Int))=(x==y):=by
 by_cases h:x=y
 ·
  subst h;simp
 ·
  have:¬ ((x.toNat:Int)=(y.toNat:Int)):=fun e=>h (UInt8.toNat_inj.1 (by omega))
  rw[beq_eq_false_iff_ne.2 this,beq_eq_false_iff_ne.2 h]
theorem Qf8(d:Nat)(e:TypeId)(he:P.underlying e=some (.int .u8))(l l':LB):∀ is:List Nat,(∀ i∈is,i<l.length∧i<l'.length) →
  (Op.eqItems (d+1) e 1 (l.map bv).toArray (l'.map bv).toArray is).run P w=.ok (is.all fun i=>l.getD i 0==l'.getD i 0) w
 | [],_=>by simp[Op.eqItems]
 | i::is,h=>by
  obtain⟨h1,h2⟩:=h i (by simp);have ih:=Qf8 d e he l l' is (fun j hj=>h j (by simp[hj]));have p1:(part e (l.map bv).toArray (i*1)).run P w=.ok (.int .u8 ((l.getD i 0).toNat:Int)) w:=by
   simp[part,isAgg,run_underlying he,h1,bv,List.getD]
  have p2:(part e (l'.map bv).toArray (i*1)).run P w=.ok (.int .u8 ((l'.getD i 0).toNat:Int)) w:=by
   simp[part,isAgg,run_underlying he,h2,bv,List.getD]
  simp only[Op.eqItems,Sem.run_bind,p1,p2,Result.andThen_ok,run_equalIn_int w d e .u8 .u8 _ _ he,Q1s,List.all_cons];cases hb:(l.getD i 0==l'.getD i 0)
  ·
   simp
  ·
   simpa using ih
theorem Qwn(l l':LB)(n:Nat)(h:l.length=n)(h':l'.length=n):((List.range n).all fun i=>l.getD i 0==l'.getD i 0)=(l==l'):=by
 by_cases e:l=l'
 ·
  subst e;simp
 ·
  rw[beq_eq_false_iff_ne.2 e,List.all_eq_false]
  refine Classical.byContradiction fun hn=>e ?_
  apply List.ext_getElem (by omega);intro i h1 h2;refine Classical.byContradiction fun hne=>hn ⟨i,by simp;omega,?_⟩
  simp[List.getD,h1,h2,hne]
theorem Qxa(d:Nat){t e:TypeId}{n:Nat}{i:TypeInfo}(hu:P.underlying t=some (.array n e))(hi:P.info? e=some i)(hc:P.cellsOf e=1)(he:P.underlying e=some (.int .u8))(l l':LB)(h:l.length=n)(h':l'.length=n) :
  (Op.equalIn (d+2) t (.agg (l.map bv).toArray) (.agg (l'.map bv).toArray)).run P w=.ok (l==l') w:=by
 rw[run_equalIn_array w (d+1) _ _ hu hi,hc,Qf8 w d e he l l' _ (fun i hi=>by have:=List.mem_range.1 hi;omega),Qwn l l' n h h']
theorem Qn6{t e:TypeId}{n:Nat}{B:Nat}{A:OA}{l:LB}(hu:P.underlying t=some (.array n e))(hi:(P.info? t).map (·.size)=some n)(hn:0<n)(h:Rd w B A n l) :
  ∃ ad,A=some ad∧(loadVar t ad).run P w=.ok (.agg (l.map bv).toArray) w:=by
 obtain⟨b,o,rfl,_,hc⟩:=h.2 hn;refine⟨_,rfl,?_⟩;have hl:(loadCells ⟨b,o,none⟩ (l.map bv).length).run P w=.ok (l.map bv).toArray w :=
  run_loadCells_list (P:=P) w ⟨b,o,none⟩ (l.map bv) (fun j v hv=>by
   have hadd:(⟨b,o,none⟩:Addr).add j=⟨b,o+j,none⟩:=by unfold Addr.add;split <;> simp_all
   have hj:j<l.length:=by
    rcases Nat.lt_or_ge j l.length with h1|h1
    ·
     exact h1
    ·
     rw[List.getElem?_eq_none (by simpa using h1)] at hv;cases hv
   rw[hadd,hc j (by rw[← h.1];exact hj),← hv]
   simp[List.getD,hj,bv])
 cases hq:P.info? t with
 | none=>simp[hq] at hi
 | some i =>
  have hs:i.size=n:=by simpa [hq] using hi
  have hagg:(isAgg t).run P w=.ok true w:=by
   unfold isAgg;rw[Sem.run_bind,run_underlying hu w]
   simp
  rw[List.length_map,h.1] at hl
  simp[loadVar,Sem.run_bind,hagg,sizeOf,typeInfo,hq,hs,hl]
end
theorem Q0u:(Tryz.prog.info? 29).map (fun i=>(i.zero,i.size,i.bytes))=some (some (.slice none 0 0),1,24):=by kernel_rfl
section
variable {P:Program}(w:World)
theorem Qxb(base:Nat)(t ty e:TypeId)(ht:P.underlying t=some (.slice e))(hinfo:(P.info? e).map (fun i=>(i.zero,i.size,i.bytes))=some (some (.slice none 0 0),1,24))
  (v:Value) (n:Nat) (xs:List Value) (hown:w.ownsRow base e 1 v n xs) (A:OA) (m c:Nat) (news:List Value) (hl:news.length=m) (h1:∀ u∈news,u.oneCell'=true)
  (hc:0<m→∃ b o,A=some ⟨b,o,none⟩∧∀ j u,news[j]?=some u→w.cell? ⟨b,o+j,none⟩=some u) (hbound:n+m≤1099511627776) (hbase:base≤w.heap.size) :
  ∃ v' w',(Builtin.append_ #[t,t] ty #[v,.slice A m c]).run P w=.ok v' w'∧w'.ownsRow base e 1 v' (n+m) (xs++news)∧w.grownBy w' v.ownBlock:=by
 obtain⟨i,hi,hzz⟩:=Option.map_eq_some_iff.1 hinfo;simp only[Prod.mk.injEq] at hzz;obtain⟨hz,hs,hb⟩:=hzz;rcases A with _|ad
 ·
  have h0:m=0:=by
   rcases Nat.eq_zero_or_pos m with h|h
   ·
    exact h
   ·
    obtain⟨_,_,h',_⟩:=hc h;cases h'
  subst h0;have hn:news=[]:=List.eq_nil_of_length_eq_zero hl;subst hn;refine⟨v,w,?_,by simpa using hown,World.grownBy.refl w _⟩;rcases hown.2 with ⟨rfl,hn⟩|⟨g,cap,cur,rfl,_,_,hnc,_⟩
  ·
   simp[Builtin.append_,run_underlying ht,sizeOf,typeInfo,hi,Builtin.lenOf,Builtin.firstCells]
  ·
   simp[Builtin.append_,run_underlying ht,sizeOf,typeInfo,hi,Builtin.lenOf,Builtin.firstCells,hnc,storeCells]
 ·
  have hcells:∀ j u,news[j]?=some u→w.cell? (ad.add j)=some u:=by
   intro j u hu;rcases Nat.eq_zero_or_pos m with h0|h0
   ·
    have hn:news=[]:=List.eq_nil_of_length_eq_zero (by omega);subst hn;simp at hu
   ·
    obtain⟨b,o,e1,hh⟩:=hc h0;injection e1 with e1
    subst e1;have ea:(⟨b,o,none⟩:Addr).add j=⟨b,o+j,none⟩:=by unfold Addr.add;split <;> simp_all
    rw[ea]
    exact hh j u hu
  obtain⟨v',w',hrun,h2,h3,_,_⟩:=run_append_own_at (P:=P) w base t ty e i (.slice none 0 0) 1 24 ht hi hz hs hb rfl (by decide) v n xs hown ad m c news (by simp[hl]) hcells h1
   (by unfold maxLen;omega) (by omega) hbase
  exact⟨v',w',hrun,h2,h3⟩
theorem Qnt{w:World}{ops:Array Oper}{rest:List Oper}{o:Oper}{a:Act}{Q:Exit→Act→World→Prop}(hgd:o.guard=none)(s x:Operand)(t:TypeId)
  (ho:o.op=.call { callee:=.builtin .append,args:=#[s,x],argTypes:=#[t,t] })
  (base:Nat) (e:TypeId) (ht:P.underlying t=some (.slice e)) (hinfo:(P.info? e).map (fun i=>(i.zero,i.size,i.bytes))=some (some (.slice none 0 0),1,24))
  (v:Value) (n:Nat) (xs:List Value) (hs:a.eval s=v) (hown:w.ownsRow base e 1 v n xs) (A:OA) (m c:Nat) (news:List Value) (hx:a.eval x=.slice A m c) (hl:news.length=m) (h1:∀ u∈news,u.oneCell'=true)
  (hc:0<m→∃ b o,A=some ⟨b,o,none⟩∧∀ j u,news[j]?=some u→w.cell? ⟨b,o+j,none⟩=some u) (hbound:n+m≤1099511627776) (hbase:base≤w.heap.size)
  (h:∀ v' w',w'.ownsRow base e 1 v' (n+m) (xs++news)→Below base w w'→wpList P ops Q rest (a.put o.dst v') w'):wpList P ops Q (o::rest) a w:=by
 refine wpList_plain hgd fun K hK=>?_
 obtain⟨v',w',hrun,h2,h3⟩:=Qxb (P:=P) w base t o.type e ht hinfo v n xs hown A m c news hl h1 hc hbound hbase;unfold Oper.wp execOp;simp only[ho,resolve,invoke,builtin,Sem.run_bind,Sem.run_pure,Result.andThen_ok,List.map_toArray,List.map_cons,List.map_nil,hs,hx,hrun];exact hK _ _ (h v' w' h2 ⟨h3.os,h3.tape,h3.output,h3.size,fun k hk=>h3.block k (by omega) (fun e=>by have:=(World.ownsRow.lt hown k e.symm).1;omega)⟩)
end
def ptV(p:Pt):Value:=.slice p.A p.n p.c
theorem Qxp{w:World}{base n:Nat}{v:Value}{ps:List Pt}(h:w.ownsRow base 29 1 v n (ps.map ptV))(hok:∀ p∈ps,Q47 w (·<w.heap.size) p):∃ A c,v=.slice A n c∧PtsF w (·<w.heap.size) A n ps:=by
 have hl:ps.length=n:=by have:=h.1;simpa using this
 rcases h.2 with ⟨rfl,rfl⟩|⟨g,cap,cur,rfl,hb,hg,hnc,hm,hs,ht⟩
 ·
  exact⟨none,0,rfl,hl,fun h0=>absurd h0 (by omega),hok⟩
 ·
  refine⟨_,cap,rfl,hl,fun _=>⟨g,0,rfl,(Array.getElem?_eq_some_iff.1 hg).1,fun i p hp=>?_⟩,hok⟩;have hc:=World.ownsRow.cells h (g:=g) rfl i (ptV p) (by simp[hp]);have ea:(⟨g,0,none⟩:Addr).add i=⟨g,0+i,none⟩:=by unfold Addr.add;split <;> simp_all
  rw[ea] at hc
  exact hc
theorem Qe9(A1:OA)(n1 c1:Nat)(l1:LB)(Ap:OA)(np cp:Nat)(ps:List Pt)(w:World)(h1:Rd w w.heap.size A1 n1 l1)(hc1:n1≤c1)(hc1':c1≤9223372036854775807)(hp:PtsF w (·<w.heap.size) Ap np ps)(hz:(l1++Qdn ps).length≤549755813888)(hnp:np≤1048576) :
  Calls Tryz.prog 78 #[.slice A1 n1 c1,.slice Ap np cp] w (Qbi 5 (Qkq (l1++Qdn ps)) w):=by
 have R1:=hid (And.intro h1 (And.intro hc1 hc1'));have HP:=hid hp;have HZ:=hid hz;have OW:Hid ((w.alloc (zo9 A1 n1 c1)).ownsRow w.heap.size 29 1 (.slice (some ⟨w.heap.size,0,none⟩) 1 1) 1 [.slice A1 n1 c1]) :=
  ⟨rfl,.inr ⟨w.heap.size,1,_,rfl,Nat.le_refl _,heap_alloc_new w _,Nat.le_refl _,by decide,rfl,rfl⟩⟩
 have BA:Hid (Below w.heap.size w (w.alloc (zo9 A1 n1 c1))):=(Below.refl _ w).alloc zr _;have PL:Hid ((ps.map ptV).length=np):=by show _=_;rw[List.length_map];exact HP.out.1
 have PO:Hid (∀ u∈ps.map ptV,u.oneCell'=true):=by intro u hu;obtain⟨p,_,rfl⟩:=List.mem_map.1 hu;rfl
 have PC:Hid (0<np→∃ b o,Ap=some ⟨b,o,none⟩∧∀ j u,(ps.map ptV)[j]?=some u→(w.alloc (zo9 A1 n1 c1)).cell? ⟨b,o+j,none⟩=some u):=by
  intro h0;obtain⟨b,o,e,hb,hcc⟩:=HP.out.2.1 h0;refine⟨b,o,e,fun j u hu=>?_⟩;rw[List.getElem?_map] at hu
  obtain⟨p,hp,rfl⟩:=Option.map_eq_some_iff.1 hu;rw[BA.out.cell (p:=⟨b,o+j,none⟩) hb]
  exact hcc j p hp
 clear h1 hc1 hc1' hp hz;go_enter Tryz.func78,Tryz.ntmps78;go_wp2_with (first
  | (at_builtin;refine Qnt rfl (.tmp 6) (.tmp 7) 33 rfl w.heap.size 29 Tryz.underlying33 Q0u _ 1 [.slice A1 n1 c1] rfl OW.out Ap np cp (ps.map ptV) rfl PL.out PO.out PC.out (by omega) (Qaa _ _) ?_;intro v2 w2 ho2 hb2;have O2:=hid ho2;have B2:=hid (BA.out.trans hb2);clear ho2 hb2)
  | fail)
 obtain⟨A2,c2,rfl,hp2⟩:=Qxp (ps:=⟨A1,n1,c1,l1⟩::ps) O2.out (by
  intro p hp;rcases List.mem_cons.1 hp with rfl|hp
  ·
   exact⟨((R1.out.1.below B2.out).more B2.out.size).rdF (fun b hb=>hb),R1.out.2⟩
  ·
   obtain⟨h1,h2⟩:=HP.out.2.2 p hp;exact⟨(h1.keep (fun b hb=>B2.out.block b hb)).imp (fun b hb=>Nat.lt_of_lt_of_le hb B2.out.size),h2⟩)
 have P2:=hid hp2;clear hp2;have CE:Hid (Qdn (⟨A1,n1,c1,l1⟩::ps)=l1++Qdn ps):=by show _=_;simp[Qdn]
 refine(Qqu A2 (1+np) c2 _ w2 P2.out (by rw[CE.out];exact HZ.out) (by omega)).mono ?_;rintro e w4 ⟨v4,rfl,ho4,hb4⟩;rw[CE.out] at ho4
 have O4:=hid (ho4.low B2.out.size);have B4:=hid (B2.out.trans (hb4.mono B2.out.size));clear ho4 hb4;go_wp2_with fail;go_ret;exact⟨_,rfl,O4.out,B4.out⟩
theorem Qqt(A:OA)(n c:Nat)(k:LB)(Ap:OA)(np cp:Nat)(ps:List Pt)(w:World)(h:Rd w w.heap.size A n k)(hnc:n≤c)(hc:c≤9223372036854775807)(hn:n≤274877906944)(hp:PtsF w (·<w.heap.size) Ap np ps)(hz:(Qdn ps).length≤274877906944)(hnp:np≤1048576) :
  Calls Tryz.prog 43 #[.slice A n c,.slice Ap np cp] w (Qbi 5 (Qha k (Qdn ps)) w):=by
 have HP:=hid hp;have HZ:=hid hz;have C1:=hid (Qyw A n c _ k w h zr hnc hc hn);have CM:=hid (fun (W:World) (A1:OA) (c1:Nat) (hR:Rd W W.heap.size A1 64 (Qf1 k)) (h1:64≤c1) (h2:c1≤9223372036854775807)=>(show Calls Tryz.prog 79 #[.slice A1 64 c1,.int .u8 54] W _ from Qi4 A1 64 c1 (Qf1 k) 0x36 W hR (by decide) h1 h2 (by decide)));have CN:=hid (fun (W:World) (A1:OA) (c1:Nat) (hR:Rd W W.heap.size A1 64 (Qf1 k)) (h1:64≤c1) (h2:c1≤9223372036854775807)=>(show Calls Tryz.prog 79 #[.slice A1 64 c1,.int .u8 92] W _ from Qi4 A1 64 c1 (Qf1 k) 0x5c W hR (by decide) h1 h2 (by decide)))
 have XL:=hid (fun x:UInt8=>show(Qfb (Qf1 k) x).length=64 by rw[Qcj,Qcn]);have KLL:=hid (Qcn k);clear h hp hz;go_enter Tryz.func43,Tryz.ntmps43;go_wp2_with fail;refine C1.out.mono ?_;rintro e w1 ⟨v1,rfl,ho1,hb1⟩;obtain⟨A1,c1,rfl,hc1,hm1,hr1⟩:=Ob.rd_n ho1 KLL.out;have R1:=hid (And.intro hr1 (And.intro hc1 (show c1≤9223372036854775807 by unfold maxLen at hm1;omega)));have B1:=hid hb1;clear ho1 hb1 hr1 hc1 hm1;go_wp2_with fail;refine(CM.out w1 A1 c1 R1.out.1 R1.out.2.1 R1.out.2.2).mono ?_;rintro e w2 ⟨v2,rfl,ho2,hb2⟩;obtain⟨A2,c2,rfl,hc2,hm2,hr2⟩:=Ob.rd_n ho2 (XL.out _)
 have R2:=hid (And.intro hr2 (And.intro hc2 (show c2≤9223372036854775807 by unfold maxLen at hm2;omega)));have R12:=hid ((R1.out.1.below hb2).more hb2.size);have B2:=hid (B1.out.trans (hb2.mono B1.out.size));have P2:=hid ((HP.out.keep (fun b hb=>B2.out.block b hb)).imp (fun b hb=>Nat.lt_of_lt_of_le hb B2.out.size));clear ho2 hb2 hr2 hc2 hm2;go_wp2_with fail;refine(Qe9 A2 64 c2 _ Ap np cp ps w2 R2.out.1 R2.out.2.1 R2.out.2.2 P2.out (by rw[List.length_append,XL.out];have:=HZ.out;omega) hnp).mono ?_;rintro e w3 ⟨v3,rfl,ho3,hb3⟩;obtain⟨A3,c3,rfl,hc3,hm3,hr3⟩:=Ob.rd_n ho3 (Qcg _)
 have R3:=hid (And.intro hr3 (And.intro hc3 (show c3≤9223372036854775807 by unfold maxLen at hm3;omega)));have R13:=hid ((R12.out.below hb3).more hb3.size);have B3:=hid (B2.out.trans (hb3.mono B2.out.size));clear ho3 hb3 hr3 hc3 hm3;go_wp2_with fail;refine(CN.out w3 A1 c1 R13.out R1.out.2.1 R1.out.2.2).mono ?_;rintro e w4 ⟨v4,rfl,ho4,hb4⟩;obtain⟨A4,c4,rfl,hc4,hm4,hr4⟩:=Ob.rd_n ho4 (XL.out _);have R4:=hid (And.intro hr4 (And.intro hc4 (show c4≤9223372036854775807 by unfold maxLen at hm4;omega)));have R34:=hid ((R3.out.1.below hb4).more hb4.size);have B4:=hid (B3.out.trans (hb4.mono B3.out.size))
 clear ho4 hb4 hr4 hc4 hm4;have CE:Hid (Qdn [⟨A3,32,c3,Qkq (Qfb (Qf1 k) 54++Qdn ps)⟩]=Qkq (Qfb (Qf1 k) 54++Qdn ps)):=Qd8 _;have C5:=hid (Qe9 A4 64 c4 _ (some ⟨w4.heap.size,0,none⟩) 1 1 [⟨A3,32,c3,Qkq (Qfb (Qf1 k) 54++Qdn ps)⟩] (w4.alloc (zo9 A3 32 c3)) ((R4.out.1.alloc zr _).more (Qaa _ _)) R4.out.2.1 R4.out.2.2
  (Qky w4 29 [⟨A3,32,c3,Qkq (Qfb (Qf1 k) 54++Qdn ps)⟩] #[.slice A3 32 c3] rfl 1 rfl (fun p hp=>by rw[List.mem_singleton.1 hp];exact⟨R34.out,R3.out.2⟩)) (by rw[CE.out,List.length_append,XL.out,Qcg];decide) (by decide))
 rw[CE.out] at C5
 go_wp2_with fail;refine C5.out.mono ?_;rintro e w5 ⟨v5,rfl,ho5,hb5⟩;have O5:=hid (ho5.low (Nat.le_trans B4.out.size (Qaa _ _)));have B5:=hid ((B4.out.alloc B4.out.size _).trans (hb5.mono (Nat.le_trans B4.out.size (Qaa _ _))));clear ho5 hb5;go_wp2_with fail;go_ret;exact⟨_,rfl,O5.out,B5.out⟩
theorem Qi8(B:Nat)(w:World):Below B w w.drew:=Below.drew (Below.refl B w)
theorem Qk7:(Tryz.prog.info? 154).map (·.size)=some 32:=by kernel_rfl
theorem Q4i(l l':LB)(h:l.length=32)(h':l'.length=32)(W:World):(Op.equalIn 10000 154 (.agg (l.map bv).toArray) (.agg (l'.map bv).toArray)).run Tryz.prog W=.ok (l==l') W:=by
 obtain⟨i,hi,_⟩:=Option.map_eq_some_iff.1 Qak;exact Qxa (P:=Tryz.prog) W 9998 Tryz.underlying154 hi (by kernel_rfl) Tryz.underlying5 l l' h h'
theorem Qqj{P:Program}{o:Oper}{a:Act}{w:World}(ty:TypeId)(x:Operand)(ho:o.op=.load ty x)(ad:Addr)(hx:a.eval x=.pointer (some ad))(v:Value)(hv:(loadVar ty ad).run P w=.ok v w):(execOp a.eval o).run P w=.ok (.value v) w:=by
 unfold execOp;simp only[ho,hx,Instr.loadAt,Instr.sureAddr,Sem.run_bind,Sem.run_pure,Result.andThen_ok,hv]
theorem Q1p{P:Program}{o:Oper}{a:Act}{w:World}{K:Act→World→Prop}{Q:Exit→Act→World→Prop}(ty:TypeId)(x:Operand)(ho:o.op=.load ty x)(ad:Addr)(hx:a.eval x=.pointer (some ad))(v:Value)(hv:(loadVar ty ad).run P w=.ok v w)(h:K (a.put o.dst v) w):Oper.wp P o a w K Q:=by
 unfold Oper.wp;rw[Qqj ty x ho ad hx v hv]
 exact h
theorem Qpb(A:OA)(n c:Nat)(k:LB)(At:OA)(nt ct:Nat)(tg:LB)(Ap:OA)(np cp:Nat)(ps:List Pt)(w:World)(h:Rd w w.heap.size A n k)(hnc:n≤c)(hc:c≤9223372036854775807)(hn:n≤274877906944)(ht:Rd w w.heap.size At nt tg)(hp:PtsF w (·<w.heap.size) Ap np ps)(hz:(Qdn ps).length≤274877906944)(hnp:np≤1048576) :
  Calls Tryz.prog 52 #[.slice A n c,.slice At nt ct,.slice Ap np cp] w fun e w'=>e=.returned (.bool (tg==Qha k (Qdn ps)))∧Below w.heap.size w w':=by
 by_cases h32:nt=32
 ·
  subst h32;obtain⟨ad,rfl,-⟩:=Qn6 (P:=Tryz.prog) w Tryz.underlying154 Qk7 (by decide) ht;have HL1:Hid (∀ W,Below w.heap.size w W→(loadVar 154 ad).run Tryz.prog W=.ok (.agg (tg.map bv).toArray) W):=fun W hW=>by
   obtain⟨ad2,e,g⟩:=Qn6 (P:=Tryz.prog) W Tryz.underlying154 Qk7 (by decide) (ht.below hW);injection e with e;subst e;exact g
  have A1:∀ W,(Instr.arrayAt 154 (.slice (some ad) 32 ct)).run Tryz.prog W=.ok (.pointer (some ad)) W:=fun W=>by
   simp[Instr.arrayAt,run_underlying Tryz.underlying154]
  have E:=Q4i tg (Qha k (Qdn ps)) ht.1 (Qck k _);have TL:=hid (Qck k (Qdn ps));have C1:=hid (Qqt A n c k Ap np cp ps w.drew h hnc hc hn hp hz hnp);clear h ht hp hz;have HY:Hid (∀ (W:World) (B:Nat) (A':OA),Rd W B A' 32 (Qha k (Qdn ps))→∃ ad',A'=some ad'∧(loadVar 154 ad').run Tryz.prog W=.ok (.agg ((Qha k (Qdn ps)).map bv).toArray) W):=fun W B A' hr=>Qn6 (P:=Tryz.prog) W Tryz.underlying154 Qk7 (by decide) hr
  obtain⟨Y,hY⟩:∃ Y,Y=((Qha k (Qdn ps)).map bv).toArray:=⟨_,rfl⟩
  rw[← hY] at E HY
  clear hY;generalize (tg.map bv).toArray=X at *;generalize (tg==Qha k (Qdn ps))=b at *;go_enter Tryz.func52,Tryz.ntmps52;go_wp2_with fail;refine wp_region_held_drew (S:=fun W=>(loadVar 154 ad).run Tryz.prog W=.ok (.agg X) W) (by kernel_rfl) (HL1.out _ (Qi8 _ _)) (fun hHeld=>?_);refine Qci (i:=0) (v:=?v0) rfl (by kernel_rfl) (by kernel_rfl) (by kernel_rfl) (fun _ _ _ h=>h) (by rfl) ?hy0 (by assumption) ?rest0
  case hy0=>(intro w hSw;go_simp;try with_reducible rfl)
  try simp only[zs]
  refine Qci (i:=1) (v:=?v1) rfl (by kernel_rfl) (by kernel_rfl) (by kernel_rfl) (fun _ _ _ h=>h) (by rfl) ?hy1 (by assumption) ?rest1
  case hy1=>(intro w hSw;go_simp;try with_reducible rfl)
  try simp only[zs]
  refine Qci (i:=2) (v:=.agg X) rfl (by kernel_rfl) (by kernel_rfl) (by kernel_rfl) (fun _ _ _ h=>h) (by rfl) (fun W hW=>Qqj 154 (.tmp 11) rfl ad rfl _ hW) (by assumption) ?rest2;try simp only[zs]
  refine Qci (i:=3) (v:=?v3) rfl (by kernel_rfl) (by kernel_rfl) (by kernel_rfl) (fun _ _ _ h=>h) (by rfl) ?hy3 (by assumption) ?rest3
  case hy3=>(intro w hSw;go_simp;try with_reducible rfl)
  try simp only[zs]
  refine Qci (i:=4) (v:=?v4) rfl (by kernel_rfl) (by kernel_rfl) (by kernel_rfl) (fun _ _ _ h=>h) (by rfl) ?hy4 (by assumption) ?rest4
  case hy4=>(intro w hSw;go_simp;try with_reducible rfl)
  try simp only[zs]
  refine wpAnyH_ready (rs:=[5]) (by kernel_rfl) (by simp) ?_;refine AllReadyH.cons rfl (fun K hK=>?_) AllReadyH.nil;go_simp
  refine C1.out.mono ?_;rintro e w1 ⟨v1,rfl,ho1,hb1⟩;obtain⟨A1',c1,rfl,-,-,hr1⟩:=Ob.rd_n ho1 TL.out;obtain⟨ad',rfl,hl2⟩:=HY.out _ _ _ hr1;have HL2:=hid hl2;have A2:∀ W,(Instr.arrayAt 154 (.slice (some ad') 32 c1)).run Tryz.prog W=.ok (.pointer (some ad')) W:=fun W=>by
   simp[Instr.arrayAt,run_underlying Tryz.underlying154]
  have B1:Hid (Below w.heap.size w w1):=(Qi8 _ w).trans hb1;clear ho1 hb1 hr1 hl2;go_simp
  refine hK.out _ _ (HL1.out _ B1.out) (fun hHeld=>?_);try simp only[zs]
  clear hK K;refine Qci (i:=6) (v:=?v6) rfl (by kernel_rfl) (by kernel_rfl) (by kernel_rfl) (fun _ _ _ h=>h) (by rfl) ?hy6 (by assumption) ?rest6
  case hy6=>(intro w hSw;go_simp;try with_reducible rfl)
  try simp only[zs]
  refine wpAnyH_ready (rs:=[7]) (by kernel_rfl) (by simp) ?_;refine AllReadyH.cons rfl (fun K hK=>?_) AllReadyH.nil;rw[if_pos (by rfl)]
  refine Q1p 154 (.tmp 16) rfl ad' rfl (.agg Y) HL2.out ?_;go_simp
  refine hK.out _ _ (HL1.out _ B1.out) (fun hHeld=>?_);try simp only[zs]
  clear hK K;refine Qci (i:=8) (v:=?v8) rfl (by kernel_rfl) (by kernel_rfl) (by kernel_rfl) (fun _ _ _ h=>h) (by rfl) ?hy8 (by assumption) ?rest8
  case hy8=>(intro w hSw;go_simp;try with_reducible rfl)
  try simp only[zs]
  refine Qci (i:=9) (v:=?v9) rfl (by kernel_rfl) (by kernel_rfl) (by kernel_rfl) (fun _ _ _ h=>h) (by rfl) ?hy9 (by assumption) ?rest9
  case hy9=>(intro w hSw;go_simp;try with_reducible rfl)
  try simp only[zs]
  refine wpAnyH_done (by kernel_rfl) ?_ _;go_wp2_with fail;go_ret;exact⟨rfl,B1.out⟩
 ·
  have e1:((nt:Int) != 32)=true:=by simp;omega
  have HF:=hid (show(tg==Qha k (Qdn ps))=false from beq_eq_false_iff_ne.2 (fun e=>h32 (by have:=congrArg List.length e;rw[ht.1,Qck] at this;exact this)));clear h ht hp hz h32;go_enter Tryz.func52,Tryz.ntmps52;go_wp2_with fail;go_ret;exact⟨(show Ending.returned _=Ending.returned _ by rw[HF.out];rfl),Below.refl _ _⟩
theorem Qjx(h:BH)(l:List Blk)(A:OA)(n c B q:Nat)(w:World)(hr:RdL w B A n l)(hB:B≤w.heap.size) :
  Calls Tryz.prog 7 #[Qbl h A n c,.int .u64 (q:Int)] w fun e w'=>e=.returned (.int .i64 (plc (Qbu q) l 0))∧Below w.heap.size w w':=by
 obtain⟨R,hR⟩:∃ R,R=plc (Qbu q) l 0:=⟨_,rfl⟩
 rw[← hR]
 have HRR:Hid (plc (Qbu q) (l.drop 0) 0=R):=hR.symm;have HB0:=hid ((Below.refl w.heap.size w).alloc zr (hbx h h.crc A n c));have x17:(w.alloc (hbx h h.crc A n c)).cell? ⟨w.heap.size,17,none⟩=some (.slice A n c):=Qab (Qad (w:=w) rfl (Below.refl _ _)) 17 rfl;have HR:=hid (hr.below (HB0.out.mono hB));have hn47:=hr.2.2;clear hr hB hR;unfold Qbl;go_enter Tryz.func7,Tryz.ntmps7;go_wp2_with fail;generalize w.alloc (hbx h h.crc A n c)=W0 at *;go_loop [5] (fun v=>∃ i:Nat,i≤n∧v=.int .i64 (i:Int)∧Hid (plc (Qbu q) (l.drop i) i=R)) (fun v=>n - (intOf v).toNat)
 case atStart=>exact⟨0,Nat.zero_le _,rfl,HRR⟩
 case round =>
  obtain⟨i,hi,rfl,HP⟩:=hrel;by_cases hlt:i<n
  ·
   have hii:decide ((i:Int)<(n:Int))=true:=decide_eq_true (by omega);have hi1:(i:Int)<(n:Int):=by omega
   have hil:i<l.length:=by rw[HR.out.1];exact hlt
   have hp:=Qt6 (Qbu q) l i hil;rw[HP.out] at hp
   obtain⟨b,o,rfl,hbB,hks⟩:=HR.out.2.1 (by omega);obtain⟨A1,nd,cd,hk⟩:=hks.get i hil;have g1:=hk.k1;generalize l[i]=x at *;clear hk hks hbB;by_cases hq:x.num=q
   ·
    have hz:R=(i:Int):=by rw[hp,if_pos (by unfold Qbu;simp[hq])]
    subst hz;subst hq;clear hp;go_wp2_with fail;go_ret;exact⟨rfl,HB0.out⟩
   ·
    have hqq:((x.num:Int)==(q:Int))=false:=by rw[beq_eq_false_iff_ne];omega
    have HP2:Hid (plc (Qbu q) (l.drop (i+1)) (i+1)=R):=by show _=_;rw[hp,if_neg (by unfold Qbu;simp[hq])]
    clear hp;go_wp2_with fail;go_round
    case rel=>exact⟨i+1,by omega,by go_num,HP2⟩
    case measure=>simp[intOf];omega
  ·
   obtain rfl:i=n:=by omega
   have hii:decide ((i:Int)<(i:Int))=false:=decide_eq_false (by omega);have hz:R = -1:=by
    rw[← HP.out,List.drop_of_length_le (by rw[HR.out.1];exact Nat.le_refl _)]
    rfl
   subst hz;go_wp2_with fail;go_ret;exact⟨rfl,HB0.out⟩
end Go.Proofs.YtbnfkjkoinbkgaaGreatDoor
