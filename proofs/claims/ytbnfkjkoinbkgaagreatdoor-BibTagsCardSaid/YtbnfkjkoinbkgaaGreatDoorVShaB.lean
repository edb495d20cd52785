import Derived.Test.YtbnfkjkoinbkgaaGreatDoorVAbb
import Derived.Test.YtbnfkjkoinbkgaaGreatDoorVNumB
import Derived.Test.YtbnfkjkoinbkgaaGreatDoorVNumG
import Derived.Test.YtbnfkjkoinbkgaaGreatDoorVSame
import Derived.Deep.WholeRow
import Derived.Laws.ResultCell
import Derived.Laws.Tables
import Derived.Great.BuildSlice
namespace Go.Proofs.YtbnfkjkoinbkgaaGreatDoor
set_option maxRecDepth 100000
set_option maxHeartbeats 16000000
open Go.RowKit
def rr(x:BitVec 32)(n:Nat):BitVec 32:=(x >>> n) ||| (x <<< (32 - n))
def tS(x:BitVec 32)(a b c:Nat):BitVec 32:=rr x a ^^^ rr x b ^^^ rr x c
def tT(x:BitVec 32)(a b c:Nat):BitVec 32:=rr x a ^^^ rr x b ^^^ (x >>> c)
structure St where
 a:BitVec 32
 b:BitVec 32
 c:BitVec 32
 d:BitVec 32
 e:BitVec 32
 f:BitVec 32
 g:BitVec 32
 h:BitVec 32
def St.list(s:St):List (BitVec 32):=[s.a,s.b,s.c,s.d,s.e,s.f,s.g,s.h]
def St.t1(s:St)(k w:BitVec 32):BitVec 32:=s.h+tS s.e 6 11 25+((s.e &&& s.f) ^^^ (~~~ s.e &&& s.g))+k+w
def St.t2(s:St):BitVec 32:=tS s.a 2 13 22+((s.a &&& s.b) ^^^ (s.a &&& s.c) ^^^ (s.b &&& s.c))
def St.rnd(s:St)(k w:BitVec 32):St:=⟨s.t1 k w+s.t2,s.a,s.b,s.c,s.d+s.t1 k w,s.e,s.f,s.g⟩
def St.add(s t:St):St:=⟨s.a+t.a,s.b+t.b,s.c+t.c,s.d+t.d,s.e+t.e,s.f+t.f,s.g+t.g,s.h+t.h⟩
def kL:List (BitVec 32):=[0x428a2f98#32,0x71374491#32,0xb5c0fbcf#32,0xe9b5dba5#32,0x3956c25b#32,0x59f111f1#32,0x923f82a4#32,0xab1c5ed5#32,
 0xd807aa98#32,0x12835b01#32,0x243185be#32,0x550c7dc3#32,0x72be5d74#32,0x80deb1fe#32,0x9bdc06a7#32,0xc19bf174#32,
 0xe49b69c1#32,0xefbe4786#32,0x0fc19dc6#32,0x240ca1cc#32,0x2de92c6f#32,0x4a7484aa#32,0x5cb0a9dc#32,0x76f988da#32,
 0x983e5152#32,0xa831c66d#32,0xb00327c8#32,0xbf597fc7#32,0xc6e00bf3#32,0xd5a79147#32,0x06ca6351#32,0x14292967#32,
 0x27b70a85#32,0x2e1b2138#32,0x4d2c6dfc#32,0x53380d13#32,0x650a7354#32,0x766a0abb#32,0x81c2c92e#32,0x92722c85#32,
 0xa2bfe8a1#32,0xa81a664b#32,0xc24b8b70#32,0xc76c51a3#32,0xd192e819#32,0xd6990624#32,0xf40e3585#32,0x106aa070#32,
 0x19a4c116#32,0x1e376c08#32,0x2748774c#32,0x34b0bcb5#32,0x391c0cb3#32,0x4ed8aa4a#32,0x5b9cca4f#32,0x682e6ff3#32,
 0x748f82ee#32,0x78a5636f#32,0x84c87814#32,0x8cc70208#32,0x90befffa#32,0xa4506ceb#32,0xbef9a3f7#32,0xc67178f2#32]
def st0:St:=⟨0x6a09e667#32,0xbb67ae85#32,0x3c6ef372#32,0xa54ff53a#32,0x510e527f#32,0x9b05688c#32,0x1f83d9ab#32,0x5be0cd19#32⟩
def wnx(b:LB)(l:List (BitVec 32))(k:Nat):BitVec 32 :=
 if k<16 then BitVec.ofNat 32 (Qc3 ((b.drop (4*k)).take 4))
 else l.getD (k - 16) 0+tT (l.getD (k - 15) 0) 7 18 3+l.getD (k - 7) 0+tT (l.getD (k - 2) 0) 17 19 10
def wL(b:LB):Nat→List (BitVec 32)
 | 0=>[]
 | k+1=>wL b k++[wnx b (wL b k) k]
theorem Qbt(b:LB):∀ k,(wL b k).length=k
 | 0=>rfl
 | k+1=>by rw[wL,List.length_append,Qbt b k];rfl
def rN(s:St)(ws:List (BitVec 32)):Nat→St
 | 0=>s
 | k+1=>(rN s ws k).rnd (kL.getD k 0) (ws.getD k 0)
def nxt(s:St)(b:LB):St:=s.add (rN s (wL b 64) 64)
def Qkz(n:Nat):LB:=128::(List.replicate (63 - (n % 64+8) % 64) 0++be (8*n) 8)
def blks(s:St)(l:LB):Nat→St
 | 0=>s
 | k+1=>nxt (blks s l k) ((l.drop (64*k)).take 64)
def Qif(l:List (BitVec 32)):LB:=l.flatMap fun x=>be x.toNat 4
def Qkq(l:LB):LB:=Qif (blks st0 (l++Qkz l.length) ((l++Qkz l.length).length / 64)).list
theorem Qlf(s:St)(l x:LB):∀ k,64*k≤l.length→blks s (l++x) k=blks s l k
 | 0,_=>rfl
 | k+1,h=>by
  rw[blks,blks,Qlf s l x k (by omega),List.drop_append_of_le_length (by omega),List.take_append_of_le_length (by simp;omega)]
theorem Qid(n:Nat):(Qkz n).length=72 - (n % 64+8) % 64:=by
 simp[Qkz,Qa9];omega
def wv(x:BitVec 32):Value:=.int .u32 (x.toNat:Int)
def Rw(w:World)(B:Nat)(A:OA)(n:Nat)(l:List (BitVec 32)):Prop :=
 l.length=n∧(0<n→∃ b o,A=some ⟨b,o,none⟩∧b<B∧∀ i,i<n→w.cell? ⟨b,o+i,none⟩=some (.int .u32 ((l.getD i 0).toNat:Int)))
section
variable {w w':World}{B B' n b:Nat}{A:OA}{l:List (BitVec 32)}{t:TypeId}
theorem Rw.len(h:Rw w B A n l):l.length=n:=h.1
theorem Rw.keep(h:Rw w B A n l)(hk:∀ p:Addr,p.block<B→w'.cell? p=w.cell? p):Rw w' B A n l :=
 ⟨h.1,fun hn=>by
  obtain⟨b,o,e,hb,hc⟩:=h.2 hn;exact⟨b,o,e,hb,fun i hi=>(hk ⟨b,o+i,none⟩ hb).trans (hc i hi)⟩⟩
theorem Rw.more(h:Rw w B A n l)(hB:B≤B'):Rw w B' A n l :=
 ⟨h.1,fun hn=>by
  obtain⟨b,o,e,hb,hc⟩:=h.2 hn;exact⟨b,o,e,by omega,hc⟩⟩
theorem Rw.below(h:Rw w B A n l)(hb:Below B w w'):Rw w' B A n l:=h.keep fun _ hp=>hb.cell hp
theorem Rw.drew(h:Rw w B A n l):Rw w.drew B A n l:=h
theorem Rw.alloc(h:Rw w B A n l)(hB:B≤w.heap.size)(o:Obj):Rw (w.alloc o) B A n l:=h.keep fun p hp=>World.cell?_alloc_lt w o p (by omega)
theorem Rw.nil_:Rw w B A 0 []:=⟨rfl,fun h=>absurd h (by omega)⟩
end
theorem Rw.litm(w:World)(g:Nat)(hg:w.heap.size=g)(l:List (BitVec 32))(t:TypeId)(cs:Array Value)(fr:Nat×Nat)(hcs:cs=(l.map fun x=>Value.int .u32 (x.toNat:Int)).toArray)(n:Nat)(hn:l.length=n):Rw (w.alloc (.cells cs t fr)) (g+1) (some ⟨g,0,none⟩) n l:=by
 subst hcs hg;refine⟨hn,fun _=>⟨_,0,rfl,by omega,fun i hi=>?_⟩⟩;have hi':i<l.length:=by omega
 rw[Nat.zero_add,World.cell?_alloc_mark]
 simp[List.getD,hi']
theorem Rw.lit(w:World)(g:Nat)(hg:w.heap.size=g)(l:List (BitVec 32))(t:TypeId)(cs:Array Value)(hcs:cs=(l.map fun x=>Value.int .u32 (x.toNat:Int)).toArray)(n:Nat)(hn:l.length=n):Rw (w.alloc (.cells cs t)) (g+1) (some ⟨g,0,none⟩) n l :=
 Rw.litm w g hg l t cs _ hcs n hn
theorem Q1q{n:Int}(h:(Lit.int .u32 n).wf=true):0≤n∧n<4294967296:=by
 simp[Lit.wf,IntKind.min,IntKind.max,IntKind.signed,IntKind.bits] at h;omega
theorem Rw.of_ints{w:World}{x:Addr}{n c:Nat}{zs:List Int}(hn:n≤c)(hz:zs.length=c)(hcell:∀ i,i<zs.length→w.cell? (x.add i)=some (.int .u32 (zs.getD i 0)))(hw:∀ z∈zs,(Lit.int .u32 z).wf=true) :
  Rw w w.heap.size (some x) n ((zs.take n).map fun z=>BitVec.ofNat 32 z.toNat):=by
 refine⟨by simp;omega,fun h0=>?_⟩;obtain⟨b,off,spot⟩:=x;have hc:=hcell 0 (by omega);have hspot:spot=none:=by simpa [Addr.add] using World.cell?_spot hc
 subst hspot;refine⟨b,off,rfl,?_,fun i hi=>?_⟩
 ·
  have h:=World.block_lt_of_cell? w _ hc;simpa [Addr.add] using h
 ·
  have hi':i<zs.length:=by omega
  have h:=hcell i hi';have e:(⟨b,off,none⟩:Addr).add i=⟨b,off+i,none⟩:=by unfold Addr.add;split <;> simp_all
  rw[e] at h
  rw[h]
  have hb:=Q1q (hw _ (List.getElem_mem hi'));have e2:((BitVec.ofNat 32 (zs[i]).toNat).toNat:Int)=zs[i]:=by
   rw[BitVec.toNat_ofNat];omega
  simp[List.getD,hi,hi'] at e2 ⊢;omega
theorem Q1n(l:List (BitVec 32)):∀ u∈l.map wv,u.oneCell'=true:=by
 intro u hu;obtain⟨x,_,rfl⟩:=List.mem_map.1 hu;rfl
def Ow(w:World)(base:Nat)(t:TypeId)(v:Value)(l:List (BitVec 32)):Prop:=w.ownsRow base t 1 v l.length (l.map wv)
section
variable {w w':World}{base:Nat}{t:TypeId}{v:Value}{l:List (BitVec 32)}
theorem Ow.nil_(w:World)(base:Nat)(t:TypeId):Ow w base t (.slice none 0 0) []:=World.ownsRow_nil w base t 1
theorem Ow.lit(w:World)(l:List (BitVec 32))(cs:Array Value)(hcs:cs=(l.map wv).toArray)(hb:base≤w.heap.size)(n:Nat)(hn:l.length=n)(hm:n≤maxLen):Ow (w.alloc (.cells cs t)) base t (.slice (some ⟨w.heap.size,0,none⟩) n n) l:=by
 subst hcs hn;have h:=World.ownsRow_lit (e:=t) (size:=1) w (l.map wv).toArray l.length hb hm (by simp);exact h
theorem Ow.alloc(h:Ow w base t v l)(o:Obj):Ow (w.alloc o) base t v l:=World.ownsRow.alloc h o
theorem Ow.drew(h:Ow w base t v l):Ow w.drew base t v l:=h
theorem Ow.kept{row:Option Nat}(h:Ow w base t v l)(hg:w.grownBy w' row)(hne:v.ownBlock=none∨v.ownBlock≠row):Ow w' base t v l:=World.ownsRow.kept h hg hne
theorem Ow.below(h:Ow w base t v l)(hb:Below w.heap.size w w'):Ow w' base t v l :=
 World.ownsRow.kept h (row:=none) ⟨hb.os,hb.tape,hb.output,hb.size,fun k hk _=>hb.block k hk⟩ (by cases v.ownBlock <;> simp)
theorem Ow.rd(h:Ow w base t v l):∃ (A:OA) (c:Nat),v=.slice A l.length c∧l.length≤c∧c≤maxLen∧Rw w w.heap.size A l.length l:=by
 rcases h.2 with ⟨hv,h0⟩|⟨g,cap,cur,hv,_,hg,hn,hm,_⟩
 ·
  have e:l=[]:=List.eq_nil_of_length_eq_zero h0;subst e;exact⟨none,0,hv,Nat.le_refl _,by decide,Rw.nil_⟩
 ·
  refine⟨some ⟨g,0,none⟩,cap,hv,hn,hm,rfl,fun h0=>⟨g,0,rfl,?_,fun i hi=>?_⟩⟩
  ·
   have hb:v.ownBlock=some g:=by rw[hv];rfl
   exact(World.ownsRow.lt h g hb).2
  ·
   have hc:=World.ownsRow.cells h (g:=g) (by rw[hv];rfl) i (wv l[i]) (by simp[hi]);simp only[List.getD,List.getElem?_eq_getElem hi];unfold Addr.add at hc;by_cases h0:i=0
   ·
    subst h0;simpa [wv] using hc
   ·
    rw[if_neg h0] at hc;simpa [wv] using hc
end
section
variable {w w':World}{base:Nat}{t:TypeId}{v:Value}{l:List (BitVec 32)}
theorem Ow.form(h:Ow w base t v l)(h0:0<l.length):∃ g cap,v=.slice (some ⟨g,0,none⟩) l.length cap∧base≤g∧g<w.heap.size∧l.length≤cap:=by
 rcases h.2 with ⟨_,hn⟩|⟨g,cap,cur,hv,hbg,_,hn,_⟩
 ·
  omega
 ·
  exact⟨g,cap,hv,hbg,(World.ownsRow.lt h g (by rw[hv];rfl)).2,hn⟩
theorem Ow.rd_{A:OA}{n cap:Nat}(h:Ow w base t (.slice A n cap) l):l.length=n∧Rw w w.heap.size A n l∧n≤cap∧cap≤maxLen:=by
 obtain⟨A2,c2,hv,hc,hm,hr⟩:=h.rd;injection hv with h1 h2 h3
 subst h1 h2 h3;exact⟨rfl,hr,hc,hm⟩
variable {g cap n:Nat}
theorem Ow.cell(h:Ow w base t (.slice (some ⟨g,0,none⟩) n cap) l)(hn:l.length=n){j:Nat}(hj:j<n):w.cell? ⟨g,j,none⟩=some (.int .u32 ((l.getD j 0).toNat:Int)):=by
 subst hn;have:=World.ownsRow.cellAt h j (by omega)
 rw[this]
 simp[List.getD,hj,wv]
theorem Ow.frozen(h:Ow w base t (.slice (some ⟨g,0,none⟩) n cap) l)(hn:l.length=n)(j:Nat):w.frozen? ⟨g,j,none⟩=false:=by
 subst hn;exact World.ownsRow.frozenAt h j
theorem Ow.stored(h:Ow w base t (.slice (some ⟨g,0,none⟩) n cap) l)(hn:l.length=n)(j:Nat)(x:BitVec 32){u:Value}(hu:u=.int .u32 (x.toNat:Int)):Ow (w.setCell ⟨g,j,none⟩ u) base t (.slice (some ⟨g,0,none⟩) n cap) (l.set j x):=by
 subst hn hu;have:=World.ownsRow.stored h j (wv x)
 unfold Ow;rw[List.length_set,List.map_set]
 exact this.1
end
section
variable {P:Program}(w:World)
theorem Qks(base:Nat)(t ty e:TypeId)(i:TypeInfo)(ht:P.underlying t=some (.slice e))(hi:P.info? e=some i)(v:Value)(l:List (BitVec 32))(hown:Ow w base e v l)(c:Nat) :
  (Builtin.append_ #[t,t] ty #[v,.slice none 0 c]).run P w=.ok v w:=by
 rcases hown.2 with ⟨rfl,hn⟩|⟨g,cap,cur,rfl,_,_,hnc,_⟩
 ·
  simp[Builtin.append_,run_underlying ht,sizeOf,typeInfo,hi,Builtin.lenOf,Builtin.firstCells]
 ·
  simp[Builtin.append_,run_underlying ht,sizeOf,typeInfo,hi,Builtin.lenOf,Builtin.firstCells,hnc,storeCells]
theorem Qpp(base:Nat)(t ty e:TypeId)(ht:P.underlying t=some (.slice e))(hinfo:(P.info? e).map (fun i=>(i.zero,i.size,i.bytes))=some (some (.int .u32 0),1,4))
  (v:Value) (l:List (BitVec 32)) (hown:Ow w base e v l) (B:Nat) (A:OA) (m c:Nat) (news:List (BitVec 32)) (hr:Rw w B A m news) (hbound:l.length+m≤35184372088832) (hbase:base≤w.heap.size) :
  ∃ v' w',(Builtin.append_ #[t,t] ty #[v,.slice A m c]).run P w=.ok v' w'∧Ow w' base e v' (l++news)∧w.grownBy w' v.ownBlock∧(v'.ownBlock=v.ownBlock∨v'.ownBlock=some w.heap.size):=by
 obtain⟨i,hi,hzz⟩:=Option.map_eq_some_iff.1 hinfo;simp only[Prod.mk.injEq] at hzz;obtain⟨hz,hs,hb⟩:=hzz;have hlen:=hr.1;rcases A with _|ad
 ·
  have h0:m=0:=by
   rcases Nat.eq_zero_or_pos m with h|h
   ·
    exact h
   ·
    obtain⟨_,_,h',_⟩:=hr.2 h;cases h'
  subst h0;have hn:news=[]:=List.eq_nil_of_length_eq_zero hlen;subst hn;exact⟨v,w,Qks w base t ty e i ht hi v l hown c,by simpa using hown,World.grownBy.refl w _,.inl rfl⟩
 ·
  have hcells:∀ j u,(news.map wv)[j]?=some u→w.cell? (ad.add j)=some u:=by
   intro j u hu;rcases Nat.eq_zero_or_pos m with h0|h0
   ·
    have hn:news=[]:=List.eq_nil_of_length_eq_zero (by omega);subst hn;simp at hu
   ·
    obtain⟨b,o,e1,_,hc⟩:=hr.2 h0;injection e1 with e1
    subst e1;have hj:j<news.length:=by
     rcases Nat.lt_or_ge j news.length with h|h
     ·
      exact h
     ·
      rw[List.getElem?_eq_none (by simpa using h)] at hu;cases hu
    have h:=hc j (by omega);have ea:(⟨b,o,none⟩:Addr).add j=⟨b,o+j,none⟩:=by unfold Addr.add;split <;> simp_all
    rw[ea,h,← hu]
    simp[List.getD,hj,wv]
  obtain⟨v',w',hrun,h2,h3,_,h5⟩:=run_append_own_at (P:=P) w base t ty e i (.int .u32 0) 1 4 ht hi hz hs hb rfl (by decide) v l.length (l.map wv) hown ad m c (news.map wv) (by simp[hlen]) hcells (Q1n news)
   (by unfold maxLen;omega) (by omega) hbase
  refine⟨v',w',hrun,?_,h3,h5⟩;unfold Ow;rw[List.length_append,hlen,List.map_append]
  exact h2
theorem Qns{w:World}{ops:Array Oper}{rest:List Oper}{o:Oper}{a:Act}{Q:Exit→Act→World→Prop}(hgd:o.guard=none)(s x:Operand)(t:TypeId)
  (ho:o.op=.call { callee:=.builtin .append,args:=#[s,x],argTypes:=#[t,t] })
  (base:Nat) (e:TypeId) (ht:P.underlying t=some (.slice e)) (hinfo:(P.info? e).map (fun i=>(i.zero,i.size,i.bytes))=some (some (.int .u32 0),1,4))
  (v:Value) (l:List (BitVec 32)) (hs:a.eval s=v) (hown:Ow w base e v l) (B:Nat) (A:OA) (m c:Nat) (news:List (BitVec 32)) (hx:a.eval x=.slice A m c) (hr:Rw w B A m news)
  (hbound:l.length+m≤35184372088832) (hbase:base≤w.heap.size)
  (h:∀ v' w',Ow w' base e v' (l++news)→w.grownBy w' v.ownBlock→(v'.ownBlock=v.ownBlock∨v'.ownBlock=some w.heap.size)→wpList P ops Q rest (a.put o.dst v') w'):wpList P ops Q (o::rest) a w:=by
 refine wpList_plain hgd fun K hK=>?_
 obtain⟨v',w',hrun,h2,h3,h4⟩:=Qpp (P:=P) w base t o.type e ht hinfo v l hown B A m c news hr hbound hbase;unfold Oper.wp execOp;simp only[ho,resolve,invoke,builtin,Sem.run_bind,Sem.run_pure,Result.andThen_ok,List.map_toArray,List.map_cons,List.map_nil,hs,hx,hrun];exact hK _ _ (h v' w' h2 h3 h4)
theorem Qgu{w:World}{ops:Array Oper}{rest:List Oper}{o:Oper}{a:Act}{Q:Exit→Act→World→Prop}(hgd:o.guard=none)(s x:Operand)(t:TypeId)
  (ho:o.op=.call { callee:=.builtin .append,args:=#[s,x],argTypes:=#[t,t] })
  (base:Nat) (e:TypeId) (ht:P.underlying t=some (.slice e)) (hinfo:(P.info? e).map (fun i=>(i.zero,i.size,i.bytes))=some (some (.int .u32 0),1,4))
  (v:Value) (l:List (BitVec 32)) (hs:a.eval s=v) (hown:Ow w base e v l) (B:Nat) (A:OA) (m c:Nat) (news:List (BitVec 32)) (hx:a.eval x=.slice A m c) (hr:Rw w B A m news)
  (hbound:l.length+m≤35184372088832) (hbase:base≤w.heap.size)
  (h:∀ v' w',Ow w' base e v' (l++news)→Below base w w'→wpList P ops Q rest (a.put o.dst v') w'):wpList P ops Q (o::rest) a w :=
 Qns hgd s x t ho base e ht hinfo v l hs hown B A m c news hx hr hbound hbase fun v' w' h1 h2 _ =>
  h v' w' h1 ⟨h2.os,h2.tape,h2.output,h2.size,fun k hk=>h2.block k (by omega) (fun e=>by have:=(World.ownsRow.lt hown k e.symm).1;omega)⟩
end
theorem Qfm(a b:BitVec 32):bits BinOp.xor .u32 (a.toNat:Int) (b.toNat:Int)=((a ^^^ b).toNat:Int):=by
 rw[u32_xor_nat _ _ a.isLt b.isLt,BitVec.toNat_xor]
theorem Qy3(a b:BitVec 32):bits BinOp.and .u32 (a.toNat:Int) (b.toNat:Int)=((a &&& b).toNat:Int):=by
 rw[u32_and_nat _ _ a.isLt b.isLt,BitVec.toNat_and]
theorem orw(a b:BitVec 32):bits BinOp.or .u32 (a.toNat:Int) (b.toNat:Int)=((a ||| b).toNat:Int):=by
 rw[u32_or_nat _ _ a.isLt b.isLt,BitVec.toNat_or]
theorem Q29(a b:BitVec 32):((a.toNat:Int)+(b.toNat:Int)) % 4294967296=((a+b).toNat:Int):=by
 rw[BitVec.toNat_add];omega
open Go.Lib (hid)
theorem Q4y(x:BitVec 32)(n:Nat):(x <<< (32 - n)).toNat=x.toNat*2 ^ (32 - n) % 4294967296:=by
 rw[BitVec.toNat_shiftLeft,Nat.shiftLeft_eq]
theorem Q1z(x:BitVec 32)(n:Nat):(x >>> n).toNat=x.toNat / 2 ^ n:=by
 rw[BitVec.toNat_ushiftRight,Nat.shiftRight_eq_div_pow]
theorem Qz5(x:BitVec 32)(n:Nat) :
  bits BinOp.or .u32 ((x.toNat:Int) / 2 ^ n) ((x.toNat:Int)*2 ^ (32 - n) % 4294967296)=((rr x n).toNat:Int):=by
 have e1:(x.toNat:Int) / 2 ^ n=((x >>> n).toNat:Int):=by rw[Q1z];simp
 have e2:(x.toNat:Int)*2 ^ (32 - n) % 4294967296=((x <<< (32 - n)).toNat:Int):=by rw[Q4y x n];simp
 rw[e1,e2,orw];rfl
theorem Qxf(x:BitVec 32)(m:Nat)(h:m≤32) :
  bits BinOp.or .u32 ((x.toNat:Int)*2 ^ m % 4294967296) ((x.toNat:Int) / 2 ^ (32 - m))=((rr x (32 - m)).toNat:Int):=by
 have e1:(x.toNat:Int) / 2 ^ (32 - m)=((x >>> (32 - m)).toNat:Int):=by rw[Q1z];simp
 have e2:(x.toNat:Int)*2 ^ m % 4294967296=((x <<< (32 - (32 - m))).toNat:Int):=by rw[Q4y x (32 - m),show 32 - (32 - m)=m by omega];simp
 rw[e1,e2,orw,BitVec.or_comm];rfl
theorem Q1y(n m:Nat)(h0:0<n)(h:n<32)(hm:m=32 - n):bits BinOp.and .u64 (IntKind.u64.wrap (-(n:Int))) 31=(m:Int):=by
 have e:IntKind.u64.wrap (-(n:Int))=((18446744073709551616 - n:Nat):Int):=by rw[IntKind.wrap_u64];omega
 have e2:=u64_and_nat (18446744073709551616 - n) 31 (by omega) (by decide);rw[e]
 refine Eq.trans e2 ?_;have e3:(18446744073709551616 - n) &&& 31=(18446744073709551616 - n) % 2 ^ 5:=Nat.and_two_pow_sub_one_eq_mod _ 5;rw[e3]
 omega
theorem Qcs(x:BitVec 32)(n:Nat)(h0:0<n)(h:n<32)(w:World) :
  Calls Tryz.prog 70 #[.int .u32 (x.toNat:Int),.int .u32 (n:Int)] w fun e w'=>e=.returned (.int .u32 ((rr x n).toNat:Int))∧w=w':=by
 have hx:=x.isLt;have hr:=hid (Qz5 x n);go_enter Tryz.func70,Tryz.ntmps70;go_wp2
 go_ret;exact⟨Qgk hr.out,rfl⟩
theorem Qz6(x:BitVec 32)(n:Nat)(h0:0<n)(h:n<32)(w:World) :
  Calls Tryz.prog 192 #[.int .u32 (x.toNat:Int),.int .i64 (-(n:Int))] w fun e w'=>e=.returned (.int .u32 ((rr x n).toNat:Int))∧w=w':=by
 obtain⟨m,hm⟩:∃ m,m=32 - n:=⟨_,rfl⟩
 have ha:=Q1y n m h0 h hm;have hx:=x.isLt;have h1:m<32:=by omega
 have h2:0<m:=by omega
 have hr0:=Qxf x m (by omega);rw[show 32 - m=n by omega] at hr0
 have hr:=hid hr0;have hm2:32 - m=n:=by omega
 have HM:=hid hm2;clear hm hr0 hm2;go_enter Tryz.func192,Tryz.ntmps192;go_wp2
 go_ret;rw[HM.out]
 exact⟨Qgk hr.out,rfl⟩
theorem Qei(x:BitVec 32)(n:Nat)(h0:0<n)(h:n<32)(w:World) :
  Calls Tryz.prog 187 #[.int .u32 (x.toNat:Int),.int .i64 (n:Int)] w fun e w'=>e=.returned (.int .u32 ((rr x n).toNat:Int))∧w=w':=by
 have C:=hid (Qz6 x n h0 h);go_enter Tryz.func187,Tryz.ntmps187;go_wp2_with fail;refine(C.out w).mono ?_;rintro e w' ⟨rfl,rfl⟩;go_wp2_with fail;go_ret;exact⟨rfl,rfl⟩
theorem Qjo(x:BitVec 32)(a b c:Nat)(ha:0<a∧a<32)(hb:0<b∧b<32)(hc:0<c∧c<32)(w:World) :
  Calls Tryz.prog 172 #[.int .u32 (x.toNat:Int),.int .i64 (a:Int),.int .i64 (b:Int),.int .i64 (c:Int)] w fun e w'=>e=.returned (.int .u32 ((tS x a b c).toNat:Int))∧w=w':=by
 have A:=hid (Qei x a ha.1 ha.2);have B:=hid (Qei x b hb.1 hb.2);have C:=hid (Qei x c hc.1 hc.2);clear ha hb hc;go_enter Tryz.func172,Tryz.ntmps172;go_wp2_with fail;refine(A.out w).mono ?_;rintro e w' ⟨rfl,rfl⟩;go_wp2_with fail;refine(B.out w).mono ?_;rintro e w' ⟨rfl,rfl⟩;go_wp2_with fail;refine(C.out w).mono ?_;rintro e w' ⟨rfl,rfl⟩;go_wp2_with fail;go_ret;exact⟨Qgk (by rw[Qfm,Qfm];rfl),rfl⟩
theorem Qh2(x:BitVec 32)(a b c:Nat)(ha:0<a∧a<32)(hb:0<b∧b<32)(hc:0<c∧c<32)(w:World) :
  Calls Tryz.prog 186 #[.int .u32 (x.toNat:Int),.int .i64 (a:Int),.int .i64 (b:Int),.int .i64 (c:Int)] w fun e w'=>e=.returned (.int .u32 ((tT x a b c).toNat:Int))∧∃ m,w'=w.drewN m:=by
 have A:=hid fun k=>Calls.quiet_of_same (n:=k) ((Qei x a ha.1 ha.2 (w.drewN k)).mono (fun _ _ h=>⟨h.1,h.2.symm⟩))
 have B:=hid fun k=>Calls.quiet_of_same (n:=k) ((Qei x b hb.1 hb.2 (w.drewN k)).mono (fun _ _ h=>⟨h.1,h.2.symm⟩))
 have hxl:=x.isLt;have h0:=hc.1;have h1:=hc.2;have hs:=hid (show(x.toNat:Int) / 2 ^ c=((x >>> c).toNat:Int) by rw[Q1z];simp);clear ha hb hc;go_enter Tryz.func186,Tryz.ntmps186;go_wp2_with fail;go_quiet (first|(go_at_call 187;with_reducible exact A.out _)|(go_at_call 187;with_reducible exact B.out _)|fail)
 go_wp2_with fail;go_ret;exact⟨Qgk (by rw[hs.out,Qfm,Qfm];rfl),_,rfl⟩
def wc(l:List (BitVec 32)):List Value:=l.map fun x=>Value.int .u32 (x.toNat:Int)
theorem Qcd(l:List (BitVec 32)):(wc l).length=l.length:=by simp[wc]
theorem Qlr(l:List (BitVec 32)):(wc l).toArray.all (·.oneCell')=true:=by
 rw[Array.all_eq_true_iff_forall_mem]
 intro v hv;obtain⟨x,_,rfl⟩:=List.mem_map.1 (by simpa [wc] using hv);rfl
theorem Qy6(l:List (BitVec 32))(i:Nat)(h:i<l.length):(wc l).toArray[i]?=some (.int .u32 ((l.getD i 0).toNat:Int)):=by
 simp[wc,List.getD,h]
theorem Qiq:(Tryz.prog.info? 242).map (·.size)=some 64:=by kernel_rfl
theorem Qvc:(Tryz.prog.info? 200).map (·.size)=some 8:=by kernel_rfl
theorem Q39(w:World):Calls Tryz.prog 69 #[] w fun e w'=>e=.returned (.slice (some ⟨w.heap.size,0,none⟩) 64 64)∧w'=w.alloc (.cells (wc kL).toArray 89):=by
 go_enter Tryz.func69,Tryz.ntmps69;go_wp2
 go_ret;exact⟨rfl,rfl⟩
theorem Qvs(w:World):Calls Tryz.prog 40 #[] w fun e w'=>e=.returned (.slice (some ⟨w.heap.size,0,none⟩) 8 8)∧w'=w.alloc (.cells (wc st0.list).toArray 89):=by
 go_enter Tryz.func40,Tryz.ntmps40;go_wp2
 go_ret;exact⟨rfl,rfl⟩
theorem Qjf(w:World):Calls Tryz.prog 134 #[] w fun e w'=>e=.returned (.agg (wc st0.list).toArray)∧Below w.heap.size w w':=by
 go_enter Tryz.func134,Tryz.ntmps134;go_wp2_with fail;refine bodyPost_ret (v:=.agg (wc st0.list).toArray) (results_cell_row (p:=0) (ty:=200) rfl _ _ w.heap.size 200 (wc st0.list).toArray (0,0) _ rfl (heap_alloc_new w _) Tryz.underlying200 rfl Qvc) rfl ?_;exact⟨rfl,zb⟩
theorem Qf2:kL.length=64:=rfl
theorem Qyi:(Tryz.prog.info? 89).map (·.size)=some 1:=by kernel_rfl
theorem Q1m:((Tryz.prog.info? 242).bind (·.zero)).map (·.cells.size)=some 64:=by kernel_rfl
theorem Qzp(l:List (BitVec 32)):((l.map fun x=>(x.toNat:Int)).map (Value.int .u32)).toArray=(wc l).toArray:=by simp[wc]
theorem Qht(w:World):(zeroValue 242).run Tryz.prog w=.ok (.agg (Array.replicate 64 (.int .u32 0))) w :=
 (zero_of_info (P:=Tryz.prog) (t:=242) (v:=.agg (Array.replicate 64 (.int .u32 0))) (n:=64) (by kernel_rfl)).1 w
theorem Qcc{P:Program}{ops:Array Oper}{rest:List Oper}{o:Oper}{a:Act}{w:World}{Q:Exit→Act→World→Prop}(hg:o.guard=none)(t:TypeId)(ho:o.op=.alloc t)(C:Array Value)(hz:∀ w:World,(zeroValue t).run P w=.ok (.agg C) w)
  (h:wpList P ops Q rest (a.put o.dst (.pointer (some ⟨w.heap.size,0,none⟩))) (w.alloc (.cells C t))):wpList P ops Q (o::rest) a w:=by
 refine wpList_plain hg fun K hK=>?_
 unfold Oper.wp execOp;simp only[ho,Instr.alloc,Sem.run_bind,hz,Result.andThen_ok,newVar,Sem.run_pure];exact hK _ _ h
def kZ:List Int:=[1116352408,1899447441,3049323471,3921009573,961987163,1508970993,2453635748,2870763221,3624381080,310598401,607225278,1426881987,1925078388,2162078206,2614888103,3248222580,3835390401,4022224774,264347078,604807628,770255983,1249150122,1555081692,1996064986,2554220882,2821834349,2952996808,3210313671,3336571891,3584528711,113926993,338241895,666307205,773529912,1294757372,1396182291,1695183700,1986661051,2177026350,2456956037,2730485921,2820302411,3259730800,3345764771,3516065817,3600352804,4094571909,275423344,430227734,506948616,659060556,883997877,958139571,1322822218,1537002063,1747873779,1955562222,2024104815,2227730452,2361852424,2428436474,2756734187,3204031479,3329325298]
theorem Q4a:(kL.map fun x=>(x.toNat:Int))=kZ:=rfl
theorem Qjd(w:World):Calls Tryz.prog 171 #[] w fun e w'=>e=.returned (.agg (wc kL).toArray)∧Below w.heap.size w w':=by
 have hs:(wc kL).toArray.size=64:=by rw[List.size_toArray,Qcd,Qf2]
 have h1:=Qlr kL;have hz:=(congrArg (fun l=>(l.map (Value.int .u32)).toArray) Q4a).symm.trans (Qzp kL);generalize (wc kL).toArray=K at *;have H1:=hid h1;have HZ:=hid hz;have HS:=hid hs;clear h1 hz hs;go_enter Tryz.func171,Tryz.ntmps171;go_wp2_with (first
  | (refine Qcc rfl 242 rfl _ Qht ?_)
  | (refine wpList_buildFlatArr rfl 242 89 64 _ rfl .u32 kZ Tryz.underlying242 Qyi Q1m rfl ?_;rw[show(kZ.map (Value.int .u32)).toArray=K from HZ.out])
  | (refine wpList_store_row rfl _ _ _ rfl w.heap.size K rfl rfl 242 _ (heap_alloc_new w _) (by rw[HS.out];exact Qiq) (by rw[HS.out,Array.size_replicate]) H1.out ?_;rw[World.setRow_alloc_new])
  | fail)
 refine bodyPost_ret (v:=.agg K) (results_cell_row (p:=0) (ty:=242) rfl _ _ w.heap.size 242 K (0,0) _ rfl (heap_alloc_new w _) Tryz.underlying242 rfl (by rw[HS.out];exact Qiq)) rfl ?_;exact⟨rfl,zb⟩
end Go.Proofs.YtbnfkjkoinbkgaaGreatDoor
