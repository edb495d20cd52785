import Derived.Test.YtlecbblmaadpiaaGreatDoorKBlkS
import Derived.Test.YtlecbblmaadpiaaGreatDoorKBunG
import Derived.Deep.AppendLies
import Derived.WalkMore
import Derived.OwnWalk
namespace Go.Proofs.YtlecbblmaadpiaaGreatDoor
set_option maxRecDepth 100000
set_option maxHeartbeats 16000000
open Go.RowKit
theorem blkW_first0 (b:Blk) (m r:List UInt8):blkW b++m≠0xff::r:=by
 unfold blkW bodyB
 by_cases h:b.crc=0
 ·
  rw [if_pos h];intro e;simp [hd,hlow] at e
 ·
  rw [if_neg h];intro e;simp [hd,hlow] at e
/-! ### Rows of blocks of one's own -/
structure PK where
 x:Blk
 A:Option Addr
 nd:Nat
 cd:Nat
def fiveK (p:PK):List Value:=[.int .u64 (p.x.typ:Int),.int .u64 (p.x.num:Int),.int .u64 (p.x.flg:Int),.int .i64 p.x.crc,.slice p.A p.nd p.cd]
def rowK:List PK→List Value
 | []=>[]
 | p::r=>fiveK p++rowK r
theorem rowK_app:∀ a b:List PK,rowK (a++b)=rowK a++rowK b
 | [],b=>rfl
 | p::r,b=>by rw [List.cons_append,rowK,rowK,rowK_app r b,List.append_assoc]
theorem rowK_len:∀ a:List PK,(rowK a).length=a.length*5
 | []=>rfl
 | p::r=>by rw [rowK,List.length_append,rowK_len r,List.length_cons];simp [fiveK];omega
theorem rowK_one:∀ (a:List PK),∀ v∈rowK a,v.oneCell'=true
 | [],v,h=>by cases h
 | p::r,v,h=>by
  rw [rowK,List.mem_append] at h
  rcases h with h|h
  ·
   simp only [fiveK,List.mem_cons,List.not_mem_nil,or_false] at h
   rcases h with rfl|rfl|rfl|rfl|rfl <;> rfl
  ·
   exact rowK_one r v h
structure OkK (lo:Nat) (w:World) (v:Value) (p:PK):Prop where
 bd:Bd p.x
 le:p.nd≤p.cd∧p.nd≤140737488355328
 rd:Rd w w.heap.size p.A p.nd p.x.dat
 far:0<p.nd→∀ b o,p.A=some ⟨b,o,none⟩→v.ownBlock≠some b
 new:0<p.nd→∀ b o,p.A=some ⟨b,o,none⟩→lo≤b
theorem OkK.go {lo:Nat} {w w':World} {v v':Value} {p:PK} (h:OkK lo w v p) (hsz:w.heap.size≤w'.heap.size) (hb:∀ j,j<w.heap.size→v.ownBlock≠some j→w'.heap[j]?=w.heap[j]?)
  (hv:∀ j,j<w.heap.size→v.ownBlock≠some j→v'.ownBlock≠some j):OkK lo w' v' p :=
 ⟨h.bd,h.le,⟨h.rd.1,fun hn=>by
  obtain ⟨b,o,e,hlt,hc⟩:=h.rd.2 hn
  exact ⟨b,o,e,Nat.lt_of_lt_of_le hlt hsz,fun i hi=>(World.cell?_of_block (a:=⟨b,o+i,none⟩) (hb b hlt (h.far hn b o e))).trans (hc i hi)⟩⟩,fun hn b o e=>by
  obtain ⟨b',o',e',hlt,-⟩:=h.rd.2 hn
  rw [e] at e'
  cases e'
  exact hv b hlt (h.far hn b o e),h.new⟩
theorem OkK.below {lo:Nat} {w w':World} {v:Value} {p:PK} (h:OkK lo w v p) (hb:Below w.heap.size w w'):OkK lo w' v p :=
 h.go hb.size (fun j hj _=>hb.block j hj) (fun _ _ h=>h)
theorem Rd.sub_ {w w':World} {B B' n:Nat} {A:Option Addr} {l:List UInt8} (h:Rd w B A n l) (hs:∀ p u,w.cell? p=some u→w'.cell? p=some u) (hB:B≤B'):Rd w' B' A n l :=
 ⟨h.1,fun hn=>by obtain ⟨b,o,e,hb,hc⟩:=h.2 hn;exact ⟨b,o,e,Nat.lt_of_lt_of_le hb hB,fun i hi=>hs _ _ (hc i hi)⟩⟩
theorem RdKs.sub_ {w w':World} {B B' b:Nat} (hs:∀ p u,w.cell? p=some u→w'.cell? p=some u) (hB:B≤B'):∀ {l:List Blk} {o:Nat},RdKs w B b o l→RdKs w' B' b o l
 | [],_,_=>trivial
 | _::_,_,⟨⟨A,nd,cd,h⟩,hr⟩=>⟨⟨A,nd,cd,⟨hs _ _ h.k0,hs _ _ h.k1,hs _ _ h.k2,hs _ _ h.k3,hs _ _ h.k4,h.bd,h.le,h.rd.sub_ hs hB⟩⟩,RdKs.sub_ hs hB hr⟩
theorem RdL.sub_ {w w':World} {B B' n:Nat} {A:Option Addr} {l:List Blk} (h:RdL w B A n l) (hs:∀ p u,w.cell? p=some u→w'.cell? p=some u) (hB:B≤B'):RdL w' B' A n l :=
 ⟨h.1,fun hn=>by obtain ⟨b,o,e,h1,h2⟩:=h.2.1 hn;exact ⟨b,o,e,Nat.lt_of_lt_of_le h1 hB,RdKs.sub_ hs hB h2⟩,h.2.2⟩
theorem RdL.maskgo {lo lo' B n:Nat} {w w':World} {A:Option Addr} {l:List Blk} (h:RdL (mask (lows lo) w) B A n l) (hl:lo'≤lo) (hw:∀ p:Addr,lo≤p.block→∀ u,w.cell? p=some u→w'.cell? p=some u) {B':Nat} (hB:B≤B'):RdL (mask (lows lo') w') B' A n l :=
 h.sub_ (fun p u hc=>by
  have h1:=lows_f.1 (mask_out hc)
  exact (mask_cell (lows_f.2 (Nat.le_trans hl h1))).trans (hw p h1 u (mask_sub hc))) hB
theorem RdL.unmask_ {S:Nat→Bool} {w:World} {B n:Nat} {A:Option Addr} {l:List Blk} (h:RdL (mask S w) B A n l):RdL w B A n l:=h.sub_ (fun _ _ hc=>mask_sub hc) nlr
theorem blkWs_uniq:∀ {xs ys:List Blk} {r t:List UInt8},(∀ x∈xs,blkOk x=true∧Bd x)→(∀ y∈ys,blkOk y=true∧Bd y)→blkWs xs++0xff::r=blkWs ys++0xff::t→xs=ys∧r=t
 | [],[],_,_,_,_,h=>by
  simp only [blkWs,List.nil_append,List.cons.injEq,true_and] at h
  exact ⟨rfl,h⟩
 | [],y::ys,r,t,_,_,h=>by
  rw [blkWs,blkWs,List.nil_append,List.append_assoc] at h
  exact absurd h.symm (blkW_first0 y _ _)
 | x::xs,[],r,t,_,_,h=>by
  rw [blkWs,blkWs,List.nil_append,List.append_assoc] at h
  exact absurd h (blkW_first0 x _ _)
 | x::xs,y::ys,r,t,hx,hy,h=>by
  rw [blkWs,blkWs,List.append_assoc,List.append_assoc] at h
  have h1:=decB_blk x (blkWs xs++0xff::r) (hx x (by simp)).1 (hx x (by simp)).2
  have h2:=decB_blk y (blkWs ys++0xff::t) (hy y (by simp)).1 (hy y (by simp)).2
  rw [h,h2] at h1
  simp only [Prod.mk.injEq] at h1
  obtain ⟨rfl,-⟩:=h1
  have h3:=List.append_cancel_left h
  obtain ⟨rfl,rfl⟩:=blkWs_uniq (fun q hq=>hx q (by simp [hq])) (fun q hq=>hy q (by simp [hq])) h3
  exact ⟨rfl,rfl⟩
theorem rowK_read {lo:Nat} {w:World} {b:Nat} {v:Value} (hb:lo≤b):∀ (ps:List PK) (o:Nat),(∀ j u,(rowK ps)[j]?=some u→w.cell? ⟨b,o+j,none⟩=some u)→(∀ p∈ps,OkK lo w v p)→RdKs (mask (lows lo) w) w.heap.size b o (ps.map (·.x))
 | [],_,_,_=>trivial
 | p::r,o,hc,ho=>by
  have hp:=ho p (by simp)
  have h0:∀ j u,(fiveK p)[j]?=some u→(mask (lows lo) w).cell? ⟨b,o+j,none⟩=some u:=fun j u hj=>(mask_cell (lows_f.2 hb)).trans <| hc j u (by
   rw [rowK,List.getElem?_append_left]
   ·
    exact hj
   ·
    rcases Nat.lt_or_ge j (fiveK p).length with h|h
    ·
     exact h
    ·
     rw [List.getElem?_eq_none h] at hj;cases hj)
  refine ⟨⟨p.A,p.nd,p.cd,⟨h0 0 _ rfl,h0 1 _ rfl,h0 2 _ rfl,h0 3 _ rfl,h0 4 _ rfl,hp.bd,hp.le,hp.rd.mask_any hp.new⟩⟩,rowK_read hb r (o+5) (fun j u hj=>?_) (fun q hq=>ho q (by simp [hq]))⟩
  rw [show o+5+j=o+(5+j) by omega]
  refine hc (5+j) u ?_
  rw [rowK,List.getElem?_append_right (by simp [fiveK])]
  simpa [fiveK] using hj
structure BkSt (w wr:World) (v:Value) (ps:List PK):Prop where
 own:wr.ownsRow w.heap.size 48 5 v ps.length (rowK ps)
 ok:∀ p∈ps,OkK w.heap.size wr v p
 bel:Below w.heap.size w wr
theorem BkSt.start (w:World):BkSt w w (.slice none 0 0) []:=⟨World.ownsRow_nil _ _ _ _,fun _ h=>(by cases h),Below.refl _ _⟩
theorem BkSt.form {w wr:World} {v:Value} {ps:List PK} (h:BkSt w wr v ps):∃ A cp,v=.slice A ps.length cp∧ps.length≤cp:=by
 rcases h.own.2 with ⟨hv,h0⟩|⟨q,cap,cur,hv,-,-,hnc,-⟩
 ·
  exact ⟨none,0,by rw [hv,h0],by omega⟩
 ·
  exact ⟨_,_,hv,hnc⟩
theorem BkSt.on {w wr w1:World} {v:Value} {ps:List PK} (h:BkSt w wr v ps) (hb:Below wr.heap.size wr w1):BkSt w w1 v ps :=
 ⟨ownsRow_below h.own hb,fun p hp=>(h.ok p hp).below hb,h.bel.trans (hb.mono h.bel.size)⟩
theorem BkSt.push {w wr w3:World} {v:Value} {ps:List PK} (h:BkSt w wr v ps) {p:PK} (hp:OkK w.heap.size wr v p) {g cap m:Nat} (hm:ps.length=m) (hown:w3.ownsRow w.heap.size 48 5 (.slice (some ⟨g,0,none⟩) (m+1) cap) (m+1) (rowK ps++fiveK p))
  (hgr:wr.grownBy w3 v.ownBlock) (hat:v.ownBlock=some g∨g=wr.heap.size):BkSt w w3 (.slice (some ⟨g,0,none⟩) (m+1) cap) (ps++[p]):=by
 subst hm
 have hb:∀ j,j<wr.heap.size→v.ownBlock≠some j→w3.heap[j]?=wr.heap[j]?:=fun j hj hne=>hgr.block j hj (fun e=>hne e.symm)
 have hv:∀ j,j<wr.heap.size→v.ownBlock≠some j→(Value.slice (some ⟨g,0,none⟩) (ps.length+1) cap).ownBlock≠some j:=fun j hj hne e=>by
  injection e with e
  have e':g=j:=e
  rcases hat with h2|h2
  ·
   exact hne (by rw [h2,e'])
  ·
   omega
 refine ⟨?_,fun q hq=>?_,?_⟩
 ·
  rw [List.length_append,List.length_singleton,rowK_app,show rowK [p]=fiveK p by simp [rowK]]
  exact hown
 ·
  rcases List.mem_append.1 hq with hq|hq
  ·
   exact (h.ok q hq).go hgr.size hb hv
  ·
   rw [List.mem_singleton] at hq
   subst hq
   exact hp.go hgr.size hb hv
 ·
  refine ⟨hgr.os.trans h.bel.os,hgr.tape.trans h.bel.tape,hgr.output.trans h.bel.output,Nat.le_trans h.bel.size hgr.size,fun j hj=>?_⟩
  rw [hb j (Nat.lt_of_lt_of_le hj h.bel.size) (fun e=>by have:=(World.ownsRow.lt h.own j e).1;omega)]
  exact h.bel.block j hj
theorem BkSt.read {w wr:World} {A:Option Addr} {cp:Nat} {ps:List PK} (h:BkSt w wr (.slice A ps.length cp) ps) (hn:ps.length≤140737488355328):RdL (mask (lows w.heap.size) wr) wr.heap.size A ps.length (ps.map (·.x)):=by
 refine ⟨by simp,fun h0=>?_,hn⟩
 rcases h.own.2 with ⟨hv,h1⟩|⟨q,cap,cur,hv,-⟩
 ·
  omega
 ·
  injection hv with hv _ _
  subst hv
  have hlt:=World.ownsRow.lt h.own q rfl
  refine ⟨q,0,rfl,hlt.2,rowK_read hlt.1 ps 0 (fun j u hj=>?_) h.ok⟩
  have hjl:j<ps.length*5:=by
   rw [← rowK_len]
   rcases Nat.lt_or_ge j (rowK ps).length with h|h
   ·
    exact h
   ·
    rw [List.getElem?_eq_none h] at hj;cases hj
  rw [Nat.zero_add,World.ownsRow.cellAt h.own j hjl]
  exact hj
/-! ### Which blocks bytes are -/
theorem decB_sound {l:List UInt8} {b:Blk} {N:Int} (h:decB l=(b,N,0)):blkOk b=true∧N=((blkW b).length:Int)∧l=blkW b++l.drop (blkW b).length:=by
 unfold decB at h
 rcases decode_cases l with ⟨z,hz,hd⟩|⟨x,r,hl,-,-,hd⟩
 ·
  rw [hd] at h
  rw [if_pos (by show z≠0;omega)] at h
  simp at h
  omega
 ·
  rw [hd] at h
  rw [if_neg (by simp)] at h
  by_cases hok:blkOk (takenB x)=false
  ·
   rw [if_pos hok] at h;simp at h
  rw [if_neg hok] at h
  have hok':blkOk (takenB x)=true:=by simpa using hok
  simp only [Int.toNat_natCast] at h
  by_cases hc:cmpB (l.take (wri x).length) (blkW (takenB x)) (sumN (takenB x).crc)=0
  ·
   rw [if_neg (by simpa using hc)] at h
   simp only [Prod.mk.injEq,and_true] at h
   obtain ⟨h1,h2⟩:=h
   subst h1
   have he:l.take (wri x).length=blkW (takenB x):=by
    unfold cmpB at hc
    split at hc
    ·
     cases hc
    ·
     split at hc
     ·
      cases hc
     ·
      rename_i h1 h2
      have a1:(l.take (wri x).length).take ((blkW (takenB x)).length - sumN (takenB x).crc)=(blkW (takenB x)).take ((blkW (takenB x)).length - sumN (takenB x).crc):=Classical.not_not.1 fun hh=>h1 (.inr hh)
      have a2:=Classical.not_not.1 h2
      rw [← List.take_append_drop ((blkW (takenB x)).length - sumN (takenB x).crc) (blkW (takenB x)),← a1,← a2,List.take_append_drop]
   have hlen:(wri x).length=(blkW (takenB x)).length:=by rw [← he,List.length_take,hl,List.length_append];omega
   refine ⟨hok',by rw [← h2,hlen],?_⟩
   rw [← hlen,← he,List.take_append_drop]
  ·
   rw [if_pos hc] at h
   simp only [Prod.mk.injEq] at h
   exact absurd h.2.2 hc
theorem blkW_first (b:Blk) (m r:List UInt8):blkW b++m≠0xff::r:=blkW_first0 b m r
theorem blkW_pos (b:Blk):0<(blkW b).length:=by unfold blkW;rw [List.length_append];have:=body_pos b;omega
def okBs (ys:List Blk):Prop:=∀ y∈ys,blkOk y=true∧Bd y
def NoP (m:List UInt8) (k:Nat):Prop:=∀ (ys:List Blk) (rest:List UInt8),okBs ys→ys.length≤k→m≠blkWs ys++0xff::rest
theorem NoP.step {m:List UInt8} {x:Blk} {k:Nat} (hd:decB m=(x,((blkW x).length:Int),0)) (hx:m=blkW x++m.drop (blkW x).length) (h:NoP (m.drop (blkW x).length) k):NoP m (k+1):=by
 intro ys rest hy hk e
 match ys,hy,hk,e with
 | [],_,_,e=>exact blkW_first x _ rest (hx.symm.trans e)
 | y::ys,hy,hk,e =>
  rw [blkWs,List.append_assoc] at e
  have hyy:=hy y (by simp)
  have h2:=decB_blk y (blkWs ys++0xff::rest) hyy.1 hyy.2
  rw [← e,hd] at h2
  simp only [Prod.mk.injEq,and_true] at h2
  obtain ⟨rfl,-⟩:=h2
  refine h ys rest (fun q hq=>hy q (by simp [hq])) (by simpa using hk) ?_
  rw [e,List.drop_left]
theorem NoP.none {m:List UInt8} {k:Nat} (h1:∀ rest,m≠0xff::rest) (h2:∀ y N,decB m≠(y,N,0)):NoP m k:=by
 intro ys rest hy hk e
 match ys,hy,e with
 | [],_,e=>exact h1 rest e
 | y::ys,hy,e =>
  rw [blkWs,List.append_assoc] at e
  have hyy:=hy y (by simp)
  have h3:=decB_blk y (blkWs ys++0xff::rest) hyy.1 hyy.2
  rw [← e] at h3
  exact h2 _ _ h3
theorem NoP.zero {m:List UInt8} (h1:∀ rest,m≠0xff::rest):NoP m 0:=by
 intro ys rest hy hk e
 have:ys=[]:=List.eq_nil_of_length_eq_zero (by omega)
 subst this
 exact h1 rest e
open Go.Lib (hid)
theorem info_blk:(Tryz.prog.info? 48).map (fun i=>(i.zero,i.size,i.bytes))=some (some (.agg #[.int .u64 0,.int .u64 0,.int .u64 0,.int .i64 0,.slice none 0 0]),5,56):=by kernel_rfl
def BlksU (l:List UInt8) (w:World) (e:Ending) (w':World):Prop:=Below w.heap.size w w' ∧
 ((∃ (xs:List Blk) (A:Option Addr) (n c N:Nat) (rest:List UInt8),e=.returned (.tuple #[.slice A n c,.int .i64 (N:Int),.nilIface])∧RdL (mask (lows w.heap.size) w') w'.heap.size A n xs∧n≤c∧n≤16∧okBs xs∧l=blkWs xs++0xff::rest∧N=(blkWs xs).length+1) ∨
  (NoP l 16∧∃ z s,z≠0∧e=.returned (.tuple #[.slice none 0 0,.int .i64 0,ufl z s])))
structure LpSt (l:List UInt8) (w wr:World) (v:Value) (a:Nat) (ps:List PK):Prop where
 st:BkSt w wr v ps
 few:ps.length≤16
 ok:okBs (ps.map (·.x))
 at_:a=(blkWs (ps.map (·.x))).length
 eq:l=blkWs (ps.map (·.x))++l.drop a
 no:NoP (l.drop a) (16 - ps.length)→NoP l 16
theorem ureadBs_any (A:Option Addr) (n c B:Nat) (l:List UInt8) (w:World) (hL:LaidE w) (hB:B≤w.heap.size) (h:Rd w B A n l) (hn:n≤140737488355328) (hc:n≤c) :
  Calls Tryz.prog 175 #[.slice A n c] w (BlksU l w):=by
 obtain ⟨i0,hi0,hz0,hz1,hz2⟩:=info_parts info_blk
 have HI:=hid hi0
 have HI0:=hid hz0
 have HI1:=hid hz1
 have HI2:=hid hz2
 have HR:=hid h
 have HH:=hid (And.intro hB hc)
 have HLd:=hid hL
 have CN:=hid unone_any
 have hcn:=fun (W:World) (hb:Below w.heap.size w W) (x:Int) (k:Nat) (hx:x=(k:Int)) (hk:k≤n)=>cut_l (P:=Tryz.prog) (w:=W) 27 5 Tryz.underlying27 size_u8 c (h.below (hb.mono hB)) x k hx hk hc
 have HCN:=hid hcn
 clear hi0 hz0 hz1 hz2 h hB hc hL hcn
 go_enter Tryz.func175,Tryz.ntmps175
 go_wp2_with fail
 go_step3
 go_wp2_with fail
 go_step3
 go_wp2_with fail
 go_loopw [5,6] (fun v av wr=>∃ (a:Nat) (ps:List PK),a≤n∧av=.int .i64 (a:Int)∧Hid (LpSt l w wr v a ps)) (fun _ av _=>n - (intOf av).toNat)
 case atStart=>exact ⟨0,[],Nat.zero_le _,rfl,⟨BkSt.start w,by simp,fun _ h=>(by cases h),rfl,rfl,fun h=>h⟩⟩
 case round =>
  obtain ⟨a,ps,ha,rfl,HS⟩:=hrel
  obtain ⟨A5,cp5,rfl,hcp⟩:=HS.out.st.form
  have HBel:=hid HS.out.st.bel
  by_cases hlt:a=n
  ·
   have HNO:Hid (NoP l 16):=HS.out.no (by rw [hlt,List.drop_eq_nil_of_le (by rw [HR.out.1];exact Nat.le_refl _)];exact NoP.none (fun rest e=>by cases e) (fun y N e=>by
    have:=(decB_sound e).2.2
    have hp:=blkW_pos y
    simp at this
    rw [this] at hp
    simp at hp))
   subst hlt
   clear hcp
   go_wp2_with fail
   (try rw [Exit.noGoto_ret])
   refine bodyPost_ret (results_tmp3 Tryz.results175 _ _ _) rfl ⟨HBel.out,.inr ⟨HNO.out,30,_,by decide,rfl⟩⟩
  have han:a<n:=by omega
  have hne:((a:Int)==(n:Int))=false:=by simp;omega
  have hi1:(a:Int)<(n:Int):=by omega
  obtain ⟨b0,o0,rfl,hb0,hcell⟩:=(HR.out.below (HBel.out.mono HH.out.1)).2 (by omega)
  obtain ⟨x0,hx0⟩:∃ x0,x0=l.getD a 0:=⟨_,rfl⟩
  have hcx:wr.cell? ⟨b0,o0+a,none⟩=some (.int .u8 (x0.toNat:Int)):=by rw [hx0];exact hcell a han
  have hdr:∃ r,l.drop a=x0::r:=⟨l.drop (a+1),by
   have hal:a<l.length:=by rw [HR.out.1];exact han
   rw [List.drop_eq_getElem_cons hal,hx0]
   simp [List.getD,hal]⟩
  have HDR:=hid hdr
  clear hx0 hcell hdr
  by_cases hff:x0=0xff
  ·
   have hx1:((x0.toNat:Int)==255)=true:=by rw [hff];rfl
   have HFF:=hid hff
   have ha1:wrap64 ((a:Int)+1)=((a+1:Nat):Int):=by unfold wrap64;omega
   have HCP:=hid hcp
   clear hff hcp hlt
   go_wp2_with fail
   obtain ⟨r,hr⟩:=HDR.out
   (try rw [Exit.noGoto_ret])
   refine bodyPost_ret (results_tmp3 Tryz.results175 _ _ _) rfl ⟨HBel.out,.inl ⟨ps.map (·.x),A5,ps.length,cp5,a+1,r,rfl,HS.out.st.read (by have:=HS.out.few;omega),HCP.out,HS.out.few,HS.out.ok,?_,by rw [← HS.out.at_]⟩⟩
   have:=HS.out.eq
   rw [hr,HFF.out] at this
   exact this
  have hx1:((x0.toNat:Int)==255)=false:=by
   have:x0.toNat≠255:=fun e=>hff (UInt8.toNat_inj.1 e)
   simp;omega
  have HN1:Hid (∀ rest,l.drop a≠0xff::rest):=fun rest e=>by
   obtain ⟨r,hr⟩:=HDR.out
   rw [hr] at e
   injection e with e
   exact hff e
  clear hff
  by_cases h16:ps.length=16
  ·
   have HNO:Hid (NoP l 16):=HS.out.no (by rw [h16];exact NoP.zero HN1.out)
   have ht:(((ps.length:Nat):Int)==16)=true:=by rw [h16];rfl
   generalize ps.length=np at *
   clear h16 hcp
   go_wp2_with (first|(go_at_call 142;refine (CN.out _ _).mono ?_;rintro e w1 ⟨rfl,rfl⟩)|fail)
   (try rw [Exit.noGoto_ret])
   refine bodyPost_ret (results_tmp3 Tryz.results175 _ _ _) rfl ⟨HBel.out,.inr ⟨HNO.out,60,_,by decide,rfl⟩⟩
  have ht:(((ps.length:Nat):Int)==16)=false:=by simp;omega
  obtain ⟨D1,d1,k1,hd1,hd2,r1⟩:=HCN.out wr HBel.out (a:Int) a rfl ha
  have C1:=hid (bdecodeS_any D1 (n - a) d1 B (l.drop a) wr (Nat.le_trans HH.out.1 HBel.out.size) r1 (by omega) hd1 (HLd.out.below HBel.out HLd.out.lt))
  have H16:=hid h16
  have HCP:=hid hcp
  generalize hnp:ps.length=np at *
  have HNP:=hid hnp
  clear h16 hcp r1 hd1 hd2 hlt hnp
  go_wp2_with fail
  refine C1.out.mono ?_
  rintro e w1 ⟨hb,x,A1,nd,cd,N,z,rfl,hdec,hbd,hnd,hrd,hfr⟩
  unfold blkV
  by_cases hz:z=0
  ·
   subst hz
   obtain ⟨hok,hN,heq⟩:=decB_sound hdec
   obtain ⟨M,hM⟩:∃ M,M=(blkW x).length:=⟨_,rfl⟩
   rw [← hM] at hN heq
   subst hN
   have hMa:a+M≤n:=by
    have h1:=congrArg List.length heq
    rw [List.length_append,List.length_drop,List.length_drop,HR.out.1,← hM] at h1
    have h2:=blkW_pos x
    omega
   have hwr:wrap64 ((a:Int)+(M:Int))=((a+M:Nat):Int):=by unfold wrap64;omega
   have hM1:1≤M:=by rw [hM];exact blkW_pos x
   have hst1:=HS.out.st.on hb
   have hst2:=hst1.on ((Below.refl w1.heap.size w1).alloc nlr (.cells #[.int .u64 (x.typ:Int),.int .u64 (x.num:Int),.int .u64 (x.flg:Int),.int .i64 x.crc,.slice A1 nd cd] 48))
   have hst3:=hst2.on ((Below.refl (w1.alloc (.cells #[.int .u64 (x.typ:Int),.int .u64 (x.num:Int),.int .u64 (x.flg:Int),.int .i64 x.crc,.slice A1 nd cd] 48)).heap.size _).alloc nlr (.cells #[.int .u64 (x.typ:Int),.int .u64 (x.num:Int),.int .u64 (x.flg:Int),.int .i64 x.crc,.slice A1 nd cd] 48))
   have hok3:OkK w.heap.size ((w1.alloc (.cells #[.int .u64 (x.typ:Int),.int .u64 (x.num:Int),.int .u64 (x.flg:Int),.int .i64 x.crc,.slice A1 nd cd] 48)).alloc (.cells #[.int .u64 (x.typ:Int),.int .u64 (x.num:Int),.int .u64 (x.flg:Int),.int .i64 x.crc,.slice A1 nd cd] 48)) (.slice A5 np cp5) ⟨x,A1,nd,cd⟩ :=
    (OkK.below (lo:=w.heap.size) (w:=w1) ⟨hbd,hnd,hrd,fun h0 b o e he=>by
     have h1:=hfr h0 b o e
     have h2:=(World.ownsRow.lt HS.out.st.own b he).2
     omega,fun h0 b o e=>Nat.le_trans HS.out.st.bel.size (hfr h0 b o e)⟩ ((Below.refl w1.heap.size w1).alloc nlr _)).below ((Below.refl _ _).alloc nlr _)
   have HST3:=hid hst3
   have HOK3:=hid hok3
   have HOWN:=hid hst3.own
   rw [HNP.out] at HOWN
   have HSZ3:Hid (w.heap.size≤((w1.alloc (.cells #[.int .u64 (x.typ:Int),.int .u64 (x.num:Int),.int .u64 (x.flg:Int),.int .i64 x.crc,.slice A1 nd cd] 48)).alloc (.cells #[.int .u64 (x.typ:Int),.int .u64 (x.num:Int),.int .u64 (x.flg:Int),.int .i64 x.crc,.slice A1 nd cd] 48)).heap.size):=hst3.bel.size
   have HPL:Hid (∀ (v:Value) (wE:World) (h:BkSt w wE v (ps++[⟨x,A1,nd,cd⟩])),LpSt l w wE v (a+M) (ps++[⟨x,A1,nd,cd⟩])):=fun v wE hh=>by
    have he:(ps++[⟨x,A1,nd,cd⟩]:List PK).map (·.x)=ps.map (·.x)++[x]:=by simp
    have hdd:l.drop (a+M)=(l.drop a).drop M:=by rw [List.drop_drop]
    refine ⟨hh,by rw [List.length_append,List.length_singleton];have:=H16.out;have:=HS.out.few;have:=HNP.out;omega,?_,?_,?_,?_⟩
    ·
     rw [he]
     intro y hy
     rcases List.mem_append.1 hy with hy|hy
     ·
      exact HS.out.ok y hy
     ·
      rw [List.mem_singleton] at hy;subst hy;exact ⟨hok,hbd⟩
    ·
     rw [he,blkWs_app,List.length_append,← HS.out.at_,hM];simp [blkWs]
    ·
     rw [he,blkWs_app,hdd,List.append_assoc,show blkWs [x]=blkW x by simp [blkWs],← heq]
     exact HS.out.eq
    ·
     intro hno
     refine HS.out.no ?_
     have hk:16 - ps.length=(16 - (ps++[⟨x,A1,nd,cd⟩]:List PK).length)+1:=by
      rw [List.length_append,List.length_singleton];have:=H16.out;have:=HS.out.few;have:=HNP.out;omega
     rw [hk]
     rw [hdd] at hno
     rw [hM] at hdec heq hno
     exact NoP.step hdec heq hno
   have HMM:=hid (And.intro hMa hM1)
   clear hb hdec hbd hnd hrd hfr hok heq hM hMa hM1 hst1 hst2 hst3 hok3 hcx
   go_wp2_with (first
    | (at_builtin;refine wpList_append_lies _ rfl (.tmp 43) (.tmp 45) 71 rfl w.heap.size 48 i0 _ 5 56 Tryz.underlying71 HI.out HI0.out HI1.out HI2.out rfl (by decide) (.slice A5 np cp5) np (rowK ps) rfl HOWN.out ⟨w1.heap.size+1,0,none⟩ 1 1 [.int .u64 (x.typ:Int),.int .u64 (x.num:Int),.int .u64 (x.flg:Int),.int .i64 x.crc,.slice A1 nd cd] rfl rfl (by intro q u hq;match q with|0=>(cases hq;simp [Addr.add])|1=>(cases hq;simp [Addr.add])|2=>(cases hq;simp [Addr.add])|3=>(cases hq;simp [Addr.add])|4=>(cases hq;simp [Addr.add])|q+5=>simp at hq) (by intro u hu;simp at hu;rcases hu with rfl|rfl|rfl|rfl|rfl <;> rfl) (by decide) (by have:=HS.out.few;have:=HNP.out;unfold maxLen;omega) (by have:=HS.out.few;have:=HNP.out;omega) HSZ3.out _ rfl ?_;intro g2 cap2 w3 ho3 hg3 hat hlt3;have HPS:=hid (HST3.out.push HOK3.out HNP.out ho3 hg3 hat);clear ho3 hg3 hat hlt3)
    | fail)
   go_roundw
   case rel=>exact ⟨a+M,ps++[⟨x,A1,nd,cd⟩],HMM.out.1,by rw [hwr],hid (HPL.out _ _ HPS.out)⟩
   case measure =>
    have h1:(wrap64 ((a:Int)+(M:Int))).toNat=a+M:=by rw [hwr];exact Int.toNat_natCast _
    have h2:((a:Int)).toNat=a:=Int.toNat_natCast a
    have h3:n - (a+M)<n - a:=Nat.sub_lt_sub_left han (Nat.lt_add_of_pos_right HMM.out.2)
    have key:∀ z:Int,intOf (.int .i64 z)=z:=fun z=>rfl
    rw [key,key,h1,h2]
    exact h3
  ·
   have hz0:(z==0)=false:=by simpa using hz
   have hz1:(z != 0)=true:=by simpa using hz
   have HNO:Hid (NoP l 16):=HS.out.no (NoP.none HN1.out (fun y N' e=>by rw [hdec] at e;simp only [Prod.mk.injEq] at e;exact hz e.2.2))
   have HB1:=hid (HBel.out.trans ((hb.alloc hb.size (.cells #[.int .u64 (x.typ:Int),.int .u64 (x.num:Int),.int .u64 (x.flg:Int),.int .i64 x.crc,.slice A1 nd cd] 48)).mono HBel.out.size))
   have HZ:=hid hz
   clear hb hdec hbd hnd hrd hfr hz
   go_wp2_with fail
   (try rw [Exit.noGoto_ret])
   refine bodyPost_ret (results_tmp3 Tryz.results175 _ _ _) rfl ⟨HB1.out,.inr ⟨HNO.out,z,_,HZ.out,rfl⟩⟩
end Go.Proofs.YtlecbblmaadpiaaGreatDoor
