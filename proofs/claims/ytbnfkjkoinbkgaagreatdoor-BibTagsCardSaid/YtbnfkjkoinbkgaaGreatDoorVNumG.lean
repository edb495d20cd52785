import Derived.Test.YtbnfkjkoinbkgaaGreatDoorVAbb
import Derived.Test.YtbnfkjkoinbkgaaGreatDoorVCborM
import Derived.Test.YtbnfkjkoinbkgaaGreatDoorVNumB
import Derived.Test.YtbnfkjkoinbkgaaGreatDoorVSame
import Derived.Maps.AppendAt
import Derived.Laws.OwnMore
import Derived.OwnWalk
import Derived.RegionTactic
import Derived.Laws.IdiomStrings
namespace Go.Proofs.YtbnfkjkoinbkgaaGreatDoor
set_option maxRecDepth 100000
set_option maxHeartbeats 16000000
theorem Qk0{k:Int}{n:Nat}{d:LB}{l:List Itm}(h:own k n d l=true) :
  (k=0∧d=[]∧l=[])∨(k=2∧n=0∧l=[])∨(k=3∧n=0∧l=[]∧plain d=true)∨(k=4∧n=0∧d=[])∨(k=5∧n=0∧d=[]):=by
 unfold own at h;split at h
 next hk=>simp at h;exact .inl ⟨hk,h.1,h.2⟩
 next hk =>
 split at h
 next h2=>simp at h;exact .inr (.inl ⟨h2,h.1,h.2⟩)
 next h2 =>
 split at h
 next h3=>simp at h;exact .inr (.inr (.inl ⟨h3,h.1,h.2.1,h.2.2⟩))
 next h3 =>
 split at h
 next h4 =>
  simp at h;rcases h4 with h4|h4
  ·
   exact .inr (.inr (.inr (.inl ⟨h4,h.1,h.2⟩)))
  ·
   exact .inr (.inr (.inr (.inr ⟨h4,h.1,h.2⟩)))
 next h4=>cases h
theorem Qo2(m n:Nat)(r:LB):hd m n++r=UInt8.ofNat (32*m+Qdq n)::(be n (hsz n)++r):=rfl
theorem Qiz(m n:Nat)(hm:m≤4):Qhb (UInt8.ofNat (32*m+Qdq n))=decide (m=4):=by
 obtain⟨h1,h2⟩:=Qhl m n hm;have h27:=Qgn n;have h9:(UInt8.ofNat (32*m+Qdq n)==0x9f)=false:=by
  rw[beq_eq_false_iff_ne]
  intro e;rw[e] at h2
  have:(0x9f:UInt8).toNat % 32=31:=rfl
  omega
 unfold Qhb;rw[h9,h1,h2]
 by_cases h4:m=4 <;> simp[h4,h27]
theorem Qf6(m n:Nat)(hm:m≤4):UInt8.ofNat (32*m+Qdq n)≠0x9f∧UInt8.ofNat (32*m+Qdq n)≠0xff:=by
 obtain⟨h1,h2⟩:=Qhl m n hm;have h27:=Qgn n;constructor
 ·
  intro e;rw[e] at h2;have:(0x9f:UInt8).toNat % 32=31:=rfl;omega
 ·
  intro e;rw[e] at h2;have:(0xff:UInt8).toNat % 32=31:=rfl;omega
theorem Qct(sub:Nat→List UInt8→Except Int (Itm×Nat×List UInt8))(deep:Bool)(p m n:Nat)(r:LB)(hm:m=0∨m=2∨m=3∨m=4)(hn:n<18446744073709551616)(hp:p<4096)(h4:m=4→deep=false) :
  Qco sub deep p (hd m n++r)=if m=0 then .ok (.mk 0 n [] [],p+1,r) else if m=4 then (match Qg4 sub n (p+1) r with | .error e=>.error e | .ok (xs,p2,l2)=>.ok (.mk 4 0 [] xs,p2,l2)) else Qe4 m n (p+1) r:=by
 have hno:¬ (p=4096∨(decide (m=4)=true∧deep=true)):=by
  rintro (h|⟨h,h'⟩)
  ·
   omega
  ·
   rw[h4 (by simpa using h)] at h';cases h'
 rw[Qo2,Qco,Qiz m n (by omega),if_neg hno,if_neg (Qf6 m n (by omega)).1,← Qo2,Qyn m n r hm hn]
 rfl
mutual
theorem Qww:∀ x:Itm,∃ c r,wri x=c::r∧c≠0xff
 | .mk k n d l=>by
  rw[wri]
  split
  ·
   exact⟨_,_,rfl,(Qf6 0 n (by decide)).2⟩
  split
  next h=>exact⟨_,_,rfl,(Qf6 k.toNat d.length (by omega)).2⟩
  split
  ·
   exact⟨_,_,rfl,(Qf6 4 l.length (by decide)).2⟩
  ·
   exact⟨_,_,rfl,by decide⟩
end
theorem Qs0:∀ l:List Itm,l.length≤(wrs l).length
 | []=>Nat.le_refl _
 | x::r=>by
  obtain⟨c,t,h,_⟩:=Qww x;have:=Qs0 r
  rw[wrs,List.length_append,h]
  simp;omega
mutual
theorem Qm8:∀ (x:Itm) (d p:Nat) (m:LB),Qbd x=true→Siz x→dep x≤d→p+par x≤4096→dec d p (wri x++m)=.ok (x,p+par x,m)
 | .mk k n dt l,d,p,m,hr,hs,hd',hp=>by
  rw[Qbd,Bool.and_eq_true] at hr
  rw[Siz] at hs
  rw[dep] at hd'
  rw[par] at hp
  obtain⟨hn,hdl,hll,hss⟩:=hs;rcases Qk0 hr.1 with ⟨rfl,rfl,rfl⟩|⟨rfl,rfl,rfl⟩|⟨rfl,rfl,rfl,hpl⟩|⟨rfl,rfl,rfl⟩|⟨rfl,rfl,rfl⟩
  ·
   have e:wri (.mk 0 n [] [])=hd 0 n:=by rw[wri,if_pos rfl]
   rw[e]
   cases d with
   | zero=>rw[dec,Qct _ _ _ _ _ _ (.inl rfl) hn (by omega) (by omega)];rfl
   | succ d=>rw[dec,Qct _ _ _ _ _ _ (.inl rfl) hn (by omega) (by omega)];rfl
  ·
   have e:wri (.mk 2 0 dt [])=hd 2 dt.length++dt:=by rw[wri,if_neg (by decide),if_pos (.inl rfl)];rfl
   rw[e,List.append_assoc]
   have ht:Qe4 2 dt.length (p+1) (dt++m)=.ok (.mk 2 0 dt [],p+1,m):=by
    rw[Qe4,if_neg (by omega),if_neg (by simp),List.take_left' rfl,List.drop_left' rfl];rfl
   cases d with
   | zero=>rw[dec,Qct _ _ _ _ _ _ (.inr (.inl rfl)) hdl (by omega) (by omega),if_neg (by decide),if_neg (by decide),ht];rfl
   | succ d=>rw[dec,Qct _ _ _ _ _ _ (.inr (.inl rfl)) hdl (by omega) (by omega),if_neg (by decide),if_neg (by decide),ht];rfl
  ·
   have e:wri (.mk 3 0 dt [])=hd 3 dt.length++dt:=by rw[wri,if_neg (by decide),if_pos (.inr rfl)];rfl
   rw[e,List.append_assoc]
   have ht:Qe4 3 dt.length (p+1) (dt++m)=.ok (.mk 3 0 dt [],p+1,m):=by
    rw[Qe4,List.take_left' rfl,if_neg (by rw[hpl];simp),if_neg (by simp),List.drop_left' rfl];rfl
   cases d with
   | zero=>rw[dec,Qct _ _ _ _ _ _ (.inr (.inr (.inl rfl))) hdl (by omega) (by omega),if_neg (by decide),if_neg (by decide),ht];rfl
   | succ d=>rw[dec,Qct _ _ _ _ _ _ (.inr (.inr (.inl rfl))) hdl (by omega) (by omega),if_neg (by decide),if_neg (by decide),ht];rfl
  ·
   have e:wri (.mk 4 0 [] l)=hd 4 l.length++wrs l:=by rw[wri,if_neg (by decide),if_neg (by decide),if_pos rfl]
   rw[e,List.append_assoc]
   cases d with
   | zero=>simp at hd'
   | succ d =>
    rw[dec,Qct _ _ _ _ _ _ (.inr (.inr (.inr rfl))) hll (by omega) (fun _=>rfl),if_neg (by decide),if_pos rfl,Qp2 l d (p+1) m hr.2 hss (by simpa using hd') (by omega)]
    simp only[par];congr 3
    omega
  ·
   have e:wri (.mk 5 0 [] l)=0x9f::(wrs l++[0xff]):=by rw[wri,if_neg (by decide),if_neg (by decide),if_neg (by decide)]
   rw[e,List.cons_append,List.append_assoc,List.singleton_append]
   cases d with
   | zero=>simp at hd'
   | succ d =>
    have hf:=Qs0 l;rw[dec,Qco,if_neg (by simp;omega),if_pos rfl,Qql l d (p+1) _ m hr.2 hss (by simpa using hd') (by omega) (by simp;omega)]
    simp only[par];congr 3
    omega
theorem Qp2:∀ (l:List Itm) (d p:Nat) (m:LB),Qan l=true→Qja l→Qcb l≤d→p+Qa5 l≤4096→Qg4 (dec d) l.length p (wrs l++m)=.ok (l,p+Qa5 l,m)
 | [],d,p,m,_,_,_,_=>by simp[Qg4,wrs,Qa5]
 | x::r,d,p,m,hr,hs,hd',hp=>by
  rw[Qan,Bool.and_eq_true] at hr
  rw[Qja] at hs
  rw[Qcb] at hd'
  rw[Qa5] at hp
  rw[List.length_cons,wrs,List.append_assoc,Qg4,Qm8 x d p _ hr.1 hs.1 (by omega) (by omega)]
  simp only;rw[Qp2 r d (p+par x) m hr.2 hs.2 (by omega) (by omega)]
  simp only[Qa5];congr 3
  omega
theorem Qql:∀ (l:List Itm) (d p f:Nat) (m:LB),Qan l=true→Qja l→Qcb l≤d→p+Qa5 l≤4096→l.length<f→Qez (dec d) f p (wrs l++(0xff::m))=.ok (l,p+Qa5 l,m)
 | [],d,p,f,m,_,_,_,_,hf=>by
  cases f with
  | zero=>omega
  | succ f=>simp[Qez,wrs,Qa5]
 | x::r,d,p,f,m,hr,hs,hd',hp,hf=>by
  rw[Qan,Bool.and_eq_true] at hr
  rw[Qja] at hs
  rw[Qcb] at hd'
  rw[Qa5] at hp
  rw[List.length_cons] at hf
  obtain⟨c,t,hw,hne⟩:=Qww x;cases f with
  | zero=>omega
  | succ f =>
   have h1:=Qm8 x d p (wrs r++0xff::m) hr.1 hs.1 (by omega) (by omega);rw[hw,List.cons_append] at h1
   rw[wrs,List.append_assoc,hw,List.cons_append,Qez,if_neg hne,h1]
   simp only;rw[Qql r d (p+par x) f m hr.2 hs.2 (by omega) (by omega) (by omega)]
   simp only[Qa5];congr 3
   omega
end
def Qwp(d:Nat)(sub:Nat→List UInt8→Except Int (Itm×Nat×List UInt8)):Prop :=
 ∀ p l x p' r,p≤4096→sub p l=.ok (x,p',r)→l=wri x++r∧Qbd x=true∧Siz x∧dep x≤d∧p'=p+par x∧p'≤4096
theorem Qoj:∀ x:Itm,1≤par x
 | .mk _ _ _ _=>by rw[par];omega
theorem Qdy:∀ l:List Itm,l.length≤Qa5 l
 | []=>Nat.le_refl _
 | x::r=>by have:=Qoj x;have:=Qdy r;rw[Qa5,List.length_cons];omega
theorem Quo{d:Nat}{sub:Nat→List UInt8→Except Int (Itm×Nat×List UInt8)}(hs:Qwp d sub):∀ (n p:Nat) (l:LB) (xs:List Itm) (p':Nat) (r:LB),p≤4096→Qg4 sub n p l=.ok (xs,p',r) →
  l=wrs xs++r∧xs.length=n∧Qan xs=true∧Qja xs∧Qcb xs≤d∧p'=p+Qa5 xs∧p'≤4096
 | 0,p,l,xs,p',r,hp,h=>by
  rw[Qg4] at h
  cases h
  exact⟨rfl,rfl,rfl,trivial,Nat.zero_le _,rfl,hp⟩
 | n+1,p,l,xs,p',r,hp,h=>by
  rw[Qg4] at h
  split at h
  ·
   cases h
  next x p1 l1 h1 =>
  split at h
  ·
   cases h
  next ys p2 l2 h2 =>
  cases h
  obtain⟨rfl,a2,a3,a4,rfl,a6⟩:=hs _ _ _ _ _ hp h1;obtain⟨rfl,b1,b2,b3,b4,rfl,b6⟩:=Quo hs n _ _ _ _ _ a6 h2;refine⟨?_,?_,?_,⟨a3,b3⟩,?_,?_,b6⟩
  ·
   rw[wrs,List.append_assoc]
  ·
   rw[List.length_cons,b1]
  ·
   rw[Qan,a2,b2];rfl
  ·
   rw[Qcb];omega
  ·
   rw[Qa5];omega
theorem Qvv{d:Nat}{sub:Nat→List UInt8→Except Int (Itm×Nat×List UInt8)}(hs:Qwp d sub):∀ (f p:Nat) (l:LB) (xs:List Itm) (p':Nat) (r:LB),p≤4096→Qez sub f p l=.ok (xs,p',r) →
  l=wrs xs++0xff::r∧Qan xs=true∧Qja xs∧Qcb xs≤d∧p'=p+Qa5 xs∧p'≤4096
 | 0,p,l,xs,p',r,_,h=>by rw[Qez] at h;cases h
 | f+1,p,[],xs,p',r,_,h=>by rw[Qez] at h;cases h
 | f+1,p,c::t,xs,p',r,hp,h=>by
  rw[Qez] at h
  split at h
  next hc =>
   cases h
   subst hc;exact⟨rfl,rfl,trivial,Nat.zero_le _,rfl,hp⟩
  next hc =>
  split at h
  ·
   cases h
  next x p1 l1 h1 =>
  split at h
  ·
   cases h
  next ys p2 l2 h2 =>
  cases h
  obtain⟨e,a2,a3,a4,rfl,a6⟩:=hs _ _ _ _ _ hp h1;obtain⟨rfl,b2,b3,b4,rfl,b6⟩:=Qvv hs f _ _ _ _ _ a6 h2;refine⟨?_,?_,⟨a3,b3⟩,?_,?_,b6⟩
  ·
   rw[e,wrs,List.append_assoc]
  ·
   rw[Qan,a2,b2];rfl
  ·
   rw[Qcb];omega
  ·
   rw[Qa5];omega
theorem Qw1{m n p p':Nat}{r r':LB}{x:Itm}(hm:m=2∨m=3)(hn:n<18446744073709551616)(h:Qe4 m n p r=.ok (x,p',r')) :
  hd m n++r=wri x++r'∧Qbd x=true∧Siz x∧dep x=0∧par x=1∧p'=p:=by
 rw[Qe4] at h
 split at h
 ·
  cases h
 next h1 =>
 split at h
 ·
  cases h
 next h2 =>
 cases h
 have hl:(r.take n).length=n:=by rw[List.length_take];omega
 have hr:r=r.take n++r.drop n:=(List.take_append_drop n r).symm;generalize hd':r.take n=dt at *;generalize r.drop n=u at *;subst hr;rcases hm with rfl|rfl
 ·
  refine⟨?_,?_,⟨by decide,by omega,by decide,trivial⟩,rfl,rfl,rfl⟩
  ·
   rw[wri,if_neg (by decide),if_pos (.inl rfl),hl,List.append_assoc];rfl
  ·
   simp[Qbd,Qan,own]
 ·
  have hp:plain dt=true:=by
   rcases hb:plain dt with _|_
   ·
    exact absurd ⟨rfl,hb⟩ h1
   ·
    rfl
  refine⟨?_,?_,⟨by decide,by omega,by decide,trivial⟩,rfl,rfl,rfl⟩
  ·
   rw[wri,if_neg (by decide),if_pos (.inr rfl),hl,List.append_assoc];rfl
  ·
   simp[Qbd,Qan,own,hp]
theorem Qp8{d:Nat}{sub:Nat→List UInt8→Except Int (Itm×Nat×List UInt8)}{deep:Bool}(hs:Qwp d sub):Qwp (if deep then 0 else d+1) (Qco sub deep):=by
 intro p l x p' r hp h;cases l with
 | nil=>rw[Qco] at h;cases h
 | cons c t =>
 rw[Qco] at h
 split at h
 ·
  cases h
 next h0 =>
 have hp1:p+1≤4096:=by
  rcases Nat.lt_or_ge p 4096 with h7|h7
  ·
   exact h7
  ·
   exact absurd (.inl (by omega)) h0
 split at h
 next hc =>
  subst hc;split at h
  ·
   cases h
  next xs p2 l2 h2 =>
  cases h
  obtain⟨rfl,b2,b3,b4,rfl,b6⟩:=Qvv hs _ _ _ _ _ _ hp1 h2;have hd0:deep=false:=by
   rcases deep with _|_
   ·
    rfl
   ·
    exact absurd (.inr ⟨rfl,rfl⟩) h0
  have hl:=Qdy xs;refine⟨?_,?_,⟨by decide,by decide,?_,b3⟩,?_,?_,?_⟩
  ·
   rw[wri,if_neg (by decide),if_neg (by decide),if_neg (by decide),List.cons_append,List.append_assoc];rfl
  ·
   rw[Qbd,b2];rfl
  ·
   omega
  ·
   subst hd0;rw[dep];simp;omega
  ·
   rw[par];omega
  ·
   exact b6
 next hc =>
 split at h
 ·
  cases h
 next m n r1 h1 =>
 obtain⟨e,hn,hm⟩:=Qqf h1;rw[e]
 split at h
 next hm0 =>
  subst hm0;cases h
  refine⟨?_,?_,⟨hn,by decide,by decide,trivial⟩,?_,rfl,by omega⟩
  ·
   rw[wri,if_pos rfl]
  ·
   rfl
  ·
   show 0≤_;omega
 next hm0 =>
 split at h
 next hm4 =>
  subst hm4;split at h
  ·
   cases h
  next xs p2 l2 h2 =>
  cases h
  obtain⟨rfl,b1,b2,b3,b4,rfl,b6⟩:=Quo hs _ _ _ _ _ _ hp1 h2;subst b1;have hd0:deep=false:=by
   rcases deep with _|_
   ·
    rfl
   ·
    refine absurd (.inr ⟨?_,rfl⟩) h0;rw[Qo2] at e
    cases e
    rw[Qiz 4 _ (by decide)];rfl
  refine⟨?_,?_,⟨by decide,by decide,hn,b3⟩,?_,?_,?_⟩
  ·
   rw[wri,if_neg (by decide),if_neg (by decide),if_pos rfl,List.append_assoc]
  ·
   rw[Qbd,b2];rfl
  ·
   subst hd0;rw[dep];simp;omega
  ·
   rw[par];omega
  ·
   exact b6
 next hm4 =>
  obtain⟨a1,a2,a3,a4,a5,rfl⟩:=Qw1 (by omega) hn h;exact⟨a1,a2,a3,by omega,by omega,by omega⟩
theorem Qqp:∀ d:Nat,Qwp d (dec d)
 | 0=>Qp8 (deep:=true) (d:=0) (fun _ _ _ _ _ _ h=>by cases h)
 | d+1=>Qp8 (deep:=false) (Qqp d)
theorem Qfp{l r:LB}{k:Nat}(h:l.length≤k):(l++r).take k=l++r.take (k - l.length):=by
 rw[List.take_append,List.take_of_length_le h]
theorem Qeg{l r:LB}{k:Nat}(h:k≤l.length):(l++r).take k=l.take k:=by
 rw[List.take_append,show k - l.length=0 by omega,List.take_zero,List.append_nil]
theorem Qd6(sub:Nat→List UInt8→Except Int (Itm×Nat×List UInt8))(deep:Bool)(p m n cut:Nat)(hm:m=0∨m=2∨m=3∨m=4)(hp:p<4096)(h4:m=4→deep=false)(hc:cut<(hd m n).length) :
  Qco sub deep p ((hd m n).take cut)=.error 30:=by
 have hs:=Qo1 m n hm cut hc;cases cut with
 | zero=>rfl
 | succ j =>
  have e:(hd m n).take (j+1)=UInt8.ofNat (32*m+Qdq n)::(be n (hsz n)).take j:=rfl;rw[e] at hs ⊢
  have hno:¬ (p=4096∨(decide (m=4)=true∧deep=true)):=by
   rintro (h|⟨h,h'⟩)
   ·
    omega
   ·
    rw[h4 (by simpa using h)] at h';cases h'
  rw[Qco,Qiz m n (by omega),if_neg hno,if_neg (Qf6 m n (by omega)).1,hs]
theorem Qrq(d:LB)(k:Nat)(h:plain d=true):plain (d.take k)=true:=by
 unfold plain at *;rw[List.all_eq_true] at *
 exact fun c hc=>h c (List.mem_of_mem_take hc)
theorem Qhx(m n p:Nat)(d:LB)(h:d.length<n)(hp:m=3→plain d=true):Qe4 m n p d=.error 30:=by
 rw[Qe4,List.take_of_length_le (by omega),if_neg (by rintro ⟨h1,h2⟩;rw[hp h1] at h2;cases h2),if_pos h]
mutual
theorem Qm9:∀ (x:Itm) (d p cut:Nat),Qbd x=true→Siz x→dep x≤d→p+par x≤4096→cut<(wri x).length→dec d p ((wri x).take cut)=.error 30
 | .mk k n dt l,d,p,cut,hr,hs,hd',hp,hc=>by
  rw[Qbd,Bool.and_eq_true] at hr
  rw[Siz] at hs
  rw[dep] at hd'
  rw[par] at hp
  obtain⟨hn,hdl,hll,hss⟩:=hs;have hdec:∀ P:(Nat→List UInt8→Except Int (Itm×Nat×List UInt8))→Prop,(∀ sub deep,(Qcb l+(if k=4∨k=5 then 1 else 0)=0→True)→(k=4∨k=5→deep=false)→P (Qco sub deep))→P (dec d):=by
   intro P hP;cases d with
   | zero =>
    rw[dec]
    refine hP _ _ (fun _=>trivial) (fun hk=>?_);rw[if_pos hk] at hd'
    omega
   | succ d=>rw[dec];exact hP _ _ (fun _=>trivial) (fun _=>rfl)
  rcases Qk0 hr.1 with ⟨rfl,rfl,rfl⟩|⟨rfl,rfl,rfl⟩|⟨rfl,rfl,rfl,hpl⟩|⟨rfl,rfl,rfl⟩|⟨rfl,rfl,rfl⟩
  ·
   have e:wri (.mk 0 n [] [])=hd 0 n:=by rw[wri,if_pos rfl]
   rw[e] at hc ⊢
   exact hdec (fun D=>D p ((hd 0 n).take cut)=.error 30) (fun sub deep _ _=>Qd6 sub deep p 0 n cut (.inl rfl) (by omega) (by omega) hc)
  ·
   have e:wri (.mk 2 0 dt [])=hd 2 dt.length++dt:=by rw[wri,if_neg (by decide),if_pos (.inl rfl)];rfl
   rw[e] at hc ⊢
   refine hdec (fun D=>D p ((hd 2 dt.length++dt).take cut)=.error 30) (fun sub deep _ _=>?_);rcases Nat.lt_or_ge cut (hd 2 dt.length).length with h|h
   ·
    rw[Qeg (by omega)]
    exact Qd6 sub deep p 2 _ cut (.inr (.inl rfl)) (by omega) (by omega) h
   ·
    rw[List.length_append] at hc
    rw[Qfp h,Qct _ _ _ _ _ _ (.inr (.inl rfl)) hdl (by omega) (by omega),if_neg (by decide),if_neg (by decide),Qhx _ _ _ _ (by rw[List.length_take];omega) (by omega)]
  ·
   have e:wri (.mk 3 0 dt [])=hd 3 dt.length++dt:=by rw[wri,if_neg (by decide),if_pos (.inr rfl)];rfl
   rw[e] at hc ⊢
   refine hdec (fun D=>D p ((hd 3 dt.length++dt).take cut)=.error 30) (fun sub deep _ _=>?_);rcases Nat.lt_or_ge cut (hd 3 dt.length).length with h|h
   ·
    rw[Qeg (by omega)]
    exact Qd6 sub deep p 3 _ cut (.inr (.inr (.inl rfl))) (by omega) (by omega) h
   ·
    rw[List.length_append] at hc
    rw[Qfp h,Qct _ _ _ _ _ _ (.inr (.inr (.inl rfl))) hdl (by omega) (by omega),if_neg (by decide),if_neg (by decide),Qhx _ _ _ _ (by rw[List.length_take];omega) (fun _=>Qrq _ _ hpl)]
  ·
   have e:wri (.mk 4 0 [] l)=hd 4 l.length++wrs l:=by rw[wri,if_neg (by decide),if_neg (by decide),if_pos rfl]
   rw[e] at hc ⊢
   rcases Nat.lt_or_ge cut (hd 4 l.length).length with h|h
   ·
    rw[Qeg (by omega)]
    exact hdec (fun D=>D p ((hd 4 l.length).take cut)=.error 30) (fun sub deep _ h4=>Qd6 sub deep p 4 _ cut (.inr (.inr (.inr rfl))) (by omega) (fun _=>h4 (.inl rfl)) h)
   ·
    rw[List.length_append] at hc
    cases d with
    | zero=>simp at hd'
    | succ d =>
     rw[Qfp h,dec,Qct _ _ _ _ _ _ (.inr (.inr (.inr rfl))) hll (by omega) (fun _=>rfl),if_neg (by decide),if_pos rfl,
      Qj5 l d (p+1) _ hr.2 hss (by simpa using hd') (by omega) (by omega)]
  ·
   have e:wri (.mk 5 0 [] l)=0x9f::(wrs l++[0xff]):=by rw[wri,if_neg (by decide),if_neg (by decide),if_neg (by decide)]
   rw[e] at hc ⊢
   cases cut with
   | zero=>exact hdec (fun D=>D p []=.error 30) (fun sub deep _ _=>rfl)
   | succ j =>
    cases d with
    | zero=>simp at hd'
    | succ d =>
     rw[List.take_succ_cons,dec,Qco,if_neg (by simp;omega),if_pos rfl,Qkc l d (p+1) _ j hr.2 hss (by simpa using hd') (by omega) (by simp at hc;omega)]
theorem Qj5:∀ (l:List Itm) (d p cut:Nat),Qan l=true→Qja l→Qcb l≤d→p+Qa5 l≤4096→cut<(wrs l).length→Qg4 (dec d) l.length p ((wrs l).take cut)=.error 30
 | [],d,p,cut,_,_,_,_,hc=>absurd hc (Nat.not_lt_zero _)
 | x::r,d,p,cut,hr,hs,hd',hp,hc=>by
  rw[Qan,Bool.and_eq_true] at hr
  rw[Qja] at hs
  rw[Qcb] at hd'
  rw[Qa5] at hp
  rw[wrs] at hc ⊢
  rw[List.length_cons,Qg4]
  rcases Nat.lt_or_ge cut (wri x).length with h|h
  ·
   rw[Qeg (by omega),Qm9 x d p cut hr.1 hs.1 (by omega) (by omega) h]
  ·
   rw[List.length_append] at hc
   rw[Qfp h,Qm8 x d p _ hr.1 hs.1 (by omega) (by omega)]
   simp only;rw[Qj5 r d (p+par x) _ hr.2 hs.2 (by omega) (by omega) (by omega)]
theorem Qkc:∀ (l:List Itm) (d p f cut:Nat),Qan l=true→Qja l→Qcb l≤d→p+Qa5 l≤4096→cut≤(wrs l).length→Qez (dec d) f p ((wrs l++[0xff]).take cut)=.error 30
 | _,d,p,0,cut,_,_,_,_,hc=>by rw[Qez]
 | l,d,p,f+1,0,_,_,_,_,hc=>by rw[List.take_zero,Qez]
 | [],d,p,f+1,cut+1,_,_,_,_,hc=>by simp[wrs] at hc
 | x::r,d,p,f+1,cut+1,hr,hs,hd',hp,hc=>by
  rw[Qan,Bool.and_eq_true] at hr
  rw[Qja] at hs
  rw[Qcb] at hd'
  rw[Qa5] at hp
  rw[wrs] at hc ⊢
  obtain⟨c,t,hw,hne⟩:=Qww x;rcases Nat.lt_or_ge (cut+1) (wri x).length with h|h
  ·
   have h1:=Qm9 x d p (cut+1) hr.1 hs.1 (by omega) (by omega) h;rw[hw,List.take_succ_cons] at h1
   rw[List.append_assoc,Qeg (by omega),hw,List.take_succ_cons,Qez,if_neg hne,h1]
  ·
   rw[List.length_append] at hc
   have h1:=Qm8 x d p ((wrs r++[0xff]).take (cut+1 - (wri x).length)) hr.1 hs.1 (by omega) (by omega);have h2:Qez (dec d) f (p+par x) ((wrs r++[0xff]).take (cut+1 - (wri x).length))=.error 30:=Qkc r d (p+par x) f _ hr.2 hs.2 (by omega) (by omega) (by omega);rw[List.append_assoc,Qfp h,hw,List.cons_append,Qez,if_neg hne,← List.cons_append,← hw,h1]
   simp only;rw[h2]
end
open Go.RowKit
open Go.Lib (decDigits nDigits nDigits_small nDigits_big nDigits_pos decDigits_length)
theorem Qqz(l:LB):∀ u∈l.map bv,u.oneCell'=true:=by
 intro u hu;obtain⟨x,_,rfl⟩:=List.mem_map.1 hu;rfl
def Ob(w:World)(base:Nat)(t:TypeId)(v:Value)(l:LB):Prop:=w.ownsRow base t 1 v l.length (l.map bv)
section
variable {w w':World}{base:Nat}{t:TypeId}{v:Value}{l:LB}
theorem Ob.nil_(w:World)(base:Nat)(t:TypeId):Ob w base t (.slice none 0 0) []:=World.ownsRow_nil w base t 1
theorem Ob.lit(w:World)(l:LB)(cs:Array Value)(hcs:cs=(l.map bv).toArray)(hb:base≤w.heap.size)(n:Nat)(hn:l.length=n)(hm:n≤maxLen):Ob (w.alloc (.cells cs t)) base t (.slice (some ⟨w.heap.size,0,none⟩) n n) l:=by
 subst hcs hn;have h:=World.ownsRow_lit (e:=t) (size:=1) w (l.map bv).toArray l.length hb hm (by simp);exact h
theorem Ob.alloc(h:Ob w base t v l)(o:Obj):Ob (w.alloc o) base t v l:=World.ownsRow.alloc h o
theorem Ob.drew(h:Ob w base t v l):Ob w.drew base t v l:=h
theorem Ob.kept{row:Option Nat}(h:Ob w base t v l)(hg:w.grownBy w' row)(hne:v.ownBlock=none∨v.ownBlock≠row):Ob w' base t v l:=World.ownsRow.kept h hg hne
theorem Ob.below(h:Ob w base t v l)(hb:Below w.heap.size w w'):Ob w' base t v l :=
 World.ownsRow.kept h (row:=none) ⟨hb.os,hb.tape,hb.output,hb.size,fun k hk _=>hb.block k hk⟩ (by cases v.ownBlock <;> simp)
theorem Ob.rd(h:Ob w base t v l):∃ (A:OA) (c:Nat),v=.slice A l.length c∧l.length≤c∧c≤maxLen∧Rd w w.heap.size A l.length l:=by
 rcases h.2 with ⟨hv,h0⟩|⟨g,cap,cur,hv,_,hg,hn,hm,_⟩
 ·
  have e:l=[]:=List.eq_nil_of_length_eq_zero h0;subst e;exact⟨none,0,hv,Nat.le_refl _,by decide,Rd.nil_⟩
 ·
  refine⟨some ⟨g,0,none⟩,cap,hv,hn,hm,rfl,fun h0=>⟨g,0,rfl,?_,fun i hi=>?_⟩⟩
  ·
   have hb:v.ownBlock=some g:=by rw[hv];rfl
   exact(World.ownsRow.lt h g hb).2
  ·
   have hc:=World.ownsRow.cells h (g:=g) (by rw[hv];rfl) i (bv l[i]) (by simp[hi]);simp only[List.getD,List.getElem?_eq_getElem hi];unfold Addr.add at hc;by_cases h0:i=0
   ·
    subst h0;simpa [bv] using hc
   ·
    rw[if_neg h0] at hc;simpa [bv] using hc
end
section
variable {w w':World}{base:Nat}{t:TypeId}{v:Value}{l:LB}
theorem Ob.form(h:Ob w base t v l)(h0:0<l.length):∃ g cap,v=.slice (some ⟨g,0,none⟩) l.length cap∧base≤g∧g<w.heap.size∧l.length≤cap:=by
 rcases h.2 with ⟨_,hn⟩|⟨g,cap,cur,hv,hbg,_,hn,_⟩
 ·
  omega
 ·
  exact⟨g,cap,hv,hbg,(World.ownsRow.lt h g (by rw[hv];rfl)).2,hn⟩
theorem Ob.rd_{A:OA}{n cap:Nat}(h:Ob w base t (.slice A n cap) l):l.length=n∧Rd w w.heap.size A n l∧n≤cap∧cap≤maxLen:=by
 obtain⟨A2,c2,hv,hc,hm,hr⟩:=h.rd;injection hv with h1 h2 h3
 subst h1 h2 h3;exact⟨rfl,hr,hc,hm⟩
variable {g cap n:Nat}
theorem Ob.cell(h:Ob w base t (.slice (some ⟨g,0,none⟩) n cap) l)(hn:l.length=n){j:Nat}(hj:j<n):w.cell? ⟨g,j,none⟩=some (.int .u8 ((l.getD j 0).toNat:Int)):=by
 subst hn;have:=World.ownsRow.cellAt h j (by omega)
 rw[this]
 simp[List.getD,hj,bv]
theorem Ob.frozen(h:Ob w base t (.slice (some ⟨g,0,none⟩) n cap) l)(hn:l.length=n)(j:Nat):w.frozen? ⟨g,j,none⟩=false:=by
 subst hn;exact World.ownsRow.frozenAt h j
theorem Ob.stored(h:Ob w base t (.slice (some ⟨g,0,none⟩) n cap) l)(hn:l.length=n)(j:Nat)(x:UInt8){u:Value}(hu:u=.int .u8 (x.toNat:Int)):Ob (w.setCell ⟨g,j,none⟩ u) base t (.slice (some ⟨g,0,none⟩) n cap) (l.set j x):=by
 subst hn hu;have:=World.ownsRow.stored h j (bv x)
 unfold Ob;rw[List.length_set,List.map_set]
 exact this.1
end
section
variable {P:Program}(w:World)
theorem Ql8(base:Nat)(t ty e:TypeId)(i:TypeInfo)(ht:P.underlying t=some (.slice e))(hi:P.info? e=some i)(v:Value)(l:LB)(hown:Ob w base e v l)(c:Nat) :
  (Builtin.append_ #[t,t] ty #[v,.slice none 0 c]).run P w=.ok v w:=by
 rcases hown.2 with ⟨rfl,hn⟩|⟨g,cap,cur,rfl,_,_,hnc,_⟩
 ·
  simp[Builtin.append_,run_underlying ht,sizeOf,typeInfo,hi,Builtin.lenOf,Builtin.firstCells]
 ·
  simp[Builtin.append_,run_underlying ht,sizeOf,typeInfo,hi,Builtin.lenOf,Builtin.firstCells,hnc,storeCells]
theorem Qkt(base:Nat)(t ty e:TypeId)(ht:P.underlying t=some (.slice e))(hinfo:(P.info? e).map (fun i=>(i.zero,i.size,i.bytes))=some (some (.int .u8 0),1,1))
  (v:Value) (l:LB) (hown:Ob w base e v l) (B:Nat) (A:OA) (m c:Nat) (news:LB) (hr:Rd w B A m news) (hbound:l.length+m≤140737488355328) (hbase:base≤w.heap.size) :
  ∃ v' w',(Builtin.append_ #[t,t] ty #[v,.slice A m c]).run P w=.ok v' w'∧Ob w' base e v' (l++news)∧w.grownBy w' v.ownBlock∧(v'.ownBlock=v.ownBlock∨v'.ownBlock=some w.heap.size):=by
 obtain⟨i,hi,hzz⟩:=Option.map_eq_some_iff.1 hinfo;simp only[Prod.mk.injEq] at hzz;obtain⟨hz,hs,hb⟩:=hzz;have hlen:=hr.1;rcases A with _|ad
 ·
  have h0:m=0:=by
   rcases Nat.eq_zero_or_pos m with h|h
   ·
    exact h
   ·
    obtain⟨_,_,h',_⟩:=hr.2 h;cases h'
  subst h0;have hn:news=[]:=List.eq_nil_of_length_eq_zero hlen;subst hn;exact⟨v,w,Ql8 w base t ty e i ht hi v l hown c,by simpa using hown,World.grownBy.refl w _,.inl rfl⟩
 ·
  have hcells:∀ j u,(news.map bv)[j]?=some u→w.cell? (ad.add j)=some u:=by
   intro j u hu;rcases Nat.eq_zero_or_pos m with h0|h0
   ·
    have hn:news=[]:=List.eq_nil_of_length_eq_zero (by omega);subst hn;simp at hu
   ·
    obtain⟨b,o,e1,_,hc⟩:=hr.2 h0;injection e1 with e1
    subst e1;have hj:j<news.length:=by
     rcases Nat.lt_or_ge j news.length with h|h
     ·
      exact h
     ·
      rw[List.getElem?_eq_none (by simpa using h)] at hu;cases hu
    have h:=hc j (by omega);have ea:(⟨b,o,none⟩:Addr).add j=⟨b,o+j,none⟩:=by unfold Addr.add;split <;> simp_all
    rw[ea,h,← hu]
    simp[List.getD,hj,bv]
  obtain⟨v',w',hrun,h2,h3,_,h5⟩:=run_append_own_at (P:=P) w base t ty e i (.int .u8 0) 1 1 ht hi hz hs hb rfl (by decide) v l.length (l.map bv) hown ad m c (news.map bv) (by simp[hlen]) hcells (Qqz news)
   (by unfold maxLen;omega) (by omega) hbase
  refine⟨v',w',hrun,?_,h3,h5⟩;unfold Ob;rw[List.length_append,hlen,List.map_append]
  exact h2
theorem Qjn{w:World}{ops:Array Oper}{rest:List Oper}{o:Oper}{a:Act}{Q:Exit→Act→World→Prop}(hgd:o.guard=none)(s x:Operand)(t:TypeId)
  (ho:o.op=.call { callee:=.builtin .append,args:=#[s,x],argTypes:=#[t,t] })
  (base:Nat) (e:TypeId) (ht:P.underlying t=some (.slice e)) (hinfo:(P.info? e).map (fun i=>(i.zero,i.size,i.bytes))=some (some (.int .u8 0),1,1))
  (v:Value) (l:LB) (hs:a.eval s=v) (hown:Ob w base e v l) (B:Nat) (A:OA) (m c:Nat) (news:LB) (hx:a.eval x=.slice A m c) (hr:Rd w B A m news)
  (hbound:l.length+m≤140737488355328) (hbase:base≤w.heap.size)
  (h:∀ v' w',Ob w' base e v' (l++news)→w.grownBy w' v.ownBlock→(v'.ownBlock=v.ownBlock∨v'.ownBlock=some w.heap.size)→wpList P ops Q rest (a.put o.dst v') w'):wpList P ops Q (o::rest) a w:=by
 refine wpList_plain hgd fun K hK=>?_
 obtain⟨v',w',hrun,h2,h3,h4⟩:=Qkt (P:=P) w base t o.type e ht hinfo v l hown B A m c news hr hbound hbase;unfold Oper.wp execOp;simp only[ho,resolve,invoke,builtin,Sem.run_bind,Sem.run_pure,Result.andThen_ok,List.map_toArray,List.map_cons,List.map_nil,hs,hx,hrun];exact hK _ _ (h v' w' h2 h3 h4)
theorem Qaa(w:World)(o:Obj):w.heap.size≤(w.alloc o).heap.size:=by simp
theorem Qam{w:World}{ops:Array Oper}{rest:List Oper}{o:Oper}{a:Act}{Q:Exit→Act→World→Prop}(hgd:o.guard=none)(s x:Operand)(t:TypeId)
  (ho:o.op=.call { callee:=.builtin .append,args:=#[s,x],argTypes:=#[t,t] })
  (base:Nat) (e:TypeId) (ht:P.underlying t=some (.slice e)) (hinfo:(P.info? e).map (fun i=>(i.zero,i.size,i.bytes))=some (some (.int .u8 0),1,1))
  (v:Value) (l:LB) (hs:a.eval s=v) (hown:Ob w base e v l) (B:Nat) (A:OA) (m c:Nat) (news:LB) (hx:a.eval x=.slice A m c) (hr:Rd w B A m news)
  (hbound:l.length+m≤140737488355328) (hbase:base≤w.heap.size)
  (h:∀ v' w',Ob w' base e v' (l++news)→Below base w w'→wpList P ops Q rest (a.put o.dst v') w'):wpList P ops Q (o::rest) a w :=
 Qjn hgd s x t ho base e ht hinfo v l hs hown B A m c news hx hr hbound hbase fun v' w' h1 h2 _ =>
  h v' w' h1 ⟨h2.os,h2.tape,h2.output,h2.size,fun k hk=>h2.block k (by omega) (fun e=>by have:=(World.ownsRow.lt hown k e.symm).1;omega)⟩
end
theorem Qkf(W:World)(s:ByteArray):∃ (c:Nat) (W':World),(convert 9 29 (.string s)).run Tryz.prog W=.ok (.slice (some ⟨W.heap.size,0,none⟩) s.size c) W' ∧
  Rd W' (W.heap.size+1) (some ⟨W.heap.size,0,none⟩) s.size s.data.toList∧s.size≤c∧Below W.heap.size W W'∧W'.heap.size=W.heap.size+1:=by
 refine⟨_,_,run_bytes_of_string W _ _ 5 s Tryz.underlying9 Tryz.underlying29 Tryz.underlying5,⟨by simp,fun _=>⟨_,0,rfl,Nat.lt_succ_self _,fun i hi=>?_⟩⟩,?_,?_,?_⟩
 ·
  rw[Nat.zero_add]
  have h:=World.cell?_alloc_mark W.drew (bytesRow s (grownCap W s.size 0 5)) 5 ((bytesRow s (grownCap W s.size 0 5)).size,(bytesRow s (grownCap W s.size 0 5)).size+1) i;refine Eq.trans h ?_;have hi':i<s.data.size:=hi;unfold bytesRow;rw[Array.getElem?_append_left (by simpa using hi')]
  simp only[Array.getElem?_map,Array.getElem?_eq_getElem hi',Option.map_some,List.getD,Array.getElem?_toList,Option.getD_some]
 ·
  exact grownCap_ge W s.size 0 _
 ·
  exact((Below.refl W.heap.size W).drew).alloc zr _
 ·
  simp
open Go.Lib (hid)
theorem Qof(x size:Int)(w:World)(hx0:0≤x)(_hx1:x<18446744073709551616) :
  Calls Tryz.prog 157 #[.int .u64 x,.int .i64 size] w fun e w' =>
   e=.returned (.slice (some ⟨w.heap.size,0,none⟩) (psz size) (psz size))∧Rb w' w.heap.size 5 (psz size) (be x.toNat (psz size))∧Below w.heap.size w w':=by
 have hsz:=Q15 size;have hle:=Q14 size;generalize psz size=n at *;have hmk:=fun (w:World)=>run_make_row' (P:=Tryz.prog) 29 5 (.int .u8 0) 1 rfl Qak rfl .i64 .i64 n (by omega) (by omega) w
 go_enter Tryz.func157,Tryz.ntmps157;go_wp2
 go_loopw [13] (fun i wr=>∃ k:Nat,k≤n∧i=.int .i64 k∧Hid (wr.rowIs w.heap.size 5 n (Qia x.toNat n k))∧Hid (Below w.heap.size w wr))
  (fun i _=>n - (intOf i).toNat)
 case atStart=>exact⟨0,Nat.zero_le _,rfl,(World.rowIs_made _ _ _ _).congr (fun j hj=>by simp[Qia];omega),zb⟩
 case round =>
  obtain⟨k,hk,rfl,hrow,hbel⟩:=hrel;by_cases hlt:k<n
  ·
   have hf1:wr.frozen? ⟨w.heap.size,n - 1 - k,none⟩=false:=World.rowIs.frozen hrow.out _;have hc1:wr.cell? ⟨w.heap.size,n - 1 - k,none⟩=some _:=World.rowIs.cell hrow.out (by omega);go_wp2_with fail;go_roundw
   case rel =>
    refine⟨k+1,by omega,by go_num,(World.rowIs.set hrow.out _ _).congr fun j hj=>?_,hbel.out.setCell (by simp) _⟩;exact Qog x hx0 n k j hlt hj
   case measure=>simp[intOf];omega
  ·
   obtain rfl:k=n:=by omega
   have hr:Rb wr w.heap.size 5 k (be x.toNat k):=hrow.out.congr fun j hj=>Qrl x.toNat k j hj
   have HR:=hid hr;clear hr;go_wp2
   go_ret;exact⟨rfl,HR.out,hbel.out⟩
theorem Qvm(A:OA)(n c:Nat)(l:LB)(w:World)(B:Nat)(h:Rd w B A n l)(hn:n≤9223372036854775807)(hc:n≤c)(hc2:c≤9223372036854775807) :
  Calls Tryz.prog 185 #[.slice A n c] w fun e w'=>e=.returned (.int .u64 (Qc3 (l.drop (n - 8)):Int))∧w=w':=by
 obtain⟨A',c',hsl,hr⟩:=Q01 (P:=Tryz.prog) 29 5 rfl Qdc c h (max ((n:Int) - 8) 0) (n - 8) (by omega) (by omega) hc;have hl8:n - (n - 8)≤8:=by omega
 generalize hm:n - (n - 8)=m at *;generalize l.drop (n - 8)=L at *;have HR:=hid hr.2.2;clear h hc hr;go_enter Tryz.func185,Tryz.ntmps185;go_wp2
 go_loop [4,14] (fun v i=>∃ k:Nat,k≤m∧i=.int .i64 k∧v=.int .u64 (Qc3 (L.take k):Int)) (fun _ i=>m - (intOf i).toNat)
 case atStart=>exact⟨0,Nat.zero_le _,rfl,by simp[Qc3]⟩
 case round =>
  obtain⟨k,hk,rfl,rfl⟩:=hrel;by_cases hlt:k<m
  ·
   obtain⟨b,o,rfl,hb,hcell⟩:=HR.out.2 (by omega);obtain⟨x,hx⟩:∃ x,x=L.getD k 0:=⟨_,rfl⟩
   have hcx:w.cell? ⟨b,o+k,none⟩=some (.int .u8 (x.toNat:Int)):=by rw[hx];exact hcell k hlt
   have HC:=hid hcell;have Hx:=hid hx;clear hx hcell;have hx1:(x.toNat:Int)<256:=by have:=x.toNat_lt;omega
   have hx0:(0:Int)≤(x.toNat:Int):=by omega
   go_wp2_with fail;go_round
   case rel =>
    have hl:=HR.out.1;refine⟨k+1,by omega,by go_num,?_⟩;rw[Qdb L k (by omega),← Hx.out,Qc9,Q1v _ _ hx0 hx1]
    go_num
   case measure=>simp[intOf];omega
  ·
   obtain rfl:k=m:=by omega
   have hl:=HR.out.1;have e:L.take k=L:=List.take_of_length_le (by omega);have HE:=hid e;clear e hl;go_wp2
   go_ret;exact⟨by rw[HE.out];rfl,rfl⟩
end Go.Proofs.YtbnfkjkoinbkgaaGreatDoor
