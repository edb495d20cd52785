import Derived.Test.YtlecbblmaadpiaaGreatDoorKMask
import Derived.Test.YtlecbblmaadpiaaGreatDoorKNumE
import Derived.BigCall
namespace Go.Proofs.YtlecbblmaadpiaaGreatDoor
set_option maxRecDepth 100000
set_option maxHeartbeats 16000000
theorem own_kind {k:Int} {n:Nat} {d:List UInt8} {l:List Itm} (h:own k n d l=true) :
  (k=0∧d=[]∧l=[])∨(k=2∧n=0∧l=[])∨(k=3∧n=0∧l=[]∧plain d=true)∨(k=4∧n=0∧d=[])∨(k=5∧n=0∧d=[]):=by
 unfold own at h
 split at h
 next hk=>simp at h;exact .inl ⟨hk,h.1,h.2⟩
 next hk =>
 split at h
 next h2=>simp at h;exact .inr (.inl ⟨h2,h.1,h.2⟩)
 next h2 =>
 split at h
 next h3=>simp at h;exact .inr (.inr (.inl ⟨h3,h.1,h.2.1,h.2.2⟩))
 next h3 =>
 split at h
 next h4 =>
  simp at h
  rcases h4 with h4|h4
  ·
   exact .inr (.inr (.inr (.inl ⟨h4,h.1,h.2⟩)))
  ·
   exact .inr (.inr (.inr (.inr ⟨h4,h.1,h.2⟩)))
 next h4=>cases h
theorem hd_cons (m n:Nat) (r:List UInt8):hd m n++r=UInt8.ofNat (32*m+hlow n)::(be n (hsz n)++r):=rfl
theorem first_arr (m n:Nat) (hm:m≤4):arrB (UInt8.ofNat (32*m+hlow n))=decide (m=4):=by
 obtain ⟨h1,h2⟩:=hd_first m n hm
 have h27:=hlow_le n
 have h9:(UInt8.ofNat (32*m+hlow n)==0x9f)=false:=by
  rw [beq_eq_false_iff_ne]
  intro e
  rw [e] at h2
  have:(0x9f:UInt8).toNat % 32=31:=rfl
  omega
 unfold arrB
 rw [h9,h1,h2]
 by_cases h4:m=4 <;> simp [h4,h27]
theorem first_ne (m n:Nat) (hm:m≤4):UInt8.ofNat (32*m+hlow n)≠0x9f∧UInt8.ofNat (32*m+hlow n)≠0xff:=by
 obtain ⟨h1,h2⟩:=hd_first m n hm
 have h27:=hlow_le n
 constructor
 ·
  intro e;rw [e] at h2;have:(0x9f:UInt8).toNat % 32=31:=rfl;omega
 ·
  intro e;rw [e] at h2;have:(0xff:UInt8).toNat % 32=31:=rfl;omega
theorem itemD_hd (sub:Nat→List UInt8→Except Int (Itm×Nat×List UInt8)) (deep:Bool) (p m n:Nat) (r:List UInt8) (hm:m=0∨m=2∨m=3∨m=4) (hn:n<18446744073709551616) (hp:p<4096) (h4:m=4→deep=false) :
  itemD sub deep p (hd m n++r)=if m=0 then .ok (.mk 0 n [] [],p+1,r) else if m=4 then (match many sub n (p+1) r with | .error e=>.error e | .ok (xs,p2,l2)=>.ok (.mk 4 0 [] xs,p2,l2)) else textD m n (p+1) r:=by
 have hno:¬ (p=4096∨(decide (m=4)=true∧deep=true)):=by
  rintro (h|⟨h,h'⟩)
  ·
   omega
  ·
   rw [h4 (by simpa using h)] at h';cases h'
 rw [hd_cons,itemD,first_arr m n (by omega),if_neg hno,if_neg (first_ne m n (by omega)).1,← hd_cons,headD_hd m n r hm hn]
 rfl
mutual
theorem wr_ne:∀ x:Itm,∃ c r,wri x=c::r∧c≠0xff
 | .mk k n d l=>by
  rw [wri]
  split
  ·
   exact ⟨_,_,rfl,(first_ne 0 n (by decide)).2⟩
  split
  next h=>exact ⟨_,_,rfl,(first_ne k.toNat d.length (by omega)).2⟩
  split
  ·
   exact ⟨_,_,rfl,(first_ne 4 l.length (by decide)).2⟩
  ·
   exact ⟨_,_,rfl,by decide⟩
end
theorem wrs_len:∀ l:List Itm,l.length≤(wrs l).length
 | []=>Nat.le_refl _
 | x::r=>by
  obtain ⟨c,t,h,_⟩:=wr_ne x
  have:=wrs_len r
  rw [wrs,List.length_append,h]
  simp
  omega
/-! ### There -/
mutual
theorem dec_wr:∀ (x:Itm) (d p:Nat) (m:List UInt8),right x=true→Siz x→dep x≤d→p+par x≤4096→dec d p (wri x++m)=.ok (x,p+par x,m)
 | .mk k n dt l,d,p,m,hr,hs,hd',hp=>by
  rw [right,Bool.and_eq_true] at hr
  rw [Siz] at hs
  rw [dep] at hd'
  rw [par] at hp
  obtain ⟨hn,hdl,hll,hss⟩:=hs
  rcases own_kind hr.1 with ⟨rfl,rfl,rfl⟩|⟨rfl,rfl,rfl⟩|⟨rfl,rfl,rfl,hpl⟩|⟨rfl,rfl,rfl⟩|⟨rfl,rfl,rfl⟩
  ·
   have e:wri (.mk 0 n [] [])=hd 0 n:=by rw [wri,if_pos rfl]
   rw [e]
   cases d with
   | zero=>rw [dec,itemD_hd _ _ _ _ _ _ (.inl rfl) hn (by omega) (by omega)];rfl
   | succ d=>rw [dec,itemD_hd _ _ _ _ _ _ (.inl rfl) hn (by omega) (by omega)];rfl
  ·
   have e:wri (.mk 2 0 dt [])=hd 2 dt.length++dt:=by rw [wri,if_neg (by decide),if_pos (.inl rfl)];rfl
   rw [e,List.append_assoc]
   have ht:textD 2 dt.length (p+1) (dt++m)=.ok (.mk 2 0 dt [],p+1,m):=by
    rw [textD,if_neg (by omega),if_neg (by simp),List.take_left' rfl,List.drop_left' rfl];rfl
   cases d with
   | zero=>rw [dec,itemD_hd _ _ _ _ _ _ (.inr (.inl rfl)) hdl (by omega) (by omega),if_neg (by decide),if_neg (by decide),ht];rfl
   | succ d=>rw [dec,itemD_hd _ _ _ _ _ _ (.inr (.inl rfl)) hdl (by omega) (by omega),if_neg (by decide),if_neg (by decide),ht];rfl
  ·
   have e:wri (.mk 3 0 dt [])=hd 3 dt.length++dt:=by rw [wri,if_neg (by decide),if_pos (.inr rfl)];rfl
   rw [e,List.append_assoc]
   have ht:textD 3 dt.length (p+1) (dt++m)=.ok (.mk 3 0 dt [],p+1,m):=by
    rw [textD,List.take_left' rfl,if_neg (by rw [hpl];simp),if_neg (by simp),List.drop_left' rfl];rfl
   cases d with
   | zero=>rw [dec,itemD_hd _ _ _ _ _ _ (.inr (.inr (.inl rfl))) hdl (by omega) (by omega),if_neg (by decide),if_neg (by decide),ht];rfl
   | succ d=>rw [dec,itemD_hd _ _ _ _ _ _ (.inr (.inr (.inl rfl))) hdl (by omega) (by omega),if_neg (by decide),if_neg (by decide),ht];rfl
  ·
   have e:wri (.mk 4 0 [] l)=hd 4 l.length++wrs l:=by rw [wri,if_neg (by decide),if_neg (by decide),if_pos rfl]
   rw [e,List.append_assoc]
   cases d with
   | zero=>simp at hd'
   | succ d =>
    rw [dec,itemD_hd _ _ _ _ _ _ (.inr (.inr (.inr rfl))) hll (by omega) (fun _=>rfl),if_neg (by decide),if_pos rfl,many_wrs l d (p+1) m hr.2 hss (by simpa using hd') (by omega)]
    simp only [par]
    congr 3
    omega
  ·
   have e:wri (.mk 5 0 [] l)=0x9f::(wrs l++[0xff]):=by rw [wri,if_neg (by decide),if_neg (by decide),if_neg (by decide)]
   rw [e,List.cons_append,List.append_assoc,List.singleton_append]
   cases d with
   | zero=>simp at hd'
   | succ d =>
    have hf:=wrs_len l
    rw [dec,itemD,if_neg (by simp;omega),if_pos rfl,endl_wrs l d (p+1) _ m hr.2 hss (by simpa using hd') (by omega) (by simp;omega)]
    simp only [par]
    congr 3
    omega
theorem many_wrs:∀ (l:List Itm) (d p:Nat) (m:List UInt8),rights l=true→Sizs l→deps l≤d→p+pars l≤4096→many (dec d) l.length p (wrs l++m)=.ok (l,p+pars l,m)
 | [],d,p,m,_,_,_,_=>by simp [many,wrs,pars]
 | x::r,d,p,m,hr,hs,hd',hp=>by
  rw [rights,Bool.and_eq_true] at hr
  rw [Sizs] at hs
  rw [deps] at hd'
  rw [pars] at hp
  rw [List.length_cons,wrs,List.append_assoc,many,dec_wr x d p _ hr.1 hs.1 (by omega) (by omega)]
  simp only
  rw [many_wrs r d (p+par x) m hr.2 hs.2 (by omega) (by omega)]
  simp only [pars]
  congr 3
  omega
theorem endl_wrs:∀ (l:List Itm) (d p f:Nat) (m:List UInt8),rights l=true→Sizs l→deps l≤d→p+pars l≤4096→l.length<f→endl (dec d) f p (wrs l++(0xff::m))=.ok (l,p+pars l,m)
 | [],d,p,f,m,_,_,_,_,hf=>by
  cases f with
  | zero=>omega
  | succ f=>simp [endl,wrs,pars]
 | x::r,d,p,f,m,hr,hs,hd',hp,hf=>by
  rw [rights,Bool.and_eq_true] at hr
  rw [Sizs] at hs
  rw [deps] at hd'
  rw [pars] at hp
  rw [List.length_cons] at hf
  obtain ⟨c,t,hw,hne⟩:=wr_ne x
  cases f with
  | zero=>omega
  | succ f =>
   have h1:=dec_wr x d p (wrs r++0xff::m) hr.1 hs.1 (by omega) (by omega)
   rw [hw,List.cons_append] at h1
   rw [wrs,List.append_assoc,hw,List.cons_append,endl,if_neg hne,h1]
   simp only
   rw [endl_wrs r d (p+par x) f m hr.2 hs.2 (by omega) (by omega) (by omega)]
   simp only [pars]
   congr 3
   omega
end
/-! ### Back -/
def SubOk (d:Nat) (sub:Nat→List UInt8→Except Int (Itm×Nat×List UInt8)):Prop :=
 ∀ p l x p' r,p≤4096→sub p l=.ok (x,p',r)→l=wri x++r∧right x=true∧Siz x∧dep x≤d∧p'=p+par x∧p'≤4096
theorem par_pos:∀ x:Itm,1≤par x
 | .mk _ _ _ _=>by rw [par];omega
theorem pars_len:∀ l:List Itm,l.length≤pars l
 | []=>Nat.le_refl _
 | x::r=>by have:=par_pos x;have:=pars_len r;rw [pars,List.length_cons];omega
theorem many_ok {d:Nat} {sub:Nat→List UInt8→Except Int (Itm×Nat×List UInt8)} (hs:SubOk d sub):∀ (n p:Nat) (l:List UInt8) (xs:List Itm) (p':Nat) (r:List UInt8),p≤4096→many sub n p l=.ok (xs,p',r) →
  l=wrs xs++r∧xs.length=n∧rights xs=true∧Sizs xs∧deps xs≤d∧p'=p+pars xs∧p'≤4096
 | 0,p,l,xs,p',r,hp,h=>by
  rw [many] at h
  cases h
  exact ⟨rfl,rfl,rfl,trivial,Nat.zero_le _,rfl,hp⟩
 | n+1,p,l,xs,p',r,hp,h=>by
  rw [many] at h
  split at h
  ·
   cases h
  next x p1 l1 h1 =>
  split at h
  ·
   cases h
  next ys p2 l2 h2 =>
  cases h
  obtain ⟨rfl,a2,a3,a4,rfl,a6⟩:=hs _ _ _ _ _ hp h1
  obtain ⟨rfl,b1,b2,b3,b4,rfl,b6⟩:=many_ok hs n _ _ _ _ _ a6 h2
  refine ⟨?_,?_,?_,⟨a3,b3⟩,?_,?_,b6⟩
  ·
   rw [wrs,List.append_assoc]
  ·
   rw [List.length_cons,b1]
  ·
   rw [rights,a2,b2];rfl
  ·
   rw [deps];omega
  ·
   rw [pars];omega
theorem endl_ok {d:Nat} {sub:Nat→List UInt8→Except Int (Itm×Nat×List UInt8)} (hs:SubOk d sub):∀ (f p:Nat) (l:List UInt8) (xs:List Itm) (p':Nat) (r:List UInt8),p≤4096→endl sub f p l=.ok (xs,p',r) →
  l=wrs xs++0xff::r∧rights xs=true∧Sizs xs∧deps xs≤d∧p'=p+pars xs∧p'≤4096
 | 0,p,l,xs,p',r,_,h=>by rw [endl] at h;cases h
 | f+1,p,[],xs,p',r,_,h=>by rw [endl] at h;cases h
 | f+1,p,c::t,xs,p',r,hp,h=>by
  rw [endl] at h
  split at h
  next hc =>
   cases h
   subst hc
   exact ⟨rfl,rfl,trivial,Nat.zero_le _,rfl,hp⟩
  next hc =>
  split at h
  ·
   cases h
  next x p1 l1 h1 =>
  split at h
  ·
   cases h
  next ys p2 l2 h2 =>
  cases h
  obtain ⟨e,a2,a3,a4,rfl,a6⟩:=hs _ _ _ _ _ hp h1
  obtain ⟨rfl,b2,b3,b4,rfl,b6⟩:=endl_ok hs f _ _ _ _ _ a6 h2
  refine ⟨?_,?_,⟨a3,b3⟩,?_,?_,b6⟩
  ·
   rw [e,wrs,List.append_assoc]
  ·
   rw [rights,a2,b2];rfl
  ·
   rw [deps];omega
  ·
   rw [pars];omega
theorem textD_ok {m n p p':Nat} {r r':List UInt8} {x:Itm} (hm:m=2∨m=3) (hn:n<18446744073709551616) (h:textD m n p r=.ok (x,p',r')) :
  hd m n++r=wri x++r'∧right x=true∧Siz x∧dep x=0∧par x=1∧p'=p:=by
 rw [textD] at h
 split at h
 ·
  cases h
 next h1 =>
 split at h
 ·
  cases h
 next h2 =>
 cases h
 have hl:(r.take n).length=n:=by rw [List.length_take];omega
 have hr:r=r.take n++r.drop n:=(List.take_append_drop n r).symm
 generalize hd':r.take n=dt at *
 generalize r.drop n=u at *
 subst hr
 rcases hm with rfl|rfl
 ·
  refine ⟨?_,?_,⟨by decide,by omega,by decide,trivial⟩,rfl,rfl,rfl⟩
  ·
   rw [wri,if_neg (by decide),if_pos (.inl rfl),hl,List.append_assoc];rfl
  ·
   simp [right,rights,own]
 ·
  have hp:plain dt=true:=by
   rcases hb:plain dt with _|_
   ·
    exact absurd ⟨rfl,hb⟩ h1
   ·
    rfl
  refine ⟨?_,?_,⟨by decide,by omega,by decide,trivial⟩,rfl,rfl,rfl⟩
  ·
   rw [wri,if_neg (by decide),if_pos (.inr rfl),hl,List.append_assoc];rfl
  ·
   simp [right,rights,own,hp]
theorem itemD_ok {d:Nat} {sub:Nat→List UInt8→Except Int (Itm×Nat×List UInt8)} {deep:Bool} (hs:SubOk d sub):SubOk (if deep then 0 else d+1) (itemD sub deep):=by
 intro p l x p' r hp h
 cases l with
 | nil=>rw [itemD] at h;cases h
 | cons c t =>
 rw [itemD] at h
 split at h
 ·
  cases h
 next h0 =>
 have hp1:p+1≤4096:=by
  rcases Nat.lt_or_ge p 4096 with h7|h7
  ·
   exact h7
  ·
   exact absurd (.inl (by omega)) h0
 split at h
 next hc =>
  subst hc
  split at h
  ·
   cases h
  next xs p2 l2 h2 =>
  cases h
  obtain ⟨rfl,b2,b3,b4,rfl,b6⟩:=endl_ok hs _ _ _ _ _ _ hp1 h2
  have hd0:deep=false:=by
   rcases deep with _|_
   ·
    rfl
   ·
    exact absurd (.inr ⟨rfl,rfl⟩) h0
  have hl:=pars_len xs
  refine ⟨?_,?_,⟨by decide,by decide,?_,b3⟩,?_,?_,?_⟩
  ·
   rw [wri,if_neg (by decide),if_neg (by decide),if_neg (by decide),List.cons_append,List.append_assoc];rfl
  ·
   rw [right,b2];rfl
  ·
   omega
  ·
   subst hd0;rw [dep];simp;omega
  ·
   rw [par];omega
  ·
   exact b6
 next hc =>
 split at h
 ·
  cases h
 next m n r1 h1 =>
 obtain ⟨e,hn,hm⟩:=headD_ok h1
 rw [e]
 split at h
 next hm0 =>
  subst hm0
  cases h
  refine ⟨?_,?_,⟨hn,by decide,by decide,trivial⟩,?_,rfl,by omega⟩
  ·
   rw [wri,if_pos rfl]
  ·
   rfl
  ·
   show 0≤_;omega
 next hm0 =>
 split at h
 next hm4 =>
  subst hm4
  split at h
  ·
   cases h
  next xs p2 l2 h2 =>
  cases h
  obtain ⟨rfl,b1,b2,b3,b4,rfl,b6⟩:=many_ok hs _ _ _ _ _ _ hp1 h2
  subst b1
  have hd0:deep=false:=by
   rcases deep with _|_
   ·
    rfl
   ·
    refine absurd (.inr ⟨?_,rfl⟩) h0
    rw [hd_cons] at e
    cases e
    rw [first_arr 4 _ (by decide)];rfl
  refine ⟨?_,?_,⟨by decide,by decide,hn,b3⟩,?_,?_,?_⟩
  ·
   rw [wri,if_neg (by decide),if_neg (by decide),if_pos rfl,List.append_assoc]
  ·
   rw [right,b2];rfl
  ·
   subst hd0;rw [dep];simp;omega
  ·
   rw [par];omega
  ·
   exact b6
 next hm4 =>
  obtain ⟨a1,a2,a3,a4,a5,rfl⟩:=textD_ok (by omega) hn h
  exact ⟨a1,a2,a3,by omega,by omega,by omega⟩
theorem dec_ok:∀ d:Nat,SubOk d (dec d)
 | 0=>itemD_ok (deep:=true) (d:=0) (fun _ _ _ _ _ _ h=>by cases h)
 | d+1=>itemD_ok (deep:=false) (dec_ok d)
/-! ### Beginnings -/
theorem take_app {l r:List UInt8} {k:Nat} (h:l.length≤k):(l++r).take k=l++r.take (k - l.length):=by
 rw [List.take_append,List.take_of_length_le h]
theorem take_app' {l r:List UInt8} {k:Nat} (h:k≤l.length):(l++r).take k=l.take k:=by
 rw [List.take_append,show k - l.length=0 by omega,List.take_zero,List.append_nil]
theorem itemD_short (sub:Nat→List UInt8→Except Int (Itm×Nat×List UInt8)) (deep:Bool) (p m n cut:Nat) (hm:m=0∨m=2∨m=3∨m=4) (hp:p<4096) (h4:m=4→deep=false) (hc:cut<(hd m n).length) :
  itemD sub deep p ((hd m n).take cut)=.error 30:=by
 have hs:=headD_short m n hm cut hc
 cases cut with
 | zero=>rfl
 | succ j =>
  have e:(hd m n).take (j+1)=UInt8.ofNat (32*m+hlow n)::(be n (hsz n)).take j:=rfl
  rw [e] at hs ⊢
  have hno:¬ (p=4096∨(decide (m=4)=true∧deep=true)):=by
   rintro (h|⟨h,h'⟩)
   ·
    omega
   ·
    rw [h4 (by simpa using h)] at h';cases h'
  rw [itemD,first_arr m n (by omega),if_neg hno,if_neg (first_ne m n (by omega)).1,hs]
theorem plain_take (d:List UInt8) (k:Nat) (h:plain d=true):plain (d.take k)=true:=by
 unfold plain at *
 rw [List.all_eq_true] at *
 exact fun c hc=>h c (List.mem_of_mem_take hc)
theorem textD_short (m n p:Nat) (d:List UInt8) (h:d.length<n) (hp:m=3→plain d=true):textD m n p d=.error 30:=by
 rw [textD,List.take_of_length_le (by omega),if_neg (by rintro ⟨h1,h2⟩;rw [hp h1] at h2;cases h2),if_pos h]
mutual
theorem dec_short:∀ (x:Itm) (d p cut:Nat),right x=true→Siz x→dep x≤d→p+par x≤4096→cut<(wri x).length→dec d p ((wri x).take cut)=.error 30
 | .mk k n dt l,d,p,cut,hr,hs,hd',hp,hc=>by
  rw [right,Bool.and_eq_true] at hr
  rw [Siz] at hs
  rw [dep] at hd'
  rw [par] at hp
  obtain ⟨hn,hdl,hll,hss⟩:=hs
  have hdec:∀ P:(Nat→List UInt8→Except Int (Itm×Nat×List UInt8))→Prop,(∀ sub deep,(deps l+(if k=4∨k=5 then 1 else 0)=0→True)→(k=4∨k=5→deep=false)→P (itemD sub deep))→P (dec d):=by
   intro P hP
   cases d with
   | zero =>
    rw [dec]
    refine hP _ _ (fun _=>trivial) (fun hk=>?_)
    rw [if_pos hk] at hd'
    omega
   | succ d=>rw [dec];exact hP _ _ (fun _=>trivial) (fun _=>rfl)
  rcases own_kind hr.1 with ⟨rfl,rfl,rfl⟩|⟨rfl,rfl,rfl⟩|⟨rfl,rfl,rfl,hpl⟩|⟨rfl,rfl,rfl⟩|⟨rfl,rfl,rfl⟩
  ·
   have e:wri (.mk 0 n [] [])=hd 0 n:=by rw [wri,if_pos rfl]
   rw [e] at hc ⊢
   exact hdec (fun D=>D p ((hd 0 n).take cut)=.error 30) (fun sub deep _ _=>itemD_short sub deep p 0 n cut (.inl rfl) (by omega) (by omega) hc)
  ·
   have e:wri (.mk 2 0 dt [])=hd 2 dt.length++dt:=by rw [wri,if_neg (by decide),if_pos (.inl rfl)];rfl
   rw [e] at hc ⊢
   refine hdec (fun D=>D p ((hd 2 dt.length++dt).take cut)=.error 30) (fun sub deep _ _=>?_)
   rcases Nat.lt_or_ge cut (hd 2 dt.length).length with h|h
   ·
    rw [take_app' (by omega)]
    exact itemD_short sub deep p 2 _ cut (.inr (.inl rfl)) (by omega) (by omega) h
   ·
    rw [List.length_append] at hc
    rw [take_app h,itemD_hd _ _ _ _ _ _ (.inr (.inl rfl)) hdl (by omega) (by omega),if_neg (by decide),if_neg (by decide),textD_short _ _ _ _ (by rw [List.length_take];omega) (by omega)]
  ·
   have e:wri (.mk 3 0 dt [])=hd 3 dt.length++dt:=by rw [wri,if_neg (by decide),if_pos (.inr rfl)];rfl
   rw [e] at hc ⊢
   refine hdec (fun D=>D p ((hd 3 dt.length++dt).take cut)=.error 30) (fun sub deep _ _=>?_)
   rcases Nat.lt_or_ge cut (hd 3 dt.length).length with h|h
   ·
    rw [take_app' (by omega)]
    exact itemD_short sub deep p 3 _ cut (.inr (.inr (.inl rfl))) (by omega) (by omega) h
   ·
    rw [List.length_append] at hc
    rw [take_app h,itemD_hd _ _ _ _ _ _ (.inr (.inr (.inl rfl))) hdl (by omega) (by omega),if_neg (by decide),if_neg (by decide),textD_short _ _ _ _ (by rw [List.length_take];omega) (fun _=>plain_take _ _ hpl)]
  ·
   have e:wri (.mk 4 0 [] l)=hd 4 l.length++wrs l:=by rw [wri,if_neg (by decide),if_neg (by decide),if_pos rfl]
   rw [e] at hc ⊢
   rcases Nat.lt_or_ge cut (hd 4 l.length).length with h|h
   ·
    rw [take_app' (by omega)]
    exact hdec (fun D=>D p ((hd 4 l.length).take cut)=.error 30) (fun sub deep _ h4=>itemD_short sub deep p 4 _ cut (.inr (.inr (.inr rfl))) (by omega) (fun _=>h4 (.inl rfl)) h)
   ·
    rw [List.length_append] at hc
    cases d with
    | zero=>simp at hd'
    | succ d =>
     rw [take_app h,dec,itemD_hd _ _ _ _ _ _ (.inr (.inr (.inr rfl))) hll (by omega) (fun _=>rfl),if_neg (by decide),if_pos rfl,
      many_short l d (p+1) _ hr.2 hss (by simpa using hd') (by omega) (by omega)]
  ·
   have e:wri (.mk 5 0 [] l)=0x9f::(wrs l++[0xff]):=by rw [wri,if_neg (by decide),if_neg (by decide),if_neg (by decide)]
   rw [e] at hc ⊢
   cases cut with
   | zero=>exact hdec (fun D=>D p []=.error 30) (fun sub deep _ _=>rfl)
   | succ j =>
    cases d with
    | zero=>simp at hd'
    | succ d =>
     rw [List.take_succ_cons,dec,itemD,if_neg (by simp;omega),if_pos rfl,endl_short l d (p+1) _ j hr.2 hss (by simpa using hd') (by omega) (by simp at hc;omega)]
theorem many_short:∀ (l:List Itm) (d p cut:Nat),rights l=true→Sizs l→deps l≤d→p+pars l≤4096→cut<(wrs l).length→many (dec d) l.length p ((wrs l).take cut)=.error 30
 | [],d,p,cut,_,_,_,_,hc=>absurd hc (Nat.not_lt_zero _)
 | x::r,d,p,cut,hr,hs,hd',hp,hc=>by
  rw [rights,Bool.and_eq_true] at hr
  rw [Sizs] at hs
  rw [deps] at hd'
  rw [pars] at hp
  rw [wrs] at hc ⊢
  rw [List.length_cons,many]
  rcases Nat.lt_or_ge cut (wri x).length with h|h
  ·
   rw [take_app' (by omega),dec_short x d p cut hr.1 hs.1 (by omega) (by omega) h]
  ·
   rw [List.length_append] at hc
   rw [take_app h,dec_wr x d p _ hr.1 hs.1 (by omega) (by omega)]
   simp only
   rw [many_short r d (p+par x) _ hr.2 hs.2 (by omega) (by omega) (by omega)]
theorem endl_short:∀ (l:List Itm) (d p f cut:Nat),rights l=true→Sizs l→deps l≤d→p+pars l≤4096→cut≤(wrs l).length→endl (dec d) f p ((wrs l++[0xff]).take cut)=.error 30
 | _,d,p,0,cut,_,_,_,_,hc=>by rw [endl]
 | l,d,p,f+1,0,_,_,_,_,hc=>by rw [List.take_zero,endl]
 | [],d,p,f+1,cut+1,_,_,_,_,hc=>by simp [wrs] at hc
 | x::r,d,p,f+1,cut+1,hr,hs,hd',hp,hc=>by
  rw [rights,Bool.and_eq_true] at hr
  rw [Sizs] at hs
  rw [deps] at hd'
  rw [pars] at hp
  rw [wrs] at hc ⊢
  obtain ⟨c,t,hw,hne⟩:=wr_ne x
  rcases Nat.lt_or_ge (cut+1) (wri x).length with h|h
  ·
   have h1:=dec_short x d p (cut+1) hr.1 hs.1 (by omega) (by omega) h
   rw [hw,List.take_succ_cons] at h1
   rw [List.append_assoc,take_app' (by omega),hw,List.take_succ_cons,endl,if_neg hne,h1]
  ·
   rw [List.length_append] at hc
   have h1:=dec_wr x d p ((wrs r++[0xff]).take (cut+1 - (wri x).length)) hr.1 hs.1 (by omega) (by omega)
   have h2:endl (dec d) f (p+par x) ((wrs r++[0xff]).take (cut+1 - (wri x).length))=.error 30:=endl_short r d (p+par x) f _ hr.2 hs.2 (by omega) (by omega) (by omega)
   rw [List.append_assoc,take_app h,hw,List.cons_append,endl,if_neg hne,← List.cons_append,← hw,h1]
   simp only
   rw [h2]
end
open Go.RowKit
open Go.Lib (decDigits nDigits nDigits_small nDigits_big nDigits_pos decDigits_length)
theorem dec_small {x:Nat} (h:x<10):decDigits x=[UInt8.ofNat (48+x)]:=by rw [decDigits,dif_pos h]
theorem dec_big {x:Nat} (h:¬ x<10):decDigits x=decDigits (x / 10)++[UInt8.ofNat (48+x % 10)]:=by rw [decDigits,dif_neg h]
/-! ### The whole -/
theorem headD_err {l:List UInt8} {e:Int} (h:headD l=.error e):e=30∨e=31:=by
 cases l with
 | nil=>rw [headD] at h;cases h;exact .inl rfl
 | cons c t =>
  rw [headD] at h
  split at h
  ·
   cases h;exact .inr rfl
  split at h
  ·
   cases h
  split at h
  ·
   cases h;exact .inl rfl
  split at h
  ·
   cases h;exact .inr rfl
  ·
   cases h
def SubErr (sub:Nat→List UInt8→Except Int (Itm×Nat×List UInt8)):Prop:=∀ p l e,sub p l=.error e→e=30∨e=31∨e=32
theorem many_err {sub:Nat→List UInt8→Except Int (Itm×Nat×List UInt8)} (hs:SubErr sub):∀ (n p:Nat) (l:List UInt8) (e:Int),many sub n p l=.error e→e=30∨e=31∨e=32
 | 0,p,l,e,h=>by rw [many] at h;cases h
 | n+1,p,l,e,h=>by
  rw [many] at h
  split at h
  next h1=>cases h;exact hs _ _ _ h1
  next h1 =>
  split at h
  next h2=>cases h;exact many_err hs n _ _ _ h2
  ·
   cases h
theorem endl_err {sub:Nat→List UInt8→Except Int (Itm×Nat×List UInt8)} (hs:SubErr sub):∀ (f p:Nat) (l:List UInt8) (e:Int),endl sub f p l=.error e→e=30∨e=31∨e=32
 | 0,p,l,e,h=>by rw [endl] at h;cases h;exact .inl rfl
 | f+1,p,[],e,h=>by rw [endl] at h;cases h;exact .inl rfl
 | f+1,p,c::r,e,h=>by
  rw [endl] at h
  split at h
  ·
   cases h
  split at h
  next h1=>cases h;exact hs _ _ _ h1
  next h1 =>
  split at h
  next h2=>cases h;exact endl_err hs f _ _ _ h2
  ·
   cases h
theorem textD_err {m n p:Nat} {r:List UInt8} {e:Int} (h:textD m n p r=.error e):e=30∨e=31:=by
 rw [textD] at h
 split at h
 ·
  cases h;exact .inr rfl
 split at h
 ·
  cases h;exact .inl rfl
 ·
  cases h
theorem itemD_err {sub:Nat→List UInt8→Except Int (Itm×Nat×List UInt8)} {deep:Bool} (hs:SubErr sub):SubErr (itemD sub deep):=by
 intro p l e h
 cases l with
 | nil=>rw [itemD] at h;cases h;exact .inl rfl
 | cons c t =>
  rw [itemD] at h
  split at h
  ·
   cases h;exact .inr (.inr rfl)
  split at h
  ·
   split at h
   next h1=>cases h;exact endl_err hs _ _ _ _ h1
   ·
    cases h
  split at h
  next h1 =>
   cases h
   rcases headD_err h1 with h|h
   ·
    exact .inl h
   ·
    exact .inr (.inl h)
  split at h
  ·
   cases h
  split at h
  ·
   split at h
   next h1=>cases h;exact many_err hs _ _ _ _ h1
   ·
    cases h
  ·
   rcases textD_err h with h|h
   ·
    exact .inl h
   ·
    exact .inr (.inl h)
theorem dec_err:∀ d:Nat,SubErr (dec d)
 | 0=>itemD_err (fun _ _ _ h=>by cases h;exact .inr (.inr rfl))
 | d+1=>itemD_err (dec_err d)
def Fits (x:Itm):Prop:=right x=true∧dep x≤8∧par x≤4096
theorem enc_ok {x:Itm} (h:Fits x):enc x=(wri x,0):=by
 unfold enc
 rw [if_neg (by rw [h.1];decide),if_neg (by have:=h.2;omega)]
theorem decode_wr {x:Itm} (h:Fits x) (hs:Siz x) (m:List UInt8):decode (wri x++m)=(x,((wri x).length:Int),0):=by
 unfold decode
 rw [dec_wr x 8 0 m h.1 hs h.2.1 (by have:=h.2.2;omega)]
 simp
theorem decode_cases (l:List UInt8):(∃ e:Int,(e=30∨e=31∨e=32)∧decode l=(.zero,0,e)) ∨
  ∃ x r,l=wri x++r∧Fits x∧Siz x∧decode l=(x,((wri x).length:Int),0):=by
 unfold decode
 cases h:dec 8 0 l with
 | error e=>exact .inl ⟨e,dec_err 8 _ _ _ h,rfl⟩
 | ok v =>
  obtain ⟨x,p,r⟩:=v
  obtain ⟨h1,h2,h3,h4,h5,h6⟩:=dec_ok 8 0 l x p r (by decide) h
  refine .inr ⟨x,r,h1,⟨h2,h4,by omega⟩,h3,?_⟩
  subst h1
  simp
/-! ### Greater numbers -/
theorem deps_app:∀ (a b:List Itm),deps (a++b)=max (deps a) (deps b)
 | [],b=>by rw [deps];simp
 | x::r,b=>by rw [List.cons_append,deps,deps,deps_app r b];omega
theorem deps_take (l:List Itm) (j:Nat) (h:j<l.length):deps (l.take (j+1))=max (deps (l.take j)) (dep (l[j]'h)):=by
 rw [List.take_succ_eq_append_getElem h,deps_app,deps,deps]
 omega
mutual
theorem dep_le:∀ x:Itm,dep x≤par x
 | .mk k _ _ l=>by have:=deps_le l;rw [dep,par];split <;> omega
theorem deps_le:∀ l:List Itm,deps l≤pars l
 | []=>by rw [deps];omega
 | x::r=>by have:=dep_le x;have:=deps_le r;rw [deps,pars];omega
end
theorem pars_app:∀ (a b:List Itm),pars (a++b)=pars a+pars b
 | [],b=>by rw [pars];simp
 | x::r,b=>by rw [List.cons_append,pars,pars,pars_app r b];omega
theorem pars_take (l:List Itm) (j:Nat) (h:j<l.length):pars (l.take (j+1))=pars (l.take j)+par (l[j]'h):=by
 rw [List.take_succ_eq_append_getElem h,pars_app,pars,pars]
 omega
theorem pars_le (l:List Itm) (j:Nat):pars (l.take j)≤pars l:=by
 conv=>rhs;rw [← List.take_append_drop j l,pars_app]
 omega
theorem plain_take' (d:List UInt8) (k:Nat) (h:plain d=true):plain (d.take k)=true:=by
 unfold plain at *
 rw [List.all_eq_true] at *
 exact fun c hc=>h c (List.mem_of_mem_take hc)
theorem plain_snoc (l:List UInt8) (x:UInt8):plain (l++[x])=(plain l&&(decide (32≤x.toNat)&&decide (x.toNat≤126))):=by
 unfold plain
 rw [List.all_append]
 simp
theorem plain_take_f (l:List UInt8) (k:Nat) (h:plain (l.take k)=false):plain l=false:=by
 rcases hb:plain l with _|_
 ·
  rfl
 ·
  rw [plain_take' l k hb] at h;cases h
open Go.Lib (hid)
theorem rdepth_n:∀ (m:Nat) (x:Itm) (v:Value) (w:World) (B:Nat),par x<m→par x≤1000000→B≤w.heap.size→RdI w B v x →
  Calls Tryz.prog 136 #[v] w fun e w'=>e=.returned (.int .i64 (dep x:Int))∧Below w.heap.size w w'
 | 0,_,_,_,_,h,_,_,_=>absurd h (Nat.not_lt_zero _)
 | m+1,.mk k n d l,v,w,B,hm,hp,hB,h=>by
  obtain ⟨A,nd,cd,AL,cl,rfl,h1,h2,h3,h4,h5,h7⟩:=h.open
  have IH:=hid (rdepth_n m)
  have H7:=hid h7
  have H4:=hid h4
  clear h1 h7 h4 h
  generalize hL:l.length=N at *
  have HL:=hid hL
  clear hL
  obtain ⟨DP,hDP⟩:∃ q,q=dep (.mk k n d l):=⟨_,rfl⟩
  rw [← hDP]
  have HDP:=hid hDP
  clear hDP
  go_enter Tryz.func136,Tryz.ntmps136
  go_wp2_with fail
  go_loopw [3,4] (fun v i wr=>∃ j:Nat,j≤N∧i=.int .i64 j∧v=.int .i64 (deps (l.take j):Int)∧Hid (Below (w.heap.size+1) (w.alloc (.cells #[Value.int IntKind.i64 k,Value.int IntKind.u64 ↑n,Value.slice A nd cd,Value.slice AL N cl] 30)) wr))
   (fun _ i _=>N - (intOf i).toNat)
  case atStart=>exact ⟨0,Nat.zero_le _,rfl,rfl,Below.refl _ _⟩
  case round =>
   obtain ⟨j,hj,rfl,rfl,hbel⟩:=hrel
   have hb0:wr.cell? ⟨w.heap.size,0,none⟩=some (.int .i64 k):=(hbel.out.cell (p:=⟨w.heap.size,0,none⟩) (by simp)).trans (by simp)
   have hb3:wr.cell? ⟨w.heap.size,3,none⟩=some (.slice AL N cl):=(hbel.out.cell (p:=⟨w.heap.size,3,none⟩) (by simp)).trans (by simp)
   by_cases hlt:j<N
   ·
    obtain ⟨b,o,rfl,hb,hs⟩:=H7.out (by omega)
    obtain ⟨c0,c1,c2,c3,g0,g1,g2,g3,gx⟩:=hs.get j (by rw [HL.out];exact hlt)
    have hs':Below w.heap.size w wr:=((Below.refl _ _).alloc nlr _).trans (hbel.out.mono (by omega))
    have hsz:w.heap.size+1≤wr.heap.size:=by have:=hbel.out.size;simpa using this
    have e0:wr.cell? ⟨b,o+j*4,none⟩=some c0:=(hs'.cell (p:=⟨b,o+j*4,none⟩) (by show b<_;omega)).trans g0
    have e1:wr.cell? ⟨b,o+j*4+1,none⟩=some c1:=(hs'.cell (p:=⟨b,o+j*4+1,none⟩) (by show b<_;omega)).trans g1
    have e2:wr.cell? ⟨b,o+j*4+2,none⟩=some c2:=(hs'.cell (p:=⟨b,o+j*4+2,none⟩) (by show b<_;omega)).trans g2
    have e3:wr.cell? ⟨b,o+j*4+3,none⟩=some c3:=(hs'.cell (p:=⟨b,o+j*4+3,none⟩) (by show b<_;omega)).trans g3
    have GX:=hid gx
    have HS:=hid hs'
    have hpg:par (l[j]'(by rw [HL.out];exact hlt))≤pars l:=par_get _
    rw [par] at hm hp
    have C1:=hid (IH.out (l[j]'(by rw [HL.out];exact hlt)) _ wr B (by omega) (by omega) (by omega) (gx.below (hs'.mono hB)))
    clear g0 g1 g2 g3 gx hs hs'
    go_wp2_with fail
    refine C1.out.mono ?_
    rintro e w1 ⟨rfl,hb1⟩
    have HB1:=hid hb1
    clear hb1 hb0 hb3 e0 e1 e2 e3
    go_wp2_with fail
    go_roundw
    case rel =>
     refine ⟨j+1,by omega,by go_num,?_,hbel.out.trans (HB1.out.mono (by omega))⟩
     rw [deps_take l j (by rw [HL.out];exact hlt)]
     congr 1
     omega
    case measure=>simp [intOf];omega
   ·
    obtain rfl:j=N:=by omega
    have HS:=hid (((Below.refl w.heap.size w).alloc nlr _).trans (hbel.out.mono (by omega)))
    have hdl:deps (l.take j)=deps l:=by rw [List.take_of_length_le (by rw [HL.out];exact Nat.le_refl _)]
    have hdp:=deps_le l
    rw [par] at hp
    have hDP:=HDP.out
    rw [dep] at hDP
    rw [hdl]
    generalize deps l=D at *
    clear hdl
    by_cases hk:k=4∨k=5
    ·
     rw [if_pos hk] at hDP
     have HD2:=hid hDP
     clear hDP
     rcases hk with rfl|rfl
     ·
      go_wp2_with fail
      go_ret
      exact ⟨by rw [HD2.out];rfl,HS.out⟩
     ·
      go_wp2_with fail
      go_ret
      exact ⟨by rw [HD2.out];rfl,HS.out⟩
    ·
     rw [if_neg hk] at hDP
     have HD2:=hid hDP
     clear hDP
     have k4:(k==4)=false:=by simp;omega
     have k5:(k==5)=false:=by simp;omega
     clear hk
     go_wp2_with fail
     go_ret
     exact ⟨by rw [HD2.out];rfl,HS.out⟩
theorem rparts_n:∀ (m:Nat) (x:Itm) (v:Value) (w:World) (B:Nat),par x<m→par x≤1000000→B≤w.heap.size→RdI w B v x →
  Calls Tryz.prog 137 #[v] w fun e w'=>e=.returned (.int .i64 (par x:Int))∧Below w.heap.size w w'
 | 0,_,_,_,_,h,_,_,_=>absurd h (Nat.not_lt_zero _)
 | m+1,.mk k n d l,v,w,B,hm,hp,hB,h=>by
  obtain ⟨A,nd,cd,AL,cl,rfl,h1,h2,h3,h4,h5,h7⟩:=h.open
  have IH:=hid (rparts_n m)
  have H7:=hid h7
  have H4:=hid h4
  clear h1 h7 h4 h
  generalize hL:l.length=N at *
  have HL:=hid hL
  clear hL
  obtain ⟨DP,hDP⟩:∃ q,q=par (.mk k n d l):=⟨_,rfl⟩
  rw [← hDP]
  have HDP:=hid hDP
  clear hDP
  go_enter Tryz.func137,Tryz.ntmps137
  go_wp2_with fail
  go_loopw [3,4] (fun v i wr=>∃ j:Nat,j≤N∧i=.int .i64 j∧v=.int .i64 ((1+pars (l.take j):Nat):Int)∧Hid (Below (w.heap.size+1) (w.alloc (.cells #[Value.int IntKind.i64 k,Value.int IntKind.u64 ↑n,Value.slice A nd cd,Value.slice AL N cl] 30)) wr))
   (fun _ i _=>N - (intOf i).toNat)
  case atStart=>exact ⟨0,Nat.zero_le _,rfl,rfl,Below.refl _ _⟩
  case round =>
   obtain ⟨j,hj,rfl,rfl,hbel⟩:=hrel
   have hb0:wr.cell? ⟨w.heap.size,0,none⟩=some (.int .i64 k):=(hbel.out.cell (p:=⟨w.heap.size,0,none⟩) (by simp)).trans (by simp)
   have hb3:wr.cell? ⟨w.heap.size,3,none⟩=some (.slice AL N cl):=(hbel.out.cell (p:=⟨w.heap.size,3,none⟩) (by simp)).trans (by simp)
   by_cases hlt:j<N
   ·
    obtain ⟨b,o,rfl,hb,hs⟩:=H7.out (by omega)
    obtain ⟨c0,c1,c2,c3,g0,g1,g2,g3,gx⟩:=hs.get j (by rw [HL.out];exact hlt)
    have hpt:pars (l.take j)≤pars l:=pars_le l j
    have hs':Below w.heap.size w wr:=((Below.refl _ _).alloc nlr _).trans (hbel.out.mono (by omega))
    have hsz:w.heap.size+1≤wr.heap.size:=by have:=hbel.out.size;simpa using this
    have e0:wr.cell? ⟨b,o+j*4,none⟩=some c0:=(hs'.cell (p:=⟨b,o+j*4,none⟩) (by show b<_;omega)).trans g0
    have e1:wr.cell? ⟨b,o+j*4+1,none⟩=some c1:=(hs'.cell (p:=⟨b,o+j*4+1,none⟩) (by show b<_;omega)).trans g1
    have e2:wr.cell? ⟨b,o+j*4+2,none⟩=some c2:=(hs'.cell (p:=⟨b,o+j*4+2,none⟩) (by show b<_;omega)).trans g2
    have e3:wr.cell? ⟨b,o+j*4+3,none⟩=some c3:=(hs'.cell (p:=⟨b,o+j*4+3,none⟩) (by show b<_;omega)).trans g3
    have GX:=hid gx
    have HS:=hid hs'
    have hpg:par (l[j]'(by rw [HL.out];exact hlt))≤pars l:=par_get _
    rw [par] at hm hp
    have C1:=hid (IH.out (l[j]'(by rw [HL.out];exact hlt)) _ wr B (by omega) (by omega) (by omega) (gx.below (hs'.mono hB)))
    clear g0 g1 g2 g3 gx hs hs'
    go_wp2_with fail
    refine C1.out.mono ?_
    rintro e w1 ⟨rfl,hb1⟩
    have HB1:=hid hb1
    clear hb1 hb0 hb3 e0 e1 e2 e3
    go_wp2_with fail
    go_roundw
    case rel =>
     refine ⟨j+1,by omega,by go_num,?_,hbel.out.trans (HB1.out.mono (by omega))⟩
     rw [pars_take l j (by rw [HL.out];exact hlt)]
     congr 1
     omega
    case measure=>simp [intOf];omega
   ·
    obtain rfl:j=N:=by omega
    have HS:=hid (((Below.refl w.heap.size w).alloc nlr _).trans (hbel.out.mono (by omega)))
    have hdl:pars (l.take j)=pars l:=by rw [List.take_of_length_le (by rw [HL.out];exact Nat.le_refl _)]
    have hDP:=HDP.out
    rw [par] at hDP
    rw [hdl,← hDP]
    clear hdl hDP
    go_wp2_with fail
    go_ret
    exact ⟨rfl,HS.out⟩
theorem rplain_any (A:Option Addr) (n c B:Nat) (l:List UInt8) (w:World) (h:Rd w B A n l) (hn:n≤140737488355328) :
  Calls Tryz.prog 173 #[.slice A n c] w fun e w'=>e=.returned (.bool (plain l))∧w=w':=by
 have HR:=hid h
 clear h
 obtain ⟨PL,hPL⟩:∃ q,q=plain l:=⟨_,rfl⟩
 rw [← hPL]
 have HPL:=hid hPL
 clear hPL
 go_enter Tryz.func173,Tryz.ntmps173
 go_wp2
 go_loop [3] (fun i=>∃ k:Nat,k≤n∧i=.int .i64 k∧Hid (plain (l.take k)=true)) (fun i=>n - (intOf i).toNat)
 case atStart=>exact ⟨0,Nat.zero_le _,rfl,rfl⟩
 case round =>
  obtain ⟨k,hk,rfl,hp⟩:=hrel
  by_cases hlt:k<n
  ·
   obtain ⟨b,o,rfl,hb,hcell⟩:=HR.out.2 (by omega)
   obtain ⟨x,hx⟩:∃ x,x=l.getD k 0:=⟨_,rfl⟩
   have hcx:w.cell? ⟨b,o+k,none⟩=some (.int .u8 (x.toNat:Int)):=by rw [hx];exact hcell k hlt
   have hs:plain (l.take (k+1))=(decide (32≤x.toNat)&&decide (x.toNat≤126)):=by
    rw [take_more l k (by have:=HR.out.1;omega),plain_snoc,hp.out,← hx];rfl
   have HS:=hid hs
   clear hx hcell hs
   obtain ⟨X,hX⟩:∃ X,X=x.toNat:=⟨_,rfl⟩
   rw [← hX] at hcx
   have HX:=hid hX
   clear hX
   by_cases h32:32≤X∧X≤126
   ·
    obtain ⟨h1,h2⟩:=h32
    go_wp2_with fail
    go_round
    case rel=>exact ⟨k+1,by omega,by go_num,by show _=true;rw [HS.out,← HX.out];simp;omega⟩
    case measure=>simp [intOf];omega
   ·
    have hf:plain l=false:=plain_take_f l (k+1) (by rw [HS.out,← HX.out];simp;omega)
    rw [← HPL.out] at hf
    subst hf
    by_cases h1:X<32
    ·
     go_wp2_with fail
     go_ret
     exact ⟨rfl,rfl⟩
    ·
     have h2:126<X:=by omega
     clear h32
     go_wp2_with fail
     go_ret
     exact ⟨rfl,rfl⟩
  ·
   obtain rfl:k=n:=by omega
   have e:plain l=true:=by
    have:=hp.out
    rwa [List.take_of_length_le (by have:=HR.out.1;omega)] at this
   rw [← HPL.out] at e
   subst e
   go_wp2
   go_ret
   exact ⟨rfl,rfl⟩
theorem hsz_i (X:Int) (h0:0≤X):((hsz X.toNat:Nat):Int)=(if X<24 then 0 else if X<256 then 1 else if X<65536 then 2 else if X<4294967296 then 4 else 8) ∧
  ((hlow X.toNat:Nat):Int)=(if X<24 then X else if X<256 then 24 else if X<65536 then 25 else if X<4294967296 then 26 else 27):=by
 unfold hsz hlow
 constructor <;> (repeat' (split <;> try omega))
theorem rsize_i (X S L:Int) (w:World) (h0:0≤X) (hn:X<18446744073709551616)
  (hS:S=(if X<24 then 0 else if X<256 then 1 else if X<65536 then 2 else if X<4294967296 then 4 else 8)) (hL:L=(if X<24 then X else if X<256 then 24 else if X<65536 then 25 else if X<4294967296 then 26 else 27)) :
  Calls Tryz.prog 111 #[.int .u64 X] w fun e w'=>e=.returned (.tuple #[.int .i64 S,.int .i64 L])∧w=w':=by
 by_cases h1:X<24
 ·
  rw [if_pos h1] at hS hL
  subst hS hL
  go_enter Tryz.func111,Tryz.ntmps111
  go_wp2
  go_ret2
  exact ⟨rfl,rfl⟩
 by_cases h2:X<256
 ·
  rw [if_neg h1,if_pos h2] at hS hL
  subst hS hL
  go_enter Tryz.func111,Tryz.ntmps111
  go_wp2
  go_ret2
  exact ⟨rfl,rfl⟩
 by_cases h3:X<65536
 ·
  rw [if_neg h1,if_neg h2,if_pos h3] at hS hL
  subst hS hL
  go_enter Tryz.func111,Tryz.ntmps111
  go_wp2
  go_ret2
  exact ⟨rfl,rfl⟩
 by_cases h4:X<4294967296
 ·
  rw [if_neg h1,if_neg h2,if_neg h3,if_pos h4] at hS hL
  subst hS hL
  go_enter Tryz.func111,Tryz.ntmps111
  go_wp2
  go_ret2
  exact ⟨rfl,rfl⟩
 rw [if_neg h1,if_neg h2,if_neg h3,if_neg h4] at hS hL
 subst hS hL
 go_enter Tryz.func111,Tryz.ntmps111
 go_wp2
 go_ret2
 exact ⟨rfl,rfl⟩
theorem rsize_any (n:Nat) (w:World) (hn:n<18446744073709551616) :
  Calls Tryz.prog 111 #[.int .u64 (n:Int)] w fun e w'=>e=.returned (.tuple #[.int .i64 (hsz n:Int),.int .i64 (hlow n:Int)])∧w=w':=by
 have h:=hsz_i (n:Int) (by omega)
 rw [Int.toNat_natCast] at h
 exact rsize_i (n:Int) _ _ w (by omega) (by omega) h.1 h.2
def rall:List (List Itm)→Bool | []=>true|l::r=>rights l&&rall r
def sump:List (List Itm)→Nat | []=>0|l::r=>pars l+sump r
def lev:Nat→List (List Itm)→Nat|_,[]=>0|i,l::r=>max (i+deps l) (lev (i+1) r)
theorem rall_snoc:∀ (a:List (List Itm)) (t:List Itm),rall (a++[t])=(rall a&&rights t)
 | [],t=>by simp [rall]
 | l::r,t=>by rw [List.cons_append,rall,rall,rall_snoc r t,Bool.and_assoc]
theorem sump_snoc:∀ (a:List (List Itm)) (t:List Itm),sump (a++[t])=sump a+pars t
 | [],t=>by simp [sump]
 | l::r,t=>by rw [List.cons_append,sump,sump,sump_snoc r t];omega
theorem lev_snoc:∀ (a:List (List Itm)) (t:List Itm) (i:Nat),lev i (a++[t])=max (lev i a) (i+a.length+deps t)
 | [],t,i=>by simp [lev]
 | l::r,t,i=>by rw [List.cons_append,lev,lev,lev_snoc r t,List.length_cons];omega
structure ChkSt (x:Itm) (st:List (List Itm)) (p D:Nat):Prop where
 rt:right x=rall st
 pr:par x=p+sump st
 dp:dep x=max D (lev 0 st)
 ln:st.length≤D+1
 lp:st.length≤p+1
theorem ChkSt.start (x:Itm):ChkSt x [[x]] 0 0:=by
 refine ⟨?_,?_,?_,?_,?_⟩
 ·
  simp [rall,rights]
 ·
  simp [sump,pars]
 ·
  simp [lev,deps]
 ·
  simp
 ·
  simp
theorem ChkSt.pop {x:Itm} {a:List (List Itm)} {p D:Nat} (h:ChkSt x (a++[[]]) p D):ChkSt x a p D:=by
 have h1:=h.rt
 have h2:=h.pr
 have h3:=h.dp
 have h4:=h.ln
 have h5:=h.lp
 rw [rall_snoc,rights,Bool.and_true] at h1
 rw [sump_snoc,pars] at h2
 rw [lev_snoc,deps] at h3
 rw [List.length_append,List.length_singleton] at h4 h5
 exact ⟨h1,by omega,by omega,by omega,by omega⟩
theorem ChkSt.bad {x:Itm} {a:List (List Itm)} {p D:Nat} {k:Int} {n:Nat} {d:List UInt8} {l r:List Itm} (h:ChkSt x (a++[.mk k n d l::r]) p D) (ho:own k n d l=false):right x=false:=by
 rw [h.rt,rall_snoc,rights,right,ho]
 simp
theorem own_flat {k:Int} {n:Nat} {d:List UInt8} {l:List Itm} (h:own k n d l=true) (hk:¬ (k=4∨k=5)):l=[]:=by
 unfold own at h
 rw [if_neg hk] at h
 split at h
 ·
  simp at h;exact h.2
 split at h
 ·
  simp at h;exact h.2
 split at h
 ·
  simp at h;exact h.2.1
 ·
  cases h
theorem ChkSt.flat {x:Itm} {a:List (List Itm)} {p D:Nat} {k:Int} {n:Nat} {d:List UInt8} {l r:List Itm} (h:ChkSt x (a++[.mk k n d l::r]) p D) (ho:own k n d l=true) (hk:¬ (k=4∨k=5)):ChkSt x (a++[r]) (p+1) D:=by
 have hl:=own_flat ho hk
 subst hl
 have h1:=h.rt
 have h2:=h.pr
 have h3:=h.dp
 have h4:=h.ln
 have h5:=h.lp
 rw [rall_snoc,rights,right,ho,rights,Bool.and_self,Bool.true_and] at h1
 rw [sump_snoc,pars,par,pars] at h2
 rw [lev_snoc,deps,dep,if_neg hk,deps] at h3
 rw [List.length_append,List.length_singleton] at h4 h5
 refine ⟨?_,?_,?_,?_,?_⟩
 ·
  rw [h1,rall_snoc]
 ·
  rw [sump_snoc];omega
 ·
  rw [lev_snoc];omega
 ·
  rw [List.length_append,List.length_singleton];omega
 ·
  rw [List.length_append,List.length_singleton];omega
theorem ChkSt.arr {x:Itm} {a:List (List Itm)} {p D:Nat} {k:Int} {n:Nat} {d:List UInt8} {l r:List Itm} (h:ChkSt x (a++[.mk k n d l::r]) p D) (ho:own k n d l=true) (hk:k=4∨k=5):ChkSt x (a++[r]++[l]) (p+1) (max D (a.length+1)):=by
 have h1:=h.rt
 have h2:=h.pr
 have h3:=h.dp
 have h4:=h.ln
 have h5:=h.lp
 rw [rall_snoc,rights,right,ho,Bool.true_and] at h1
 rw [sump_snoc,pars,par] at h2
 rw [lev_snoc,deps,dep,if_pos hk] at h3
 rw [List.length_append,List.length_singleton] at h4 h5
 refine ⟨?_,?_,?_,?_,?_⟩
 ·
  rw [h1,rall_snoc,rall_snoc]
  cases rall a <;> cases rights r <;> cases rights l <;> rfl
 ·
  rw [sump_snoc,sump_snoc];omega
 ·
  rw [lev_snoc,lev_snoc,List.length_append,List.length_singleton];omega
 ·
  rw [List.length_append,List.length_append,List.length_singleton,List.length_singleton];omega
 ·
  rw [List.length_append,List.length_append,List.length_singleton,List.length_singleton];omega
theorem ChkSt.left {x:Itm} {a:List (List Itm)} {p D:Nat} {y:Itm} {r:List Itm} (h:ChkSt x (a++[y::r]) p D):p<par x∧D≤dep x∧a.length≤p:=by
 have h2:=h.pr
 have h3:=h.dp
 have h5:=h.lp
 rw [sump_snoc,pars] at h2
 rw [List.length_append,List.length_singleton] at h5
 cases y with
 | mk k n d l =>
  rw [par] at h2
  omega
theorem ChkSt.done {x:Itm} {p D:Nat} (h:ChkSt x [] p D):right x=true∧par x=p∧dep x=D:=by
 have h1:=h.rt
 have h2:=h.pr
 have h3:=h.dp
 rw [rall] at h1
 rw [sump] at h2
 rw [lev] at h3
 exact ⟨h1,by omega,by omega⟩
end Go.Proofs.YtlecbblmaadpiaaGreatDoor
