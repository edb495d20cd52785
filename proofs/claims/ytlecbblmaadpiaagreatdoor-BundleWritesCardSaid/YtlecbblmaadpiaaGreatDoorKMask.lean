import Derived.Test.YtlecbblmaadpiaaGreatDoorKNumE
namespace Go.Proofs.YtlecbblmaadpiaaGreatDoor
inductive Itm where
 | mk (kind:Int) (n:Nat) (data:List UInt8) (list:List Itm)
namespace Itm
def kind:Itm→Int|mk k _ _ _=>k
def num:Itm→Nat|mk _ n _ _=>n
def data:Itm→List UInt8|mk _ _ d _=>d
def list:Itm→List Itm|mk _ _ _ l=>l
def zero:Itm:=mk 0 0 [] []
end Itm
def hsz (n:Nat):Nat:=if n<24 then 0 else if n<256 then 1 else if n<65536 then 2 else if n<4294967296 then 4 else 8
def hlow (n:Nat):Nat:=if n<24 then n else if n<256 then 24 else if n<65536 then 25 else if n<4294967296 then 26 else 27
def hd (m n:Nat):List UInt8:=UInt8.ofNat (32*m+hlow n)::be n (hsz n)
def plain (d:List UInt8):Bool:=d.all fun c=>decide (32≤c.toNat)&&decide (c.toNat≤126)
def own (k:Int) (n:Nat) (d:List UInt8) (l:List Itm):Bool :=
 if k=0 then d.isEmpty&&l.isEmpty else if k=2 then n==0&&l.isEmpty else if k=3 then n==0&&(l.isEmpty&&plain d) else if k=4∨k=5 then n==0&&d.isEmpty else false
mutual
def right:Itm→Bool | .mk k n d l=>own k n d l&&rights l
def rights:List Itm→Bool | []=>true|x::r=>right x&&rights r
end
mutual
def dep:Itm→Nat | .mk k _ _ l=>deps l+if k=4∨k=5 then 1 else 0
def deps:List Itm→Nat | []=>0|x::r=>max (dep x) (deps r)
end
mutual
def par:Itm→Nat | .mk _ _ _ l=>1+pars l
def pars:List Itm→Nat | []=>0|x::r=>par x+pars r
end
mutual
def wri:Itm→List UInt8
 | .mk k n d l=>if k=0 then hd 0 n else if k=2∨k=3 then hd k.toNat d.length++d else if k=4 then hd 4 l.length++wrs l else 0x9f::(wrs l++[0xff])
def wrs:List Itm→List UInt8 | []=>[]|x::r=>wri x++wrs r
end
mutual
def Siz:Itm→Prop | .mk _ n d l=>n<18446744073709551616∧d.length<18446744073709551616∧l.length<18446744073709551616∧Sizs l
def Sizs:List Itm→Prop | []=>True|x::r=>Siz x∧Sizs r
end
def enc (x:Itm):List UInt8×Int:=if right x=false then ([],2) else if 8<dep x∨4096<par x then ([],32) else (wri x,0)
/-! ### How bytes are read -/
def headD:List UInt8→Except Int (Nat×Nat×List UInt8)
 | []=>.error 30
 | c::r =>
  if (c.toNat / 32≠0∧c.toNat / 32≠2∧c.toNat / 32≠3∧c.toNat / 32≠4)∨27<c.toNat % 32 then .error 31
  else if c.toNat % 32<24 then .ok (c.toNat / 32,c.toNat % 32,r)
  else if r.length<2 ^ (c.toNat % 32 - 24) then .error 30
  else if hsz (beNat (r.take (2 ^ (c.toNat % 32 - 24))))≠2 ^ (c.toNat % 32 - 24) then .error 31
  else .ok (c.toNat / 32,beNat (r.take (2 ^ (c.toNat % 32 - 24))),r.drop (2 ^ (c.toNat % 32 - 24)))
def textD (m n p:Nat) (r:List UInt8):Except Int (Itm×Nat×List UInt8) :=
 if m=3∧plain (r.take n)=false then .error 31 else if r.length<n then .error 30 else .ok (.mk m 0 (r.take n) [],p,r.drop n)
def many (sub:Nat→List UInt8→Except Int (Itm×Nat×List UInt8)):Nat→Nat→List UInt8→Except Int (List Itm×Nat×List UInt8)
 | 0,p,l=>.ok ([],p,l)
 | n+1,p,l=>match sub p l with
  | .error e=>.error e
  | .ok (x,p1,l1)=>match many sub n p1 l1 with
   | .error e=>.error e
   | .ok (xs,p2,l2)=>.ok (x::xs,p2,l2)
def endl (sub:Nat→List UInt8→Except Int (Itm×Nat×List UInt8)):Nat→Nat→List UInt8→Except Int (List Itm×Nat×List UInt8)
 | 0,_,_=>.error 30
 | _+1,_,[]=>.error 30
 | f+1,p,c::r=>if c=0xff then .ok ([],p,r) else match sub p (c::r) with
  | .error e=>.error e
  | .ok (x,p1,l1)=>match endl sub f p1 l1 with
   | .error e=>.error e
   | .ok (xs,p2,l2)=>.ok (x::xs,p2,l2)
def arrB (c:UInt8):Bool:=c==0x9f||(c.toNat / 32==4&&decide (c.toNat % 32≤27))
def itemD (sub:Nat→List UInt8→Except Int (Itm×Nat×List UInt8)) (deep:Bool) (p:Nat):List UInt8→Except Int (Itm×Nat×List UInt8)
 | []=>.error 30
 | c::r =>
  if p=4096∨(arrB c=true∧deep=true) then .error 32
  else if c=0x9f then match endl sub (r.length+1) (p+1) r with
   | .error e=>.error e
   | .ok (xs,p2,l2)=>.ok (.mk 5 0 [] xs,p2,l2)
  else match headD (c::r) with
   | .error e=>.error e
   | .ok (m,n,r')=>if m=0 then .ok (.mk 0 n [] [],p+1,r') else if m=4 then (match many sub n (p+1) r' with
     | .error e=>.error e
     | .ok (xs,p2,l2)=>.ok (.mk 4 0 [] xs,p2,l2)) else textD m n (p+1) r'
def dec:Nat→Nat→List UInt8→Except Int (Itm×Nat×List UInt8)
 | 0=>itemD (fun _ _=>.error 32) true
 | d+1=>itemD (dec d) false
def decode (l:List UInt8):Itm×Int×Int:=match dec 8 0 l with | .error e=>(.zero,0,e) | .ok (x,_,r)=>(x,(l.length - r.length:Nat),0)
/-! ### Heads -/
theorem hsz_low (n:Nat):24≤n→hsz n=2 ^ (hlow n - 24)∧24≤hlow n∧hlow n≤27:=by
 intro h
 unfold hsz hlow
 repeat' (split <;> try omega)
 all_goals (refine ⟨by decide,by omega,by omega⟩)
theorem hsz_le (n:Nat):hsz n≤8:=by unfold hsz;repeat' (split <;> try omega)
theorem hlow_le (n:Nat):hlow n≤27:=by unfold hlow;repeat' (split <;> try omega)
theorem hsz_bd (n:Nat) (h:n<18446744073709551616):24≤n→n<256 ^ hsz n:=by
 intro h24
 unfold hsz
 repeat' split
 all_goals omega
theorem hd_len (m n:Nat):(hd m n).length=hsz n+1:=by simp [hd,be_length]
theorem byte_nat (v:Nat) (h:v<256):(UInt8.ofNat v).toNat=v:=by rw [UInt8.toNat_ofNat'];exact Nat.mod_eq_of_lt h
theorem hd_first (m n:Nat) (hm:m≤4):(UInt8.ofNat (32*m+hlow n)).toNat / 32=m∧(UInt8.ofNat (32*m+hlow n)).toNat % 32=hlow n:=by
 have:=hlow_le n
 rw [byte_nat _ (by omega)]
 omega
theorem headD_hd (m n:Nat) (r:List UInt8) (hm:m=0∨m=2∨m=3∨m=4) (hn:n<18446744073709551616):headD (hd m n++r)=.ok (m,n,r):=by
 have h27:=hlow_le n
 obtain ⟨h1,h2⟩:=hd_first m n (by omega)
 unfold hd
 rw [List.cons_append,headD,h1,h2,if_neg (by omega)]
 by_cases h24:n<24
 ·
  have e:hlow n=n:=by unfold hlow;rw [if_pos h24]
  have e0:hsz n=0:=by unfold hsz;rw [if_pos h24]
  rw [e,if_pos h24,e0]
  rfl
 ·
  obtain ⟨e,e1,e2⟩:=hsz_low n (by omega)
  have hlen:=be_length n (hsz n)
  have ht:(be n (hsz n)++r).take (hsz n)=be n (hsz n):=by rw [List.take_left' hlen]
  have hb:beNat (be n (hsz n))=n:=by rw [beNat_be _ _ (hsz_le n)];exact Nat.mod_eq_of_lt (hsz_bd n hn (by omega))
  rw [if_neg (by omega),← e,if_neg (by simp [hlen]),ht,hb,if_neg (by simp),List.drop_left' hlen]
theorem headD_ok {l r:List UInt8} {m n:Nat} (h:headD l=.ok (m,n,r)):l=hd m n++r∧n<18446744073709551616∧(m=0∨m=2∨m=3∨m=4):=by
 cases l with
 | nil=>simp [headD] at h
 | cons c t =>
  have hc:=c.toNat_lt
  rw [headD] at h
  split at h
  ·
   cases h
  next h1 =>
  split at h
  next h2 =>
   cases h
   refine ⟨?_,by omega,by omega⟩
   unfold hd
   have e:hlow (c.toNat % 32)=c.toNat % 32:=by unfold hlow;rw [if_pos h2]
   have e0:hsz (c.toNat % 32)=0:=by unfold hsz;rw [if_pos h2]
   rw [e,e0,show 32*(c.toNat / 32)+c.toNat % 32=c.toNat by omega]
   simp [be]
  next h2 =>
  split at h
  ·
   cases h
  next h3 =>
  split at h
  ·
   cases h
  next h4 =>
  cases h
  have hk:2 ^ (c.toNat % 32 - 24)≤8:=by
   have:c.toNat % 32 - 24≤3:=by omega
   calc 2 ^ (c.toNat % 32 - 24)≤2 ^ 3:=Nat.pow_le_pow_right (by decide) this
    _=8:=rfl
  have hlen:(t.take (2 ^ (c.toNat % 32 - 24))).length=2 ^ (c.toNat % 32 - 24):=by rw [List.length_take];omega
  have h4':hsz (beNat (t.take (2 ^ (c.toNat % 32 - 24))))=2 ^ (c.toNat % 32 - 24):=by simpa using h4
  have hb:=be_beNat _ _ hlen hk
  have hlt:=beNat_lt (t.take (2 ^ (c.toNat % 32 - 24)))
  generalize hN:beNat (t.take (2 ^ (c.toNat % 32 - 24)))=N at *
  have hp:0<2 ^ (c.toNat % 32 - 24):=Nat.pow_pos (by decide)
  have h24:24≤N:=by
   rcases Nat.lt_or_ge N 24 with hh|hh
   ·
    unfold hsz at h4';rw [if_pos hh] at h4';omega
   ·
    exact hh
  obtain ⟨e,e1,e2⟩:=hsz_low N h24
  have hlo:hlow N=c.toNat % 32:=by
   have h5:=e.symm.trans h4'
   have:=(Nat.pow_right_inj (a:=2) (by decide)).1 h5
   omega
  refine ⟨?_,hlt,by omega⟩
  unfold hd
  rw [hlo,h4',hb,show 32*(c.toNat / 32)+c.toNat % 32=c.toNat by omega]
  simp
theorem headD_short (m n:Nat) (hm:m=0∨m=2∨m=3∨m=4) (cut:Nat) (h1:cut<(hd m n).length):headD ((hd m n).take cut)=.error 30:=by
 rw [hd_len] at h1
 cases cut with
 | zero=>rfl
 | succ j =>
  have h27:=hlow_le n
  obtain ⟨f1,f2⟩:=hd_first m n (by omega)
  have h24:24≤n:=by
   rcases Nat.lt_or_ge n 24 with hh|hh
   ·
    unfold hsz at h1;rw [if_pos hh] at h1;omega
   ·
    exact hh
  obtain ⟨e,e1,e2⟩:=hsz_low n h24
  unfold hd
  rw [List.take_succ_cons,headD,f1,f2,if_neg (by omega),if_neg (by omega),← e,if_pos (by rw [List.length_take,be_length];omega)]
open Go.RowKit
mutual
def RdI (w:World) (B:Nat) (v:Value):Itm→Prop
 | .mk k n d l=>∃ (A:Option Addr) (nd cd:Nat) (AL:Option Addr) (nl cl:Nat),v=.agg #[.int .i64 k,.int .u64 (n:Int),.slice A nd cd,.slice AL nl cl] ∧
   (Lit.int .i64 k).wf=true∧n<18446744073709551616∧(nd≤cd∧nd≤140737488355328)∧Rd w B A nd d∧(nl≤cl∧nl≤140737488355328)∧l.length=nl∧(0<nl→∃ b o,AL=some ⟨b,o,none⟩∧b<B∧RdIs w B b o l)
def RdIs (w:World) (B b o:Nat):List Itm→Prop
 | []=>True
 | x::r=>(∃ c0 c1 c2 c3:Value,w.cell? ⟨b,o,none⟩=some c0∧w.cell? ⟨b,o+1,none⟩=some c1∧w.cell? ⟨b,o+2,none⟩=some c2∧w.cell? ⟨b,o+3,none⟩=some c3∧RdI w B (.agg #[c0,c1,c2,c3]) x)∧RdIs w B b (o+4) r
end
mutual
theorem RdI.keep {w w':World} {B:Nat} (hk:∀ p:Addr,p.block<B→w'.cell? p=w.cell? p):∀ {x:Itm} {v:Value},RdI w B v x→RdI w' B v x
 | .mk k n d l,v,h=>by
  rw [RdI] at h ⊢
  obtain ⟨A,nd,cd,AL,nl,cl,e,h1,h2,h3,h4,h5,h6,h7⟩:=h
  refine ⟨A,nd,cd,AL,nl,cl,e,h1,h2,h3,h4.keep hk,h5,h6,fun h0=>?_⟩
  obtain ⟨b,o,ea,hb,hs⟩:=h7 h0
  exact ⟨b,o,ea,hb,RdIs.keep hk hb hs⟩
theorem RdIs.keep {w w':World} {B:Nat} (hk:∀ p:Addr,p.block<B→w'.cell? p=w.cell? p) {b:Nat} (hb:b<B):∀ {l:List Itm} {o:Nat},RdIs w B b o l→RdIs w' B b o l
 | [],o,_=>by rw [RdIs];trivial
 | x::r,o,h=>by
  rw [RdIs] at h ⊢
  obtain ⟨⟨c0,c1,c2,c3,g0,g1,g2,g3,gx⟩,hr⟩:=h
  exact ⟨⟨c0,c1,c2,c3,(hk ⟨b,o,none⟩ hb).trans g0,(hk ⟨b,o+1,none⟩ hb).trans g1,(hk ⟨b,o+2,none⟩ hb).trans g2,(hk ⟨b,o+3,none⟩ hb).trans g3,RdI.keep hk gx⟩,RdIs.keep hk hb hr⟩
end
mutual
theorem RdI.more {w:World} {B B':Nat} (hB:B≤B'):∀ {x:Itm} {v:Value},RdI w B v x→RdI w B' v x
 | .mk k n d l,v,h=>by
  rw [RdI] at h ⊢
  obtain ⟨A,nd,cd,AL,nl,cl,e,h1,h2,h3,h4,h5,h6,h7⟩:=h
  refine ⟨A,nd,cd,AL,nl,cl,e,h1,h2,h3,h4.more hB,h5,h6,fun h0=>?_⟩
  obtain ⟨b,o,ea,hb,hs⟩:=h7 h0
  exact ⟨b,o,ea,by omega,RdIs.more hB hs⟩
theorem RdIs.more {w:World} {B B':Nat} (hB:B≤B') {b:Nat}:∀ {l:List Itm} {o:Nat},RdIs w B b o l→RdIs w B' b o l
 | [],o,_=>by rw [RdIs];trivial
 | x::r,o,h=>by
  rw [RdIs] at h ⊢
  obtain ⟨⟨c0,c1,c2,c3,g0,g1,g2,g3,gx⟩,hr⟩:=h
  exact ⟨⟨c0,c1,c2,c3,g0,g1,g2,g3,RdI.more hB gx⟩,RdIs.more hB hr⟩
end
section
variable {w w':World} {B B' b:Nat} {v:Value} {x:Itm} {l:List Itm} {o:Nat}
theorem RdI.below (h:RdI w B v x) (hb:Below B w w'):RdI w' B v x:=h.keep fun _ hp=>hb.cell hp
theorem RdIs.below (h:RdIs w B b o l) (h0:b<B) (hb:Below B w w'):RdIs w' B b o l:=h.keep (fun _ hp=>hb.cell hp) h0
theorem RdI.alloc (h:RdI w B v x) (hB:B≤w.heap.size) (ob:Obj):RdI (w.alloc ob) B v x:=h.keep fun p hp=>World.cell?_alloc_lt w ob p (by omega)
theorem RdIs.get:∀ {l:List Itm} {o:Nat},RdIs w B b o l→∀ i (hi:i<l.length),∃ c0 c1 c2 c3:Value,w.cell? ⟨b,o+i*4,none⟩=some c0∧w.cell? ⟨b,o+i*4+1,none⟩=some c1∧w.cell? ⟨b,o+i*4+2,none⟩=some c2∧w.cell? ⟨b,o+i*4+3,none⟩=some c3∧RdI w B (.agg #[c0,c1,c2,c3]) (l[i]'hi)
 | [],o,_,i,hi=>absurd hi (Nat.not_lt_zero _)
 | x::r,o,h,0,hi=>by
  rw [RdIs] at h
  simpa using h.1
 | x::r,o,h,i+1,hi=>by
  rw [RdIs] at h
  have:=RdIs.get h.2 i (by simpa using hi)
  rw [show o+(i+1)*4=o+4+i*4 by omega]
  simpa using this
theorem RdIs.of_get:∀ {l:List Itm} {o:Nat},(∀ i (hi:i<l.length),∃ c0 c1 c2 c3:Value,w.cell? ⟨b,o+i*4,none⟩=some c0∧w.cell? ⟨b,o+i*4+1,none⟩=some c1∧w.cell? ⟨b,o+i*4+2,none⟩=some c2∧w.cell? ⟨b,o+i*4+3,none⟩=some c3∧RdI w B (.agg #[c0,c1,c2,c3]) (l[i]'hi))→RdIs w B b o l
 | [],o,_=>by rw [RdIs];trivial
 | x::r,o,h=>by
  rw [RdIs]
  have h0:=h 0 (by simp)
  rw [Nat.zero_mul,Nat.add_zero] at h0
  refine ⟨h0,RdIs.of_get fun i hi=>?_⟩
  have:=h (i+1) (by simpa using hi)
  rw [show o+(i+1)*4=o+4+i*4 by omega] at this
  simpa using this
end
theorem RdI.open {w:World} {B:Nat} {v:Value} {k:Int} {n:Nat} {d:List UInt8} {l:List Itm} (h:RdI w B v (.mk k n d l)) :
  ∃ (A:Option Addr) (nd cd:Nat) (AL:Option Addr) (cl:Nat),v=.agg #[.int .i64 k,.int .u64 (n:Int),.slice A nd cd,.slice AL l.length cl] ∧
   (Lit.int .i64 k).wf=true∧n<18446744073709551616∧(nd≤cd∧nd≤140737488355328)∧Rd w B A nd d∧(l.length≤cl∧l.length≤140737488355328)∧(0<l.length→∃ b o,AL=some ⟨b,o,none⟩∧b<B∧RdIs w B b o l):=by
 rw [RdI] at h
 obtain ⟨A,nd,cd,AL,nl,cl,e,h1,h2,h3,h4,h5,h6,h7⟩:=h
 subst h6
 exact ⟨A,nd,cd,AL,cl,e,h1,h2,h3,h4,h5,h7⟩
theorem RdI.form {w:World} {B:Nat} {v:Value} {x:Itm} (h:RdI w B v x):∃ (k:Int) (n:Nat) (A:Option Addr) (nd cd:Nat) (AL:Option Addr) (nl cl:Nat),v=.agg #[.int .i64 k,.int .u64 (n:Int),.slice A nd cd,.slice AL nl cl]:=by
 obtain ⟨k,n,d,l⟩:=x
 obtain ⟨A,nd,cd,AL,cl,rfl,-,-,-,-,-,-⟩:=h.open
 exact ⟨_,_,_,_,_,_,_,_,rfl⟩
theorem par_get:∀ {l:List Itm} {i:Nat} (hi:i<l.length),par (l[i]'hi)≤pars l
 | [],_,hi=>absurd hi (Nat.not_lt_zero _)
 | x::r,0,_=>by rw [pars];simp
 | x::r,i+1,hi=>by
  have:=par_get (l:=r) (i:=i) (by simpa using hi)
  rw [pars]
  simp
  omega
mutual
theorem RdI.siz {w:World} {B:Nat}:∀ {x:Itm} {v:Value},RdI w B v x→Siz x
 | .mk k n d l,v,h=>by
  rw [RdI] at h
  obtain ⟨A,nd,cd,AL,nl,cl,e,h1,h2,h3,h4,h5,h6,h7⟩:=h
  have hd:=h4.1
  refine ⟨h2,by omega,by omega,?_⟩
  rcases Nat.eq_zero_or_pos nl with h0|h0
  ·
   have:l=[]:=List.eq_nil_of_length_eq_zero (by omega)
   subst this;trivial
  ·
   obtain ⟨b,o,ea,hb,hs⟩:=h7 h0
   exact RdIs.siz hs
theorem RdIs.siz {w:World} {B b:Nat}:∀ {l:List Itm} {o:Nat},RdIs w B b o l→Sizs l
 | [],_,_=>trivial
 | x::r,o,h=>by
  rw [RdIs] at h
  obtain ⟨⟨c0,c1,c2,c3,g0,g1,g2,g3,gx⟩,hr⟩:=h
  exact ⟨RdI.siz gx,RdIs.siz hr⟩
end
theorem Rd.sub {w w':World} {B B' n:Nat} {A:Option Addr} {l:List UInt8} (h:Rd w B A n l) (hB:B≤B') (hk:∀ (p:Addr) (u:Value),p.block<B→w.cell? p=some u→w'.cell? p=some u):Rd w' B' A n l :=
 ⟨h.1,fun hn=>by
  obtain ⟨b,o,e,hb,hc⟩:=h.2 hn
  exact ⟨b,o,e,by omega,fun i hi=>hk ⟨b,o+i,none⟩ _ hb (hc i hi)⟩⟩
mutual
theorem RdI.sub {w w':World} {B B':Nat} (hB:B≤B') (hk:∀ (p:Addr) (u:Value),p.block<B→w.cell? p=some u→w'.cell? p=some u):∀ {x:Itm} {v:Value},RdI w B v x→RdI w' B' v x
 | .mk k n d l,v,h=>by
  rw [RdI] at h ⊢
  obtain ⟨A,nd,cd,AL,nl,cl,e,h1,h2,h3,h4,h5,h6,h7⟩:=h
  refine ⟨A,nd,cd,AL,nl,cl,e,h1,h2,h3,h4.sub hB hk,h5,h6,fun h0=>?_⟩
  obtain ⟨b,o,ea,hb,hs⟩:=h7 h0
  exact ⟨b,o,ea,by omega,RdIs.sub hB hk hb hs⟩
theorem RdIs.sub {w w':World} {B B':Nat} (hB:B≤B') (hk:∀ (p:Addr) (u:Value),p.block<B→w.cell? p=some u→w'.cell? p=some u) {b:Nat} (hb:b<B):∀ {l:List Itm} {o:Nat},RdIs w B b o l→RdIs w' B' b o l
 | [],o,_=>by rw [RdIs];trivial
 | x::r,o,h=>by
  rw [RdIs] at h ⊢
  obtain ⟨⟨c0,c1,c2,c3,g0,g1,g2,g3,gx⟩,hr⟩:=h
  exact ⟨⟨c0,c1,c2,c3,hk ⟨b,o,none⟩ _ hb g0,hk ⟨b,o+1,none⟩ _ hb g1,hk ⟨b,o+2,none⟩ _ hb g2,hk ⟨b,o+3,none⟩ _ hb g3,RdI.sub hB hk gx⟩,RdIs.sub hB hk hb hr⟩
end
def rub (g:Nat) (w:World):World:={ w with heap:=w.heap.modify g fun _=>.cells #[] 0 }
theorem rub_heap {g k:Nat} {w:World} (h:k≠g):(rub g w).heap[k]?=w.heap[k]?:=by
 unfold rub
 simp only [Array.getElem?_modify]
 rw [if_neg (fun e=>h e.symm)]
theorem rub_size {g:Nat} {w:World}:(rub g w).heap.size=w.heap.size:=by simp [rub]
theorem rub_cell {g:Nat} {w:World} {p:Addr} (h:p.block≠g):(rub g w).cell? p=w.cell? p:=World.cell?_of_block (w:=w) (rub_heap h)
theorem rub_none {g:Nat} {w:World} {p:Addr} {u:Value} (h:(rub g w).cell? p=some u):p.block≠g:=by
 intro e
 have hlt:=World.block_lt_of_cell? (rub g w) p h
 have hb:(rub g w).heap[g]?=some (.cells #[] 0):=by
  unfold rub
  simp only [Array.getElem?_modify]
  rw [rub_size,e] at hlt
  simp [hlt]
 unfold World.cell? at h
 rw [e,hb] at h
 simp at h
theorem rub_sub {g:Nat} {w:World} {p:Addr} {u:Value} (h:(rub g w).cell? p=some u):w.cell? p=some u:=by rw [← rub_cell (rub_none h)];exact h
structure Only (g:Nat) (w w':World):Prop where
 os:w'.os=w.os
 tape:w'.tape=w.tape
 output:w'.output=w.output
 size:w.heap.size≤w'.heap.size
 block:∀ k,k<w.heap.size→k≠g→w'.heap[k]?=w.heap[k]?
section
variable {g:Nat} {a b c:World}
theorem Only.refl (g:Nat) (w:World):Only g w w:=⟨rfl,rfl,rfl,Nat.le_refl _,fun _ _ _=>rfl⟩
theorem Only.trans (h:Only g a b) (k:Only g b c):Only g a c :=
 ⟨k.os.trans h.os,k.tape.trans h.tape,k.output.trans h.output,Nat.le_trans h.size k.size,fun i hi hg=>(k.block i (Nat.lt_of_lt_of_le hi h.size) hg).trans (h.block i hi hg)⟩
theorem Only.of_below (h:Below a.heap.size a b):Only g a b:=⟨h.os,h.tape,h.output,h.size,fun k hk _=>h.block k hk⟩
theorem Only.below (h:Only g a b) (hg:g≤a.heap.size):Below g a b:=⟨h.os,h.tape,h.output,h.size,fun k hk=>h.block k (by omega) (by omega)⟩
theorem Only.alloc (h:Only g a b) (o:Obj):Only g a (b.alloc o):=h.trans (Only.of_below ((Below.refl _ _).alloc nlr o))
theorem Only.drew (h:Only g a b):Only g a b.drew:=⟨h.os,h.tape,h.output,h.size,h.block⟩
theorem Only.setCell (h:Only g a b) {p:Addr} (hp:p.block=g) (u:Value):Only g a (b.setCell p u) :=
 h.trans ⟨rfl,rfl,rfl,by simp [World.setCell],fun k _ hk=>Below.heap_setCell _ _ _ _ (by omega)⟩
theorem Only.cell (h:Only g a b) {p:Addr} (hp:p.block<a.heap.size) (hg:p.block≠g):b.cell? p=a.cell? p:=World.cell?_of_block (w:=a) (h.block p.block hp hg)
theorem Only.rub_cell (h:Only g a b) {p:Addr} {u:Value} (hp:p.block<a.heap.size) (hc:(rub g a).cell? p=some u):(rub g b).cell? p=some u:=by
 have hg:=rub_none hc
 rw [Go.Proofs.YtlecbblmaadpiaaGreatDoor.rub_cell hg,h.cell hp hg]
 exact rub_sub hc
theorem RdI.only {v:Value} {x:Itm} (hr:RdI (rub g a) a.heap.size v x) (h:Only g a b):RdI (rub g b) b.heap.size v x:=hr.sub h.size fun _ _ hp hc=>h.rub_cell hp hc
theorem RdIs.only {bl o:Nat} {l:List Itm} (hr:RdIs (rub g a) a.heap.size bl o l) (hb:bl<a.heap.size) (h:Only g a b):RdIs (rub g b) b.heap.size bl o l:=hr.sub h.size (fun _ _ hp hc=>h.rub_cell hp hc) hb
theorem Rd.only {A:Option Addr} {n:Nat} {l:List UInt8} (hr:Rd (rub g a) a.heap.size A n l) (h:Only g a b):Rd (rub g b) b.heap.size A n l:=hr.sub h.size fun _ _ hp hc=>h.rub_cell hp hc
theorem Rd.rub {A:Option Addr} {n B:Nat} {l:List UInt8} (hr:Rd a B A n l) (hB:B≤g):Rd (Go.Proofs.YtlecbblmaadpiaaGreatDoor.rub g a) B A n l:=hr.sub nlr fun p _ hp hc=>by
 rw [Go.Proofs.YtlecbblmaadpiaaGreatDoor.rub_cell (by omega)];exact hc
end
def mask (S:Nat→Bool) (w:World):World:={ w with heap:=w.heap.mapIdx fun i o=>if S i then .cells #[] 0 else o }
theorem mask_size {S:Nat→Bool} {w:World}:(mask S w).heap.size=w.heap.size:=by simp [mask]
theorem mask_heap {S:Nat→Bool} {w:World} {k:Nat} (h:S k=false):(mask S w).heap[k]?=w.heap[k]?:=by
 unfold mask
 simp only [Array.getElem?_mapIdx,h]
 cases w.heap[k]? <;> simp
theorem mask_cell {S:Nat→Bool} {w:World} {p:Addr} (h:S p.block=false):(mask S w).cell? p=w.cell? p:=World.cell?_of_block (w:=w) (mask_heap h)
theorem mask_out {S:Nat→Bool} {w:World} {p:Addr} {u:Value} (h:(mask S w).cell? p=some u):S p.block=false:=by
 rcases hs:S p.block with _|_
 ·
  rfl
 ·
  exfalso
  have hlt:=World.block_lt_of_cell? (mask S w) p h
  rw [mask_size] at hlt
  have hb:(mask S w).heap[p.block]?=some (.cells #[] 0):=by
   unfold mask
   simp only [Array.getElem?_mapIdx]
   simp [hlt,hs]
  unfold World.cell? at h
  rw [hb] at h
  simp at h
theorem mask_sub {S:Nat→Bool} {w:World} {p:Addr} {u:Value} (h:(mask S w).cell? p=some u):w.cell? p=some u:=by rw [← mask_cell (mask_out h)];exact h
theorem mask_go {S S':Nat→Bool} {w w':World} {p:Addr} {u:Value} (h:(mask S w).cell? p=some u) (hk:∀ k,k<w.heap.size→S k=false→w'.heap[k]?=w.heap[k]?) (hs:∀ k,k<w.heap.size→S k=false→S' k=false):(mask S' w').cell? p=some u:=by
 have ho:=mask_out h
 have hc:=mask_sub h
 have hlt:=World.block_lt_of_cell? w p hc
 rw [mask_cell (hs _ hlt ho),World.cell?_of_block (w:=w) (hk _ hlt ho)]
 exact hc
theorem RdI.mask_go {S S':Nat→Bool} {w w':World} {B B':Nat} {v:Value} {x:Itm} (h:RdI (mask S w) B v x) (hB:B≤B') (hk:∀ k,k<w.heap.size→S k=false→w'.heap[k]?=w.heap[k]?) (hs:∀ k,k<w.heap.size→S k=false→S' k=false):RdI (mask S' w') B' v x :=
 h.sub hB fun _ _ _ hc=>Go.Proofs.YtlecbblmaadpiaaGreatDoor.mask_go hc hk hs
theorem Rd.mask_go {S S':Nat→Bool} {w w':World} {B B' n:Nat} {A:Option Addr} {l:List UInt8} (h:Rd (mask S w) B A n l) (hB:B≤B') (hk:∀ k,k<w.heap.size→S k=false→w'.heap[k]?=w.heap[k]?) (hs:∀ k,k<w.heap.size→S k=false→S' k=false):Rd (mask S' w') B' A n l :=
 h.sub hB fun _ _ _ hc=>Go.Proofs.YtlecbblmaadpiaaGreatDoor.mask_go hc hk hs
theorem RdI.unmask {S:Nat→Bool} {w:World} {B:Nat} {v:Value} {x:Itm} (h:RdI (mask S w) B v x):RdI w B v x:=h.sub nlr fun _ _ _ hc=>mask_sub hc
def lows (lo:Nat) (k:Nat):Bool:=decide (k<lo)
def lowsOr (lo:Nat) (v:Value) (k:Nat):Bool:=decide (k<lo)||decide (v.ownBlock=some k)
theorem lows_f {lo k:Nat}:lows lo k=false↔lo≤k:=by unfold lows;simp
theorem lowsOr_f {lo k:Nat} {v:Value}:lowsOr lo v k=false↔lo≤k∧v.ownBlock≠some k:=by unfold lowsOr;simp
def ItC (w:World) (B:Nat):List Value→List Itm→Prop
 | [],[]=>True
 | c0::c1::c2::c3::cs,x::xs=>RdI w B (.agg #[c0,c1,c2,c3]) x∧ItC w B cs xs
 | _,_=>False
theorem ItC.sub {w w':World} {B B':Nat} (hB:B≤B') (hk:∀ (p:Addr) (u:Value),p.block<B→w.cell? p=some u→w'.cell? p=some u):∀ {cs:List Value} {xs:List Itm},ItC w B cs xs→ItC w' B' cs xs
 | [],[],_=>trivial
 | c0::c1::c2::c3::cs,x::xs,h=>⟨h.1.sub hB hk,ItC.sub hB hk h.2⟩
 | [],_::_,h=>h.elim
 | [_],_,h=>by simp [ItC] at h
 | [_,_],_,h=>by simp [ItC] at h
 | [_,_,_],_,h=>by simp [ItC] at h
 | _::_::_::_::_,[],h=>h.elim
theorem ItC.mask_go {S S':Nat→Bool} {w w':World} {B B':Nat} {cs:List Value} {xs:List Itm} (h:ItC (mask S w) B cs xs) (hB:B≤B') (hk:∀ k,k<w.heap.size→S k=false→w'.heap[k]?=w.heap[k]?) (hs:∀ k,k<w.heap.size→S k=false→S' k=false):ItC (mask S' w') B' cs xs :=
 h.sub hB fun _ _ _ hc=>Go.Proofs.YtlecbblmaadpiaaGreatDoor.mask_go hc hk hs
theorem ItC.snoc {w:World} {B:Nat} {c0 c1 c2 c3:Value} {x:Itm} (hx:RdI w B (.agg #[c0,c1,c2,c3]) x):∀ {cs:List Value} {xs:List Itm},ItC w B cs xs→ItC w B (cs++[c0,c1,c2,c3]) (xs++[x])
 | [],[],_=>⟨hx,trivial⟩
 | c0::c1::c2::c3::cs,x::xs,h=>⟨h.1,ItC.snoc hx h.2⟩
 | [],_::_,h=>h.elim
 | [_],_,h=>by simp [ItC] at h
 | [_,_],_,h=>by simp [ItC] at h
 | [_,_,_],_,h=>by simp [ItC] at h
 | _::_::_::_::_,[],h=>h.elim
theorem ItC.len {w:World} {B:Nat}:∀ {cs:List Value} {xs:List Itm},ItC w B cs xs→cs.length=xs.length*4
 | [],[],_=>rfl
 | c0::c1::c2::c3::cs,x::xs,h=>by have:=ItC.len h.2;simp;omega
 | [],_::_,h=>h.elim
 | [_],_,h=>by simp [ItC] at h
 | [_,_],_,h=>by simp [ItC] at h
 | [_,_,_],_,h=>by simp [ItC] at h
 | _::_::_::_::_,[],h=>h.elim
theorem ItC.lie {w:World} {B b:Nat}:∀ {cs:List Value} {xs:List Itm} {o:Nat},ItC w B cs xs→(∀ j u,cs[j]?=some u→w.cell? ⟨b,o+j,none⟩=some u)→RdIs w B b o xs
 | [],[],_,_,_=>by rw [RdIs];trivial
 | c0::c1::c2::c3::cs,x::xs,o,h,hc=>by
  rw [RdIs]
  refine ⟨⟨c0,c1,c2,c3,hc 0 c0 rfl,hc 1 c1 rfl,hc 2 c2 rfl,hc 3 c3 rfl,h.1⟩,ItC.lie h.2 fun j u hj=>?_⟩
  rw [show o+4+j=o+(j+4) by omega]
  exact hc (j+4) u (by simpa using hj)
 | [],_::_,_,h,_=>h.elim
 | [_],_,_,h,_=>by simp [ItC] at h
 | [_,_],_,_,h,_=>by simp [ItC] at h
 | [_,_,_],_,_,h,_=>by simp [ItC] at h
 | _::_::_::_::_,[],_,h,_=>h.elim
end Go.Proofs.YtlecbblmaadpiaaGreatDoor
