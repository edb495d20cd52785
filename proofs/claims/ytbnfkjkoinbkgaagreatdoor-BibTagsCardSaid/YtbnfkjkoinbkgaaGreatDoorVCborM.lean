import Derived.Test.YtbnfkjkoinbkgaaGreatDoorVAbb
import Derived.Test.YtbnfkjkoinbkgaaGreatDoorVNumB
namespace Go.Proofs.YtbnfkjkoinbkgaaGreatDoor
inductive Itm where
 | mk (kind:Int) (n:Nat) (data:LB) (list:List Itm)
namespace Itm
def kind:Itm→Int|mk k _ _ _=>k
def num:Itm→Nat|mk _ n _ _=>n
def data:Itm→List UInt8|mk _ _ d _=>d
def list:Itm→List Itm|mk _ _ _ l=>l
def zero:Itm:=mk 0 0 [] []
end Itm
def hsz(n:Nat):Nat:=if n<24 then 0 else if n<256 then 1 else if n<65536 then 2 else if n<4294967296 then 4 else 8
def Qdq(n:Nat):Nat:=if n<24 then n else if n<256 then 24 else if n<65536 then 25 else if n<4294967296 then 26 else 27
def hd(m n:Nat):LB:=UInt8.ofNat (32*m+Qdq n)::be n (hsz n)
def plain(d:LB):Bool:=d.all fun c=>decide (32≤c.toNat)&&decide (c.toNat≤126)
def own(k:Int)(n:Nat)(d:LB)(l:List Itm):Bool :=
 if k=0 then d.isEmpty&&l.isEmpty else if k=2 then n==0&&l.isEmpty else if k=3 then n==0&&(l.isEmpty&&plain d) else if k=4∨k=5 then n==0&&d.isEmpty else false
mutual
def Qbd:Itm→Bool | .mk k n d l=>own k n d l&&Qan l
def Qan:List Itm→Bool | []=>true|x::r=>Qbd x&&Qan r
end
mutual
def dep:Itm→Nat | .mk k _ _ l=>Qcb l+if k=4∨k=5 then 1 else 0
def Qcb:List Itm→Nat | []=>0|x::r=>max (dep x) (Qcb r)
end
mutual
def par:Itm→Nat | .mk _ _ _ l=>1+Qa5 l
def Qa5:List Itm→Nat | []=>0|x::r=>par x+Qa5 r
end
mutual
def wri:Itm→List UInt8
 | .mk k n d l=>if k=0 then hd 0 n else if k=2∨k=3 then hd k.toNat d.length++d else if k=4 then hd 4 l.length++wrs l else 0x9f::(wrs l++[0xff])
def wrs:List Itm→List UInt8 | []=>[]|x::r=>wri x++wrs r
end
mutual
def Siz:Itm→Prop | .mk _ n d l=>n<18446744073709551616∧d.length<18446744073709551616∧l.length<18446744073709551616∧Qja l
def Qja:List Itm→Prop | []=>True|x::r=>Siz x∧Qja r
end
def enc(x:Itm):LB×Int:=if Qbd x=false then ([],2) else if 8<dep x∨4096<par x then ([],32) else (wri x,0)
def Qca:LB→Except Int (Nat×Nat×List UInt8)
 | []=>.error 30
 | c::r =>
  if (c.toNat / 32≠0∧c.toNat / 32≠2∧c.toNat / 32≠3∧c.toNat / 32≠4)∨27<c.toNat % 32 then .error 31
  else if c.toNat % 32<24 then .ok (c.toNat / 32,c.toNat % 32,r)
  else if r.length<2 ^ (c.toNat % 32 - 24) then .error 30
  else if hsz (Qc3 (r.take (2 ^ (c.toNat % 32 - 24))))≠2 ^ (c.toNat % 32 - 24) then .error 31
  else .ok (c.toNat / 32,Qc3 (r.take (2 ^ (c.toNat % 32 - 24))),r.drop (2 ^ (c.toNat % 32 - 24)))
def Qe4(m n p:Nat)(r:LB):Except Int (Itm×Nat×List UInt8) :=
 if m=3∧plain (r.take n)=false then .error 31 else if r.length<n then .error 30 else .ok (.mk m 0 (r.take n) [],p,r.drop n)
def Qg4(sub:Nat→List UInt8→Except Int (Itm×Nat×List UInt8)):Nat→Nat→List UInt8→Except Int (List Itm×Nat×List UInt8)
 | 0,p,l=>.ok ([],p,l)
 | n+1,p,l=>match sub p l with
  | .error e=>.error e
  | .ok (x,p1,l1)=>match Qg4 sub n p1 l1 with
   | .error e=>.error e
   | .ok (xs,p2,l2)=>.ok (x::xs,p2,l2)
def Qez(sub:Nat→List UInt8→Except Int (Itm×Nat×List UInt8)):Nat→Nat→List UInt8→Except Int (List Itm×Nat×List UInt8)
 | 0,_,_=>.error 30
 | _+1,_,[]=>.error 30
 | f+1,p,c::r=>if c=0xff then .ok ([],p,r) else match sub p (c::r) with
  | .error e=>.error e
  | .ok (x,p1,l1)=>match Qez sub f p1 l1 with
   | .error e=>.error e
   | .ok (xs,p2,l2)=>.ok (x::xs,p2,l2)
def Qhb(c:UInt8):Bool:=c==0x9f||(c.toNat / 32==4&&decide (c.toNat % 32≤27))
def Qco(sub:Nat→List UInt8→Except Int (Itm×Nat×List UInt8))(deep:Bool)(p:Nat):LB→Except Int (Itm×Nat×List UInt8)
 | []=>.error 30
 | c::r =>
  if p=4096∨(Qhb c=true∧deep=true) then .error 32
  else if c=0x9f then match Qez sub (r.length+1) (p+1) r with
   | .error e=>.error e
   | .ok (xs,p2,l2)=>.ok (.mk 5 0 [] xs,p2,l2)
  else match Qca (c::r) with
   | .error e=>.error e
   | .ok (m,n,r')=>if m=0 then .ok (.mk 0 n [] [],p+1,r') else if m=4 then (match Qg4 sub n (p+1) r' with
     | .error e=>.error e
     | .ok (xs,p2,l2)=>.ok (.mk 4 0 [] xs,p2,l2)) else Qe4 m n (p+1) r'
def dec:Nat→Nat→List UInt8→Except Int (Itm×Nat×List UInt8)
 | 0=>Qco (fun _ _=>.error 32) true
 | d+1=>Qco (dec d) false
def Qba(l:LB):Itm×Int×Int:=match dec 8 0 l with | .error e=>(.zero,0,e) | .ok (x,_,r)=>(x,(l.length - r.length:Nat),0)
theorem Qoy(n:Nat):24≤n→hsz n=2 ^ (Qdq n - 24)∧24≤Qdq n∧Qdq n≤27:=by
 intro h;unfold hsz Qdq;repeat' (split <;> try omega)
 all_goals (refine⟨by decide,by omega,by omega⟩)
theorem Qa1(n:Nat):hsz n≤8:=by unfold hsz;repeat' (split <;> try omega)
theorem Qgn(n:Nat):Qdq n≤27:=by unfold Qdq;repeat' (split <;> try omega)
theorem Q2l(n:Nat)(h:n<18446744073709551616):24≤n→n<256 ^ hsz n:=by
 intro h24;unfold hsz;repeat' split
 all_goals omega
theorem Qbo(m n:Nat):(hd m n).length=hsz n+1:=by simp[hd,Qa9]
theorem Qqy(v:Nat)(h:v<256):(UInt8.ofNat v).toNat=v:=by rw[UInt8.toNat_ofNat'];exact Nat.mod_eq_of_lt h
theorem Qhl(m n:Nat)(hm:m≤4):(UInt8.ofNat (32*m+Qdq n)).toNat / 32=m∧(UInt8.ofNat (32*m+Qdq n)).toNat % 32=Qdq n:=by
 have:=Qgn n
 rw[Qqy _ (by omega)]
 omega
theorem Qyn(m n:Nat)(r:LB)(hm:m=0∨m=2∨m=3∨m=4)(hn:n<18446744073709551616):Qca (hd m n++r)=.ok (m,n,r):=by
 have h27:=Qgn n;obtain⟨h1,h2⟩:=Qhl m n (by omega);unfold hd;rw[List.cons_append,Qca,h1,h2,if_neg (by omega)]
 by_cases h24:n<24
 ·
  have e:Qdq n=n:=by unfold Qdq;rw[if_pos h24]
  have e0:hsz n=0:=by unfold hsz;rw[if_pos h24]
  rw[e,if_pos h24,e0]
  rfl
 ·
  obtain⟨e,e1,e2⟩:=Qoy n (by omega);have hlen:=Qa9 n (hsz n);have ht:(be n (hsz n)++r).take (hsz n)=be n (hsz n):=by rw[List.take_left' hlen]
  have hb:Qc3 (be n (hsz n))=n:=by rw[Qq3 _ _ (Qa1 n)];exact Nat.mod_eq_of_lt (Q2l n hn (by omega))
  rw[if_neg (by omega),← e,if_neg (by simp[hlen]),ht,hb,if_neg (by simp),List.drop_left' hlen]
theorem Qqf{l r:LB}{m n:Nat}(h:Qca l=.ok (m,n,r)):l=hd m n++r∧n<18446744073709551616∧(m=0∨m=2∨m=3∨m=4):=by
 cases l with
 | nil=>simp[Qca] at h
 | cons c t =>
  have hc:=c.toNat_lt;rw[Qca] at h
  split at h
  ·
   cases h
  next h1 =>
  split at h
  next h2 =>
   cases h
   refine⟨?_,by omega,by omega⟩;unfold hd;have e:Qdq (c.toNat % 32)=c.toNat % 32:=by unfold Qdq;rw[if_pos h2]
   have e0:hsz (c.toNat % 32)=0:=by unfold hsz;rw[if_pos h2]
   rw[e,e0,show 32*(c.toNat / 32)+c.toNat % 32=c.toNat by omega]
   simp[be]
  next h2 =>
  split at h
  ·
   cases h
  next h3 =>
  split at h
  ·
   cases h
  next h4 =>
  cases h
  have hk:2 ^ (c.toNat % 32 - 24)≤8:=by
   have:c.toNat % 32 - 24≤3:=by omega
   calc 2 ^ (c.toNat % 32 - 24)≤2 ^ 3:=Nat.pow_le_pow_right (by decide) this
    _=8:=rfl
  have hlen:(t.take (2 ^ (c.toNat % 32 - 24))).length=2 ^ (c.toNat % 32 - 24):=by rw[List.length_take];omega
  have h4':hsz (Qc3 (t.take (2 ^ (c.toNat % 32 - 24))))=2 ^ (c.toNat % 32 - 24):=by simpa using h4
  have hb:=Qq1 _ _ hlen hk;have hlt:=Qq2 (t.take (2 ^ (c.toNat % 32 - 24)));generalize hN:Qc3 (t.take (2 ^ (c.toNat % 32 - 24)))=N at *;have hp:0<2 ^ (c.toNat % 32 - 24):=Nat.pow_pos (by decide);have h24:24≤N:=by
   rcases Nat.lt_or_ge N 24 with hh|hh
   ·
    unfold hsz at h4';rw[if_pos hh] at h4';omega
   ·
    exact hh
  obtain⟨e,e1,e2⟩:=Qoy N h24;have hlo:Qdq N=c.toNat % 32:=by
   have h5:=e.symm.trans h4';have:=(Nat.pow_right_inj (a:=2) (by decide)).1 h5
   omega
  refine⟨?_,hlt,by omega⟩;unfold hd;rw[hlo,h4',hb,show 32*(c.toNat / 32)+c.toNat % 32=c.toNat by omega]
  simp
theorem Qo1(m n:Nat)(hm:m=0∨m=2∨m=3∨m=4)(cut:Nat)(h1:cut<(hd m n).length):Qca ((hd m n).take cut)=.error 30:=by
 rw[Qbo] at h1
 cases cut with
 | zero=>rfl
 | succ j =>
  have h27:=Qgn n;obtain⟨f1,f2⟩:=Qhl m n (by omega);have h24:24≤n:=by
   rcases Nat.lt_or_ge n 24 with hh|hh
   ·
    unfold hsz at h1;rw[if_pos hh] at h1;omega
   ·
    exact hh
  obtain⟨e,e1,e2⟩:=Qoy n h24;unfold hd;rw[List.take_succ_cons,Qca,f1,f2,if_neg (by omega),if_neg (by omega),← e,if_pos (by rw[List.length_take,Qa9];omega)]
end Go.Proofs.YtbnfkjkoinbkgaaGreatDoor
