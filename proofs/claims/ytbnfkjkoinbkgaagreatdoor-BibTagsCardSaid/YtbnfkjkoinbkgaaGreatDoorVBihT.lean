import Derived.Test.YtbnfkjkoinbkgaaGreatDoorVAbb
import Derived.Test.YtbnfkjkoinbkgaaGreatDoorVBibY
import Derived.Test.YtbnfkjkoinbkgaaGreatDoorVBihB
namespace Go.Proofs.YtbnfkjkoinbkgaaGreatDoor
open Go.RowKit
theorem Qzr{b:Bun}{q:Nat}{k:LB}{X:Bb}(h:(vrB b q k).1=some X) :
  (vrB b q k).2=0∧Qa3 b=0∧∃ y,b.blks.find? (Qbu q)=some y∧y.typ=11∧rdB y.dat=some X∧Qfd (fun t=>Qdg b t X.sco y.typ y.num y.flg) k X.tgs X.tag=0:=by
 unfold vrB at h ⊢;by_cases hz:Qa3 b≠0
 ·
  rw[if_pos hz] at h;cases h
 rw[if_neg hz] at h ⊢
 cases hf:b.blks.find? (Qbu q) with
 | none=>rw[hf] at h;cases h
 | some y =>
  rw[hf] at h
  simp only at h ⊢;by_cases ht:y.typ≠11
  ·
   rw[if_pos ht] at h;cases h
  rw[if_neg ht] at h ⊢
  cases hr:rdB y.dat with
  | none=>rw[hr] at h;cases h
  | some x =>
   rw[hr] at h
   simp only at h ⊢;by_cases hv:Qfd (fun t=>Qdg b t x.sco y.typ y.num y.flg) k x.tgs x.tag≠0
   ·
    rw[if_pos hv] at h;cases h
   rw[if_neg hv] at h ⊢
   obtain rfl:=Option.some.inj h;exact⟨rfl,by simpa using hz,y,rfl,by simpa using ht,hr,by simpa using hv⟩
theorem Qzt{b:Bun}{q:Nat}{k:LB}(h:(vrB b q k).1=none):(vrB b q k).2≠0:=by
 unfold vrB at h ⊢;by_cases hz:Qa3 b≠0
 ·
  rw[if_pos hz];exact hz
 rw[if_neg hz] at h ⊢
 cases hf:b.blks.find? (Qbu q) with
 | none=>exact(by decide:(100:Int)≠0)
 | some y =>
  rw[hf] at h
  simp only at h ⊢;by_cases ht:y.typ≠11
  ·
   rw[if_pos ht];exact(by decide:(100:Int)≠0)
  rw[if_neg ht] at h ⊢
  cases hr:rdB y.dat with
  | none=>exact(by decide:(100:Int)≠0)
  | some x =>
   rw[hr] at h
   simp only at h ⊢;by_cases hv:Qfd (fun t=>Qdg b t x.sco y.typ y.num y.flg) k x.tgs x.tag≠0
   ·
    rw[if_pos hv];exact hv
   ·
    rw[if_neg hv] at h;cases h
theorem Qz1{h:BH}{l:List Blk}{q:Nat}{k:LB}{X:Bb}(hv:(vrB (h.bun l) q k).1=some X) :
  Rgt X∧∃ (j:Nat) (hj:j<l.length),plc (Qbu q) l 0=(j:Int) ∧
   ∀ i,i<X.tgs.length→(Qdg (h.bun l) (X.tgs.getD i 0) X.sco 11 q (l[j]'hj).flg).2=0∧X.tag.getD i []=Qha k (Qdg (h.bun l) (X.tgs.getD i 0) X.sco 11 q (l[j]'hj).flg).1:=by
 obtain⟨-,-,y,hf,ht,hr,hz⟩:=Qzr hv;have hR:=(Qek.1 hr).rgt;refine⟨hR,?_⟩;have hnum:y.num=q:=by
  have:=List.find?_some hf
  unfold Qbu at this;simpa using this
 rcases Qfx (Qbu q) l 0 with ⟨-,h2⟩|⟨j,hj,h1,h2⟩
 ·
  have e:(h.bun l).blks=l:=rfl;rw[e,h2] at hf
  cases hf
 ·
  have e:(h.bun l).blks=l:=rfl;rw[e,h2] at hf
  obtain rfl:=Option.some.inj hf;refine⟨j,hj,by rw[h1,Nat.zero_add],fun i hi=>?_⟩;rw[ht,hnum] at hz
  exact Qls (fun t=>Qdg (h.bun l) t X.sco 11 q (l[j]'hj).flg) k X.tgs X.tag hz i hi (by rw[hR.tl];exact hi)
end Go.Proofs.YtbnfkjkoinbkgaaGreatDoor
