import Derived.Test.YtbnfkjkoinbkgaaGreatDoorVAbb
import Derived.Test.YtbnfkjkoinbkgaaGreatDoorVBunD
import Derived.Test.YtbnfkjkoinbkgaaGreatDoorVBunJ
import Derived.Test.YtbnfkjkoinbkgaaGreatDoorVRfI
import Derived.ArgAppend
import Derived.StillTailTactics
namespace Go.Proofs.YtbnfkjkoinbkgaaGreatDoor
open Go.RowKit
def IsBun(l:LB)(b:Bun):Prop:=Qa3 b=0∧BdP b∧Q4z b.blks∧l=Q41 b∧l.length≤4096
theorem IsBun.prim{l:LB}{b:Bun}(h:IsBun (0x9f::l) b):PrimAt l b∧l.drop (Qbx b).length=Qd9 b.blks++[0xff]:=by
 obtain⟨h1,h2,-,h3,-⟩:=h;unfold Q41 at h3;injection h3 with _ h3
 exact⟨⟨(Qc8.1 (Qfa.1 h1).2.1).1,h2,_,h3⟩,by rw[h3,List.drop_left]⟩
theorem PrimAt.uniq{l:LB}{a b:Bun}(ha:PrimAt l a)(hb:PrimAt l b):{ a with blks:=[] }={ b with blks:=[] }:=by
 have h:=ha.dec.symm.trans hb.dec;simp only[Prod.mk.injEq,and_true] at h;have hl:=congrArg Itm.list h.1;obtain⟨h1,h2,h3,h4,h5,h6,h7⟩:=Qux (x0:=.mk 0 7 [] []) (x1:=.mk 0 a.flg [] []) (x2:=.mk 0 a.crc.toNat [] []) (x3:=Qal a.dst) (x4:=Qal a.src) (x5:=Qal a.rep) (x6:=.mk 4 0 [] [.mk 0 a.tim [] [],.mk 0 a.seq [] []]) (x7:=.mk 0 a.lif [] []) (rest:=if a.crc=0 then [] else [.mk 2 0 (Qpn a) []]) (b:=b) (s:=Qpn b) (by rw[← hl];rfl);have i1:=Qhg ha.1.2.1 hb.1.2.1 h3;have i2:=Qhg ha.1.2.2.1 hb.1.2.2.1 h4;have i3:=Qhg ha.1.2.2.2 hb.1.2.2.2 h5;injection h1 with _ h1
 injection h2 with _ h2
 injection h7 with _ h7
 injection h6 with _ _ _ h6
 simp only[List.cons.injEq,Itm.mk.injEq,and_true,true_and] at h6;have hc:a.crc=b.crc:=by have:=ha.1.1;have:=hb.1.1;omega
 obtain⟨af,ac,ad,as_,ar,at_,aq,al,ak⟩:=a;obtain⟨bf,bc,bd,bs,br,bt,bq,bl,bk⟩:=b;simp only at h1 hc i1 i2 i3 h6 h7;obtain⟨h6,h8⟩:=h6;subst h1 hc i1 i2 i3 h7 h6 h8;rfl
theorem Qsp{l:List Blk}(h:Qcy l=true):1≤l.length∧l.length≤16:=by
 unfold Qcy at h;rw[Bool.and_eq_true,decide_eq_true_eq] at h
 exact h.1
theorem Q0l(A:OA)(n c k:Nat)(hk:k≤n)(hc:n≤c)(h0:0<c)(W:World):(Instr.slice 26 (.slice A n c) none (some (.int .i64 (k:Int))) (some (.int .i64 (k:Int)))).run Tryz.prog W=.ok (.slice A k k) W:=by
 have hz:=Qpo;have ht:=Tryz.underlying26;have hkc:k≤c:=by omega
 have hne:¬ c=0:=by omega
 go_simp
theorem Qjw(ps:List PK)(k:Nat):Qcu (ps.take k)++Qcu (ps.drop k)=Qcu ps:=by rw[← Qhe,List.take_append_drop]
theorem Qtq{ps:List PK}{k:Nat}(_hk:k≤ps.length){j:Nat}{u:Value}(h:(Qcu (ps.take k))[j]?=some u):(Qcu ps)[j]?=some u:=by
 rw[← Qjw ps k,List.getElem?_append_left]
 ·
  exact h
 ·
  rcases Nat.lt_or_ge j (Qcu (ps.take k)).length with h' | h'
  ·
   exact h'
  ·
   rw[List.getElem?_eq_none h'] at h;cases h
theorem Qtr{ps:List PK}{k:Nat}(hk:k≤ps.length){j:Nat}{u:Value}(h:(Qcu (ps.drop k))[j]?=some u):(Qcu ps)[k*5+j]?=some u:=by
 have hl:(Qcu (ps.take k)).length=k*5:=by rw[Qdw,List.length_take];omega
 rw[← Qjw ps k,List.getElem?_append_right (by omega),hl,Nat.add_sub_cancel_left]
 exact h
theorem Qpt{w:World}{B B' b:Nat}(hB:B≤B'):∀ (ps:List PK) (o:Nat),(∀ j u,(Qcu ps)[j]?=some u→w.cell? ⟨b,o+j,none⟩=some u)→(∀ p∈ps,SrcK w B p)→RdKs w B' b o (ps.map (·.x))
 | [],_,_,_=>trivial
 | p::r,o,hc,ho=>by
  have hp:=ho p (by simp);have h0:∀ j u,(Qc7 p)[j]?=some u→w.cell? ⟨b,o+j,none⟩=some u:=fun j u hj=>hc j u (by
   rw[Qcu,List.getElem?_append_left]
   ·
    exact hj
   ·
    rcases Nat.lt_or_ge j (Qc7 p).length with h|h
    ·
     exact h
    ·
     rw[List.getElem?_eq_none h] at hj;cases hj)
  refine⟨⟨p.A,p.nd,p.cd,⟨h0 0 _ rfl,h0 1 _ rfl,h0 2 _ rfl,h0 3 _ rfl,h0 4 _ rfl,hp.1,hp.2.1,hp.2.2.more hB⟩⟩,Qpt hB r (o+5) (fun j u hj=>?_) (fun q hq=>ho q (by simp[hq]))⟩;rw[show o+5+j=o+(5+j) by omega]
  refine hc (5+j) u ?_;rw[Qcu,List.getElem?_append_right (by simp[Qc7])]
  simpa [Qc7] using hj
theorem Q0b{w:World}{base B g cap m:Nat}{ps:List PK}(h:w.ownsRow base 43 5 (.slice (some ⟨g,0,none⟩) m cap) m (Qcu ps))(hl:ps.length=m)(hs:∀ p∈ps,SrcK w B p)(hB:B≤w.heap.size)(hm:m≤140737488355328) :
  RdL w w.heap.size (some ⟨g,0,none⟩) m (ps.map (·.x)):=by
 refine⟨by rw[List.length_map,hl],fun _=>⟨g,0,rfl,(World.ownsRow.lt h g rfl).2,Qpt hB ps 0 (fun j u hj=>?_) hs⟩,hm⟩;have hjl:j<m*5:=by
  rw[← hl,← Qdw]
  rcases Nat.lt_or_ge j (Qcu ps).length with h|h
  ·
   exact h
  ·
   rw[List.getElem?_eq_none h] at hj;cases hj
 rw[Nat.zero_add,World.ownsRow.cellAt h j hjl]
 exact hj
def Q4w(h:BH)(l:List Blk)(q:Nat)(w:World)(e:Ending)(w':World):Prop:=Below w.heap.size w w' ∧
 ((∃ k:Nat,Qa3 (h.bun l)=0∧plc (Qbu q) l 0=(k:Int)∧k+1<l.length∧∃ (A:OA) (n c:Nat),e=.returned (.tuple #[Qbl h A n c,.int .i64 0])∧RdL (Qap (Qax w.heap.size) w') w'.heap.size A n (l.take k++l.drop (k+1))∧n≤c) ∨
  (¬ (Qa3 (h.bun l)=0∧0≤plc (Qbu q) l 0∧plc (Qbu q) l 0+1<(l.length:Int))∧∃ z,z≠0∧e=.returned (.tuple #[.agg #[.int .u64 0,.int .i64 0,.int .i64 0,.string ⟨#[]⟩,.int .u64 0,.int .u64 0,.int .i64 0,.string ⟨#[]⟩,.int .u64 0,.int .u64 0,.int .i64 0,.string ⟨#[]⟩,.int .u64 0,.int .u64 0,.int .u64 0,.int .u64 0,.int .u64 0,.slice none 0 0],.int .i64 z])))
def DropZ(h:BH)(l:List Blk)(q:Nat)(w:World)(e:Ending)(w':World):Prop:=Below w.heap.size w w' ∧
 ((∃ k:Nat,Qa3 (h.bun l)=0∧plc (Qbu q) l 0=(k:Int)∧k+1<l.length∧∃ (A:OA) (n c:Nat),e=.returned (.tuple #[Qbl h A n c,.int .i64 0])∧RdL (Qap (Qax w.heap.size) w') w'.heap.size A n (l.take k++l.drop (k+1))∧n≤c) ∨
  (¬ (Qa3 (h.bun l)=0∧0≤plc (Qbu q) l 0∧plc (Qbu q) l 0+1<(l.length:Int))∧∃ z,z≠0∧z=(if Qa3 (h.bun l)=0 then 60 else Qg3 (Qa3 (h.bun l)))∧e=.returned (.tuple #[.agg #[.int .u64 0,.int .i64 0,.int .i64 0,.string ⟨#[]⟩,.int .u64 0,.int .u64 0,.int .i64 0,.string ⟨#[]⟩,.int .u64 0,.int .u64 0,.int .i64 0,.string ⟨#[]⟩,.int .u64 0,.int .u64 0,.int .u64 0,.int .u64 0,.int .u64 0,.slice none 0 0],.int .i64 z])))
theorem DropZ.old{h:BH}{l:List Blk}{q:Nat}{w:World}{e:Ending}{w':World}(x:DropZ h l q w e w'):Q4w h l q w e w' :=
 ⟨x.1,x.2.elim .inl (fun ⟨h1,z,h2,_,h4⟩=>.inr ⟨h1,z,h2,h4⟩)⟩
end Go.Proofs.YtbnfkjkoinbkgaaGreatDoor
