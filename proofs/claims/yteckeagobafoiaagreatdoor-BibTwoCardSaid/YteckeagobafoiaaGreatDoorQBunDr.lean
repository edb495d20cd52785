import Derived.Test.YteckeagobafoiaaGreatDoorQBunD
import Derived.Test.YteckeagobafoiaaGreatDoorQBunJ
import Derived.Test.YteckeagobafoiaaGreatDoorQRfI
import Derived.ArgAppend
import Derived.StillTailTactics
namespace Go.Proofs.YteckeagobafoiaaGreatDoor
open Go.RowKit
def IsBun (l:List UInt8) (b:Bun):Prop:=cauU b=0∧BdP b∧okBs b.blks∧l=bunW b∧l.length≤4096
theorem IsBun.prim {l:List UInt8} {b:Bun} (h:IsBun (0x9f::l) b):PrimAt l b∧l.drop (primW b).length=blkWs b.blks++[0xff]:=by
 obtain ⟨h1,h2,-,h3,-⟩:=h
 unfold bunW at h3
 injection h3 with _ h3
 exact ⟨⟨(primOk_iff.1 (cauU_0.1 h1).2.1).1,h2,_,h3⟩,by rw [h3,List.drop_left]⟩
theorem PrimAt.uniq {l:List UInt8} {a b:Bun} (ha:PrimAt l a) (hb:PrimAt l b):{ a with blks:=[] }={ b with blks:=[] }:=by
 have h:=ha.dec.symm.trans hb.dec
 simp only [Prod.mk.injEq,and_true] at h
 have hl:=congrArg Itm.list h.1
 obtain ⟨h1,h2,h3,h4,h5,h6,h7⟩:=itmP_nine (x0:=.mk 0 7 [] []) (x1:=.mk 0 a.flg [] []) (x2:=.mk 0 a.crc.toNat [] []) (x3:=itemE a.dst) (x4:=itemE a.src) (x5:=itemE a.rep) (x6:=.mk 4 0 [] [.mk 0 a.tim [] [],.mk 0 a.seq [] []]) (x7:=.mk 0 a.lif [] []) (rest:=if a.crc=0 then [] else [.mk 2 0 (sumP a) []]) (b:=b) (s:=sumP b) (by rw [← hl];rfl)
 have i1:=item_inj ha.1.2.1 hb.1.2.1 h3
 have i2:=item_inj ha.1.2.2.1 hb.1.2.2.1 h4
 have i3:=item_inj ha.1.2.2.2 hb.1.2.2.2 h5
 injection h1 with _ h1
 injection h2 with _ h2
 injection h7 with _ h7
 injection h6 with _ _ _ h6
 simp only [List.cons.injEq,Itm.mk.injEq,and_true,true_and] at h6
 have hc:a.crc=b.crc:=by have:=ha.1.1;have:=hb.1.1;omega
 obtain ⟨af,ac,ad,as_,ar,at_,aq,al,ak⟩:=a
 obtain ⟨bf,bc,bd,bs,br,bt,bq,bl,bk⟩:=b
 simp only at h1 hc i1 i2 i3 h6 h7
 obtain ⟨h6,h8⟩:=h6
 subst h1 hc i1 i2 i3 h7 h6 h8
 rfl
theorem blksOk_len {l:List Blk} (h:blksOk l=true):1≤l.length∧l.length≤16:=by
 unfold blksOk at h
 rw [Bool.and_eq_true,decide_eq_true_eq] at h
 exact h.1
theorem kcut_hh (A:Option Addr) (n c k:Nat) (hk:k≤n) (hc:n≤c) (h0:0<c) (W:World):(Instr.slice 26 (.slice A n c) none (some (.int .i64 (k:Int))) (some (.int .i64 (k:Int)))).run Tryz.prog W=.ok (.slice A k k) W:=by
 have hz:=size_blk
 have ht:=Tryz.underlying26
 have hkc:k≤c:=by omega
 have hne:¬ c=0:=by omega
 go_simp
theorem rowK_split (ps:List PK) (k:Nat):rowK (ps.take k)++rowK (ps.drop k)=rowK ps:=by rw [← rowK_app,List.take_append_drop]
theorem rowK_take {ps:List PK} {k:Nat} (_hk:k≤ps.length) {j:Nat} {u:Value} (h:(rowK (ps.take k))[j]?=some u):(rowK ps)[j]?=some u:=by
 rw [← rowK_split ps k,List.getElem?_append_left]
 ·
  exact h
 ·
  rcases Nat.lt_or_ge j (rowK (ps.take k)).length with h' | h'
  ·
   exact h'
  ·
   rw [List.getElem?_eq_none h'] at h;cases h
theorem rowK_drop {ps:List PK} {k:Nat} (hk:k≤ps.length) {j:Nat} {u:Value} (h:(rowK (ps.drop k))[j]?=some u):(rowK ps)[k*5+j]?=some u:=by
 have hl:(rowK (ps.take k)).length=k*5:=by rw [rowK_len,List.length_take];omega
 rw [← rowK_split ps k,List.getElem?_append_right (by omega),hl,Nat.add_sub_cancel_left]
 exact h
theorem rowK_src {w:World} {B B' b:Nat} (hB:B≤B'):∀ (ps:List PK) (o:Nat),(∀ j u,(rowK ps)[j]?=some u→w.cell? ⟨b,o+j,none⟩=some u)→(∀ p∈ps,SrcK w B p)→RdKs w B' b o (ps.map (·.x))
 | [],_,_,_=>trivial
 | p::r,o,hc,ho=>by
  have hp:=ho p (by simp)
  have h0:∀ j u,(fiveK p)[j]?=some u→w.cell? ⟨b,o+j,none⟩=some u:=fun j u hj=>hc j u (by
   rw [rowK,List.getElem?_append_left]
   ·
    exact hj
   ·
    rcases Nat.lt_or_ge j (fiveK p).length with h|h
    ·
     exact h
    ·
     rw [List.getElem?_eq_none h] at hj;cases hj)
  refine ⟨⟨p.A,p.nd,p.cd,⟨h0 0 _ rfl,h0 1 _ rfl,h0 2 _ rfl,h0 3 _ rfl,h0 4 _ rfl,hp.1,hp.2.1,hp.2.2.more hB⟩⟩,rowK_src hB r (o+5) (fun j u hj=>?_) (fun q hq=>ho q (by simp [hq]))⟩
  rw [show o+5+j=o+(5+j) by omega]
  refine hc (5+j) u ?_
  rw [rowK,List.getElem?_append_right (by simp [fiveK])]
  simpa [fiveK] using hj
theorem own_src {w:World} {base B g cap m:Nat} {ps:List PK} (h:w.ownsRow base 63 5 (.slice (some ⟨g,0,none⟩) m cap) m (rowK ps)) (hl:ps.length=m) (hs:∀ p∈ps,SrcK w B p) (hB:B≤w.heap.size) (hm:m≤140737488355328) :
  RdL w w.heap.size (some ⟨g,0,none⟩) m (ps.map (·.x)):=by
 refine ⟨by rw [List.length_map,hl],fun _=>⟨g,0,rfl,(World.ownsRow.lt h g rfl).2,rowK_src hB ps 0 (fun j u hj=>?_) hs⟩,hm⟩
 have hjl:j<m*5:=by
  rw [← hl,← rowK_len]
  rcases Nat.lt_or_ge j (rowK ps).length with h|h
  ·
   exact h
  ·
   rw [List.getElem?_eq_none h] at hj;cases hj
 rw [Nat.zero_add,World.ownsRow.cellAt h j hjl]
 exact hj
def DropU (h:BH) (l:List Blk) (q:Nat) (w:World) (e:Ending) (w':World):Prop:=Below w.heap.size w w' ∧
 ((∃ k:Nat,cauU (h.bun l)=0∧plc (pNum q) l 0=(k:Int)∧k+1<l.length∧∃ (A:Option Addr) (n c:Nat),e=.returned (.tuple #[bunV h A n c,.int .i64 0])∧RdL (mask (lows w.heap.size) w') w'.heap.size A n (l.take k++l.drop (k+1))∧n≤c) ∨
  (¬ (cauU (h.bun l)=0∧0≤plc (pNum q) l 0∧plc (pNum q) l 0+1<(l.length:Int))∧∃ z,z≠0∧e=.returned (.tuple #[.agg #[.int .u64 0,.int .i64 0,.int .i64 0,.string ⟨#[]⟩,.int .u64 0,.int .u64 0,.int .i64 0,.string ⟨#[]⟩,.int .u64 0,.int .u64 0,.int .i64 0,.string ⟨#[]⟩,.int .u64 0,.int .u64 0,.int .u64 0,.int .u64 0,.int .u64 0,.slice none 0 0],.int .i64 z])))
def DropZ (h:BH) (l:List Blk) (q:Nat) (w:World) (e:Ending) (w':World):Prop:=Below w.heap.size w w' ∧
 ((∃ k:Nat,cauU (h.bun l)=0∧plc (pNum q) l 0=(k:Int)∧k+1<l.length∧∃ (A:Option Addr) (n c:Nat),e=.returned (.tuple #[bunV h A n c,.int .i64 0])∧RdL (mask (lows w.heap.size) w') w'.heap.size A n (l.take k++l.drop (k+1))∧n≤c) ∨
  (¬ (cauU (h.bun l)=0∧0≤plc (pNum q) l 0∧plc (pNum q) l 0+1<(l.length:Int))∧∃ z,z≠0∧z=(if cauU (h.bun l)=0 then 60 else numZ (cauU (h.bun l)))∧e=.returned (.tuple #[.agg #[.int .u64 0,.int .i64 0,.int .i64 0,.string ⟨#[]⟩,.int .u64 0,.int .u64 0,.int .i64 0,.string ⟨#[]⟩,.int .u64 0,.int .u64 0,.int .i64 0,.string ⟨#[]⟩,.int .u64 0,.int .u64 0,.int .u64 0,.int .u64 0,.int .u64 0,.slice none 0 0],.int .i64 z])))
theorem DropZ.old {h:BH} {l:List Blk} {q:Nat} {w:World} {e:Ending} {w':World} (x:DropZ h l q w e w'):DropU h l q w e w' :=
 ⟨x.1,x.2.elim .inl (fun ⟨h1,z,h2,_,h4⟩=>.inr ⟨h1,z,h2,h4⟩)⟩
end Go.Proofs.YteckeagobafoiaaGreatDoor
