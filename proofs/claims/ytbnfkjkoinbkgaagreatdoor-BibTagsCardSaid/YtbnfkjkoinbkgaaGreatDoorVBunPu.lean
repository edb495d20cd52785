import Derived.Test.YtbnfkjkoinbkgaaGreatDoorVAbb
import Derived.Test.YtbnfkjkoinbkgaaGreatDoorVBunDr
import Derived.Deep.RegionLawGrows
import Derived.BigRegion
namespace Go.Proofs.YtbnfkjkoinbkgaaGreatDoor
set_option maxRecDepth 100000
set_option maxHeartbeats 16000000
open Go.RowKit
open Go.Lib (hid)
def Qc6(l:List Blk)(x:Blk):List Blk:=l.take (l.length - 1)++x::l.drop (l.length - 1)
def Q5l(h:BH)(l:List Blk)(x:Blk)(w:World)(e:Ending)(w':World):Prop:=Below w.heap.size w w' ∧
 ((Qa3 (h.bun l)=0∧Qa3 (h.bun (Qc6 l x))=0∧∃ (A:OA) (n c:Nat),e=.returned (.tuple #[Qbl h A n c,.int .i64 0])∧RdL (Qap (Qax w.heap.size) w') w'.heap.size A n (Qc6 l x)∧n≤c) ∨
  (¬ (Qa3 (h.bun l)=0∧Qa3 (h.bun (Qc6 l x))=0)∧∃ z,z≠0∧e=.returned (.tuple #[.agg #[.int .u64 0,.int .i64 0,.int .i64 0,.string ⟨#[]⟩,.int .u64 0,.int .u64 0,.int .i64 0,.string ⟨#[]⟩,.int .u64 0,.int .u64 0,.int .i64 0,.string ⟨#[]⟩,.int .u64 0,.int .u64 0,.int .u64 0,.int .u64 0,.int .u64 0,.slice none 0 0],.int .i64 z])))
def PutZ(h:BH)(l:List Blk)(x:Blk)(w:World)(e:Ending)(w':World):Prop:=Below w.heap.size w w' ∧
 ((Qa3 (h.bun l)=0∧Qa3 (h.bun (Qc6 l x))=0∧∃ (A:OA) (n c:Nat),e=.returned (.tuple #[Qbl h A n c,.int .i64 0])∧RdL (Qap (Qax w.heap.size) w') w'.heap.size A n (Qc6 l x)∧n≤c) ∨
  (¬ (Qa3 (h.bun l)=0∧Qa3 (h.bun (Qc6 l x))=0)∧∃ z,z≠0∧z=(if Qa3 (h.bun l)=0 then Qg3 (Qa3 (h.bun (Qc6 l x))) else Qg3 (Qa3 (h.bun l)))∧e=.returned (.tuple #[.agg #[.int .u64 0,.int .i64 0,.int .i64 0,.string ⟨#[]⟩,.int .u64 0,.int .u64 0,.int .i64 0,.string ⟨#[]⟩,.int .u64 0,.int .u64 0,.int .i64 0,.string ⟨#[]⟩,.int .u64 0,.int .u64 0,.int .u64 0,.int .u64 0,.int .u64 0,.slice none 0 0],.int .i64 z])))
theorem PutZ.old{h:BH}{l:List Blk}{x:Blk}{w:World}{e:Ending}{w':World}(y:PutZ h l x w e w'):Q5l h l x w e w' :=
 ⟨y.1,y.2.elim .inl (fun ⟨h1,z,h2,_,h4⟩=>.inr ⟨h1,z,h2,h4⟩)⟩
theorem Qs6(S:Snt)(h:BH)(l:List Blk)(A:OA)(n c B:Nat)(x:Blk)(Ax:OA)(nx cx:Nat)(w:World)(hS:Wd S w)(hd:h.Bd)(hr:RdL w B A n l)(hB:B≤w.heap.size)(hc:n≤c)(hx:Bd x)(hnx:nx≤cx∧nx≤140737488355328)(hrx:Rd w B Ax nx x.dat) :
  Calls Tryz.prog 25 #[Qbl h A n c,Qe3 x.typ x.num x.flg x.crc Ax nx cx] w (PutZ h l x w):=by
 have HB0:=hid ((((Below.refl w.heap.size w).alloc zr (hbx h h.crc A n c)).alloc (Qaa _ _) (zo4 x.typ x.num x.flg x.crc Ax nx cx)).alloc (Nat.le_trans (Qaa _ _) (Qaa _ _)) zk3);have HW0:Hid (Below (w.heap.size+3) (((w.alloc (hbx h h.crc A n c)).alloc (zo4 x.typ x.num x.flg x.crc Ax nx cx)).alloc zk3) (((w.alloc (hbx h h.crc A n c)).alloc (zo4 x.typ x.num x.flg x.crc Ax nx cx)).alloc zk3)):=Below.refl _ _;have HS0:Hid ((((w.alloc (hbx h h.crc A n c)).alloc (zo4 x.typ x.num x.flg x.crc Ax nx cx)).alloc zk3).heap.size=w.heap.size+3):=by show _=_;simp
 have HX1:=hid (fun (W:World) (hb:Below (w.heap.size+3) (((w.alloc (hbx h h.crc A n c)).alloc (zo4 x.typ x.num x.flg x.crc Ax nx cx)).alloc zk3) W)=>(Qad (w:=w) (g:=w.heap.size) rfl ((((Below.refl (w.heap.size+1) (w.alloc (hbx h h.crc A n c))).alloc (by simp) (zo4 x.typ x.num x.flg x.crc Ax nx cx)).alloc (by simp) zk3).trans (hb.mono (by omega)))));have HX3:=hid (fun (W:World) (hb:Below (w.heap.size+3) (((w.alloc (hbx h h.crc A n c)).alloc (zo4 x.typ x.num x.flg x.crc Ax nx cx)).alloc zk3) W)=>(Qad (w:=w.alloc (hbx h h.crc A n c)) (g:=w.heap.size+1) (by simp) (((Below.refl (w.heap.size+2) ((w.alloc (hbx h h.crc A n c)).alloc (zo4 x.typ x.num x.flg x.crc Ax nx cx))).alloc (by simp) zk3).trans (hb.mono (by omega)))))
 have HX2:=hid (fun (W:World) (hb:Below (w.heap.size+3) (((w.alloc (hbx h h.crc A n c)).alloc (zo4 x.typ x.num x.flg x.crc Ax nx cx)).alloc zk3) W)=>(Qad (w:=(w.alloc (hbx h h.crc A n c)).alloc (zo4 x.typ x.num x.flg x.crc Ax nx cx)) (g:=w.heap.size+2) (by simp) hb));have C1:=hid (Qew S h l A n c B (((w.alloc (hbx h h.crc A n c)).alloc (zo4 x.typ x.num x.flg x.crc Ax nx cx)).alloc zk3) (((hS.alloc _).alloc _).alloc _) hd (hr.below (HB0.out.mono hB)) (Nat.le_trans hB HB0.out.size) hc);have q1:=fun (W:World) (u:TypeId) (x:Value)=>run_neq_iface_nil (P:=Tryz.prog) (w:=W) 53 (by kernel_rfl) u x
 have HR:=hid (And.intro hr (And.intro hB (And.intro hc hd)));have HN:=hid hr.1;have HXX:=hid (And.intro hx (And.intro hnx hrx));have HSn:=hid hS;have CN:=hid Qfe;have HG:Hid (∀ e w',(Below w.heap.size w w' ∧
  ((Qa3 (h.bun l)=0∧Qa3 (h.bun (Qc6 l x))=0∧∃ (A:OA) (n c:Nat),e=.returned (.tuple #[Qbl h A n c,.int .i64 0])∧RdL (Qap (Qax w.heap.size) w') w'.heap.size A n (Qc6 l x)∧n≤c) ∨
   (¬ (Qa3 (h.bun l)=0∧Qa3 (h.bun (Qc6 l x))=0)∧∃ z,z≠0∧z=(if Qa3 (h.bun l)=0 then Qg3 (Qa3 (h.bun (Qc6 l x))) else Qg3 (Qa3 (h.bun l)))∧e=.returned (.tuple #[.agg #[.int .u64 0,.int .i64 0,.int .i64 0,.string ⟨#[]⟩,.int .u64 0,.int .u64 0,.int .i64 0,.string ⟨#[]⟩,.int .u64 0,.int .u64 0,.int .i64 0,.string ⟨#[]⟩,.int .u64 0,.int .u64 0,.int .u64 0,.int .u64 0,.int .u64 0,.slice none 0 0],.int .i64 z]))))→PutZ h l x w e w'):=fun _ _ hh=>hh
 clear hr hB hc hS hd hx hnx hrx;by_cases hz:Qa3 (h.bun l)=0
 case neg =>
  have HZ:=hid hz;have hnz:Qg3 (Qa3 (h.bun l))≠0:=by
   unfold Qg3;split
   ·
    exact hz
   ·
    decide
  have HNZ:=hid hnz;have HE:Hid (Qg3 (Qa3 (h.bun l))=(if Qa3 (h.bun l)=0 then Qg3 (Qa3 (h.bun (Qc6 l x))) else Qg3 (Qa3 (h.bun l)))):=(if_neg hz).symm;generalize Qa3 (h.bun l)=z at *;clear hnz;unfold Qbl Qe3 at *;go_enter Tryz.func25,Tryz.ntmps25;go_wp2_with (first
   | (refine Qae rfl (.tmp 2) rfl _ rfl _ _ (HX1.out _ HW0.out) rfl ?_)
   | fail)
  refine C1.out.mono ?_;rintro e w1 ⟨hb,⟨h0,-⟩|⟨-,s,rfl⟩⟩
  ·
   exact absurd h0 hz
  have B1:=hid (Below.push HW0.out (Nat.le_of_eq HS0.out.symm) hb);clear hb hz;have C2:=hid (CN.out z s w1);unfold ufl at *;go_wp2_with fail;refine C2.out.mono ?_;rintro e w2 ⟨rfl,hb⟩;have B2:=hid (Below.push B1.out (Nat.le_of_eq HS0.out.symm) hb);clear hb;go_wp2_with (first
   | (refine Qbp rfl 28 (.tmp 4) (.tmp 13) rfl _ rfl rfl _ _ (HX2.out _ B2.out) Qb1 rfl rfl ?_;intro W' hrow' _ _ hbel _;have HWB:=hid (hbel _ _ (HB0.out.trans (B2.out.mono (Nat.le_add_right _ 3))) (Nat.le_add_right _ 2));clear hbel)
   | fail)
  exact bodyPost_ret (Qh8 Tryz.results25 _ _ rfl hrow' rfl) rfl (HG.out _ _ ⟨HWB.out,.inr ⟨fun hh=>HZ.out hh.1,_,HNZ.out,HE.out,rfl⟩⟩)
 have HL16:Hid (1≤n∧n≤16):=by show _∧_;rw[← HN.out];exact Qsp (Qfa.1 hz).2.2
 have HZ:=hid hz;have hl16:=HL16.out;obtain⟨b,o,rfl,hb,hks⟩:=HR.out.1.2.1 (by omega);obtain⟨ps,hmap,hcell,hsrc⟩:=hks.pks;have hlen:ps.length=n:=by rw[← HN.out,← hmap,List.length_map]
 have HP:=hid (And.intro hmap (And.intro hcell (And.intro hsrc hlen)));have HH:=hid hb;obtain⟨m,hmn⟩:∃ m,n=m+1:=⟨n - 1,by omega⟩
 have hcn:n≤c:=HR.out.2.2.1;have cut1:=fun W=>Q0l (some ⟨b,o,none⟩) n c m (by omega) hcn (by omega) W
 have hwm:wrap64 (m:Int)=(m:Int):=by unfold wrap64;omega
 obtain⟨i0,hi0,hz0,hz1,hz2⟩:=info_parts Qqe;have HI:=hid hi0;have HI0:=hid hz0;have HI1:=hid hz1;have HI2:=hid hz2;have HLO:Hid ((Qcu (ps.take m)).length=m*5):=by show _=_;rw[Qdw,List.length_take,hlen];congr 1;omega
 have HM:Hid (m+1≤16):=by show _≤_;omega
 have HMN:=hid hmn;have HOL:Hid (∀ W,Below w.heap.size w W→∀ bb:Addr,some (⟨b,o,none⟩:Addr)=some bb→∀ j u,(Qcu (ps.take m))[j]?=some u→W.cell? (bb.add j)=some u):=fun W hW bb e j u hj=>by
  cases e
  rw[show(⟨b,o,none⟩:Addr).add j=⟨b,o+j,none⟩ by unfold Addr.add;split <;> simp_all,hW.cell (p:=⟨b,o+j,none⟩) (Nat.lt_of_lt_of_le HH.out HR.out.2.1)]
  exact HP.out.2.1 j u (Qtq (by have:=HP.out.2.2.2;have:=HMN.out;omega) hj)
 clear hi0 hz0 hz1 hz2;have hw1:wrap64 ((n:Int) - 1)=(m:Int):=by unfold wrap64;omega
 have hw2:IntKind.i64.wrap ((n:Int) - 1)=(m:Int):=by rw[IntKind.wrap_i64];omega
 have hml:m<ps.length:=by omega
 have hmi:(m:Int)<(n:Int):=by omega
 have hcc:∀ j u,(Qc7 ps[m])[j]?=some u→w.cell? ⟨b,o+(m*5+j),none⟩=some u:=fun j u hj=>hcell _ u (Qtr (k:=m) (by omega) (by rw[List.drop_eq_getElem_cons hml,Qcu,List.getElem?_append_left];exact hj;rcases Nat.lt_or_ge j (Qc7 ps[m]).length with h|h;exact h;rw[List.getElem?_eq_none h] at hj;cases hj))
 have HCC:=hid hcc;have HPM:Hid (SrcK w B ps[m]):=hsrc _ (List.getElem_mem hml);have HPD:Hid (ps.drop m=[ps[m]]):=by show _=_;rw[List.drop_eq_getElem_cons hml,List.drop_of_length_le (by omega)]
 generalize ps[m]=pm at *;obtain⟨xm,Am,nm,cm⟩:=pm;clear hmap hcell hsrc hlen hks hb hl16 hcc hml hmn;generalize Qa3 (h.bun l)=z at *;subst hz;unfold Qbl Qe3 at *;go_enter Tryz.func25,Tryz.ntmps25;go_wp2_with (first
  | (refine Qae rfl (.tmp 2) rfl _ rfl _ _ (HX1.out _ HW0.out) rfl ?_)
  | fail)
 refine C1.out.mono ?_;rintro e w2 ⟨hb,⟨-,rfl⟩|⟨h0,-⟩⟩
 case inr=>exact absurd rfl h0
 have B2:=hid (Below.push HW0.out (Nat.le_of_eq HS0.out.symm) hb);clear hb;have x17:=Qab (HX1.out _ B2.out) 17 rfl;go_wp2_with fail;have hrow3:=HX3.out _ B2.out;have y0:=Qcw (Qab hrow3 0 rfl);have y1:=Qcw (Qab hrow3 1 rfl);have y2:=Qcw (Qab hrow3 2 rfl);have y3:=Qcw (Qab hrow3 3 rfl);have y4:=Qcw (Qab hrow3 4 rfl);have x17d:=Qcw x17;have hbw:=HB0.out.trans (B2.out.mono (Nat.le_add_right _ 3));have hm5:∀ j u,(Qc7 (PK.mk xm Am nm cm))[j]?=some u→w2.cell? ⟨b,o+m*5+j,none⟩=some u:=fun j u hj=>by
  rw[Nat.add_assoc,hbw.cell (p:=⟨b,o+(m*5+j),none⟩) (Nat.lt_of_lt_of_le HH.out HR.out.2.1)]
  exact HCC.out j u hj
 have z0:w2.drew.cell? ⟨b,o+m*5,none⟩=some (.int .u64 (xm.typ:Int)):=hm5 0 _ rfl;have z1:w2.drew.cell? ⟨b,o+m*5+1,none⟩=some (.int .u64 (xm.num:Int)):=hm5 1 _ rfl;have z2:w2.drew.cell? ⟨b,o+m*5+2,none⟩=some (.int .u64 (xm.flg:Int)):=hm5 2 _ rfl;have z3:w2.drew.cell? ⟨b,o+m*5+3,none⟩=some (.int .i64 xm.crc):=hm5 3 _ rfl;have z4:w2.drew.cell? ⟨b,o+m*5+4,none⟩=some (.slice Am nm cm):=hm5 4 _ rfl;clear hrow3 hbw hm5;have hww:=B2.out.size;have HSW:Hid (w.heap.size+3≤w2.heap.size):=by show _≤_;have:=HS0.out;omega
 clear hww;have x17a:(w2.alloc (.cells #[.int .u64 (x.typ:Int),.int .u64 (x.num:Int),.int .u64 (x.flg:Int),.int .i64 x.crc,.slice Ax nx cx,.int .u64 (xm.typ:Int),.int .u64 (xm.num:Int),.int .u64 (xm.flg:Int),.int .i64 xm.crc,.slice Am nm cm] 43)).drew.cell? ⟨w.heap.size,17,none⟩=some (.slice (some ⟨b,o,none⟩) n c) :=
  Qcw ((World.cell?_alloc_lt _ _ ⟨w.heap.size,17,none⟩ (by have:=HSW.out;show w.heap.size<_;omega)).trans x17)
 have HPUT:Hid ((ps.take m++[PK.mk x Ax nx cx,PK.mk xm Am nm cm]).map (fun p=>p.x)=Qc6 l x):=by
  show _=_;have hlm:l.length - 1=m:=by rw[HN.out,HMN.out];omega
  have hdm:l.drop m=[xm]:=by rw[← HP.out.1,← List.map_drop,HPD.out];rfl
  unfold Qc6;rw[hlm,hdm,List.map_append,List.map_take,HP.out.1]
  rfl
 have HTL:Hid ((ps.take m).length=m):=by show _=_;rw[List.length_take,HP.out.2.2.2,HMN.out];omega
 go_region_law (first
  | (refine step_append_grows rfl (.tmp 24) (.tmp 31) 26 rfl 43 i0 _ 5 56 Tryz.underlying26 HI.out HI0.out HI1.out HI2.out rfl (by decide) (some ⟨b,o,none⟩) m m (Qcu (ps.take m)) rfl (fun e=>by cases e) HLO.out (HOL.out _ (((HB0.out.trans (B2.out.mono (Nat.le_add_right _ 3))).drew).alloc (by have:=HSW.out;show _≤w2.heap.size;omega) _)) ⟨w2.heap.size,0,none⟩ 2 2 (Qcu [⟨x,Ax,nx,cx⟩,⟨xm,Am,nm,cm⟩]) rfl rfl (World.news_of_block (heap_alloc_new w2.drew _)) (Qkw _) (by omega) (by have:=HM.out;unfold maxLen;omega) (by have:=HM.out;omega) ?_;intro v4 w4 ho4 hg4;obtain⟨g,cap,rfl,-,-⟩:=ho4.form (by omega);have B4:=hid (((B2.out.drew).alloc (by have:=HSW.out;show _≤w2.heap.size;omega) _).grown hg4 (by have:=HSW.out;simp;omega) (fun _ e=>by cases e));have u17:=Qab (HX1.out _ B4.out) 17 rfl;have f17:=Qb5 (HX1.out _ B4.out) 17;have O4:=hid ho4;have G4:=hid hg4;clear hg4 ho4)
  | fail)
 all_goals clear y0 y1 y2 y3 y4 z0 z1 z2 z3 z4 x17a x17d x17
 all_goals (
  have hrow5:=Q1x (.slice (some ⟨g,0,none⟩) (m+2) cap) (HX1.out _ B4.out);have hz5:(w4.setCell ⟨w.heap.size,17,none⟩ (.slice (some ⟨g,0,none⟩) (m+2) cap)).heap[w.heap.size+2]?=_:=(Below.heap_setCell w4 ⟨w.heap.size,17,none⟩ (.slice (some ⟨g,0,none⟩) (m+2) cap) (w.heap.size+2) (by simp)).trans (HX2.out _ B4.out);have hown5:=ownsRow_setCell_below O4.out (a:=⟨w.heap.size,17,none⟩) (by have:=HSW.out;simp;omega) (.slice (some ⟨g,0,none⟩) (m+2) cap);have BB5:=hid ((HB0.out.trans (B4.out.mono (Nat.le_add_right _ 3))).setCell (p:=⟨w.heap.size,17,none⟩) zr (.slice (some ⟨g,0,none⟩) (m+2) cap));have hsz5:(w4.setCell ⟨w.heap.size,17,none⟩ (.slice (some ⟨g,0,none⟩) (m+2) cap)).heap.size=w4.heap.size:=by simp[World.setCell]
  have HSZ5:Hid (w.heap.size+3≤(w4.setCell ⟨w.heap.size,17,none⟩ (.slice (some ⟨g,0,none⟩) (m+2) cap)).heap.size):=by show _≤_;rw[hsz5];have:=B4.out.size;have:=HS0.out;omega
  have hr5:=Q0b (B:=B) (ps:=ps.take m++[⟨x,Ax,nx,cx⟩,⟨xm,Am,nm,cm⟩]) (by rw[Qhe];exact hown5) (by rw[List.length_append,HTL.out];rfl)
   (fun p hp=>by
    have h0:SrcK w B p:=by
     rcases List.mem_append.1 hp with h|h
     ·
      exact HP.out.2.2.1 p (List.mem_of_mem_take h)
     ·
      simp only[List.mem_cons,List.not_mem_nil,or_false] at h;rcases h with rfl|rfl
      ·
       exact HXX.out
      ·
       exact HPM.out
    exact h0.below (BB5.out.mono HR.out.2.1))
   (Nat.le_trans HR.out.2.1 BB5.out.size) (by have:=HM.out;omega)
  rw[HPUT.out] at hr5
  have hcap:m+2≤cap:=by
   rcases O4.out.2 with ⟨hv,-⟩|⟨q,cap',cur,hv,-,-,hnc,-⟩
   ·
    cases hv
   ·
    injection hv with _ _ h3;omega
  have C6:=hid (Qew S h (Qc6 l x) (some ⟨g,0,none⟩) (m+2) cap _ _ (HSn.out.below BB5.out zr) HR.out.2.2.2 hr5 zr hcap);unfold Qbl at C6;have HROW5:=hid hrow5;have HZ5:=hid hz5;have HR5:=hid hr5;have HG5:Hid (w.heap.size<(w4.setCell ⟨w.heap.size,17,none⟩ (.slice (some ⟨g,0,none⟩) (m+2) cap)).heap.size):=by show _<_;have:=HSZ5.out;omega
  clear hrow5 hz5 hown5 hsz5 hr5 hcap O4 G4;go_wp2_with (first
   | (refine Qae rfl (.tmp 2) rfl _ rfl _ _ HROW5.out rfl ?_)
   | fail)
  refine C6.out.mono ?_;rintro e w6 ⟨hb6,⟨hcz,rfl⟩|⟨hcz,s,rfl⟩⟩
  ·
   have HCZ:=hid hcz;have HROW6:=hid ((hb6.block w.heap.size HG5.out).trans HROW5.out);have HZ6:=hid ((hb6.block (w.heap.size+2) (by have:=HSZ5.out;omega)).trans HZ5.out);have B6:=hid (BB5.out.trans (hb6.mono (Nat.le_of_lt HG5.out)));have HSZ6:Hid (w.heap.size+3≤w6.heap.size):=by show _≤_;have:=HSZ5.out;have:=hb6.size;omega
   have C9:=hid (Qnx h (Qc6 l x) (some ⟨g,0,none⟩) (m+2) cap _ w6 HR.out.2.2.2 (HR5.out.below hb6) hb6.size (by omega) (by have:=HM.out;omega));unfold Qbl at C9;clear hb6 hcz u17 f17;go_wp2_with (first
    | (refine Qae rfl (.tmp 2) rfl _ rfl _ _ HROW6.out rfl ?_)
    | fail)
   refine C9.out.mono ?_;rintro e w9 ⟨hb9,A9,n9,c9,rfl,hr9,hc9⟩;have HZ9:=hid ((hb9.block (w.heap.size+2) (by have:=HSZ6.out;omega)).trans HZ6.out);have B9:=hid (B6.out.trans (hb9.mono (by have:=HSZ6.out;omega)));have HR9:=hid (And.intro hr9 hc9);clear hb9 hr9 hc9;unfold Qbl at *;go_wp2_with (first
    | (refine Qbp rfl 28 (.tmp 4) (.tmp 42) rfl _ rfl rfl _ _ HZ9.out Qb1 rfl rfl ?_;intro W' hrow' _ hoth hbel hsz';have HWB:=hid (hbel _ _ B9.out (Nat.le_add_right _ 2));clear hbel)
    | fail)
   refine bodyPost_ret (Qh8 Tryz.results25 _ _ rfl hrow' rfl) rfl (HG.out _ _ ⟨HWB.out,.inl ⟨trivial,HCZ.out,A9,n9,c9,rfl,?_,HR9.out.2⟩⟩);exact HR9.out.1.maskgo (by have:=HSZ6.out;omega) (fun p hp u hu=>(hoth p (by have:=HSZ6.out;omega)).trans hu) (Nat.le_of_eq hsz'.symm)
  ·
   have HCZ:=hid hcz;have hnz:Qg3 (Qa3 (h.bun (Qc6 l x)))≠0:=by
    unfold Qg3;split
    ·
     exact hcz
    ·
     decide
   have HNZ:=hid hnz;have HE:Hid (Qg3 (Qa3 (h.bun (Qc6 l x)))=(if (0:Int)=0 then Qg3 (Qa3 (h.bun (Qc6 l x))) else Qg3 0)):=(if_pos rfl).symm;have HBAD:Hid (¬ ((0:Int)=0∧Qa3 (h.bun (Qc6 l x))=0)):=fun hh=>HCZ.out hh.2
   have HZ6:=hid ((hb6.block (w.heap.size+2) (by have:=HSZ5.out;omega)).trans HZ5.out);have B6:=hid (BB5.out.trans (hb6.mono (Nat.le_of_lt HG5.out)));have HSZ6:Hid (w.heap.size+3≤w6.heap.size):=by show _≤_;have:=HSZ5.out;have:=hb6.size;omega
   generalize Qa3 (h.bun (Qc6 l x))=z at *;have C7:=hid (CN.out z s w6);clear hb6 hcz hnz u17 f17;unfold ufl at *;go_wp2_with fail;refine C7.out.mono ?_;rintro e w7 ⟨rfl,hb7⟩;have HZ7:=hid ((hb7.block (w.heap.size+2) (by have:=HSZ6.out;omega)).trans HZ6.out);have B7:=hid (B6.out.trans (hb7.mono (by have:=HSZ6.out;omega)));clear hb7;go_wp2_with (first
    | (refine Qbp rfl 28 (.tmp 4) (.tmp 38) rfl _ rfl rfl _ _ HZ7.out Qb1 rfl rfl ?_;intro W' hrow' _ _ hbel _;have HWB:=hid (hbel _ _ B7.out (Nat.le_add_right _ 2));clear hbel)
    | fail)
   exact bodyPost_ret (Qh8 Tryz.results25 _ _ rfl hrow' rfl) rfl (HG.out _ _ ⟨HWB.out,.inr ⟨fun hh=>HCZ.out hh.2,_,HNZ.out,(by first|exact HE.out|simp),rfl⟩⟩))
end Go.Proofs.YtbnfkjkoinbkgaaGreatDoor
