import Derived.Test.YtbnfkjkoinbkgaaGreatDoorVAbb
import Derived.Test.YtbnfkjkoinbkgaaGreatDoorVBunE
import Derived.Test.YtbnfkjkoinbkgaaGreatDoorVKDec2
import Derived.Test.YtbnfkjkoinbkgaaGreatDoorVRfI
import Derived.Test.YtbnfkjkoinbkgaaGreatDoorVShaT
import Derived.Deep.RegionHeld3
namespace Go.Proofs.YtbnfkjkoinbkgaaGreatDoor
set_option maxRecDepth 100000
set_option maxHeartbeats 16000000
open Go.RowKit
open Go.Lib (hid)
theorem Qnv(S:Snt)(h:BH)(l:List Blk)(A:OA)(n c:Nat)(w:World)(hS:Wd S w)(hd:h.Bd)(hw:Wr (h.bun l)) :
  Calls Tryz.prog 109 #[Qbl h A n c] w (Qbi 5 (Qbx (h.bun l)) w):=by
 have hc:0≤h.crc∧h.crc≤2:=hw.1;have hB1:=(Below.refl w.heap.size w).alloc zr (hbx h h.crc A n c);have C1:=hid (Qs7 S h l A n c (w.alloc (hbx h h.crc A n c)) (hS.alloc _) hd hw);have hwr:=Qfn (h.bun l) (Qbv (h.bun l)) (Qj3 (h.bun l));have hF:=Qeo (Qbv (h.bun l)) hw;have hbl:=Qi7 hw;have hbp:=Qwd (h.bun l);have hs4:=Qh0 h.crc;have hn0:=Qj3 (h.bun l);have ec:(h.bun l).crc=h.crc:=rfl;rw[ec] at hn0
 have hll:(wri (Qeb (h.bun l) (Qbv (h.bun l)))).length≤140737488355328:=by rw[hwr,List.length_append,hn0];omega
 have C2:=hid (fun v W (hr:RdI W W.heap.size v (Qeb (h.bun l) (Qbv (h.bun l))))=>Qet (Qeb (h.bun l) (Qbv (h.bun l))) v W W.heap.size hF hll zr hr);rw[hwr] at C2
 have C3:=hid (fun (A:OA) (n c:Nat) (W:World) (hr:Rd W W.heap.size A n (Qe6 (h.bun l)++Qbv (h.bun l))) (hn:n≤140737488355328)=>Qni h.crc A n c W.heap.size (Qe6 (h.bun l)++Qbv (h.bun l)) W hr hn);have HS:Hid (Qbb h.crc (Qe6 (h.bun l)++Qbv (h.bun l))=Qpn (h.bun l)):=rfl;rw[HS.out] at C3
 have hsl:=Qfr (h.bun l);rw[ec] at hsl
 have HSL:=hid hsl;have HW0:Hid (Qbx (h.bun l)=Qe6 (h.bun l)++Qpn (h.bun l)):=rfl;rw[HW0.out]
 have HLL:Hid ((Qe6 (h.bun l)++Qbv (h.bun l)).length=(Qe6 (h.bun l)).length+Qgx h.crc):=by show _=_;rw[List.length_append,hn0]
 obtain⟨M,hM⟩:∃ M,M=(Qe6 (h.bun l)).length:=⟨_,rfl⟩
 rw[← hM] at HLL hbl hbp
 have HM:=hid hM;have HBD:=hid (And.intro hbl (And.intro hbp hs4));have HB1:=hid hB1;generalize Qpn (h.bun l)=SB at *;generalize Qe6 (h.bun l)=BB at *;generalize Qbv (h.bun l)=NL at *;generalize Qgx h.crc=SN at *;clear hS hd hw hc hB1 hwr hF hbl hbp hs4 hn0 hll hM HS HW0 ec hsl;unfold Qbl at *;go_enter Tryz.func109,Tryz.ntmps109;go_wp2_with fail;refine C1.out.mono ?_;rintro e w1 ⟨v1,rfl,hv1,hb1⟩;obtain⟨k1,n1,A1,nd1,cd1,AL1,nl1,cl1,rfl⟩:=hv1.form;obtain⟨x0,x1,x2,x3,x4,x5,x6,x7,x8,x9,x10,x11,x12,x13,x14,x15,x16,x17⟩:=Qpf rfl (hb1.mono (show w.heap.size+1≤_ by simp));have B1:=hid (HB1.out.trans (hb1.mono (Qaa _ _)))
 have HX1:=hid x1;have HLT:Hid (w.heap.size<w1.heap.size):=by show _<_;have:=hb1.size;simp at this;omega
 have HV1:=hid hv1.unmask;clear hb1 hv1 x0 x1 x2 x3 x4 x5 x6 x7 x8 x9 x10 x11 x12 x13 x14 x15 x16 x17 C1;go_wp2_with fail;refine(C2.out _ _ HV1.out).mono ?_;rintro e w2 ⟨v2,rfl,ho2,hb2⟩;obtain⟨g,cap,cur,rfl,hg1,hg2,hg3,hg4⟩:=ho2.cur (by rw[HLL.out];have:=HBD.out;omega);rw[HLL.out] at ho2 hg2 ⊢
 have x1:=(hb2.cell (p:=⟨w.heap.size,1,none⟩) HLT.out).trans HX1.out;have B2:=hid (B1.out.trans (hb2.mono B1.out.size));have O2:=hid ho2;have G2:=hid (And.intro hg1 (And.intro hg2 (And.intro hg3 hg4)));have C3':=hid (C3.out (some ⟨g,0,none⟩) (M+SN) cap w2 ho2.rd_.2.1 (by have:=HBD.out;omega));clear ho2 hb2 hg1 hg2 hg3 hg4 C2 C3;go_wp2_with fail;refine C3'.out.mono ?_;rintro e w3 ⟨A3,n3,c3,rfl,hr3,hc3,hb3⟩;obtain rfl:SN=n3:=by have:=hr3.1;have:=HSL.out;omega
 obtain⟨A4,c4,hcut,hA4⟩:=Q00 (P:=Tryz.prog) 29 5 Tryz.underlying29 Qdc g (M+SN) cap M (by omega) G2.out.2.1;rw[show M+SN - M=SN by omega] at hcut
 have HCUT:=hid hcut;have hsz:=Qak;have B3:=hid (B2.out.trans (hb3.mono B2.out.size));have O3:=hid (O2.out.below hb3);have hz1:((Tryz.prog.info? 5).map (·.size))=some 1:=by kernel_rfl
 have HZ1:=hid hz1;have G3:Hid (w3.heap[g]?=some (.cells cur.toList.toArray 5 (0,0))):=by
  show _=_;rw[hb3.block g (World.ownsRow.lt O2.out g rfl).2,G2.out.2.2.1]
 have POS:Hid (0<(SB.map bv).length→A4=some ⟨g,M,none⟩∧∃ ad,A3=some ad∧∀ j v,(SB.map bv)[j]?=some v→w3.cell? (ad.add j)=some v):=fun h0=>by
  rw[List.length_map,HSL.out] at h0
  refine⟨hA4 (by omega),?_⟩;obtain⟨b3,o3,e3,-,hc⟩:=hr3.2 h0;refine⟨_,e3,fun j v hj=>?_⟩;have hjl:j<SN:=by
   rcases Nat.lt_or_ge j SN with h|h
   ·
    exact h
   ·
    rw[List.getElem?_eq_none (by rw[List.length_map,HSL.out];exact h)] at hj;cases hj
  rw[show(⟨b3,o3,none⟩:Addr).add j=⟨b3,o3+j,none⟩ by unfold Addr.add;split <;> simp_all,hc j hjl]
  have hjs:j<SB.length:=by rw[HSL.out];exact hjl
  rw[List.getElem?_map,List.getElem?_eq_getElem hjs] at hj
  simp only[List.getD,List.getElem?_eq_getElem hjs,Option.getD_some];exact hj
 have ONE:Hid (∀ v∈SB.map bv,v.oneCell'=true):=Qqz SB;have FIT:Hid (M+(SB.map bv).length≤cur.toList.length):=by
  show _≤_;rw[List.length_map,HSL.out,Array.length_toList,G2.out.2.2.2]
  exact G2.out.2.1
 have MIN:Hid ((SB.map bv).length=Nat.min SN SN):=by show _=_;rw[List.length_map,HSL.out];exact(Nat.min_self SN).symm
 have HBG:Hid (w.heap.size≤g):=Nat.le_trans B1.out.size G2.out.1;have hwr:wrap64 (M:Int)=(M:Int):=by have:=HBD.out;unfold wrap64;omega
 clear hb3 hr3 hc3 hA4 hsz hz1 C3';go_wp2_with (first
  | (refine wpList_copy_splice rfl (.tmp 22) (.tmp 23) 29 29 rfl 5 Tryz.underlying29 HZ1.out A4 A3 SN c4 SN c3 rfl rfl g M cur.toList 5 G3.out (SB.map bv) MIN.out POS.out FIT.out ONE.out w.heap.size w B3.out HBG.out ?_;intro w4 hw4 hb4;have B4:=hid hb4;clear hb4)
  | fail)
 go_ret;have g3:w3.heap[g]?=some (.cells cur 5 (0,0)):=by simpa using G3.out
 have ht:=O3.out.tail (s:=SB) (m:=M) g3 HLL.out (by rw[HSL.out]) hw4.out;rw[show(BB++NL).take M=BB by rw[HM.out,List.take_left]] at ht
 exact⟨_,rfl,ht.low B1.out.size,B4.out⟩
end Go.Proofs.YtbnfkjkoinbkgaaGreatDoor
