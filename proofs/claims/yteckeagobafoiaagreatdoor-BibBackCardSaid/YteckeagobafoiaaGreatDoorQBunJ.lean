import Derived.Test.YteckeagobafoiaaGreatDoorQBunE
import Derived.Test.YteckeagobafoiaaGreatDoorQKDec2
import Derived.Test.YteckeagobafoiaaGreatDoorQRfI
import Derived.Test.YteckeagobafoiaaGreatDoorQShaT
import Derived.Deep.RegionHeld3
namespace Go.Proofs.YteckeagobafoiaaGreatDoor
set_option maxRecDepth 100000
set_option maxHeartbeats 16000000
open Go.RowKit
open Go.Lib (hid)
theorem uwriteP_any (S:Snt) (h:BH) (l:List Blk) (A:Option Addr) (n c:Nat) (w:World) (hS:Wd S w) (hd:h.Bd) (hw:Wr (h.bun l)) :
  Calls Tryz.prog 176 #[bunV h A n c] w (GivesO 5 (primW (h.bun l)) w):=by
 have hc:0≤h.crc∧h.crc≤2:=hw.1
 have hB1:=(Below.refl w.heap.size w).alloc (Nat.le_refl _) (.cells #[.int .u64 (h.flg:Int),.int .i64 h.crc,.int .i64 h.dsc,.string h.dnm,.int .u64 (h.dn:Int),.int .u64 (h.dv:Int),.int .i64 h.ssc,.string h.snm,.int .u64 (h.sn:Int),.int .u64 (h.sv:Int),.int .i64 h.rsc,.string h.rnm,.int .u64 (h.rn:Int),.int .u64 (h.rv:Int),.int .u64 (h.tim:Int),.int .u64 (h.seq:Int),.int .u64 (h.lif:Int),.slice A n c] 28)
 have C1:=hid (uitem_any S h l A n c (w.alloc (.cells #[.int .u64 (h.flg:Int),.int .i64 h.crc,.int .i64 h.dsc,.string h.dnm,.int .u64 (h.dn:Int),.int .u64 (h.dv:Int),.int .i64 h.ssc,.string h.snm,.int .u64 (h.sn:Int),.int .u64 (h.sv:Int),.int .i64 h.rsc,.string h.rnm,.int .u64 (h.rn:Int),.int .u64 (h.rv:Int),.int .u64 (h.tim:Int),.int .u64 (h.seq:Int),.int .u64 (h.lif:Int),.slice A n c] 28)) (hS.alloc _) hd hw)
 have hwr:=wri_itmP (h.bun l) (nullsP (h.bun l)) (nullsP_len (h.bun l))
 have hF:=itmP_fits (nullsP (h.bun l)) hw
 have hbl:=bodyP_len hw
 have hbp:=bodyP_pos (h.bun l)
 have hs4:=sumN_le h.crc
 have hn0:=nullsP_len (h.bun l)
 have ec:(h.bun l).crc=h.crc:=rfl
 rw [ec] at hn0
 have hll:(wri (itmP (h.bun l) (nullsP (h.bun l)))).length≤140737488355328:=by rw [hwr,List.length_append,hn0];omega
 have C2:=hid (fun v W (hr:RdI W W.heap.size v (itmP (h.bun l) (nullsP (h.bun l))))=>cencodeO_any (itmP (h.bun l) (nullsP (h.bun l))) v W W.heap.size hF hll (Nat.le_refl _) hr)
 rw [hwr] at C2
 have C3:=hid (fun (A:Option Addr) (n c:Nat) (W:World) (hr:Rd W W.heap.size A n (bodyP (h.bun l)++nullsP (h.bun l))) (hn:n≤140737488355328)=>bytes_any h.crc A n c W.heap.size (bodyP (h.bun l)++nullsP (h.bun l)) W hr hn)
 have HS:Hid (crcBytes h.crc (bodyP (h.bun l)++nullsP (h.bun l))=sumP (h.bun l)):=rfl
 rw [HS.out] at C3
 have hsl:=sumP_len (h.bun l)
 rw [ec] at hsl
 have HSL:=hid hsl
 have HW0:Hid (primW (h.bun l)=bodyP (h.bun l)++sumP (h.bun l)):=rfl
 rw [HW0.out]
 have HLL:Hid ((bodyP (h.bun l)++nullsP (h.bun l)).length=(bodyP (h.bun l)).length+sumN h.crc):=by show _=_;rw [List.length_append,hn0]
 obtain ⟨M,hM⟩:∃ M,M=(bodyP (h.bun l)).length:=⟨_,rfl⟩
 rw [← hM] at HLL hbl hbp
 have HM:=hid hM
 have HBD:=hid (And.intro hbl (And.intro hbp hs4))
 have HB1:=hid hB1
 generalize sumP (h.bun l)=SB at *
 generalize bodyP (h.bun l)=BB at *
 generalize nullsP (h.bun l)=NL at *
 generalize sumN h.crc=SN at *
 clear hS hd hw hc hB1 hwr hF hbl hbp hs4 hn0 hll hM HS HW0 ec hsl
 unfold bunV at *
 go_enter Tryz.func176,Tryz.ntmps176
 go_wp2_with fail
 refine C1.out.mono ?_
 rintro e w1 ⟨v1,rfl,hv1,hb1⟩
 obtain ⟨k1,n1,A1,nd1,cd1,AL1,nl1,cl1,rfl⟩:=hv1.form
 obtain ⟨x0,x1,x2,x3,x4,x5,x6,x7,x8,x9,x10,x11,x12,x13,x14,x15,x16,x17⟩:=box18 rfl (hb1.mono (show w.heap.size+1≤_ by simp))
 have B1:=hid (HB1.out.trans (hb1.mono (le_alloc _ _)))
 have HX1:=hid x1
 have HLT:Hid (w.heap.size<w1.heap.size):=by show _<_;have:=hb1.size;simp at this;omega
 have HV1:=hid hv1.unmask
 clear hb1 hv1 x0 x1 x2 x3 x4 x5 x6 x7 x8 x9 x10 x11 x12 x13 x14 x15 x16 x17 C1
 go_wp2_with fail
 refine (C2.out _ _ HV1.out).mono ?_
 rintro e w2 ⟨v2,rfl,ho2,hb2⟩
 obtain ⟨g,cap,cur,rfl,hg1,hg2,hg3,hg4⟩:=ho2.cur (by rw [HLL.out];have:=HBD.out;omega)
 rw [HLL.out] at ho2 hg2 ⊢
 have x1:=(hb2.cell (p:=⟨w.heap.size,1,none⟩) HLT.out).trans HX1.out
 have B2:=hid (B1.out.trans (hb2.mono B1.out.size))
 have O2:=hid ho2
 have G2:=hid (And.intro hg1 (And.intro hg2 (And.intro hg3 hg4)))
 have C3':=hid (C3.out (some ⟨g,0,none⟩) (M+SN) cap w2 ho2.rd_.2.1 (by have:=HBD.out;omega))
 clear ho2 hb2 hg1 hg2 hg3 hg4 C2 C3
 go_wp2_with fail
 refine C3'.out.mono ?_
 rintro e w3 ⟨A3,n3,c3,rfl,hr3,hc3,hb3⟩
 obtain rfl:SN=n3:=by have:=hr3.1;have:=HSL.out;omega
 obtain ⟨A4,c4,hcut,hA4⟩:=cut_own (P:=Tryz.prog) 29 5 Tryz.underlying29 size_u8 g (M+SN) cap M (by omega) G2.out.2.1
 rw [show M+SN - M=SN by omega] at hcut
 have HCUT:=hid hcut
 have hsz:=info_u8
 have B3:=hid (B2.out.trans (hb3.mono B2.out.size))
 have O3:=hid (O2.out.below hb3)
 have hz1:((Tryz.prog.info? 5).map (·.size))=some 1:=by kernel_rfl
 have HZ1:=hid hz1
 have G3:Hid (w3.heap[g]?=some (.cells cur.toList.toArray 5 (0,0))):=by
  show _=_
  rw [hb3.block g (World.ownsRow.lt O2.out g rfl).2,G2.out.2.2.1]
 have POS:Hid (0<(SB.map bv).length→A4=some ⟨g,M,none⟩∧∃ ad,A3=some ad∧∀ j v,(SB.map bv)[j]?=some v→w3.cell? (ad.add j)=some v):=fun h0=>by
  rw [List.length_map,HSL.out] at h0
  refine ⟨hA4 (by omega),?_⟩
  obtain ⟨b3,o3,e3,-,hc⟩:=hr3.2 h0
  refine ⟨_,e3,fun j v hj=>?_⟩
  have hjl:j<SN:=by
   rcases Nat.lt_or_ge j SN with h|h
   ·
    exact h
   ·
    rw [List.getElem?_eq_none (by rw [List.length_map,HSL.out];exact h)] at hj;cases hj
  rw [show (⟨b3,o3,none⟩:Addr).add j=⟨b3,o3+j,none⟩ by unfold Addr.add;split <;> simp_all,hc j hjl]
  have hjs:j<SB.length:=by rw [HSL.out];exact hjl
  rw [List.getElem?_map,List.getElem?_eq_getElem hjs] at hj
  simp only [List.getD,List.getElem?_eq_getElem hjs,Option.getD_some]
  exact hj
 have ONE:Hid (∀ v∈SB.map bv,v.oneCell'=true):=bv_one SB
 have FIT:Hid (M+(SB.map bv).length≤cur.toList.length):=by
  show _≤_
  rw [List.length_map,HSL.out,Array.length_toList,G2.out.2.2.2]
  exact G2.out.2.1
 have MIN:Hid ((SB.map bv).length=Nat.min SN SN):=by show _=_;rw [List.length_map,HSL.out];exact (Nat.min_self SN).symm
 have HBG:Hid (w.heap.size≤g):=Nat.le_trans B1.out.size G2.out.1
 have hwr:wrap64 (M:Int)=(M:Int):=by have:=HBD.out;unfold wrap64;omega
 clear hb3 hr3 hc3 hA4 hsz hz1 C3'
 go_wp2_with (first
  | (refine wpList_copy_splice rfl (.tmp 22) (.tmp 23) 29 29 rfl 5 Tryz.underlying29 HZ1.out A4 A3 SN c4 SN c3 rfl rfl g M cur.toList 5 G3.out (SB.map bv) MIN.out POS.out FIT.out ONE.out w.heap.size w B3.out HBG.out ?_;intro w4 hw4 hb4;have B4:=hid hb4;clear hb4)
  | fail)
 go_ret
 have g3:w3.heap[g]?=some (.cells cur 5 (0,0)):=by simpa using G3.out
 have ht:=O3.out.tail (s:=SB) (m:=M) g3 HLL.out (by rw [HSL.out]) hw4.out
 rw [show (BB++NL).take M=BB by rw [HM.out,List.take_left]] at ht
 exact ⟨_,rfl,ht.low B1.out.size,B4.out⟩
end Go.Proofs.YteckeagobafoiaaGreatDoor
