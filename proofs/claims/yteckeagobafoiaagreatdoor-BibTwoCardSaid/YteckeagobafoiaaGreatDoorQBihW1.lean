import Derived.Test.YteckeagobafoiaaGreatDoorQBihC
import Derived.Test.YteckeagobafoiaaGreatDoorQBihH
import Derived.Test.YteckeagobafoiaaGreatDoorQBihN
namespace Go.Proofs.YteckeagobafoiaaGreatDoor
set_option maxRecDepth 100000
set_option maxHeartbeats 16000000
open Go.RowKit
open Go.Lib (hid)
theorem bibTwo_walk (h:BH) (l:List Blk) (A:Option Addr) (n c:Nat) (Ap:Option Addr) (np cp:Nat) (kp:List UInt8) (Aq:Option Addr) (nq cq:Nat) (kq:List UInt8) (sc:Int) (ec:Int) (s:ByteArray) (nd sv:Nat) (w:World) (S:Snt) (T:Snb)
  (hin:BunIn w h l A n c) (hp:Rd w w.heap.size Ap np kp∧np≤cp∧cp≤140737488351232) (hq:Rd w w.heap.size Aq nq kq∧nq≤cq∧cq≤140737488351232) (_hsc:(Lit.int .i64 sc).wf=true) (hs:s.size≤140737488355328) (hnd:nd<18446744073709551616) (hsv:sv<18446744073709551616) (hS:Wd S w) (hT:Ldb T w) :
  Calls Tryz.prog 3 #[bunV h A n c,.slice Ap np cp,.slice Aq nq cq,.int .i64 sc,epdV ec s nd sv] w fun e w'=>e=.returned (.bool true)∧Below w.heap.size w w':=by
 obtain ⟨hBd,hr,hc⟩:=hin
 obtain ⟨rp,hp1,hp2⟩:=hp
 obtain ⟨rq,hq1,hq2⟩:=hq
 have HBA:Hid (Below w.heap.size w (w.alloc (.cells #[.int .u64 (h.flg:Int),.int .i64 h.crc,.int .i64 h.dsc,.string h.dnm,.int .u64 (h.dn:Int),.int .u64 (h.dv:Int),.int .i64 h.ssc,.string h.snm,.int .u64 (h.sn:Int),.int .u64 (h.sv:Int),.int .i64 h.rsc,.string h.rnm,.int .u64 (h.rn:Int),.int .u64 (h.rv:Int),.int .u64 (h.tim:Int),.int .u64 (h.seq:Int),.int .u64 (h.lif:Int),.slice A n c] 28))):=(Below.refl _ _).alloc (Nat.le_refl _) _
 have HB0:Hid (Below w.heap.size w ((w.alloc (.cells #[.int .u64 (h.flg:Int),.int .i64 h.crc,.int .i64 h.dsc,.string h.dnm,.int .u64 (h.dn:Int),.int .u64 (h.dv:Int),.int .i64 h.ssc,.string h.snm,.int .u64 (h.sn:Int),.int .u64 (h.sv:Int),.int .i64 h.rsc,.string h.rnm,.int .u64 (h.rn:Int),.int .u64 (h.rv:Int),.int .u64 (h.tim:Int),.int .u64 (h.seq:Int),.int .u64 (h.lif:Int),.slice A n c] 28)).alloc (.cells #[.int .i64 ec,.string s,.int .u64 (nd:Int),.int .u64 (sv:Int)] 25))):=HBA.out.alloc (le_alloc _ _) _
 have HSA:Hid ((w.alloc (.cells #[.int .u64 (h.flg:Int),.int .i64 h.crc,.int .i64 h.dsc,.string h.dnm,.int .u64 (h.dn:Int),.int .u64 (h.dv:Int),.int .i64 h.ssc,.string h.snm,.int .u64 (h.sn:Int),.int .u64 (h.sv:Int),.int .i64 h.rsc,.string h.rnm,.int .u64 (h.rn:Int),.int .u64 (h.rv:Int),.int .u64 (h.tim:Int),.int .u64 (h.seq:Int),.int .u64 (h.lif:Int),.slice A n c] 28)).heap.size=w.heap.size+1):=by show _=_;simp
 have HS0:Hid (((w.alloc (.cells #[.int .u64 (h.flg:Int),.int .i64 h.crc,.int .i64 h.dsc,.string h.dnm,.int .u64 (h.dn:Int),.int .u64 (h.dv:Int),.int .i64 h.ssc,.string h.snm,.int .u64 (h.sn:Int),.int .u64 (h.sv:Int),.int .i64 h.rsc,.string h.rnm,.int .u64 (h.rn:Int),.int .u64 (h.rv:Int),.int .u64 (h.tim:Int),.int .u64 (h.seq:Int),.int .u64 (h.lif:Int),.slice A n c] 28)).alloc (.cells #[.int .i64 ec,.string s,.int .u64 (nd:Int),.int .u64 (sv:Int)] 25)).heap.size=w.heap.size+2):=by show _=_;simp
 have QA:Hid (((w.alloc (.cells #[.int .u64 (h.flg:Int),.int .i64 h.crc,.int .i64 h.dsc,.string h.dnm,.int .u64 (h.dn:Int),.int .u64 (h.dv:Int),.int .i64 h.ssc,.string h.snm,.int .u64 (h.sn:Int),.int .u64 (h.sv:Int),.int .i64 h.rsc,.string h.rnm,.int .u64 (h.rn:Int),.int .u64 (h.rv:Int),.int .u64 (h.tim:Int),.int .u64 (h.seq:Int),.int .u64 (h.lif:Int),.slice A n c] 28)).alloc (.cells #[.int .i64 ec,.string s,.int .u64 (nd:Int),.int .u64 (sv:Int)] 25)).heap[w.heap.size]?=some (.cells #[.int .u64 (h.flg:Int),.int .i64 h.crc,.int .i64 h.dsc,.string h.dnm,.int .u64 (h.dn:Int),.int .u64 (h.dv:Int),.int .i64 h.ssc,.string h.snm,.int .u64 (h.sn:Int),.int .u64 (h.sv:Int),.int .i64 h.rsc,.string h.rnm,.int .u64 (h.rn:Int),.int .u64 (h.rv:Int),.int .u64 (h.tim:Int),.int .u64 (h.seq:Int),.int .u64 (h.lif:Int),.slice A n c] 28 (0,0))):=row_of_box (w:=w) rfl ((Below.refl (w.heap.size+1) (w.alloc (.cells #[.int .u64 (h.flg:Int),.int .i64 h.crc,.int .i64 h.dsc,.string h.dnm,.int .u64 (h.dn:Int),.int .u64 (h.dv:Int),.int .i64 h.ssc,.string h.snm,.int .u64 (h.sn:Int),.int .u64 (h.sv:Int),.int .i64 h.rsc,.string h.rnm,.int .u64 (h.rn:Int),.int .u64 (h.rv:Int),.int .u64 (h.tim:Int),.int .u64 (h.seq:Int),.int .u64 (h.lif:Int),.slice A n c] 28))).alloc (Nat.le_of_eq HSA.out.symm) _)
 have QE:Hid (((w.alloc (.cells #[.int .u64 (h.flg:Int),.int .i64 h.crc,.int .i64 h.dsc,.string h.dnm,.int .u64 (h.dn:Int),.int .u64 (h.dv:Int),.int .i64 h.ssc,.string h.snm,.int .u64 (h.sn:Int),.int .u64 (h.sv:Int),.int .i64 h.rsc,.string h.rnm,.int .u64 (h.rn:Int),.int .u64 (h.rv:Int),.int .u64 (h.tim:Int),.int .u64 (h.seq:Int),.int .u64 (h.lif:Int),.slice A n c] 28)).alloc (.cells #[.int .i64 ec,.string s,.int .u64 (nd:Int),.int .u64 (sv:Int)] 25)).heap[w.heap.size+1]?=some (.cells #[.int .i64 ec,.string s,.int .u64 (nd:Int),.int .u64 (sv:Int)] 25 (0,0))):=row_of_box (w:=(w.alloc (.cells #[.int .u64 (h.flg:Int),.int .i64 h.crc,.int .i64 h.dsc,.string h.dnm,.int .u64 (h.dn:Int),.int .u64 (h.dv:Int),.int .i64 h.ssc,.string h.snm,.int .u64 (h.sn:Int),.int .u64 (h.sv:Int),.int .i64 h.rsc,.string h.rnm,.int .u64 (h.rn:Int),.int .u64 (h.rv:Int),.int .u64 (h.tim:Int),.int .u64 (h.seq:Int),.int .u64 (h.lif:Int),.slice A n c] 28))) (by simp) (Below.refl _ _)
 have HSW:=hid (fun (W:World) (hb:Below w.heap.size w W)=>And.intro (hS.below hb (Nat.le_refl _)) (hT.below hb (Nat.le_refl _)))
 have CH:=hid (fun (W:World) (hb:Below w.heap.size w W)=>heads10_any S T W (HSW.out W hb).1 (HSW.out W hb).2)
 have CF:=hid (fun (W:World) (hb:Below w.heap.size w W)=>few10_any h l A n c W.heap.size W ((hr.below hb).more hb.size) (Nat.le_refl _))
 have CS:=hid (fun (hdat:∀ x∈l,x.dat.length≤5000) (h200:np≤200) (W:World) (hb:Below w.heap.size w W) (At:Option Addr) (hN:RdN W W.heap.size At 1 [1]) =>
  (isign_any S T h l A n c W.heap.size [1] At 1 1 100 sc ec s nd sv Ap np cp kp W (HSW.out W hb).1 (HSW.out W hb).2 hBd ((hr.below hb).more hb.size) (Nat.le_refl _) hc hN (Nat.le_refl _) sg_64 (by decide) (by decide) hs hnd hsv ((rp.below hb).more hb.size) ⟨hp1,by omega,by omega⟩ hdat).mono fun _ _ h=>sgn_one h)
 obtain ⟨l1,hl1⟩:∃ l1,l1=nx1 h l 100 sc (ep ec s nd sv) kp:=⟨_,rfl⟩
 obtain ⟨l2,hl2⟩:∃ l2,l2=nx1 h l1 101 sc (ep ec s nd sv) kq:=⟨_,rfl⟩
 have CS2:=hid (fun (A:Option Addr) (n c:Nat) (hc:n≤c) (hdat:∀ x∈l1,x.dat.length≤5000) (h200:nq≤200) (W:World) (hb:Below w.heap.size w W) (hr:RdL W W.heap.size A n l1) (At:Option Addr) (hN:RdN W W.heap.size At 1 [1]) =>
  (isign_any S T h l1 A n c W.heap.size [1] At 1 1 101 sc ec s nd sv Aq nq cq kq W (HSW.out W hb).1 (HSW.out W hb).2 hBd hr (Nat.le_refl _) hc hN (Nat.le_refl _) sg_64 (by decide) (by decide) hs hnd hsv ((rq.below hb).more hb.size) ⟨hq1,by omega,by omega⟩ hdat).mono fun _ _ h=>sgn_one h)
 have CFI:=hid (fun (W:World) (hb:Below w.heap.size w W)=>rfindU_any h l A n c W.heap.size 101 W ((hr.below hb).more hb.size) (Nat.le_refl _))
 have CVP:=hid (fun (A:Option Addr) (n c:Nat) (hc:n≤c) (hdat:∀ x∈l2,x.dat.length≤5000) (h200:np≤200) (X:Bb) (hv:vrB (h.bun l2) 100 kp=(some X,0)) (W:World) (hb:Below w.heap.size w W) (hr:RdL W W.heap.size A n l2) =>
  (iverify_any S T h l2 A n c W.heap.size 100 Ap np cp kp W (HSW.out W hb).1 (HSW.out W hb).2 hBd hr (Nat.le_refl _) hc ((rp.below hb).more hb.size) ⟨hp1,by omega,by omega⟩ hdat).mono fun _ _ h=>giv_ok (X:=X) ⟨congrArg Prod.fst hv,congrArg Prod.snd hv⟩ h)
 have CVQ:=hid (fun (A:Option Addr) (n c:Nat) (hc:n≤c) (hdat:∀ x∈l2,x.dat.length≤5000) (h200:nq≤200) (X:Bb) (hv:vrB (h.bun l2) 101 kq=(some X,0)) (W:World) (hb:Below w.heap.size w W) (hr:RdL W W.heap.size A n l2) =>
  (iverify_any S T h l2 A n c W.heap.size 101 Aq nq cq kq W (HSW.out W hb).1 (HSW.out W hb).2 hBd hr (Nat.le_refl _) hc ((rq.below hb).more hb.size) ⟨hq1,by omega,by omega⟩ hdat).mono fun _ _ h=>giv_ok (X:=X) ⟨congrArg Prod.fst hv,congrArg Prod.snd hv⟩ h)
 have CC:=hid (fun (A:Option Addr) (n c:Nat) (hc:n≤c) (h16:n≤1000) (M:List Nat) (hz:cauU (h.bun l2)=0) (hM:covB 1 l2=M++[100,101]) (W:World) (hb:Below w.heap.size w W) (hr:RdL W W.heap.size A n l2) =>
  (icovers_any S T h l2 A n c W.heap.size 1 W (HSW.out W hb).1 (HSW.out W hb).2 hBd hr (Nat.le_refl _) hc h16).mono fun _ _ h=>num_two ((if_pos hz).trans hM) h)
 have HL1:=hid hl1
 have HL2:=hid hl2
 clear hBd hr hc rp hp1 hp2 rq hq1 hq2 hs hnd hsv hS hT _hsc hl1 hl2
 rw [← HL1.out] at CS
 rw [← HL2.out] at CS2
 unfold bunV epdV bibV at *
 go_enter Tryz.func3,Tryz.ntmps3
 go_wp2_with (first
  | (refine wpList_ld18 rfl (.tmp 5) rfl _ rfl _ _ QA.out rfl ?_)
  | fail)
 generalize ((w.alloc (.cells #[.int .u64 (h.flg:Int),.int .i64 h.crc,.int .i64 h.dsc,.string h.dnm,.int .u64 (h.dn:Int),.int .u64 (h.dv:Int),.int .i64 h.ssc,.string h.snm,.int .u64 (h.sn:Int),.int .u64 (h.sv:Int),.int .i64 h.rsc,.string h.rnm,.int .u64 (h.rn:Int),.int .u64 (h.rv:Int),.int .u64 (h.tim:Int),.int .u64 (h.seq:Int),.int .u64 (h.lif:Int),.slice A n c] 28)).alloc (.cells #[.int .i64 ec,.string s,.int .u64 (nd:Int),.int .u64 (sv:Int)] 25))=w0 at *
 refine (CF.out _ HB0.out).mono ?_
 rintro e w1 ⟨R,rfl,hR,hb⟩
 have T1:=hid (HB0.out.trans (hb.mono HB0.out.size))
 have RA1:=hid (row_on QA.out hb (row_lt QA.out))
 have RE1:=hid (row_on QE.out hb (row_lt QE.out))
 have HRR:=hid hR
 clear hb hR QA QE HB0 HBA HSA HS0
 cases R with
 | false =>
  go_wp2_with fail
  refine (CH.out w1 T1.out).mono ?_
  rintro e wh ⟨rfl,hb2⟩
  have TH:=hid (T1.out.trans (hb2.mono T1.out.size))
  clear hb2
  go_wp2_with fail
  go_ret
  exact ⟨rfl,TH.out⟩
 | true =>
 by_cases hnp:200<np
 ·
  have thnp:decide ((200:Int)<(np:Int))=true:=decide_eq_true (by omega)
  clear hnp
  go_wp2_with fail
  refine (CH.out w1 T1.out).mono ?_
  rintro e wh ⟨rfl,hb2⟩
  have TH:=hid (T1.out.trans (hb2.mono T1.out.size))
  clear hb2
  go_wp2_with fail
  go_ret
  exact ⟨rfl,TH.out⟩
 have thnp:decide ((200:Int)<(np:Int))=false:=decide_eq_false (by omega)
 by_cases hnq:200<nq
 ·
  have thnq:decide ((200:Int)<(nq:Int))=true:=decide_eq_true (by omega)
  clear hnq
  go_wp2_with fail
  refine (CH.out w1 T1.out).mono ?_
  rintro e wh ⟨rfl,hb2⟩
  have TH:=hid (T1.out.trans (hb2.mono T1.out.size))
  clear hb2
  go_wp2_with fail
  go_ret
  exact ⟨rfl,TH.out⟩
 have thnq:decide ((200:Int)<(nq:Int))=false:=decide_eq_false (by omega)
 by_cases hs0:sc<0
 ·
  have ths0:decide (sc<0)=true:=decide_eq_true (by omega)
  clear hs0
  go_wp2_with fail
  refine (CH.out w1 T1.out).mono ?_
  rintro e wh ⟨rfl,hb2⟩
  have TH:=hid (T1.out.trans (hb2.mono T1.out.size))
  clear hb2
  go_wp2_with fail
  go_ret
  exact ⟨rfl,TH.out⟩
 have ths0:decide (sc<0)=false:=decide_eq_false (by omega)
 by_cases hs1:1<sc
 ·
  have ths1:decide ((1:Int)<sc)=true:=decide_eq_true (by omega)
  clear hs1
  go_wp2_with fail
  refine (CH.out w1 T1.out).mono ?_
  rintro e wh ⟨rfl,hb2⟩
  have TH:=hid (T1.out.trans (hb2.mono T1.out.size))
  clear hb2
  go_wp2_with fail
  go_ret
  exact ⟨rfl,TH.out⟩
 have ths1:decide ((1:Int)<sc)=false:=decide_eq_false (by omega)
 have HNP:Hid (np≤200):=Nat.le_of_not_lt hnp
 have HNQ:Hid (nq≤200):=Nat.le_of_not_lt hnq
 have HD:Hid (n≤20∧∀ x∈l,x.dat.length≤5000):=⟨(HRR.out rfl).1,fun x hx=>Nat.le_trans ((HRR.out rfl).2 x hx) (by decide)⟩
 have D1:Hid (Below w1.heap.size w1 (w1.alloc (.cells #[.int .u64 1] 22))):=(Below.refl _ _).alloc (Nat.le_refl _) _
 have RE1b:=hid (row_on RE1.out D1.out (row_lt RE1.out))
 have RA1b:=hid (row_on RA1.out D1.out (row_lt RA1.out))
 have e0:=cell_row RE1b.out 0 rfl
 have e1:=cell_row RE1b.out 1 rfl
 have e2:=cell_row RE1b.out 2 rfl
 have e3:=cell_row RE1b.out 3 rfl
 have N1:Hid (RdN (w1.alloc (.cells #[.int .u64 1] 22)) (w1.heap.size+1) (some ⟨w1.heap.size,0,none⟩) 1 [1]):=rdN_lit1 w1 1 22
 have Z1:Hid ((w1.alloc (.cells #[.int .u64 1] 22)).heap.size=w1.heap.size+1):=by show _=_;simp
 clear hnp hnq hs0 hs1 HRR
 go_wp2_with (first
  | (refine wpList_ld18 rfl (.tmp 5) rfl _ rfl _ _ RA1.out rfl ?_)
  | fail)
 generalize w1.alloc (.cells #[.int .u64 1] 22)=w2 at *
 have T2:=hid (T1.out.trans (D1.out.mono T1.out.size))
 clear D1 e0 e1 e2 e3 RA1 RE1 thnp thnq ths0 ths1
 refine (CS.out HD.out.2 HNP.out w2 T2.out _ (N1.out.more (Nat.le_of_eq Z1.out.symm))).mono ?_
 rintro e w3 ⟨hb,⟨-,z,hz,rfl⟩|⟨hok,A3,n3,c3,rfl,hr3,hc3⟩⟩
 case inl =>
  have tz:(z != 0)=true:=by simp [hz]
  have T3:=hid (T2.out.trans (hb.mono T2.out.size))
  clear hb hz
  go_wp2_with (first
   | (refine wpList_st18 rfl 28 (.tmp 11) (.tmp 49) rfl _ rfl rfl _ _ (heap_alloc_new w3 _) info_bun rfl rfl ?_;intro w4 hrow4 _ _ hbel hsz4;have T4:=hid (hbel _ _ (T3.out.alloc T3.out.size _) T3.out.size);clear hbel hrow4 hsz4)
   | fail)
  refine (CH.out w4 T4.out).mono ?_
  rintro e wh ⟨rfl,hb2⟩
  have TH:=hid (T4.out.trans (hb2.mono T4.out.size))
  clear hb2
  go_wp2_with fail
  go_ret
  exact ⟨rfl,TH.out⟩
 have T3:=hid (T2.out.trans (hb.mono T2.out.size))
 have RA3:=hid (row_on RA1b.out hb (row_lt RA1b.out))
 have RE3:=hid (row_on RE1b.out hb (row_lt RE1b.out))
 have R3:=hid hr3
 have HC3:=hid hc3
 have HOK:=hid hok
 clear hb hr3 hc3 hok RA1b RE1b T1 T2 N1 Z1 CS
 go_wp2_with (first
  | (refine wpList_st18 rfl 28 (.tmp 11) (.tmp 49) rfl _ rfl rfl _ _ (heap_alloc_new w3 _) info_bun rfl rfl ?_;intro w4 hrow4 _ _ hbel hsz4;have T4:=hid (hbel _ _ (T3.out.alloc T3.out.size _) T3.out.size);have D4:=hid (hbel _ _ ((Below.refl w3.heap.size w3).alloc (Nat.le_refl _) _) (Nat.le_refl _));have RX4:=hid hrow4;have RA4:=hid (row_on RA3.out D4.out (row_lt RA3.out));have RE4:=hid (row_on RE3.out D4.out (row_lt RE3.out));have R4:=hid ((R3.out.below D4.out).more D4.out.size);have D5:Hid (Below w4.heap.size w4 (w4.alloc (.cells #[.int .u64 1] 22))):=(Below.refl _ _).alloc (Nat.le_refl _) _;have RE5:=hid (row_on RE4.out D5.out (row_lt RE4.out));have e0:=cell_row RE5.out 0 rfl;have e1:=cell_row RE5.out 1 rfl;have e2:=cell_row RE5.out 2 rfl;have e3:=cell_row RE5.out 3 rfl;clear hbel hrow4 hsz4)
  | (refine wpList_ld18 rfl (.tmp 11) rfl _ rfl _ _ RX4.out rfl ?_)
  | fail)
 have N5:Hid (RdN (w4.alloc (.cells #[.int .u64 1] 22)) (w4.heap.size+1) (some ⟨w4.heap.size,0,none⟩) 1 [1]):=rdN_lit1 w4 1 22
 have Z5:Hid ((w4.alloc (.cells #[.int .u64 1] 22)).heap.size=w4.heap.size+1):=by show _=_;simp
 generalize w4.alloc (.cells #[.int .u64 1] 22)=w5 at *
 have T5:=hid (T4.out.trans (D5.out.mono T4.out.size))
 have RX5:=hid (row_on RX4.out D5.out (row_lt RX4.out))
 have RA5:=hid (row_on RA4.out D5.out (row_lt RA4.out))
 have R5:=hid ((R4.out.below D5.out).more D5.out.size)
 have HD1:Hid (∀ x∈l1,x.dat.length≤5000):=by rw [HL1.out];exact HOK.out.dat HD.out.2
 clear e0 e1 e2 e3 RX4 RA4 RE4 RE5 R4 D4 D5 RA3 RE3 R3 T3 T4
 refine (CS2.out A3 n3 c3 HC3.out HD1.out HNQ.out w5 T5.out R5.out _ (N5.out.more (Nat.le_of_eq Z5.out.symm))).mono ?_
 rintro e w6 ⟨hb,⟨hno,z,hz,rfl⟩|⟨hok2,A6,n6,c6,rfl,hr6,hc6⟩⟩
 case inl =>
  have tz:(z != 0)=true:=by simp [hz]
  have T6:=hid (T5.out.trans (hb.mono T5.out.size))
  have RX6:=hid (row_on RX5.out hb (row_lt RX5.out))
  have RA6:=hid (row_on RA5.out hb (row_lt RA5.out))
  have hor:n3=16∨0≤plc (pNum 101) l 0:=by
   have h1:=two_no HOK.out (by rw [← HL1.out];exact hno)
   rw [← HL1.out,R5.out.1] at h1
   exact h1
  have HOR:=hid hor
  clear hb hz hno hor RX5 RA5 R5 N5 Z5
  by_cases h16:n3=16
  ·
   have t16:((n3:Int)==16)=true:=by rw [h16];rfl
   clear h16
   go_wp2_with (first
    | (refine wpList_st18 rfl 28 (.tmp 13) (.tmp 61) rfl _ rfl rfl _ _ (heap_alloc_new w6 _) info_bun rfl rfl ?_;intro w7 hrow7 _ _ hbel hsz7;have T7:=hid (hbel _ _ (T6.out.alloc T6.out.size _) T6.out.size);have D7:=hid (hbel _ _ ((Below.refl w6.heap.size w6).alloc (Nat.le_refl _) _) (Nat.le_refl _));have RX7:=hid (row_on RX6.out D7.out (row_lt RX6.out));have q17:=cell_row RX7.out 17 rfl;clear hbel hrow7 hsz7)
    | fail)
   refine (CH.out w7 T7.out).mono ?_
   rintro e wh ⟨rfl,hb2⟩
   have TH:=hid (T7.out.trans (hb2.mono T7.out.size))
   clear hb2
   go_wp2_with fail
   go_ret
   exact ⟨rfl,TH.out⟩
  ·
   have t16:((n3:Int)==16)=false:=by rw [beq_eq_false_iff_ne];omega
   have HP:Hid (0≤plc (pNum 101) l 0):=HOR.out.resolve_left h16
   obtain ⟨F,hF⟩:∃ F,F=plc (pNum 101) l 0:=⟨_,rfl⟩
   rw [← hF] at HP CFI
   have tF:decide (0≤F)=true:=decide_eq_true HP.out
   clear h16 hF
   go_wp2_with (first
    | (refine wpList_st18 rfl 28 (.tmp 13) (.tmp 61) rfl _ rfl rfl _ _ (heap_alloc_new w6 _) info_bun rfl rfl ?_;intro w7 hrow7 _ _ hbel hsz7;have T7:=hid (hbel _ _ (T6.out.alloc T6.out.size _) T6.out.size);have D7:=hid (hbel _ _ ((Below.refl w6.heap.size w6).alloc (Nat.le_refl _) _) (Nat.le_refl _));have RX7:=hid (row_on RX6.out D7.out (row_lt RX6.out));have RA7:=hid (row_on RA6.out D7.out (row_lt RA6.out));have q17:=cell_row RX7.out 17 rfl;clear hbel hrow7 hsz7)
    | (refine wpList_ld18G (by rfl) (.tmp 5) rfl _ rfl _ _ RA7.out rfl ?_)
    | fail)
   refine (CFI.out w7 T7.out).mono ?_
   rintro e w8 ⟨rfl,hb⟩
   have T8:=hid (T7.out.trans (hb.mono T7.out.size))
   clear hb
   go_wp2_with fail
   refine (CH.out w8 T8.out).mono ?_
   rintro e wh ⟨rfl,hb2⟩
   have TH:=hid (T8.out.trans (hb2.mono T8.out.size))
   clear hb2
   go_wp2_with fail
   go_ret
   exact ⟨rfl,TH.out⟩
 have T6:=hid (T5.out.trans (hb.mono T5.out.size))
 have R6:=hid hr6
 have HC6:=hid hc6
 have hok2':Ok1 h (nx1 h l 100 sc (ep ec s nd sv) kp) 101 sc (ep ec s nd sv) kq:=by rw [← HL1.out];exact hok2
 have hl2':l2=nx1 h (nx1 h l 100 sc (ep ec s nd sv) kp) 101 sc (ep ec s nd sv) kq:=by rw [← HL1.out];exact HL2.out
 have HD2:Hid (∀ x∈l2,x.dat.length≤5000):=by rw [HL2.out];exact hok2.dat HD1.out
 have HZ2:Hid (cauU (h.bun l2)=0):=by rw [HL2.out];exact hok2.2.2.2
 have HVP:Hid (vrB (h.bun l2) 100 kp=(some (x1 (h.bun l) 100 sc (ep ec s nd sv) kp),0)):=by rw [hl2'];exact two_v HOK.out hok2'
 have HVQ:Hid (vrB (h.bun l2) 101 kq=(some (x1 (h.bun l1) 101 sc (ep ec s nd sv) kq),0)):=by rw [HL2.out];exact hok2.v
 have HCV:Hid (covB 1 l2=covB 1 l++[100,101]):=by rw [hl2'];exact two_cov HOK.out hok2'
 have HN6:Hid (n6≤1000):=by
  have h1:=hok2.len.2
  rw [← HL2.out,hr6.1] at h1
  exact Nat.le_trans h1 (by decide)
 have HNL:Hid (l.length≤20):=by
  have h1:=HOK.out.len
  exact Nat.le_trans (Nat.le_of_succ_le (Nat.le_of_eq h1.1)) (Nat.le_trans h1.2 (by decide))
 clear hb hr6 hc6 hok2 hok2' hl2' RX5 RA5 R5 N5 Z5 CS2 CFI HC3 HD1
 go_wp2_with (first
  | (refine wpList_st18 rfl 28 (.tmp 13) (.tmp 61) rfl _ rfl rfl _ _ (heap_alloc_new w6 _) info_bun rfl rfl ?_;intro w7 hrow7 _ _ hbel hsz7;have T7:=hid (hbel _ _ (T6.out.alloc T6.out.size _) T6.out.size);have D7:=hid (hbel _ _ ((Below.refl w6.heap.size w6).alloc (Nat.le_refl _) _) (Nat.le_refl _));have RY7:=hid hrow7;have R7:=hid ((R6.out.below D7.out).more D7.out.size);clear hbel hrow7 hsz7)
  | (refine wpList_ld18 rfl (.tmp 13) rfl _ rfl _ _ RY7.out rfl ?_)
  | fail)
 refine (CVP.out A6 n6 c6 HC6.out HD2.out HNP.out _ HVP.out w7 T7.out R7.out).mono ?_
 rintro e w8 ⟨hb,A8,n8,c8,sc8,s8,nd8,sv8,so8,At8,nt8,ct8,rfl,-⟩
 have T8:=hid (T7.out.trans (hb.mono T7.out.size))
 have RY8:=hid (row_on RY7.out hb (row_lt RY7.out))
 have R8:=hid ((R7.out.below hb).more hb.size)
 clear hb T6 R6 T7 D7 RY7 R7 CVP
 go_wp2_with (first
  | (refine wpList_st7 rfl 39 (.tmp 15) (.tmp 81) rfl _ _ _ _ _ _ _ _ rfl rfl _ _ (heap_alloc_new w8 _) info_bib rfl rfl ?_;intro w9 hst;have T9:=hid (hst.2.1 _ _ (T8.out.alloc T8.out.size _) T8.out.size);have D9:=hid (hst.2.1 _ _ ((Below.refl w8.heap.size w8).alloc (Nat.le_refl _) _) (Nat.le_refl _));have RY9:=hid (row_on RY8.out D9.out (row_lt RY8.out));have R9:=hid ((R8.out.below D9.out).more D9.out.size);clear hst)
  | (refine wpList_ld18 rfl (.tmp 13) rfl _ rfl _ _ RY9.out rfl ?_)
  | fail)
 refine (CVQ.out A6 n6 c6 HC6.out HD2.out HNQ.out _ HVQ.out w9 T9.out R9.out).mono ?_
 rintro e w10 ⟨hb,A10,n10,c10,sc10,s10,nd10,sv10,so10,At10,nt10,ct10,rfl,-⟩
 have T10:=hid (T9.out.trans (hb.mono T9.out.size))
 have RY10:=hid (row_on RY9.out hb (row_lt RY9.out))
 have R10:=hid ((R9.out.below hb).more hb.size)
 clear hb T8 RY8 R8 T9 D9 RY9 R9 CVQ
 go_wp2_with (first
  | (refine wpList_st7 rfl 39 (.tmp 17) (.tmp 87) rfl _ _ _ _ _ _ _ _ rfl rfl _ _ (heap_alloc_new w10 _) info_bib rfl rfl ?_;intro w11 hst;have T11:=hid (hst.2.1 _ _ (T10.out.alloc T10.out.size _) T10.out.size);have D11:=hid (hst.2.1 _ _ ((Below.refl w10.heap.size w10).alloc (Nat.le_refl _) _) (Nat.le_refl _));have RY11:=hid (row_on RY10.out D11.out (row_lt RY10.out));have R11:=hid ((R10.out.below D11.out).more D11.out.size);clear hst)
  | (refine wpList_ld18 rfl (.tmp 13) rfl _ rfl _ _ RY11.out rfl ?_)
  | fail)
 refine (CC.out A6 n6 c6 HC6.out HN6.out _ HZ2.out HCV.out w11 T11.out R11.out).mono ?_
 have hml:=cov_len 1 l
 generalize (covB 1 l).length=m at *
 rintro e w12 ⟨hb,b,o,c12,rfl,k0,k1⟩
 have T12:=hid (T11.out.trans (hb.mono T11.out.size))
 have hm20:m≤20:=Nat.le_trans hml HNL.out
 obtain ⟨N,hN⟩:∃ N,N=m+2:=⟨_,rfl⟩
 obtain ⟨m1,hm1⟩:∃ m1,m1=m+1:=⟨_,rfl⟩
 rw [← hN]
 rw [← hm1] at k1
 have t2:decide ((2:Int)≤(N:Int))=true:=decide_eq_true (by omega)
 have u2:wrap64 ((N:Int) - 2)=(m:Int):=by unfold wrap64;omega
 have u1:wrap64 ((N:Int) - 1)=(m1:Int):=by unfold wrap64;omega
 have i0:(0:Int)≤(m:Int):=by omega
 have i1:(m:Int)<(N:Int):=by omega
 have j0:(0:Int)≤(m1:Int):=by omega
 have j1:(m1:Int)<(N:Int):=by omega
 clear hb hml hm20 hN hm1 T10 RY10 R10 T11 D11 RY11 R11 CC HCV
 go_wp2_with fail
 refine (CH.out w12 T12.out).mono ?_
 rintro e wh ⟨rfl,hb2⟩
 have TH:=hid (T12.out.trans (hb2.mono T12.out.size))
 clear hb2
 go_wp2_with fail
 go_ret
 exact ⟨rfl,TH.out⟩
end Go.Proofs.YteckeagobafoiaaGreatDoor
