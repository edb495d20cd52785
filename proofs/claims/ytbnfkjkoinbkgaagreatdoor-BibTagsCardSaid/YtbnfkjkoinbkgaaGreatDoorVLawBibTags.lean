/- BibTags of layer 10's statements, walked. (Made by gen/BihW3.py.) -/
import Derived.Test.YtbnfkjkoinbkgaaGreatDoorVAbb
import Derived.Test.YtbnfkjkoinbkgaaGreatDoorVBibS
import Derived.Test.YtbnfkjkoinbkgaaGreatDoorVBihH
import Derived.Test.YtbnfkjkoinbkgaaGreatDoorVBihT
import Derived.Test.YtbnfkjkoinbkgaaGreatDoorVCfBibTags
import Derived.Test.YtbnfkjkoinbkgaaGreatDoorVIpN
import Derived.Test.YtbnfkjkoinbkgaaGreatDoorVIpR
import Derived.Test.YtbnfkjkoinbkgaaGreatDoorVRfW
import Derived.Lib.SmallJoins
import Derived.ChangeArms
import Derived.WalkKit
import Derived.ProofKit
import Derived.OpenShut
import Derived.ShutString
import Derived.ChangeOld
import Derived.Below
import Derived.SizedLaws
import Derived.Deep.DeepHandedRow
namespace Go.Proofs.YtbnfkjkoinbkgaaGreatDoor
set_option maxRecDepth 100000
set_option maxHeartbeats 16000000
open Go.RowKit
open Go.Lib (hid)
theorem Qnj(h:BH)(l:List Blk)(A:OA)(n c:Nat)(a1:Int)(Ak:OA)(nk ck:Nat)(k:LB)(w:World)(S:Snt)(T:Snb)
  (hin:Q3f w h l A n c) (h1:(Lit.int .u64 a1).wf=true) (hk:Rd w w.heap.size Ak nk k∧nk≤ck∧ck≤140737488351232) (hS:Wd S w) (hT:Ldb T w) :
  Calls Tryz.prog 3 #[Qbl h A n c,.int .u64 a1,.slice Ak nk ck] w fun e w'=>e=.returned (.bool true)∧Below w.heap.size w w':=by
 obtain⟨q,hq,rfl⟩:∃ q:Nat,q<18446744073709551616∧a1=(q:Int):=⟨a1.toNat,by have h:=wfU h1;omega,by have h:=wfU h1;omega⟩
 obtain⟨hBd,hr,hc⟩:=hin;obtain⟨rk,hk1,hk2⟩:=hk;have HB0:Hid (Below w.heap.size w (w.alloc (hbx h h.crc A n c))):=zb;have QA:Hid ((w.alloc (hbx h h.crc A n c)).heap[w.heap.size]?=some (.cells #[.int .u64 (h.flg:Int),.int .i64 h.crc,.int .i64 h.dsc,.string h.dnm,.int .u64 (h.dn:Int),.int .u64 (h.dv:Int),.int .i64 h.ssc,.string h.snm,.int .u64 (h.sn:Int),.int .u64 (h.sv:Int),.int .i64 h.rsc,.string h.rnm,.int .u64 (h.rn:Int),.int .u64 (h.rv:Int),.int .u64 (h.tim:Int),.int .u64 (h.seq:Int),.int .u64 (h.lif:Int),.slice A n c] 28 (0,0))):=Qad (w:=w) rfl (Below.refl _ _);have HSW:=hid (fun (W:World) (hb:Below w.heap.size w W)=>And.intro (hS.below hb zr) (hT.below hb zr))
 have CH:=hid (fun (W:World) (hb:Below w.heap.size w W)=>Qo0 S T W (HSW.out W hb).1 (HSW.out W hb).2);have CF:=hid (fun (W:World) (hb:Below w.heap.size w W)=>Qvt h l A n c W.heap.size W ((hr.below hb).more hb.size) zr);have CV:=hid (fun (hdat:∀ x∈l,x.dat.length≤5000) (h200:nk≤200) (W:World) (hb:Below w.heap.size w W) =>
  Qd4 S T h l A n c W.heap.size q Ak nk ck k W (HSW.out W hb).1 (HSW.out W hb).2 hBd ((hr.below hb).more hb.size) zr hc ((rk.below hb).more hb.size) ⟨hk1,by omega,by omega⟩ hdat)
 have CU:=hid (fun (W:World) (hb:Below w.heap.size w W)=>Qjx h l A n c W.heap.size q W ((hr.below hb).more hb.size) zr);have CP:=hid (fun (hdat:∀ x∈l,x.dat.length≤5000) (t:Nat) (sc:Int) (fl:Nat) (hfl:fl<18446744073709551616) (W:World) (hb:Below w.heap.size w W) =>
  Qn7 h l A n c W.heap.size t sc 11 q fl W hBd ((hr.below hb).more hb.size) zr ⟨by decide,hq,hfl⟩ hdat)
 have CT:=hid (fun (h200:nk≤200) (Ap:OA) (np cp:Nat) (t:LB) (hnp:np≤6000) (W:World) (hb:Below w.heap.size w W) (hp:Rd W W.heap.size Ap np t) =>
  Qxe Ak Ap nk ck np cp W.heap.size W.heap.size k t W ((rk.below hb).more hb.size) zr hp zr (by omega) (by omega))
 have RLW:=hid (fun (W:World) (hb:Below w.heap.size w W)=>hr.below hb);have HNL:Hid (l.length=n):=hr.1;clear hBd hr hc rk hk1 hk2 hq hS hT h1;unfold Qbl at *;go_enter Tryz.func3,Tryz.ntmps3;go_wp2_with (first
  | (refine Qae rfl (.tmp 3) rfl _ rfl _ _ QA.out rfl ?_)
  | fail)
 generalize hw0:w.alloc (hbx h h.crc A n c)=w0 at *;obtain⟨gA,hgA⟩:∃ gA,gA=w.heap.size:=⟨_,rfl⟩
 have QB:Hid (w0.heap[gA]?=some (.cells #[.int .u64 (h.flg:Int),.int .i64 h.crc,.int .i64 h.dsc,.string h.dnm,.int .u64 (h.dn:Int),.int .u64 (h.dv:Int),.int .i64 h.ssc,.string h.snm,.int .u64 (h.sn:Int),.int .u64 (h.sv:Int),.int .i64 h.rsc,.string h.rnm,.int .u64 (h.rn:Int),.int .u64 (h.rv:Int),.int .u64 (h.tim:Int),.int .u64 (h.seq:Int),.int .u64 (h.lif:Int),.slice A n c] 28 (0,0))):=by rw[hgA];exact QA.out
 clear QA hw0;rw[← hgA]
 clear hgA;refine(CF.out _ HB0.out).mono ?_;rintro e w1 ⟨R,rfl,hR,hb⟩;have T1:=hid (HB0.out.trans (hb.mono HB0.out.size));have RA1:=hid (Qar QB.out hb (Qaf QB.out));have HRR:=hid hR;clear hb hR QB HB0;cases R with
 | false =>
  go_wp2_with fail;refine(CH.out w1 T1.out).mono ?_;rintro e wh ⟨rfl,hb2⟩;have TH:=hid (T1.out.trans (hb2.mono T1.out.size));clear hb2;go_wp2_with fail;go_ret;exact⟨rfl,TH.out⟩
 | true =>
 by_cases hnk:200<nk
 ·
  have thnk:decide ((200:Int)<(nk:Int))=true:=decide_eq_true (by omega);clear hnk;go_wp2_with fail;refine(CH.out w1 T1.out).mono ?_;rintro e wh ⟨rfl,hb2⟩;have TH:=hid (T1.out.trans (hb2.mono T1.out.size));clear hb2;go_wp2_with fail;go_ret;exact⟨rfl,TH.out⟩
 have thnk:decide ((200:Int)<(nk:Int))=false:=decide_eq_false (by omega);have HNK:Hid (nk≤200):=Nat.le_of_not_lt hnk;have HD:Hid (n≤20∧∀ x∈l,x.dat.length≤5000):=⟨(HRR.out rfl).1,fun x hx=>Nat.le_trans ((HRR.out rfl).2 x hx) (by decide)⟩
 clear hnk HRR;go_wp2_with (first
  | (refine Qae rfl (.tmp 3) rfl _ rfl _ _ RA1.out rfl ?_)
  | fail)
 refine(CV.out HD.out.2 HNK.out w1 T1.out).mono ?_;rintro e w3 ⟨hb,⟨X,v,hx,rfl,hrx⟩|⟨hx,rfl⟩⟩
 case inr =>
  have hz:=Qzt hx;generalize (vrB (h.bun l) q k).2=z at *;have tz:(z != 0)=true:=by simp[hz]
  have T3:=hid (T1.out.trans (hb.mono T1.out.size));clear hb hz hx;unfold Qq0;go_wp2_with (first
   | (refine Qa2 rfl 35 (.tmp 7) (.tmp 27) rfl _ _ _ _ _ _ _ _ rfl rfl _ _ (heap_alloc_new w3 _) Qa8 rfl rfl ?_;intro w4 hst;have T4:=hid (hst.2.1 _ _ (T3.out.alloc T3.out.size _) T3.out.size);have q0:=Qab hst.1 0 rfl;clear hst)
   | fail)
  refine(CH.out w4 T4.out).mono ?_;rintro e wh ⟨rfl,hb2⟩;have TH:=hid (T4.out.trans (hb2.mono T4.out.size));clear hb2;go_wp2_with fail;go_ret;exact⟨rfl,TH.out⟩
 have hrx2:=hrx.unmask;clear hrx;obtain⟨A3,n3,c3,sc,s,nd,sv,At,nt,ct,rfl,hn3,hnt,hN,h64,hTg,hsrc,hbd⟩:=hrx2;obtain⟨hRgt,j,hj,hpl,htg⟩:=Qz1 hx;have HL3:Hid (X.tgs.length=n3):=hN.1;obtain rfl:n3=nt:=by have h1:=hN.1;have h2:=hTg.1;have h3:=hRgt.tl;omega
 have HX:=hid hx;have H1:Hid (1≤n3∧n3≤15):=⟨by have:=hRgt.l1;have:=HL3.out;omega,by have:=hRgt.l15;have:=HL3.out;omega⟩
 have HTG:=hid htg;have hjn:j<n:=by rw[← HNL.out];exact hj
 obtain⟨y,hy⟩:∃ y,y=l[j]'hj:=⟨_,rfl⟩
 rw[← hy] at HTG
 have HY:=hid hy;have HPL:=hid hpl;have HJ:=hid hjn;have T3:=hid (T1.out.trans (hb.mono T1.out.size));have RA3:=hid (Qar RA1.out hb (Qaf RA1.out));have N3:=hid hN;have G3:=hid hTg;clear hx hRgt hpl htg hjn hy hb hN hTg hsrc hbd h64 hn3 hnt RA1 T1 thnk CV CF;unfold Qlh;go_wp2_with (first
  | (refine Qa2 rfl 35 (.tmp 7) (.tmp 27) rfl _ _ _ _ _ _ _ _ rfl rfl _ _ (heap_alloc_new w3 _) Qa8 rfl rfl ?_;intro w4 hst;have T4:=hid (hst.2.1 _ _ (T3.out.alloc T3.out.size _) T3.out.size);have D4:=hid (hst.2.1 _ _ ((Below.refl w3.heap.size w3).alloc zr _) zr);have RA4:=hid (Qar RA3.out D4.out (Qaf RA3.out));have N4:=hid ((N3.out.below D4.out).more D4.out.size);have G4:=hid ((G3.out.below D4.out).more D4.out.size);have RB4:=hid hst.1;clear hst)
  | (refine Qae rfl (.tmp 3) rfl _ rfl _ _ RA4.out rfl ?_)
  | fail)
 refine(CU.out w4 T4.out).mono ?_;rintro e w5 ⟨rfl,hb⟩;rw[HPL.out]
 obtain⟨gx,hgx⟩:∃ gx,gx=w3.heap.size:=⟨_,rfl⟩
 rw[← hgx] at RB4
 rw[← hgx]
 have T5:=hid (T4.out.trans (hb.mono T4.out.size));have RA5:=hid (Qar RA4.out hb (Qaf RA4.out));have RB5:=hid (Qar RB4.out hb (Qaf RB4.out));have N5:=hid ((N4.out.below hb).more hb.size);have G5:=hid ((G4.out.below hb).more hb.size);have b0:=Qab RB5.out 0 rfl;have b6:=Qab RB5.out 6 rfl;have tj:decide ((j:Int)<0)=false:=decide_eq_false (by omega);have t1:decide ((n3:Int)<1)=false:=decide_eq_false (by have:=H1.out;omega);clear hb hgx RA4 RB4 N4 G4 D4 T4 T3 RA3 N3 G3 CU;go_wp2_with fail;go_loopw [6,10,11,12] (fun r i u v wr=>∃ m:Nat,m≤n3∧i=.int .i64 (m:Int)∧Hid (Below w.heap.size w wr)∧Hid (wr.heap[gA]?=some (.cells #[.int .u64 (h.flg:Int),.int .i64 h.crc,.int .i64 h.dsc,.string h.dnm,.int .u64 (h.dn:Int),.int .u64 (h.dv:Int),.int .i64 h.ssc,.string h.snm,.int .u64 (h.sn:Int),.int .u64 (h.sv:Int),.int .i64 h.rsc,.string h.rnm,.int .u64 (h.rn:Int),.int .u64 (h.rv:Int),.int .u64 (h.tim:Int),.int .u64 (h.seq:Int),.int .u64 (h.lif:Int),.slice A n c] 28 (0,0)))∧Hid (wr.heap[gx]?=some (.cells #[.slice A3 n3 c3,.int .i64 sc,.string s,.int .u64 (nd:Int),.int .u64 (sv:Int),.int .i64 X.sco,.slice At n3 ct] 35 (0,0)))∧Hid (RdN wr wr.heap.size A3 n3 X.tgs)∧Hid (RdT wr wr.heap.size At n3 X.tag)) (fun _ i _ _ _=>n3 - (intOf i).toNat)
 case atStart=>exact⟨0,Nat.zero_le _,rfl,T5,RA5,RB5,N5,G5⟩
 case round =>
  obtain⟨m,hm,rfl,TW,RAW,RBW,NW,GW⟩:=hrel;clear b0 b6 T5 RA5 RB5 N5 G5;have b0:=Qab RBW.out 0 rfl;by_cases hlt:m<n3
  ·
   have hii:decide ((m:Int)<(n3:Int))=true:=decide_eq_true (by omega);obtain⟨b3,o3,rfl,hb3,hc3⟩:=NW.out.get m hlt;obtain⟨t,ht⟩:∃ t,t=X.tgs.getD m 0:=⟨_,rfl⟩
   rw[← ht] at hc3
   obtain⟨bl,ol,rfl,hbl,hks⟩:=(RLW.out wr TW.out).2.1 (by have:=HJ.out;omega);obtain⟨Ab,nb,cb,hkc⟩:=hks.get j (by rw[HNL.out];exact HJ.out);have hfl:=hkc.k2;have hfb:=hkc.bd.2.2;rw[← HY.out] at hfl hfb
   have HFB:=hid hfb;obtain⟨htz,htt⟩:=HTG.out m (by rw[HL3.out];exact hlt);rw[← ht] at htz htt
   have HTZ:=hid htz;have HTT:=hid htt;have C3:=hid hc3;have C4:=hid hfl;have m0:(0:Int)≤(m:Int):=by omega
   have m1:(m:Int)<(n3:Int):=by omega
   have j0:(0:Int)≤(j:Int):=by omega
   have j1:(j:Int)<(n:Int):=by have:=HJ.out;omega
   clear hc3 hfl hfb ht hks hkc htz htt hb3 hbl;go_wp2_with fail;try simp only[zs]
   refine wp_region_held_drew (S:=fun W=>W.heap[gA]?=some (.cells #[.int .u64 (h.flg:Int),.int .i64 h.crc,.int .i64 h.dsc,.string h.dnm,.int .u64 (h.dn:Int),.int .u64 (h.dv:Int),.int .i64 h.ssc,.string h.snm,.int .u64 (h.sn:Int),.int .u64 (h.sv:Int),.int .i64 h.rsc,.string h.rnm,.int .u64 (h.rn:Int),.int .u64 (h.rv:Int),.int .u64 (h.tim:Int),.int .u64 (h.seq:Int),.int .u64 (h.lif:Int),.slice (some ⟨bl,ol,none⟩) n c] 28 (0,0))∧W.heap[gx]?=some (.cells #[.slice (some ⟨b3,o3,none⟩) n3 c3,.int .i64 sc,.string s,.int .u64 (nd:Int),.int .u64 (sv:Int),.int .i64 X.sco,.slice At n3 ct] 35 (0,0))∧W.cell? ⟨b3,o3+m,none⟩=some (.int .u64 (t:Int))∧W.cell? ⟨bl,ol+j*5+2,none⟩=some (.int .u64 (y.flg:Int))) (by kernel_rfl) ⟨RAW.out,RBW.out,C3.out,C4.out⟩ (fun hHeld=>?_)
   refine Qao (i:=0) rfl (by kernel_rfl) (by kernel_rfl) (by kernel_rfl) (fun _ _ _ h=>h) (by rfl) (fun W hW=>Qf7 rfl rfl hW.1 rfl) (by assumption) ?_;try simp only[zs]
   refine Qao (i:=1) (v:=.pointer (some ⟨gx,0,none⟩)) rfl (by kernel_rfl) (by kernel_rfl) (by kernel_rfl) (fun _ _ _ h=>h) (by rfl) (by intro W hSw;go_simp) (by assumption) ?_;try simp only[zs]
   refine Qao (i:=2) (v:=.slice (some ⟨b3,o3,none⟩) n3 c3) rfl (by kernel_rfl) (by kernel_rfl) (by kernel_rfl) (fun _ _ _ h=>h) (by rfl) (by intro W hSw;have hc0:=Qab hSw.2.1 0 rfl;go_simp) (by assumption) ?_;try simp only[zs]
   refine Qao (i:=3) (v:=.int .i64 (m:Int)) rfl (by kernel_rfl) (by kernel_rfl) (by kernel_rfl) (fun _ _ _ h=>h) (by rfl) (by intro W hSw;go_simp) (by assumption) ?_;try simp only[zs]
   refine Qao (i:=4) (v:=.pointer (some ⟨b3,o3+m,none⟩)) rfl (by kernel_rfl) (by kernel_rfl) (by kernel_rfl) (fun _ _ _ h=>h) (by rfl) (by intro W hSw;go_simp) (by assumption) ?_;try simp only[zs]
   refine Qao (i:=5) (v:=.int .u64 (t:Int)) rfl (by kernel_rfl) (by kernel_rfl) (by kernel_rfl) (fun _ _ _ h=>h) (by rfl) (by intro W hSw;have hc2:=hSw.2.2.1;go_simp) (by assumption) ?_;try simp only[zs]
   refine Qao (i:=6) (v:=.pointer (some ⟨gx,5,none⟩)) rfl (by kernel_rfl) (by kernel_rfl) (by kernel_rfl) (fun _ _ _ h=>h) (by rfl) (by intro W hSw;go_simp) (by assumption) ?_;try simp only[zs]
   refine Qao (i:=7) (v:=.int .i64 X.sco) rfl (by kernel_rfl) (by kernel_rfl) (by kernel_rfl) (fun _ _ _ h=>h) (by rfl) (by intro W hSw;have hc0:=Qab hSw.2.1 5 rfl;go_simp) (by assumption) ?_;try simp only[zs]
   refine Qao (i:=8) (v:=.int .u64 (q:Int)) rfl (by kernel_rfl) (by kernel_rfl) (by kernel_rfl) (fun _ _ _ h=>h) (by rfl) (by intro W hSw;go_simp) (by assumption) ?_;try simp only[zs]
   refine Qao (i:=9) (v:=.pointer (some ⟨gA,17,none⟩)) rfl (by kernel_rfl) (by kernel_rfl) (by kernel_rfl) (fun _ _ _ h=>h) (by rfl) (by intro W hSw;go_simp) (by assumption) ?_;try simp only[zs]
   refine Qao (i:=10) (v:=.slice (some ⟨bl,ol,none⟩) n c) rfl (by kernel_rfl) (by kernel_rfl) (by kernel_rfl) (fun _ _ _ h=>h) (by rfl) (by intro W hSw;have hc0:=Qab hSw.1 17 rfl;go_simp) (by assumption) ?_;try simp only[zs]
   refine Qao (i:=11) (v:=.int .i64 (j:Int)) rfl (by kernel_rfl) (by kernel_rfl) (by kernel_rfl) (fun _ _ _ h=>h) (by rfl) (by intro W hSw;go_simp) (by assumption) ?_;try simp only[zs]
   refine Qao (i:=12) (v:=.pointer (some ⟨bl,ol+j*5,none⟩)) rfl (by kernel_rfl) (by kernel_rfl) (by kernel_rfl) (fun _ _ _ h=>h) (by rfl) (by intro W hSw;go_simp) (by assumption) ?_;try simp only[zs]
   refine Qao (i:=13) (v:=.pointer (some ⟨bl,ol+j*5+2,none⟩)) rfl (by kernel_rfl) (by kernel_rfl) (by kernel_rfl) (fun _ _ _ h=>h) (by rfl) (by intro W hSw;go_simp) (by assumption) ?_;try simp only[zs]
   refine Qao (i:=14) (v:=.int .u64 (y.flg:Int)) rfl (by kernel_rfl) (by kernel_rfl) (by kernel_rfl) (fun _ _ _ h=>h) (by rfl) (by intro W hSw;have hc2:=hSw.2.2.2;go_simp) (by assumption) ?_;try simp only[zs]
   have BT:Hid (Below wr.heap.size wr wr.drew):=Below.drew_;obtain⟨wc,hwc⟩:∃ wc,wc=wr.drew:=⟨_,rfl⟩
   rw[← hwc] at BT
   rw[← hwc]
   clear hwc hHeld;have TC:=hid (TW.out.trans (BT.out.mono TW.out.size));have RAC:=hid (Qar RAW.out BT.out (Qaf RAW.out));have RBC:=hid (Qar RBW.out BT.out (Qaf RBW.out));have NC:=hid ((NW.out.below BT.out).more BT.out.size);have GC:=hid ((GW.out.below BT.out).more BT.out.size);have CC3:=hid ((BT.out.cell (World.block_lt_of_cell? wr _ C3.out)).trans C3.out);have CC4:=hid ((BT.out.cell (World.block_lt_of_cell? wr _ C4.out)).trans C4.out);clear RAW RBW NW GW C3 C4 TW BT;refine wpAnyH_ready (rs:=[15]) (by kernel_rfl) (by simp) ?_;refine AllReadyH.cons rfl (fun K hK=>?_) AllReadyH.nil;rw[if_pos (by rfl)]
   go_simp
   refine(CP.out HD.out.2 t X.sco y.flg HFB.out wc TC.out).mono ?_;rintro e wd ⟨hb,Ap,np,cp,rfl,hcp,hrp⟩;rw[HTZ.out]
   have hln:=Qio (h.bun l) t X.sco 11 q y.flg HD.out.2;have HNP:Hid (np≤6000):=by show _≤_;rw[← hrp.1];exact hln
   have TD:=hid (TC.out.trans (hb.mono TC.out.size));have RAD:=hid (Qar RAC.out hb (Qaf RAC.out));have RBD:=hid (Qar RBC.out hb (Qaf RBC.out));have ND:=hid ((NC.out.below hb).more hb.size);have GD:=hid ((GC.out.below hb).more hb.size);have CD3:=hid ((hb.cell (World.block_lt_of_cell? wc _ CC3.out)).trans CC3.out);have CD4:=hid ((hb.cell (World.block_lt_of_cell? wc _ CC4.out)).trans CC4.out);have HRP:=hid hrp;clear hb hcp hrp hln RAC RBC NC GC CC3 CC4 TC;go_simp
   refine hK.out _ _ ⟨RAD.out,RBD.out,CD3.out,CD4.out⟩ (fun hHeld=>?_);try simp only[zs]
   clear hK K;refine Qao (i:=16) (v:=?v16_1) rfl (by kernel_rfl) (by kernel_rfl) (by kernel_rfl) (fun _ _ _ h=>h) (by rfl) ?hy16_1 (by assumption) ?rest16_1
   case hy16_1=>(intro W hSw;go_simp;try with_reducible rfl)
   try simp only[zs]
   refine Qao (i:=17) (v:=?v17_2) rfl (by kernel_rfl) (by kernel_rfl) (by kernel_rfl) (fun _ _ _ h=>h) (by rfl) ?hy17_2 (by assumption) ?rest17_2
   case hy17_2=>(intro W hSw;go_simp;try with_reducible rfl)
   try simp only[zs]
   refine Qao (i:=18) (v:=?v18_3) rfl (by kernel_rfl) (by kernel_rfl) (by kernel_rfl) (fun _ _ _ h=>h) (by rfl) ?hy18_3 (by assumption) ?rest18_3
   case hy18_3=>(intro W hSw;go_simp;try with_reducible rfl)
   try simp only[zs]
   refine Qao (i:=19) (v:=?v19_4) rfl (by kernel_rfl) (by kernel_rfl) (by kernel_rfl) (fun _ _ _ h=>h) (by rfl) ?hy19_4 (by assumption) ?rest19_4
   case hy19_4=>(intro W hSw;go_simp;try with_reducible rfl)
   try simp only[zs]
   refine Qao (i:=20) (v:=?v20_5) rfl (by kernel_rfl) (by kernel_rfl) (by kernel_rfl) (fun _ _ _ h=>h) (by rfl) ?hy20_5 (by assumption) ?rest20_5
   case hy20_5=>(intro W hSw;go_simp;try with_reducible rfl)
   try simp only[zs]
   refine wpAnyH_done (by kernel_rfl) ?_ _;clear hHeld CD3 CD4;obtain⟨bt,ot,At2,nt2,ct2,rfl,hbt,hct,hrt,-⟩:=GD.out.get m hlt;have C5:=hid hct;have HRT:=hid hrt;clear hct hrt hbt;go_wp2_with fail;try simp only[zs]
   refine wp_region_held_drew (S:=fun W=>W.heap[gx]?=some (.cells #[.slice (some ⟨b3,o3,none⟩) n3 c3,.int .i64 sc,.string s,.int .u64 (nd:Int),.int .u64 (sv:Int),.int .i64 X.sco,.slice (some ⟨bt,ot,none⟩) n3 ct] 35 (0,0))∧W.cell? ⟨bt,ot+m,none⟩=some (.slice At2 nt2 ct2)) (by kernel_rfl) ⟨RBD.out,C5.out⟩ (fun hHeld=>?_);refine Qao (i:=0) (v:=.int .i64 0) rfl (by kernel_rfl) (by kernel_rfl) (by kernel_rfl) (fun _ _ _ h=>h) (by rfl) (by intro W hSw;go_simp) (by assumption) ?_;try simp only[zs]
   refine Qao (i:=1) (v:=.bool false) rfl (by kernel_rfl) (by kernel_rfl) (by kernel_rfl) (fun _ _ _ h=>h) (by rfl) (by intro W hSw;go_simp) (by assumption) ?_;try simp only[zs]
   refine Qao (i:=2) (v:=.bool false) rfl (by kernel_rfl) (by kernel_rfl) (by kernel_rfl) (fun _ _ _ h=>h) (by rfl) (by intro W hSw;go_simp) (by assumption) ?_;try simp only[zs]
   refine Qao (i:=3) (v:=.pointer (some ⟨gx,6,none⟩)) rfl (by kernel_rfl) (by kernel_rfl) (by kernel_rfl) (fun _ _ _ h=>h) (by rfl) (by intro W hSw;go_simp) (by assumption) ?_;try simp only[zs]
   refine Qao (i:=4) (v:=.slice (some ⟨bt,ot,none⟩) n3 ct) rfl (by kernel_rfl) (by kernel_rfl) (by kernel_rfl) (fun _ _ _ h=>h) (by rfl) (by intro W hSw;have hc0:=Qab hSw.1 6 rfl;go_simp) (by assumption) ?_;try simp only[zs]
   refine Qao (i:=5) (v:=.int .i64 (m:Int)) rfl (by kernel_rfl) (by kernel_rfl) (by kernel_rfl) (fun _ _ _ h=>h) (by rfl) (by intro W hSw;go_simp) (by assumption) ?_;try simp only[zs]
   refine Qao (i:=6) (v:=.pointer (some ⟨bt,ot+m,none⟩)) rfl (by kernel_rfl) (by kernel_rfl) (by kernel_rfl) (fun _ _ _ h=>h) (by rfl) (by intro W hSw;go_simp) (by assumption) ?_;try simp only[zs]
   refine Qao (i:=7) (v:=.slice At2 nt2 ct2) rfl (by kernel_rfl) (by kernel_rfl) (by kernel_rfl) (fun _ _ _ h=>h) (by rfl) (by intro W hSw;have hc2:=hSw.2;go_simp) (by assumption) ?_;try simp only[zs]
   refine Qao (i:=8) (v:=.slice Ak nk ck) rfl (by kernel_rfl) (by kernel_rfl) (by kernel_rfl) (fun _ _ _ h=>h) (by rfl) (by intro W hSw;go_simp) (by assumption) ?_;try simp only[zs]
   refine Qao (i:=9) (v:=.slice Ap np cp) rfl (by kernel_rfl) (by kernel_rfl) (by kernel_rfl) (fun _ _ _ h=>h) (by rfl) (by intro W hSw;go_simp) (by assumption) ?_;try simp only[zs]
   have BT:Hid (Below wd.heap.size wd wd.drew):=Below.drew_;obtain⟨we,hwe⟩:∃ we,we=wd.drew:=⟨_,rfl⟩
   rw[← hwe] at BT
   rw[← hwe]
   clear hwe hHeld;have TE:=hid (TD.out.trans (BT.out.mono TD.out.size));have HRE:=hid ((HRP.out.below BT.out).more BT.out.size);refine wpAnyH_ready (rs:=[10]) (by kernel_rfl) (by simp) ?_;refine AllReadyH.cons rfl (fun K hK=>?_) AllReadyH.nil;rw[if_pos (by rfl)]
   go_simp
   refine(CT.out HNK.out Ap np cp _ HNP.out we TE.out HRE.out).mono ?_;rintro e wf ⟨v,rfl,ho,hb⟩;obtain⟨Ag,cg,rfl,hcg,-,hrg⟩:=ho.rdn (Qck _ _);have BF:=hid (BT.out.trans (hb.mono BT.out.size));have TF:=hid (TD.out.trans (BF.out.mono TD.out.size));have RAF:=hid (Qar RAD.out BF.out (Qaf RAD.out));have RBF:=hid (Qar RBD.out BF.out (Qaf RBD.out));have NF:=hid ((ND.out.below BF.out).more BF.out.size);have GF:=hid ((GD.out.below BF.out).more BF.out.size);have C6:=hid ((BF.out.cell (World.block_lt_of_cell? wd _ C5.out)).trans C5.out);have CS:=hid (Qto At2 Ag nt2 ct2 32 cg wf.heap.size wf.heap.size _ wf ((HRT.out.below BF.out).more BF.out.size) (by rw[HTT.out];exact hrg))
   clear ho hb hrg hcg BT RAD RBD ND GD TD TE HRE HRP;go_simp
   refine hK.out _ _ ⟨RBF.out,C6.out⟩ (fun hHeld=>?_);try simp only[zs]
   clear hK K;refine wpAnyH_ready (rs:=[11]) (by kernel_rfl) (by simp) ?_;refine AllReadyH.cons rfl (fun K hK=>?_) AllReadyH.nil;rw[if_pos (by rfl)]
   go_simp
   refine CS.out.mono ?_;rintro e wg ⟨rfl,rfl⟩;go_simp
   refine hK.out _ _ ⟨RBF.out,C6.out⟩ (fun hHeld=>?_);try simp only[zs]
   clear hK K;refine Qao (i:=12) (v:=.bool false) rfl (by kernel_rfl) (by kernel_rfl) (by kernel_rfl) (fun _ _ _ h=>h) (by rfl) (by intro W hSw;go_simp) (by assumption) ?_;try simp only[zs]
   refine Qao (i:=13) (v:=.bool false) rfl (by kernel_rfl) (by kernel_rfl) (by kernel_rfl) (fun _ _ _ h=>h) (by rfl) (by intro W hSw;go_simp) (by assumption) ?_;try simp only[zs]
   refine wpAnyH_done (by kernel_rfl) ?_ _;clear hHeld;have h5:=H1.out;go_wp2_with fail;rw[show((m:Int)+1)=((m+1:Nat):Int) by omega]
   go_roundw
   case rel=>exact⟨m+1,by omega,rfl,TF,RAF,RBF,NF,GF⟩
   case measure=>simp[intOf];omega
  ·
   obtain rfl:m=n3:=by omega
   have hii:decide ((m:Int)<(m:Int))=false:=decide_eq_false (by omega);go_wp2_with fail;refine(CH.out wr TW.out).mono ?_;rintro e wh ⟨rfl,hb2⟩;have TH:=hid (TW.out.trans (hb2.mono TW.out.size));clear hb2;go_wp2_with fail;go_ret;exact⟨rfl,TH.out⟩
end Go.Proofs.YtbnfkjkoinbkgaaGreatDoor
namespace Go.Proofs.YtbnfkjkoinbkgaaGreatDoor.bibTags
set_option maxRecDepth 100000
set_option maxHeartbeats 16000000
open Go.ChangeShapes Go.WideShapes Go.ChangeAt Go.RowKit
open Go.ChangeMaps (open_string shut_string)
set_option linter.unusedVariables false
theorem own:ownKnob Tryz.prog.godebug=none:=by kernel_rfl
theorem laidOut:laidOutB Tryz.prog=true:=by kernel_rfl
theorem Qyx:Tryz.prog.bytesOf 5=1:=by kernel_rfl
theorem contract(H:Type)(enc:TypeId×Value→H)(W:World)(base:Nat)(args:Array Value)(ds gs:List (DataW H))(before:List MemPlace)
  (hval0:∀ (j:Nat) t v,Tryz.f3.params[j]?=some t→args[j]?=some v→Value.okWide Tryz.prog W .any base t v)
  (hW:DataW.Whole enc Tryz.prog Tryz.f3.params.toList Rows.bibTagsSpec.vars false W args.toList ds gs before)
  (hsz0:(DataW.weightsEach Tryz.prog (Tryz.f3.params.toList++Rows.bibTagsSpec.plain.varTypes Tryz.prog) (ds++gs)).all (·≤reachBytes)=true)
  (hL:laidMetH Tryz.prog Q0k W) :
  Calls Tryz.prog 3 args W fun e W'=>∃ v,e=.returned v∧Rows.bibTagsSpec.post enc Tryz.prog Tryz.f3 false true false false W args v W':=by
 have hsz:=hsz0;have hval:=hval0;have hW':=hW;obtain⟨p,q,hA0,hV,rfl,hfz,hnd⟩:=hW;have hA:DataW.TrodAll enc Tryz.prog W 0 (fun _=>true) true Tryz.f3.params.toList args.toList ds p:=hA0;rw[Tryz.params3] at hA hval hsz
 obtain⟨v0,vs0,d0,ds0,p0,q0,hargs,rfl,rfl,h0,r0⟩:=trodAll_cons hA;obtain⟨v1,vs1,d1,ds1,p1,q1,rfl,rfl,rfl,h1,r1⟩:=trodAll_cons r0;obtain⟨v2,vs2,d2,ds2,p2,q2,rfl,rfl,rfl,h2,r2⟩:=trodAll_cons r1;obtain⟨rfl,rfl,rfl⟩:=trodAll_nil r2;obtain rfl:args=#[v0,v1,v2]:=by cases args;simp_all
 obtain⟨rfl,rfl⟩:=trodVars_none hV;obtain⟨A,TT,hAA,hTT⟩:=Q3q hL;have k0:=h0;have lt0:∀ x∈p0,x.block<W.heap.size:=by obtain⟨m,hm⟩:=k0;exact DataW.trod_lt m _ _ _ hm
 have y0:∀ x∈DataW.weights Tryz.prog 28 d0,x≤reachBytes:=fun x hx=>by have h:=List.all_eq_true.1 hsz _ (DataW.weights_mem_each (j:=0) (t:=28) (d:=d0) rfl rfl x hx);simpa using h
 obtain⟨b0,l0,a0,n0,c0,rfl,z0⟩:=Qxv (hval 0 28 v0 rfl rfl) h0 y0;obtain⟨a1,rfl,rfl,rfl,w1⟩:=open_int Tryz.underlying22 (hval 1 22 v1 rfl rfl) h1;obtain⟨a2,len2,cap2,rfl⟩:=okWide_slice Tryz.underlying29 (hval 2 29 v2 rfl rfl);have k2:=h2;have lt2:∀ x∈p2,x.block<W.heap.size:=by obtain⟨m,hm⟩:=k2;exact DataW.trod_lt m _ _ _ hm
 obtain⟨l2,z2⟩:∃ l,Rd W W.heap.size a2 len2 l∧len2≤cap2∧cap2≤140737488351232:=by
  obtain⟨fuel,hf⟩:=h2;rcases open_ints Tryz.underlying29 Tryz.underlying5 (by kernel_rfl) hf with ⟨hcs,_⟩|⟨x,l,c,zsx,hcs,_,hl,hm,hz,hd,hcell,hwz⟩
  ·
   simp[Value.cells] at hcs;obtain⟨rfl,rfl,rfl⟩:=hcs;exact⟨[],Rd.nil_,Nat.le_refl _,by decide⟩
  ·
   simp[Value.cells] at hcs;obtain⟨rfl,rfl,rfl⟩:=hcs;simp only[Prod.mk.injEq] at hd;obtain⟨rfl,_⟩:=hd;have hr:=sized_slice hsz (j:=2) (t:=29) (e:=5) rfl rfl Tryz.underlying29;rw[Qyx] at hr
   simp only[lits,List.length_map,List.length_take,List.length_drop,reachBytes] at hr;have hz':zsx.length=cap2:=by simpa using hz
   exact⟨_,Rd.of_ints hl hz' hcell hwz,hl,by omega⟩
 clear hA0 hval0;refine(Qnj b0 l0 a0 n0 c0 a1 a2 len2 cap2 l2 W A TT z0 w1 z2 hAA hTT).mono fun e W' ⟨he,bel⟩=>?_
 subst he;exact⟨_,rfl,_,_,_,[],_,[],hW',trodAll_mk1 (shut_bool Tryz.underlying4 _),(trodAll_cons_mk (Below.trod laidOut (by kernel_rfl) (of_decide_eq_true (by kernel_rfl)) k0 bel lt0) (trodAll_cons_mk (shut_int Tryz.underlying22 w1) (trodAll_cons_mk (Below.trod laidOut (by kernel_rfl) (of_decide_eq_true (by kernel_rfl)) k2 bel lt2) trodAll_mk0))),rfl,bel.frame _,fun h=>by cases h⟩
theorem reads(os:Os){H:Type}(enc:TypeId×Value→H):∃ places,DataW.whole enc Tryz.prog ((Quu os).forCall (fun _ _=>0) ⟨#[],#[.agg #[.int .u64 0,.int .i64 0,.int .i64 0,.string ByteArray.empty,.int .u64 0,.int .u64 0,.int .i64 0,.string ByteArray.empty,.int .u64 0,.int .u64 0,.int .i64 0,.string ByteArray.empty,.int .u64 0,.int .u64 0,.int .u64 0,.int .u64 0,.int .u64 0,.slice none 0 0],.int .u64 0,.slice none 0 0],[]⟩).memory Tryz.f3.params.toList Rows.bibTagsSpec.vars false (#[.agg #[.int .u64 0,.int .i64 0,.int .i64 0,.string ByteArray.empty,.int .u64 0,.int .u64 0,.int .i64 0,.string ByteArray.empty,.int .u64 0,.int .u64 0,.int .i64 0,.string ByteArray.empty,.int .u64 0,.int .u64 0,.int .u64 0,.int .u64 0,.int .u64 0,.slice none 0 0],.int .u64 0,.slice none 0 0]:Array Value).toList 8=some ([.agg [.lit (.int .u64 0),.lit (.int .i64 0),.agg [.lit (.int .i64 0),.lit (.string []),.lit (.int .u64 0),.lit (.int .u64 0)],.agg [.lit (.int .i64 0),.lit (.string []),.lit (.int .u64 0),.lit (.int .u64 0)],.agg [.lit (.int .i64 0),.lit (.string []),.lit (.int .u64 0),.lit (.int .u64 0)],.lit (.int .u64 0),.lit (.int .u64 0),.lit (.int .u64 0),.nil],.lit (.int .u64 0),.nil],[],places) :=
 ⟨[],by kernel_rfl⟩
theorem lifted(os:Os)(started:os.Started)(H:Type)(enc:TypeId×Value→H)(F:Stop.Interp) :
  ReturnsInHanded {} Tryz.checked os 3 .any ((OpenSpec.ofChange Rows.bibTagsSpec).preRow enc Tryz.prog Tryz.f3 Rows.bibTagsRow.domain false Rows.bibTagsRow.laid) (((OpenSpec.ofChange Rows.bibTagsSpec).at F).post enc Tryz.prog Tryz.f3 false true false false):=by
 obtain⟨places,hx⟩:=reads os enc;refine returnsInHanded_of_row (C:=Tryz.checked) (s:=OpenSpec.ofChange Rows.bibTagsSpec) own started (by kernel_rfl) Tryz.func3
  (witness_row_at (enc:=enc) (C:=Tryz.checked) false (Quu os) #[.agg #[.int .u64 0,.int .i64 0,.int .i64 0,.string ByteArray.empty,.int .u64 0,.int .u64 0,.int .i64 0,.string ByteArray.empty,.int .u64 0,.int .u64 0,.int .i64 0,.string ByteArray.empty,.int .u64 0,.int .u64 0,.int .u64 0,.int .u64 0,.int .u64 0,.slice none 0 0],.int .u64 0,.slice none 0 0] rfl (by kernel_rfl) (by kernel_rfl) (by kernel_rfl)
   (OpenSpec.preRow_of_cond 8 hx (by kernel_rfl) (fun k hk=>by cases hk) (by kernel_rfl) (Qr0 os _))) ?_
 intro W base args ds gs before hval hW _ _ hsz hL _ _;exact contract H enc W base args ds gs before hval hW hsz hL
theorem said:Rows.BibTagsSaid :=
 OpenClaim.holds_of_cond 3 Tryz.f3 rfl rfl rfl rfl rfl rfl rfl ⟨rfl,rfl,rfl,rfl,rfl⟩ rfl rfl rfl rfl rfl (by kernel_rfl) Tryz.func3 Qji
  (of_decide_eq_true (by kernel_rfl)) (by unfold Func.isWrapper;first|(rw[if_pos (by decide +kernel)];kernel_rfl)|(rw[if_neg (by decide +kernel)];exact⟨rfl,rfl⟩))
  (fun os started H enc _ F=>by rw[OpenClaim.pre_eq_preRow];exact lifted os started H enc F)
theorem plainParams (f : FuncId) (fn : Func) (hf : Tryz.pinned.checked.prog.funcNamed "fairlead/fairleadlaw10.BibTags" = some f) (hfn : Tryz.pinned.checked.prog.funcs[f]? = some fn) :
  true=Tryz.pinned.checked.prog.looks []∧∀ (j:Nat) t,fn.params[j]?=some t→Tryz.pinned.checked.prog.wantsStandIn t=false:=by
 obtain rfl : f = 3 := Option.some.inj ((show Tryz.prog.funcNamed "fairlead/fairleadlaw10.BibTags" = some 3 by kernel_rfl).symm.trans hf) |>.symm
 obtain rfl:fn=Tryz.f3:=(Option.some.inj (Tryz.func3.symm.trans hfn)).symm;refine⟨by kernel_rfl,fun j t ht=>?_⟩;rw[Tryz.params3] at ht
 have hm:=Array.mem_of_getElem? ht;have hor:t=28∨t=22∨t=29:=by simpa using hm
 rcases hor with rfl|rfl|rfl
 ·
  exact(show Tryz.prog.wantsStandIn 28=false by kernel_rfl)
 ·
  exact(show Tryz.prog.wantsStandIn 22=false by kernel_rfl)
 ·
  exact(show Tryz.prog.wantsStandIn 29=false by kernel_rfl)
theorem proved:Rows.BibTagsCardSaid :=
 Claim7.holds_tied_plain_at .later [] _ _ _ _ said (fun _ h=>by cases h) (by kernel_rfl) (fun _ h=>by cases h) bibTags_row_tie rfl ⟨rfl,rfl⟩ (by kernel_rfl) rfl plainParams (by kernel_rfl)
#print axioms proved
end Go.Proofs.YtbnfkjkoinbkgaaGreatDoor.bibTags
