import Derived.Test.YtbnfkjkoinbkgaaGreatDoorVAbb
import Derived.Test.YtbnfkjkoinbkgaaGreatDoorVBibQ
import Derived.Test.YtbnfkjkoinbkgaaGreatDoorVBibS
import Derived.Test.YtbnfkjkoinbkgaaGreatDoorVBunD
import Derived.Test.YtbnfkjkoinbkgaaGreatDoorVIpT
namespace Go.Proofs.YtbnfkjkoinbkgaaGreatDoor
set_option maxRecDepth 100000
set_option maxHeartbeats 16000000
open Go.RowKit
open Go.Lib (hid)
theorem Qvb(T:Snb)(t:ByteArray)(w:World)(hT:Ldb T w):Calls Tryz.prog 16 #[Qer T.g t] w fun e w'=>e=.returned (.int .i64 101)∧Below w.heap.size w w':=by
 have h:=Qmx T T.g t w hT (.inr rfl);rwa[if_neg (fun e=>hT.ne e.symm)] at h
theorem Q0t{z:Int}{E:Value}{w w':World}(hb:Below w.heap.size w w')(hn:∀ W,Below w'.heap.size w' W→Calls Tryz.prog 16 #[E] W fun e W'=>e=.returned (.int .i64 z)∧Below W.heap.size W W'):Inn none z w (.returned (.tuple #[Qq0,E])) w' :=
 ⟨hb,none,0,0,0,⟨#[]⟩,0,0,0,none,0,0,E,z,rfl,hn,.inr ⟨rfl,rfl,rfl⟩⟩
theorem Qk8(S:Snt)(T:Snb)(h:BH)(l:List Blk)(A:OA)(n c B q:Nat)(Ak:OA)(nk ck:Nat)(k:LB)(w:World)
  (hS:Wd S w) (hT:Ldb T w) (hBd:h.Bd) (hr:RdL w B A n l) (hB:B≤w.heap.size) (hc:n≤c) (hk:Rd w B Ak nk k) (hkc:nk≤ck∧ck≤9223372036854775807∧nk≤274877906944) (hdat:∀ x∈l,x.dat.length≤5000) :
  Calls Tryz.prog 15 #[Qbl h A n c,.int .u64 (q:Int),.slice Ak nk ck] w (Inn (vrB (h.bun l) q k).1 (vrB (h.bun l) q k).2 w):=by
 have HBA:Hid (Below w.heap.size w (w.alloc (hbx h h.crc A n c))):=zb;have HB0:Hid (Below w.heap.size w ((w.alloc (hbx h h.crc A n c)).alloc zk2)):=HBA.out.alloc (Qaa _ _) _;have HSA:Hid ((w.alloc (hbx h h.crc A n c)).heap.size=w.heap.size+1):=by show _=_;simp
 have HS0:Hid (((w.alloc (hbx h h.crc A n c)).alloc zk2).heap.size=w.heap.size+2):=by show _=_;simp
 have HW0:Hid (Below (w.heap.size+2) ((w.alloc (hbx h h.crc A n c)).alloc zk2) ((w.alloc (hbx h h.crc A n c)).alloc zk2)):=Below.refl _ _;have QA:Hid (((w.alloc (hbx h h.crc A n c)).alloc zk2).heap[w.heap.size]?=some (.cells (#[.int .u64 (h.flg:Int),.int .i64 h.crc,.int .i64 h.dsc,.string h.dnm,.int .u64 (h.dn:Int),.int .u64 (h.dv:Int),.int .i64 h.ssc,.string h.snm,.int .u64 (h.sn:Int),.int .u64 (h.sv:Int),.int .i64 h.rsc,.string h.rnm,.int .u64 (h.rn:Int),.int .u64 (h.rv:Int),.int .u64 (h.tim:Int),.int .u64 (h.seq:Int),.int .u64 (h.lif:Int),.slice A n c]) 28 (0,0))):=Qad (w:=w) rfl ((Below.refl _ _).alloc (Nat.le_of_eq HSA.out.symm) _)
 have QZ:Hid (((w.alloc (hbx h h.crc A n c)).alloc zk2).heap[w.heap.size+1]?=some (.cells #[.slice none 0 0,.int .i64 0,.string ⟨#[]⟩,.int .u64 0,.int .u64 0,.int .i64 0,.slice none 0 0] 35 (0,0))):=Qad (w:=(w.alloc (hbx h h.crc A n c))) HSA.out.symm (Below.refl _ _);have HR2:=hid (fun (W:World) (hb:Below (w.heap.size+2) ((w.alloc (hbx h h.crc A n c)).alloc zk2) W)=>And.intro (Qar QA.out hb (by omega)) (Qar QZ.out hb (by omega)));have HSW:=hid (fun (W:World) (hb:Below w.heap.size w W)=>And.intro (hS.below hb zr) (hT.below hb zr));have HRL:=hid (fun (W:World) (hb:Below w.heap.size w W)=>((hr.below (hb.mono hB)).more (Nat.le_trans hB hb.size)))
 have CC:=hid (Qhw S h l A n c B ((w.alloc (hbx h h.crc A n c)).alloc zk2) (HSW.out _ HB0.out).1 hBd (hr.below (HB0.out.mono hB)) (Nat.le_trans hB HB0.out.size) hc);have CF:=hid (fun (W:World) (hb:Below w.heap.size w W)=>Qlx h l A n c W.heap.size q W (HRL.out W hb) zr);have CT:=hid (fun (typ num flg:Nat) (cr:Int) (Ay:OA) (ny cy:Nat) (v:Value) (x:Bb) (W:World) (hb:Below w.heap.size w W) (hy:typ<18446744073709551616∧num<18446744073709551616∧flg<18446744073709551616) (hx:RdX W W.heap.size v x) (htl:x.tag.length=x.tgs.length)=>Qos S T h l A n c W.heap.size typ num flg cr Ay ny cy v x Ak nk ck k W (HSW.out W hb).1 (HSW.out W hb).2 hBd (HRL.out W hb) zr hc hy hx htl ((hk.below (hb.mono hB)).more (Nat.le_trans hB hb.size)) hkc hdat)
 have CN:=hid (fun (t:ByteArray) (W:World) (hb:Below w.heap.size w W)=>Qeq T t W (HSW.out W hb).2);have HIN:=hid (fun (z:Int) (E:Value) (w':World) (hb:Below w.heap.size w w') (hE:(∃ t,E=Qhi z t)∨(z=100∧∃ t,E=Qer T.t t)∨(z=101∧∃ t,E=Qer T.g t))=>(Q0t (z:=z) (E:=E) hb (fun W hW=>by
  have hw:=HSW.out W (hb.trans (hW.mono hb.size));rcases hE with ⟨t,rfl⟩|⟨rfl,t,rfl⟩|⟨rfl,t,rfl⟩
  ·
   exact Qmy T z t W hw.2 hw.1.laid
  ·
   exact Qmw T t W hw.2
  ·
   exact Qvb T t W hw.2):Inn none z w (.returned (.tuple #[Qq0,E])) w'))
 have HNIL:=hid (fun (W:World) (hb:Below w.heap.size w W)=>Qop T W (HSW.out W hb).2);have q1:=fun (W:World) (u:TypeId) (x:Value)=>run_neq_iface_nil (P:=Tryz.prog) (w:=W) 53 (by kernel_rfl) u x
 have HRB:=hid hr;have HBS:=hid hB;obtain⟨V,hV⟩:∃ V,V=vrB (h.bun l) q k:=⟨_,rfl⟩
 rw[← hV]
 unfold vrB at hV;have HV:=hid hV;have eb:(h.bun l).blks=l:=rfl;rw[eb] at HV
 clear hS hT hBd hr hB hc hk hkc hdat hV eb HBA HSA QA QZ;have RA0:=hid (HR2.out _ HW0.out).1;unfold Qbl at *;go_enter Tryz.func15,Tryz.ntmps15;go_wp2_with (first
  | (refine Qae rfl (.tmp 3) rfl _ rfl _ _ RA0.out rfl ?_)
  | fail)
 refine CC.out.mono ?_;rintro e w1 ⟨rfl,hb⟩;have Z1:=hid (Below.push HW0.out (Nat.le_of_eq HS0.out.symm) hb);have T1:=hid (HB0.out.trans (hb.mono HB0.out.size));have R1:=hid (HR2.out _ Z1.out);clear hb CC RA0;by_cases hz:Qa3 (h.bun l)=0
 case neg =>
  have hz1:(Qa3 (h.bun l) != 0)=true:=by simp[hz]
  have HE:Hid (V=(none,Qa3 (h.bun l))):=HV.out.trans (if_pos hz);generalize Qa3 (h.bun l)=z at *;clear HV hz CF CT;go_wp2_with (first
   | (refine Qa2 rfl 35 (.tmp 6) (.tmp 17) rfl _ _ _ _ _ _ _ _ rfl rfl _ _ R1.out.2 Qa8 rfl rfl ?_;intro w8 hst;have ST:=hid hst;clear hst)
   | fail)
  refine bodyPost_ret (Qdl Tryz.results15 _ _ rfl ST.out.1 rfl) rfl ?_;rw[HE.out]
  exact HIN.out z _ _ (ST.out.2.1 _ _ T1.out (Nat.le_succ _)) (.inl ⟨_,rfl⟩)
 have hz1:(Qa3 (h.bun l) != 0)=false:=by simp[hz]
 rw[if_neg (by simpa using hz)] at HV
 generalize Qa3 (h.bun l)=z at *;clear hz;go_wp2_with (first
  | (refine Qae rfl (.tmp 3) rfl _ rfl _ _ R1.out.1 rfl ?_)
  | fail)
 refine(CF.out w1 T1.out).mono ?_;rintro e w2 ⟨rfl,hb⟩;have Z2:=hid (Below.push Z1.out (Nat.le_of_eq HS0.out.symm) hb);have T2:=hid (T1.out.trans (hb.mono T1.out.size));have R2:=hid (HR2.out _ Z2.out);clear hb CF R1;rcases Qfx (Qbu q) l 0 with ⟨hp1,hp2⟩|⟨kk,hkk,hp1,hp2⟩
 ·
  rw[hp1]
  have HE:Hid (V=(none,100)):=by show _=_;rw[HV.out,hp2]
  have tm:decide ((-1:Int)<0)=true:=by decide
  have CN2:=hid (fun t=>CN.out t _ T2.out);clear HV hp1 hp2 CT;go_wp2_with fail;refine(CN2.out _).mono ?_;rintro e w4 ⟨rfl,hb⟩;have Z4:=hid (Below.push Z2.out (Nat.le_of_eq HS0.out.symm) hb);have T4:=hid (T2.out.trans (hb.mono T2.out.size));have R4:=hid (HR2.out _ Z4.out).2;clear hb;go_wp2_with (first
   | (refine Qa2 rfl 35 (.tmp 6) (.tmp 27) rfl _ _ _ _ _ _ _ _ rfl rfl _ _ R4.out Qa8 rfl rfl ?_;intro w8 hst;have ST:=hid hst;clear hst)
   | fail)
  refine bodyPost_ret (Qdl Tryz.results15 _ _ rfl ST.out.1 rfl) rfl ?_;rw[HE.out]
  exact HIN.out 100 _ _ (ST.out.2.1 _ _ T4.out (Nat.le_succ _)) (.inr (.inl ⟨rfl,_,rfl⟩))
 rw[Nat.zero_add] at hp1
 rw[hp1]
 have hkn:kk<n:=by rw[← HRB.out.1];exact hkk
 obtain⟨b,ob,hA,hbB,hks⟩:=HRB.out.2.1 (by omega);have HA:=hid hA;obtain⟨Ay,ny,cy,hkk2⟩:=hks.get kk hkk;rw[hp2] at HV
 obtain⟨y,hy⟩:∃ y,y=l[kk]:=⟨_,rfl⟩
 rw[← hy] at hkk2 HV
 have HK:=hid (fun (W:World) (hb:Below w.heap.size w W)=>hkk2.below (hb.mono HBS.out) hbB);have HBD:=hid hkk2.bd;have HBW:Hid (b<w.heap.size):=Nat.lt_of_lt_of_le hbB HBS.out;have CR:=hid (Qf3 S T y.typ y.num y.flg y.crc Ay ny cy B y.dat w2 (HSW.out _ T2.out).1 (HSW.out _ T2.out).2 (Nat.le_trans HBS.out T2.out.size) (HK.out _ T2.out).rd hkk2.le);have HV2:Hid (V=match cnB y.typ y.dat with|none=>(none,100)|some x=>if Qfd (fun t=>Qdg (h.bun l) t x.sco y.typ y.num y.flg) k x.tgs x.tag≠0 then (none,Qfd (fun t=>Qdg (h.bun l) t x.sco y.typ y.num y.flg) k x.tgs x.tag) else (some x,0)):=by
  show _=_;rw[HV.out]
  unfold cnB;by_cases h11:y.typ=11
  ·
   simp only[h11];rfl
  ·
   simp only[if_neg h11];rw[if_pos h11]
 have hk1:(kk:Int)<(n:Int):=by omega
 have tm:decide ((kk:Int)<0)=false:=decide_eq_false (by omega);have x17:w2.cell? ⟨w.heap.size,17,none⟩=some (.slice (some ⟨b,ob,none⟩) n c):=by rw[← hA];exact Qab R2.out.1 17 rfl
 obtain⟨e0,e1,e2,e3,e4,-,-,-⟩:=HK.out _ T2.out;have HSO:Hid (∀ x,cnB y.typ y.dat=some x→x.tag.length=x.tgs.length):=fun x hx=>by
  unfold cnB at hx;split at hx
  ·
   exact(Qek.1 hx).rgt.tl
  ·
   cases hx
 clear HV hp1 hp2 hks hkk2 hbB hy hkk hA;unfold Qe3 at *;go_wp2_with fail;refine CR.out.mono ?_;rintro e w3 ⟨hb,⟨x,v,h1,rfl,hx⟩|⟨h1,t,rfl⟩⟩
 case inr =>
  have Z3:=hid (Below.push Z2.out (Nat.le_of_eq HS0.out.symm) hb);have T3:=hid (T2.out.trans (hb.mono T2.out.size));have HE:Hid (V=(none,100)):=by show _=_;rw[HV2.out,h1]
  have HRZ4:Hid ((w3.alloc zk2).heap[w.heap.size+1]?=some (.cells #[.slice none 0 0,.int .i64 0,.string ⟨#[]⟩,.int .u64 0,.int .u64 0,.int .i64 0,.slice none 0 0] 35 (0,0))):=Qar (HR2.out _ Z3.out).2 zb (Qaf (HR2.out _ Z3.out).2);have T4:Hid (Below w.heap.size w (w3.alloc zk2)):=T3.out.alloc T3.out.size _;clear hb h1 CR HV2 CT x17 e0 e1 e2 e3 e4 HSO;unfold Qq0 Qer;go_wp2_with (first
   | (refine Qa2 rfl 35 (.tmp 6) (.tmp 40) rfl _ _ _ _ _ _ _ _ rfl rfl _ _ HRZ4.out Qa8 rfl rfl ?_;intro w8 hst;have ST:=hid hst;clear hst)
   | fail)
  refine bodyPost_ret (Qdl Tryz.results15 _ _ rfl ST.out.1 rfl) rfl ?_;rw[HE.out]
  exact HIN.out 100 _ _ (ST.out.2.1 _ _ T4.out (Nat.le_succ _)) (.inr (.inl ⟨rfl,_,rfl⟩))
 have Z3:=hid (Below.push Z2.out (Nat.le_of_eq HS0.out.symm) hb);have T3:=hid (T2.out.trans (hb.mono T2.out.size));have HX:=hid hx;have hxu:=hx.unmask;obtain⟨A2,n2,c2,ec,s,nd,sv,At,nt,ct,rfl,-⟩:=hx;have HV3:Hid (V=if Qfd (fun t=>Qdg (h.bun l) t x.sco y.typ y.num y.flg) k x.tgs x.tag≠0 then (none,Qfd (fun t=>Qdg (h.bun l) t x.sco y.typ y.num y.flg) k x.tgs x.tag) else (some x,0)):=by show _=_;rw[HV2.out,h1]
 have HTL:=hid (HSO.out x h1);obtain⟨so,hso⟩:∃ so,so=x.sco:=⟨_,rfl⟩
 have HSO2:=hid hso;rw[← hso] at HX hxu HV3
 rw[← hso]
 have D4:Hid (Below w3.heap.size w3 (w3.alloc (zo2 A2 n2 c2 ec s nd sv so At nt ct))):=zb;have T4:Hid (Below w.heap.size w (w3.alloc (zo2 A2 n2 c2 ec s nd sv so At nt ct))):=T3.out.alloc T3.out.size _;have L3:Hid (w.heap.size+2≤w3.heap.size):=by show _≤_;have:=Z3.out.size;have:=HS0.out;omega
 have Z4:Hid (Below (w.heap.size+2) ((w.alloc (hbx h h.crc A n c)).alloc zk2) (w3.alloc (zo2 A2 n2 c2 ec s nd sv so At nt ct))):=Z3.out.alloc L3.out _;have RX4:Hid ((w3.alloc (zo2 A2 n2 c2 ec s nd sv so At nt ct)).heap[w3.heap.size]?=some (.cells #[.slice A2 n2 c2,.int .i64 ec,.string s,.int .u64 (nd:Int),.int .u64 (sv:Int),.int .i64 so,.slice At nt ct] 35 (0,0))):=heap_alloc_new w3 _;have HXR:=hid ((hxu.below D4.out).more D4.out.size);have HB32:=hid hb.size;clear hb h1 hxu CR HV2 x17 e0 e1 e2 e3 e4 hso HSO;unfold Qlh at *;go_wp2_with fail;obtain⟨w4,hw4⟩:∃ w4,w4=(w3.alloc (zo2 A2 n2 c2 ec s nd sv so At nt ct)):=⟨_,rfl⟩
 rw[← hw4] at D4 T4 Z4 RX4 HXR
 try rw[← hw4]
 clear hw4;try simp only[zs]
 have R4:=hid (HR2.out _ Z4.out);have LA:Hid (w.heap.size<w4.heap.size):=Qaf R4.out.1;have LX:Hid (w3.heap.size<w4.heap.size):=Qaf RX4.out;have LBW:Hid (b<w4.heap.size):=Nat.lt_of_lt_of_le HBW.out T4.out.size;have K4:=hid (HK.out _ T4.out);refine wp_region_held_drew (S:=fun W=>Below w4.heap.size w4 W) (by kernel_rfl) (Below.refl _ _).drew (fun hHeld=>?_);have BT:Hid (Below w4.heap.size w4 w4.drew):=Below.drew_;refine Qao (i:=0) rfl (by kernel_rfl) (by kernel_rfl) (by kernel_rfl) (fun _ _ _ h=>h) (by rfl) (fun W hW=>Qf7 rfl rfl (Qar R4.out.1 hW LA.out) rfl) (by assumption) ?_;try simp only[zs]
 refine Qao (i:=1) (v:=?v1_1) rfl (by kernel_rfl) (by kernel_rfl) (by kernel_rfl) (fun _ _ _ h=>h) (by rfl) ?hy1_1 (by assumption) ?rest1_1
 case hy1_1=>(intro W hSw;go_simp;try with_reducible rfl)
 try simp only[zs]
 refine Qao (i:=2) (v:=?v2_2) rfl (by kernel_rfl) (by kernel_rfl) (by kernel_rfl) (fun _ _ _ h=>h) (by rfl) ?hy2_2 (by assumption) ?rest2_2
 case hy2_2=>(intro W hSw;have x17:W.cell? ⟨w.heap.size,17,none⟩=some (.slice (some ⟨b,ob,none⟩) n c):=(by rw[← HA.out];exact Qab (Qar R4.out.1 hSw LA.out) 17 rfl);go_simp;try with_reducible rfl)
 try simp only[zs]
 refine Qao (i:=3) (v:=?v3_3) rfl (by kernel_rfl) (by kernel_rfl) (by kernel_rfl) (fun _ _ _ h=>h) (by rfl) ?hy3_3 (by assumption) ?rest3_3
 case hy3_3=>(intro W hSw;go_simp;try with_reducible rfl)
 try simp only[zs]
 refine Qao (i:=4) (v:=?v4_4) rfl (by kernel_rfl) (by kernel_rfl) (by kernel_rfl) (fun _ _ _ h=>h) (by rfl) ?hy4_4 (by assumption) ?rest4_4
 case hy4_4=>(intro W hSw;go_simp;try with_reducible rfl)
 try simp only[zs]
 refine Qao (i:=5) (v:=?v5_5) rfl (by kernel_rfl) (by kernel_rfl) (by kernel_rfl) (fun _ _ _ h=>h) (by rfl) ?hy5_5 (by assumption) ?rest5_5
 case hy5_5=>(intro W hSw;have e0:=(hSw.cell (p:=⟨b,ob+kk*5,none⟩) LBW.out).trans K4.out.k0;have e1:=(hSw.cell (p:=⟨b,ob+kk*5+1,none⟩) LBW.out).trans K4.out.k1;have e2:=(hSw.cell (p:=⟨b,ob+kk*5+2,none⟩) LBW.out).trans K4.out.k2;have e3:=(hSw.cell (p:=⟨b,ob+kk*5+3,none⟩) LBW.out).trans K4.out.k3;have e4:=(hSw.cell (p:=⟨b,ob+kk*5+4,none⟩) LBW.out).trans K4.out.k4;go_simp;try with_reducible rfl)
 try simp only[zs]
 refine Qao (i:=6) rfl (by kernel_rfl) (by kernel_rfl) (by kernel_rfl) (fun _ _ _ h=>h) (by rfl) (fun W hW=>Qqk rfl rfl (Qar RX4.out hW LX.out) rfl) (by assumption) ?_;try simp only[zs]
 refine Qao (i:=7) (v:=?v7_6) rfl (by kernel_rfl) (by kernel_rfl) (by kernel_rfl) (fun _ _ _ h=>h) (by rfl) ?hy7_6 (by assumption) ?rest7_6
 case hy7_6=>(intro W hSw;go_simp;try with_reducible rfl)
 try simp only[zs]
 obtain⟨wc,hwc⟩:∃ wc,wc=w4.drew:=⟨_,rfl⟩
 rw[← hwc] at BT
 rw[← hwc]
 clear hwc hHeld;have TC:=hid (T4.out.trans (BT.out.mono T4.out.size));have CC:=hid (CT.out y.typ y.num y.flg y.crc Ay ny cy _ x wc TC.out HBD.out ((HXR.out.below BT.out).more BT.out.size) HTL.out);rw[← HSO2.out] at CC
 refine wpAnyH_ready (rs:=[8]) (by kernel_rfl) (by simp) ?_;refine AllReadyH.cons rfl (fun K hK=>?_) AllReadyH.nil;rw[if_pos (by rfl)]
 go_simp
 refine CC.out.mono ?_;obtain⟨z2,hz2⟩:∃ z2,z2=Qfd (fun t=>Qdg (h.bun l) t so y.typ y.num y.flg) k x.tgs x.tag:=⟨_,rfl⟩
 rw[← hz2] at HV3
 rw[← hz2]
 have HDONE:Hid (∀ (E:Value) (wd:World),Below wc.heap.size wc wd→Hid (Below w4.heap.size w4 wd)):=fun E wd hb=>BT.out.trans (hb.mono BT.out.size)
 clear hz2 CC CT;rintro e wd ⟨hb,⟨h0,rfl⟩|⟨h0,t,rfl⟩|⟨h0,t,rfl⟩⟩
 ·
  have HE:Hid (V=(some x,0)):=HV3.out.trans (if_neg (by simp[h0]));clear h0;have BD:=hid (BT.out.trans (hb.mono BT.out.size));have TD:=hid (T4.out.trans (BD.out.mono T4.out.size));have RZd:=hid (Qar R4.out.2 BD.out (Qaf R4.out.2));have RXd:=hid (Qar RX4.out BD.out LX.out);clear hb;go_simp
  refine hK.out _ _ BD.out (fun hHeld=>?_);try simp only[zs]
  clear hK K;refine Qao (i:=9) (v:=?v9_7) rfl (by kernel_rfl) (by kernel_rfl) (by kernel_rfl) (fun _ _ _ h=>h) (by rfl) ?hy9_7 (by assumption) ?rest9_7
  case hy9_7=>(intro W hSw;go_simp;try with_reducible rfl)
  try simp only[zs]
  refine wpAnyH_done (by kernel_rfl) ?_ _;go_wp2_with (first
   | (refine Qb8 rfl (.tmp 10) rfl _ rfl _ _ RXd.out rfl ?_)
   | (refine Qa2 rfl 35 (.tmp 6) (.tmp 55) rfl _ _ _ _ _ _ _ _ rfl rfl _ _ RZd.out Qa8 rfl rfl ?_;intro w8 hst;have ST:=hid hst;clear hst)
   | fail)
  refine bodyPost_ret (Qdl Tryz.results15 _ _ rfl ST.out.1 rfl) rfl ?_;rw[HE.out]
  have hTE:=ST.out.2.1 _ _ TD.out (Nat.le_succ _);have h3d:Below w3.heap.size w3 wd:=D4.out.trans (BD.out.mono D4.out.size);have hL2:w.heap.size+2≤w2.heap.size:=by have:=Z2.out.size;have:=HS0.out;omega
  exact⟨hTE,A2,n2,c2,ec,s,nd,sv,so,At,nt,ct,.nilIface,0,rfl,fun W hW=>HNIL.out W (hTE.trans (hW.mono hTE.size)),.inl ⟨x,rfl,rfl,HX.out.maskup (Nat.le_trans (Nat.le_add_right _ 2) hL2) (fun j h1 h2=>(ST.out.2.2.2 j (by omega)).trans (h3d.block j h2)) (Nat.le_trans h3d.size (Nat.le_of_eq ST.out.2.2.1.symm))⟩⟩
 ·
  have HE:Hid (V=(none,z2)):=HV3.out.trans (if_pos h0);clear h0;unfold Qhi;have BD:=hid (BT.out.trans (hb.mono BT.out.size));have TD:=hid (T4.out.trans (BD.out.mono T4.out.size));have RZd:=hid (Qar R4.out.2 BD.out (Qaf R4.out.2));have RXd:=hid (Qar RX4.out BD.out LX.out);clear hb;go_simp
  refine hK.out _ _ BD.out (fun hHeld=>?_);try simp only[zs]
  clear hK K;refine Qao (i:=9) (v:=?v9_8) rfl (by kernel_rfl) (by kernel_rfl) (by kernel_rfl) (fun _ _ _ h=>h) (by rfl) ?hy9_8 (by assumption) ?rest9_8
  case hy9_8=>(intro W hSw;go_simp;try with_reducible rfl)
  try simp only[zs]
  refine wpAnyH_done (by kernel_rfl) ?_ _;go_wp2_with (first
   | (refine Qa2 rfl 35 (.tmp 6) (.tmp 53) rfl _ _ _ _ _ _ _ _ rfl rfl _ _ RZd.out Qa8 rfl rfl ?_;intro w8 hst;have ST:=hid hst;clear hst)
   | fail)
  refine bodyPost_ret (Qdl Tryz.results15 _ _ rfl ST.out.1 rfl) rfl ?_;rw[HE.out]
  exact HIN.out z2 _ _ (ST.out.2.1 _ _ TD.out (Nat.le_succ _)) (.inl ⟨_,rfl⟩)
 ·
  have HE:Hid (V=(none,101)):=by show _=_;rw[HV3.out,if_pos (by rw[h0];decide),h0]
  clear h0;unfold Qer;have BD:=hid (BT.out.trans (hb.mono BT.out.size));have TD:=hid (T4.out.trans (BD.out.mono T4.out.size));have RZd:=hid (Qar R4.out.2 BD.out (Qaf R4.out.2));have RXd:=hid (Qar RX4.out BD.out LX.out);clear hb;go_simp
  refine hK.out _ _ BD.out (fun hHeld=>?_);try simp only[zs]
  clear hK K;refine Qao (i:=9) (v:=?v9_9) rfl (by kernel_rfl) (by kernel_rfl) (by kernel_rfl) (fun _ _ _ h=>h) (by rfl) ?hy9_9 (by assumption) ?rest9_9
  case hy9_9=>(intro W hSw;go_simp;try with_reducible rfl)
  try simp only[zs]
  refine wpAnyH_done (by kernel_rfl) ?_ _;go_wp2_with (first
   | (refine Qa2 rfl 35 (.tmp 6) (.tmp 53) rfl _ _ _ _ _ _ _ _ rfl rfl _ _ RZd.out Qa8 rfl rfl ?_;intro w8 hst;have ST:=hid hst;clear hst)
   | fail)
  refine bodyPost_ret (Qdl Tryz.results15 _ _ rfl ST.out.1 rfl) rfl ?_;rw[HE.out]
  exact HIN.out 101 _ _ (ST.out.2.1 _ _ TD.out (Nat.le_succ _)) (.inr (.inr ⟨rfl,_,rfl⟩))
theorem Qd4(S:Snt)(T:Snb)(h:BH)(l:List Blk)(A:OA)(n c B q:Nat)(Ak:OA)(nk ck:Nat)(k:LB)(w:World)
  (hS:Wd S w) (hT:Ldb T w) (hBd:h.Bd) (hr:RdL w B A n l) (hB:B≤w.heap.size) (hc:n≤c) (hk:Rd w B Ak nk k) (hkc:nk≤ck∧ck≤9223372036854775807∧nk≤274877906944) (hdat:∀ x∈l,x.dat.length≤5000) :
  Calls Tryz.prog 6 #[Qbl h A n c,.int .u64 (q:Int),.slice Ak nk ck] w (Q4u (vrB (h.bun l) q k).1 (vrB (h.bun l) q k).2 w):=by
 have HBA:Hid (Below w.heap.size w (w.alloc (hbx h h.crc A n c))):=zb;have HB0:Hid (Below w.heap.size w ((w.alloc (hbx h h.crc A n c)).alloc zk2)):=HBA.out.alloc (Qaa _ _) _;have HSA:Hid ((w.alloc (hbx h h.crc A n c)).heap.size=w.heap.size+1):=by show _=_;simp
 have HS0:Hid (((w.alloc (hbx h h.crc A n c)).alloc zk2).heap.size=w.heap.size+2):=by show _=_;simp
 have HW0:Hid (Below (w.heap.size+2) ((w.alloc (hbx h h.crc A n c)).alloc zk2) ((w.alloc (hbx h h.crc A n c)).alloc zk2)):=Below.refl _ _;have QA:Hid (((w.alloc (hbx h h.crc A n c)).alloc zk2).heap[w.heap.size]?=some (.cells (#[.int .u64 (h.flg:Int),.int .i64 h.crc,.int .i64 h.dsc,.string h.dnm,.int .u64 (h.dn:Int),.int .u64 (h.dv:Int),.int .i64 h.ssc,.string h.snm,.int .u64 (h.sn:Int),.int .u64 (h.sv:Int),.int .i64 h.rsc,.string h.rnm,.int .u64 (h.rn:Int),.int .u64 (h.rv:Int),.int .u64 (h.tim:Int),.int .u64 (h.seq:Int),.int .u64 (h.lif:Int),.slice A n c]) 28 (0,0))):=Qad (w:=w) rfl ((Below.refl _ _).alloc (Nat.le_of_eq HSA.out.symm) _)
 have CR:=hid (Qk8 S T h l A n c B q Ak nk ck k ((w.alloc (hbx h h.crc A n c)).alloc zk2) (hS.below HB0.out zr) (hT.below HB0.out zr) hBd (hr.below (HB0.out.mono hB)) (Nat.le_trans hB HB0.out.size) hc (hk.below (HB0.out.mono hB)) hkc hdat);obtain⟨bz,hbz⟩:∃ bz,bz=w.heap.size+1:=⟨_,rfl⟩
 have HRZ:Hid (∀ W,Below (w.heap.size+2) ((w.alloc (hbx h h.crc A n c)).alloc zk2) W→W.heap[bz]?=some (.cells #[.slice none 0 0,.int .i64 0,.string ⟨#[]⟩,.int .u64 0,.int .u64 0,.int .i64 0,.slice none 0 0] 35 (0,0))):=fun W hb=>Qad (w:=(w.alloc (hbx h h.crc A n c))) (hbz.trans HSA.out.symm) (by rw[hbz];exact hb)
 have BZ:Hid (w.heap.size≤bz):=by show _≤_;omega
 have LZ:Hid (w.heap.size≤((w.alloc (hbx h h.crc A n c)).alloc zk2).heap.size):=HB0.out.size;have LN:Hid (bz<((w.alloc (hbx h h.crc A n c)).alloc zk2).heap.size):=by show _<_;rw[HS0.out,hbz];exact Nat.lt_succ_self _
 obtain⟨o,ho⟩:∃ o,o=(vrB (h.bun l) q k).1:=⟨_,rfl⟩
 obtain⟨z,hz⟩:∃ z,z=(vrB (h.bun l) q k).2:=⟨_,rfl⟩
 rw[← ho,← hz] at CR
 rw[← ho,← hz]
 clear hS hT hBd hr hB hc hk hkc hdat ho hz HBA HSA;unfold Qbl at *;go_enter Tryz.func6,Tryz.ntmps6;go_wp2_with (first
  | (refine Qae rfl (.tmp 3) rfl _ rfl _ _ QA.out rfl ?_)
  | fail)
 refine CR.out.mono ?_;rintro e w1 hin;rw[← hbz]
 clear hbz QA;obtain⟨hb,A2,n2,c2,sc,s,nd,sv,so,At,nt,ct,E,y,rfl,hcn,hor⟩:=hin;have Z1:=hid (Below.push HW0.out (Nat.le_of_eq HS0.out.symm) hb);have T1:=hid (HB0.out.trans (hb.mono HB0.out.size));have D2:Hid (Below w1.heap.size w1 (w1.alloc (zo2 A2 n2 c2 sc s nd sv so At nt ct))):=zb;have R2:Hid ((w1.alloc (zo2 A2 n2 c2 sc s nd sv so At nt ct)).heap[w1.heap.size]?=some (.cells #[.slice A2 n2 c2,.int .i64 sc,.string s,.int .u64 (nd:Int),.int .u64 (sv:Int),.int .i64 so,.slice At nt ct] 35 (0,0))):=heap_alloc_new w1 _;have HCN:=hid hcn;have HOR:=hid hor;clear hb hcn hor CR;unfold Qlh at *;go_wp2_with fail
 obtain⟨w2,hw2⟩:∃ w2,w2=w1.alloc (zo2 A2 n2 c2 sc s nd sv so At nt ct):=⟨_,rfl⟩
 rw[← hw2] at D2 R2
 try rw[← hw2]
 clear hw2;have L1:Hid (bz<w1.heap.size):=Qaf (HRZ.out _ Z1.out);have RZ2:=hid (Qar (HRZ.out _ Z1.out) D2.out L1.out);try simp only[zs]
 refine wp_region_held_drew (S:=fun W=>W.heap[w1.heap.size]?=some (.cells #[.slice A2 n2 c2,.int .i64 sc,.string s,.int .u64 (nd:Int),.int .u64 (sv:Int),.int .i64 so,.slice At nt ct] 35 (0,0))) (by kernel_rfl) R2.out (fun hHeld=>?_);refine Qao (i:=0) rfl (by kernel_rfl) (by kernel_rfl) (by kernel_rfl) (fun _ _ _ h=>h) (by rfl) (fun W hW=>Qqk rfl rfl hW rfl) (by assumption) ?_;try simp only[zs]
 refine Qao (i:=1) (v:=E) rfl (by kernel_rfl) (by kernel_rfl) (by kernel_rfl) (fun _ _ _ h=>h) (by rfl) (by intro W hSw;go_simp) (by assumption) ?_;try simp only[zs]
 have BT:Hid (Below w1.heap.size w1 w2.drew):=D2.out.trans (Below.drew_);have BT2:Hid (Below w2.heap.size w2 w2.drew):=Below.drew_;obtain⟨wc,hwc⟩:∃ wc,wc=w2.drew:=⟨_,rfl⟩
 rw[← hwc] at BT BT2
 rw[← hwc]
 clear hwc hHeld;refine wpAnyH_ready (rs:=[2]) (by kernel_rfl) (by simp) ?_;refine AllReadyH.cons rfl (fun K hK=>?_) AllReadyH.nil;rw[if_pos (by rfl)]
 go_simp
 refine(HCN.out wc BT.out).mono ?_;rintro e wd ⟨rfl,hb⟩;have BD:=hid (BT.out.trans (hb.mono BT.out.size));have BD2:=hid (BT2.out.trans (hb.mono BT2.out.size));have RZd:=hid (Qar RZ2.out BD2.out (Qaf RZ2.out));have R2d:=hid (Qar R2.out BD2.out (Qaf R2.out));clear hb;go_simp
 refine hK.out _ _ R2d.out (fun hHeld=>?_);try simp only[zs]
 clear hK K hHeld;refine wpAnyH_ready (rs:=[3]) (by kernel_rfl) (by simp) ?_;refine AllReadyH.cons rfl (fun K hK=>?_) AllReadyH.nil;refine Qw4 rfl 35 (.tmp 6) (.tmp 17) rfl bz _ _ _ _ _ _ _ rfl rfl _ _ RZd.out Qa8 rfl rfl ?_;intro we hst;have ST:=hid hst;clear hst;refine hK.out _ _ ((ST.out.2.2.2 _ (by have:=L1.out;omega)).trans R2d.out) (fun hHeld=>?_);try simp only[zs]
 clear hK K;refine Qao (i:=4) (v:=.int .i64 y) rfl (by kernel_rfl) (by kernel_rfl) (by kernel_rfl) (fun _ _ _ h=>h) (by rfl) (by intro W hSw;go_simp) (by assumption) ?_;try simp only[zs]
 refine wpAnyH_done (by kernel_rfl) ?_ _;go_wp2_with fail;refine bodyPost_ret (Qdl Tryz.results6 _ _ rfl ST.out.1 rfl) rfl ?_;refine⟨ST.out.2.1 _ _ (T1.out.trans (BD.out.mono T1.out.size)) BZ.out,?_⟩;rcases HOR.out with ⟨x,h1,rfl,hx⟩|⟨h1,rfl,hz⟩
 ·
  exact .inl ⟨x,_,h1,rfl,hx.maskup LZ.out (fun j h1 h2=>(ST.out.2.2.2 j (by have:=LN.out;omega)).trans (BD.out.block j h2)) (Nat.le_trans BD.out.size (Nat.le_of_eq ST.out.2.2.1.symm))⟩
 ·
  refine .inr ⟨h1,?_⟩;unfold Qq0 at hz ⊢;rw[← hz]
  rfl
end Go.Proofs.YtbnfkjkoinbkgaaGreatDoor
