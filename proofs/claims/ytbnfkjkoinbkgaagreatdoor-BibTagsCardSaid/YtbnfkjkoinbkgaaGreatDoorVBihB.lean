import Derived.Test.YtbnfkjkoinbkgaaGreatDoorVAbb
import Derived.Test.YtbnfkjkoinbkgaaGreatDoorVBibO
import Derived.Test.YtbnfkjkoinbkgaaGreatDoorVBibS
import Derived.Test.YtbnfkjkoinbkgaaGreatDoorVBunPu
import Derived.Test.YtbnfkjkoinbkgaaGreatDoorVIpN
import Derived.Test.YtbnfkjkoinbkgaaGreatDoorVRfW
namespace Go.Proofs.YtbnfkjkoinbkgaaGreatDoor
set_option maxRecDepth 100000
set_option maxHeartbeats 16000000
open Go.RowKit
open Go.Lib (hid)
def sgX(tgs:List Nat)(src:Epd)(sc:Int)(gs:List LB):Bb:=⟨tgs,src,sc,gs⟩
def sgK(num:Nat)(x:Bb):Blk:=⟨11,num,0,0,Qjh x⟩
def Q4t(h:BH)(l:List Blk)(tgs:List Nat)(num:Nat)(sc:Int)(src:Epd)(k:LB)(w:World)(e:Ending)(w':World):Prop:=Below w.heap.size w w' ∧
 ((∃ z,z≠0∧((sgT (h.bun l) tgs num sc k).2≠0∧z=(sgT (h.bun l) tgs num sc k).2∨(sgT (h.bun l) tgs num sc k).2=0∧Qgb (sgX tgs src sc (sgT (h.bun l) tgs num sc k).1)=false∧z=100 ∨
   (sgT (h.bun l) tgs num sc k).2=0∧Qgb (sgX tgs src sc (sgT (h.bun l) tgs num sc k).1)=true∧¬ (Qa3 (h.bun l)=0∧Qa3 (h.bun (Qc6 l (sgK num (sgX tgs src sc (sgT (h.bun l) tgs num sc k).1))))=0)∧z=(if Qa3 (h.bun l)=0 then Qg3 (Qa3 (h.bun (Qc6 l (sgK num (sgX tgs src sc (sgT (h.bun l) tgs num sc k).1))))) else Qg3 (Qa3 (h.bun l))))∧e=.returned (.tuple #[.agg #[.int .u64 0,.int .i64 0,.int .i64 0,.string ⟨#[]⟩,.int .u64 0,.int .u64 0,.int .i64 0,.string ⟨#[]⟩,.int .u64 0,.int .u64 0,.int .i64 0,.string ⟨#[]⟩,.int .u64 0,.int .u64 0,.int .u64 0,.int .u64 0,.int .u64 0,.slice none 0 0],.int .i64 z])) ∨
  ((sgT (h.bun l) tgs num sc k).2=0∧Qgb (sgX tgs src sc (sgT (h.bun l) tgs num sc k).1)=true∧Qa3 (h.bun l)=0∧Qa3 (h.bun (Qc6 l (sgK num (sgX tgs src sc (sgT (h.bun l) tgs num sc k).1))))=0 ∧
   ∃ (A:OA) (n c:Nat),e=.returned (.tuple #[Qbl h A n c,.int .i64 0])∧RdL (Qap (Qax w.heap.size) w') w'.heap.size A n (Qc6 l (sgK num (sgX tgs src sc (sgT (h.bun l) tgs num sc k).1)))∧n≤c))
theorem Qu7(S:Snt)(T:Snb)(h:BH)(l:List Blk)(A:OA)(n c B:Nat)(tgs:List Nat)(At:OA)(nt ct num:Nat)(sc:Int)(ec:Int)(s:ByteArray)(nd sv:Nat)(Ak:OA)(nk ck:Nat)(k:LB)(w:World)
  (hS:Wd S w) (hT:Ldb T w) (hBd:h.Bd) (hr:RdL w B A n l) (hB:B≤w.heap.size) (hc:n≤c) (hN:RdN w B At nt tgs) (hnt:nt≤ct) (h64:∀ t∈tgs,t<18446744073709551616) (h15:nt≤15) (hnum:num<18446744073709551616)
  (hs:s.size≤140737488355328) (hnd:nd<18446744073709551616) (hsv:sv<18446744073709551616) (hk:Rd w B Ak nk k) (hkc:nk≤ck∧ck≤9223372036854775807∧nk≤274877906944) (hdat:∀ x∈l,x.dat.length≤5000) :
  Calls Tryz.prog 11 #[Qbl h A n c,.slice At nt ct,.int .u64 (num:Int),.int .i64 sc,Qbq ec s nd sv,.slice Ak nk ck] w (Q4t h l tgs num sc (ep ec s nd sv) k w):=by
 have HBA:Hid (Below w.heap.size w (w.alloc (hbx h h.crc A n c))):=zb;have HBB:Hid (Below w.heap.size w ((w.alloc (hbx h h.crc A n c)).alloc (zo3 ec s nd sv))):=HBA.out.alloc (Qaa _ _) _;have HB0:Hid (Below w.heap.size w (((w.alloc (hbx h h.crc A n c)).alloc (zo3 ec s nd sv)).alloc zk3)):=HBB.out.alloc (Nat.le_trans (Qaa _ _) (Qaa _ _)) _;have HSA:Hid ((w.alloc (hbx h h.crc A n c)).heap.size=w.heap.size+1):=by show _=_;simp
 have HSB:Hid (((w.alloc (hbx h h.crc A n c)).alloc (zo3 ec s nd sv)).heap.size=w.heap.size+2):=by show _=_;simp
 have HS0:Hid ((((w.alloc (hbx h h.crc A n c)).alloc (zo3 ec s nd sv)).alloc zk3).heap.size=w.heap.size+3):=by show _=_;simp
 have HW0:Hid (Below (w.heap.size+3) (((w.alloc (hbx h h.crc A n c)).alloc (zo3 ec s nd sv)).alloc zk3) (((w.alloc (hbx h h.crc A n c)).alloc (zo3 ec s nd sv)).alloc zk3)):=Below.refl _ _;have QA:Hid ((((w.alloc (hbx h h.crc A n c)).alloc (zo3 ec s nd sv)).alloc zk3).heap[w.heap.size]?=some (.cells (#[.int .u64 (h.flg:Int),.int .i64 h.crc,.int .i64 h.dsc,.string h.dnm,.int .u64 (h.dn:Int),.int .u64 (h.dv:Int),.int .i64 h.ssc,.string h.snm,.int .u64 (h.sn:Int),.int .u64 (h.sv:Int),.int .i64 h.rsc,.string h.rnm,.int .u64 (h.rn:Int),.int .u64 (h.rv:Int),.int .u64 (h.tim:Int),.int .u64 (h.seq:Int),.int .u64 (h.lif:Int),.slice A n c]) 28 (0,0))):=Qad (w:=w) rfl (((Below.refl _ _).alloc (Nat.le_of_eq HSA.out.symm) _).alloc (by rw[HSB.out];omega) _)
 have QE:Hid ((((w.alloc (hbx h h.crc A n c)).alloc (zo3 ec s nd sv)).alloc zk3).heap[w.heap.size+1]?=some (.cells #[.int .i64 ec,.string s,.int .u64 (nd:Int),.int .u64 (sv:Int)] 25 (0,0))):=Qad (w:=(w.alloc (hbx h h.crc A n c))) HSA.out.symm ((Below.refl _ _).alloc (Nat.le_of_eq HSB.out.symm) _);have QZ:Hid ((((w.alloc (hbx h h.crc A n c)).alloc (zo3 ec s nd sv)).alloc zk3).heap[w.heap.size+2]?=some (.cells #[.int .u64 0,.int .i64 0,.int .i64 0,.string ⟨#[]⟩,.int .u64 0,.int .u64 0,.int .i64 0,.string ⟨#[]⟩,.int .u64 0,.int .u64 0,.int .i64 0,.string ⟨#[]⟩,.int .u64 0,.int .u64 0,.int .u64 0,.int .u64 0,.int .u64 0,.slice none 0 0] 28 (0,0))):=Qad (w:=((w.alloc (hbx h h.crc A n c)).alloc (zo3 ec s nd sv))) HSB.out.symm (Below.refl _ _)
 have HR3:=hid (fun (W:World) (hb:Below (w.heap.size+3) (((w.alloc (hbx h h.crc A n c)).alloc (zo3 ec s nd sv)).alloc zk3) W)=>And.intro (Qar QA.out hb (by omega)) (And.intro (Qar QE.out hb (by omega)) (Qar QZ.out hb (by omega))));have HSW:=hid (fun (W:World) (hb:Below w.heap.size w W)=>And.intro (hS.below hb zr) (hT.below hb zr));have HRL:=hid (fun (W:World) (hb:Below w.heap.size w W)=>((hr.below (hb.mono hB)).more (Nat.le_trans hB hb.size)));have HRN:=hid (fun (W:World) (hb:Below w.heap.size w W)=>((hN.below (hb.mono hB)).more (Nat.le_trans hB hb.size)));have CT:=hid (Qu5 S h l A n c B tgs At nt ct num sc Ak nk ck k (((w.alloc (hbx h h.crc A n c)).alloc (zo3 ec s nd sv)).alloc zk3) (HSW.out _ HB0.out).1 hBd (hr.below (HB0.out.mono hB)) (Nat.le_trans hB HB0.out.size) hc (hN.below (HB0.out.mono hB)) h15 hnum (hk.below (HB0.out.mono hB)) hkc hdat)
 have CPU:=hid (fun (x:Blk) (Ax:OA) (nx cx:Nat) (W:World) (hb:Below w.heap.size w W) (hx:Bd x) (hnx:nx≤cx∧nx≤140737488355328) (hrx:Rd W W.heap.size Ax nx x.dat)=>Qs6 S h l A n c W.heap.size x Ax nx cx W (HSW.out W hb).1 hBd (HRL.out W hb) zr hc hx hnx hrx);have q1:=fun (W:World) (u:TypeId) (x:Value)=>run_neq_iface_nil (P:=Tryz.prog) (w:=W) 53 (by kernel_rfl) u x
 have HEB:=hid (And.intro hs (And.intro hnd hsv));have H64:=hid h64;have HNT:=hid hnt;have HNM:=hid hnum;have h15':nt≤140737488355328:=by omega
 have H47:=hid h15';obtain⟨R,hR⟩:∃ R,R=sgT (h.bun l) tgs num sc k:=⟨_,rfl⟩
 have CT2:Hid (Calls Tryz.prog 23 #[Qbl h A n c,.slice At nt ct,.int .u64 (num:Int),.int .i64 sc,.slice Ak nk ck] (((w.alloc (hbx h h.crc A n c)).alloc (zo3 ec s nd sv)).alloc zk3) (Q4s R (((w.alloc (hbx h h.crc A n c)).alloc (zo3 ec s nd sv)).alloc zk3))):=by rw[hR];exact CT.out
 have HG:Hid (∀ (e:Ending) (w':World),Below w.heap.size w w'→((∃ z,z≠0∧(R.2≠0∧z=R.2∨R.2=0∧Qgb (sgX tgs (ep ec s nd sv) sc R.1)=false∧z=100∨R.2=0∧Qgb (sgX tgs (ep ec s nd sv) sc R.1)=true∧¬ (Qa3 (h.bun l)=0∧Qa3 (h.bun (Qc6 l (sgK num (sgX tgs (ep ec s nd sv) sc R.1))))=0)∧z=(if Qa3 (h.bun l)=0 then Qg3 (Qa3 (h.bun (Qc6 l (sgK num (sgX tgs (ep ec s nd sv) sc R.1))))) else Qg3 (Qa3 (h.bun l))))∧e=.returned (.tuple #[.agg #[.int .u64 0,.int .i64 0,.int .i64 0,.string ⟨#[]⟩,.int .u64 0,.int .u64 0,.int .i64 0,.string ⟨#[]⟩,.int .u64 0,.int .u64 0,.int .i64 0,.string ⟨#[]⟩,.int .u64 0,.int .u64 0,.int .u64 0,.int .u64 0,.int .u64 0,.slice none 0 0],.int .i64 z])) ∨
  (R.2=0∧Qgb (sgX tgs (ep ec s nd sv) sc R.1)=true∧Qa3 (h.bun l)=0∧Qa3 (h.bun (Qc6 l (sgK num (sgX tgs (ep ec s nd sv) sc R.1))))=0∧∃ (A:OA) (n c:Nat),e=.returned (.tuple #[Qbl h A n c,.int .i64 0])∧RdL (Qap (Qax w.heap.size) w') w'.heap.size A n (Qc6 l (sgK num (sgX tgs (ep ec s nd sv) sc R.1)))∧n≤c))→Q4t h l tgs num sc (ep ec s nd sv) k w e w'):=fun e w' h1 h2=>⟨h1,by rw[← hR];exact h2⟩
 have HLT:Hid (R.2=0→R.1.length=nt):=fun h0=>by rw[hR] at h0 ⊢;exact((Qhz _ _ _ h0).1).trans hN.1
 clear hS hT hBd hr hB hc hN hnt h64 h15 h15' hnum hs hnd hsv hk hkc hdat CT hR HBA HBB HSA HSB QA QE QZ;obtain⟨RA,RE,RZ⟩:=HR3.out _ HW0.out;have RA0:=hid RA;clear RA RE RZ;unfold Qbl Qbq at *;go_enter Tryz.func11,Tryz.ntmps11;go_wp2_with (first
  | (refine Qae rfl (.tmp 6) rfl _ rfl _ _ RA0.out rfl ?_)
  | fail)
 refine CT2.out.mono ?_;rintro e w1 ⟨hb,⟨h0,A1,n1,c1,rfl,hc1,hr1⟩|⟨h0,t,rfl⟩⟩
 case inr =>
  have Z1:=hid (Below.push HW0.out (Nat.le_of_eq HS0.out.symm) hb);have T1:=hid (HB0.out.trans (hb.mono HB0.out.size));have CN:=hid (Qmy T R.2 t w1 (HSW.out _ T1.out).2 (HSW.out _ T1.out).1.laid);have H0:=hid h0;clear hb h0 CT2 CPU;unfold Qhi at *;go_wp2_with fail;refine CN.out.mono ?_;rintro e w2 ⟨rfl,hb⟩;have Z2:=hid (Below.push Z1.out (Nat.le_of_eq HS0.out.symm) hb);have T2:=hid (T1.out.trans (hb.mono T1.out.size));have RZ2:=hid (HR3.out _ Z2.out).2.2;clear hb;go_wp2_with (first
   | (refine Qbp rfl 28 (.tmp 12) (.tmp 29) rfl _ rfl rfl _ _ RZ2.out Qb1 rfl rfl ?_;intro W' hrow' _ hoth hbel hsz;have HWB:=hid hbel;have HRO:=hid hrow';clear hbel hrow' hoth hsz)
   | fail)
  refine bodyPost_ret (Qh8 Tryz.results11 _ _ rfl HRO.out rfl) rfl ?_;exact HG.out _ _ (HWB.out _ _ T2.out (Nat.le_add_right _ 2)) (.inl ⟨R.2,H0.out,.inl ⟨H0.out,rfl⟩,rfl⟩)
 have Z1:=hid (Below.push HW0.out (Nat.le_of_eq HS0.out.symm) hb);have T1:=hid (HB0.out.trans (hb.mono HB0.out.size));have hn1:n1≤140737488355328:=by have h3:=hr1.1;have h4:=HLT.out h0;have:=H47.out;omega
 have hxr:RdX w1 w1.heap.size (Qlh At nt ct ec s nd sv sc A1 n1 c1) (sgX tgs (ep ec s nd sv) sc R.1):=⟨At,nt,ct,ec,s,nd,sv,A1,n1,c1,rfl,⟨HNT.out,H47.out⟩,⟨hc1,hn1⟩,HRN.out _ T1.out,H64.out,hr1,rfl,HEB.out⟩
 have CD:=hid (Qve S T _ _ w1.heap.size w1 (HSW.out _ T1.out).1.lds (HSW.out _ T1.out).2 hxr zr);obtain⟨RA,RE,RZ⟩:=HR3.out _ Z1.out;have e0:=Qab RE 0 rfl;have e1:=Qab RE 1 rfl;have e2:=Qab RE 2 rfl;have e3:=Qab RE 3 rfl;have H0:=hid h0;obtain⟨X,hX⟩:∃ X,X=sgX tgs (ep ec s nd sv) sc R.1:=⟨_,rfl⟩
 rw[← hX] at CD HG
 clear hb h0 hc1 hr1 hn1 hxr RA RE RZ CT2 hX;unfold Qlh at *;go_wp2_with fail;refine CD.out.mono ?_;rintro e w2 ⟨hb,⟨hg,v2,rfl,hob⟩|⟨hg,rfl⟩⟩
 case inr =>
  have Z2:=hid (Below.push Z1.out (Nat.le_of_eq HS0.out.symm) hb);have T2:=hid (T1.out.trans (hb.mono T1.out.size));have RZ2:=hid (HR3.out _ Z2.out).2.2;have HGG:=hid hg;clear hb hg CPU e0 e1 e2 e3 CD;go_wp2_with (first
   | (refine Qbp rfl 28 (.tmp 12) (.tmp 43) rfl _ rfl rfl _ _ RZ2.out Qb1 rfl rfl ?_;intro W' hrow' _ hoth hbel hsz;have HWB:=hid hbel;have HRO:=hid hrow';clear hbel hrow' hoth hsz)
   | fail)
  refine bodyPost_ret (Qh8 Tryz.results11 _ _ rfl HRO.out rfl) rfl ?_;exact HG.out _ _ (HWB.out _ _ T2.out (Nat.le_add_right _ 2)) (.inl ⟨100,by decide,.inr (.inl ⟨H0.out,HGG.out,rfl⟩),rfl⟩)
 have Z2:=hid (Below.push Z1.out (Nat.le_of_eq HS0.out.symm) hb);have T2:=hid (T1.out.trans (hb.mono T1.out.size));have RA2:=hid (HR3.out _ Z2.out).1;have hlen:=Qho (Qb7.1 hg);obtain⟨A2,c2,rfl,hc2,-,hr2⟩:=Ob.rdn hob rfl;have CU:=hid (show Calls Tryz.prog 25 #[Qbl h A n c,.agg #[.int .u64 11,.int .u64 (num:Int),.int .u64 0,.int .i64 0,.slice A2 (Qjh X).length c2]] w2 (PutZ h l (sgK num X) w2) from CPU.out (sgK num X) A2 (Qjh X).length c2 w2 T2.out ⟨(show 11<18446744073709551616 by decide),HNM.out,(show 0<18446744073709551616 by decide)⟩ ⟨hc2,by omega⟩ hr2);have HGG:=hid hg;clear hb hg hob hlen hc2 hr2 CPU e0 e1 e2 e3 CD
 unfold Qbl at CU;go_wp2_with (first
  | (refine Qae rfl (.tmp 6) rfl _ rfl _ _ RA2.out rfl ?_)
  | fail)
 refine CU.out.mono ?_;rintro e w3 ⟨hb,⟨h1,h2,A3,n3,c3,rfl,hrl,hc3⟩|⟨h1,z,hz0,hz,rfl⟩⟩
 ·
  have Z3:=hid (Below.push Z2.out (Nat.le_of_eq HS0.out.symm) hb);have T3:=hid (T2.out.trans (hb.mono T2.out.size));have RZ3:=hid (HR3.out _ Z3.out).2.2;have HK:=hid (And.intro h1 (And.intro h2 (And.intro hrl hc3)));clear hb h1 h2 hrl hc3 CU;unfold Qbl;go_wp2_with (first
   | (refine Qbp rfl 28 (.tmp 12) (.tmp 50) rfl _ rfl rfl _ _ RZ3.out Qb1 rfl rfl ?_;intro W' hrow' _ hoth hbel hsz;have HWB:=hid hbel;have HRO:=hid hrow';have HOT:=hid hoth;have HSI:=hid hsz;clear hbel hrow' hoth hsz)
   | fail)
  refine bodyPost_ret (Qh8 Tryz.results11 _ _ rfl HRO.out rfl) rfl ?_;have hlo:w.heap.size+3≤w2.heap.size:=by have:=Z2.out.size;have:=HS0.out;omega
  exact HG.out _ _ (HWB.out _ _ T3.out (Nat.le_add_right _ 2)) (.inr ⟨H0.out,HGG.out,HK.out.1,HK.out.2.1,A3,n3,c3,rfl,HK.out.2.2.1.maskgo (by omega) (fun p hp u hu=>(HOT.out p (by omega)).trans hu) (Nat.le_of_eq HSI.out.symm),HK.out.2.2.2⟩)
 ·
  have Z3:=hid (Below.push Z2.out (Nat.le_of_eq HS0.out.symm) hb);have T3:=hid (T2.out.trans (hb.mono T2.out.size));have RZ3:=hid (HR3.out _ Z3.out).2.2;have HK:=hid (And.intro h1 (And.intro hz0 hz));clear hb h1 hz0 hz CU;go_wp2_with (first
   | (refine Qbp rfl 28 (.tmp 12) (.tmp 50) rfl _ rfl rfl _ _ RZ3.out Qb1 rfl rfl ?_;intro W' hrow' _ hoth hbel hsz;have HWB:=hid hbel;have HRO:=hid hrow';clear hbel hrow' hoth hsz)
   | fail)
  refine bodyPost_ret (Qh8 Tryz.results11 _ _ rfl HRO.out rfl) rfl ?_;exact HG.out _ _ (HWB.out _ _ T3.out (Nat.le_add_right _ 2)) (.inl ⟨z,HK.out.2.1,.inr (.inr ⟨H0.out,HGG.out,HK.out.1,HK.out.2.2⟩),rfl⟩)
theorem Qiy:∀ (p a r:List Blk),r≠[]→frm a (p++r)=true→(∀ r',r'≠[]→frm (a++p) r'=true→frm a (p++r')=true)∧frm (a++p) r=true
 | [],a,r,_,h=>⟨fun r' _ h'=>by simpa using h',by simpa using h⟩
 | x::p,a,r,hr,h=>by
  rw[List.cons_append,frm] at h
  simp only[Bool.and_eq_true] at h;obtain⟨h1,h2,h3,h4,h5⟩:=h;obtain⟨g1,g2⟩:=Qiy p (a++[x]) r hr h5;rw[List.append_assoc] at g1 g2
  refine⟨fun r' hr' h'=>?_,g2⟩;rw[List.cons_append,frm]
  simp only[Bool.and_eq_true];refine⟨h1,?_,h3,h4,g1 r' hr' h'⟩;have e1:(p++r).isEmpty=false:=by cases p <;> cases r <;> simp_all
  have e2:(p++r').isEmpty=false:=by cases p <;> cases r' <;> simp_all
  rw[e1] at h2
  rw[e2]
  exact h2
theorem Qvp:∀ (p a:List Blk) (x:Blk) (r:List Blk),frm a (p++x::r)=true→∀ y∈a++p,y.num≠x.num:=fun p a x r h y hy=>by
 have h2:=(Qiy p a (x::r) (by simp) h).2;rw[frm] at h2
 simp only[Bool.and_eq_true,Bool.not_eq_true',List.any_eq_false,decide_eq_true_eq] at h2;exact h2.2.2.1 y hy
theorem Q4h(p a:List Blk)(x:Blk)(r:List Blk)(h:frm a (p++x::r)=true):Qdj x=true:=by
 have h2:=(Qiy p a (x::r) (by simp) h).2;rw[frm] at h2
 simp only[Bool.and_eq_true] at h2;exact h2.1
theorem Qvq(p a:List Blk)(z:Blk)(h:frm a (p++[z])=true):z.typ=1:=by
 have h2:=(Qiy p a [z] (by simp) h).2;rw[frm] at h2
 simp only[Bool.and_eq_true] at h2;simpa using h2.2.1
theorem Qup{l:List Blk}(h:1≤l.length):∃ p z,l=p++[z]∧l.length - 1=p.length:=by
 refine⟨l.dropLast,l.getLast (fun e=>by simp[e] at h),(List.dropLast_concat_getLast _).symm,by simp⟩
theorem Qkx(p:List Blk)(z x:Blk):Qc6 (p++[z]) x=p++[x,z]:=by
 unfold Qc6;simp
theorem bok{h:BH}{l:List Blk}(hz:Qa3 (h.bun l)=0):(1≤l.length∧l.length≤16)∧frm [] l=true:=by
 have hf:Qcy l=true:=(Qfa.1 hz).2.2;unfold Qcy at hf;simpa using hf
theorem Q13{h:BH}{l:List Blk}{x:Blk}(hz:Qa3 (h.bun l)=0)(h11:x.typ=11)(hx:Qdj x=true)(h15:l.length≤15)(hn:∀ y∈l,y.num≠x.num):Qa3 (h.bun (Qc6 l x))=0:=by
 obtain⟨h1,h2⟩:=bok hz;obtain⟨c1,c2,-⟩:=Qfa.1 hz;refine Qfa.2 ⟨c1,c2,?_⟩;show Qcy (Qc6 l x)=true;obtain⟨p,z,rfl,-⟩:=Qup h1.1;rw[Qkx]
 obtain⟨g1,g2⟩:=Qiy p [] [z] (by simp) h2;unfold Qcy;rw[Bool.and_eq_true,decide_eq_true_eq]
 refine⟨by simp at h15 ⊢;omega,g1 _ (by simp) ?_⟩;rw[List.nil_append] at g2 ⊢
 have hz1:=Qvq p [] z h2;rw[frm] at g2
 simp only[Bool.and_eq_true,Bool.not_eq_true',List.any_eq_false,decide_eq_true_eq] at g2;obtain⟨k1,-,k3,-,-⟩:=g2;rw[frm,frm,frm]
 have s1:Qcl x.typ=false:=by rw[h11];rfl
 have s2:Qcl z.typ=false:=by rw[hz1];rfl
 rw[s1,s2,hx,k1,h11,hz1]
 have a1:(p.any fun y=>decide (y.num=x.num))=false:=by
  simp only[List.any_eq_false,decide_eq_true_eq];exact fun y hy=>hn y (by simp[hy])
 have a2:((p++[x]).any fun y=>decide (y.num=z.num))=false:=by
  simp only[List.any_eq_false,decide_eq_true_eq];intro y hy;rcases List.mem_append.1 hy with hy|hy
  ·
   exact k3 y hy
  ·
   have:=hn z (by simp)
   simp at hy;rw[hy]
   exact fun e=>this e.symm
 rw[a1,a2]
 rfl
theorem Qt1{h:BH}{l:List Blk}{x:Blk}(h1:Qa3 (h.bun l)=0)(h2:Qa3 (h.bun (Qc6 l x))=0):Qdj x=true∧∀ y∈l,y.num≠x.num:=by
 obtain⟨b1,-⟩:=bok h1;obtain⟨-,b2⟩:=bok h2;obtain⟨p,z,rfl,-⟩:=Qup b1.1;rw[Qkx] at b2
 refine⟨Q4h p [] x [z] b2,fun y hy=>?_⟩;rcases List.mem_append.1 hy with hy|hy
 ·
  exact Qvp p [] x [z] b2 y (by simpa using hy)
 ·
  have e:p++[x,z]=(p++[x])++z::[]:=by simp
  rw[e] at b2
  have:=Qvp (p++[x]) [] z [] b2 x (by simp)
  simp at hy;rw[hy]
  exact fun e=>this e.symm
theorem Qqi{h:BH}{l:List Blk}{x:Blk}(h1:Qa3 (h.bun l)=0)(h2:Qa3 (h.bun (Qc6 l x))=0):(Qc6 l x).find? (Qbu x.num)=some x:=by
 have hn:=(Qt1 h1 h2).2;unfold Qc6;rw[List.find?_append,List.find?_eq_none.2 (fun y hy=>by unfold Qbu;simpa using hn y (List.mem_of_mem_take hy))]
 simp[Qbu]
theorem Qjs(f:Nat→List UInt8×Int)(k:LB):∀ l:List Nat,(Qbw f k l).2=0→∀ t∈l,(f t).2=0
 | [],_,t,ht=>by cases ht
 | a::l,h,t,ht=>by
  rw[Qbw] at h
  by_cases h1:(f a).2≠0
  ·
   rw[if_pos h1] at h;exact absurd h h1
  ·
   rw[if_neg h1] at h
   by_cases h2:(Qbw f k l).2≠0
   ·
    rw[if_pos h2] at h;exact absurd h h2
   ·
    rcases List.mem_cons.1 ht with rfl|ht
    ·
     simpa using h1
    ·
     exact Qjs f k l (by simpa using h2) t ht
theorem Q0s{b:Bun}{q:Nat}{sc:Int}{k n f:Nat}(h:(Qdg b q sc k n f).2=0):q=0∨∃ x∈b.blks,x.num=q:=by
 unfold Qdg at h;by_cases hz:Qa3 b=0
 ·
  rw[if_neg (by simpa using hz)] at h
  by_cases h7:sc<0∨7<sc
  ·
   rw[if_pos h7] at h;cases h
  ·
   rw[if_neg h7] at h
   by_cases hq:q=0
   ·
    exact .inl hq
   ·
    rw[if_neg hq] at h
    cases hf:b.blks.find? (Qbu q) with
    | none=>rw[hf] at h;cases h
    | some x=>exact .inr ⟨x,List.mem_of_find?_eq_some hf,by have:=List.find?_some hf;simpa [Qbu] using this⟩
 ·
  rw[if_pos hz] at h
  exact absurd h hz
theorem Q3s{h:BH}{l:List Blk}{tgs:List Nat}{num:Nat}{sc:Int}{k:LB}{x:Blk}(h0:(sgT (h.bun l) tgs num sc k).2=0)(h1:Qa3 (h.bun l)=0)(h2:Qa3 (h.bun (Qc6 l x))=0):∀ t∈tgs,x.num≠t:=fun t ht e=>by
 obtain⟨ok,hn⟩:=Qt1 h1 h2;rcases Q0s (Qjs _ k tgs h0 t ht) with h|⟨y,hy,hq⟩
 ·
  exact(Qeu.1 ok).2.1 (e.trans h)
 ·
  exact hn y hy (hq.trans e.symm)
theorem Q1r{b b':Bun}{tgs:List Nat}{num:Nat}{sc:Int}{src:Epd}{k:LB}(h0:(sgT b tgs num sc k).2=0)(hr:Qgb (sgX tgs src sc (sgT b tgs num sc k).1)=true)(h64:∀ t∈tgs,t<18446744073709551616)
  (hz:Qa3 b'=0) (hf:b'.blks.find? (Qbu num)=some (sgK num (sgX tgs src sc (sgT b tgs num sc k).1))) (hi:∀ t∈tgs,Qdg b' t sc 11 num 0=Qdg b t sc 11 num 0) :
  vrB b' num k=(some (sgX tgs src sc (sgT b tgs num sc k).1),0):=by
 unfold vrB;rw[if_neg (by simpa using hz),hf]
 have hrd:rdB (sgK num (sgX tgs src sc (sgT b tgs num sc k).1)).dat=some (sgX tgs src sc (sgT b tgs num sc k).1):=Qek.2 ⟨Qb7.1 hr,h64,rfl⟩;have hv:Qfd (fun t=>Qdg b' t sc 11 num 0) k tgs (sgT b tgs num sc k).1=0:=Qlt (fun t=>Qdg b t sc 11 num 0) _ k tgs h0 hi;show(if (11:Nat)≠11 then _ else _)=_;rw[if_neg (by decide),hrd]
 show(if Qfd (fun t=>Qdg b' t sc 11 num 0) k tgs (sgT b tgs num sc k).1≠0 then _ else _)=_;rw[hv,if_neg (by decide)]
theorem Qzs{h:BH}{l:List Blk}{tgs:List Nat}{num:Nat}{sc:Int}{src:Epd}{k:LB}(h0:(sgT (h.bun l) tgs num sc k).2=0)(hr:Qgb (sgX tgs src sc (sgT (h.bun l) tgs num sc k).1)=true)(h64:∀ t∈tgs,t<18446744073709551616)
  (h1:Qa3 (h.bun l)=0) (h2:Qa3 (h.bun (Qc6 l (sgK num (sgX tgs src sc (sgT (h.bun l) tgs num sc k).1))))=0) :
  vrB (h.bun (Qc6 l (sgK num (sgX tgs src sc (sgT (h.bun l) tgs num sc k).1)))) num k=(some (sgX tgs src sc (sgT (h.bun l) tgs num sc k).1),0) :=
 Q1r h0 hr h64 h2 (Qqi h1 h2) (fun t ht=>Qqc h l _ t sc 11 num 0 (Q3s h0 h1 h2 t ht) h1 h2)
theorem Q02{h:BH}{l:List Blk}{num q:Nat}{X:Bb}(h1:Qa3 (h.bun l)=0)(hr:Qgb X=true)(h64:∀ t∈X.tgs,t<18446744073709551616):Qjg q (Qc6 l (sgK num X))=Qjg q l++if X.tgs.contains q then [num] else []:=by
 obtain⟨b1,b2⟩:=bok h1;obtain⟨p,z,rfl,-⟩:=Qup b1.1;rw[Qkx]
 have hz:Qv6 q z=false:=by unfold Qv6;rw[Qvq p [] z b2];rfl
 have hk:Qv6 q (sgK num X)=X.tgs.contains q:=by
  unfold Qv6;have hrd:rdB (sgK num X).dat=some X:=Qek.2 ⟨Qb7.1 hr,h64,rfl⟩;rw[hrd]
  rfl
 unfold Qjg;rw[List.filter_append,List.filter_append,List.filter_cons,List.filter_cons,List.filter_nil,hz,hk]
 cases hc:X.tgs.contains q <;> simp[sgK]
theorem Q1w{num:Nat}{X:Bb}(hr:Qgb X=true)(hn:num≠0):Qdj (sgK num X)=true:=by
 have:=Qho (Qb7.1 hr)
 refine Qeu.2 ⟨⟨(by decide:1≤11),(by decide:11≤255)⟩,hn,.inl (by decide:(11:Nat)≠1),⟨(by decide:(0:Int)≤0),(by decide:(0:Int)≤2)⟩,?_⟩;show(Qjh X).length≤4096;omega
def gsK:List LB:=(sgT (hP9.bun [bP9]) [1,0] 2 7 [107]).1
def xK:Bb:=sgX [1,0] (ep 2 ⟨#[]⟩ 1 0) 7 gsK
def lK:List Blk:=Qc6 [bP9] (sgK 2 xK)
theorem Q1h:Qa3 (hP9.bun [bP9])=0:=by decide +kernel
theorem Q3j:(sgT (hP9.bun [bP9]) [1,0] 2 7 [107]).2=0:=by decide +kernel
theorem hk_rg:Qgb xK=true:=by
 obtain⟨h1,h2⟩:=Qhz (fun t=>Qdg (hP9.bun [bP9]) t 7 11 2 0) [107] [1,0] Q3j;exact Qb7.2 ⟨(by decide:1≤2),(by decide:2≤15),(by decide:([1,0]:List Nat).Nodup),h1,h2,(by decide:(0:Int)≤7),(by decide:(7:Int)≤7),(by decide:Qag (ep 2 ⟨#[]⟩ 1 0)=true),(by decide:Qby (ep 2 ⟨#[]⟩ 1 0)=false)⟩
theorem Qyk:∀ t∈([1,0]:List Nat),t<18446744073709551616:=by decide
theorem Qoz:Qa3 (hP9.bun lK)=0 :=
 Q13 Q1h rfl (Q1w hk_rg (by decide)) (by decide) (fun y hy=>by rw[List.mem_singleton.1 hy];exact(by decide:(1:Nat)≠2))
theorem Q4e:vrB (hP9.bun lK) 2 [107]=(some xK,0):=Qzs Q3j hk_rg Qyk Q1h Qoz
theorem Q2m:Qha [107] (Qdg (hP9.bun [bP9]) 1 7 11 2 0).1≠Qha [108] (Qdg (hP9.bun [bP9]) 1 7 11 2 0).1:=by decide +kernel
theorem Q2p:(Qdg (hP9.bun [bP9]) 1 7 11 2 0).2=0:=by decide +kernel
theorem Q4g:∃ r,gsK=Qha [107] (Qdg (hP9.bun [bP9]) 1 7 11 2 0).1::r:=by
 have h0:=Q3j;unfold gsK;unfold sgT at h0 ⊢;rw[Qbw] at h0 ⊢
 rw[if_neg (by simpa using Q2p)] at h0 ⊢
 by_cases h2:(Qbw (fun t=>Qdg (hP9.bun [bP9]) t 7 11 2 0) [107] [0]).2≠0
 ·
  rw[if_pos h2] at h0;exact absurd h0 h2
 ·
  rw[if_neg h2];exact⟨_,rfl⟩
theorem Q4d:vrB (hP9.bun lK) 2 [108]=(none,101):=by
 have hf:(hP9.bun lK).blks.find? (Qbu 2)=some (sgK 2 xK):=Qqi Q1h Qoz;have hrd:rdB (sgK 2 xK).dat=some xK:=Qek.2 ⟨Qb7.1 hk_rg,Qyk,rfl⟩;obtain⟨r,hr⟩:=Q4g;have hi:Qdg (hP9.bun lK) 1 7 11 2 0=Qdg (hP9.bun [bP9]) 1 7 11 2 0:=Qqc hP9 [bP9] (sgK 2 xK) 1 7 11 2 0 (by decide:(2:Nat)≠1) Q1h Qoz;have hv:Qfd (fun t=>Qdg (hP9.bun lK) t 7 11 2 0) [108] [1,0] gsK=101:=by
  rw[hr,Qfd,hi,if_neg (by simpa using Q2p),if_pos Q2m]
 unfold vrB;rw[if_neg (by simpa using Qoz),hf]
 show(if (11:Nat)≠11 then _ else _)=_;rw[if_neg (by decide),hrd]
 show(if Qfd (fun t=>Qdg (hP9.bun lK) t 7 11 2 0) [108] [1,0] gsK≠0 then (none,Qfd (fun t=>Qdg (hP9.bun lK) t 7 11 2 0) [108] [1,0] gsK) else (some xK,(0:Int)))=((none:Option Bb),(101:Int));rw[hv,if_pos (by decide)]
theorem Q4f:vrB (hP9.bun lK) 1 [107]=(none,100):=by
 have hf:(hP9.bun lK).blks.find? (Qbu 1)=some bP9:=by
  show lK.find? (Qbu 1)=_;unfold lK;rw[Qm5 [bP9] (sgK 2 xK) 1 (by decide:(2:Nat)≠1)]
  rfl
 unfold vrB;rw[if_neg (by simpa using Qoz),hf]
 rfl
theorem Q2r:Qjg 0 lK=[2]:=by
 unfold lK;rw[Q02 Q1h hk_rg Qyk]
 have h1:Qjg 0 [bP9]=[]:=by
  unfold Qjg;rw[List.filter_cons,show Qv6 0 bP9=false from rfl]
  rfl
 rw[h1]
 rfl
theorem Qvj:∀ x∈lK,x.dat.length≤5000:=fun x hx=>by
 have h1:=Qho (Qb7.1 hk_rg);have:lK=[sgK 2 xK,bP9]:=rfl
 rw[this] at hx
 rcases List.mem_cons.1 hx with rfl|hx
 ·
  show(Qjh xK).length≤5000;omega
 ·
  rw[List.mem_singleton.1 hx];decide
end Go.Proofs.YtbnfkjkoinbkgaaGreatDoor
