import Derived.Test.YtbnfkjkoinbkgaaGreatDoorVAbb
import Derived.Test.YtbnfkjkoinbkgaaGreatDoorVBunW6
import Derived.Test.YtbnfkjkoinbkgaaGreatDoorVIpT
namespace Go.Proofs.YtbnfkjkoinbkgaaGreatDoor
set_option maxRecDepth 100000
set_option maxHeartbeats 16000000
open Go.RowKit
open Go.Lib (hid)
def Qkj(r:LB×Int)(w:World)(e:Ending)(w':World):Prop:=Below w.heap.size w w'∧∃ (A:OA) (n c:Nat),e=.returned (.tuple #[.slice A n c,.int .i64 r.2])∧(n≤c∧c≤9223372036854775807)∧Rd w' w'.heap.size A n r.1
theorem Q4p(s:Nat)(h:s≤7):(bits BinOp.and IntKind.i64 (s:Int) 0==0)=true:=by
 have:s=0∨s=1∨s=2∨s=3∨s=4∨s=5∨s=6∨s=7:=by omega
 rcases this with rfl|rfl|rfl|rfl|rfl|rfl|rfl|rfl <;> rfl
theorem Q4o(s:Nat)(h:s≤7):(bits BinOp.and IntKind.i64 (s:Int) 1==1)=decide (s % 2=1):=by
 have:s=0∨s=1∨s=2∨s=3∨s=4∨s=5∨s=6∨s=7:=by omega
 rcases this with rfl|rfl|rfl|rfl|rfl|rfl|rfl|rfl <;> rfl
theorem Q4n(s:Nat)(h:s≤7):(bits BinOp.and IntKind.i64 (s:Int) 2==2)=decide (s / 2 % 2=1):=by
 have:s=0∨s=1∨s=2∨s=3∨s=4∨s=5∨s=6∨s=7:=by omega
 rcases this with rfl|rfl|rfl|rfl|rfl|rfl|rfl|rfl <;> rfl
theorem Q4m(s:Nat)(h:s≤7):(bits BinOp.and IntKind.i64 (s:Int) 4==4)=decide (s / 4=1):=by
 have:s=0∨s=1∨s=2∨s=3∨s=4∨s=5∨s=6∨s=7:=by omega
 rcases this with rfl|rfl|rfl|rfl|rfl|rfl|rfl|rfl <;> rfl
theorem Qs4(s:Nat)(h:s≤7):IntKind.u64.wrap (s:Int)=(s:Int):=by
 have:s=0∨s=1∨s=2∨s=3∨s=4∨s=5∨s=6∨s=7:=by omega
 rcases this with rfl|rfl|rfl|rfl|rfl|rfl|rfl|rfl <;> rfl
theorem Qg5(R:Bool)(L m:LB)(x y:Nat)(h:L.length≤x)(hm:m.length≤y):(if R=true then L++m else L).length≤x+y:=by
 split
 ·
  rw[List.length_append];omega
 ·
  omega
theorem Qqb(p:LB)(s kind num flags:Nat):Qva p s none kind num flags=(fun L4=>(fun L5=>L5++p) (if decide (s / 4=1)=true then L4++hds [kind,num,flags] else L4)) ([]++hds [s]):=by
 unfold Qva hds;by_cases h4:s / 4=1 <;> simp[h4]
theorem Qqa(p:LB)(s kind num flags:Nat)(x:Blk):Qva p s (some x) kind num flags =
  (fun L4=>(fun L7=>(fun L8=>(fun L11=>L11++(hd 2 x.dat.length++x.dat)) (if decide (s / 4=1)=true then L8++hds [kind,num,flags] else L8)) (if decide (s / 2 % 2=1)=true then L7++hds [x.typ,x.num,x.flg] else L7)) (if decide (s % 2=1)=true then L4++p else L4)) ([]++hds [s]):=by
 unfold Qva hds;by_cases h1:s % 2=1 <;> by_cases h2:s / 2 % 2=1 <;> by_cases h4:s / 4=1 <;> simp[h1,h2,h4]
theorem Qin(S:Snt)(h:BH)(l:List Blk)(A:OA)(n c B q:Nat)(sc:Int)(kind num flags:Nat)(w:World)(hS:Wd S w)(hBd:h.Bd)(hr:RdL w B A n l)(hB:B≤w.heap.size)(hc:n≤c)
  (hk:kind<18446744073709551616∧num<18446744073709551616∧flags<18446744073709551616) (hdat:∀ x∈l,x.dat.length≤5000) :
  Calls Tryz.prog 42 #[Qbl h A n c,.int .u64 (q:Int),.int .i64 sc,.int .u64 (kind:Int),.int .u64 (num:Int),.int .u64 (flags:Int)] w (Qkj (Qdg (h.bun l) q sc kind num flags) w):=by
 obtain⟨IP,hIP⟩:∃ IP,IP=Qdg (h.bun l) q sc kind num flags:=⟨_,rfl⟩
 rw[← hIP]
 unfold Qdg at hIP;have HU:=hid hIP;have HB0:=hid ((Below.refl w.heap.size w).alloc zr (hbx h h.crc A n c));have HW0:Hid (Below (w.heap.size+1) (w.alloc (hbx h h.crc A n c)) (w.alloc (hbx h h.crc A n c))):=Below.refl _ _;have HS0:Hid ((w.alloc (hbx h h.crc A n c)).heap.size=w.heap.size+1):=by show _=_;simp
 have HRW:=hid (fun (W:World) (hb:Below (w.heap.size+1) (w.alloc (hbx h h.crc A n c)) W)=>Qad (w:=w) rfl hb);have C1:=hid (Qlv S h l A n c B (w.alloc (hbx h h.crc A n c)) (hS.alloc _) hBd (hr.below (HB0.out.mono hB)) (Nat.le_trans hB HB0.out.size) hc);have CT:=hid (fun (W:World) (hb:Below w.heap.size w W)=>Qlz h l A n c B q W (hr.below (hb.mono hB)) (Nat.le_trans hB hb.size));have hB':=hB;have HD:=hid hdat;have HK:=hid hk;have HG:Hid (∀ e w' (r:LB×Int),IP=r→Below w.heap.size w w'∧(∃ (A:OA) (n c:Nat),e=.returned (.tuple #[.slice A n c,.int .i64 r.2])∧(n≤c∧c≤9223372036854775807)∧Rd w' w'.heap.size A n r.1)→Qkj (IP) w e w'):=fun _ _ _ e h=>by rw[e];exact h
 clear hr hB hc hS hdat hk hIP;by_cases hz:Qa3 (h.bun l)=0
 case neg =>
  have hz1:(Qa3 (h.bun l) != 0)=true:=by simp[hz]
  have HE:Hid ((if Qa3 (h.bun l)=0 then Qbx (h.bun l) else [])=([]:LB)):=if_neg hz;rw[HE.out] at C1
  have HV:Hid (IP=([],Qa3 (h.bun l))):=by show _=_;rw[HU.out,if_pos hz]
  generalize Qa3 (h.bun l)=z at *;clear HU hz HE;unfold Qbl at *;go_enter Tryz.func42,Tryz.ntmps42;go_wp2_with (first
   | (refine Qae rfl (.tmp 6) rfl _ rfl _ _ (HRW.out _ HW0.out) rfl ?_)
   | fail)
  refine C1.out.mono ?_;rintro e w1 ⟨hb,A1,n1,c1,rfl,hc1,hr1⟩;have B1:=hid (HB0.out.trans (hb.mono HB0.out.size));clear hb hr1;go_wp2_with fail;go_ret2
  exact HG.out _ _ _ HV.out ⟨B1.out,none,0,0,rfl,⟨Nat.le_refl _,by decide⟩,Rd.nil_⟩
 rw[if_pos hz] at C1
 rw[if_neg (by simpa using hz)] at HU
 have hwr:Wr (h.bun l):=(Qc8.1 (Qfa.1 hz).2.1).1;have HPL:=hid (Qib hwr);have eb:(h.bun l).blks=l:=rfl;rw[eb] at HU
 generalize Qbx (h.bun l)=PW at *;generalize Qa3 (h.bun l)=z at *;subst hz;clear hwr eb;by_cases hlo:sc<0
 ·
  have hd0:decide (sc<0)=true:=decide_eq_true hlo;have HV:Hid (IP=([],100)):=by show _=_;rw[HU.out,if_pos (by omega)]
  clear HU hlo;unfold Qbl at *;go_enter Tryz.func42,Tryz.ntmps42;go_wp2_with (first
   | (refine Qae rfl (.tmp 6) rfl _ rfl _ _ (HRW.out _ HW0.out) rfl ?_)
   | fail)
  refine C1.out.mono ?_;rintro e w1 ⟨hb,A1,n1,c1,rfl,hc1,hr1⟩;have B1:=hid (HB0.out.trans (hb.mono HB0.out.size));clear hb hr1;go_wp2_with fail;go_ret2
  exact HG.out _ _ _ HV.out ⟨B1.out,none,0,0,rfl,⟨Nat.le_refl _,by decide⟩,Rd.nil_⟩
 have hd0:decide (sc<0)=false:=decide_eq_false hlo;by_cases hhi:7<sc
 ·
  have hd7:decide (7<sc)=true:=decide_eq_true hhi;have HV:Hid (IP=([],100)):=by show _=_;rw[HU.out,if_pos (by omega)]
  clear HU hlo hhi;unfold Qbl at *;go_enter Tryz.func42,Tryz.ntmps42;go_wp2_with (first
   | (refine Qae rfl (.tmp 6) rfl _ rfl _ _ (HRW.out _ HW0.out) rfl ?_)
   | fail)
  refine C1.out.mono ?_;rintro e w1 ⟨hb,A1,n1,c1,rfl,hc1,hr1⟩;have B1:=hid (HB0.out.trans (hb.mono HB0.out.size));clear hb hr1;go_wp2_with fail;go_ret2
  exact HG.out _ _ _ HV.out ⟨B1.out,none,0,0,rfl,⟨Nat.le_refl _,by decide⟩,Rd.nil_⟩
 have hd7:decide (7<sc)=false:=decide_eq_false hhi;obtain⟨s,rfl⟩:∃ s:Nat,sc=(s:Int):=⟨sc.toNat,by omega⟩
 have hs7:s≤7:=by omega
 rw[if_neg (by omega)] at HU
 have HS7:=hid hs7;have hws:=Qs4 s hs7;have BT0:=hid (Q4p s hs7);have BT1:=hid (Q4o s hs7);have BT2:=hid (Q4n s hs7);have BT4:=hid (Q4m s hs7);have etn:(s:Int).toNat=s:=Int.toNat_natCast s;rw[etn] at HU
 clear hlo hhi hs7 etn;by_cases hq:q=0
 ·
  have hq1:((q:Int) != 0)=false:=by simp[hq]
  have HV:=HU.out;rw[if_pos hq] at HV
  have HV2:=hid HV;clear HV HU CT hq;unfold Qbl at *;go_enter Tryz.func42,Tryz.ntmps42;go_wp2_with (first
   | (refine Qae rfl (.tmp 6) rfl _ rfl _ _ (HRW.out _ HW0.out) rfl ?_)
   | fail)
  refine C1.out.mono ?_;rintro e w1 ⟨hb,A1,n1,c1,rfl,hc1,hr1⟩;have B1:=hid (Below.push HW0.out (Nat.le_of_eq HS0.out.symm) hb);have G0:Hid (w.heap.size+1≤w1.heap.size):=by show _≤_;have:=hb.size;have:=HS0.out;omega
  have R1:=hid hr1;clear hb hr1 hc1;go_wp2_with fail;refine(Qjz w1.heap.size (s:Int) _ (by simp) (Qad (w:=w1) rfl (Below.refl _ _))).mono ?_;rintro e w3 ⟨gp,gs,base,rfl,hP,hb3⟩;have hb13:Below w1.heap.size w1 w3:=zb.trans (hb3.mono (Qaa _ _));have B3:=hid (B1.out.trans (hb13.mono G0.out));have P3:=hid hP;have O3:=hid (RdOff.old hP (R1.out.below hb13));clear hb13 hb3 hP B1 R1;generalize w1.heap.size=g0 at *;unfold Qwt at *;go_wp2_with fail;have AB:Hid (Below w3.heap.size w3 (w3.alloc (zo11 s))):=zb;have CU:=hid (Qep 0 true [s] w3.heap.size 1 (w3.alloc (zo11 s)) base g0 gp gs (s:Int) (.slice none 0 0) [] BT0.out (P3.out.quiet AB.out) (RowAt.made w3 #[.int .u64 (s:Int)] 22) (PtOff.new P3.out zr (by simp)) rfl (by decide) (Nat.le_trans zr (by decide)) (fun y hy=>by have hy2:y=s:=(by simpa using hy);rw[hy2];have:=HS7.out;omega))
  unfold Qwt at CU;refine CU.out.mono ?_;rintro e w4 ⟨rfl,v4,hP,hR⟩;clear CU;obtain⟨L4,hL4⟩:∃ L,L=([]++hds [s]):=⟨_,rfl⟩
  rw[if_pos rfl,← hL4] at hP
  have E4:=hid hL4;have LL4:Hid (L4.length≤9):=by show _≤_;rw[hL4];exact Qg5 true _ _ 0 9 zr (Qgo [s])
  have P4:=hid hP;have hQ:PtRun g0 (.slice none 0 0) w3 v4 w4:=((PtRun.refl g0 (.slice none 0 0) w3).quiet AB.out).trans hR;have B4:=hid (B3.out.trans (hQ.below P3.out G0.out));have O4:=hid (O3.out.run hQ);clear hL4 hP hR hQ;clear AB;go_wp2_with fail;have AB:Hid (Below w4.heap.size w4 (w4.alloc (zo12 kind num flags))):=zb;have CU:=hid (Qep 4 (decide (s / 4=1)) [kind,num,flags] w4.heap.size 3 (w4.alloc (zo12 kind num flags)) base g0 gp gs (s:Int) v4 L4 BT4.out (P4.out.quiet AB.out) (RowAt.made w4 #[.int .u64 (kind:Int),.int .u64 (num:Int),.int .u64 (flags:Int)] 22) (PtOff.new P4.out zr (by simp)) rfl (by decide) (Nat.le_trans LL4.out (by decide)) (fun y hy=>by have hy2:y=kind∨y=num∨y=flags:=(by simpa using hy);exact hy2.elim (fun e=>e▸HK.out.1) (fun hy3=>hy3.elim (fun e=>e▸HK.out.2.1) (fun e=>e▸HK.out.2.2))))
  unfold Qwt at CU;refine CU.out.mono ?_;rintro e w5 ⟨rfl,v5,hP,hR⟩;clear CU;obtain⟨L5,hL5⟩:∃ L,L=(if (decide (s / 4=1))=true then L4++hds [kind,num,flags] else L4):=⟨_,rfl⟩
  rw[← hL5] at hP
  have E5:=hid hL5;have LL5:Hid (L5.length≤36):=by show _≤_;rw[hL5];exact Qg5 _ _ _ 9 27 LL4.out (Qgo [kind,num,flags])
  have P5:=hid hP;have hQ:PtRun g0 v4 w4 v5 w5:=((PtRun.refl g0 v4 w4).quiet AB.out).trans hR;have B5:=hid (B4.out.trans (hQ.below P4.out G0.out));have O5:=hid (O4.out.run hQ);clear hL5 hP hR hQ;clear AB;go_wp2_with fail;have CU:=hid (Qhh 0 true A1 n1 c1 PW w5 base g0 gp gs (s:Int) v5 L5 BT0.out P5.out O5.out (by have h1:=LL5.out;have h2:=HPL.out;have h3:=O5.out.1.1;omega));refine CU.out.mono ?_;rintro e w6 ⟨rfl,v6,hP,hR⟩;clear CU;obtain⟨L6,hL6⟩:∃ L,L=(L5++PW):=⟨_,rfl⟩
  rw[if_pos rfl,← hL6] at hP
  have E6:=hid hL6;have LL6:Hid (L6.length≤490):=by show _≤_;rw[hL6];exact Qg5 true _ _ 36 454 LL5.out (HPL.out)
  have P6:=hid hP;have hQ:PtRun g0 v5 w5 v6 w6:=hR;have B6:=hid (B5.out.trans (hQ.below P5.out G0.out));clear hL6 hP hR hQ;obtain⟨A6,c6,rfl,hcl,hcm,hr6⟩:=P6.out.ob.rd;have hc6:=And.intro hcl (show c6≤9223372036854775807 by unfold maxLen at hcm;omega);clear hcl hcm;have x0:w6.cell? ⟨g0,0,none⟩=some (.slice A6 L6.length c6):=Qab P6.out.h0 0 rfl;have RR:=hid (And.intro hc6 hr6);have HE:Hid (IP=(L6,0)):=by show _=_;rw[HV2.out,E6.out,E5.out,E4.out,Qqb]
  have T:=hid (HB0.out.trans (B6.out.mono (Nat.le_succ _)));clear hc6 hr6;go_wp2_with fail;go_ret2
  exact HG.out _ _ _ HE.out ⟨T.out,_,_,_,rfl,RR.out.1,RR.out.2⟩
 have hq1:((q:Int) != 0)=true:=by simp[hq]
 rw[if_neg hq] at HU
 clear hq;have HBG:=hid hB';clear hB';unfold Qbl at *;go_enter Tryz.func42,Tryz.ntmps42;go_wp2_with (first
  | (refine Qae rfl (.tmp 6) rfl _ rfl _ _ (HRW.out _ HW0.out) rfl ?_)
  | fail)
 refine C1.out.mono ?_;rintro e w1 ⟨hb,A1,n1,c1,rfl,hc1,hr1⟩;have B1:=hid (Below.push HW0.out (Nat.le_of_eq HS0.out.symm) hb);have G0:Hid (w.heap.size+1≤w1.heap.size):=by show _≤_;have:=hb.size;have:=HS0.out;omega
 have R1:=hid hr1;clear hb hr1 hc1;go_wp2_with fail;refine(Qjz w1.heap.size (s:Int) _ (by simp) (Qad (w:=w1) rfl (Below.refl _ _))).mono ?_;rintro e w3 ⟨gp,gs,base,rfl,hP,hb3⟩;have hb13:Below w1.heap.size w1 w3:=zb.trans (hb3.mono (Qaa _ _));have B3:=hid (B1.out.trans (hb13.mono G0.out));have P3:=hid hP;have O3:=hid (RdOff.old hP (R1.out.below hb13));clear hb13 hb3 hP B1 R1;generalize w1.heap.size=g0 at *;unfold Qwt at *;go_wp2_with fail;have AB:Hid (Below w3.heap.size w3 (w3.alloc (zo11 s))):=zb;have CU:=hid (Qep 0 true [s] w3.heap.size 1 (w3.alloc (zo11 s)) base g0 gp gs (s:Int) (.slice none 0 0) [] BT0.out (P3.out.quiet AB.out) (RowAt.made w3 #[.int .u64 (s:Int)] 22) (PtOff.new P3.out zr (by simp)) rfl (by decide) (Nat.le_trans zr (by decide)) (fun y hy=>by have hy2:y=s:=(by simpa using hy);rw[hy2];have:=HS7.out;omega))
 unfold Qwt at CU;refine CU.out.mono ?_;rintro e w4 ⟨rfl,v4,hP,hR⟩;clear CU;obtain⟨L4,hL4⟩:∃ L,L=([]++hds [s]):=⟨_,rfl⟩
 rw[if_pos rfl,← hL4] at hP
 have E4:=hid hL4;have LL4:Hid (L4.length≤9):=by show _≤_;rw[hL4];exact Qg5 true _ _ 0 9 zr (Qgo [s])
 have P4:=hid hP;have hQ:PtRun g0 (.slice none 0 0) w3 v4 w4:=((PtRun.refl g0 (.slice none 0 0) w3).quiet AB.out).trans hR;have B4:=hid (B3.out.trans (hQ.below P3.out G0.out));have O4:=hid (O3.out.run hQ);clear hL4 hP hR hQ;clear AB;have R4:=hid (HRW.out _ B4.out);go_wp2_with (first
  | (refine Qae rfl (.tmp 6) rfl _ rfl _ _ R4.out rfl ?_)
  | fail)
 refine(CT.out w4 (HB0.out.trans (B4.out.mono (Nat.le_succ _)))).mono ?_;rintro e w5 ⟨hb,⟨x,Ax,nd,cd,hf,h11,hmem,hbd,hle,hrx,rfl⟩|⟨hno,rfl⟩⟩
 case inr =>
  have T5:=hid (HB0.out.trans ((B4.out.trans (hb.mono (Nat.le_trans G0.out (Nat.le_trans (Nat.le_of_lt P4.out.l0) P4.out.lb)))).mono (Nat.le_succ _)));have HE:Hid (IP=([],100)):=by
   show _=_;rw[HU.out]
   cases hf:l.find? (Qbu q) with
   | none=>rfl
   | some x=>simp[hno x hf]
  clear hb hno;unfold Qe3 at *;go_wp2_with fail;go_ret2
  exact HG.out _ _ _ HE.out ⟨T5.out.alloc T5.out.size _,none,0,0,rfl,⟨Nat.le_refl _,by decide⟩,Rd.nil_⟩
 have HE0:Hid (IP=(Qva PW s (some x) kind num flags,0)):=by
  show _=_;rw[HU.out,hf]
  simp[h11]
 have HX5:Hid (x.dat.length≤5000):=HD.out x hmem;have HBD:=hid hbd;have HLE:=hid hle;have P5:=hid (P4.out.quiet hb);have O5:=hid (O4.out.quiet hb);have OD5:=hid (RdOff.old P5.out ((hrx.below (hb.mono (Nat.le_trans HBG.out (Nat.le_trans (Nat.le_succ _) (Nat.le_trans G0.out (Nat.le_trans (Nat.le_of_lt P4.out.l0) P4.out.lb)))))).more (Nat.le_trans HBG.out (Nat.le_trans (Nat.le_succ _) G0.out))));have B5:=hid (B4.out.trans (hb.mono (Nat.le_trans G0.out (Nat.le_trans (Nat.le_of_lt P4.out.l0) P4.out.lb))));clear hf h11 hmem hbd hle hrx hb HU R4 CT;unfold Qe3 at *;go_wp2_with fail;have AB:Hid (Below w5.heap.size w5 (w5.alloc (zo4 x.typ x.num x.flg x.crc Ax nd cd))):=zb
 have P6:=hid (P5.out.quiet AB.out);have O6:=hid (O5.out.quiet AB.out);have OD6:=hid (OD5.out.quiet AB.out);have X6:=hid (PtOff.new (w1:=(w5.alloc (zo4 x.typ x.num x.flg x.crc Ax nd cd))) P5.out (Nat.le_refl w5.heap.size) (by simp));have K6:=hid (Q21 (w:=w5) rfl (Below.refl _ (w5.alloc (zo4 x.typ x.num x.flg x.crc Ax nd cd))));have B6:=hid (B5.out.trans (AB.out.mono (Nat.le_trans G0.out (Nat.le_trans (Nat.le_of_lt P5.out.l0) P5.out.lb))));clear AB P5 O5 OD5 B5;generalize w5.alloc (zo4 x.typ x.num x.flg x.crc Ax nd cd)=w6 at *;generalize w5.heap.size=gx at *;have CU:=hid (Qhh 1 (decide (s % 2=1)) A1 n1 c1 PW w6 base g0 gp gs (s:Int) v4 L4 BT1.out P6.out O6.out (by have h1:=LL4.out;have h2:=HPL.out;have h3:=O6.out.1.1;omega))
 refine CU.out.mono ?_;rintro e w7 ⟨rfl,v7,hP,hR⟩;clear CU;obtain⟨L7,hL7⟩:∃ L,L=(if (decide (s % 2=1))=true then L4++PW else L4):=⟨_,rfl⟩
 rw[← hL7] at hP
 have E7:=hid hL7;have LL7:Hid (L7.length≤463):=by show _≤_;rw[hL7];exact Qg5 _ _ _ 9 454 LL4.out (HPL.out)
 have P7:=hid hP;have hQ:PtRun g0 v4 w6 v7 w7:=hR;have B7:=hid (B6.out.trans (hQ.below P6.out G0.out));have OD7:=hid (OD6.out.run hQ);have X7:=hid (X6.out.run hQ);have KX7:Hid (∀ jj,w7.cell? ⟨gx,jj,none⟩=w6.cell? ⟨gx,jj,none⟩):=fun jj=>X6.out.cell hQ
 clear hL7 hP hR hQ;have y0:w7.cell? ⟨gx,0,none⟩=some (.int .u64 (x.typ:Int)):=(KX7.out 0).trans K6.out.1;have y1:w7.cell? ⟨gx,1,none⟩=some (.int .u64 (x.num:Int)):=(KX7.out 1).trans K6.out.2.1;have y2:w7.cell? ⟨gx,2,none⟩=some (.int .u64 (x.flg:Int)):=(KX7.out 2).trans K6.out.2.2.1;go_wp2_with fail;clear y0 y1 y2;have AB:Hid (Below w7.heap.size w7 (w7.alloc (zo12 x.typ x.num x.flg))):=zb;have CU:=hid (Qep 2 (decide (s / 2 % 2=1)) [x.typ,x.num,x.flg] w7.heap.size 3 (w7.alloc (zo12 x.typ x.num x.flg)) base g0 gp gs (s:Int) v7 L7 BT2.out (P7.out.quiet AB.out) (RowAt.made w7 #[.int .u64 (x.typ:Int),.int .u64 (x.num:Int),.int .u64 (x.flg:Int)] 22) (PtOff.new P7.out zr (by simp)) rfl (by decide) (Nat.le_trans LL7.out (by decide)) (fun y hy=>by have hy2:y=x.typ∨y=x.num∨y=x.flg:=(by simpa using hy);exact hy2.elim (fun e=>e▸HBD.out.1) (fun hy3=>hy3.elim (fun e=>e▸HBD.out.2.1) (fun e=>e▸HBD.out.2.2))))
 unfold Qwt at CU;refine CU.out.mono ?_;rintro e w8 ⟨rfl,v8,hP,hR⟩;clear CU;obtain⟨L8,hL8⟩:∃ L,L=(if (decide (s / 2 % 2=1))=true then L7++hds [x.typ,x.num,x.flg] else L7):=⟨_,rfl⟩
 rw[← hL8] at hP
 have E8:=hid hL8;have LL8:Hid (L8.length≤490):=by show _≤_;rw[hL8];exact Qg5 _ _ _ 463 27 LL7.out (Qgo [x.typ,x.num,x.flg])
 have P8:=hid hP;have hQ:PtRun g0 v7 w7 v8 w8:=((PtRun.refl g0 v7 w7).quiet AB.out).trans hR;have B8:=hid (B7.out.trans (hQ.below P7.out G0.out));have OD8:=hid (OD7.out.run hQ);have X8:=hid (X7.out.run hQ);have KX8:Hid (∀ jj,w8.cell? ⟨gx,jj,none⟩=w7.cell? ⟨gx,jj,none⟩):=fun jj=>X7.out.cell hQ
 clear hL8 hP hR hQ;clear AB;have y4:w8.cell? ⟨gx,4,none⟩=some (.slice Ax nd cd):=((KX8.out 4).trans (KX7.out 4)).trans K6.out.2.2.2.2;go_wp2_with fail;clear y4;refine(Qso Ax nd cd w8.heap.size x.dat w8 zr OD8.out.1 HLE.out.2 HLE.out.1).mono ?_;rintro e w9 ⟨u,rfl,hu,hb⟩;obtain⟨k1,m1,Au,nu,cu,AL1,nl1,cl1,rfl⟩:=hu.form;have HU9:=hid hu;have P9:=hid (P8.out.quiet hb);have B9:=hid (B8.out.trans (hb.mono (Nat.le_trans G0.out (Nat.le_trans (Nat.le_of_lt P8.out.l0) P8.out.lb))));clear hu hb;go_wp2_with fail;refine(Qi1 (.mk 2 0 x.dat []) _ w9 w9.heap.size (Qv1 x.dat) (by rw[Qs3,List.length_append,Qbo];have:=Qa1 x.dat.length;have:=HX5.out;omega) zr HU9.out).mono ?_
 rintro e w10 ⟨u2,rfl,ho,hb⟩;rw[Qs3] at ho
 have HM:Hid ((hd 2 x.dat.length++x.dat).length≤5009):=by show _≤_;rw[List.length_append,Qbo];have:=Qa1 x.dat.length;have:=HX5.out;omega
 obtain⟨E,hE⟩:∃ E,E=hd 2 x.dat.length++x.dat:=⟨_,rfl⟩
 rw[← hE] at ho HM
 have HEE:=hid hE;clear hE;obtain⟨A10,c10,rfl,-,hoff⟩:=RdOff.new P9.out ho;have OC10:=hid hoff;have P10:=hid (P9.out.quiet hb);have B10:=hid (B9.out.trans (hb.mono (Nat.le_trans G0.out (Nat.le_trans (Nat.le_of_lt P9.out.l0) P9.out.lb))));clear ho hb hoff;go_wp2_with fail;have AB:Hid (Below w10.heap.size w10 (w10.alloc (zo12 kind num flags))):=zb;have CU:=hid (Qep 4 (decide (s / 4=1)) [kind,num,flags] w10.heap.size 3 (w10.alloc (zo12 kind num flags)) base g0 gp gs (s:Int) v8 L8 BT4.out (P10.out.quiet AB.out) (RowAt.made w10 #[.int .u64 (kind:Int),.int .u64 (num:Int),.int .u64 (flags:Int)] 22) (PtOff.new P10.out zr (by simp)) rfl (by decide) (Nat.le_trans LL8.out (by decide)) (fun y hy=>by have hy2:y=kind∨y=num∨y=flags:=(by simpa using hy);exact hy2.elim (fun e=>e▸HK.out.1) (fun hy3=>hy3.elim (fun e=>e▸HK.out.2.1) (fun e=>e▸HK.out.2.2))))
 unfold Qwt at CU;refine CU.out.mono ?_;rintro e w11 ⟨rfl,v11,hP,hR⟩;clear CU;obtain⟨L11,hL11⟩:∃ L,L=(if (decide (s / 4=1))=true then L8++hds [kind,num,flags] else L8):=⟨_,rfl⟩
 rw[← hL11] at hP
 have E11:=hid hL11;have LL11:Hid (L11.length≤517):=by show _≤_;rw[hL11];exact Qg5 _ _ _ 490 27 LL8.out (Qgo [kind,num,flags])
 have P11:=hid hP;have hQ:PtRun g0 v8 w10 v11 w11:=((PtRun.refl g0 v8 w10).quiet AB.out).trans hR;have B11:=hid (B10.out.trans (hQ.below P10.out G0.out));have OC11:=hid (OC10.out.run hQ);clear hL11 hP hR hQ;clear AB;go_wp2_with fail;have CU:=hid (Qhh 0 true A10 E.length c10 E w11 base g0 gp gs (s:Int) v11 L11 BT0.out P11.out OC11.out (by have h1:=LL11.out;have h2:=HM.out;omega));refine CU.out.mono ?_;rintro e w12 ⟨rfl,v12,hP,hR⟩;clear CU;obtain⟨L12,hL12⟩:∃ L,L=(L11++E):=⟨_,rfl⟩
 rw[if_pos rfl,← hL12] at hP
 have E12:=hid hL12;have LL12:Hid (L12.length≤5526):=by show _≤_;rw[hL12];exact Qg5 true _ _ 517 5009 LL11.out (HM.out)
 have P12:=hid hP;have hQ:PtRun g0 v11 w11 v12 w12:=hR;have B12:=hid (B11.out.trans (hQ.below P11.out G0.out));clear hL12 hP hR hQ;obtain⟨A12,c12,rfl,hcl,hcm,hr12⟩:=P12.out.ob.rd;have hc12:=And.intro hcl (show c12≤9223372036854775807 by unfold maxLen at hcm;omega);clear hcl hcm;have x0:w12.cell? ⟨g0,0,none⟩=some (.slice A12 L12.length c12):=Qab P12.out.h0 0 rfl;have RR:=hid (And.intro hc12 hr12);have HE:Hid (IP=(L12,0)):=by show _=_;rw[HE0.out,E12.out,E11.out,E8.out,E7.out,E4.out,HEE.out,Qqa]
 have T:=hid (HB0.out.trans (B12.out.mono (Nat.le_succ _)));clear hc12 hr12;go_wp2_with fail;go_ret2
 exact HG.out _ _ _ HE.out ⟨T.out,_,_,_,rfl,RR.out.1,RR.out.2⟩
end Go.Proofs.YtbnfkjkoinbkgaaGreatDoor
