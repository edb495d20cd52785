import Derived.Test.YtbnfkjkoinbkgaaGreatDoorVAbb
import Derived.Test.YtbnfkjkoinbkgaaGreatDoorVIpC
import Derived.Test.YtbnfkjkoinbkgaaGreatDoorVRfM
import Derived.Test.YtbnfkjkoinbkgaaGreatDoorVRfW
import Derived.Deep.CutRange
import Derived.Deep.DeepCutAuto
namespace Go.Proofs.YtbnfkjkoinbkgaaGreatDoor
set_option maxRecDepth 100000
set_option maxHeartbeats 16000000
open Go.RowKit
open Go.Lib (hid)
theorem Qn8(n:Nat)(w:World)(hn:n<18446744073709551616):Calls Tryz.prog 18 #[.int .u64 (n:Int)] w (Qbi 5 (hd 0 n) w):=by
 have C:=hid (Qej 0 n w (by decide) hn);have e:Qdh 0 n=hd 0 n:=by unfold Qdh;rw[if_neg (by decide)];rfl
 rw[e] at C
 go_enter Tryz.func18,Tryz.ntmps18;go_wp2_with fail;refine C.out.mono ?_;rintro e w1 ⟨v,rfl,ho,hb⟩;have HO:=hid ho;have HB:=hid hb;clear ho hb;go_wp2_with fail;go_ret;exact⟨_,rfl,HO.out,HB.out⟩
theorem Q3x(s:Nat)(h:s≤7):((s:Int) % 2==1)=decide (s % 2=1):=by
 have:s=0∨s=1∨s=2∨s=3∨s=4∨s=5∨s=6∨s=7:=by omega
 rcases this with rfl|rfl|rfl|rfl|rfl|rfl|rfl|rfl <;> rfl
theorem Q3w(s:Nat)(h:s≤7):((wrap64 ((s:Int) / 2)).tmod 2==1)=decide (s / 2 % 2=1):=by
 have e:wrap64 ((s:Int) / 2)=(s:Int) / 2:=by unfold wrap64;omega
 rw[e]
 have:s=0∨s=1∨s=2∨s=3∨s=4∨s=5∨s=6∨s=7:=by omega
 rcases this with rfl|rfl|rfl|rfl|rfl|rfl|rfl|rfl <;> rfl
theorem Q3v(s:Nat)(h:s≤7):(wrap64 ((s:Int) / 4)==1)=decide (s / 4=1):=by
 have e:wrap64 ((s:Int) / 4)=(s:Int) / 4:=by unfold wrap64;omega
 rw[e]
 have:s=0∨s=1∨s=2∨s=3∨s=4∨s=5∨s=6∨s=7:=by omega
 rcases this with rfl|rfl|rfl|rfl|rfl|rfl|rfl|rfl <;> rfl
theorem Run.off{v v1:Value}{w w1:World}{b j:Nat}{u:Value}(h:Run v w v1 w1)(hc:w.cell? ⟨b,j,none⟩=some u)(hb:b<w.heap.size)(hne:v.ownBlock≠some b):w1.cell? ⟨b,j,none⟩=some u:=(h.cell (p:=⟨b,j,none⟩) hb hne).trans hc
theorem Ob.ne_new{w:World}{base b:Nat}{t:TypeId}{v:Value}{l:LB}(h:Ob w base t v l)(hb:w.heap.size≤b):v.ownBlock≠some b:=fun e=>by have:=(World.ownsRow.lt h b e).2;omega
theorem Qn7(h:BH)(l:List Blk)(A:OA)(n c B q:Nat)(sc:Int)(kind num flags:Nat)(w:World)(hBd:h.Bd)(hr:RdL w B A n l)(hB:B≤w.heap.size)
  (hk:kind<18446744073709551616∧num<18446744073709551616∧flags<18446744073709551616) (hdat:∀ x∈l,x.dat.length≤5000) :
  Calls Tryz.prog 8 #[Qbl h A n c,.int .u64 (q:Int),.int .i64 sc,.int .u64 (kind:Int),.int .u64 (num:Int),.int .u64 (flags:Int)] w (Qkj (Qdg (h.bun l) q sc kind num flags) w):=by
 obtain⟨IP,hIP⟩:∃ IP,IP=Qdg (h.bun l) q sc kind num flags:=⟨_,rfl⟩
 rw[← hIP]
 unfold Qdg at hIP;have HU:=hid hIP;have HB0:=hid ((Below.refl w.heap.size w).alloc zr (hbx h h.crc A n c));have HW0:Hid (Below (w.heap.size+1) (w.alloc (hbx h h.crc A n c)) (w.alloc (hbx h h.crc A n c))):=Below.refl _ _;have HS0:Hid ((w.alloc (hbx h h.crc A n c)).heap.size=w.heap.size+1):=by show _=_;simp
 have HRW:=hid (fun (W:World) (hb:Below (w.heap.size+1) (w.alloc (hbx h h.crc A n c)) W)=>Qad (w:=w) rfl hb);have C1:=hid (Qmc h l A n c B (w.alloc (hbx h h.crc A n c)) hBd (hr.below (HB0.out.mono hB)) (Nat.le_trans hB HB0.out.size));have CF:=hid (fun (W:World) (hb:Below w.heap.size w W)=>Qjx h l A n c B q W (hr.below (hb.mono hB)) (Nat.le_trans hB hb.size));have CN:=hid Qn8;have HR:=hid hr;have HBB:=hid hB;have HD:=hid hdat;have HK:=hid hk;have HG:Hid (∀ e w' (r:LB×Int),IP=r→Below w.heap.size w w'∧(∃ (A:OA) (n c:Nat),e=.returned (.tuple #[.slice A n c,.int .i64 r.2])∧(n≤c∧c≤9223372036854775807)∧Rd w' w'.heap.size A n r.1)→Qkj IP w e w'):=fun _ _ _ e h=>by rw[e];exact h
 clear hr hB hdat hk hIP;by_cases hz:Qa3 (h.bun l)=0
 case neg =>
  have hz1:(Qa3 (h.bun l) != 0)=true:=by simp[hz]
  have HE:Hid ((if Qa3 (h.bun l)=0 then Qbx (h.bun l) else [])=([]:LB)):=if_neg hz;rw[HE.out] at C1
  have HV:Hid (IP=([],Qa3 (h.bun l))):=by show _=_;rw[HU.out,if_pos hz]
  generalize Qa3 (h.bun l)=z at *;clear HU hz HE;unfold Qbl at *;go_enter Tryz.func8,Tryz.ntmps8;go_wp2_with (first
   | (refine Qae rfl (.tmp 6) rfl _ rfl _ _ (HRW.out _ HW0.out) rfl ?_)
   | fail)
  refine C1.out.mono ?_;rintro e w1 ⟨hb,A1,n1,c1,rfl,hc1,hr1⟩;have B1:=hid (HB0.out.trans (hb.mono HB0.out.size));clear hb hr1;go_wp2_with fail;go_ret2
  exact HG.out _ _ _ HV.out ⟨B1.out,none,0,0,rfl,⟨Nat.le_refl _,by decide⟩,Rd.nil_⟩
 rw[if_pos hz] at C1
 rw[if_neg (by simpa using hz)] at HU
 have hwr:Wr (h.bun l):=(Qc8.1 (Qfa.1 hz).2.1).1;have HPL:=hid (Qib hwr);have eb:(h.bun l).blks=l:=rfl;rw[eb] at HU
 generalize Qbx (h.bun l)=PW at *;generalize Qa3 (h.bun l)=z at *;subst hz;clear hwr eb;by_cases hlo:sc<0
 ·
  have hd0:decide (sc<0)=true:=decide_eq_true hlo;have HV:Hid (IP=([],100)):=by show _=_;rw[HU.out,if_pos (by omega)]
  clear HU hlo;unfold Qbl at *;go_enter Tryz.func8,Tryz.ntmps8;go_wp2_with (first
   | (refine Qae rfl (.tmp 6) rfl _ rfl _ _ (HRW.out _ HW0.out) rfl ?_)
   | fail)
  refine C1.out.mono ?_;rintro e w1 ⟨hb,A1,n1,c1,rfl,hc1,hr1⟩;have B1:=hid (Below.push HW0.out (Nat.le_of_eq HS0.out.symm) hb);have T1:=hid (HB0.out.trans (B1.out.mono (Nat.le_succ _)));have R1:=hid hr1;have ROW1:=hid (HRW.out _ B1.out);clear hb hr1 hc1;go_wp2_with (first
   | (refine Qae rfl (.tmp 6) rfl _ rfl _ _ ROW1.out rfl ?_)
   | fail)
  refine(CF.out _ T1.out).mono ?_;rintro e w2 ⟨rfl,hb⟩;have B2:=hid (Below.push B1.out (Nat.le_of_eq HS0.out.symm) hb);have T2:=hid (HB0.out.trans (B2.out.mono (Nat.le_succ _)));have R2:=hid ((R1.out.below hb).more hb.size);clear hb R1 ROW1;skip
  go_wp2_with fail;go_ret2
  exact HG.out _ _ _ HV.out ⟨T2.out,none,0,0,rfl,⟨Nat.le_refl _,by decide⟩,Rd.nil_⟩
 have hd0:decide (sc<0)=false:=decide_eq_false hlo;by_cases hhi:7<sc
 ·
  have hd7:decide (7<sc)=true:=decide_eq_true hhi;have HV:Hid (IP=([],100)):=by show _=_;rw[HU.out,if_pos (by omega)]
  clear HU hlo hhi;unfold Qbl at *;go_enter Tryz.func8,Tryz.ntmps8;go_wp2_with (first
   | (refine Qae rfl (.tmp 6) rfl _ rfl _ _ (HRW.out _ HW0.out) rfl ?_)
   | fail)
  refine C1.out.mono ?_;rintro e w1 ⟨hb,A1,n1,c1,rfl,hc1,hr1⟩;have B1:=hid (Below.push HW0.out (Nat.le_of_eq HS0.out.symm) hb);have T1:=hid (HB0.out.trans (B1.out.mono (Nat.le_succ _)));have R1:=hid hr1;have ROW1:=hid (HRW.out _ B1.out);clear hb hr1 hc1;go_wp2_with (first
   | (refine Qae rfl (.tmp 6) rfl _ rfl _ _ ROW1.out rfl ?_)
   | fail)
  refine(CF.out _ T1.out).mono ?_;rintro e w2 ⟨rfl,hb⟩;have B2:=hid (Below.push B1.out (Nat.le_of_eq HS0.out.symm) hb);have T2:=hid (HB0.out.trans (B2.out.mono (Nat.le_succ _)));have R2:=hid ((R1.out.below hb).more hb.size);clear hb R1 ROW1;skip
  go_wp2_with fail;go_ret2
  exact HG.out _ _ _ HV.out ⟨T2.out,none,0,0,rfl,⟨Nat.le_refl _,by decide⟩,Rd.nil_⟩
 have hd7:decide (7<sc)=false:=decide_eq_false hhi;obtain⟨s,rfl⟩:∃ s:Nat,sc=(s:Int):=⟨sc.toNat,by omega⟩
 have hs7:s≤7:=by omega
 rw[if_neg (by omega)] at HU
 have HS7:=hid hs7;have hws:=Qs4 s hs7;have r1:=Q3x s hs7;have r2:=Q3w s hs7;have r4:=Q3v s hs7;have etn:(s:Int).toNat=s:=Int.toNat_natCast s;rw[etn] at HU
 clear hlo hhi hs7 etn;have HL0:Hid ((hd 0 s).length≤9):=by show _≤_;rw[Qbo];have:=Qa1 s;omega
 obtain⟨R1v,hR1⟩:∃ R,R=decide (s % 2=1):=⟨_,rfl⟩
 obtain⟨R2v,hR2⟩:∃ R,R=decide (s / 2 % 2=1):=⟨_,rfl⟩
 obtain⟨R4v,hR4⟩:∃ R,R=decide (s / 4=1):=⟨_,rfl⟩
 rw[← hR1] at r1
 rw[← hR2] at r2
 rw[← hR4] at r4
 have HR1:=hid hR1;have HR2:=hid hR2;have HR4:=hid hR4;clear hR1 hR2 hR4;by_cases hq:q=0
 ·
  have hq1:((q:Int) != 0)=false:=by simp[hq]
  have hq2:((q:Int)==0)=true:=by simp[hq]
  have HV:=HU.out;rw[if_pos hq] at HV
  have HV2:=hid HV;clear HV HU hq;generalize plc (Qbu q) l 0=PP at *;unfold Qbl at *;go_enter Tryz.func8,Tryz.ntmps8;go_wp2_with (first
   | (refine Qae rfl (.tmp 6) rfl _ rfl _ _ (HRW.out _ HW0.out) rfl ?_)
   | fail)
  refine C1.out.mono ?_;rintro e w1 ⟨hb,A1,n1,c1,rfl,hc1,hr1⟩;have B1:=hid (Below.push HW0.out (Nat.le_of_eq HS0.out.symm) hb);have T1:=hid (HB0.out.trans (B1.out.mono (Nat.le_succ _)));have R1:=hid hr1;have ROW1:=hid (HRW.out _ B1.out);clear hb hr1 hc1;go_wp2_with (first
   | (refine Qae rfl (.tmp 6) rfl _ rfl _ _ ROW1.out rfl ?_)
   | fail)
  refine(CF.out _ T1.out).mono ?_;rintro e w2 ⟨rfl,hb⟩;have B2:=hid (Below.push B1.out (Nat.le_of_eq HS0.out.symm) hb);have T2:=hid (HB0.out.trans (B2.out.mono (Nat.le_succ _)));have R2:=hid ((R1.out.below hb).more hb.size);clear hb R1 ROW1;go_wp2_with fail;refine(CN.out s w2 (by have:=HS7.out;omega)).mono ?_;rintro e w3 ⟨v3,rfl,ho,hb⟩;have O3:=hid ho;have D3:=hid hb;clear ho hb;go_upto_region 8 with fail
  go_cut [63] (fun c wx=>c=.bool false∧w3=wx)
  case first =>
   cases R1v with
   | true =>
    go_wp2_with fail;go_meet
    exact⟨rfl,rfl⟩
   | false =>
    go_wp2_with fail;go_meet
    exact⟨rfl,rfl⟩
  case rest =>
   obtain⟨rfl,rfl⟩:=hcut;go_upto_region 10 with fail
   go_cut [74] (fun c wx=>c=.bool false∧w3=wx)
   case first =>
    cases R2v with
    | true =>
     go_wp2_with fail;go_meet
     exact⟨rfl,rfl⟩
    | false =>
     go_wp2_with fail;go_meet
     exact⟨rfl,rfl⟩
   case rest =>
    obtain⟨rfl,rfl⟩:=hcut;obtain⟨v6,hv⟩:∃ v6,v6=v3:=⟨_,rfl⟩
    obtain⟨w6,hw⟩:∃ w6,w6=w3:=⟨_,rfl⟩
    subst hv hw;obtain⟨L6,hL⟩:∃ L,L=hd 0 s:=⟨_,rfl⟩
    have O6:=hid O3.out;have D6:=hid D3.out;rw[← hL] at O6
    have E6:=hid hL;have LL6:Hid (L6.length≤9):=by show _≤_;rw[hL];exact HL0.out
    clear hL O3 D3;go_upto_if 97 with fail
    go_cut [17] (fun v wx=>∃ v',v'=v∧Hid (Ob wx w2.heap.size 5 v' (if R4v=true then ((L6++hd 0 kind)++hd 0 num)++hd 0 flags else L6))∧Hid (Below w2.heap.size w2 wx))
    case first =>
     cases R4v with
     | true =>
      go_wp2_with fail;refine(CN.out kind w6 (HK.out.1)).mono ?_;rintro e w7 ⟨u7,rfl,ho,hb⟩;obtain⟨A7,c7,rfl,-,-,hr7⟩:=ho.rd;have HR7:=hid hr7;have O7:=hid (O6.out.below hb);have D7:=hid (D6.out.trans (hb.mono D6.out.size));clear ho hb hr7;go_wp2_with (first
       | (at_builtin;refine Qav rfl (.tmp 98) (.tmp 100) 29 rfl w2.heap.size 5 Tryz.underlying29 Qak v6 (L6) rfl O7.out _ A7 _ c7 (hd 0 kind) rfl HR7.out (by have h1:=LL6.out;have h2:=Qa1 kind;(try simp only[List.length_append]);(try simp only[Qbo]);omega) D7.out.size ?_;intro v8 w8 ho hru;have O8:=hid ho;have D8:=hid (D7.out.trans (hru.below O7.out D7.out.size));clear ho hru)
       | fail)
      refine(CN.out num w8 (HK.out.2.1)).mono ?_;rintro e w9 ⟨u9,rfl,ho,hb⟩;obtain⟨A9,c9,rfl,-,-,hr9⟩:=ho.rd;have HR9:=hid hr9;have O9:=hid (O8.out.below hb);have D9:=hid (D8.out.trans (hb.mono D8.out.size));clear ho hb hr9;go_wp2_with (first
       | (at_builtin;refine Qav rfl (.tmp 102) (.tmp 104) 29 rfl w2.heap.size 5 Tryz.underlying29 Qak v8 (L6++hd 0 kind) rfl O9.out _ A9 _ c9 (hd 0 num) rfl HR9.out (by have h1:=LL6.out;have h2:=Qa1 num;have h30:=Qa1 kind;(try simp only[List.length_append]);(try simp only[Qbo]);omega) D9.out.size ?_;intro v10 w10 ho hru;have O10:=hid ho;have D10:=hid (D9.out.trans (hru.below O9.out D9.out.size));clear ho hru)
       | fail)
      refine(CN.out flags w10 (HK.out.2.2)).mono ?_;rintro e w11 ⟨u11,rfl,ho,hb⟩;obtain⟨A11,c11,rfl,-,-,hr11⟩:=ho.rd;have HR11:=hid hr11;have O11:=hid (O10.out.below hb);have D11:=hid (D10.out.trans (hb.mono D10.out.size));clear ho hb hr11;go_wp2_with (first
       | (at_builtin;refine Qav rfl (.tmp 106) (.tmp 108) 29 rfl w2.heap.size 5 Tryz.underlying29 Qak v10 (L6++hd 0 kind++hd 0 num) rfl O11.out _ A11 _ c11 (hd 0 flags) rfl HR11.out (by have h1:=LL6.out;have h2:=Qa1 flags;have h30:=Qa1 kind;have h31:=Qa1 num;(try simp only[List.length_append]);(try simp only[Qbo]);omega) D11.out.size ?_;intro v12 w12 ho hru;have O12:=hid ho;have D12:=hid (D11.out.trans (hru.below O11.out D11.out.size));clear ho hru)
       | fail)
      go_meet
      exact⟨_,rfl,O12,D12⟩
     | false =>
      go_wp2_with fail;go_meet
      exact⟨_,rfl,O6,D6⟩
    case rest =>
     obtain⟨v20,hv,O20,D20⟩:=hcut;subst hv;obtain⟨w20,hw⟩:∃ w',w'=wc:=⟨_,rfl⟩
     subst hw;obtain⟨L20,hL⟩:∃ L,L=(if R4v=true then ((L6++hd 0 kind)++hd 0 num)++hd 0 flags else L6):=⟨_,rfl⟩
     rw[← hL] at O20
     have E20:=hid hL;have LL20:Hid (L20.length≤36):=by show _≤_;rw[hL];have h1:=LL6.out;have h2:=Qa1 kind;have h3:=Qa1 num;have h4:=Qa1 flags;split <;> (try simp only[List.length_append,Qbo]) <;> omega
     clear hL O6 D6;go_wp2_with (first
      | (at_builtin;refine Qav rfl (.tmp 112) (.tmp 113) 29 rfl w2.heap.size 5 Tryz.underlying29 Qak v20 L20 rfl O20.out _ A1 n1 c1 PW rfl ((R2.out.below D20.out).more D20.out.size) (by have h1:=LL20.out;have h2:=HPL.out;have h3:=R2.out.1;omega) D20.out.size ?_;intro v21 w21 ho hru;have O21:=hid ho;have D21:=hid (D20.out.trans (hru.below O20.out D20.out.size));obtain⟨A21,c21,rfl,hcl,hcm,hr21⟩:=O21.out.rd;have hc21:=And.intro hcl (show c21≤9223372036854775807 by unfold maxLen at hcm;omega);clear hcl hcm;generalize (L20++PW).length=NN at *;have RR:=hid (And.intro hc21 hr21);clear hc21 hr21;clear ho hru)
      | fail)
     have HE:Hid (IP=(L20++PW,0)):=by
      show _=_;rw[HV2.out,E20.out,E6.out,HR4.out,Qqb]
      simp[hds]
     have T:=hid (T2.out.trans (D21.out.mono T2.out.size));go_ret2
     exact HG.out _ _ _ HE.out ⟨T.out,_,_,_,rfl,RR.out.1,RR.out.2⟩
 have hq1:((q:Int) != 0)=true:=by simp[hq]
 have hq2:((q:Int)==0)=false:=by simp[hq]
 rw[if_neg hq] at HU
 clear hq;rcases Qfx (Qbu q) l 0 with ⟨h1,h2⟩|⟨k,hk,h1,h2⟩
 ·
  have HV:Hid (IP=([],100)):=by show _=_;rw[HU.out,h2]
  rw[h1] at CF
  clear h1 h2 HU;unfold Qbl at *;go_enter Tryz.func8,Tryz.ntmps8;go_wp2_with (first
   | (refine Qae rfl (.tmp 6) rfl _ rfl _ _ (HRW.out _ HW0.out) rfl ?_)
   | fail)
  refine C1.out.mono ?_;rintro e w1 ⟨hb,A1,n1,c1,rfl,hc1,hr1⟩;have B1:=hid (Below.push HW0.out (Nat.le_of_eq HS0.out.symm) hb);have T1:=hid (HB0.out.trans (B1.out.mono (Nat.le_succ _)));have R1:=hid hr1;have ROW1:=hid (HRW.out _ B1.out);clear hb hr1 hc1;go_wp2_with (first
   | (refine Qae rfl (.tmp 6) rfl _ rfl _ _ ROW1.out rfl ?_)
   | fail)
  refine(CF.out _ T1.out).mono ?_;rintro e w2 ⟨rfl,hb⟩;have B2:=hid (Below.push B1.out (Nat.le_of_eq HS0.out.symm) hb);have T2:=hid (HB0.out.trans (B2.out.mono (Nat.le_succ _)));have R2:=hid ((R1.out.below hb).more hb.size);clear hb R1 ROW1;skip
  go_wp2_with fail;go_ret2
  exact HG.out _ _ _ HV.out ⟨T2.out,none,0,0,rfl,⟨Nat.le_refl _,by decide⟩,Rd.nil_⟩
 rw[Nat.zero_add] at h1
 rw[h1] at CF
 have hkn:k<n:=by rw[← HR.out.1];exact hk
 have hk1:(k:Int)<(n:Int):=by omega
 have hk0:decide ((k:Int)<0)=false:=decide_eq_false (by omega);obtain⟨b,o,rfl,hbB,hks⟩:=HR.out.2.1 (by omega);obtain⟨Ax,nd,cd,hkk⟩:=hks.get k hk;have HKK:=hid hkk;have HX5:Hid (l[k]'hk∈l):=List.getElem_mem hk;have HBL:=hid hbB;generalize l[k]'hk=x at *;have hxd:=HD.out x HX5.out;have HXD:=hid hxd;clear hks hkk hbB h1 hxd HX5 HD hk;by_cases h11:x.typ=11
 ·
  have ht:((x.typ:Int)==11)=true:=by rw[h11];rfl
  have HV:Hid (IP=([],100)):=by show _=_;rw[HU.out,h2];simp[h11]
  clear h11 h2 HU;unfold Qbl at *;go_enter Tryz.func8,Tryz.ntmps8;go_wp2_with (first
   | (refine Qae rfl (.tmp 6) rfl _ rfl _ _ (HRW.out _ HW0.out) rfl ?_)
   | fail)
  refine C1.out.mono ?_;rintro e w1 ⟨hb,A1,n1,c1,rfl,hc1,hr1⟩;have B1:=hid (Below.push HW0.out (Nat.le_of_eq HS0.out.symm) hb);have T1:=hid (HB0.out.trans (B1.out.mono (Nat.le_succ _)));have R1:=hid hr1;have ROW1:=hid (HRW.out _ B1.out);clear hb hr1 hc1;go_wp2_with (first
   | (refine Qae rfl (.tmp 6) rfl _ rfl _ _ ROW1.out rfl ?_)
   | fail)
  refine(CF.out _ T1.out).mono ?_;rintro e w2 ⟨rfl,hb⟩;have B2:=hid (Below.push B1.out (Nat.le_of_eq HS0.out.symm) hb);have T2:=hid (HB0.out.trans (B2.out.mono (Nat.le_succ _)));have R2:=hid ((R1.out.below hb).more hb.size);clear hb R1 ROW1;have x17:=Qab (HRW.out w2 B2.out) 17 rfl;have hK2:=HKK.out.below (T2.out.mono HBB.out) HBL.out;have g0:=hK2.k0;clear hK2;go_wp2_with fail;go_ret2
  exact HG.out _ _ _ HV.out ⟨T2.out,none,0,0,rfl,⟨Nat.le_refl _,by decide⟩,Rd.nil_⟩
 have ht:((x.typ:Int)==11)=false:=by rw[beq_eq_false_iff_ne];omega
 have HV:Hid (IP=(Qva PW s (some x) kind num flags,0)):=by show _=_;rw[HU.out,h2];simp[h11]
 clear h11 h2 HU;have HND:Hid (x.dat.length=nd):=HKK.out.rd.1;have hwn:IntKind.u64.wrap (nd:Int)=(nd:Int):=by rw[IntKind.wrap_u64];have:=HKK.out.le.2;omega
 unfold Qbl at *;go_enter Tryz.func8,Tryz.ntmps8;go_wp2_with (first
  | (refine Qae rfl (.tmp 6) rfl _ rfl _ _ (HRW.out _ HW0.out) rfl ?_)
  | fail)
 refine C1.out.mono ?_;rintro e w1 ⟨hb,A1,n1,c1,rfl,hc1,hr1⟩;have B1:=hid (Below.push HW0.out (Nat.le_of_eq HS0.out.symm) hb);have T1:=hid (HB0.out.trans (B1.out.mono (Nat.le_succ _)));have R1:=hid hr1;have ROW1:=hid (HRW.out _ B1.out);clear hb hr1 hc1;go_wp2_with (first
  | (refine Qae rfl (.tmp 6) rfl _ rfl _ _ ROW1.out rfl ?_)
  | fail)
 refine(CF.out _ T1.out).mono ?_;rintro e w2 ⟨rfl,hb⟩;have B2:=hid (Below.push B1.out (Nat.le_of_eq HS0.out.symm) hb);have T2:=hid (HB0.out.trans (B2.out.mono (Nat.le_succ _)));have R2:=hid ((R1.out.below hb).more hb.size);clear hb R1 ROW1;have x17:=Qab (HRW.out w2 B2.out) 17 rfl;have hK2:=HKK.out.below (T2.out.mono HBB.out) HBL.out;have g0:=hK2.k0;clear hK2;go_wp2_with fail;refine(CN.out s w2 (by have:=HS7.out;omega)).mono ?_;rintro e w3 ⟨v3,rfl,ho,hb⟩;have O3:=hid ho;have D3:=hid hb;clear ho hb;clear x17 g0;go_upto_region 8 with fail
 go_cut [63] (fun c wx=>c=.bool R1v∧w3=wx)
 case first =>
  cases R1v with
  | true =>
   go_wp2_with fail;go_meet
   exact⟨rfl,rfl⟩
  | false =>
   go_wp2_with fail;go_meet
   exact⟨rfl,rfl⟩
 case rest =>
  obtain⟨rfl,rfl⟩:=hcut;go_upto_if 63 with fail
  go_cut [17] (fun v wx=>∃ v',v'=v∧Hid (Ob wx w2.heap.size 5 v' (if R1v=true then hd 0 s++PW else hd 0 s))∧Hid (Below w2.heap.size w2 wx))
  case first =>
   cases R1v with
   | true =>
    go_wp2_with (first
     | (at_builtin;refine Qav rfl (.tmp 64) (.tmp 65) 29 rfl w2.heap.size 5 Tryz.underlying29 Qak v3 (hd 0 s) rfl O3.out _ A1 n1 c1 PW rfl ((R2.out.below D3.out).more D3.out.size) (by have h1:=HL0.out;have h2:=HPL.out;have h3:=R2.out.1;omega) D3.out.size ?_;intro v4 w4 ho hru;have O4:=hid ho;have D4:=hid (D3.out.trans (hru.below O3.out D3.out.size));clear ho hru)
     | fail)
    go_meet
    exact⟨_,rfl,O4,D4⟩
   | false =>
    go_wp2_with fail;go_meet
    exact⟨_,rfl,O3,D3⟩
  case rest =>
   obtain⟨v5,hv,O5,D5⟩:=hcut;subst hv;obtain⟨w5,hw⟩:∃ w',w'=wc:=⟨_,rfl⟩
   subst hw;obtain⟨L5,hL⟩:∃ L,L=(if R1v=true then hd 0 s++PW else hd 0 s):=⟨_,rfl⟩
   rw[← hL] at O5
   have E5:=hid hL;have LL5:Hid (L5.length≤463):=by show _≤_;rw[hL];have h1:=HL0.out;have h2:=HPL.out;split <;> (try rw[List.length_append]) <;> omega
   clear hL O3 D3;go_upto_region 10 with fail
   go_cut [74] (fun c wx=>c=.bool R2v∧w5=wx)
   case first =>
    cases R2v with
    | true =>
     go_wp2_with fail;go_meet
     exact⟨rfl,rfl⟩
    | false =>
     go_wp2_with fail;go_meet
     exact⟨rfl,rfl⟩
   case rest =>
    obtain⟨rfl,rfl⟩:=hcut;go_upto_if 74 with fail
    go_cut [17] (fun v wx=>∃ v',v'=v∧Hid (Ob wx w2.heap.size 5 v' (if R2v=true then ((L5++hd 0 x.typ)++hd 0 x.num)++hd 0 x.flg else L5))∧Hid (Below w2.heap.size w2 wx))
    case first =>
     cases R2v with
     | true =>
      have x17:=Qab (HRW.out w5 (B2.out.trans (D5.out.mono (Nat.le_trans (Nat.le_of_eq HS0.out.symm) B2.out.size)))) 17 rfl;have hKK:=HKK.out.below ((T2.out.trans (D5.out.mono T2.out.size)).mono HBB.out) HBL.out;have g0:=hKK.k0;have g1:=hKK.k1;have g2:=hKK.k2;have g3:=hKK.k3;have g4:=hKK.k4;clear hKK;go_wp2_with fail;have AB:Hid (Below w5.heap.size w5 (w5.alloc (zo4 x.typ x.num x.flg x.crc Ax nd cd))):=zb;have O6:=hid (O5.out.below AB.out);have D6:=hid (D5.out.trans (AB.out.mono D5.out.size));have K6:=hid (Q21 (w:=w5) rfl (Below.refl _ (w5.alloc (zo4 x.typ x.num x.flg x.crc Ax nd cd))));have N6:=hid (O5.out.ne_new (Nat.le_refl w5.heap.size))
      have Z6:Hid (w5.heap.size<(w5.alloc (zo4 x.typ x.num x.flg x.crc Ax nd cd)).heap.size):=by show _<_;simp
      clear AB x17 g0 g1 g2 g3 g4;generalize w5.alloc (zo4 x.typ x.num x.flg x.crc Ax nd cd)=w6 at *;generalize w5.heap.size=gx at *;refine(CN.out x.typ w6 (HKK.out.bd.1)).mono ?_;rintro e w7 ⟨u7,rfl,ho,hb⟩;obtain⟨A7,c7,rfl,-,-,hr7⟩:=ho.rd;have HR7:=hid hr7;have O7:=hid (O6.out.below hb);have D7:=hid (D6.out.trans (hb.mono D6.out.size));have K7:Hid (w7.cell? ⟨gx,1,none⟩=some (.int .u64 (x.num:Int))∧w7.cell? ⟨gx,2,none⟩=some (.int .u64 (x.flg:Int))):=⟨(hb.cell (p:=⟨gx,1,none⟩) Z6.out).trans K6.out.2.1,(hb.cell (p:=⟨gx,2,none⟩) Z6.out).trans K6.out.2.2.1⟩
      have Z7:Hid (gx<w7.heap.size):=Nat.lt_of_lt_of_le Z6.out hb.size;clear ho hb hr7;go_wp2_with (first
       | (at_builtin;refine Qav rfl (.tmp 80) (.tmp 83) 29 rfl w2.heap.size 5 Tryz.underlying29 Qak v5 (L5) rfl O7.out _ A7 _ c7 (hd 0 x.typ) rfl HR7.out (by have h1:=LL5.out;have h2:=Qa1 x.typ;have h3:=Qa1 x.num;have h4:=Qa1 x.flg;(try simp only[List.length_append]);(try simp only[Qbo]);omega) D7.out.size ?_;intro v8 w8 ho hru;have O8:=hid ho;have D8:=hid (D7.out.trans (hru.below O7.out D7.out.size));have K8:Hid (w8.cell? ⟨gx,1,none⟩=some (.int .u64 (x.num:Int))∧w8.cell? ⟨gx,2,none⟩=some (.int .u64 (x.flg:Int))):=⟨hru.off K7.out.1 Z7.out N6.out,hru.off K7.out.2 Z7.out N6.out⟩;have Z8:Hid (gx<w8.heap.size):=Nat.lt_of_lt_of_le Z7.out hru.grown.size;have N8:=hid (hru.ne Z7.out N6.out);have y1:=K8.out.1;clear ho hru)
       | fail)
      clear y1;refine(CN.out x.num w8 (HKK.out.bd.2.1)).mono ?_;rintro e w9 ⟨u9,rfl,ho,hb⟩;obtain⟨A9,c9,rfl,-,-,hr9⟩:=ho.rd;have HR9:=hid hr9;have O9:=hid (O8.out.below hb);have D9:=hid (D8.out.trans (hb.mono D8.out.size));have K9:Hid (w9.cell? ⟨gx,1,none⟩=some (.int .u64 (x.num:Int))∧w9.cell? ⟨gx,2,none⟩=some (.int .u64 (x.flg:Int))):=⟨(hb.cell (p:=⟨gx,1,none⟩) Z8.out).trans K8.out.1,(hb.cell (p:=⟨gx,2,none⟩) Z8.out).trans K8.out.2⟩
      have Z9:Hid (gx<w9.heap.size):=Nat.lt_of_lt_of_le Z8.out hb.size;clear ho hb hr9;go_wp2_with (first
       | (at_builtin;refine Qav rfl (.tmp 85) (.tmp 88) 29 rfl w2.heap.size 5 Tryz.underlying29 Qak v8 (L5++hd 0 x.typ) rfl O9.out _ A9 _ c9 (hd 0 x.num) rfl HR9.out (by have h1:=LL5.out;have h2:=Qa1 x.typ;have h3:=Qa1 x.num;have h4:=Qa1 x.flg;(try simp only[List.length_append]);(try simp only[Qbo]);omega) D9.out.size ?_;intro v10 w10 ho hru;have O10:=hid ho;have D10:=hid (D9.out.trans (hru.below O9.out D9.out.size));have K10:Hid (w10.cell? ⟨gx,1,none⟩=some (.int .u64 (x.num:Int))∧w10.cell? ⟨gx,2,none⟩=some (.int .u64 (x.flg:Int))):=⟨hru.off K9.out.1 Z9.out N8.out,hru.off K9.out.2 Z9.out N8.out⟩;have Z10:Hid (gx<w10.heap.size):=Nat.lt_of_lt_of_le Z9.out hru.grown.size;have N10:=hid (hru.ne Z9.out N8.out);have y2:=K10.out.2;clear ho hru)
       | fail)
      clear y2;refine(CN.out x.flg w10 (HKK.out.bd.2.2)).mono ?_;rintro e w11 ⟨u11,rfl,ho,hb⟩;obtain⟨A11,c11,rfl,-,-,hr11⟩:=ho.rd;have HR11:=hid hr11;have O11:=hid (O10.out.below hb);have D11:=hid (D10.out.trans (hb.mono D10.out.size));have K11:Hid (w11.cell? ⟨gx,1,none⟩=some (.int .u64 (x.num:Int))∧w11.cell? ⟨gx,2,none⟩=some (.int .u64 (x.flg:Int))):=⟨(hb.cell (p:=⟨gx,1,none⟩) Z10.out).trans K10.out.1,(hb.cell (p:=⟨gx,2,none⟩) Z10.out).trans K10.out.2⟩
      have Z11:Hid (gx<w11.heap.size):=Nat.lt_of_lt_of_le Z10.out hb.size;clear ho hb hr11;go_wp2_with (first
       | (at_builtin;refine Qav rfl (.tmp 90) (.tmp 93) 29 rfl w2.heap.size 5 Tryz.underlying29 Qak v10 ((L5++hd 0 x.typ)++hd 0 x.num) rfl O11.out _ A11 _ c11 (hd 0 x.flg) rfl HR11.out (by have h1:=LL5.out;have h2:=Qa1 x.typ;have h3:=Qa1 x.num;have h4:=Qa1 x.flg;(try simp only[List.length_append]);(try simp only[Qbo]);omega) D11.out.size ?_;intro v12 w12 ho hru;have O12:=hid ho;have D12:=hid (D11.out.trans (hru.below O11.out D11.out.size));have K12:Hid (w12.cell? ⟨gx,1,none⟩=some (.int .u64 (x.num:Int))∧w12.cell? ⟨gx,2,none⟩=some (.int .u64 (x.flg:Int))):=⟨hru.off K11.out.1 Z11.out N10.out,hru.off K11.out.2 Z11.out N10.out⟩;have Z12:Hid (gx<w12.heap.size):=Nat.lt_of_lt_of_le Z11.out hru.grown.size;have N12:=hid (hru.ne Z11.out N10.out);clear ho hru)
       | fail)
      go_meet
      exact⟨_,rfl,O12,D12⟩
     | false =>
      go_wp2_with fail;go_meet
      exact⟨_,rfl,O5,D5⟩
    case rest =>
     obtain⟨v30,hv,O30,D30⟩:=hcut;subst hv;obtain⟨w30,hw⟩:∃ w',w'=wc:=⟨_,rfl⟩
     subst hw;obtain⟨L30,hL⟩:∃ L,L=(if R2v=true then ((L5++hd 0 x.typ)++hd 0 x.num)++hd 0 x.flg else L5):=⟨_,rfl⟩
     rw[← hL] at O30
     have E30:=hid hL;have LL30:Hid (L30.length≤490):=by show _≤_;rw[hL];have h1:=LL5.out;have h2:=Qa1 x.typ;have h3:=Qa1 x.num;have h4:=Qa1 x.flg;split <;> (try simp only[List.length_append,Qbo]) <;> omega
     clear hL O5 D5;go_upto_if 97 with fail
     go_cut [17] (fun v wx=>∃ v',v'=v∧Hid (Ob wx w2.heap.size 5 v' (if R4v=true then ((L30++hd 0 kind)++hd 0 num)++hd 0 flags else L30))∧Hid (Below w2.heap.size w2 wx))
     case first =>
      cases R4v with
      | true =>
       go_wp2_with fail;refine(CN.out kind w30 (HK.out.1)).mono ?_;rintro e w31 ⟨u31,rfl,ho,hb⟩;obtain⟨A31,c31,rfl,-,-,hr31⟩:=ho.rd;have HR31:=hid hr31;have O31:=hid (O30.out.below hb);have D31:=hid (D30.out.trans (hb.mono D30.out.size));clear ho hb hr31;go_wp2_with (first
        | (at_builtin;refine Qav rfl (.tmp 98) (.tmp 100) 29 rfl w2.heap.size 5 Tryz.underlying29 Qak v30 (L30) rfl O31.out _ A31 _ c31 (hd 0 kind) rfl HR31.out (by have h1:=LL30.out;have h2:=Qa1 kind;(try simp only[List.length_append]);(try simp only[Qbo]);omega) D31.out.size ?_;intro v32 w32 ho hru;have O32:=hid ho;have D32:=hid (D31.out.trans (hru.below O31.out D31.out.size));clear ho hru)
        | fail)
       refine(CN.out num w32 (HK.out.2.1)).mono ?_;rintro e w33 ⟨u33,rfl,ho,hb⟩;obtain⟨A33,c33,rfl,-,-,hr33⟩:=ho.rd;have HR33:=hid hr33;have O33:=hid (O32.out.below hb);have D33:=hid (D32.out.trans (hb.mono D32.out.size));clear ho hb hr33;go_wp2_with (first
        | (at_builtin;refine Qav rfl (.tmp 102) (.tmp 104) 29 rfl w2.heap.size 5 Tryz.underlying29 Qak v32 (L30++hd 0 kind) rfl O33.out _ A33 _ c33 (hd 0 num) rfl HR33.out (by have h1:=LL30.out;have h2:=Qa1 num;have h30:=Qa1 kind;(try simp only[List.length_append]);(try simp only[Qbo]);omega) D33.out.size ?_;intro v34 w34 ho hru;have O34:=hid ho;have D34:=hid (D33.out.trans (hru.below O33.out D33.out.size));clear ho hru)
        | fail)
       refine(CN.out flags w34 (HK.out.2.2)).mono ?_;rintro e w35 ⟨u35,rfl,ho,hb⟩;obtain⟨A35,c35,rfl,-,-,hr35⟩:=ho.rd;have HR35:=hid hr35;have O35:=hid (O34.out.below hb);have D35:=hid (D34.out.trans (hb.mono D34.out.size));clear ho hb hr35;go_wp2_with (first
        | (at_builtin;refine Qav rfl (.tmp 106) (.tmp 108) 29 rfl w2.heap.size 5 Tryz.underlying29 Qak v34 (L30++hd 0 kind++hd 0 num) rfl O35.out _ A35 _ c35 (hd 0 flags) rfl HR35.out (by have h1:=LL30.out;have h2:=Qa1 flags;have h30:=Qa1 kind;have h31:=Qa1 num;(try simp only[List.length_append]);(try simp only[Qbo]);omega) D35.out.size ?_;intro v36 w36 ho hru;have O36:=hid ho;have D36:=hid (D35.out.trans (hru.below O35.out D35.out.size));clear ho hru)
        | fail)
       go_meet
       exact⟨_,rfl,O36,D36⟩
      | false =>
       go_wp2_with fail;go_meet
       exact⟨_,rfl,O30,D30⟩
     case rest =>
      obtain⟨v40,hv,O40,D40⟩:=hcut;subst hv;obtain⟨w40,hw⟩:∃ w',w'=wc:=⟨_,rfl⟩
      subst hw;obtain⟨L40,hL⟩:∃ L,L=(if R4v=true then ((L30++hd 0 kind)++hd 0 num)++hd 0 flags else L30):=⟨_,rfl⟩
      rw[← hL] at O40
      have E40:=hid hL;have LL40:Hid (L40.length≤517):=by show _≤_;rw[hL];have h1:=LL30.out;have h2:=Qa1 kind;have h3:=Qa1 num;have h4:=Qa1 flags;split <;> (try simp only[List.length_append,Qbo]) <;> omega
      clear hL O30 D30;have x17:=Qab (HRW.out w40 (B2.out.trans (D40.out.mono (Nat.le_trans (Nat.le_of_eq HS0.out.symm) B2.out.size)))) 17 rfl;have hKK:=HKK.out.below ((T2.out.trans (D40.out.mono T2.out.size)).mono HBB.out) HBL.out;have g4:=hKK.k4;have RX:=hid (hKK.rd);clear hKK;go_wp2_with fail;have CH:=hid (Qej 2 nd w40 (by decide) (by have:=HKK.out.le.2;omega));have eh:Qdh 2 nd=hd 2 nd:=by unfold Qdh;rw[if_neg (by decide)];rfl
      rw[eh] at CH
      clear eh;refine CH.out.mono ?_;rintro e w41 ⟨u41,rfl,ho,hb⟩;obtain⟨A41,c41,rfl,-,-,hr41⟩:=ho.rd;have HR41:=hid hr41;have O41:=hid (O40.out.below hb);have D41:=hid (D40.out.trans (hb.mono D40.out.size));clear ho hb hr41 x17 g4;go_wp2_with (first
       | (at_builtin;refine Qav rfl (.tmp 121) (.tmp 125) 29 rfl w2.heap.size 5 Tryz.underlying29 Qak v40 L40 rfl O41.out _ A41 _ c41 (hd 2 nd) rfl HR41.out (by have h1:=LL40.out;have h2:=Qa1 nd;simp only[Qbo];omega) D41.out.size ?_;intro v42 w42 ho hru;have O42:=hid ho;have D42:=hid (D41.out.trans (hru.below O41.out D41.out.size));clear ho hru)
       | (at_builtin;refine Qav rfl (.tmp 127) (.tmp 128) 29 rfl w2.heap.size 5 Tryz.underlying29 Qak v42 (L40++hd 2 nd) rfl O42.out _ Ax nd cd x.dat rfl ((HKK.out.rd.below ((T2.out.trans (D42.out.mono T2.out.size)).mono HBB.out))) (by have h1:=LL40.out;have h2:=Qa1 nd;have h3:=HXD.out;have h4:=HND.out;(try simp only[List.length_append]);(try simp only[Qbo]);omega) D42.out.size ?_;intro v43 w43 ho hru;have O43:=hid ho;have D43:=hid (D42.out.trans (hru.below O42.out D42.out.size));obtain⟨A43,c43,rfl,hcl,hcm,hr43⟩:=O43.out.rd;have hc43:=And.intro hcl (show c43≤9223372036854775807 by unfold maxLen at hcm;omega);clear hcl hcm;generalize (L40++hd 2 nd++x.dat).length=NN at *;have RR:=hid (And.intro hc43 hr43);clear hc43 hr43;clear ho hru)
       | fail)
      have HE:Hid (IP=(L40++hd 2 nd++x.dat,0)):=by
       show _=_;rw[HV.out,E40.out,E30.out,E5.out,HR1.out,HR2.out,HR4.out,← HND.out,Qqa]
       simp[hds]
      have T:=hid (T2.out.trans (D43.out.mono T2.out.size));go_ret2
      exact HG.out _ _ _ HE.out ⟨T.out,_,_,_,rfl,RR.out.1,RR.out.2⟩
end Go.Proofs.YtbnfkjkoinbkgaaGreatDoor
