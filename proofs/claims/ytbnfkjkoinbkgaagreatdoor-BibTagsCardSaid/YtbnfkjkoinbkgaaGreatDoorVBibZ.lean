import Derived.Test.YtbnfkjkoinbkgaaGreatDoorVAbb
import Derived.Test.YtbnfkjkoinbkgaaGreatDoorVBibQ
import Derived.Test.YtbnfkjkoinbkgaaGreatDoorVBunD
namespace Go.Proofs.YtbnfkjkoinbkgaaGreatDoor
set_option maxRecDepth 100000
set_option maxHeartbeats 16000000
open Go.RowKit
open Go.Lib (hid)
theorem Q03(q:Nat)(y:Blk):Qv6 q y=match cnB y.typ y.dat with|none=>false|some c=>c.tgs.contains q:=by
 unfold Qv6 cnB;by_cases h:y.typ=11
 ·
  rw[if_pos h,decide_eq_true h,Bool.true_and]
  rfl
 ·
  rw[if_neg h,decide_eq_false h,Bool.false_and]
theorem Qv7(q:Nat)(l:List Blk)(i:Nat)(hi:i<l.length):Qjg q (l.take (i+1))=Qjg q (l.take i)++(if Qv6 q l[i]=true then [l[i].num] else []):=by
 unfold Qjg;rw[List.take_add_one,List.getElem?_eq_getElem hi,List.filter_append,List.map_append]
 congr 1
 show(List.filter (Qv6 q) [l[i]]).map Blk.num=_;cases h:Qv6 q l[i]
 ·
  simp[List.filter,h]
 ·
  simp[List.filter,h]
def Q1e(L:List Nat)(w:World)(e:Ending)(w':World):Prop:=Below w.heap.size w w'∧∃ (A:OA) (n c:Nat),e=.returned (.slice A n c)∧n≤c∧RdN w' w'.heap.size A n L
theorem Qor(S:Snt)(T:Snb)(h:BH)(l:List Blk)(A:OA)(n c B q:Nat)(w:World)(hS:Wd S w)(hT:Ldb T w)(hBd:h.Bd)(hr:RdL w B A n l)(hB:B≤w.heap.size)(hc:n≤c)(hn20:n≤1000) :
  Calls Tryz.prog 14 #[Qbl h A n c,.int .u64 (q:Int)] w (Q1e (if Qa3 (h.bun l)=0 then Qjg q l else []) w):=by
 have HB0:Hid (Below w.heap.size w (w.alloc (hbx h h.crc A n c))):=zb;have HW0:Hid (Below (w.heap.size+1) (w.alloc (hbx h h.crc A n c)) (w.alloc (hbx h h.crc A n c))):=Below.refl _ _;have HS0:Hid ((w.alloc (hbx h h.crc A n c)).heap.size=w.heap.size+1):=by show _=_;simp
 have HRW:=hid (fun (W:World) (hb:Below (w.heap.size+1) (w.alloc (hbx h h.crc A n c)) W)=>Qad (w:=w) rfl hb);have HSW:=hid (fun (W:World) (hb:Below w.heap.size w W)=>And.intro (hS.below hb zr) (hT.below hb zr));have CC:=hid (Qhw S h l A n c B (w.alloc (hbx h h.crc A n c)) (HSW.out _ HB0.out).1 hBd (hr.below (HB0.out.mono hB)) (Nat.le_trans hB HB0.out.size) hc);have HR:=hid hr;have HBB:=hid hB;have HN20:=hid hn20;have HG:Hid (∀ (L:List Nat) (e:Ending) (w':World),Below w.heap.size w w'→(∃ (A:OA) (n c:Nat),e=.returned (.slice A n c)∧n≤c∧RdN w' w'.heap.size A n L)→Q1e L w e w'):=fun _ _ _ h1 h2=>⟨h1,h2⟩
 obtain⟨i0,hi0,hz0,hz1,hz2⟩:=info_parts Qmz;have HI:=hid hi0;have HI0:=hid hz0;have HI1:=hid hz1;have HI2:=hid hz2;have q1:=fun (W:World) (u:TypeId) (x:Value)=>run_eql_iface_nil (P:=Tryz.prog) (w:=W) 53 (by kernel_rfl) u x
 obtain⟨RL,hRL⟩:∃ RL,RL=if Qa3 (h.bun l)=0 then Qjg q l else []:=⟨_,rfl⟩
 rw[← hRL]
 have HRL:=hid hRL;clear hRL;clear hS hT hBd hr hB hc hn20 hi0 hz0 hz1 hz2;unfold Qbl at *;go_enter Tryz.func14,Tryz.ntmps14;go_wp2_with (first
  | (refine Qae rfl (.tmp 2) rfl _ rfl _ _ (HRW.out _ HW0.out) rfl ?_)
  | fail)
 refine CC.out.mono ?_;rintro e w1 ⟨rfl,hb⟩;have Z1:=hid (Below.push HW0.out (Nat.le_of_eq HS0.out.symm) hb);have T1:=hid (HB0.out.trans (hb.mono HB0.out.size));clear hb CC;by_cases hz:Qa3 (h.bun l)=0
 case neg =>
  have hz1:(Qa3 (h.bun l) != 0)=true:=by simp[hz]
  have HE:Hid (RL=[]):=HRL.out.trans (if_neg hz);generalize Qa3 (h.bun l)=z at *;clear hz HRL;go_wp2_with fail;go_ret;rw[HE.out]
  exact HG.out _ _ _ T1.out ⟨none,0,0,rfl,Nat.le_refl _,RdN.nil_⟩
 have hz1:(Qa3 (h.bun l) != 0)=false:=by simp[hz]
 have HE:Hid (RL=Qjg q l):=HRL.out.trans (if_pos hz);generalize Qa3 (h.bun l)=z at *;clear hz HRL;have x17:=Qab (HRW.out _ Z1.out) 17 rfl;go_wp2_with fail;clear x17;go_loopw [5,16] (fun s5 s16 wl=>∃ (i m:Nat),i≤n∧m≤i∧s16=.int .i64 (i:Int)∧Hid (wl.ownsRow (w.heap.size+1) 22 1 s5 m ((Qjg q (l.take i)).map uV))∧Hid (Below (w.heap.size+1) (w.alloc (hbx h h.crc A n c)) wl)) (fun _ s16 _=>n - (intOf s16).toNat)
 case atStart=>exact⟨0,0,Nat.zero_le _,Nat.le_refl _,rfl,by rw[List.take_zero];exact World.ownsRow_nil _ _ _ _,Z1.out⟩
 case round =>
  obtain⟨i,m,hi,hmi,rfl,OW,HT⟩:=hrel;clear Z1 T1;have hn20:=HN20.out;have TT:Hid (Below w.heap.size w wr):=HB0.out.trans (HT.out.mono (Nat.le_succ _));have HSZ:Hid (w.heap.size+1≤wr.heap.size):=by show _≤_;have:=HT.out.size;have:=HS0.out;omega
  by_cases hlt:i<n
  ·
   have hil:i<l.length:=by rw[HR.out.1];exact hlt
   obtain⟨b,ob,hA,hbB,hks⟩:=HR.out.2.1 (by omega);obtain⟨Ay,ny,cy,hk⟩:=hks.get i hil;have hsn:=Qv7 q l i hil;obtain⟨y,hy⟩:∃ y,y=l[i]:=⟨_,rfl⟩
   rw[← hy] at hk hsn
   rw[Q03] at hsn
   have HSN:=hid hsn;have hbw:b<w.heap.size:=Nat.lt_of_lt_of_le hbB HBB.out;have hkr:=hk.below (TT.out.mono HBB.out) hbB;have e0:=hkr.k0;have e1:=hkr.k1;have e2:=hkr.k2;have e3:=hkr.k3;have e4:=hkr.k4;have D1:Hid (Below wr.heap.size wr (wr.alloc (zo4 y.typ y.num y.flg y.crc Ay ny cy))):=zb;have RK:Hid ((wr.alloc (zo4 y.typ y.num y.flg y.crc Ay ny cy)).heap[wr.heap.size]?=some (.cells #[.int .u64 (y.typ:Int),.int .u64 (y.num:Int),.int .u64 (y.flg:Int),.int .i64 y.crc,.slice Ay ny cy] 43 (0,0))):=heap_alloc_new wr _;have TA:Hid (Below w.heap.size w (wr.alloc (zo4 y.typ y.num y.flg y.crc Ay ny cy))):=TT.out.alloc TT.out.size _
   have CR:=hid (Qf3 S T y.typ y.num y.flg y.crc Ay ny cy B y.dat (wr.alloc (zo4 y.typ y.num y.flg y.crc Ay ny cy)) (HSW.out _ TA.out).1 (HSW.out _ TA.out).2 (Nat.le_trans HBB.out TA.out.size) (hk.rd.below (TA.out.mono HBB.out)) hk.le);obtain⟨m0,m1,m2,m3,m4⟩:=Q21 (w:=wr) rfl (Below.refl _ (wr.alloc (zo4 y.typ y.num y.flg y.crc Ay ny cy)));have hi1:(i:Int)<(n:Int):=by omega
   have hii:decide ((i:Int)<(n:Int))=true:=decide_eq_true (by omega);have HA:=hid hA;clear hks hk hkr hbB hbw hy hil hsn;subst hA;unfold Qe3 at *;go_wp2_with fail;refine CR.out.mono ?_;clear e0 e1 e2 e3 e4 m0 m1 m2 m3 m4;rintro e w2 ⟨hb,⟨x,v,h1,rfl,hx⟩|⟨h1,t,rfl⟩⟩
   case inr =>
    have D2:=hid (D1.out.trans (hb.mono D1.out.size));have D3:Hid (Below wr.heap.size wr (w2.alloc zk2)):=D2.out.alloc D2.out.size _;have HS3:Hid (Qjg q (l.take (i+1))=Qjg q (l.take i)):=by show _=_;rw[HSN.out,h1];simp
    have OWN:=hid (Qem OW.out D3.out);have BEL:=hid (HT.out.trans (D3.out.mono HSZ.out));clear hb h1 CR HSN OW;unfold Qq0 Qer;go_wp2_with fail;go_roundw
    case rel =>
     refine⟨i+1,m,by omega,by omega,by go_num,?_,BEL.out⟩;show World.ownsRow _ _ _ _ _ _ _;rw[HS3.out]
     exact OWN.out
    case measure=>simp[intOf];omega
   have D2:=hid (D1.out.trans (hb.mono D1.out.size));have hxu:=hx.unmask;obtain⟨A2,n2,c2,sc,s,nd,sv,At,nt,ct,rfl,⟨hc2,hn2⟩,-,hN,-⟩:=hxu;obtain⟨so,hso⟩:∃ so,so=x.sco:=⟨_,rfl⟩
   rw[← hso]
   have D3:Hid (Below wr.heap.size wr (w2.alloc (zo2 A2 n2 c2 sc s nd sv so At nt ct))):=D2.out.alloc D2.out.size _;have BX:Hid (Below w2.heap.size w2 (w2.alloc (zo2 A2 n2 c2 sc s nd sv so At nt ct))):=zb;have CO:=hid (Qfz A2 n2 c2 w2.heap.size q x.tgs (w2.alloc (zo2 A2 n2 c2 sc s nd sv so At nt ct)) (hN.below BX.out) hn2);obtain⟨Q,hQ⟩:∃ Q,Q=x.tgs.contains q:=⟨_,rfl⟩
   rw[← hQ] at CO
   have HS3:Hid (Qjg q (l.take (i+1))=Qjg q (l.take i)++(if Q=true then [y.num] else [])):=by show _=_;rw[HSN.out,h1,hQ]
   have RX:Hid ((w2.alloc (zo2 A2 n2 c2 sc s nd sv so At nt ct)).heap[w2.heap.size]?=some (.cells #[.slice A2 n2 c2,.int .i64 sc,.string s,.int .u64 (nd:Int),.int .u64 (sv:Int),.int .i64 so,.slice At nt ct] 35 (0,0))):=heap_alloc_new w2 _;have x0:=Qab RX.out 0 rfl;have RK3:=hid (Qar RK.out ((hb.mono zr).trans (BX.out.mono hb.size)) (Qaf RK.out));have ky:=Qab RK3.out 1 rfl;clear hb h1 hx hN CR HSN hso hc2 hn2 hQ;unfold Qlh;cases Q with
   | false =>
    have HS4:Hid (Qjg q (l.take (i+1))=Qjg q (l.take i)):=by show _=_;rw[HS3.out];simp
    have OWN:=hid (Qem OW.out D3.out);have BEL:=hid (HT.out.trans (D3.out.mono HSZ.out));clear OW HS3;go_wp2_with fail;refine CO.out.mono ?_;rintro e w3 ⟨rfl,rfl⟩;go_wp2_with fail;go_roundw
    case rel =>
     refine⟨i+1,m,by omega,by omega,by go_num,?_,BEL.out⟩;show World.ownsRow _ _ _ _ _ _ _;rw[HS4.out]
     exact OWN.out
    case measure=>simp[intOf];omega
   | true =>
    have HS4:Hid ((Qjg q (l.take (i+1))).map uV=(Qjg q (l.take i)).map uV++[.int .u64 (y.num:Int)]):=by show _=_;rw[HS3.out,List.map_append];rfl
    clear HS3;go_wp2_with fail;refine CO.out.mono ?_;rintro e w3' ⟨rfl,rfl⟩;obtain⟨w3,hw3⟩:∃ w3,w3=(w2.alloc (zo2 A2 n2 c2 sc s nd sv so At nt ct)):=⟨_,rfl⟩
    rw[← hw3] at D3 ky
    rw[← hw3]
    clear hw3 x0 RX RK3 CO BX D2;have DW:Hid (Below wr.heap.size wr (w3.alloc (zo11 y.num))):=D3.out.alloc D3.out.size _;have OWN:=hid (Qem OW.out DW.out);have ROW:Hid (∀ q u,([.int .u64 (y.num:Int)]:List Value)[q]?=some u→(w3.alloc (zo11 y.num)).cell? ((⟨w3.heap.size,0,none⟩:Addr).add q)=some u):=fun q u hq=>by
     match q,hq with
     | 0,hq =>
      cases hq
      rw[show(⟨w3.heap.size,0,none⟩:Addr).add 0=⟨w3.heap.size,0,none⟩ by unfold Addr.add;simp,World.cell?_alloc_at _ _ _ _ rfl]
      rfl
     | q+1,hq=>simp at hq
    have BSZ:Hid (w.heap.size+1≤(w3.alloc (zo11 y.num)).heap.size):=Nat.le_trans HSZ.out DW.out.size;have hm20:m≤1000:=by have:=HN20.out;omega
    go_wp2_with (first
     | (at_builtin;refine wpList_append_lies _ rfl (.tmp 33) (.tmp 36) 32 rfl (w.heap.size+1) 22 i0 _ 1 8 Tryz.underlying32 HI.out HI0.out HI1.out HI2.out rfl (by decide) u5 m _ rfl OWN.out ⟨_,0,none⟩ 1 1 [.int .u64 (y.num:Int)] rfl rfl ROW.out (by intro u hu;simp at hu;subst hu;rfl) (by decide) (by unfold maxLen;omega) (by omega) BSZ.out _ rfl ?_;intro g2 cap2 w5 ho3 hg3 hat hlt3;have BG:=hid (Qis OW.out DW.out hg3 HSZ.out);have O3:=hid ho3;clear ho3 hg3 hat hlt3)
     | fail)
    have BEL:=hid (HT.out.trans BG.out);clear OW OWN ROW DW D3 BG ky;go_roundw
    case rel =>
     refine⟨i+1,m+1,by omega,by omega,by go_num,?_,BEL.out⟩;show World.ownsRow _ _ _ _ _ _ _;rw[HS4.out]
     exact O3.out
    case measure=>simp[intOf];omega
  ·
   obtain rfl:i=n:=by omega
   have hii:decide ((i:Int)<(i:Int))=false:=decide_eq_false (by omega);have hto:l.take i=l:=List.take_of_length_le (by rw[HR.out.1];exact Nat.le_refl _);rw[hto] at OW
   obtain⟨Au,cu,rfl,hcu,hru⟩:=Qob 22 OW.out;have HRU:=hid (And.intro hcu hru);have HTT:=hid TT.out;clear hcu hru OW HT TT hto;go_wp2_with fail;go_ret;rw[HE.out]
   exact HG.out _ _ _ HTT.out ⟨Au,m,cu,rfl,HRU.out.1,HRU.out.2⟩
end Go.Proofs.YtbnfkjkoinbkgaaGreatDoor
