import Derived.Test.YtbnfkjkoinbkgaaGreatDoorVAbb
import Derived.Test.YtbnfkjkoinbkgaaGreatDoorVBibC
import Derived.Test.YtbnfkjkoinbkgaaGreatDoorVIpC
import Derived.Test.YtbnfkjkoinbkgaaGreatDoorVIpN
import Derived.Test.YtbnfkjkoinbkgaaGreatDoorVRfW
import Derived.Test.YtbnfkjkoinbkgaaGreatDoorVSame
import Derived.Test.YtbnfkjkoinbkgaaGreatDoorVShaU
import Derived.Deep.AppendLies
namespace Go.Proofs.YtbnfkjkoinbkgaaGreatDoor
set_option maxRecDepth 100000
set_option maxHeartbeats 16000000
open Go.RowKit
open Go.Lib (hid)
theorem Ow.rd_n{w:World}{base n:Nat}{t:TypeId}{v:Value}{l:List (BitVec 32)}(h:Ow w base t v l)(hl:l.length=n):∃ (A:OA) (c:Nat),v=.slice A n c∧n≤c∧c≤maxLen∧Rw w w.heap.size A n l:=by
 subst hl;exact h.rd
theorem Qku(A:OA)(n c:Nat)(l:LB)(w:World)(hr:Rd w w.heap.size A n l)(_hnc:n≤c)(hn:n≤1099511627776) :
  Calls Tryz.prog 21 #[.slice A n c] w (Qbi 5 (Qkq l) w):=by
 have hlen:=hr.1;have HLN:=hid hlen;have ho0:Ob (w.alloc (.cells #[] 5)) w.heap.size 5 (.slice (some ⟨w.heap.size,0,none⟩) 0 0) []:=Ob.lit w [] #[] rfl zr 0 rfl (by decide);have HO0:=hid ho0;have HR0:=hid (hr.alloc zr (.cells #[] 5));have HB0:=hid ((Below.refl w.heap.size w).alloc zr (.cells #[] 5));have HBN:Hid (([]:LB).length+n≤140737488355328):=by show _≤_;rw[List.length_nil];omega
 have CP:=hid (fun W=>Qxg n hn W);obtain⟨KF,hKF⟩:∃ K,K=(wc st0.list).toArray:=⟨_,rfl⟩
 have cf:=Qvs;rw[← hKF] at cf
 have CF:=hid cf;have HKF:=hid hKF;clear hr hlen ho0 cf hKF;go_enter Tryz.func21,Tryz.ntmps21;go_wp2_with (first
  | (at_builtin;refine Qam rfl (.tmp 8) (.tmp 9) 29 rfl w.heap.size 5 Tryz.underlying29 Qak _ [] rfl HO0.out w.heap.size A n c l rfl HR0.out HBN.out (Qaa _ _) ?_;intro v1 w1 ho1 hb1;have O1:=hid ho1;have B1:=hid (HB0.out.trans hb1);clear ho1 hb1)
  | fail)
 refine(CP.out _).mono ?_;rintro e w2 ⟨v2,rfl,ho2,hb2⟩;obtain⟨np,hnp⟩:∃ m,m=(Qkz n).length:=⟨_,rfl⟩
 obtain⟨A2,c2,rfl,-,-,hr2⟩:=Ob.rd_n ho2 hnp.symm;have hpl:=Qid n;have O2:=hid (O1.out.below hb2);have R2:=hid hr2;have B2:=hid (B1.out.trans (hb2.mono B1.out.size));obtain⟨T,hT⟩:∃ T,T=[]++l++Qkz n:=⟨_,rfl⟩
 obtain⟨M,hM⟩:∃ M,M=T.length / 64:=⟨_,rfl⟩
 obtain⟨L,hL⟩:∃ L,L=T.length:=⟨_,rfl⟩
 have hTl:T.length=n+np:=by rw[hT,List.nil_append,List.length_append,HLN.out,hnp]
 have hLM:L=64*M:=by omega
 have HBN2:Hid ((([]:LB)++l).length+np≤140737488355328):=by show _≤_;rw[List.nil_append,HLN.out];omega
 have hLb:L≤1099511627900:=by omega
 have HT:=hid hT;have HL:=hid hL;have HM:=hid hM;have HLM:=hid hLM;clear ho2 hb2 hr2 hnp hpl hTl hT hL hM hLM;go_wp2_with (first
  | (at_builtin;refine Qam rfl (.tmp 10) (.tmp 13) 29 rfl w.heap.size 5 Tryz.underlying29 Qak _ ([]++l) rfl O2.out _ A2 np c2 (Qkz n) rfl R2.out HBN2.out B2.out.size ?_;intro v3 w3 ho3 hb3;rw[← HT.out] at ho3;obtain⟨A3,c3,rfl,hc3,hm3,hr3⟩:=Ob.rd_n ho3 HL.out.symm;have R3:=hid hr3;have B3:=hid (B2.out.trans hb3);clear ho3 hb3 hr3)
  | fail)
 refine(CF.out _).mono ?_;rintro e w4 ⟨rfl,rfl⟩;have hrw:Rw (w3.alloc (.cells KF 89)) (w3.heap.size+1) (some ⟨w3.heap.size,0,none⟩) 8 st0.list:=Rw.of_row HKF.out rfl (heap_alloc_new w3 _);have hb4:Below w3.heap.size w3 (w3.alloc (.cells KF 89)):=zb;have HRW:=hid hrw;have HB4:=hid hb4;clear hrw hb4;go_wp2_with fail;go_loopw [4,5] (fun v i wr=>∃ (k:Nat) (g c':Nat) (S:St),k≤M∧i=.int .i64 (64*(k:Int))∧v=.slice (some ⟨g,0,none⟩) 8 c'∧Hid (S=blks st0 T k)∧Hid (Rw wr wr.heap.size (some ⟨g,0,none⟩) 8 S.list)∧Hid (Below w3.heap.size w3 wr)) (fun _ i _=>64*M - (intOf i).toNat)
 case atStart=>exact⟨0,w3.heap.size,8,st0,Nat.zero_le _,rfl,rfl,rfl,HRW.out.more (by simp),HB4.out⟩
 case round =>
  obtain⟨k,g,c',S,hk,rfl,rfl,hS,hrw,hbl⟩:=hrel;by_cases hlt:k<M
  ·
   have hLM:=HLM.out;have e1:64*(k:Int)<(L:Int):=by omega
   have hr3:Rd wr w3.heap.size A3 L T:=R3.out.below hbl.out;obtain⟨A5,c5,s5,k5,k5',r5⟩:=Qv2 (P:=Tryz.prog) 29 5 rfl Qdc c3 hr3 (64*(k:Int)) (64*(k:Int)+64) (64*k) (64*k+64) (by omega) (by omega) (by omega) (by omega) hc3;rw[show 64*k+64 - 64*k=64 by omega] at s5 k5 r5
   have CB:=hid (Qrk S _ A5 c' c5 _ _ _ wr hrw.out r5 zr hbl.out.size k5 (by unfold maxLen at hm3;omega));clear hr3 r5 hLM;go_wp2_with fail;refine CB.out.mono ?_;rintro e w5 ⟨v5,rfl,ho5,hb5⟩;obtain⟨g5,c6,rfl,-,-,-⟩:=ho5.form (by show 0<8;decide);obtain⟨A6,c7,hv6,-,-,hr6⟩:=Ow.rd_n ho5 (n:=8) rfl;injection hv6 with ea eb ec
   rw[← ea] at hr6
   have R6:=hid hr6;have B5:=hid (hbl.out.trans (hb5.mono hbl.out.size));clear ho5 hb5 hr6 ea eb ec;go_wp2_with fail;go_roundw
   case rel =>
    refine⟨k+1,g5,_,nxt S ((T.drop (64*k)).take 64),by omega,by congr 1,rfl,?_,R6.out,B5.out⟩;show _=_;rw[hS.out];rfl
   case measure=>simp[intOf];omega
  ·
   obtain rfl:k=M:=by omega
   have hLM:=HLM.out;have e1:¬ 64*(k:Int)<(L:Int):=by omega
   clear hLM;obtain⟨wq,hwq⟩:∃ W,W=wr:=⟨_,rfl⟩
   subst hwq;have hsl:Qkq l=Qif S.list:=by
    rw[hS.out,HM.out,HT.out,List.nil_append]
    unfold Qkq;rw[HLN.out]
   have HSL:=hid hsl;have hbw:Below w.heap.size w wq:=B3.out.trans (hbl.out.mono B3.out.size);have HBW:=hid hbw;have hcell:=hrw.out.2 (by decide);obtain⟨b',o',e',-,hcc⟩:=hcell;injection e' with e'
   injection e' with e1' e2'
   subst e1' e2';have HCC:=hid hcc;have hgl:g<wq.heap.size:=by
    have:=hcc 0 (by decide)
    exact World.block_lt_of_cell? wq ⟨g,0+0,none⟩ this
   have HGL:=hid hgl;clear hsl hbw hcc hgl;go_wp2_with fail;go_loopw [6,7] (fun v i wr=>∃ q:Nat,q≤8∧i=.int .i64 q∧Hid (Ob wr wq.heap.size 5 v (Qif (S.list.take q)))∧Hid (Below wq.heap.size wq wr)) (fun _ i _=>8 - (intOf i).toNat)
   case atStart=>exact⟨0,Nat.zero_le _,rfl,Ob.nil_ _ _ _,Below.refl _ _⟩
   case round =>
    obtain⟨q,hq,rfl,hob,hbq⟩:=hrel;by_cases hlt:q<8
    ·
     obtain⟨x,hx⟩:∃ x,x=S.list.getD q 0:=⟨_,rfl⟩
     have cx:wr.cell? ⟨g,q,none⟩=some (.int .u32 (x.toNat:Int)):=by
      rw[hx,hbq.out.cell (p:=⟨g,q,none⟩) HGL.out]
      have h:=HCC.out q hlt;rw[Nat.zero_add] at h
      exact h
     have hxl:=x.isLt;have CQ:=hid (show Calls Tryz.prog 38 #[.int .u64 (x.toNat:Int),.int .i64 4] wr (Qbi 5 (be (x.toNat:Int).toNat 4) wr) from Qkv (x.toNat:Int) 4 wr (by omega) (by omega) (by decide));have HLN2:Hid ((Qif (S.list.take q)).length+4≤140737488355328):=by
      show _≤_;have e:∀ L:List (BitVec 32),(Qif L).length=4*L.length:=fun L=>by
       induction L with
       | nil=>rfl
       | cons y t ih=>rw[show Qif (y::t)=be y.toNat 4++Qif t from rfl,List.length_append,Qa9,ih,List.length_cons];omega
      rw[e,List.length_take];omega
     have HX:=hid hx;have k0:(0:Int)≤(q:Int):=by omega
     have k1:(q:Int)<8:=by omega
     clear hx;go_wp2_with fail;refine CQ.out.mono ?_;rintro e w1 ⟨v1,rfl,ho1,hb1⟩;obtain⟨A7,c7,rfl,-,-,hr7⟩:=Ob.rd_n ho1 (Qa9 _ 4);have R7:=hid hr7;have O7:=hid (hob.out.below hb1);have B7:=hid (hbq.out.trans (hb1.mono hbq.out.size));clear ho1 hb1 hr7;go_wp2_with (first
      | (at_builtin;refine Qam rfl (.tmp 33) (.tmp 39) 29 rfl wq.heap.size 5 Tryz.underlying29 Qak _ (Qif (S.list.take q)) rfl O7.out _ A7 4 c7 _ rfl R7.out HLN2.out B7.out.size ?_;intro v8 w8 ho8 hb8;have O8:=hid ho8;have B8:=hid (B7.out.trans hb8);clear ho8 hb8)
      | fail)
     go_roundw
     case rel =>
      refine⟨q+1,by omega,by go_num,?_,B8.out⟩;show Ob _ _ _ _ _;rw[Qmg S q hlt,← HX.out]
      exact O8.out
     case measure=>simp[intOf];omega
    ·
     obtain rfl:q=8:=by omega
     go_wp2_with fail;go_ret;refine⟨_,rfl,?_,HBW.out.trans (hbq.out.mono HBW.out.size)⟩;rw[HSL.out]
     exact hob.out.low HBW.out.size
theorem Qxh(A:OA)(n c B:Nat)(k:LB)(w:World)(h:Rd w B A n k)(hB:B≤w.heap.size)(hn:n≤1099511627776) :
  Calls Tryz.prog 20 #[.slice A n c] w (Qbi 5 (Qf1 k) w):=by
 have hkl:=h.1;have ho0:Ob (w.alloc (.cells #[] 5)) w.heap.size 5 (.slice (some ⟨w.heap.size,0,none⟩) 0 0) []:=Ob.lit w [] #[] rfl zr 0 rfl (by decide);have HO0:=hid ho0;have HR0:=hid (h.alloc hB (.cells #[] 5));have HB0:=hid ((Below.refl w.heap.size w).alloc zr (.cells #[] 5));have HBN:Hid (([]:LB).length+n≤140737488355328):=by show _≤_;rw[List.length_nil];omega
 have HK0:Hid (([]++k:LB).length=n):=by show _=_;rw[List.nil_append];exact hkl
 have HKL:=hid hkl;clear ho0 h hkl hB
 -- the loop, whatever stands Qb2 of it
 by_cases hlong:64<n
 ·
  have e1:(64:Int)<(n:Int):=by omega
  have HKB:Hid (Qnp k=Qkq k):=by show _=_;unfold Qnp;rw[if_pos (by rw[HKL.out];exact hlong)]
  go_enter Tryz.func20,Tryz.ntmps20;go_wp2_with (first
   | (at_builtin;refine Qam rfl (.tmp 4) (.tmp 5) 29 rfl w.heap.size 5 Tryz.underlying29 Qak _ [] rfl HO0.out B A n c k rfl HR0.out HBN.out (Qaa _ _) ?_;intro v1 w1 ho1 hb1;obtain⟨A1,c1,rfl,hc1,hm1,hr1⟩:=Ob.rd_n ho1 HK0.out;have R1:=hid hr1;have B1:=hid (HB0.out.trans hb1);clear ho1 hb1 hr1)
   | fail)
  refine(Qku A1 n c1 _ w1 R1.out hc1 hn).mono ?_;rintro e w2 ⟨v2,rfl,ho2,hb2⟩;rw[List.nil_append,← HKB.out] at ho2
  have O2:=hid (ho2.low B1.out.size);have B2:=hid (B1.out.trans (hb2.mono B1.out.size));obtain⟨z,hz⟩:∃ z,z=(Qnp k).length:=⟨_,rfl⟩
  have hz64:z≤64:=by rw[hz];exact Quv k
  have HZ:=hid hz;obtain⟨A2,c2,rfl,-,-,-⟩:=Ob.rd_n ho2 hz.symm;clear ho2 hb2 hz;go_wp2_with fail;go_loopw [3] (fun v wr=>∃ q:Nat,q≤64 - z∧(∃ A c,v=.slice A (z+q) c)∧Hid (Ob wr w.heap.size 5 v (Qnp k++List.replicate q 0))∧Hid (Below w.heap.size w wr)) (fun v _=>100 - Qw8 v)
  case atStart=>exact⟨0,Nat.zero_le _,⟨_,_,rfl⟩,by rw[List.replicate_zero,List.append_nil];exact O2.out,B2.out⟩
  case round =>
   obtain⟨q,hq,⟨A3,c3,rfl⟩,hob,hbel⟩:=hrel;by_cases hlt:q<64 - z
   ·
    have t1:((z:Int)+(q:Int))<64:=by omega
    obtain⟨L,hL⟩:∃ L,L=Qnp k++List.replicate q (0:UInt8):=⟨_,rfl⟩
    have ho:=hob.out;rw[← hL] at ho
    have hl:L.length=z+q:=by rw[hL,List.length_append,List.length_replicate,HZ.out]
    have HL2:Hid ((L++[0]).length=z+(q+1)):=by show _=_;simp[hl];omega
    have HO:=hid ho;have HL:=hid hL;have HBN3:Hid (L.length+1≤140737488355328):=by show _≤_;rw[hl];omega
    clear ho hL hl;go_wp2_with (first
     | (at_builtin;refine Qam rfl (.tmp 15) (.tmp 16) 29 rfl w.heap.size 5 Tryz.underlying29 Qak _ L rfl (HO.out.alloc _) _ _ 1 1 [0] rfl (Rd.lit wr _ rfl [0] _ _ rfl 1 rfl) HBN3.out (Nat.le_trans hbel.out.size (Qaa _ _)) ?_;intro v4 w4 ho4 hb4;obtain⟨A4,c4,rfl,-,-,-⟩:=Ob.rd_n ho4 HL2.out;have O4:=hid ho4;have B4:=hid ((hbel.out.alloc hbel.out.size _).trans hb4);clear ho4 hb4)
     | fail)
    go_roundw
    case rel =>
     refine⟨q+1,by omega,⟨A4,c4,rfl⟩,?_,B4.out⟩;show Ob _ _ _ _ _;have h:=O4.out;rw[HL.out,List.append_assoc,← List.replicate_succ'] at h
     exact h
    case measure=>show 100 - (z+(q+1))<100 - (z+q);omega
   ·
    obtain rfl:q=64 - z:=by omega
    have t1:¬ ((z:Int)+((64 - z:Nat):Int))<64:=by omega
    have HFIN:Hid (Ob wr w.heap.size 5 (.slice A3 (z+(64 - z)) c3) (Qf1 k)):=by
     show Ob _ _ _ _ _;have h:=hob.out;rw[HZ.out] at h ⊢
     exact h
    obtain⟨q,hq2⟩:∃ q,q=64 - z:=⟨_,rfl⟩
    rw[← hq2] at t1 HFIN ⊢
    clear hq2 hob hlt hq;go_wp2_with fail;go_ret;exact⟨_,rfl,HFIN.out,hbel.out⟩
 ·
  have e1:¬ (64:Int)<(n:Int):=by omega
  have HKB:Hid (Qnp k=k):=by show _=_;unfold Qnp;rw[if_neg (by rw[HKL.out];exact hlong)]
  go_enter Tryz.func20,Tryz.ntmps20;go_wp2_with (first
   | (at_builtin;refine Qam rfl (.tmp 4) (.tmp 5) 29 rfl w.heap.size 5 Tryz.underlying29 Qak _ [] rfl HO0.out B A n c k rfl HR0.out HBN.out (Qaa _ _) ?_;intro v1 w1 ho1 hb1;obtain⟨A1,c1,rfl,hc1,hm1,hr1⟩:=Ob.rd_n ho1 HK0.out;have O1:=hid ho1;have B1:=hid (HB0.out.trans hb1);clear ho1 hb1 hr1)
   | fail)
  go_loopw [3] (fun v wr=>∃ q:Nat,q≤64 - n∧(∃ A c,v=.slice A (n+q) c)∧Hid (Ob wr w.heap.size 5 v (k++List.replicate q 0))∧Hid (Below w.heap.size w wr)) (fun v _=>100 - Qw8 v)
  case atStart=>exact⟨0,Nat.zero_le _,⟨_,_,rfl⟩,by have h:=O1.out;rw[List.nil_append] at h;rw[List.replicate_zero,List.append_nil];exact h,B1.out⟩
  case round =>
   obtain⟨q,hq,⟨A3,c3,rfl⟩,hob,hbel⟩:=hrel;by_cases hlt:q<64 - n
   ·
    have t1:((n:Int)+(q:Int))<64:=by omega
    obtain⟨L,hL⟩:∃ L,L=k++List.replicate q (0:UInt8):=⟨_,rfl⟩
    have ho:=hob.out;rw[← hL] at ho
    have hl:L.length=n+q:=by rw[hL,List.length_append,List.length_replicate,HKL.out]
    have HL2:Hid ((L++[0]).length=n+(q+1)):=by show _=_;simp[hl];omega
    have HO:=hid ho;have HL:=hid hL;have HBN3:Hid (L.length+1≤140737488355328):=by show _≤_;rw[hl];omega
    clear ho hL hl;go_wp2_with (first
     | (at_builtin;refine Qam rfl (.tmp 15) (.tmp 16) 29 rfl w.heap.size 5 Tryz.underlying29 Qak _ L rfl (HO.out.alloc _) _ _ 1 1 [0] rfl (Rd.lit wr _ rfl [0] _ _ rfl 1 rfl) HBN3.out (Nat.le_trans hbel.out.size (Qaa _ _)) ?_;intro v4 w4 ho4 hb4;obtain⟨A4,c4,rfl,-,-,-⟩:=Ob.rd_n ho4 HL2.out;have O4:=hid ho4;have B4:=hid ((hbel.out.alloc hbel.out.size _).trans hb4);clear ho4 hb4)
     | fail)
    go_roundw
    case rel =>
     refine⟨q+1,by omega,⟨A4,c4,rfl⟩,?_,B4.out⟩;show Ob _ _ _ _ _;have h:=O4.out;rw[HL.out,List.append_assoc,← List.replicate_succ'] at h
     exact h
    case measure=>show 100 - (n+(q+1))<100 - (n+q);omega
   ·
    obtain rfl:q=64 - n:=by omega
    have t1:¬ ((n:Int)+((64 - n:Nat):Int))<64:=by omega
    have HFIN:Hid (Ob wr w.heap.size 5 (.slice A3 (n+(64 - n)) c3) (Qf1 k)):=by
     show Ob _ _ _ _ _;have h:=hob.out;unfold Qf1;rw[HKB.out,HKL.out]
     exact h
    obtain⟨q,hq2⟩:∃ q,q=64 - n:=⟨_,rfl⟩
    rw[← hq2] at t1 HFIN ⊢
    clear hq2 hob hlt hq;go_wp2_with fail;go_ret;exact⟨_,rfl,HFIN.out,hbel.out⟩
theorem Ql6(A:OA)(n c B:Nat)(l:LB)(y:UInt8)(w:World)(h:Rd w B A n l)(hB:B≤w.heap.size)(hn:n≤1099511627776) :
  Calls Tryz.prog 22 #[.slice A n c,.int .u8 (y.toNat:Int)] w (Qbi 5 (Qfb l y) w):=by
 have HR:=hid h;have HB:=hid hB;clear h hB;obtain⟨Y,hY⟩:∃ Y,Y=y.toNat:=⟨_,rfl⟩
 have hY1:Y<256:=by rw[hY];exact y.toNat_lt
 rw[← hY]
 have HY:=hid hY;clear hY;go_enter Tryz.func22,Tryz.ntmps22;go_wp2
 go_loopw [5,6] (fun v i wr=>∃ k:Nat,k≤n∧i=.int .i64 k∧Hid (Ob wr w.heap.size 5 v (Qfb (l.take k) y))∧Hid (Below w.heap.size w wr)) (fun _ i _=>n - (intOf i).toNat)
 case atStart=>exact⟨0,Nat.zero_le _,rfl,Ob.nil_ _ _ _,Below.refl _ _⟩
 case round =>
  obtain⟨k,hk,rfl,hob,hbel⟩:=hrel;by_cases hlt:k<n
  ·
   obtain⟨b,o,rfl,hb,hcell⟩:=HR.out.2 (by omega);obtain⟨x,hx⟩:∃ x,x=l.getD k 0:=⟨_,rfl⟩
   have hcx:wr.cell? ⟨b,o+k,none⟩=some (.int .u8 (x.toNat:Int)):=by rw[hx,hbel.out.cell (p:=⟨b,o+k,none⟩) (Nat.lt_of_lt_of_le hb HB.out)];exact hcell k hlt
   have hbn:(Qfb (l.take k) y).length+1≤140737488355328:=by rw[Qcj,List.length_take];omega
   have hxv:=Q4x x y;rw[← HY.out] at hxv
   have HX:=hid hx;have HBN:=hid hbn;have HXV:=hid hxv;have i0:(0:Int)≤(k:Int):=by omega
   have i1:(k:Int)<(n:Int):=by omega
   clear hx hcell hbn hxv;go_wp2_with (first
    | (at_builtin;refine Qam rfl (.tmp 13) (.tmp 20) 29 rfl w.heap.size 5 Tryz.underlying29 Qak _ (Qfb (l.take k) y) rfl (hob.out.alloc _) _ _ 1 1 [x ^^^ y] rfl (Rd.lit wr _ rfl [x ^^^ y] _ _ (by rw[List.map_cons,List.map_nil,← HXV.out]) 1 rfl) HBN.out (Nat.le_trans hbel.out.size (Qaa _ _)) ?_;intro v1 w1 ho1 hb1;have O1:=hid ho1;have B1:=hid ((hbel.out.alloc hbel.out.size _).trans hb1);clear ho1 hb1)
    | fail)
   go_roundw
   case rel =>
    refine⟨k+1,by omega,by go_num,?_,B1.out⟩;show Ob _ _ _ _ _;rw[Qlm l y k (by rw[HR.out.1];exact hlt),← HX.out]
    exact O1.out
   case measure=>simp[intOf];omega
  ·
   obtain rfl:k=n:=by omega
   have hs:=hob.out;rw[List.take_of_length_le (by rw[HR.out.1];exact Nat.le_refl _)] at hs
   have HS:=hid hs;clear hs;go_wp2
   go_ret;exact⟨_,rfl,HS.out,hbel.out⟩
theorem Qxe(A A':OA)(n c n' c' B B':Nat)(k t:LB)(w:World)(h:Rd w B A n k)(hB:B≤w.heap.size)(h':Rd w B' A' n' t)(hB':B'≤w.heap.size)(hn:n≤1099511627776)(hn':n'≤1099511627000) :
  Calls Tryz.prog 10 #[.slice A n c,.slice A' n' c'] w (Qbi 5 (Qha k t) w):=by
 have HT:=hid h';have HTL:=hid h'.1;have HBt:=hid hB';have C1:=hid (Qxh A n c B k w h hB hn);clear h hB h' hB';go_enter Tryz.func10,Tryz.ntmps10;go_wp2_with fail;refine C1.out.mono ?_;rintro e w1 ⟨v1,rfl,ho1,hb1⟩;obtain⟨A1,c1,rfl,hc1,-,hr1⟩:=Ob.rd_n ho1 (Qcn k);have R1:=hid hr1;have B1:=hid hb1;have C2:=hid (show Calls Tryz.prog 22 #[.slice A1 64 c1,.int .u8 54] w1 _ from Ql6 A1 64 c1 _ (Qf1 k) 0x36 w1 hr1 zr (by decide));clear ho1 hb1 hr1;go_wp2_with fail;refine C2.out.mono ?_;rintro e w2 ⟨v2,rfl,ho2,hb2⟩;have O2:=hid ho2;have B2:=hid (B1.out.trans (hb2.mono B1.out.size))
 have B12:=hid hb2;have X2:Hid ((Qfb (Qf1 k) 0x36).length=64):=by show _=_;rw[Qcj,Qcn]
 have L2:Hid ((Qfb (Qf1 k) 0x36++t).length=64+n'):=by show _=_;rw[List.length_append,X2.out,HTL.out]
 have Z2:Hid ((Qfb (Qf1 k) 0x36).length+n'≤140737488355328):=by show _≤_;rw[X2.out];omega
 clear ho2 hb2;go_wp2_with (first
  | (at_builtin;refine Qam rfl (.tmp 10) (.tmp 11) 29 rfl w1.heap.size 5 Tryz.underlying29 Qak _ _ rfl O2.out B' A' n' c' t rfl (HT.out.below (B2.out.mono HBt.out)) Z2.out B12.out.size ?_;intro v3 w3 ho3 hb3;obtain⟨A3,c3,rfl,hc3,-,hr3⟩:=Ob.rd_n ho3 L2.out;have R3:=hid hr3;have B13:=hid (B12.out.trans hb3);have B3:=hid (B1.out.trans ((B12.out.trans hb3).mono B1.out.size));clear ho3 hb3 hr3)
  | fail)
 refine(Qku A3 (64+n') c3 _ w3 R3.out hc3 (by omega)).mono ?_;rintro e w4 ⟨v4,rfl,ho4,hb4⟩;obtain⟨A4,c4,rfl,hc4,-,hr4⟩:=Ob.rd_n ho4 (Qcg _);have R4:=hid hr4;have B14:=hid (B13.out.trans (hb4.mono B13.out.size));have B4:=hid (B3.out.trans (hb4.mono B3.out.size));have C5:=hid (show Calls Tryz.prog 22 #[.slice A1 64 c1,.int .u8 92] w4 _ from Ql6 A1 64 c1 _ (Qf1 k) 0x5c w4 (R1.out.below B14.out) B14.out.size (by decide));clear ho4 hb4 hr4;go_wp2_with fail;refine C5.out.mono ?_;rintro e w5 ⟨v5,rfl,ho5,hb5⟩;have O5:=hid ho5;have B45:=hid hb5;have R45:=hid (R4.out.below hb5);have B5:=hid (B4.out.trans (hb5.mono B4.out.size))
 have X5:Hid ((Qfb (Qf1 k) 0x5c).length=64):=by show _=_;rw[Qcj,Qcn]
 have L5:Hid ((Qfb (Qf1 k) 0x5c++Qkq (Qfb (Qf1 k) 0x36++t)).length=96):=by show _=_;rw[List.length_append,X5.out,Qcg]
 have Z5:Hid ((Qfb (Qf1 k) 0x5c).length+32≤140737488355328):=by show _≤_;rw[X5.out];decide
 clear ho5 hb5;go_wp2_with (first
  | (at_builtin;refine Qam rfl (.tmp 15) (.tmp 16) 29 rfl w4.heap.size 5 Tryz.underlying29 Qak _ _ rfl O5.out _ A4 32 c4 _ rfl R45.out Z5.out B45.out.size ?_;intro v6 w6 ho6 hb6;obtain⟨A6,c6,rfl,hc6,-,hr6⟩:=Ob.rd_n ho6 L5.out;have R6:=hid hr6;have B6:=hid (B4.out.trans ((B45.out.trans hb6).mono B4.out.size));clear ho6 hb6 hr6)
  | fail)
 refine(Qku A6 96 c6 _ w6 R6.out hc6 (by decide)).mono ?_;rintro e w7 ⟨v7,rfl,ho7,hb7⟩;have O7:=hid (ho7.low B6.out.size);have B7:=hid (B6.out.trans (hb7.mono B6.out.size));clear ho7 hb7;go_wp2_with fail;go_ret;exact⟨_,rfl,O7.out,B7.out⟩
end Go.Proofs.YtbnfkjkoinbkgaaGreatDoor
namespace Go.Proofs.YtbnfkjkoinbkgaaGreatDoor
set_option maxRecDepth 100000
set_option maxHeartbeats 16000000
open Go.RowKit
def one(W:World)(A:OA)(n c:Nat):World:=W.alloc (zo9 A n c)
theorem Quc(W:World)(A:OA)(n c:Nat)(l:LB)(h:Rd W W.heap.size A n l)(hc:n≤c)(hc2:c≤9223372036854775807):PtsF (W.alloc (zo9 A n c)) (·<(W.alloc (zo9 A n c)).heap.size) (some ⟨W.heap.size,0,none⟩) 1 [⟨A,n,c,l⟩] :=
 Qky W 29 [⟨A,n,c,l⟩] #[.slice A n c] rfl 1 rfl (fun p hp=>by rw[List.mem_singleton.1 hp];exact⟨h,hc,hc2⟩)
theorem Qw2(A A':OA)(n c n' c':Nat)(k t:LB)(W:World)(h:Rd W W.heap.size A n k)(hc:n≤c)(hc2:c≤9223372036854775807)(hn:n≤274877906944)(h':Rd W W.heap.size A' n' t)(hc':n'≤c')(hc2':c'≤9223372036854775807)(hn':n'≤274877906944) :
  Calls Tryz.prog 43 #[.slice A n c,.slice (some ⟨W.heap.size,0,none⟩) 1 1] (W.alloc (zo9 A' n' c')) (Qbi 5 (Qha k t) (W.alloc (zo9 A' n' c'))):=by
 have:=Qqt A n c k _ 1 1 _ _ ((h.alloc zr _).more (by simp)) hc hc2 hn (Quc W A' n' c' t h' hc' hc2') (by rw[Qd8];show t.length≤_;rw[h'.1];exact hn') (by decide)
 rwa[Qd8] at this
theorem Qwy(A A' At:OA)(n c n' c' nt ct:Nat)(k t tg:LB)(W:World)(h:Rd W W.heap.size A n k)(hc:n≤c)(hc2:c≤9223372036854775807)(hn:n≤274877906944)(ht:Rd W W.heap.size At nt tg)(h':Rd W W.heap.size A' n' t)(hc':n'≤c')(hc2':c'≤9223372036854775807)(hn':n'≤274877906944) :
  Calls Tryz.prog 52 #[.slice A n c,.slice At nt ct,.slice (some ⟨W.heap.size,0,none⟩) 1 1] (W.alloc (zo9 A' n' c')) fun e w'=>e=.returned (.bool (tg==Qha k t))∧Below W.heap.size W w':=by
 have:=Qpb A n c k At nt ct tg _ 1 1 _ _ ((h.alloc zr _).more (by simp)) hc hc2 hn ((ht.alloc zr _).more (by simp)) (Quc W A' n' c' t h' hc' hc2') (by rw[Qd8];show t.length≤_;rw[h'.1];exact hn') (by decide)
 rw[Qd8] at this
 exact this.mono fun e w' ⟨he,hb⟩=>⟨he,((Below.refl _ W).alloc zr _).trans (hb.mono (by simp))⟩
theorem Qmv(p:LB)(sc:Nat)(t:Option Blk)(k n f:Nat)(hp:p.length≤454)(ht:∀ x,t=some x→x.dat.length≤5000):(Qva p sc t k n f).length≤6000:=by
 have h9:∀ m n:Nat,(hd m n).length≤9:=fun m n=>by rw[Qbo];have:=Qa1 n;omega
 unfold Qva;have a1:=h9 0 sc;have a2:=h9 0 k;have a3:=h9 0 n;have a4:=h9 0 f;cases t with
 | none =>
  simp only[List.length_append];split <;> split <;> simp only[List.length_append,List.length_nil] <;> omega
 | some x =>
  have hx:=ht x rfl;have b1:=h9 0 x.typ;have b2:=h9 0 x.num;have b3:=h9 0 x.flg;have b4:=h9 2 x.dat.length;simp only[List.length_append];split <;> split <;> split <;> simp only[List.length_append,List.length_nil] <;> omega
theorem Qio(b:Bun)(q:Nat)(sc:Int)(k n f:Nat)(hd':∀ x∈b.blks,x.dat.length≤5000):(Qdg b q sc k n f).1.length≤6000:=by
 unfold Qdg;by_cases hz:Qa3 b≠0
 ·
  rw[if_pos hz];exact Nat.zero_le _
 ·
  rw[if_neg hz]
  have hwr:Wr b:=(Qc8.1 (Qfa.1 (by simpa using hz)).2.1).1;have hp:=Qib hwr;split
  ·
   exact Nat.zero_le _
  ·
   split
   ·
    exact Qmv _ _ _ _ _ _ hp (fun x h=>by cases h)
   ·
    cases hf:b.blks.find? (Qbu q) with
    | none=>exact Nat.zero_le _
    | some x =>
     have hx:=hd' x (List.mem_of_find?_eq_some hf);show(if x.typ=11 then (([]:LB),(100:Int)) else (Qva (Qbx b) sc.toNat (some x) k n f,0)).1.length≤6000;split
     ·
      exact Nat.zero_le _
     ·
      exact Qmv _ _ _ _ _ _ hp (fun y h=>by injection h with h;rw[← h];exact hx)
def OwT(t:TypeId)(base:Nat)(w:World)(v:Value)(gs:List LB):Prop :=
 ∃ ps:List Tg,w.ownsRow base t 1 v gs.length (ps.map tgV)∧∀ (j:Nat) p,ps[j]?=some p→Rd (Qap (Qij base v) w) w.heap.size p.A p.n (gs.getD j [])
theorem OwT.nil_{t:TypeId}{base:Nat}{w:World}:OwT t base w (.slice none 0 0) []:=⟨[],World.ownsRow_nil _ _ _ _,fun j p hp=>by simp at hp⟩
theorem OwT.go{t:TypeId}{base:Nat}{w w':World}{v:Value}{gs:List LB}(h:OwT t base w v gs)(hb:Below w.heap.size w w'):OwT t base w' v gs:=by
 obtain⟨ps,h1,h2⟩:=h;exact⟨ps,Qem h1 hb,fun j p hp=>(h2 j p hp).mask_go hb.size (fun k hk _=>hb.block k hk) (fun _ _ h=>h)⟩
theorem OwT.push{t:TypeId}{base m:Nat}{w w1 w3:World}{v:Value}{gs:List LB}{ps:List Tg}(h1:w.ownsRow base t 1 v gs.length (ps.map tgV))(h2:∀ (j:Nat) p,ps[j]?=some p→Rd (Qap (Qij base v) w) w.heap.size p.A p.n (gs.getD j []))
  {A:OA} {n c:Nat} {g:LB} (hx:Rd (Qap (Qax w.heap.size) w1) w1.heap.size A n g) (hb:Below w.heap.size w w1) (hm:m=gs.length+1)
  {v3:Value} (hown:w3.ownsRow base t 1 v3 m (ps.map tgV++[.slice A n c])) (hg:w1.grownBy w3 v.ownBlock) (hor:v3.ownBlock=v.ownBlock∨∀ g,v3.ownBlock=some g→w1.heap.size≤g) (hbase:base≤w.heap.size):OwT t base w3 v3 (gs++[g]):=by
 subst hm;have hlt:=fun q (e:v.ownBlock=some q)=>World.ownsRow.lt h1 q e
 have hnew:∀ j,j<w1.heap.size→v.ownBlock≠some j→v3.ownBlock≠some j:=fun j hj hne e=>by
  rcases hor with h|h
  ·
   exact hne (by rw[← h];exact e)
  ·
   exact absurd (h j e) (by omega)
 have hsz:=hb.size;have hpl:ps.length=gs.length:=by have:=h1.1;simpa using this
 refine⟨ps++[⟨A,n,c⟩],by rw[List.length_append,List.length_singleton,List.map_append];exact hown,fun j p hp=>?_⟩;rcases Nat.lt_or_ge j ps.length with h|h
 ·
  rw[List.getElem?_append_left h] at hp
  have e:(gs++[g]).getD j []=gs.getD j []:=by simp[List.getD,List.getElem?_append_left (show j<gs.length by omega)]
  rw[e]
  refine(h2 j p hp).mask_go (Nat.le_trans hsz hg.size) (fun k hk hs=>?_) (fun k hk hs=>?_)
  ·
   have hs':=Qbs.1 hs;rw[hg.block k (by omega) (fun e=>hs'.2 e.symm)]
   exact hb.block k hk
  ·
   have hs':=Qbs.1 hs;exact Qbs.2 ⟨hs'.1,hnew k (by omega) hs'.2⟩
 ·
  rw[List.getElem?_append_right h] at hp
  have hj:j - ps.length=0:=by
   rcases Nat.eq_zero_or_pos (j - ps.length) with h0|h0
   ·
    exact h0
   ·
    rw[List.getElem?_eq_none (by simp;omega)] at hp;cases hp
  rw[hj] at hp
  simp at hp;subst hp;have e:(gs++[g]).getD j []=g:=by
   have hjg:j=gs.length:=by omega
   simp[List.getD,hjg]
  rw[e]
  refine hx.mask_go hg.size (fun k hk hs=>?_) (fun k hk hs=>?_)
  ·
   have:=Qaz.1 hs
   exact hg.block k hk (fun e=>by have:=(hlt k e.symm).2;omega)
  ·
   have:=Qaz.1 hs
   exact Qbs.2 ⟨by omega,hnew k hk (fun e=>by have:=(hlt k e).2;omega)⟩
theorem OwT.read{t:TypeId}{base n:Nat}{w:World}{v:Value}{gs:List LB}(h:OwT t base w v gs)(hn:gs.length=n):∃ A c,v=.slice A n c∧n≤c∧RdT w w.heap.size A n gs:=by
 subst hn;obtain⟨ps,h1,h2⟩:=h;exact Qtz t h1 rfl (fun i p hp=>(h2 i p hp).sub_ (fun _ _ hc=>Qaj hc) zr)
theorem Ob.rdM{w:World}{base n lo:Nat}{t:TypeId}{v:Value}{l:LB}(h:Ob w base t v l)(hlo:lo≤base)(hl:l.length=n):∃ (A:OA) (c:Nat),v=.slice A n c∧n≤c∧Rd (Qap (Qax lo) w) w.heap.size A n l:=by
 obtain⟨A,c,rfl,hc,-,hr⟩:=Ob.rdn h hl;refine⟨A,c,rfl,hc,hr.1,fun hn=>?_⟩;obtain⟨b,o,e,hb,hcell⟩:=hr.2 hn;refine⟨b,o,e,hb,fun i hi=>?_⟩;have hbb:base≤b:=by
  rcases h.2 with ⟨h1,h2⟩|⟨g,cap,cur,h1,h2,-⟩
  ·
   simp at h1;omega
  ·
   rw[e] at h1
   simp only[Value.slice.injEq,Option.some.injEq,Addr.mk.injEq] at h1;omega
 rw[Qaq (Qaz.2 (Nat.le_trans hlo hbb))]
 exact hcell i hi
def Qgl(gs:List LB)(r:List LB×Int):List LB×Int:=if r.2≠0 then ([],r.2) else (gs++r.1,0)
theorem Qt2(f:Nat→List UInt8×Int)(k:LB):∀ l,Qgl [] (Qbw f k l)=Qbw f k l:=by
 intro l;have h:(Qbw f k l).2≠0→(Qbw f k l).1=[]:=by
  cases l with
  | nil=>intro h;exact absurd rfl h
  | cons t ts =>
   intro h;rw[Qbw] at h ⊢
   split
   ·
    rfl
   ·
    rename_i h1
    rw[if_neg h1] at h
    split
    ·
     rfl
    ·
     rename_i h2
     rw[if_neg h2] at h
     exact absurd rfl h
 unfold Qgl;by_cases h2:(Qbw f k l).2≠0
 ·
  rw[if_pos h2,← h h2]
 ·
  rw[if_neg h2,List.nil_append]
  have:(Qbw f k l).2=0:=by simpa using h2
  rw[← this]
theorem Qrn(f:Nat→List UInt8×Int)(k:LB)(gs:List LB)(t:Nat)(ts:List Nat)(h:(f t).2≠0):Qgl gs (Qbw f k (t::ts))=([],(f t).2):=by
 rw[Qbw,if_pos h]
 unfold Qgl;rw[if_pos h]
theorem Qrm(f:Nat→List UInt8×Int)(k:LB)(gs:List LB)(t:Nat)(ts:List Nat)(h:(f t).2=0):Qgl gs (Qbw f k (t::ts))=Qgl (gs++[Qha k (f t).1]) (Qbw f k ts):=by
 rw[Qbw,if_neg (by simp[h])]
 by_cases h2:(Qbw f k ts).2≠0
 ·
  rw[if_pos h2]
  unfold Qgl;rw[if_pos h2,if_pos h2]
 ·
  rw[if_neg h2]
  unfold Qgl;rw[if_neg (by simp),if_neg h2]
  simp
theorem Qt3(f:Nat→List UInt8×Int)(k:LB)(gs:List LB):Qgl gs (Qbw f k [])=(gs,0):=by
 unfold Qgl Qbw;simp
open Go.Lib (hid)
def Q49(T:Snb)(z:Int)(w:World)(e:Ending)(w':World):Prop:=Below w.heap.size w w' ∧
 ((z=0∧e=.returned .nilIface)∨(z≠0∧∃ s,e=.returned (Qhi z s))∨(z=101∧∃ s,e=.returned (Qer T.g s)))
theorem Qzu(f:Nat→List UInt8×Int)(k:LB)(tgs:List Nat)(gs:List LB)(i:Nat)(h1:i<tgs.length)(h2:i<gs.length) :
  Qfd f k (tgs.drop i) (gs.drop i)=if (f tgs[i]).2≠0 then (f tgs[i]).2 else if gs[i]≠Qha k (f tgs[i]).1 then 101 else Qfd f k (tgs.drop (i+1)) (gs.drop (i+1)):=by
 rw[List.drop_eq_getElem_cons h1,List.drop_eq_getElem_cons h2,Qfd]
theorem Qwx(f:Nat→List UInt8×Int)(k:LB)(gs:List LB):Qfd f k [] gs=0:=by
 cases gs <;> rfl
theorem Qos(S:Snt)(T:Snb)(h:BH)(l:List Blk)(A:OA)(n c B:Nat)(typ num flg:Nat)(cr:Int)(Ay:OA)(ny cy:Nat)(v:Value)(x:Bb)(Ak:OA)(nk ck:Nat)(k:LB)(w:World)
  (hS:Wd S w) (hT:Ldb T w) (hBd:h.Bd) (hr:RdL w B A n l) (hB:B≤w.heap.size) (hc:n≤c) (hy:typ<18446744073709551616∧num<18446744073709551616∧flg<18446744073709551616) (hx:RdX w B v x) (htl:x.tag.length=x.tgs.length)
  (hk:Rd w B Ak nk k) (hkc:nk≤ck∧ck≤9223372036854775807∧nk≤274877906944) (hdat:∀ x∈l,x.dat.length≤5000) :
  Calls Tryz.prog 31 #[Qbl h A n c,Qe3 typ num flg cr Ay ny cy,v,.slice Ak nk ck] w (Q49 T (Qfd (fun t=>Qdg (h.bun l) t x.sco typ num flg) k x.tgs x.tag) w):=by
 obtain⟨A2,n2,c2,ec,s,nd,sv,At,nt,ct,rfl,⟨hc2,hn2⟩,⟨hct,hnt⟩,hN,hsz,hTT,-⟩:=hx;obtain⟨so,hso⟩:∃ so,so=x.sco:=⟨_,rfl⟩
 rw[← hso]
 have HBA:Hid (Below w.heap.size w (w.alloc (hbx h h.crc A n c))):=zb;have HBB:Hid (Below w.heap.size w ((w.alloc (hbx h h.crc A n c)).alloc (zo4 typ num flg cr Ay ny cy))):=HBA.out.alloc (Qaa _ _) _;have HB0:Hid (Below w.heap.size w (((w.alloc (hbx h h.crc A n c)).alloc (zo4 typ num flg cr Ay ny cy)).alloc (zo2 A2 n2 c2 ec s nd sv so At nt ct))):=HBB.out.alloc (Nat.le_trans (Qaa _ _) (Qaa _ _)) _;have HSA:Hid ((w.alloc (hbx h h.crc A n c)).heap.size=w.heap.size+1):=by show _=_;simp
 have HSB:Hid (((w.alloc (hbx h h.crc A n c)).alloc (zo4 typ num flg cr Ay ny cy)).heap.size=w.heap.size+2):=by show _=_;simp
 have HS0:Hid ((((w.alloc (hbx h h.crc A n c)).alloc (zo4 typ num flg cr Ay ny cy)).alloc (zo2 A2 n2 c2 ec s nd sv so At nt ct)).heap.size=w.heap.size+3):=by show _=_;simp
 have HW0:Hid (Below (w.heap.size+3) (((w.alloc (hbx h h.crc A n c)).alloc (zo4 typ num flg cr Ay ny cy)).alloc (zo2 A2 n2 c2 ec s nd sv so At nt ct)) (((w.alloc (hbx h h.crc A n c)).alloc (zo4 typ num flg cr Ay ny cy)).alloc (zo2 A2 n2 c2 ec s nd sv so At nt ct))):=Below.refl _ _;have QA:Hid ((((w.alloc (hbx h h.crc A n c)).alloc (zo4 typ num flg cr Ay ny cy)).alloc (zo2 A2 n2 c2 ec s nd sv so At nt ct)).heap[w.heap.size]?=some (.cells (#[.int .u64 (h.flg:Int),.int .i64 h.crc,.int .i64 h.dsc,.string h.dnm,.int .u64 (h.dn:Int),.int .u64 (h.dv:Int),.int .i64 h.ssc,.string h.snm,.int .u64 (h.sn:Int),.int .u64 (h.sv:Int),.int .i64 h.rsc,.string h.rnm,.int .u64 (h.rn:Int),.int .u64 (h.rv:Int),.int .u64 (h.tim:Int),.int .u64 (h.seq:Int),.int .u64 (h.lif:Int),.slice A n c]) 28 (0,0))):=Qad (w:=w) rfl (((Below.refl _ _).alloc (Nat.le_of_eq HSA.out.symm) _).alloc (by rw[HSB.out];omega) _)
 have QK:Hid ((((w.alloc (hbx h h.crc A n c)).alloc (zo4 typ num flg cr Ay ny cy)).alloc (zo2 A2 n2 c2 ec s nd sv so At nt ct)).heap[w.heap.size+1]?=some (.cells #[.int .u64 (typ:Int),.int .u64 (num:Int),.int .u64 (flg:Int),.int .i64 cr,.slice Ay ny cy] 43 (0,0))):=Qad (w:=(w.alloc (hbx h h.crc A n c))) HSA.out.symm ((Below.refl _ _).alloc (Nat.le_of_eq HSB.out.symm) _);have QX:Hid ((((w.alloc (hbx h h.crc A n c)).alloc (zo4 typ num flg cr Ay ny cy)).alloc (zo2 A2 n2 c2 ec s nd sv so At nt ct)).heap[w.heap.size+2]?=some (.cells #[.slice A2 n2 c2,.int .i64 ec,.string s,.int .u64 (nd:Int),.int .u64 (sv:Int),.int .i64 so,.slice At nt ct] 35 (0,0))):=Qad (w:=((w.alloc (hbx h h.crc A n c)).alloc (zo4 typ num flg cr Ay ny cy))) HSB.out.symm (Below.refl _ _)
 have HR3:=hid (fun (W:World) (hb:Below (w.heap.size+3) (((w.alloc (hbx h h.crc A n c)).alloc (zo4 typ num flg cr Ay ny cy)).alloc (zo2 A2 n2 c2 ec s nd sv so At nt ct)) W)=>And.intro (Qar QA.out hb (by omega)) (And.intro (Qar QK.out hb (by omega)) (Qar QX.out hb (by omega))));have CP:=hid (fun (q:Nat) (W:World) (hb:Below w.heap.size w W)=>Qin S h l A n c B q so typ num flg W (hS.below hb zr) hBd (hr.below (hb.mono hB)) (Nat.le_trans hB hb.size) hc hy hdat);have CL:=hid (fun (q:Nat)=>Qio (h.bun l) q so typ num flg hdat);have HKR:=hid (fun (W:World) (hb:Below w.heap.size w W)=>(hk.below (hb.mono hB)).more (Nat.le_trans hB hb.size))
 have HTW:=hid (fun (W:World) (hb:Below w.heap.size w W)=>(hT.below hb zr).cg);have HKC:=hid hkc;have HN:=hid hN;have HTT:=hid hTT;have HLB:=hid hB;have LN:=hid hN.1;have LT:=hid hTT.len;have LE:=hid htl;obtain⟨f,hf⟩:∃ f:Nat→List UInt8×Int,f=fun t=>Qdg (h.bun l) t so typ num flg:=⟨_,rfl⟩
 have CP2:=hid (fun (q:Nat) (W:World) (hb:Below w.heap.size w W)=>(show Calls Tryz.prog 42 #[Qbl h A n c,.int .u64 (q:Int),.int .i64 so,.int .u64 (typ:Int),.int .u64 (num:Int),.int .u64 (flg:Int)] W (Qkj (f q) W) from by rw[hf];exact CP.out q W hb));have CL2:Hid (∀ q,(f q).1.length≤6000):=fun q=>by rw[hf];exact CL.out q
 rw[← hf]
 obtain⟨R,hR⟩:∃ R,R=Qfd f k x.tgs x.tag:=⟨_,rfl⟩
 rw[← hR]
 have HR0:Hid (R=Qfd f k (x.tgs.drop 0) (x.tag.drop 0)):=by show _=_;rw[List.drop_zero,List.drop_zero];exact hR
 have HG:Hid (∀ (e:Ending) (w':World),Below w.heap.size w w'→((R=0∧e=.returned .nilIface)∨(R≠0∧∃ s,e=.returned (Qhi R s))∨(R=101∧∃ s,e=.returned (Qer T.g s)))→Q49 T R w e w'):=fun _ _ h1 h2=>⟨h1,h2⟩
 have y0:=Qab QX.out 0 rfl;clear CP CL hS hT hBd hr hB hc hy hN hTT htl hk hkc hdat hf hR hso HBA HBB HSA HSB QA QK QX hsz hc2 hct;unfold Qbl Qe3 Qlh at *;go_enter Tryz.func31,Tryz.ntmps31;go_wp2_with fail;clear y0;go_loopw [16] (fun s16 wl=>∃ (i:Nat),i≤n2∧s16=.int .i64 (i:Int)∧Hid (R=Qfd f k (x.tgs.drop i) (x.tag.drop i))∧Hid (Below (w.heap.size+3) (((w.alloc (hbx h h.crc A n c)).alloc (zo4 typ num flg cr Ay ny cy)).alloc (zo2 A2 n2 c2 ec s nd sv so At nt ct)) wl)) (fun s16 _=>n2 - (intOf s16).toNat)
 case atStart=>exact⟨0,Nat.zero_le _,rfl,HR0.out,HW0.out⟩
 case round =>
  obtain⟨i,hi,rfl,HE,HT⟩:=hrel;have TT:Hid (Below w.heap.size w wr):=HB0.out.trans (HT.out.mono (Nat.le_add_right _ 3));by_cases hlt:i<n2
  ·
   obtain⟨b,o,rfl,hb,hcell⟩:=HN.out.get i hlt;have hil:i<x.tgs.length:=by rw[LN.out];exact hlt
   have hit:i<x.tag.length:=by rw[LE.out];exact hil
   obtain⟨b7,o7,Ag,ng,cg,rfl,hb7,hcell7,hrd7,-,-⟩:=HTT.out.get i (by rw[← LT.out];exact hit);have hget:x.tgs.getD i 0=x.tgs[i]:=by simp[List.getD,hil]
   have hget7:x.tag.getD i []=x.tag[i]:=by simp[List.getD,hit]
   rw[hget] at hcell
   rw[hget7] at hrd7
   have g0:=(TT.out.cell (p:=⟨b,o+i,none⟩) (Nat.lt_of_lt_of_le hb HLB.out)).trans hcell;have hva:=Qzu f k x.tgs x.tag i hil hit;obtain⟨y,hy⟩:∃ y,y=x.tgs[i]:=⟨_,rfl⟩
   obtain⟨tg,htg⟩:∃ tg,tg=x.tag[i]:=⟨_,rfl⟩
   rw[← hy] at g0 hva
   rw[← htg] at hva hrd7
   have hi1:(i:Int)<(n2:Int):=by omega
   have hii:decide ((i:Int)<(n2:Int))=true:=decide_eq_true (by omega);have HVA:=hid (HE.out.trans hva);have C7:=hid (fun (W:World) (hb:Below w.heap.size w W)=>(hb.cell (p:=⟨b7,o7+i,none⟩) (Nat.lt_of_lt_of_le hb7 HLB.out)).trans hcell7);have R7:=hid (fun (W:World) (hb:Below w.heap.size w W)=>(hrd7.below (hb.mono HLB.out)).more (Nat.le_trans HLB.out hb.size));have hint:(i:Int)<(nt:Int):=by have:=LT.out;omega
   obtain⟨r1,r2,r3⟩:=HR3.out _ HT.out;have RA:=hid r1;have k0:=Qab r2 0 rfl;have k1:=Qab r2 1 rfl;have k2:=Qab r2 2 rfl;have x5:=Qab r3 5 rfl;have C1:=hid (CP2.out y wr TT.out);have L1:=CL2.out y;have hfy:∃ p z,f y=(p,z):=⟨(f y).1,(f y).2,rfl⟩
   obtain⟨p,z,hpz⟩:=hfy;rw[hpz] at C1 L1 HVA
   have HL1:=hid L1;clear hb hcell hget hy hva hil hit hpz L1 hget7 hb7 hcell7 hrd7 htg r1 r2 r3 HE;go_wp2_with (first
    | (refine Qae rfl (.tmp 4) rfl _ rfl _ _ RA.out rfl ?_)
    | fail)
   refine C1.out.mono ?_;rintro e w1 ⟨hb,A1,n1,c1,rfl,hc1,hr1⟩;have Z1:=hid (Below.push HT.out (Nat.le_of_eq HS0.out.symm) hb);have T1:=hid (TT.out.trans (hb.mono TT.out.size));by_cases hz:z=0
   ·
    have t1:(z != 0)=false:=by rw[hz];rfl
    have hn1:n1≤274877906944:=by have:=HL1.out;have:=hr1.1;simp only at *;omega
    have C2:=hid (Qwy Ak A1 Ag nk ck n1 c1 ng cg k p tg w1 (HKR.out _ T1.out) HKC.out.1 HKC.out.2.1 HKC.out.2.2 (R7.out _ T1.out) hr1 hc1.1 hc1.2 hn1);obtain⟨Q,hQ⟩:∃ Q,Q=(tg==Qha k p):=⟨_,rfl⟩
    rw[← hQ] at C2
    have HV2:Hid (R=if Q=true then Qfd f k (x.tgs.drop (i+1)) (x.tag.drop (i+1)) else 101):=by
     show _=_;rw[HVA.out]
     rw[if_neg (by simp[hz])]
     by_cases hq:tg=Qha k p
     ·
      have:Q=true:=by rw[hQ,hq];simp
      rw[if_neg (by simp[hq]),if_pos this]
     ·
      have:Q=false:=by rw[hQ];simpa using hq
      rw[if_pos hq,this]
      rfl
    have x6:=Qab (HR3.out _ Z1.out).2.2 6 rfl;have d7:=C7.out _ T1.out;clear hb hr1 hc1 hn1 C1 hQ HVA k0 k1 k2 x5 hz;go_wp2_with fail;refine C2.out.mono ?_;rintro e w2 ⟨rfl,hb⟩;have Z2:=hid (Below.push Z1.out (Nat.le_of_eq HS0.out.symm) hb);have T2:=hid (T1.out.trans (hb.mono T1.out.size));clear hb x6 d7 C2;cases Q with
    | true =>
     have HE2:Hid (R=Qfd f k (x.tgs.drop (i+1)) (x.tag.drop (i+1))):=HV2.out.trans (if_pos rfl);clear HV2;go_wp2_with fail;go_roundw
     case rel=>exact⟨i+1,by omega,by go_num,HE2.out,Z2.out⟩
     case measure=>simp[intOf];omega
    | false =>
     have HE2:Hid (R=101):=HV2.out.trans (if_neg (by decide));have cg:=HTW.out _ T2.out;unfold snt at cg;clear HV2;go_wp2_with fail
     (try rw[Exit.noGoto_ret]);refine bodyPost_ret (v:=Qer T.g _) (by simp[results,Tryz.results31,go_sem,Qer];rfl) rfl (HG.out _ _ T2.out (.inr (.inr ⟨HE2.out,_,rfl⟩)))
   ·
    have t1:(z != 0)=true:=by rw[bne_iff_ne];exact hz
    have HE2:Hid (R=z):=by
     show _=_;rw[HVA.out]
     rw[if_pos hz]
    have HZ:=hid hz;clear hb hr1 hc1 C1 HVA k0 k1 k2 x5;go_wp2_with fail
    (try rw[Exit.noGoto_ret]);refine bodyPost_ret (v:=Qhi z _) (by simp[results,Tryz.results31,go_sem,Qhi];rfl) rfl (HG.out _ _ T1.out (.inr (.inl ⟨by rw[HE2.out];exact HZ.out,_,by rw[HE2.out]⟩)))
  ·
   obtain rfl:i=n2:=by omega
   have hii:decide ((i:Int)<(i:Int))=false:=decide_eq_false (by omega);have HE2:Hid (R=0):=by
    show _=_;rw[HE.out,show x.tgs.drop i=[] from List.drop_eq_nil_of_le (by rw[LN.out];exact Nat.le_refl _),Qwx]
   have HTT2:=hid TT.out;clear HE HT TT;go_wp2_with fail;refine bodyPost_ret (v:=.nilIface) (by simp[results,Tryz.results31,go_sem]) rfl (HG.out _ _ HTT2.out (.inl ⟨HE2.out,rfl⟩))
def Q4s(r:List LB×Int)(w:World)(e:Ending)(w':World):Prop:=Below w.heap.size w w' ∧
 ((r.2=0∧∃ (A:OA) (n c:Nat),e=.returned (.tuple #[.slice A n c,.nilIface])∧n≤c∧RdT w' w'.heap.size A n r.1)∨(r.2≠0∧∃ s,e=.returned (.tuple #[.slice none 0 0,Qhi r.2 s])))
theorem Qu5(S:Snt)(h:BH)(l:List Blk)(A:OA)(n c B:Nat)(tgs:List Nat)(At:OA)(nt ct num:Nat)(sc:Int)(Ak:OA)(nk ck:Nat)(k:LB)(w:World)(hS:Wd S w)(hBd:h.Bd)(hr:RdL w B A n l)(hB:B≤w.heap.size)(hc:n≤c)
  (hN:RdN w B At nt tgs) (h15:nt≤15) (hnum:num<18446744073709551616) (hk:Rd w B Ak nk k) (hkc:nk≤ck∧ck≤9223372036854775807∧nk≤274877906944) (hdat:∀ x∈l,x.dat.length≤5000) :
  Calls Tryz.prog 23 #[Qbl h A n c,.slice At nt ct,.int .u64 (num:Int),.int .i64 sc,.slice Ak nk ck] w (Q4s (Qbw (fun t=>Qdg (h.bun l) t sc 11 num 0) k tgs) w):=by
 have HB0:=hid ((Below.refl w.heap.size w).alloc zr (hbx h h.crc A n c));have HW0:Hid (Below (w.heap.size+1) (w.alloc (hbx h h.crc A n c)) (w.alloc (hbx h h.crc A n c))):=Below.refl _ _;have HS0:Hid ((w.alloc (hbx h h.crc A n c)).heap.size=w.heap.size+1):=by show _=_;simp
 have HRW:=hid (fun (W:World) (hb:Below (w.heap.size+1) (w.alloc (hbx h h.crc A n c)) W)=>Qad (w:=w) rfl hb);have CP:=hid (fun (q:Nat) (W:World) (hb:Below w.heap.size w W)=>Qin S h l A n c B q sc 11 num 0 W (hS.below hb zr) hBd (hr.below (hb.mono hB)) (Nat.le_trans hB hb.size) hc ⟨by decide,hnum,by decide⟩ hdat);have CL:=hid (fun (q:Nat)=>Qio (h.bun l) q sc 11 num 0 hdat);have HKR:=hid (fun (W:World) (hb:Below w.heap.size w W)=>(hk.below (hb.mono hB)).more (Nat.le_trans hB hb.size));have HKC:=hid hkc;have HN:=hid hN;have HBB:=hid hB;have LN:=hid hN.1;obtain⟨f,hf⟩:∃ f:Nat→List UInt8×Int,f=fun t=>Qdg (h.bun l) t sc 11 num 0:=⟨_,rfl⟩
 have CP2:=hid (fun (q:Nat) (W:World) (hb:Below w.heap.size w W)=>(show Calls Tryz.prog 42 #[Qbl h A n c,.int .u64 (q:Int),.int .i64 sc,.int .u64 11,.int .u64 (num:Int),.int .u64 0] W (Qkj (f q) W) from by rw[hf];exact CP.out q W hb));have CL2:Hid (∀ q,(f q).1.length≤6000):=fun q=>by rw[hf];exact CL.out q
 rw[← hf]
 obtain⟨R,hR⟩:∃ R,R=Qbw f k tgs:=⟨_,rfl⟩
 rw[← hR]
 have HR0:Hid (R=Qgl [] (Qbw f k (tgs.drop 0))):=by show _=_;rw[Qt2,List.drop_zero];exact hR
 have HG:Hid (∀ (e:Ending) (w':World),Below w.heap.size w w'→((R.2=0∧∃ (A:OA) (n c:Nat),e=.returned (.tuple #[.slice A n c,.nilIface])∧n≤c∧RdT w' w'.heap.size A n R.1)∨(R.2≠0∧∃ s,e=.returned (.tuple #[.slice none 0 0,Qhi R.2 s])))→Q4s R w e w'):=fun _ _ h1 h2=>⟨h1,h2⟩
 obtain⟨i0,hi0,hz0,hz1,hz2⟩:=info_parts Qqd;have HI:=hid hi0;have HI0:=hid hz0;have HI1:=hid hz1;have HI2:=hid hz2;clear CP CL hS hBd hr hB hc hN hnum hk hkc hdat hf hR hi0 hz0 hz1 hz2;unfold Qbl at *;go_enter Tryz.func23,Tryz.ntmps23;go_wp2_with fail;go_step3
 go_wp2_with fail;go_step3
 go_wp2_with fail;go_loopw [12,19] (fun s12 s19 wl=>∃ (i:Nat) (gs:List LB),i≤nt∧s19=.int .i64 (i:Int)∧Hid (OwT 29 (w.heap.size+1) wl s12 gs∧gs.length=i)∧Hid (R=Qgl gs (Qbw f k (tgs.drop i)))∧Hid (Below (w.heap.size+1) (w.alloc (hbx h h.crc A n c)) wl)) (fun _ s19 _=>nt - (intOf s19).toNat)
 case atStart=>exact⟨0,[],Nat.zero_le _,rfl,⟨OwT.nil_,rfl⟩,HR0.out,HW0.out⟩
 case round =>
  obtain⟨i,gs,hi,rfl,HO,HE,HT⟩:=hrel;have TT:Hid (Below w.heap.size w wr):=HB0.out.trans (HT.out.mono (Nat.le_succ _));have HSZ:Hid (w.heap.size+1≤wr.heap.size):=by show _≤_;have:=HT.out.size;have:=HS0.out;omega
  by_cases hlt:i<nt
  ·
   obtain⟨b,o,rfl,hb,hcell⟩:=HN.out.get i hlt;have hil:i<tgs.length:=by rw[LN.out];exact hlt
   have hget:tgs.getD i 0=tgs[i]:=by simp[List.getD,hil]
   rw[hget] at hcell
   have g0:=(TT.out.cell (p:=⟨b,o+i,none⟩) (Nat.lt_of_lt_of_le hb HBB.out)).trans hcell;have hdr:tgs.drop i=tgs[i]::tgs.drop (i+1):=List.drop_eq_getElem_cons hil;obtain⟨y,hy⟩:∃ y,y=tgs[i]:=⟨_,rfl⟩
   rw[← hy] at g0 hdr
   have hi1:(i:Int)<(nt:Int):=by omega
   have hii:decide ((i:Int)<(nt:Int))=true:=decide_eq_true (by omega);have h15i:((i:Int)==15)=false:=by rw[beq_eq_false_iff_ne];omega
   have HDR:=hid hdr;have R0:=hid (HRW.out _ HT.out);have C1:=hid (CP2.out y wr TT.out);have L1:=CL2.out y;have hfy:∃ p z,f y=(p,z):=⟨(f y).1,(f y).2,rfl⟩
   obtain⟨p,z,hpz⟩:=hfy;have HPZ:=hid hpz;rw[hpz] at C1 L1
   have HL1:=hid L1;clear hb hcell hget hy hdr hil hpz L1;go_wp2_with (first
    | (refine Qae rfl (.tmp 5) rfl _ rfl _ _ R0.out rfl ?_)
    | fail)
   refine C1.out.mono ?_;rintro e w1 ⟨hb,A1,n1,c1,rfl,hc1,hr1⟩;have D1:=hid hb;have T1:=hid (TT.out.trans (hb.mono TT.out.size));by_cases hz:z=0
   ·
    have t1:(z != 0)=false:=by rw[hz];rfl
    have hn1:n1≤274877906944:=by have:=HL1.out;have:=hr1.1;simp only at *;omega
    have C2:=hid (Qw2 Ak A1 nk ck n1 c1 k p w1 (HKR.out _ T1.out) HKC.out.1 HKC.out.2.1 HKC.out.2.2 hr1 hc1.1 hc1.2 hn1);have HE2:Hid (R=Qgl (gs++[Qha k p]) (Qbw f k (tgs.drop (i+1)))):=by
     show _=_;rw[HE.out,HDR.out,Qrm f k gs y _ (by rw[HPZ.out];exact hz),HPZ.out]
    obtain⟨TG,hTG⟩:∃ TG,TG=Qha k p:=⟨_,rfl⟩
    have HTL:Hid (TG.length=32):=by show _=_;rw[hTG];exact Qck k p
    rw[← hTG] at C2 HE2
    clear hb hr1 hc1 hTG HE hn1 C1;go_wp2_with fail;refine C2.out.mono ?_;rintro e w2 ⟨v2,rfl,hob,hb⟩;have D2:=hid ((D1.out.alloc D1.out.size _).trans (hb.mono (Nat.le_trans D1.out.size (Qaa _ _))));have hlo:wr.heap.size≤(w1.alloc (zo9 A1 n1 c1)).heap.size:=Nat.le_trans D1.out.size (Qaa _ _);obtain⟨A2,c2,rfl,hc2,hr2⟩:=Ob.rdM hob hlo HTL.out;have DW:Hid (Below wr.heap.size wr (w2.alloc (zo9 A2 32 c2))):=D2.out.alloc D2.out.size _;have XR:Hid (Rd (Qap (Qax wr.heap.size) (w2.alloc (zo9 A2 32 c2))) (w2.alloc (zo9 A2 32 c2)).heap.size A2 32 TG):=hr2.mask_go (Qaa _ _) (fun j hj _=>Below.heap_alloc _ _ _ hj) (fun _ _ h=>h)
    obtain⟨ps,hown,hps⟩:=HO.out.1;have hgl:=HO.out.2;have hown2:=hown;rw[hgl] at hown
    have OWN0:=hid hown;have OWN1:=hid hown2;have HPS:=hid hps;have HGL:=hid hgl;have OWN:=hid (Qem OWN0.out DW.out);have ROW:Hid (∀ q u,([.slice A2 32 c2]:List Value)[q]?=some u→(w2.alloc (zo9 A2 32 c2)).cell? ((⟨w2.heap.size,0,none⟩:Addr).add q)=some u):=fun q u hq=>by
     match q,hq with
     | 0,hq =>
      cases hq
      rw[show(⟨w2.heap.size,0,none⟩:Addr).add 0=⟨w2.heap.size,0,none⟩ by unfold Addr.add;simp,World.cell?_alloc_at _ _ _ _ rfl]
      rfl
     | q+1,hq=>simp at hq
    have BSZ:Hid (w.heap.size+1≤(w2.alloc (zo9 A2 32 c2)).heap.size):=Nat.le_trans HSZ.out DW.out.size;clear hb hob hr2 hown hown2 hps hgl HO C2 D2 hc2 hlo;go_wp2_with (first
     | (at_builtin;refine wpList_append_lies _ rfl (.tmp 42) (.tmp 47) 33 rfl (w.heap.size+1) 29 i0 _ 1 24 Tryz.underlying33 HI.out HI0.out HI1.out HI2.out rfl (by decide) u12 i _ rfl OWN.out ⟨_,0,none⟩ 1 1 [.slice A2 32 c2] rfl rfl ROW.out (by intro u hu;simp at hu;subst hu;rfl) (by decide) (by unfold maxLen;omega) (by omega) BSZ.out _ rfl ?_;intro g2 cap2 w3 ho3 hg3 hat hlt3;have O3:=hid ho3;have G3:=hid hg3;have AT:=hid hat;clear ho3 hg3 hat hlt3)
     | fail)
    have PUSH:=hid (OwT.push (base:=w.heap.size+1) OWN1.out HPS.out XR.out DW.out (by rw[HGL.out]) O3.out G3.out (Qqg rfl AT.out) HSZ.out);have BEL:=hid (HT.out.trans (Qis OWN0.out DW.out G3.out HSZ.out));clear OWN0 OWN1 OWN O3 G3 AT XR ROW DW HPS;go_roundw
    case rel=>exact⟨i+1,gs++[TG],by omega,by go_num,⟨PUSH.out,by rw[List.length_append,HGL.out];rfl⟩,HE2.out,BEL.out⟩
    case measure=>simp[intOf];omega
   ·
    have t1:(z != 0)=true:=by rw[bne_iff_ne];exact hz
    have HE2:Hid (R=([],z)):=by
     show _=_;rw[HE.out,HDR.out,Qrn f k gs y _ (by rw[HPZ.out];exact hz),HPZ.out]
    have HZ:=hid hz;clear hb hr1 hc1 HE HO C1;go_wp2_with fail
    (try rw[Exit.noGoto_ret]);refine bodyPost_ret (v:=.tuple #[.slice none 0 0,Qhi z _]) (by simp[results,Tryz.results23,go_sem,Qhi];rfl) rfl (HG.out _ _ T1.out (.inr ⟨by rw[HE2.out];exact HZ.out,_,by rw[HE2.out]⟩))
  ·
   obtain rfl:i=nt:=by omega
   have hii:decide ((i:Int)<(i:Int))=false:=decide_eq_false (by omega);have HE2:Hid (R=(gs,0)):=by
    show _=_;rw[HE.out,List.drop_eq_nil_of_le (by rw[LN.out];exact Nat.le_refl _),Qt3]
   obtain⟨Ag,cg,rfl,hcg,hrg⟩:=HO.out.1.read HO.out.2;have HRG:=hid (And.intro hcg hrg);have HTT:=hid TT.out;clear hcg hrg HO HE HT TT;go_wp2_with fail;refine bodyPost_ret (v:=.tuple #[.slice Ag i cg,.nilIface]) (by simp[results,Tryz.results23,go_sem]) rfl (HG.out _ _ HTT.out (.inl ⟨by rw[HE2.out],Ag,i,cg,rfl,HRG.out.1,by rw[HE2.out];exact HRG.out.2⟩))
end Go.Proofs.YtbnfkjkoinbkgaaGreatDoor
