import Derived.Test.YtbnfkjkoinbkgaaGreatDoorVAbb
import Derived.Test.YtbnfkjkoinbkgaaGreatDoorVBlkW4
import Derived.Test.YtbnfkjkoinbkgaaGreatDoorVBunC
import Derived.Test.YtbnfkjkoinbkgaaGreatDoorVBunD
import Derived.Test.YtbnfkjkoinbkgaaGreatDoorVBunDr
import Derived.Test.YtbnfkjkoinbkgaaGreatDoorVBunJ
import Derived.Test.YtbnfkjkoinbkgaaGreatDoorVCfBibTags
import Derived.Test.YtbnfkjkoinbkgaaGreatDoorVEidT2
import Derived.Test.YtbnfkjkoinbkgaaGreatDoorVRfI
import Derived.Test.YtbnfkjkoinbkgaaGreatDoorVRfW
import Derived.Test.YtbnfkjkoinbkgaaGreatDoorVShaP
import Derived.Test.YtbnfkjkoinbkgaaGreatDoorVShaT
import Derived.Deep.RegionHeld3
import Derived.BigQuiet
import Derived.Deep.QuietTactic
import Derived.Laws.Bits64b
namespace Go.Proofs.YtbnfkjkoinbkgaaGreatDoor
set_option maxRecDepth 100000
set_option maxHeartbeats 16000000
open Go.RowKit
open Go.Lib (hid)
open Go.Lib (decDigits)
theorem Qlx(h:BH)(l:List Blk)(A:OA)(n c B q:Nat)(w:World)(hr:RdL w B A n l)(hB:B≤w.heap.size) :
  Calls Tryz.prog 29 #[Qbl h A n c,.int .u64 (q:Int)] w fun e w'=>e=.returned (.int .i64 (plc (Qbu q) l 0))∧Below w.heap.size w w':=by
 have HB0:=hid ((Below.refl w.heap.size w).alloc zr (hbx h h.crc A n c));have C1:=hid (Qmf A n c B q l (w.alloc (hbx h h.crc A n c)) (hr.below (HB0.out.mono hB)) (Nat.le_trans hB (Qaa _ _)));generalize plc (Qbu q) l 0=P at *;clear hr hB;unfold Qbl at *;go_enter Tryz.func29,Tryz.ntmps29;go_wp2_with fail;refine C1.out.mono ?_;rintro e w1 ⟨rfl,hb⟩;have HB1:=hid (HB0.out.trans (hb.mono (Qaa _ _)));clear hb;go_wp2_with fail;go_ret;exact⟨rfl,HB1.out⟩
def hPl:BH:=⟨0,1,2,⟨#[]⟩,2,1,2,⟨#[]⟩,1,2,1,⟨#[]⟩,0,0,3,4,100⟩
theorem Qhq(l:List Blk)(p:Blk→Bool)(k:Nat)(hk:k<l.length):(l.take (k+1)).any p=((l.take k).any p||p (l[k]'hk)):=by
 rw[List.take_succ_eq_append_getElem hk,List.any_append]
 simp
theorem Qtt(A:OA)(n c B:Nat)(l:List Blk)(w:World)(h:RdL w B A n l)(hB:B≤w.heap.size)(h1:1≤n)(hcap:n≤1000) :
  Calls Tryz.prog 61 #[.slice A n c] w fun e w'=>e=.returned (.bool (frm [] l))∧Below w.heap.size w w':=by
 obtain⟨R,hR⟩:∃ R,R=frm [] l:=⟨_,rfl⟩
 rw[← hR]
 obtain⟨M,hM⟩:∃ M,n=M+1:=⟨n - 1,by omega⟩
 have hM1:(n:Int) - 1=(M:Int):=by omega
 have hwM:wrap64 (M:Int)=(M:Int):=by unfold wrap64;omega
 obtain⟨b,o,rfl,hbB,hks⟩:=h.2.1 (by omega);have HL:Hid (l.length=n):=h.1;have HK:=hid (fun (W:World) (hb:Below w.heap.size w W) (j:Nat) (hj:j<l.length)=>(show ∃ A1 nd cd,RdK W B b (o+j*5) (l[j]'hj) A1 nd cd from by obtain⟨A1,nd,cd,hk⟩:=hks.get j hj;exact⟨A1,nd,cd,hk.below (hb.mono hB) hbB⟩));have HR:=hid hR;have HM:=hid hM;clear hR h hB hks hbB hM h1;go_enter Tryz.func61,Tryz.ntmps61;go_wp2_with fail;go_loopw [3] (fun v wl=>∃ i:Nat,i≤n∧v=.int .i64 (i:Int)∧Hid (Below w.heap.size w wl)∧Hid (frm (l.take i) (l.drop i)=R)) (fun v _=>n - (intOf v).toNat)
 case atStart=>exact⟨0,Nat.zero_le _,rfl,Below.refl _ _,HR.out.symm⟩
 case round =>
  obtain⟨i,hi,rfl,HB,HP⟩:=hrel;by_cases hlt:i<n
  ·
   have hil:i<l.length:=by rw[HL.out];exact hlt
   obtain⟨A1,nd,cd,hk⟩:=HK.out wr HB.out i hil;have hp:=Qqh l i n HL.out hlt;rw[HP.out] at hp
   have HXT:=hid (fun (W:World) (hb:Below w.heap.size w W)=>(show W.cell? ⟨b,o+i*5,none⟩=some (.int .u64 ((l[i]'hil).typ:Int))∧W.cell? ⟨b,o+i*5+1,none⟩=some (.int .u64 ((l[i]'hil).num:Int)) from by obtain⟨_,_,_,hk⟩:=HK.out W hb i hil;exact⟨hk.k0,hk.k1⟩));generalize l[i]=x at *;have g0:=hk.k0;have g1:=hk.k1;have g2:=hk.k2;have g3:=hk.k3;have g4:=hk.k4;have KB:=hid (fun W=>Qod x.typ x.num x.flg x.crc A1 nd cd x.dat W hk.rd.1);have eob:(⟨x.typ,x.num,x.flg,x.crc,x.dat⟩:Blk)=x:=rfl;rw[eob] at KB
   unfold Qe3 at KB;generalize Qdj x=o1 at *;obtain⟨R',hR'⟩:∃ R',R'=frm (l.take (i+1)) (l.drop (i+1)):=⟨_,rfl⟩
   rw[← hR'] at hp
   have HR':=hid hR';clear hR';have hii:(i:Int)<(n:Int):=by omega
   have hbi:((i:Int)==(M:Int))=decide (i+1=n):=by rw[Bool.eq_iff_iff];simp;have:=HM.out;omega
   have hbt:((x.typ:Int)==1)=decide (x.typ=1):=by rw[Bool.eq_iff_iff];simp;omega
   generalize decide (i+1=n)=bi at *;generalize decide (x.typ=1)=bt at *;have HPR:=hid hp;have HLT:=hid hlt;clear hp hk eob hil hlt;cases o1 with
   | false =>
    obtain rfl:R=false:=by rw[HPR.out];rfl
    go_wp2_with fail;refine(KB.out _).mono ?_;rintro e w1 ⟨rfl,hb⟩;have B1:=hid (HB.out.trans (hb.mono HB.out.size));clear hb g0 g1 g2 g3 g4;go_wp2_with fail;go_ret;exact⟨rfl,B1.out⟩
   | true =>
   go_wp2_with fail;refine(KB.out _).mono ?_;rintro e w1 ⟨rfl,hb⟩;have B1:=hid (HB.out.trans (hb.mono HB.out.size));clear hb g0 g1 g2 g3 g4;obtain⟨g0,g1⟩:=HXT.out w1 B1.out;cases bt <;> cases bi
   case false.true =>
    obtain rfl:R=false:=by rw[HPR.out];rfl
    go_wp2_with fail;go_ret;exact⟨rfl,B1.out⟩
   case true.false =>
    obtain rfl:R=false:=by rw[HPR.out];rfl
    go_wp2_with fail;go_ret;exact⟨rfl,B1.out⟩
   case false.false =>
    have HPQ:Hid (R=((!((l.take i).any (Qbu x.num)))&&((!(Qcl x.typ&&(l.take i).any (Qdf x.typ)))&&R'))):=by show _=_;rw[HPR.out];rfl
    go_wp2_with fail;clear g0 g1;go_loopw [5] (fun v wl=>∃ k:Nat,k≤i∧v=.int .i64 (k:Int)∧Hid (Below w.heap.size w wl)∧Hid ((l.take k).any (Qbu x.num)=false)∧Hid ((Qcl x.typ&&(l.take k).any (Qdf x.typ))=false)) (fun v _=>i - (intOf v).toNat)
    case atStart=>exact⟨0,Nat.zero_le _,rfl,B1.out,by show _=_;simp,by show _=_;simp⟩
    case round =>
     obtain⟨k,hk,rfl,HBk,HN,HT⟩:=hrel;by_cases hlt:k<i
     ·
      have hkl:k<l.length:=by rw[HL.out];have:=HLT.out;omega
      obtain⟨A2,nd2,cd2,hk2⟩:=HK.out wr HBk.out k hkl;obtain⟨g0,g1⟩:=HXT.out wr HBk.out;have y0:=hk2.k0;have y1:=hk2.k1;have hsN:=Qhq l (Qbu x.num) k hkl;have hsT:=Qhq l (Qdf x.typ) k hkl;rw[HN.out,Bool.false_or] at hsN
      generalize l[k]=y at *;have hkk:(k:Int)<(i:Int):=by omega
      have hkn:(k:Int)<(n:Int):=by have:=HLT.out;omega
      have HSN:=hid hsN;have HST:=hid hsT;have HKI:=hid hlt;have HKT:Hid ((l.take k).any (Qdf x.typ)=true→Qcl x.typ=false):=fun hh=>by have:=HT.out;rw[hh,Bool.and_true] at this;exact this
      have hfin1:Hid ((l.take (k+1)).any (Qbu x.num)=true→(l.take i).any (Qbu x.num)=true):=fun hh=>by
       rw[List.any_eq_true] at hh ⊢
       obtain⟨z,hz,hz2⟩:=hh;exact⟨z,(List.take_subset_take_left l (show k+1≤i by have:=HKI.out;omega)) hz,hz2⟩
      have hfin2:Hid ((l.take (k+1)).any (Qdf x.typ)=true→(l.take i).any (Qdf x.typ)=true):=fun hh=>by
       rw[List.any_eq_true] at hh ⊢
       obtain⟨z,hz,hz2⟩:=hh;exact⟨z,(List.take_subset_take_left l (show k+1≤i by have:=HKI.out;omega)) hz,hz2⟩
      clear hsN hsT hk2 hkl hlt;by_cases hnum:y.num=x.num
      ·
       -- one number
       have en:((x.num:Int)==(y.num:Int))=true:=by simp[hnum]
       obtain rfl:R=false:=by
        rw[HPQ.out,hfin1.out (by rw[HSN.out];unfold Qbu;simp[hnum])]
        rfl
       clear hnum;by_cases q10:x.typ=10
       ·
        have t10:((x.typ:Int)==10)=true:=by simp;omega
        clear HPQ HPR hfin1 hfin2 HT HKT;go_wp2_with fail;go_quiet (fail)
        go_wp2_with fail;go_ret;exact⟨rfl,HBk.out.trans (Qay _)⟩
       have t10:((x.typ:Int)==10)=false:=by simp;omega
       by_cases q7:x.typ=7
       ·
        have t7:((x.typ:Int)==7)=true:=by simp;omega
        clear HPQ HPR hfin1 hfin2 HT HKT;go_wp2_with fail;go_quiet (fail)
        go_wp2_with fail;go_ret;exact⟨rfl,HBk.out.trans (Qay _)⟩
       have t7:((x.typ:Int)==7)=false:=by simp;omega
       by_cases q6:x.typ=6
       ·
        have t6:((x.typ:Int)==6)=true:=by simp;omega
        clear HPQ HPR hfin1 hfin2 HT HKT;go_wp2_with fail;go_quiet (fail)
        go_wp2_with fail;go_ret;exact⟨rfl,HBk.out.trans (Qay _)⟩
       have t6:((x.typ:Int)==6)=false:=by simp;omega
       clear HPQ HPR hfin1 hfin2 HT HKT;go_wp2_with fail;go_quiet (fail)
       go_wp2_with fail;go_ret;exact⟨rfl,HBk.out.trans (Qay _)⟩
      ·
       have en:((x.num:Int)==(y.num:Int))=false:=by simp;omega
       have HN2:Hid ((l.take (k+1)).any (Qbu x.num)=false):=by show _=_;rw[HSN.out];unfold Qbu;simpa using hnum
       clear hnum;by_cases q10:x.typ=10
       ·
        have t10:((x.typ:Int)==10)=true:=by simp;omega
        have hsg:Qcl x.typ=true:=by unfold Qcl;simp only[Bool.or_eq_true,decide_eq_true_eq];omega
        by_cases htyp:y.typ=x.typ
        ·
         have et:((x.typ:Int)==(y.typ:Int))=true:=by simp[htyp]
         obtain rfl:R=false:=by
          rw[HPQ.out,hsg,hfin2.out (by rw[HST.out];unfold Qdf;simp[htyp])]
          try simp
         clear htyp hsg HPQ HPR hfin1 hfin2 HT HKT;go_wp2_with fail;go_quiet (fail)
         go_wp2_with fail;go_ret;exact⟨rfl,HBk.out.trans (Qay _)⟩
        ·
         have et:((x.typ:Int)==(y.typ:Int))=false:=by simp;omega
         have hno:(l.take k).any (Qdf x.typ)=false:=by
          cases hh:(l.take k).any (Qdf x.typ) with
          | false=>rfl
          | true=>have:=HKT.out hh;rw[hsg] at this;cases this
         have HT2':(l.take (k+1)).any (Qdf x.typ)=false:=by rw[HST.out,hno,Bool.false_or];unfold Qdf;simpa using htyp
         have HT3:=hid HT2';clear hno HT2' htyp hsg;have HT2:Hid ((Qcl x.typ&&(l.take (k+1)).any (Qdf x.typ))=false):=by show _=_;rw[HT3.out];simp
         clear HPQ HPR hfin1 hfin2 HT HKT HST HSN;go_wp2_with fail;go_quiet (fail)
         go_wp2_with fail;go_roundw
         case rel=>exact⟨k+1,by have:=HKI.out;omega,by go_num,HBk.out.trans (Qay _),HN2.out,HT2.out⟩
         case measure=>simp[intOf];have:=HKI.out;omega
       have t10:((x.typ:Int)==10)=false:=by simp;omega
       by_cases q7:x.typ=7
       ·
        have t7:((x.typ:Int)==7)=true:=by simp;omega
        have hsg:Qcl x.typ=true:=by unfold Qcl;simp only[Bool.or_eq_true,decide_eq_true_eq];omega
        by_cases htyp:y.typ=x.typ
        ·
         have et:((x.typ:Int)==(y.typ:Int))=true:=by simp[htyp]
         obtain rfl:R=false:=by
          rw[HPQ.out,hsg,hfin2.out (by rw[HST.out];unfold Qdf;simp[htyp])]
          try simp
         clear htyp hsg HPQ HPR hfin1 hfin2 HT HKT;go_wp2_with fail;go_quiet (fail)
         go_wp2_with fail;go_ret;exact⟨rfl,HBk.out.trans (Qay _)⟩
        ·
         have et:((x.typ:Int)==(y.typ:Int))=false:=by simp;omega
         have hno:(l.take k).any (Qdf x.typ)=false:=by
          cases hh:(l.take k).any (Qdf x.typ) with
          | false=>rfl
          | true=>have:=HKT.out hh;rw[hsg] at this;cases this
         have HT2':(l.take (k+1)).any (Qdf x.typ)=false:=by rw[HST.out,hno,Bool.false_or];unfold Qdf;simpa using htyp
         have HT3:=hid HT2';clear hno HT2' htyp hsg;have HT2:Hid ((Qcl x.typ&&(l.take (k+1)).any (Qdf x.typ))=false):=by show _=_;rw[HT3.out];simp
         clear HPQ HPR hfin1 hfin2 HT HKT HST HSN;go_wp2_with fail;go_quiet (fail)
         go_wp2_with fail;go_roundw
         case rel=>exact⟨k+1,by have:=HKI.out;omega,by go_num,HBk.out.trans (Qay _),HN2.out,HT2.out⟩
         case measure=>simp[intOf];have:=HKI.out;omega
       have t7:((x.typ:Int)==7)=false:=by simp;omega
       by_cases q6:x.typ=6
       ·
        have t6:((x.typ:Int)==6)=true:=by simp;omega
        have hsg:Qcl x.typ=true:=by unfold Qcl;simp only[Bool.or_eq_true,decide_eq_true_eq];omega
        by_cases htyp:y.typ=x.typ
        ·
         have et:((x.typ:Int)==(y.typ:Int))=true:=by simp[htyp]
         obtain rfl:R=false:=by
          rw[HPQ.out,hsg,hfin2.out (by rw[HST.out];unfold Qdf;simp[htyp])]
          try simp
         clear htyp hsg HPQ HPR hfin1 hfin2 HT HKT;go_wp2_with fail;go_quiet (fail)
         go_wp2_with fail;go_ret;exact⟨rfl,HBk.out.trans (Qay _)⟩
        ·
         have et:((x.typ:Int)==(y.typ:Int))=false:=by simp;omega
         have hno:(l.take k).any (Qdf x.typ)=false:=by
          cases hh:(l.take k).any (Qdf x.typ) with
          | false=>rfl
          | true=>have:=HKT.out hh;rw[hsg] at this;cases this
         have HT2':(l.take (k+1)).any (Qdf x.typ)=false:=by rw[HST.out,hno,Bool.false_or];unfold Qdf;simpa using htyp
         have HT3:=hid HT2';clear hno HT2' htyp hsg;have HT2:Hid ((Qcl x.typ&&(l.take (k+1)).any (Qdf x.typ))=false):=by show _=_;rw[HT3.out];simp
         clear HPQ HPR hfin1 hfin2 HT HKT HST HSN;go_wp2_with fail;go_quiet (fail)
         go_wp2_with fail;go_roundw
         case rel=>exact⟨k+1,by have:=HKI.out;omega,by go_num,HBk.out.trans (Qay _),HN2.out,HT2.out⟩
         case measure=>simp[intOf];have:=HKI.out;omega
       have t6:((x.typ:Int)==6)=false:=by simp;omega
       have HT2:Hid ((Qcl x.typ&&(l.take (k+1)).any (Qdf x.typ))=false):=by show _=_;unfold Qcl;simp[q10,q7,q6]
       clear HPQ HPR hfin1 hfin2 HT HKT HST HSN;go_wp2_with fail;go_quiet (fail)
       go_wp2_with fail;go_roundw
       case rel=>exact⟨k+1,by have:=HKI.out;omega,by go_num,HBk.out.trans (Qay _),HN2.out,HT2.out⟩
       case measure=>simp[intOf];have:=HKI.out;omega
     ·
      obtain rfl:k=i:=by omega
      have hkk:¬ (k:Int)<(k:Int):=by omega
      have HF:Hid (R'=R):=by show _=_;rw[HPQ.out,HN.out,HT.out];rfl
      have HF2:Hid (frm (l.take (k+1)) (l.drop (k+1))=R):=by show _=_;rw[← HR'.out];exact HF.out
      clear HPQ HPR HT HN;go_wp2_with fail;go_roundw
      case rel=>exact⟨k+1,by have:=HLT.out;omega,by go_num,HBk.out,HF2.out⟩
      case measure=>simp[intOf];have:=HLT.out;omega
   case true.true =>
    have HPQ:Hid (R=((!((l.take i).any (Qbu x.num)))&&((!(Qcl x.typ&&(l.take i).any (Qdf x.typ)))&&R'))):=by show _=_;rw[HPR.out];rfl
    go_wp2_with fail;clear g0 g1;go_loopw [5] (fun v wl=>∃ k:Nat,k≤i∧v=.int .i64 (k:Int)∧Hid (Below w.heap.size w wl)∧Hid ((l.take k).any (Qbu x.num)=false)∧Hid ((Qcl x.typ&&(l.take k).any (Qdf x.typ))=false)) (fun v _=>i - (intOf v).toNat)
    case atStart=>exact⟨0,Nat.zero_le _,rfl,B1.out,by show _=_;simp,by show _=_;simp⟩
    case round =>
     obtain⟨k,hk,rfl,HBk,HN,HT⟩:=hrel;by_cases hlt:k<i
     ·
      have hkl:k<l.length:=by rw[HL.out];have:=HLT.out;omega
      obtain⟨A2,nd2,cd2,hk2⟩:=HK.out wr HBk.out k hkl;obtain⟨g0,g1⟩:=HXT.out wr HBk.out;have y0:=hk2.k0;have y1:=hk2.k1;have hsN:=Qhq l (Qbu x.num) k hkl;have hsT:=Qhq l (Qdf x.typ) k hkl;rw[HN.out,Bool.false_or] at hsN
      generalize l[k]=y at *;have hkk:(k:Int)<(i:Int):=by omega
      have hkn:(k:Int)<(n:Int):=by have:=HLT.out;omega
      have HSN:=hid hsN;have HST:=hid hsT;have HKI:=hid hlt;have HKT:Hid ((l.take k).any (Qdf x.typ)=true→Qcl x.typ=false):=fun hh=>by have:=HT.out;rw[hh,Bool.and_true] at this;exact this
      have hfin1:Hid ((l.take (k+1)).any (Qbu x.num)=true→(l.take i).any (Qbu x.num)=true):=fun hh=>by
       rw[List.any_eq_true] at hh ⊢
       obtain⟨z,hz,hz2⟩:=hh;exact⟨z,(List.take_subset_take_left l (show k+1≤i by have:=HKI.out;omega)) hz,hz2⟩
      have hfin2:Hid ((l.take (k+1)).any (Qdf x.typ)=true→(l.take i).any (Qdf x.typ)=true):=fun hh=>by
       rw[List.any_eq_true] at hh ⊢
       obtain⟨z,hz,hz2⟩:=hh;exact⟨z,(List.take_subset_take_left l (show k+1≤i by have:=HKI.out;omega)) hz,hz2⟩
      clear hsN hsT hk2 hkl hlt;by_cases hnum:y.num=x.num
      ·
       -- one number
       have en:((x.num:Int)==(y.num:Int))=true:=by simp[hnum]
       obtain rfl:R=false:=by
        rw[HPQ.out,hfin1.out (by rw[HSN.out];unfold Qbu;simp[hnum])]
        rfl
       clear hnum;have q1:x.typ=1:=by have:=hbt;simp at this;omega
       have q10:¬ x.typ=10:=by omega
       have t10:((x.typ:Int)==10)=false:=by simp;omega
       have q7:¬ x.typ=7:=by omega
       have t7:((x.typ:Int)==7)=false:=by simp;omega
       have q6:¬ x.typ=6:=by omega
       have t6:((x.typ:Int)==6)=false:=by simp;omega
       clear HPQ HPR hfin1 hfin2 HT HKT;go_wp2_with fail;go_quiet (fail)
       go_wp2_with fail;go_ret;exact⟨rfl,HBk.out.trans (Qay _)⟩
      ·
       have en:((x.num:Int)==(y.num:Int))=false:=by simp;omega
       have HN2:Hid ((l.take (k+1)).any (Qbu x.num)=false):=by show _=_;rw[HSN.out];unfold Qbu;simpa using hnum
       clear hnum;have q1:x.typ=1:=by have:=hbt;simp at this;omega
       have q10:¬ x.typ=10:=by omega
       have t10:((x.typ:Int)==10)=false:=by simp;omega
       have q7:¬ x.typ=7:=by omega
       have t7:((x.typ:Int)==7)=false:=by simp;omega
       have q6:¬ x.typ=6:=by omega
       have t6:((x.typ:Int)==6)=false:=by simp;omega
       have HT2:Hid ((Qcl x.typ&&(l.take (k+1)).any (Qdf x.typ))=false):=by show _=_;unfold Qcl;simp[q10,q7,q6]
       clear HPQ HPR hfin1 hfin2 HT HKT HST HSN;go_wp2_with fail;go_quiet (fail)
       go_wp2_with fail;go_roundw
       case rel=>exact⟨k+1,by have:=HKI.out;omega,by go_num,HBk.out.trans (Qay _),HN2.out,HT2.out⟩
       case measure=>simp[intOf];have:=HKI.out;omega
     ·
      obtain rfl:k=i:=by omega
      have hkk:¬ (k:Int)<(k:Int):=by omega
      have HF:Hid (R'=R):=by show _=_;rw[HPQ.out,HN.out,HT.out];rfl
      have HF2:Hid (frm (l.take (k+1)) (l.drop (k+1))=R):=by show _=_;rw[← HR'.out];exact HF.out
      clear HPQ HPR HT HN;go_wp2_with fail;go_roundw
      case rel=>exact⟨k+1,by have:=HLT.out;omega,by go_num,HBk.out,HF2.out⟩
      case measure=>simp[intOf];have:=HLT.out;omega
  ·
   obtain rfl:i=n:=by omega
   have hii:¬ (i:Int)<(i:Int):=by omega
   have hp:=HP.out;rw[List.drop_of_length_le (by rw[HL.out];exact Nat.le_refl _),frm] at hp
   subst hp;go_wp2_with fail;go_ret;exact⟨rfl,HB.out⟩
theorem Q1b(f:Nat):f &&& 4=0∨f &&& 4=4:=by
 have h1:f &&& 4≤4:=Nat.and_le_right;have h2:(f &&& 4) &&& 4=f &&& 4:=by rw[Nat.and_assoc,Nat.and_self]
 generalize f &&& 4=x at *;match x,h1,h2 with
 | 0,_,_=>exact .inl rfl
 | 1,_,h=>exact absurd h (by decide)
 | 2,_,h=>exact absurd h (by decide)
 | 3,_,h=>exact absurd h (by decide)
 | 4,_,_=>exact .inr rfl
theorem Qwl(f:Nat):(f &&& 475140=4)↔(f &&& 4≠0∧f &&& 475136=0):=by
 have e:f &&& 475140=(f &&& 4) ||| (f &&& 475136):=by rw[show(475140:Nat)=4 ||| 475136 by decide,Nat.and_or_distrib_left]
 have h2:(f &&& 475136) &&& 475136=f &&& 475136:=by rw[Nat.and_assoc,Nat.and_self]
 rcases Q1b f with h0|h4
 ·
  rw[e,h0,Nat.zero_or]
  generalize f &&& 475136=y at *;constructor
  ·
   intro h;subst h;exact absurd h2 (by decide)
  ·
   intro h;exact absurd rfl h.1
 ·
  rw[e,h4]
  have hle:(f &&& 475136)≤4 ||| (f &&& 475136):=Nat.right_le_or
  generalize f &&& 475136=y at *;constructor
  ·
   intro h;rw[h] at hle
   refine⟨by decide,?_⟩;match y,hle,h2 with
   | 0,_,_=>rfl
   | 1,_,h=>exact absurd h (by decide)
   | 2,_,h=>exact absurd h (by decide)
   | 3,_,h=>exact absurd h (by decide)
   | 4,_,h=>exact absurd h (by decide)
  ·
   rintro ⟨_,rfl⟩;rfl
theorem Qnu(f:Nat)(hf:f<18446744073709551616):Qgv f=(!(bits BinOp.and IntKind.u64 (f:Int) 4==0) && !(bits BinOp.and IntKind.u64 (f:Int) 475136 != 0)):=by
 unfold Qgv;have e1:=bits_and_u64_nat f 475140 hf (by decide);have e2:=bits_and_u64_nat f 4 hf (by decide);have e3:=bits_and_u64_nat f 475136 hf (by decide);have c1:((475140:Nat):Int)=475140:=rfl;have c2:((4:Nat):Int)=4:=rfl;have c3:((475136:Nat):Int)=475136:=rfl;rw[c1] at e1
 rw[c2] at e2
 rw[c3] at e3
 rw[e1,e2,e3,Bool.eq_iff_iff]
 have:=Qwl f
 simp;omega
theorem Qoc(h:BH)(l:List Blk)(A:OA)(n c B:Nat)(w:World)(hd:h.Bd)(hr:RdL w B A n l)(hB:B≤w.heap.size) :
  Calls Tryz.prog 34 #[Qbl h A n c] w fun e w'=>e=.returned (.int .i64 (Qa3 (h.bun l)))∧Below w.heap.size w w':=by
 have HB0:=hid ((Below.refl w.heap.size w).alloc zr (hbx h h.crc A n c));have HW0:Hid (Below (w.heap.size+1) (w.alloc (hbx h h.crc A n c)) (w.alloc (hbx h h.crc A n c))):=Below.refl _ _;have HX:=hid (fun (W:World) (hb:Below (w.heap.size+1) (w.alloc (hbx h h.crc A n c)) W)=>Qpf rfl hb);have K1:=hid (fun W=>Qcm h.dsc h.dnm h.dn h.dv W hd.dnm);have K2:=hid (fun W=>Qcm h.ssc h.snm h.sn h.sv W hd.snm);have K3:=hid (fun W=>Qcm h.rsc h.rnm h.rn h.rv W hd.rnm);have N1:=hid (fun W=>Qme h.dsc h.dnm h.dn h.dv W);have N2:=hid (fun W=>Qme h.ssc h.snm h.sn h.sv W);have HS:Hid ((w.alloc (hbx h h.crc A n c)).heap.size=w.heap.size+1):=by show _=_;simp
 have KO:=hid (fun (W:World) (hb:Below w.heap.size w W) (h1:1≤n) (h2:n≤1000)=>Qtt A n c B l W (hr.below (hb.mono hB)) (Nat.le_trans hB hb.size) h1 h2);obtain⟨Z,hZ0⟩:∃ Z,Z=Qa3 (h.bun l):=⟨_,rfl⟩
 rw[← hZ0]
 have hZ:Z=if Qlb h.flg=true then 62 else if (decide (0≤h.crc∧h.crc≤2)&&((Qag h.dst&&(Qag h.src&&Qag h.rep))&&((!(Qby h.dst))&&(!(Qby h.src && !(Qgv h.flg))))))=true∧(decide (1≤n∧n≤16)&&frm [] l)=true then 0 else 60:=by
  rw[hZ0]
  unfold Qa3;rw[Qj0]
  unfold Qcy;rw[show(h.bun l).blks.length=n from hr.1]
  rfl
 rw[Qnu h.flg hd.flg] at hZ
 have e1:Qag (ep h.dsc h.dnm h.dn h.dv)=Qag h.dst:=rfl;have e2:Qag (ep h.ssc h.snm h.sn h.sv)=Qag h.src:=rfl;have e3:Qag (ep h.rsc h.rnm h.rn h.rv)=Qag h.rep:=rfl;have e4:Qby (ep h.dsc h.dnm h.dn h.dv)=Qby h.dst:=rfl;have e5:Qby (ep h.ssc h.snm h.sn h.sv)=Qby h.src:=rfl;rw[e1] at K1
 rw[e2] at K2
 rw[e3] at K3
 rw[e4] at N1
 rw[e5] at N2
 have hfr:(bits BinOp.and IntKind.u64 (h.flg:Int) 1 != 0)=Qlb h.flg:=rfl;generalize Qlb h.flg=fr at *;generalize Qag h.dst=c1 at *;generalize Qag h.src=c2 at *;generalize Qag h.rep=c3 at *;generalize Qby h.dst=n1 at *;generalize Qby h.src=n2 at *;generalize hb4:(bits BinOp.and IntKind.u64 (h.flg:Int) 4==0)=b4 at *;generalize hbR:(bits BinOp.and IntKind.u64 (h.flg:Int) 475136 != 0)=bR at *;generalize frm [] l=fm at *;clear e1 e2 e3 e4 e5 hd hr hB hZ0;unfold Qbl Qbq at *;cases fr with
 | true =>
  obtain rfl:Z=62:=hZ;clear hb4 hbR;go_enter Tryz.func34,Tryz.ntmps34;go_wp2_with fail;go_ret;exact⟨rfl,HB0.out⟩
 | false =>
 rw[if_neg (by decide)] at hZ
 by_cases h1:h.crc<0
 ·
  obtain rfl:Z=60:=by rw[hZ,decide_eq_false (by omega)];rfl
  clear hZ;go_enter Tryz.func34,Tryz.ntmps34;go_wp2_with fail;go_ret;exact⟨rfl,HB0.out⟩
 have h1':decide (h.crc<0)=false:=decide_eq_false h1;by_cases h2:2<h.crc
 ·
  obtain rfl:Z=60:=by rw[hZ,decide_eq_false (by omega)];rfl
  clear hZ;go_enter Tryz.func34,Tryz.ntmps34;go_wp2_with fail;go_ret;exact⟨rfl,HB0.out⟩
 have h2':decide (2<h.crc)=false:=decide_eq_false h2;rw[decide_eq_true (by omega),Bool.true_and] at hZ
 go_enter Tryz.func34,Tryz.ntmps34;go_wp2_with fail;refine(K1.out _).mono ?_;rintro e w1 ⟨rfl,hb⟩;have Bw1:=hid (Below.push HW0.out (Nat.le_of_eq HS.out.symm) hb);have Tw1:=hid (HB0.out.trans (Bw1.out.mono (Nat.le_succ _)));clear hb;obtain⟨x0,x1,x2,x3,x4,x5,x6,x7,x8,x9,x10,x11,x12,x13,x14,x15,x16,x17⟩:=HX.out _ Bw1.out;cases c1 with
 | false =>
  obtain rfl:Z=60:=by rw[hZ];simp
  clear hZ;go_wp2_with fail;go_ret;exact⟨rfl,Tw1.out⟩
 | true =>
 go_wp2_with fail;refine(K2.out _).mono ?_;rintro e w2 ⟨rfl,hb⟩;have Bw2:=hid (Below.push Bw1.out (Nat.le_of_eq HS.out.symm) hb);have Tw2:=hid (HB0.out.trans (Bw2.out.mono (Nat.le_succ _)));clear hb;clear x0 x1 x2 x3 x4 x5 x6 x7 x8 x9 x10 x11 x12 x13 x14 x15 x16 x17;obtain⟨x0,x1,x2,x3,x4,x5,x6,x7,x8,x9,x10,x11,x12,x13,x14,x15,x16,x17⟩:=HX.out _ Bw2.out;cases c2 with
 | false =>
  obtain rfl:Z=60:=by rw[hZ];simp
  clear hZ;go_wp2_with fail;go_ret;exact⟨rfl,Tw2.out⟩
 | true =>
 go_wp2_with fail;refine(K3.out _).mono ?_;rintro e w3 ⟨rfl,hb⟩;have Bw3:=hid (Below.push Bw2.out (Nat.le_of_eq HS.out.symm) hb);have Tw3:=hid (HB0.out.trans (Bw3.out.mono (Nat.le_succ _)));clear hb;clear x0 x1 x2 x3 x4 x5 x6 x7 x8 x9 x10 x11 x12 x13 x14 x15 x16 x17;obtain⟨x0,x1,x2,x3,x4,x5,x6,x7,x8,x9,x10,x11,x12,x13,x14,x15,x16,x17⟩:=HX.out _ Bw3.out;cases c3 with
 | false =>
  obtain rfl:Z=60:=by rw[hZ];simp
  clear hZ;go_wp2_with fail;go_ret;exact⟨rfl,Tw3.out⟩
 | true =>
 go_wp2_with fail;refine(N1.out _).mono ?_;rintro e w4 ⟨rfl,hb⟩;have Bw4:=hid (Below.push Bw3.out (Nat.le_of_eq HS.out.symm) hb);have Tw4:=hid (HB0.out.trans (Bw4.out.mono (Nat.le_succ _)));clear hb;clear x0 x1 x2 x3 x4 x5 x6 x7 x8 x9 x10 x11 x12 x13 x14 x15 x16 x17;obtain⟨x0,x1,x2,x3,x4,x5,x6,x7,x8,x9,x10,x11,x12,x13,x14,x15,x16,x17⟩:=HX.out _ Bw4.out;cases n1 with
 | true =>
  obtain rfl:Z=60:=by rw[hZ];simp
  clear hZ;go_wp2_with fail;go_ret;exact⟨rfl,Tw4.out⟩
 | false =>
 by_cases hn1:n<1
 ·
  have q1:(n:Int)<1:=by omega
  have q2:decide ((n:Int)<1)=true:=decide_eq_true q1;obtain rfl:Z=60:=by rw[hZ,decide_eq_false (show ¬ (1≤n∧n≤16) by omega)];simp
  clear hZ;go_wp2_with fail;go_ret;exact⟨rfl,Tw4.out⟩
 have q1:¬ (n:Int)<1:=by omega
 have q2:decide ((n:Int)<1)=false:=decide_eq_false q1;by_cases hn16:16<n
 ·
  have q3:(16:Int)<(n:Int):=by omega
  have q4:decide ((16:Int)<(n:Int))=true:=decide_eq_true q3;obtain rfl:Z=60:=by rw[hZ,decide_eq_false (show ¬ (1≤n∧n≤16) by omega)];simp
  clear hZ;go_wp2_with fail;go_ret;exact⟨rfl,Tw4.out⟩
 have q3:¬ (16:Int)<(n:Int):=by omega
 have q4:decide ((16:Int)<(n:Int))=false:=decide_eq_false q3;rw[decide_eq_true (show 1≤n∧n≤16 by omega),Bool.true_and] at hZ
 go_wp2_with fail;refine(KO.out _ Tw4.out (by omega) (by omega)).mono ?_;rintro e w5 ⟨rfl,hb⟩;have Bw5:=hid (Below.push Bw4.out (Nat.le_of_eq HS.out.symm) hb);have Tw5:=hid (HB0.out.trans (Bw5.out.mono (Nat.le_succ _)));clear hb x0 x1 x2 x3 x4 x5 x6 x7 x8 x9 x10 x11 x12 x13 x14 x15 x16 x17;obtain⟨x0,x1,x2,x3,x4,x5,x6,x7,x8,x9,x10,x11,x12,x13,x14,x15,x16,x17⟩:=HX.out _ Bw5.out;cases fm with
 | false =>
  obtain rfl:Z=60:=by rw[hZ];simp
  clear hZ;go_wp2_with fail;go_ret;exact⟨rfl,Tw5.out⟩
 | true =>
 go_wp2_with fail;refine(N2.out _).mono ?_;rintro e w6 ⟨rfl,hb⟩;have Bw6:=hid (Below.push Bw5.out (Nat.le_of_eq HS.out.symm) hb);have Tw6:=hid (HB0.out.trans (Bw6.out.mono (Nat.le_succ _)));clear hb x0 x1 x2 x3 x4 x5 x6 x7 x8 x9 x10 x11 x12 x13 x14 x15 x16 x17;obtain⟨x0,x1,x2,x3,x4,x5,x6,x7,x8,x9,x10,x11,x12,x13,x14,x15,x16,x17⟩:=HX.out _ Bw6.out;cases n2 with
 | false =>
  obtain rfl:Z=0:=by rw[hZ];simp
  clear hZ;go_wp2_with fail;go_ret;exact⟨rfl,Tw6.out⟩
 | true =>
 cases b4 with
 | true =>
  obtain rfl:Z=60:=by rw[hZ];simp
  clear hZ;go_wp2_with fail;go_ret;exact⟨rfl,Tw6.out⟩
 | false =>
 cases bR with
 | true =>
  obtain rfl:Z=60:=by rw[hZ];simp
  clear hZ;go_wp2_with fail;go_ret;exact⟨rfl,Tw6.out⟩
 | false =>
  obtain rfl:Z=0:=by rw[hZ];simp
  clear hZ;go_wp2_with fail;go_ret;exact⟨rfl,Tw6.out⟩
def Q45(l:List Blk)(q B:Nat)(w:World)(e:Ending)(w':World):Prop:=Below w.heap.size w w' ∧
 ((∃ (x:Blk) (Ax:OA) (nd cd:Nat),l.find? (Qbu q)=some x∧x.typ≠11∧x∈l∧Bd x∧(nd≤cd∧nd≤140737488355328)∧Rd w B Ax nd x.dat∧e=.returned (.tuple #[Qe3 x.typ x.num x.flg x.crc Ax nd cd,.bool true])) ∨
  ((∀ x,l.find? (Qbu q)=some x→x.typ=11)∧e=.returned (.tuple #[Qe3 0 0 0 0 none 0 0,.bool false])))
theorem Qlz(h:BH)(l:List Blk)(A:OA)(n c B q:Nat)(w:World)(hr:RdL w B A n l)(hB:B≤w.heap.size) :
  Calls Tryz.prog 74 #[Qbl h A n c,.int .u64 (q:Int)] w (Q45 l q B w):=by
 have HRW:=hid (fun (W:World) (hb:Below (w.heap.size+1) (w.alloc (hbx h h.crc A n c)) W)=>Qad (w:=w) rfl hb);have HB0:Hid (Below w.heap.size w ((w.alloc (hbx h h.crc A n c)).alloc zk6)):=zb.alloc (Qaa _ _) _;have HB1:Hid (Below (w.heap.size+1) (w.alloc (hbx h h.crc A n c)) ((w.alloc (hbx h h.crc A n c)).alloc zk6)):=(Below.refl _ _).alloc (by simp) _;have HS0:Hid (((w.alloc (hbx h h.crc A n c)).alloc zk6).heap.size=w.heap.size+2):=by show _=_;simp
 have hz0:=fun (W:World) (hb:Below (w.heap.size+1+1) ((w.alloc (hbx h h.crc A n c)).alloc zk6) W)=>Q3n (g:=w.heap.size+1) (by simp) hb
 have HZ:=hid hz0;clear hz0;have CF:=hid (fun (W:World) (hb:Below w.heap.size w W)=>Qlx h l A n c W.heap.size q W ((hr.below (hb.mono hB)).more (Nat.le_trans hB hb.size)) zr);have HR:=hid hr;have HB:=hid hB;clear hr hB;have HG:Hid (∀ e w',Below w.heap.size w w' ∧
 ((∃ (x:Blk) (Ax:OA) (nd cd:Nat),l.find? (Qbu q)=some x∧x.typ≠11∧x∈l∧Bd x∧(nd≤cd∧nd≤140737488355328)∧Rd w B Ax nd x.dat∧e=.returned (.tuple #[Qe3 x.typ x.num x.flg x.crc Ax nd cd,.bool true])) ∨
  ((∀ x,l.find? (Qbu q)=some x→x.typ=11)∧e=.returned (.tuple #[Qe3 0 0 0 0 none 0 0,.bool false])))→Q45 l q B w e w'):=fun _ _ hh=>hh
 rcases Qfx (Qbu q) l 0 with ⟨h1,h2⟩|⟨k,hk,h1,h2⟩
 ·
  have H2:=hid h2;rw[h1] at CF
  clear h1 h2;unfold Qbl at *;go_enter Tryz.func74,Tryz.ntmps74;go_wp2_with (first
   | (refine Qae rfl (.tmp 2) rfl _ rfl _ _ (HRW.out _ HB1.out) rfl ?_)
   | fail)
  refine(CF.out _ HB0.out).mono ?_;rintro e w1 ⟨rfl,hb⟩;obtain⟨⟨z0,z1,z2,z3,z4⟩,f0,f1,f2,f3,f4⟩:=HZ.out w1 (hb.mono (by rw[HS0.out];exact Nat.le_refl _));have T1:=hid (HB0.out.trans (hb.mono (by rw[HS0.out];omega)));clear hb;go_wp2_with fail;refine bodyPost_ret (v:=.tuple #[Qe3 0 0 0 0 none 0 0,.bool false]) (by simp[results,Tryz.results74,go_sem,z0,z1,z2,z3,z4,Qe3]) rfl (HG.out _ _ ⟨Qgs T1.out (Nat.le_succ _),.inr ⟨fun x hx=>(by rw[H2.out] at hx;cases hx),rfl⟩⟩)
 ·
  rw[Nat.zero_add] at h1
  have hkn:k<n:=by rw[← HR.out.1];exact hk
  have hk1:(k:Int)<(n:Int):=by omega
  have hk0:decide ((k:Int)<0)=false:=decide_eq_false (by omega);obtain⟨b,o,rfl,hbB,hks⟩:=HR.out.2.1 (by omega);obtain⟨A1,nd,cd,hkk⟩:=hks.get k hk;have HK:=hid hkk;have HMEM:=hid (List.getElem_mem hk);have H2:=hid h2;rw[h1] at CF
  generalize l[k]'hk=x at *;have HBB:=hid hbB;clear h1 h2 hks hkk hbB;by_cases h11:x.typ=11
  ·
   have ht:((x.typ:Int)==11)=true:=by rw[h11];rfl
   have H11:=hid h11;clear h11;unfold Qbl at *;go_enter Tryz.func74,Tryz.ntmps74;go_wp2_with (first
    | (refine Qae rfl (.tmp 2) rfl _ rfl _ _ (HRW.out _ HB1.out) rfl ?_)
    | fail)
   refine(CF.out _ HB0.out).mono ?_;rintro e w1 ⟨rfl,hb⟩;obtain⟨⟨z0,z1,z2,z3,z4⟩,f0,f1,f2,f3,f4⟩:=HZ.out w1 (hb.mono (by rw[HS0.out];exact Nat.le_refl _));have hT1:=HB0.out.trans (hb.mono (by rw[HS0.out];omega));have x17:=Qab (HRW.out w1 (HB1.out.trans (hb.mono (by rw[HS0.out];omega)))) 17 rfl;have g0:=(HK.out.below (hT1.mono HB.out) HBB.out).k0;have T1:=hid hT1;clear hb hT1;go_wp2_with fail;refine bodyPost_ret (v:=.tuple #[Qe3 0 0 0 0 none 0 0,.bool false]) (by simp[results,Tryz.results74,go_sem,z0,z1,z2,z3,z4,Qe3]) rfl (HG.out _ _ ⟨Qgs T1.out (Nat.le_succ _),.inr ⟨fun y hy=>(by rw[H2.out] at hy;injection hy with hy;rw[← hy];exact H11.out),rfl⟩⟩)
  ·
   have ht:((x.typ:Int)==11)=false:=by rw[beq_eq_false_iff_ne];omega
   have H11:=hid h11;clear h11;unfold Qbl at *;go_enter Tryz.func74,Tryz.ntmps74;go_wp2_with (first
    | (refine Qae rfl (.tmp 2) rfl _ rfl _ _ (HRW.out _ HB1.out) rfl ?_)
    | fail)
   refine(CF.out _ HB0.out).mono ?_;rintro e w1 ⟨rfl,hb⟩;obtain⟨⟨z0,z1,z2,z3,z4⟩,f0,f1,f2,f3,f4⟩:=HZ.out w1 (hb.mono (by rw[HS0.out];exact Nat.le_refl _));have hT1:=HB0.out.trans (hb.mono (by rw[HS0.out];omega));have x17:=Qab (HRW.out w1 (HB1.out.trans (hb.mono (by rw[HS0.out];omega)))) 17 rfl;have hK1:=HK.out.below (hT1.mono HB.out) HBB.out;have g0:=hK1.k0;have g1:=hK1.k1;have g2:=hK1.k2;have g3:=hK1.k3;have g4:=hK1.k4;have T1:=hid hT1;clear hb hT1 hK1;go_wp2_with fail;refine bodyPost_ret (v:=.tuple #[Qe3 x.typ x.num x.flg x.crc A1 nd cd,.bool true]) (by simp[results,Tryz.results74,go_sem,z0,z1,z2,z3,z4,Qe3]) rfl (HG.out _ _ ⟨Qgs T1.out (Nat.le_succ _),.inl ⟨x,A1,nd,cd,H2.out,H11.out,HMEM.out,HK.out.bd,HK.out.le,HK.out.rd,rfl⟩⟩)
end Go.Proofs.YtbnfkjkoinbkgaaGreatDoor
