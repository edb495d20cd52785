import Derived.Test.YtlecbblmaadpiaaGreatDoorKBlkW3
import Derived.Test.YtlecbblmaadpiaaGreatDoorKBunD
import Derived.Test.YtlecbblmaadpiaaGreatDoorKRfG
import Derived.BigQuiet
import Derived.Deep.QuietTactic
namespace Go.Proofs.YtlecbblmaadpiaaGreatDoor
set_option maxRecDepth 100000
set_option maxHeartbeats 16000000
open Go.RowKit
open Go.Lib (hid)
theorem any_step (l:List Blk) (p:Blk→Bool) (k:Nat) (hk:k<l.length):(l.take (k+1)).any p=((l.take k).any p||p (l[k]'hk)):=by
 rw [List.take_succ_eq_append_getElem hk,List.any_append]
 simp
theorem ronce_any (A:Option Addr) (n c B:Nat) (l:List Blk) (w:World) (h:RdL w B A n l) (hB:B≤w.heap.size) (h1:1≤n) (hcap:n≤1000) :
  Calls Tryz.prog 102 #[.slice A n c] w fun e w'=>e=.returned (.bool (frm [] l))∧Below w.heap.size w w':=by
 obtain ⟨R,hR⟩:∃ R,R=frm [] l:=⟨_,rfl⟩
 rw [← hR]
 obtain ⟨M,hM⟩:∃ M,n=M+1:=⟨n - 1,by omega⟩
 have hM1:(n:Int) - 1=(M:Int):=by omega
 have hwM:wrap64 (M:Int)=(M:Int):=by unfold wrap64;omega
 obtain ⟨b,o,rfl,hbB,hks⟩:=h.2.1 (by omega)
 have HL:Hid (l.length=n):=h.1
 have HK:=hid (fun (W:World) (hb:Below w.heap.size w W) (j:Nat) (hj:j<l.length)=>(show ∃ A1 nd cd,RdK W B b (o+j*5) (l[j]'hj) A1 nd cd from by obtain ⟨A1,nd,cd,hk⟩:=hks.get j hj;exact ⟨A1,nd,cd,hk.below (hb.mono hB) hbB⟩))
 have HR:=hid hR
 have HM:=hid hM
 clear hR h hB hks hbB hM h1
 go_enter Tryz.func102,Tryz.ntmps102
 go_wp2_with fail
 go_loopw [3] (fun v wl=>∃ i:Nat,i≤n∧v=.int .i64 (i:Int)∧Hid (Below w.heap.size w wl)∧Hid (frm (l.take i) (l.drop i)=R)) (fun v _=>n - (intOf v).toNat)
 case atStart=>exact ⟨0,Nat.zero_le _,rfl,Below.refl _ _,HR.out.symm⟩
 case round =>
  obtain ⟨i,hi,rfl,HB,HP⟩:=hrel
  by_cases hlt:i<n
  ·
   have hil:i<l.length:=by rw [HL.out];exact hlt
   obtain ⟨A1,nd,cd,hk⟩:=HK.out wr HB.out i hil
   have hp:=frm_step l i n HL.out hlt
   rw [HP.out] at hp
   have HXT:=hid (fun (W:World) (hb:Below w.heap.size w W)=>(show W.cell? ⟨b,o+i*5,none⟩=some (.int .u64 ((l[i]'hil).typ:Int))∧W.cell? ⟨b,o+i*5+1,none⟩=some (.int .u64 ((l[i]'hil).num:Int)) from by obtain ⟨_,_,_,hk⟩:=HK.out W hb i hil;exact ⟨hk.k0,hk.k1⟩))
   generalize l[i]=x at *
   have g0:=hk.k0
   have g1:=hk.k1
   have g2:=hk.k2
   have g3:=hk.k3
   have g4:=hk.k4
   have KB:=hid (fun W=>rcheckB_any x.typ x.num x.flg x.crc A1 nd cd x.dat W hk.rd.1)
   have eob:(⟨x.typ,x.num,x.flg,x.crc,x.dat⟩:Blk)=x:=rfl
   rw [eob] at KB
   unfold blkV at KB
   generalize blkOk x=o1 at *
   obtain ⟨R',hR'⟩:∃ R',R'=frm (l.take (i+1)) (l.drop (i+1)):=⟨_,rfl⟩
   rw [← hR'] at hp
   have HR':=hid hR'
   clear hR'
   have hii:(i:Int)<(n:Int):=by omega
   have hbi:((i:Int)==(M:Int))=decide (i+1=n):=by rw [Bool.eq_iff_iff];simp;have:=HM.out;omega
   have hbt:((x.typ:Int)==1)=decide (x.typ=1):=by rw [Bool.eq_iff_iff];simp;omega
   generalize decide (i+1=n)=bi at *
   generalize decide (x.typ=1)=bt at *
   have HPR:=hid hp
   have HLT:=hid hlt
   clear hp hk eob hil hlt
   cases o1 with
   | false =>
    obtain rfl:R=false:=by rw [HPR.out];rfl
    go_wp2_with fail
    refine (KB.out _).mono ?_
    rintro e w1 ⟨rfl,hb⟩
    have B1:=hid (HB.out.trans (hb.mono HB.out.size))
    clear hb g0 g1 g2 g3 g4
    go_wp2_with fail
    go_ret
    exact ⟨rfl,B1.out⟩
   | true =>
   go_wp2_with fail
   refine (KB.out _).mono ?_
   rintro e w1 ⟨rfl,hb⟩
   have B1:=hid (HB.out.trans (hb.mono HB.out.size))
   clear hb g0 g1 g2 g3 g4
   obtain ⟨g0,g1⟩:=HXT.out w1 B1.out
   cases bt <;> cases bi
   case false.true =>
    obtain rfl:R=false:=by rw [HPR.out];rfl
    go_wp2_with fail
    go_ret
    exact ⟨rfl,B1.out⟩
   case true.false =>
    obtain rfl:R=false:=by rw [HPR.out];rfl
    go_wp2_with fail
    go_ret
    exact ⟨rfl,B1.out⟩
   case false.false =>
    have HPQ:Hid (R=((!((l.take i).any (pNum x.num)))&&((!(singB x.typ&&(l.take i).any (pTyp x.typ)))&&R'))):=by show _=_;rw [HPR.out];rfl
    go_wp2_with fail
    clear g0 g1
    go_loopw [5] (fun v wl=>∃ k:Nat,k≤i∧v=.int .i64 (k:Int)∧Hid (Below w.heap.size w wl)∧Hid ((l.take k).any (pNum x.num)=false)∧Hid ((singB x.typ&&(l.take k).any (pTyp x.typ))=false)) (fun v _=>i - (intOf v).toNat)
    case atStart=>exact ⟨0,Nat.zero_le _,rfl,B1.out,by show _=_;simp,by show _=_;simp⟩
    case round =>
     obtain ⟨k,hk,rfl,HBk,HN,HT⟩:=hrel
     by_cases hlt:k<i
     ·
      have hkl:k<l.length:=by rw [HL.out];have:=HLT.out;omega
      obtain ⟨A2,nd2,cd2,hk2⟩:=HK.out wr HBk.out k hkl
      obtain ⟨g0,g1⟩:=HXT.out wr HBk.out
      have y0:=hk2.k0
      have y1:=hk2.k1
      have hsN:=any_step l (pNum x.num) k hkl
      have hsT:=any_step l (pTyp x.typ) k hkl
      rw [HN.out,Bool.false_or] at hsN
      generalize l[k]=y at *
      have hkk:(k:Int)<(i:Int):=by omega
      have hkn:(k:Int)<(n:Int):=by have:=HLT.out;omega
      have HSN:=hid hsN
      have HST:=hid hsT
      have HKI:=hid hlt
      have HKT:Hid ((l.take k).any (pTyp x.typ)=true→singB x.typ=false):=fun hh=>by have:=HT.out;rw [hh,Bool.and_true] at this;exact this
      have hfin1:Hid ((l.take (k+1)).any (pNum x.num)=true→(l.take i).any (pNum x.num)=true):=fun hh=>by
       rw [List.any_eq_true] at hh ⊢
       obtain ⟨z,hz,hz2⟩:=hh
       exact ⟨z,(List.take_subset_take_left l (show k+1≤i by have:=HKI.out;omega)) hz,hz2⟩
      have hfin2:Hid ((l.take (k+1)).any (pTyp x.typ)=true→(l.take i).any (pTyp x.typ)=true):=fun hh=>by
       rw [List.any_eq_true] at hh ⊢
       obtain ⟨z,hz,hz2⟩:=hh
       exact ⟨z,(List.take_subset_take_left l (show k+1≤i by have:=HKI.out;omega)) hz,hz2⟩
      clear hsN hsT hk2 hkl hlt
      by_cases hnum:y.num=x.num
      ·
       -- one number
       have en:((x.num:Int)==(y.num:Int))=true:=by simp [hnum]
       obtain rfl:R=false:=by
        rw [HPQ.out,hfin1.out (by rw [HSN.out];unfold pNum;simp [hnum])]
        rfl
       clear hnum
       by_cases q10:x.typ=10
       ·
        have t10:((x.typ:Int)==10)=true:=by simp;omega
        clear HPQ HPR hfin1 hfin2 HT HKT
        go_wp2_with fail
        go_quiet (fail)
        go_wp2_with fail
        go_ret
        exact ⟨rfl,HBk.out.trans (drewN_below _)⟩
       have t10:((x.typ:Int)==10)=false:=by simp;omega
       by_cases q7:x.typ=7
       ·
        have t7:((x.typ:Int)==7)=true:=by simp;omega
        clear HPQ HPR hfin1 hfin2 HT HKT
        go_wp2_with fail
        go_quiet (fail)
        go_wp2_with fail
        go_ret
        exact ⟨rfl,HBk.out.trans (drewN_below _)⟩
       have t7:((x.typ:Int)==7)=false:=by simp;omega
       by_cases q6:x.typ=6
       ·
        have t6:((x.typ:Int)==6)=true:=by simp;omega
        clear HPQ HPR hfin1 hfin2 HT HKT
        go_wp2_with fail
        go_quiet (fail)
        go_wp2_with fail
        go_ret
        exact ⟨rfl,HBk.out.trans (drewN_below _)⟩
       have t6:((x.typ:Int)==6)=false:=by simp;omega
       clear HPQ HPR hfin1 hfin2 HT HKT
       go_wp2_with fail
       go_quiet (fail)
       go_wp2_with fail
       go_ret
       exact ⟨rfl,HBk.out.trans (drewN_below _)⟩
      ·
       have en:((x.num:Int)==(y.num:Int))=false:=by simp;omega
       have HN2:Hid ((l.take (k+1)).any (pNum x.num)=false):=by show _=_;rw [HSN.out];unfold pNum;simpa using hnum
       clear hnum
       by_cases q10:x.typ=10
       ·
        have t10:((x.typ:Int)==10)=true:=by simp;omega
        have hsg:singB x.typ=true:=by unfold singB;simp only [Bool.or_eq_true,decide_eq_true_eq];omega
        by_cases htyp:y.typ=x.typ
        ·
         have et:((x.typ:Int)==(y.typ:Int))=true:=by simp [htyp]
         obtain rfl:R=false:=by
          rw [HPQ.out,hsg,hfin2.out (by rw [HST.out];unfold pTyp;simp [htyp])]
          try simp
         clear htyp hsg HPQ HPR hfin1 hfin2 HT HKT
         go_wp2_with fail
         go_quiet (fail)
         go_wp2_with fail
         go_ret
         exact ⟨rfl,HBk.out.trans (drewN_below _)⟩
        ·
         have et:((x.typ:Int)==(y.typ:Int))=false:=by simp;omega
         have hno:(l.take k).any (pTyp x.typ)=false:=by
          cases hh:(l.take k).any (pTyp x.typ) with
          | false=>rfl
          | true=>have:=HKT.out hh;rw [hsg] at this;cases this
         have HT2':(l.take (k+1)).any (pTyp x.typ)=false:=by rw [HST.out,hno,Bool.false_or];unfold pTyp;simpa using htyp
         have HT3:=hid HT2'
         clear hno HT2' htyp hsg
         have HT2:Hid ((singB x.typ&&(l.take (k+1)).any (pTyp x.typ))=false):=by show _=_;rw [HT3.out];simp
         clear HPQ HPR hfin1 hfin2 HT HKT HST HSN
         go_wp2_with fail
         go_quiet (fail)
         go_wp2_with fail
         go_roundw
         case rel=>exact ⟨k+1,by have:=HKI.out;omega,by go_num,HBk.out.trans (drewN_below _),HN2.out,HT2.out⟩
         case measure=>simp [intOf];have:=HKI.out;omega
       have t10:((x.typ:Int)==10)=false:=by simp;omega
       by_cases q7:x.typ=7
       ·
        have t7:((x.typ:Int)==7)=true:=by simp;omega
        have hsg:singB x.typ=true:=by unfold singB;simp only [Bool.or_eq_true,decide_eq_true_eq];omega
        by_cases htyp:y.typ=x.typ
        ·
         have et:((x.typ:Int)==(y.typ:Int))=true:=by simp [htyp]
         obtain rfl:R=false:=by
          rw [HPQ.out,hsg,hfin2.out (by rw [HST.out];unfold pTyp;simp [htyp])]
          try simp
         clear htyp hsg HPQ HPR hfin1 hfin2 HT HKT
         go_wp2_with fail
         go_quiet (fail)
         go_wp2_with fail
         go_ret
         exact ⟨rfl,HBk.out.trans (drewN_below _)⟩
        ·
         have et:((x.typ:Int)==(y.typ:Int))=false:=by simp;omega
         have hno:(l.take k).any (pTyp x.typ)=false:=by
          cases hh:(l.take k).any (pTyp x.typ) with
          | false=>rfl
          | true=>have:=HKT.out hh;rw [hsg] at this;cases this
         have HT2':(l.take (k+1)).any (pTyp x.typ)=false:=by rw [HST.out,hno,Bool.false_or];unfold pTyp;simpa using htyp
         have HT3:=hid HT2'
         clear hno HT2' htyp hsg
         have HT2:Hid ((singB x.typ&&(l.take (k+1)).any (pTyp x.typ))=false):=by show _=_;rw [HT3.out];simp
         clear HPQ HPR hfin1 hfin2 HT HKT HST HSN
         go_wp2_with fail
         go_quiet (fail)
         go_wp2_with fail
         go_roundw
         case rel=>exact ⟨k+1,by have:=HKI.out;omega,by go_num,HBk.out.trans (drewN_below _),HN2.out,HT2.out⟩
         case measure=>simp [intOf];have:=HKI.out;omega
       have t7:((x.typ:Int)==7)=false:=by simp;omega
       by_cases q6:x.typ=6
       ·
        have t6:((x.typ:Int)==6)=true:=by simp;omega
        have hsg:singB x.typ=true:=by unfold singB;simp only [Bool.or_eq_true,decide_eq_true_eq];omega
        by_cases htyp:y.typ=x.typ
        ·
         have et:((x.typ:Int)==(y.typ:Int))=true:=by simp [htyp]
         obtain rfl:R=false:=by
          rw [HPQ.out,hsg,hfin2.out (by rw [HST.out];unfold pTyp;simp [htyp])]
          try simp
         clear htyp hsg HPQ HPR hfin1 hfin2 HT HKT
         go_wp2_with fail
         go_quiet (fail)
         go_wp2_with fail
         go_ret
         exact ⟨rfl,HBk.out.trans (drewN_below _)⟩
        ·
         have et:((x.typ:Int)==(y.typ:Int))=false:=by simp;omega
         have hno:(l.take k).any (pTyp x.typ)=false:=by
          cases hh:(l.take k).any (pTyp x.typ) with
          | false=>rfl
          | true=>have:=HKT.out hh;rw [hsg] at this;cases this
         have HT2':(l.take (k+1)).any (pTyp x.typ)=false:=by rw [HST.out,hno,Bool.false_or];unfold pTyp;simpa using htyp
         have HT3:=hid HT2'
         clear hno HT2' htyp hsg
         have HT2:Hid ((singB x.typ&&(l.take (k+1)).any (pTyp x.typ))=false):=by show _=_;rw [HT3.out];simp
         clear HPQ HPR hfin1 hfin2 HT HKT HST HSN
         go_wp2_with fail
         go_quiet (fail)
         go_wp2_with fail
         go_roundw
         case rel=>exact ⟨k+1,by have:=HKI.out;omega,by go_num,HBk.out.trans (drewN_below _),HN2.out,HT2.out⟩
         case measure=>simp [intOf];have:=HKI.out;omega
       have t6:((x.typ:Int)==6)=false:=by simp;omega
       have HT2:Hid ((singB x.typ&&(l.take (k+1)).any (pTyp x.typ))=false):=by show _=_;unfold singB;simp [q10,q7,q6]
       clear HPQ HPR hfin1 hfin2 HT HKT HST HSN
       go_wp2_with fail
       go_quiet (fail)
       go_wp2_with fail
       go_roundw
       case rel=>exact ⟨k+1,by have:=HKI.out;omega,by go_num,HBk.out.trans (drewN_below _),HN2.out,HT2.out⟩
       case measure=>simp [intOf];have:=HKI.out;omega
     ·
      obtain rfl:k=i:=by omega
      have hkk:¬ (k:Int)<(k:Int):=by omega
      have HF:Hid (R'=R):=by show _=_;rw [HPQ.out,HN.out,HT.out];rfl
      have HF2:Hid (frm (l.take (k+1)) (l.drop (k+1))=R):=by show _=_;rw [← HR'.out];exact HF.out
      clear HPQ HPR HT HN
      go_wp2_with fail
      go_roundw
      case rel=>exact ⟨k+1,by have:=HLT.out;omega,by go_num,HBk.out,HF2.out⟩
      case measure=>simp [intOf];have:=HLT.out;omega
   case true.true =>
    have HPQ:Hid (R=((!((l.take i).any (pNum x.num)))&&((!(singB x.typ&&(l.take i).any (pTyp x.typ)))&&R'))):=by show _=_;rw [HPR.out];rfl
    go_wp2_with fail
    clear g0 g1
    go_loopw [5] (fun v wl=>∃ k:Nat,k≤i∧v=.int .i64 (k:Int)∧Hid (Below w.heap.size w wl)∧Hid ((l.take k).any (pNum x.num)=false)∧Hid ((singB x.typ&&(l.take k).any (pTyp x.typ))=false)) (fun v _=>i - (intOf v).toNat)
    case atStart=>exact ⟨0,Nat.zero_le _,rfl,B1.out,by show _=_;simp,by show _=_;simp⟩
    case round =>
     obtain ⟨k,hk,rfl,HBk,HN,HT⟩:=hrel
     by_cases hlt:k<i
     ·
      have hkl:k<l.length:=by rw [HL.out];have:=HLT.out;omega
      obtain ⟨A2,nd2,cd2,hk2⟩:=HK.out wr HBk.out k hkl
      obtain ⟨g0,g1⟩:=HXT.out wr HBk.out
      have y0:=hk2.k0
      have y1:=hk2.k1
      have hsN:=any_step l (pNum x.num) k hkl
      have hsT:=any_step l (pTyp x.typ) k hkl
      rw [HN.out,Bool.false_or] at hsN
      generalize l[k]=y at *
      have hkk:(k:Int)<(i:Int):=by omega
      have hkn:(k:Int)<(n:Int):=by have:=HLT.out;omega
      have HSN:=hid hsN
      have HST:=hid hsT
      have HKI:=hid hlt
      have HKT:Hid ((l.take k).any (pTyp x.typ)=true→singB x.typ=false):=fun hh=>by have:=HT.out;rw [hh,Bool.and_true] at this;exact this
      have hfin1:Hid ((l.take (k+1)).any (pNum x.num)=true→(l.take i).any (pNum x.num)=true):=fun hh=>by
       rw [List.any_eq_true] at hh ⊢
       obtain ⟨z,hz,hz2⟩:=hh
       exact ⟨z,(List.take_subset_take_left l (show k+1≤i by have:=HKI.out;omega)) hz,hz2⟩
      have hfin2:Hid ((l.take (k+1)).any (pTyp x.typ)=true→(l.take i).any (pTyp x.typ)=true):=fun hh=>by
       rw [List.any_eq_true] at hh ⊢
       obtain ⟨z,hz,hz2⟩:=hh
       exact ⟨z,(List.take_subset_take_left l (show k+1≤i by have:=HKI.out;omega)) hz,hz2⟩
      clear hsN hsT hk2 hkl hlt
      by_cases hnum:y.num=x.num
      ·
       -- one number
       have en:((x.num:Int)==(y.num:Int))=true:=by simp [hnum]
       obtain rfl:R=false:=by
        rw [HPQ.out,hfin1.out (by rw [HSN.out];unfold pNum;simp [hnum])]
        rfl
       clear hnum
       have q1:x.typ=1:=by have:=hbt;simp at this;omega
       have q10:¬ x.typ=10:=by omega
       have t10:((x.typ:Int)==10)=false:=by simp;omega
       have q7:¬ x.typ=7:=by omega
       have t7:((x.typ:Int)==7)=false:=by simp;omega
       have q6:¬ x.typ=6:=by omega
       have t6:((x.typ:Int)==6)=false:=by simp;omega
       clear HPQ HPR hfin1 hfin2 HT HKT
       go_wp2_with fail
       go_quiet (fail)
       go_wp2_with fail
       go_ret
       exact ⟨rfl,HBk.out.trans (drewN_below _)⟩
      ·
       have en:((x.num:Int)==(y.num:Int))=false:=by simp;omega
       have HN2:Hid ((l.take (k+1)).any (pNum x.num)=false):=by show _=_;rw [HSN.out];unfold pNum;simpa using hnum
       clear hnum
       have q1:x.typ=1:=by have:=hbt;simp at this;omega
       have q10:¬ x.typ=10:=by omega
       have t10:((x.typ:Int)==10)=false:=by simp;omega
       have q7:¬ x.typ=7:=by omega
       have t7:((x.typ:Int)==7)=false:=by simp;omega
       have q6:¬ x.typ=6:=by omega
       have t6:((x.typ:Int)==6)=false:=by simp;omega
       have HT2:Hid ((singB x.typ&&(l.take (k+1)).any (pTyp x.typ))=false):=by show _=_;unfold singB;simp [q10,q7,q6]
       clear HPQ HPR hfin1 hfin2 HT HKT HST HSN
       go_wp2_with fail
       go_quiet (fail)
       go_wp2_with fail
       go_roundw
       case rel=>exact ⟨k+1,by have:=HKI.out;omega,by go_num,HBk.out.trans (drewN_below _),HN2.out,HT2.out⟩
       case measure=>simp [intOf];have:=HKI.out;omega
     ·
      obtain rfl:k=i:=by omega
      have hkk:¬ (k:Int)<(k:Int):=by omega
      have HF:Hid (R'=R):=by show _=_;rw [HPQ.out,HN.out,HT.out];rfl
      have HF2:Hid (frm (l.take (k+1)) (l.drop (k+1))=R):=by show _=_;rw [← HR'.out];exact HF.out
      clear HPQ HPR HT HN
      go_wp2_with fail
      go_roundw
      case rel=>exact ⟨k+1,by have:=HLT.out;omega,by go_num,HBk.out,HF2.out⟩
      case measure=>simp [intOf];have:=HLT.out;omega
  ·
   obtain rfl:i=n:=by omega
   have hii:¬ (i:Int)<(i:Int):=by omega
   have hp:=HP.out
   rw [List.drop_of_length_le (by rw [HL.out];exact Nat.le_refl _),frm] at hp
   subst hp
   go_wp2_with fail
   go_ret
   exact ⟨rfl,HB.out⟩
end Go.Proofs.YtlecbblmaadpiaaGreatDoor
