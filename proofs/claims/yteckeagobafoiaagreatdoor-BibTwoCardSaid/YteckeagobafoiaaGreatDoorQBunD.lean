import Derived.Test.YteckeagobafoiaaGreatDoorQBunC
namespace Go.Proofs.YteckeagobafoiaaGreatDoor
set_option maxRecDepth 100000
set_option maxHeartbeats 16000000
open Go.RowKit
open Go.Lib (hid)
theorem size_blk (W:World):(sizeOf 63).run Tryz.prog W=.ok 5 W:=Tryz.sizeOf63 W
theorem kcut_h (A:Option Addr) (n c k:Nat) (hk:k≤n) (hc:n≤c) (h0:0<c) (W:World):(Instr.slice 26 (.slice A n c) none (some (.int .i64 (k:Int))) none).run Tryz.prog W=.ok (.slice A k c) W:=by
 have hz:=size_blk
 have ht:=Tryz.underlying26
 have hkc:k≤c:=by omega
 have hne:¬ c=0:=by omega
 go_simp
theorem frm_step (l:List Blk) (i n:Nat) (hn:l.length=n) (hi:i<n) :
  frm (l.take i) (l.drop i)=(blkOk (l[i]'(by omega))&&((decide ((l[i]'(by omega)).typ=1)==decide (i+1=n))&&((!((l.take i).any (pNum (l[i]'(by omega)).num)))&&((!(singB (l[i]'(by omega)).typ&&(l.take i).any (pTyp (l[i]'(by omega)).typ)))&&frm (l.take (i+1)) (l.drop (i+1)))))):=by
 have hil:i<l.length:=by omega
 rw [List.drop_eq_getElem_cons hil,frm,← List.take_succ_eq_append_getElem hil]
 have he:(l.drop (i+1)).isEmpty=decide (i+1=n):=by
  rw [Bool.eq_iff_iff,List.isEmpty_iff,List.drop_eq_nil_iff,decide_eq_true_eq]
  omega
 rw [he]
 rfl
theorem ucheckB_any (A:Option Addr) (n c B:Nat) (l:List Blk) (w:World) (h:RdL w B A n l) (hB:B≤w.heap.size) (hc:n≤c) :
  Calls Tryz.prog 143 #[.slice A n c] w (WhyU (if blksOk l=true then 0 else 60) w):=by
 have CN:=hid unone_any
 have hl:=h.1
 by_cases hn:1≤n∧n≤16
 ·
  obtain ⟨h1,h16⟩:=hn
  have hR0:blksOk l=frm [] l:=by unfold blksOk;rw [decide_eq_true (by omega),Bool.true_and]
  rw [hR0]
  obtain ⟨R,hR⟩:∃ R,R=frm [] l:=⟨_,rfl⟩
  rw [← hR]
  obtain ⟨Z,hZ⟩:∃ Z:Int,Z=if R=true then (0:Int) else 60:=⟨_,rfl⟩
  rw [← hZ]
  obtain ⟨M,hM⟩:∃ M,n=M+1:=⟨n - 1,by omega⟩
  have hM1:(n:Int) - 1=(M:Int):=by omega
  have HM:=hid hM
  have HH:=hid h
  have HB0:=hid hB
  have HR:=hid hR
  have HZ:=hid hZ
  have HC:=hid hc
  clear hR hZ h hB hM hc hR0 hl
  have t1:decide ((n:Int)<1)=false:=decide_eq_false (by omega)
  have t2:decide ((16:Int)<(n:Int))=false:=decide_eq_false (by omega)
  go_enter Tryz.func143,Tryz.ntmps143
  go_wp2_with fail
  go_loopw [21] (fun v wl=>∃ i:Nat,i≤n∧v=.int .i64 (i:Int)∧Hid (Below w.heap.size w wl)∧Hid (frm (l.take i) (l.drop i)=R)) (fun v _=>n - (intOf v).toNat)
  case atStart=>exact ⟨0,Nat.zero_le _,rfl,Below.refl _ _,HR.out.symm⟩
  case round =>
   obtain ⟨i,hi,rfl,HB,HP⟩:=hrel
   by_cases hlt:i<n
   ·
    have hil:i<l.length:=by rw [HH.out.1];exact hlt
    obtain ⟨b,o,hA,hbB,hks⟩:=HH.out.2.1 (by omega)
    obtain ⟨A1,nd,cd,hk⟩:=hks.get i hil
    have hk2:=hk.below (HB.out.mono HB0.out) hbB
    have hp:=frm_step l i n HH.out.1 hlt
    rw [HP.out] at hp
    have hcut:=kcut_h A n c i (Nat.le_of_lt hlt) HC.out (by have:=HC.out;omega)
    have hRL:RdL wr B A i (l.take i):=(HH.out.below (HB.out.mono HB0.out)).take i (Nat.le_of_lt hlt)
    generalize l[i]=x at *
    have g0:=hk2.k0
    have g1:=hk2.k1
    have g2:=hk2.k2
    have g3:=hk2.k3
    have g4:=hk2.k4
    have hBr:B≤wr.heap.size:=Nat.le_trans HB0.out HB.out.size
    have HS:Hid ((wr.alloc (.cells #[.int .u64 (x.typ:Int),.int .u64 (x.num:Int),.int .u64 (x.flg:Int),.int .i64 x.crc,.slice A1 nd cd] 63)).heap.size=wr.heap.size+1):=by show _=_;simp
    have HW0:Hid (Below (wr.heap.size+1) (wr.alloc (.cells #[.int .u64 (x.typ:Int),.int .u64 (x.num:Int),.int .u64 (x.flg:Int),.int .i64 x.crc,.slice A1 nd cd] 63)) (wr.alloc (.cells #[.int .u64 (x.typ:Int),.int .u64 (x.num:Int),.int .u64 (x.flg:Int),.int .i64 x.crc,.slice A1 nd cd] 63))):=Below.refl _ _
    have HX:=hid (fun (W:World) (hb:Below (wr.heap.size+1) (wr.alloc (.cells #[.int .u64 (x.typ:Int),.int .u64 (x.num:Int),.int .u64 (x.flg:Int),.int .i64 x.crc,.slice A1 nd cd] 63)) W)=>box5 rfl hb)
    have HBB:Hid (∀ W,Below (wr.heap.size+1) (wr.alloc (.cells #[.int .u64 (x.typ:Int),.int .u64 (x.num:Int),.int .u64 (x.flg:Int),.int .i64 x.crc,.slice A1 nd cd] 63)) W→Below wr.heap.size wr W):=fun W hb=>((Below.refl _ _).alloc (Nat.le_refl _) _).trans (hb.mono (Nat.le_succ _))
    have KB:=hid (fun W=>bccheck_any x.typ x.num x.flg x.crc A1 nd cd x.dat W hk.rd.1)
    have KP:=hid (fun (W:World) (hb:Below wr.heap.size wr W)=>place_any A i c B x.num (l.take i) W (hRL.below (hb.mono hBr)) (Nat.le_trans hBr hb.size))
    have KT:=hid (fun (W:World) (hb:Below wr.heap.size wr W)=>hastype_any A i c B x.typ (l.take i) W (hRL.below (hb.mono hBr)) (Nat.le_trans hBr hb.size))
    have KS:=hid (fun W=>single_any x.typ W)
    have eob:(⟨x.typ,x.num,x.flg,x.crc,x.dat⟩:Blk)=x:=rfl
    rw [eob] at KB
    have ha1:=plc_ge (pNum x.num) (l.take i) 0
    generalize plc (pNum x.num) (l.take i) 0=P at *
    generalize (l.take i).any (pNum x.num)=a1 at *
    generalize (l.take i).any (pTyp x.typ)=a2 at *
    generalize singB x.typ=s1 at *
    generalize blkOk x=o1 at *
    obtain ⟨R',hR'⟩:∃ R',R'=frm (l.take (i+1)) (l.drop (i+1)):=⟨_,rfl⟩
    rw [← hR'] at hp
    have HR':=hid hR'
    clear hR'
    have hbi:((i:Int)==(M:Int))=decide (i+1=n):=by rw [Bool.eq_iff_iff];simp;have:=HM.out;omega
    have hbt:((x.typ:Int)==1)=decide (x.typ=1):=by rw [Bool.eq_iff_iff];simp;omega
    generalize decide (i+1=n)=bi at *
    generalize decide (x.typ=1)=bt at *
    have HPR:=hid hp
    have HRL:=hid hRL
    clear hp hRL hk hk2 hks eob hbB hBr
    subst hA
    have fin:Hid (R=false→Z=60):=fun hr=>by rw [HZ.out,hr];rfl
    cases o1 with
    | false =>
     have hz:Z=60:=fin.out (by rw [HPR.out];rfl)
     clear fin HZ
     subst hz
     go_wp2_with (first
      | (go_at_call 181;refine (CN.out _ _).mono ?_;rintro e w1 ⟨rfl,rfl⟩)
      | (go_at_call 182;refine (KB.out _).mono ?_;rintro e w1 ⟨rfl,hb⟩;have HW1:=hid (Below.push HW0.out (Nat.le_of_eq HS.out.symm) hb);(try clear x0 x1 x2 x3 x4);clear hb HW0;obtain ⟨x0,x1,x2,x3,x4⟩:=HX.out _ HW1.out;have HW0:=HW1;clear HW1)
      | (go_at_call 147;refine (KP.out _ (HBB.out _ HW0.out)).mono ?_;rintro e w1 ⟨rfl,hb⟩;have HW1:=hid (Below.push HW0.out (Nat.le_of_eq HS.out.symm) hb);(try clear x0 x1 x2 x3 x4);clear hb HW0;obtain ⟨x0,x1,x2,x3,x4⟩:=HX.out _ HW1.out;have HW0:=HW1;clear HW1)
      | (go_at_call 183;refine (KS.out _).mono ?_;rintro e w1 ⟨rfl,rfl⟩)
      | (go_at_call 184;refine (KT.out _ (HBB.out _ HW0.out)).mono ?_;rintro e w1 ⟨rfl,hb⟩;have HW1:=hid (Below.push HW0.out (Nat.le_of_eq HS.out.symm) hb);(try clear x0 x1 x2 x3 x4);clear hb HW0;obtain ⟨x0,x1,x2,x3,x4⟩:=HX.out _ HW1.out;have HW0:=HW1;clear HW1)
      | fail)
     go_ret
     exact ⟨HB.out.trans ((HBB.out _ HW0.out).mono HB.out.size),.inr ⟨by decide,_,rfl⟩⟩
    | true =>
    cases bt <;> cases bi
    case false.true =>
     have hz:Z=60:=fin.out (by rw [HPR.out];rfl)
     clear fin HZ
     subst hz
     go_wp2_with (first
      | (go_at_call 181;refine (CN.out _ _).mono ?_;rintro e w1 ⟨rfl,rfl⟩)
      | (go_at_call 182;refine (KB.out _).mono ?_;rintro e w1 ⟨rfl,hb⟩;have HW1:=hid (Below.push HW0.out (Nat.le_of_eq HS.out.symm) hb);(try clear x0 x1 x2 x3 x4);clear hb HW0;obtain ⟨x0,x1,x2,x3,x4⟩:=HX.out _ HW1.out;have HW0:=HW1;clear HW1)
      | (go_at_call 147;refine (KP.out _ (HBB.out _ HW0.out)).mono ?_;rintro e w1 ⟨rfl,hb⟩;have HW1:=hid (Below.push HW0.out (Nat.le_of_eq HS.out.symm) hb);(try clear x0 x1 x2 x3 x4);clear hb HW0;obtain ⟨x0,x1,x2,x3,x4⟩:=HX.out _ HW1.out;have HW0:=HW1;clear HW1)
      | (go_at_call 183;refine (KS.out _).mono ?_;rintro e w1 ⟨rfl,rfl⟩)
      | (go_at_call 184;refine (KT.out _ (HBB.out _ HW0.out)).mono ?_;rintro e w1 ⟨rfl,hb⟩;have HW1:=hid (Below.push HW0.out (Nat.le_of_eq HS.out.symm) hb);(try clear x0 x1 x2 x3 x4);clear hb HW0;obtain ⟨x0,x1,x2,x3,x4⟩:=HX.out _ HW1.out;have HW0:=HW1;clear HW1)
      | fail)
     go_ret
     exact ⟨HB.out.trans ((HBB.out _ HW0.out).mono HB.out.size),.inr ⟨by decide,_,rfl⟩⟩
    case true.false =>
     have hz:Z=60:=fin.out (by rw [HPR.out];rfl)
     clear fin HZ
     subst hz
     go_wp2_with (first
      | (go_at_call 181;refine (CN.out _ _).mono ?_;rintro e w1 ⟨rfl,rfl⟩)
      | (go_at_call 182;refine (KB.out _).mono ?_;rintro e w1 ⟨rfl,hb⟩;have HW1:=hid (Below.push HW0.out (Nat.le_of_eq HS.out.symm) hb);(try clear x0 x1 x2 x3 x4);clear hb HW0;obtain ⟨x0,x1,x2,x3,x4⟩:=HX.out _ HW1.out;have HW0:=HW1;clear HW1)
      | (go_at_call 147;refine (KP.out _ (HBB.out _ HW0.out)).mono ?_;rintro e w1 ⟨rfl,hb⟩;have HW1:=hid (Below.push HW0.out (Nat.le_of_eq HS.out.symm) hb);(try clear x0 x1 x2 x3 x4);clear hb HW0;obtain ⟨x0,x1,x2,x3,x4⟩:=HX.out _ HW1.out;have HW0:=HW1;clear HW1)
      | (go_at_call 183;refine (KS.out _).mono ?_;rintro e w1 ⟨rfl,rfl⟩)
      | (go_at_call 184;refine (KT.out _ (HBB.out _ HW0.out)).mono ?_;rintro e w1 ⟨rfl,hb⟩;have HW1:=hid (Below.push HW0.out (Nat.le_of_eq HS.out.symm) hb);(try clear x0 x1 x2 x3 x4);clear hb HW0;obtain ⟨x0,x1,x2,x3,x4⟩:=HX.out _ HW1.out;have HW0:=HW1;clear HW1)
      | fail)
     go_ret
     exact ⟨HB.out.trans ((HBB.out _ HW0.out).mono HB.out.size),.inr ⟨by decide,_,rfl⟩⟩
    all_goals
     cases a1 with
     | true =>
      have hz:Z=60:=fin.out (by rw [HPR.out];rfl)
      clear fin HZ
      subst hz
      go_wp2_with (first
       | (go_at_call 181;refine (CN.out _ _).mono ?_;rintro e w1 ⟨rfl,rfl⟩)
       | (go_at_call 182;refine (KB.out _).mono ?_;rintro e w1 ⟨rfl,hb⟩;have HW1:=hid (Below.push HW0.out (Nat.le_of_eq HS.out.symm) hb);(try clear x0 x1 x2 x3 x4);clear hb HW0;obtain ⟨x0,x1,x2,x3,x4⟩:=HX.out _ HW1.out;have HW0:=HW1;clear HW1)
       | (go_at_call 147;refine (KP.out _ (HBB.out _ HW0.out)).mono ?_;rintro e w1 ⟨rfl,hb⟩;have HW1:=hid (Below.push HW0.out (Nat.le_of_eq HS.out.symm) hb);(try clear x0 x1 x2 x3 x4);clear hb HW0;obtain ⟨x0,x1,x2,x3,x4⟩:=HX.out _ HW1.out;have HW0:=HW1;clear HW1)
       | (go_at_call 183;refine (KS.out _).mono ?_;rintro e w1 ⟨rfl,rfl⟩)
       | (go_at_call 184;refine (KT.out _ (HBB.out _ HW0.out)).mono ?_;rintro e w1 ⟨rfl,hb⟩;have HW1:=hid (Below.push HW0.out (Nat.le_of_eq HS.out.symm) hb);(try clear x0 x1 x2 x3 x4);clear hb HW0;obtain ⟨x0,x1,x2,x3,x4⟩:=HX.out _ HW1.out;have HW0:=HW1;clear HW1)
       | fail)
      go_ret
      exact ⟨HB.out.trans ((HBB.out _ HW0.out).mono HB.out.size),.inr ⟨by decide,_,rfl⟩⟩
     | false =>
     cases s1 <;> cases a2
     case true.true =>
      have hz:Z=60:=fin.out (by rw [HPR.out];rfl)
      clear fin HZ
      subst hz
      go_wp2_with (first
       | (go_at_call 181;refine (CN.out _ _).mono ?_;rintro e w1 ⟨rfl,rfl⟩)
       | (go_at_call 182;refine (KB.out _).mono ?_;rintro e w1 ⟨rfl,hb⟩;have HW1:=hid (Below.push HW0.out (Nat.le_of_eq HS.out.symm) hb);(try clear x0 x1 x2 x3 x4);clear hb HW0;obtain ⟨x0,x1,x2,x3,x4⟩:=HX.out _ HW1.out;have HW0:=HW1;clear HW1)
       | (go_at_call 147;refine (KP.out _ (HBB.out _ HW0.out)).mono ?_;rintro e w1 ⟨rfl,hb⟩;have HW1:=hid (Below.push HW0.out (Nat.le_of_eq HS.out.symm) hb);(try clear x0 x1 x2 x3 x4);clear hb HW0;obtain ⟨x0,x1,x2,x3,x4⟩:=HX.out _ HW1.out;have HW0:=HW1;clear HW1)
       | (go_at_call 183;refine (KS.out _).mono ?_;rintro e w1 ⟨rfl,rfl⟩)
       | (go_at_call 184;refine (KT.out _ (HBB.out _ HW0.out)).mono ?_;rintro e w1 ⟨rfl,hb⟩;have HW1:=hid (Below.push HW0.out (Nat.le_of_eq HS.out.symm) hb);(try clear x0 x1 x2 x3 x4);clear hb HW0;obtain ⟨x0,x1,x2,x3,x4⟩:=HX.out _ HW1.out;have HW0:=HW1;clear HW1)
       | fail)
      go_ret
      exact ⟨HB.out.trans ((HBB.out _ HW0.out).mono HB.out.size),.inr ⟨by decide,_,rfl⟩⟩
     all_goals
      have HRR:Hid (frm (l.take (i+1)) (l.drop (i+1))=R):=by show _=_;rw [HPR.out,← HR'.out];rfl
      clear fin
      go_wp2_with (first
       | (go_at_call 181;refine (CN.out _ _).mono ?_;rintro e w1 ⟨rfl,rfl⟩)
       | (go_at_call 182;refine (KB.out _).mono ?_;rintro e w1 ⟨rfl,hb⟩;have HW1:=hid (Below.push HW0.out (Nat.le_of_eq HS.out.symm) hb);(try clear x0 x1 x2 x3 x4);clear hb HW0;obtain ⟨x0,x1,x2,x3,x4⟩:=HX.out _ HW1.out;have HW0:=HW1;clear HW1)
       | (go_at_call 147;refine (KP.out _ (HBB.out _ HW0.out)).mono ?_;rintro e w1 ⟨rfl,hb⟩;have HW1:=hid (Below.push HW0.out (Nat.le_of_eq HS.out.symm) hb);(try clear x0 x1 x2 x3 x4);clear hb HW0;obtain ⟨x0,x1,x2,x3,x4⟩:=HX.out _ HW1.out;have HW0:=HW1;clear HW1)
       | (go_at_call 183;refine (KS.out _).mono ?_;rintro e w1 ⟨rfl,rfl⟩)
       | (go_at_call 184;refine (KT.out _ (HBB.out _ HW0.out)).mono ?_;rintro e w1 ⟨rfl,hb⟩;have HW1:=hid (Below.push HW0.out (Nat.le_of_eq HS.out.symm) hb);(try clear x0 x1 x2 x3 x4);clear hb HW0;obtain ⟨x0,x1,x2,x3,x4⟩:=HX.out _ HW1.out;have HW0:=HW1;clear HW1)
       | fail)
      go_roundw
      case rel=>exact ⟨i+1,by omega,by go_num,HB.out.trans ((HBB.out _ HW0.out).mono HB.out.size),HRR.out⟩
      case measure=>simp [intOf];omega
   ·
    obtain rfl:i=n:=by omega
    have hr:R=true:=by
     rw [← HP.out,List.drop_eq_nil_of_le (by rw [HH.out.1];exact Nat.le_refl _)];rfl
    have hz:Z=0:=by rw [HZ.out,hr];rfl
    clear HZ
    subst hz
    have HBE:=hid HB.out
    go_wp2_with fail
    go_ret
    exact ⟨HBE.out,.inl ⟨rfl,rfl⟩⟩
 ·
  have hb:blksOk l=false:=by unfold blksOk;rw [decide_eq_false (by omega),Bool.false_and]
  rw [hb,if_neg (by decide)]
  clear hb hB hc
  by_cases h0:n<1
  ·
   have t1:decide ((n:Int)<1)=true:=decide_eq_true (by omega)
   clear hn h h0 hl
   go_enter Tryz.func143,Tryz.ntmps143
   go_wp2_with (first
    | (go_at_call 181;refine (CN.out _ _).mono ?_;rintro e w1 ⟨rfl,rfl⟩)
    | fail)
   go_ret
   exact ⟨Below.refl _ _,.inr ⟨by decide,_,rfl⟩⟩
  ·
   have t1:decide ((n:Int)<1)=false:=decide_eq_false (by omega)
   have t2:decide ((16:Int)<(n:Int))=true:=decide_eq_true (by omega)
   clear hn h h0 hl
   go_enter Tryz.func143,Tryz.ntmps143
   go_wp2_with (first
    | (go_at_call 181;refine (CN.out _ _).mono ?_;rintro e w1 ⟨rfl,rfl⟩)
    | fail)
   go_ret
   exact ⟨Below.refl _ _,.inr ⟨by decide,_,rfl⟩⟩
theorem ucheck_any (S:Snt) (h:BH) (l:List Blk) (A:Option Addr) (n c B:Nat) (w:World) (hS:Wd S w) (hd:h.Bd) (hr:RdL w B A n l) (hB:B≤w.heap.size) (hc:n≤c) :
  Calls Tryz.prog 87 #[bunV h A n c] w (WhyU (cauU (h.bun l)) w):=by
 have HB0:=hid ((Below.refl w.heap.size w).alloc (Nat.le_refl _) (.cells #[.int .u64 (h.flg:Int),.int .i64 h.crc,.int .i64 h.dsc,.string h.dnm,.int .u64 (h.dn:Int),.int .u64 (h.dv:Int),.int .i64 h.ssc,.string h.snm,.int .u64 (h.sn:Int),.int .u64 (h.sv:Int),.int .i64 h.rsc,.string h.rnm,.int .u64 (h.rn:Int),.int .u64 (h.rv:Int),.int .u64 (h.tim:Int),.int .u64 (h.seq:Int),.int .u64 (h.lif:Int),.slice A n c] 28))
 have CP:=hid (ucheckP_any S h l A n c (w.alloc (.cells #[.int .u64 (h.flg:Int),.int .i64 h.crc,.int .i64 h.dsc,.string h.dnm,.int .u64 (h.dn:Int),.int .u64 (h.dv:Int),.int .i64 h.ssc,.string h.snm,.int .u64 (h.sn:Int),.int .u64 (h.sv:Int),.int .i64 h.rsc,.string h.rnm,.int .u64 (h.rn:Int),.int .u64 (h.rv:Int),.int .u64 (h.tim:Int),.int .u64 (h.seq:Int),.int .u64 (h.lif:Int),.slice A n c] 28)) (hS.alloc _) hd)
 have CB:=hid (fun (W:World) (hb:Below w.heap.size w W)=>ucheckB_any A n c B l W (hr.below (hb.mono hB)) (Nat.le_trans hB hb.size) hc)
 obtain ⟨Z,hZ⟩:∃ Z,Z=cauU (h.bun l):=⟨_,rfl⟩
 rw [← hZ]
 have hZ2:Z=if fragB h.flg=true then 62 else if primOk (h.bun l)=true∧blksOk l=true then 0 else 60:=hZ
 have q1:=fun (W:World) (u:TypeId) (x:Value)=>run_neq_iface_nil (P:=Tryz.prog) (w:=W) 78 (by kernel_rfl) u x
 have hfr:(bits BinOp.and IntKind.u64 (h.flg:Int) 1 != 0)=fragB h.flg:=rfl
 generalize primOk (h.bun l)=p at *
 generalize blksOk l=b at *
 generalize fragB h.flg=f at *
 clear hZ hS hr hB hc hd
 unfold bunV at *
 cases f with
 | true =>
  have hz:Z=62:=hZ2
  clear hZ2 CP CB
  subst hz
  go_enter Tryz.func87,Tryz.ntmps87
  go_wp2_with fail
  go_ret
  exact ⟨HB0.out,.inr ⟨by decide,_,rfl⟩⟩
 | false =>
 cases p with
 | false =>
  have hz:Z=60:=by rw [hZ2];simp
  clear hZ2 CB
  subst hz
  go_enter Tryz.func87,Tryz.ntmps87
  go_wp2_with fail
  refine CP.out.mono ?_
  rintro e w1 ⟨hb,⟨h0,-⟩|⟨-,s,rfl⟩⟩
  ·
   exact absurd h0 (by decide)
  have HB1:=hid (HB0.out.trans (hb.mono (le_alloc _ _)))
  clear hb
  unfold ufl at *
  go_wp2_with fail
  go_ret
  exact ⟨HB1.out,.inr ⟨by decide,_,rfl⟩⟩
 | true =>
  have hz:Z=if b=true then 0 else 60:=by rw [hZ2];cases b <;> rfl
  clear hZ2
  rw [← hz] at CB
  clear hz
  go_enter Tryz.func87,Tryz.ntmps87
  go_wp2_with fail
  refine CP.out.mono ?_
  rintro e w1 ⟨hb,⟨-,rfl⟩|⟨h0,-⟩⟩
  case inr=>exact absurd rfl h0
  have HB1:=hid (HB0.out.trans (hb.mono (le_alloc _ _)))
  obtain ⟨x0,x1,x2,x3,x4,x5,x6,x7,x8,x9,x10,x11,x12,x13,x14,x15,x16,x17⟩:=box18 rfl (hb.mono (show w.heap.size+1≤_ by simp))
  clear hb
  go_wp2_with fail
  refine (CB.out _ HB1.out).mono ?_
  rintro e w2 ⟨hb,hcase⟩
  have HB2:=hid (HB1.out.trans (hb.mono HB1.out.size))
  clear hb x0 x1 x2 x3 x4 x5 x6 x7 x8 x9 x10 x11 x12 x13 x14 x15 x16 x17
  obtain ⟨h0,rfl⟩|⟨h0,s,rfl⟩:=hcase
  ·
   have HE:=hid h0
   clear h0
   go_wp2_with fail
   go_ret
   exact ⟨HB2.out,.inl ⟨HE.out,rfl⟩⟩
  ·
   have HE:=hid h0
   clear h0
   go_wp2_with fail
   go_ret
   exact ⟨HB2.out,.inr ⟨HE.out,s,rfl⟩⟩
theorem ucCheck_any (S:Snt) (h:BH) (l:List Blk) (A:Option Addr) (n c B:Nat) (w:World) (hS:Wd S w) (hd:h.Bd) (hr:RdL w B A n l) (hB:B≤w.heap.size) (hc:n≤c) :
  Calls Tryz.prog 46 #[bunV h A n c] w fun e w'=>e=.returned (.int .i64 (cauU (h.bun l)))∧Below w.heap.size w w':=by
 have HB0:=hid ((Below.refl w.heap.size w).alloc (Nat.le_refl _) (.cells #[.int .u64 (h.flg:Int),.int .i64 h.crc,.int .i64 h.dsc,.string h.dnm,.int .u64 (h.dn:Int),.int .u64 (h.dv:Int),.int .i64 h.ssc,.string h.snm,.int .u64 (h.sn:Int),.int .u64 (h.sv:Int),.int .i64 h.rsc,.string h.rnm,.int .u64 (h.rn:Int),.int .u64 (h.rv:Int),.int .u64 (h.tim:Int),.int .u64 (h.seq:Int),.int .u64 (h.lif:Int),.slice A n c] 28))
 have C1:=hid (ucheck_any S h l A n c B (w.alloc (.cells #[.int .u64 (h.flg:Int),.int .i64 h.crc,.int .i64 h.dsc,.string h.dnm,.int .u64 (h.dn:Int),.int .u64 (h.dv:Int),.int .i64 h.ssc,.string h.snm,.int .u64 (h.sn:Int),.int .u64 (h.sv:Int),.int .i64 h.rsc,.string h.rnm,.int .u64 (h.rn:Int),.int .u64 (h.rv:Int),.int .u64 (h.tim:Int),.int .u64 (h.seq:Int),.int .u64 (h.lif:Int),.slice A n c] 28)) (hS.alloc _) hd (hr.below (HB0.out.mono hB)) (Nat.le_trans hB (le_alloc _ _)) hc)
 have hcz:cauU (h.bun l)=0∨numZ (cauU (h.bun l))=cauU (h.bun l):=by
  unfold cauU
  split
  ·
   exact .inr rfl
  ·
   split
   ·
    exact .inl rfl
   ·
    exact .inr rfl
 generalize cauU (h.bun l)=Z at *
 clear hS hd hr hB hc
 unfold bunV at *
 go_enter Tryz.func46,Tryz.ntmps46
 go_wp2_with fail
 refine C1.out.mono ?_
 rintro e w1 ⟨hb,⟨rfl,rfl⟩|⟨h0,s,rfl⟩⟩
 ·
  have HB1:=hid (HB0.out.trans (hb.mono (le_alloc _ _)))
  clear hb hcz
  have CN:=hid unumber_nil
  go_wp2_with fail
  refine (CN.out _).mono ?_
  rintro e w2 ⟨rfl,rfl⟩
  go_wp2_with fail
  go_ret
  exact ⟨rfl,HB1.out⟩
 ·
  have HB1:=hid (HB0.out.trans (hb.mono (le_alloc _ _)))
  have CN:=hid (fun W=>unumber_any Z s W)
  rw [hcz.resolve_left h0] at CN
  clear hb hcz h0
  go_wp2_with fail
  refine (CN.out _).mono ?_
  rintro e w2 ⟨rfl,hb⟩
  have HB2:=hid (HB1.out.trans (hb.mono HB1.out.size))
  clear hb
  go_wp2_with fail
  go_ret
  exact ⟨rfl,HB2.out⟩
end Go.Proofs.YteckeagobafoiaaGreatDoor
